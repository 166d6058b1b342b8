import Derived.Test.YtfkflljplohhcaaGreatDoorMd
set_option maxHeartbeats 8000000
set_option maxRecDepth 100000
namespace Go.Proofs.YtfkflljplohhcaaGreatDoor
open Go.RowKit
set_option linter.unusedVariables false
theorem Zha {w0:World} {Z:Mz} {S Ex:Nat->Prop} {Lb Sb Sk:Nat} {x:Pm} {i:Nat} (hZ:Ms Z) (hE:Zdy Z i) (hF:ZcB Z S (i + 1)) (hOk:OkX Z.u.size 0 Z.G (Z.X i)) (hk:x.1.kids = [(i:Int)]) (n:Nat):ZsM w0 Z S Ex Lb Sb Sk x i n:=by
 induction n with
 | zero=>intro w lv M sn p left gv ef hs how hgr hp hn; omega
 | succ n ih=>exact Zf3 hZ hE hF hOk hk ih
theorem Znd {Z:Mz} (hZ:Ms Z) {i:Nat} (hi:i < Z.ps.length) {c:Pc} (hc:Z.ps[i]? = some c) (hkind:c.kind=4) (hE :∀j,j < i->Zdy Z j):Zgp Z i:=by
 intro w S Ex p hM hF hX hp;have hu:=hZ.u200;have hfew:=hZ.few;have hLl:Z.L.length=Z.ps.length:=by rw [<- hZ.lps,List.length_map]
 have hlt:i < Z.L.length:=by omega
 obtain ⟨gp,cp,hpv,hgp⟩:=ZT hM.pcs.row (by omega);have hP0:Pcs w (.slice (some ⟨gp,0,none⟩) Z.L.length cp) Z.L:=by rw [<- hpv]; exact hM.pcs
 have hA:=JQ hP0 hlt;have how:=hM.pcs.rows _ (List.getElem_mem hlt);have hxe:(Z.L[i]'hlt).1=c:=by
  have h1:Z.ps[i]? = some (Z.L[i]'hlt).1:=by rw [<- hZ.lps,List.getElem?_map,List.getElem?_eq_getElem hlt]; rfl
  rw [hc] at h1;exact (Option.some.inj h1).symm
 have HXI:Hid (Z.X i=pcX Z.u c (fun k=>Z.X k.toNat)):=J3 hZ.vps hc;have hvp:=hZ.vps i c hc;have hset:=hZ.sets c (List.mem_of_getElem? hc);generalize Z.L[i]'hlt=x at hA how hxe;obtain ⟨c',sv,kv⟩:=x;simp only at hxe;subst hxe;obtain ⟨as1,cs1,he1⟩:=Zd how.1;obtain ⟨as2,cs2,he2⟩:=Zd how.2;simp only at he1 he2 hA;subst he1 he2;obtain ⟨q0,q1,q2,q3,q4,q5,q6⟩:=hA;obtain ⟨ck,cset,cm,cx,lz,cn,ckd⟩:=c';simp only at q0 q1 q2 q3 q4 q5 q6 hkind hvp hset how;subst hkind;have hiz:(i:Int) < (Z.L.length:Int):=by omega
 have m3:=hM.mc.c3;rw [hpv] at m3;have kA:Za N0_ w (w.alloc (.cells #[.int .i64 4,.slice as1 cset.length cs1,.int .i64 cm,.int .i64 cx,.bool lz,.int .i64 cn,.slice as2 ckd.length cs2] 114)):=(Za.refl _ _).alloc _;have hO1:(w.alloc (.cells #[.int .i64 4,.slice as1 cset.length cs1,.int .i64 cm,.int .i64 cx,.bool lz,.int .i64 cn,.slice as2 ckd.length cs2] 114)).heap[w.heap.size]? = some (.cells #[.int .i64 4,.slice as1 cset.length cs1,.int .i64 cm,.int .i64 cx,.bool lz,.int .i64 cn,.slice as2 ckd.length cs2] 114 (0,0)):=heap_alloc_new w _;have hem:=J4 hZ (hM.same kA) (fun k hk=>Nat.lt_of_lt_of_le (hX k hk) kA.size);have how1:=how.same kA;have HX:Hid (∀k,Ex k->k < w.heap.size):=hX;go_enter Tryz.func94,Tryz.ntmps94;go_upto_region 2 with fail;generalize w.alloc (.cells #[.int .i64 4,.slice as1 cset.length cs1,.int .i64 cm,.int .i64 cx,.bool lz,.int .i64 cn,.slice as2 ckd.length cs2] 114)=w1 at kA hO1 hem how1 ⊢;generalize w.heap.size=P1 at hO1 ⊢;clear q0 q1 q2 q3 q4 q5 q6 m3 hP0 hpv hgp how hX hM hc hlt hLl hiz;go_upto_region 3 with (first
  | (go_at_call 125; refine hem.mono ?_; rintro e w2 ⟨Lb,Sb,rfl,hW,hk2⟩))
 have hW2:Wp w1 Z S Ex Lb Sb (.slice none 0 0) [] P1 ({ kind:=4,set:=cset,min:=cm,max:=cx,lazy:=lz,num:=cn,kids:=ckd },.slice as1 cset.length cs1,.slice as2 ckd.length cs2) w2:=⟨hW,by rw [hk2.block P1 (lt_of_block hO1) id]; exact hO1,how1.same hk2⟩;clear hem hW hO1 how1 hk2;have x0:=hW2.x0;simp only at x0;obtain ⟨hk1,hm0,hm50,hmx,hx50⟩:=hvp.rep rfl;simp only at hk1 hm0 hm50 hmx hx50;obtain ⟨kk,rfl⟩:=List.length_eq_one_iff.1 hk1;have hkk:=hvp.kids kk (by simp);obtain ⟨j,rfl⟩:=Int.eq_ofNat_of_zero_le (show 0<=kk by omega);obtain ⟨m,rfl⟩:=Int.eq_ofNat_of_zero_le hm0;have hj:j < i:=by omega
 have hOk:=Zfp (u:=Z.u) hZ.vps j (by omega);have HXp:Hid (Z.X i p=ZkM Z.u.size { least:=m,most:=if cx < 0 then none else some cx.toNat,lazy:=lz } (Z.X j) p):=(by show _ = _; rw [HXI.out]; simp [pcX,Ztt]);simp only [List.length_singleton] at hW2 ⊢;obtain ⟨g2,cap2,hv2,hg2⟩:=ZT hW2.ow.2 (by simp);simp only [List.length_singleton,Value.slice.injEq] at hv2;obtain ⟨rfl,_,rfl⟩:=hv2;have hno:=Za7 hW2.wk.mi.mc hZ.g9;go_upto_region 40 with (first
  | (go_at_call 128; refine hno.mono ?_; rintro e w3 ⟨gv,rfl,hgv,hk3,-⟩; obtain ⟨ag,cg,rfl⟩:=Zd hgv))
 have kB:=hk3.trans ((Za.refl _ w3).alloc (.cells #[.int .i64 (p:Int),.slice ag Z.G cg] 161));have hW3:=hW2.same kB;have ho3:=Zip hgv p;have hb3:w1.heap.size<=w3.heap.size:=Nat.le_trans hW2.wk.kp.size hk3.size;generalize w3.alloc (.cells #[.int .i64 (p:Int),.slice ag Z.G cg] 161)=w4 at hW3 ho3 kB ⊢;generalize w3.heap.size=B0 at ho3 hb3 ⊢;clear hno hgv hk3 hW2 x0 kB hvp hset hkk hk1;go_wp2;go_loopg [16,17] (m + 1) (fun gl s16 s17 wr =>∃(a:Nat) (tv:Value) (La:En),a + gl=m + 1/\a<=m/\s16=tv/\s17 = .int .i64 (a:Int)/\Hid (La=Zfm [(p,eno)] (List.replicate a (Z.X j)))/\Qs wr Z.G tv La/\Wp w1 Z S Ex Lb Sb (.slice none 0 0) [] P1 ({ kind:=4,set:=cset,min:=(m:Int),max:=cx,lazy:=lz,num:=cn,kids := [(j:Int)] },.slice as1 cset.length cs1,.slice (some ⟨g2,0,none⟩) 1 cs2) wr)
 case atStart=>exact ⟨0,_,[(p,eno)],by omega,by omega,rfl,rfl,(by show _ = _; simp [Zfm]),ho3,hW3⟩
 case round =>
  clear hW3 ho3 hb3;obtain ⟨a,tv,La,hgl,ha,rfl,rfl,HLa,hta,hW⟩:=hrel;have HG:Hid (a + gk=m + 1):=hgl;clear hgl;obtain ⟨at5,ct5,htv⟩:=hta.form;subst htv;have hOkL:(∀e∈La,OkE Z.u.size 0 Z.G p e)/\(La.map (·.1)).Nodup:=by
   rw [HLa.out];exact ⟨ZcI (fun X hX=>by rw [List.eq_of_mem_replicate hX]; exact hOk) (fun e he=>by simp at he; subst he; exact ZaU (Nat.le_refl _) hp),Zce (by simp)⟩
  have hlen:=Zcs hOkL.2 (fun e he=>(hOkL.1 e he).2.1);have HIn:Hid (∀e∈La,e.1<=Z.u.size):=(by show∀_,_; exact fun e he=>(hOkL.1 e he).2.1);clear hOkL;have x2:=hW.x2; have x3:=hW.x3; have x6:=hW.x6;simp only at x2 x3 x6;have a0:wr.cell? ⟨g2,0,none⟩=some (.int .i64 (j:Int)):=by
   have:=hW.ow.2.cellAt 0 (by simp)
   simpa [Zgu] using this
  by_cases hlt:a < m
  ·have hz:(a:Int) < (m:Int):=by omega
   have hcall:=ZhS hZ (hE j hj) hW.wk.mi (fun j2 q2 h1 h2=>hF j2 q2 (by omega) h2) (fun k hk=>by
    rcases hk with hk | hk
    ·exact Nat.lt_of_lt_of_le (hW.wk.ex k hk) hW.wk.kp.size
    ·simp [Value.ownBlock] at hk) hta HIn.out (by omega) hOk
   go_wp2_with (first
    | (go_at_call 130; refine hcall.mono ?_; rintro en w6 ⟨v6,rfl,hv6,hx6,hm6,hk6⟩; obtain ⟨a6,c6,hv6f⟩:=hv6.form; subst hv6f))
   go_roundg (gk - 1)
   case measure=>have:=HG.out; omega
   case rel=>exact ⟨a + 1,_,_,by have:=HG.out; omega,by omega,rfl,congrArg (Value.int .i64) (by omega),(by show _ = _; rw [HLa.out,List.replicate_succ',Zfq]),hv6,hW.tabs (hW.wk.tabs hk6 hm6) hk6⟩
  ·obtain rfl:a=m:=by omega
   have c4:=hW.wk.mi.mc.c4;have hmk:=ZdZ ((Z.u.size + 1) * 52) (by omega)
   push_cast at hmk
   obtain ⟨lf,hlf⟩ :∃lf,(if cx < 0 then 51 else cx.toNat - a)=lf:=⟨_,rfl⟩;have hlfb:lf<=51:=by rw [<- hlf]; split <;> omega
   have HLF:Hid ((if cx < 0 then 51 else cx.toNat - a)=lf):=hlf;clear hlf;go_upto_region 45 with fail;have kA2:Za N0_ wr (wr.alloc (.cells (flv ((Z.u.size + 1) * 52) sno).toArray 4)):=(Za.refl _ _).alloc _;have hFl0:Bk (wr.alloc (.cells (flv ((Z.u.size + 1) * 52) sno).toArray 4)) wr.heap.size 4 (flv ((Z.u.size + 1) * 52) sno):=Qz wr _ _;have hW5:=hW.same kA2;have hta5:=hta.same kA2;have hs5:Fs w1 Z S Ex Lb Sb wr.heap.size (.slice none 0 0) [] (fun _ _=>false) (wr.alloc (.cells (flv ((Z.u.size + 1) * 52) sno).toArray 4)):=⟨hW5.wk,hFl0,hW.wk.kp.size,by have:=hW.wk.ll.lt2; omega⟩;have HP1:Hid (P1 < wr.heap.size):=(by show _ < _; exact lt_of_block hW.o);generalize wr.alloc (.cells (flv ((Z.u.size + 1) * 52) sno).toArray 4)=w7 at kA2 hFl0 hW5 hta5 hs5 ⊢;generalize wr.heap.size=Sk at hFl0 hs5 HP1 ⊢;clear kA2 hFl0 hW hta hmk x2 x3 x6 a0 c4;have x2:=hW5.x2; have x3:=hW5.x3;simp only at x2 x3;go_upto_if 194 with fail;go_cut [19] (fun s19 wc=>s19 = .int .i64 (lf:Int)/\w7=wc)
   case first =>
    by_cases hcx:cx < 0
    ·have hz1:¬ (0:Int)<=cx:=by omega
     have hl:lf=51:=by rw [<- HLF.out,if_pos hcx]
     subst hl;go_wp2_with fail;go_meet;exact ⟨rfl,rfl⟩
    ·have hz1:(0:Int)<=cx:=by omega
     have HL2:Hid ((lf:Int)=cx - (a:Int)):=(by show _ = _; rw [<- HLF.out,if_neg hcx]; omega);go_wp2_with fail;go_meet;exact ⟨by rw [HL2.out],rfl⟩
   case rest =>
    obtain ⟨rfl,rfl⟩:=hcut;have HRep:Hid (Z.X i p=dd sno (bnd La (fun q=>fu Z.u.size (Z.X j) lz lf q))):=(by
     show _ = _;rw [HXp.out,HLa.out];unfold ZkM Rp.left fu;simp only;rw [<- HLF.out]
     by_cases hcx:cx < 0
     ·simp [hcx]
     ·simp [hcx])
    clear HXp HLF x2 x3 HXI;have hfur:=Zha (w0:=w1) (Ex:=Ex) (Lb:=Lb) (Sb:=Sb) (Sk:=Sk) (x:=({ kind:=4,set:=cset,min:=(a:Int),max:=cx,lazy:=lz,num:=cn,kids := [(j:Int)] },.slice as1 cset.length cs1,.slice (some ⟨g2,0,none⟩) 1 cs2)) hZ (hE j hj) (fun j2 q2 h1 h2=>hF j2 q2 (by omega) h2) hOk rfl (Z.u.size + 1);unfold ZsM at hfur;simp only at hfur;have ho5:w7.heap[P1]? = some (.cells #[.int .i64 4,.slice as1 cset.length cs1,.int .i64 (a:Int),.int .i64 cx,.bool lz,.int .i64 cn,.slice (some ⟨g2,0,none⟩) 1 cs2] 114 (0,0)):=hW5.o;have how5:=hW5.ow;clear hW5;go_wp2;go_loopg [21,202] (La.length + 1) (fun gl _ s202 wi =>∃(b:Nat) (lw:Value) (M:En) (snb:Nat->Nat->Bool),b + gl=La.length + 1/\b<=La.length/\s202 = .int .i64 (b:Int)/\Hid (M=Qu [] (bnd (La.take b) (fun q=>fu Z.u.size (Z.X j) lz lf q)))/\Hid (Clo Z.u.size (Z.X j) lz snb M 0)/\Fs w1 Z S Ex Lb Sb Sk lw M snb wi/\Qs wi Z.G (.slice at5 La.length ct5) La/\(∀k,(Value.slice at5 La.length ct5).ownBlock=some k->lw.ownBlock≠some k)/\wi.heap[P1]? = some (.cells #[.int .i64 4,.slice as1 cset.length cs1,.int .i64 (a:Int),.int .i64 cx,.bool lz,.int .i64 cn,.slice (some ⟨g2,0,none⟩) 1 cs2] 114 (0,0))/\Je wi ({ kind:=4,set:=cset,min:=(a:Int),max:=cx,lazy:=lz,num:=cn,kids := [(j:Int)] },.slice as1 cset.length cs1,.slice (some ⟨g2,0,none⟩) 1 cs2))
    case atStart=>exact ⟨0,_,[],_,by omega,by omega,rfl,(by show _ = _; simp [bnd,Qu,dd]),(by show Clo _ _ _ _ _ _; exact fun q lf _ _ h=>by simp at h),hs5,hta5,fun k _ h=>by simp [Value.ownBlock] at h,ho5,how5⟩
    case round =>
     clear hs5 hta5 ho5 how5;obtain ⟨b,lw,M,snb,hgl2,hb,rfl,HM,HCl,hs,hta,htn,ho,how⟩:=hrel;have HG2:Hid (b + gk=La.length + 1):=hgl2;clear hgl2
     by_cases hlt2:b < La.length
     ·have hz2:(b:Int) < (La.length:Int):=by omega
      obtain ⟨g3,cap3,ah,ch,hv3,hg3,a0,a1,hgr⟩:=hta.at hlt2;simp only [Value.slice.injEq] at hv3;obtain ⟨rfl,_,rfl⟩:=hv3;have hqe:=HIn.out La[b] (List.getElem_mem hlt2);have HTq:Hid (bnd (La.take (b + 1)) (fun q=>fu Z.u.size (Z.X j) lz lf q)=bnd (La.take b) (fun q=>fu Z.u.size (Z.X j) lz lf q) ++ beh La[b] (fu Z.u.size (Z.X j) lz lf La[b].1)):=ZiC La _ b hlt2;generalize La[b]=f at a0 a1 hgr hqe HTq;obtain ⟨q,ef⟩:=f;simp only at a0 a1 hgr hqe HTq;have HMn:Hid (Qu M (beh (q,ef) (fu Z.u.size (Z.X j) lz lf q))=Qu [] (bnd (La.take (b + 1)) (fun q=>fu Z.u.size (Z.X j) lz lf q))):=(by show _ = _; rw [HTq.out,Qr,<- HM.out]);go_upto_region 51 with fail;have kB:Za N0_ wr (wr.alloc (.cells #[.int .i64 (q:Int),.slice ah Z.G ch] 161)):=(Za.refl _ _).alloc _;have hQ:Bk (wr.alloc (.cells #[.int .i64 (q:Int),.slice ah Z.G ch] 161)) wr.heap.size 161 [.int .i64 (q:Int),.slice ah Z.G ch]:=Qz wr _ _;have hs9:=hs.same kB;have hta9:=hta.same kB;have hg9:=hgr.same kB;have ho9:(wr.alloc (.cells #[.int .i64 (q:Int),.slice ah Z.G ch] 161)).heap[P1]? = some (.cells #[.int .i64 4,.slice as1 cset.length cs1,.int .i64 (a:Int),.int .i64 cx,.bool lz,.int .i64 cn,.slice (some ⟨g2,0,none⟩) 1 cs2] 114 (0,0)):=by rw [kB.block P1 (lt_of_block ho) id]; exact ho
      have how9:=how.same kB;generalize wr.alloc (.cells #[.int .i64 (q:Int),.slice ah Z.G ch] 161)=wa at kB hQ hs9 hta9 hg9 ho9 how9 ⊢;generalize wr.heap.size=Q at hQ ⊢;clear kB hs hta hgr a0 a1 hg3 ho how;have q0:wa.cell? ⟨Q,0,none⟩=some (.int .i64 (q:Int)):=by rw [hQ.cell]; rfl
      have q1:wa.cell? ⟨Q,1,none⟩=some (.slice ah Z.G ch):=by rw [hQ.cell]; rfl
      have x0:wa.cell? ⟨P1,0,none⟩=some (.int .i64 4):=by rw [Zc ho9]; rfl
      have x1:wa.cell? ⟨P1,1,none⟩=some (.slice as1 cset.length cs1):=by rw [Zc ho9]; rfl
      have x2:wa.cell? ⟨P1,2,none⟩=some (.int .i64 (a:Int)):=by rw [Zc ho9]; rfl
      have x3:wa.cell? ⟨P1,3,none⟩=some (.int .i64 cx):=by rw [Zc ho9]; rfl
      have x4:wa.cell? ⟨P1,4,none⟩=some (.bool lz):=by rw [Zc ho9]; rfl
      have x5:wa.cell? ⟨P1,5,none⟩=some (.int .i64 cn):=by rw [Zc ho9]; rfl
      have x6:wa.cell? ⟨P1,6,none⟩=some (.slice (some ⟨g2,0,none⟩) 1 cs2):=by rw [Zc ho9]; rfl
      have hcall:=hfur wa lw M snb q lf _ ef hs9 how9 hg9 hqe (by omega) hlfb (fun q2 l2 _ h2 h3=>HCl.out q2 l2 (by omega) h2 h3);go_wp2_with (first
       | (go_at_call 131; refine hcall.mono ?_; rintro en wy ⟨rfl,ly,sny,hsy,hny,hfy⟩; have hse:=hs9.sideE hfy hta9 htn))
      go_roundg (gk - 1)
      case measure=>have:=HG2.out; omega
      case rel=>exact ⟨b + 1,ly,_,sny,by have:=HG2.out; omega,by omega,congrArg (Value.int .i64) (by omega),HMn,Zix HCl.out hny,hsy,hse.1,hse.2,hs9.sideO hfy ho9 (by decide),⟨hs9.sideR hfy how9.1 (by decide),hs9.sideR hfy how9.2 (by decide)⟩⟩
     ·obtain rfl:b=La.length:=by omega
      have HMe:Hid (Z.X i p=M):=(by
       show _ = _;rw [HRep.out,HM.out,List.take_length,Zbd])
      obtain ⟨al,cl,hlw⟩:=hs.wk.ll.ends.form;subst hlw;have c1:=hs.wk.ll.c1;go_wp2;go_ret;exact Jo hs.wk kA HMe.out
def Knd (ps:List Pc):Prop :=∀c∈ps,1<=c.kind/\c.kind<=7
theorem Zan {a b:List Pc} (ha:Knd a) (hb:Knd b):Knd (a ++ b):=fun c hc=>(List.mem_append.1 hc).elim (ha c) (hb c)
theorem Zlp {fs:List Pf} (h :∀f∈fs,∀n,Knd (f n)) :∀n,Knd (cat fs n):=by
 induction fs with
 | nil=>intro n c h; simp [cat] at h
 | cons f fs ih =>
   intro n;simp only [cat];exact Zan (h f (by simp) n) (ih (fun g hg=>h g (by simp [hg])) _)
theorem Zbu {c:Pc} (h1:1<=c.kind) (h2:c.kind<=7):Knd [c]:=fun d hd=>by simp at hd; subst hd; exact ⟨h1,h2⟩
theorem Zsd {lo hi:Nat} {f:Pf} (h:Fg lo hi f) :∀n,Knd (f n) :=
 h (fun _ _ f =>∀n,Knd (f n))
   ⟨fun _ _ S n=>Zbu (by simp [Zau]) (by simp [Zau]),fun _ _ n=>Zbu (by decide) (by decide),fun _ _ n=>Zbu (by decide) (by decide),
    fun _ _ fs _ ih n=>Zan (Zlp ih n) (Zbu (by simp [ZI]) (by simp [ZI])),fun _ _ fs _ ih n=>Zan (Zlp ih n) (Zbu (by simp [ZI]) (by simp [ZI])),
    fun _ _ f a b lz _ _ _ _ ih n=>Zan (ih n) (Zbu (by simp) (by simp)),fun _ _ f _ ih n=>Zan (ih n) (Zbu (by simp) (by simp)),fun _ _ _ _ f _ _ ih=>ih⟩
theorem ZoK {Z:Mz} (hZ:Ms Z) (hK:Knd Z.ps) :∀i,i < Z.ps.length->Zdy Z i:=by
 intro i
 induction i using Nat.strongRecOn with
 | ind i ih =>
   intro hi;have hc:Z.ps[i]? = some Z.ps[i]:=List.getElem?_eq_getElem hi;have hE :∀j,j < i->Zdy Z j:=fun j hj=>ih j hj (by omega);refine Zf7 hZ hi ?_;have hk:=hK Z.ps[i] (List.getElem_mem hi)
   rcases (show Z.ps[i].kind=1\/Z.ps[i].kind=2\/Z.ps[i].kind=3\/Z.ps[i].kind=4\/Z.ps[i].kind=5\/Z.ps[i].kind=6\/Z.ps[i].kind=7 from by omega) with h | h | h | h | h | h | h
   ·exact Znb hZ hi hc h
   ·exact Znc hZ hi hc h hE
   ·exact Zng hZ hi hc h hE
   ·exact Znd hZ hi hc h hE
   ·exact Zne hZ hi hc h hE
   ·exact ZiN hZ hi hc h
   ·exact Znf hZ hi hc h
end Go.Proofs.YtfkflljplohhcaaGreatDoor
