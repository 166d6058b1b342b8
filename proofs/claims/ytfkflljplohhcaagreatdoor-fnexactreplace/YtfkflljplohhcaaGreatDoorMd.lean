import Derived.Test.YtfkflljplohhcaaGreatDoorMc
set_option maxHeartbeats 8000000
set_option maxRecDepth 100000
namespace Go.Proofs.YtfkflljplohhcaaGreatDoor
open Go.RowKit
set_option linter.unusedVariables false
structure Wq (w0:World) (Z:Mz) (S Ex:Nat->Prop) (P1:Nat) (x:Pm) (w:World):Prop where
 mi:MI w Z S Ex
 kp:Za (ExM Z) w0 w
 ex :∀k,Ex k->k < w0.heap.size
 o:w.heap[P1]? = some (.cells #[.int .i64 x.1.kind,x.2.1,.int .i64 x.1.min,.int .i64 x.1.max,.bool x.1.lazy,.int .i64 x.1.num,x.2.2] 114 (0,0))
 ow:Je w x
namespace Wq
variable {w0 w w':World} {Z:Mz} {S Ex:Nat->Prop} {P1:Nat} {x:Pm}
theorem same (h:Wq w0 Z S Ex P1 x w) (k:Za N0_ w w'):Wq w0 Z S Ex P1 x w':=⟨h.mi.same k,h.kp.trans (k.mono (fun _ _ h=>h.elim)),h.ex,by rw [k.block P1 (lt_of_block h.o) id]; exact h.o,h.ow.same k⟩
theorem tabs (h:Wq w0 Z S Ex P1 x w) (hm:MI w' Z S Ex) (k:Za (ExM Z) w w'):Wq w0 Z S Ex P1 x w' :=
 ⟨hm,h.kp.trans k,h.ex,by rw [k.block P1 (lt_of_block h.o) (h.mi.exM.not h.o (by decide))]; exact h.o,⟨Zb h.ow.1 k (h.mi.exM.own h.ow.1 (by decide)),Zb h.ow.2 k (h.mi.exM.own h.ow.2 (by decide))⟩⟩
theorem x6 (h:Wq w0 Z S Ex P1 x w):w.cell? ⟨P1,6,none⟩=some x.2.2:=by rw [Zc h.o]; rfl
end Wq
theorem Wp.q {w0 w:World} {Z:Mz} {S Ex:Nat->Prop} {Lb Sb P1:Nat} {lv:Value} {M:En} {x:Pm} (h:Wp w0 Z S Ex Lb Sb lv M P1 x w):Wq w0 Z S Ex P1 x w :=
 ⟨h.wk.mi.exc (fun k _ hk=>Or.inl hk),h.wk.kp,h.wk.ex,h.o,h.ow⟩
theorem Zip {w:World} {G:Nat} {gv:Value} {e:Ef} (hg:GrR w G gv e) (p:Nat):Qs (w.alloc (.cells #[.int .i64 (p:Int),gv] 161)) G (.slice (some ⟨w.heap.size,0,none⟩) 1 1) [(p,e)]:=by
 have hB:Bk (w.alloc (.cells #[.int .i64 (p:Int),gv] 161)) w.heap.size 161 [.int .i64 (p:Int),gv]:=Qz w _ _;refine ⟨fun _=>gv,hB.own (n:=1) (size:=2) rfl (by unfold maxLen; omega) (Nat.zero_le _),fun i hi=>?_⟩;simp at hi;subst hi;exact hg.same ((Za.refl _ _).alloc _)
theorem Zfq (L:En) (l:List Xs) (X:Xs):Zfm L (l ++ [X])=thn (Zfm L l) X:=by simp [Zfm]
theorem Zlz (l:List Int) (k:Nat) (h:k < l.length):(Zgu l)[k]? = some (.int .i64 l[k]):=by simp [Zgu,h]
theorem Znc {Z:Mz} (hZ:Ms Z) {i:Nat} (hi:i < Z.ps.length) {c:Pc} (hc:Z.ps[i]? = some c) (hkind:c.kind=2) (hE :∀j,j < i->Zdy Z j):Zgp Z i:=by
 intro w S Ex p hM hF hX hp;have hu:=hZ.u200;have hfew:=hZ.few;have hLl:Z.L.length=Z.ps.length:=by rw [<- hZ.lps,List.length_map]
 have hlt:i < Z.L.length:=by omega
 obtain ⟨gp,cp,hpv,hgp⟩:=ZT hM.pcs.row (by omega);have hP0:Pcs w (.slice (some ⟨gp,0,none⟩) Z.L.length cp) Z.L:=by rw [<- hpv]; exact hM.pcs
 have hA:=JQ hP0 hlt;have how:=hM.pcs.rows _ (List.getElem_mem hlt);have hxe:(Z.L[i]'hlt).1=c:=by
  have h1:Z.ps[i]? = some (Z.L[i]'hlt).1:=by rw [<- hZ.lps,List.getElem?_map,List.getElem?_eq_getElem hlt]; rfl
  rw [hc] at h1;exact (Option.some.inj h1).symm
 have HXI:Hid (Z.X i=pcX Z.u c (fun k=>Z.X k.toNat)):=J3 hZ.vps hc;have hvp:=hZ.vps i c hc;have hset:=hZ.sets c (List.mem_of_getElem? hc);generalize Z.L[i]'hlt=x at hA how hxe;obtain ⟨c',sv,kv⟩:=x;simp only at hxe;subst hxe;obtain ⟨as1,cs1,he1⟩:=Zd how.1;obtain ⟨as2,cs2,he2⟩:=Zd how.2;simp only at he1 he2 hA;subst he1 he2;obtain ⟨q0,q1,q2,q3,q4,q5,q6⟩:=hA;obtain ⟨ck,cset,cm,cx,lz,cn,ckd⟩:=c';simp only at q0 q1 q2 q3 q4 q5 q6 hkind hvp hset how;subst hkind;have hiz:(i:Int) < (Z.L.length:Int):=by omega
 have m3:=hM.mc.c3;rw [hpv] at m3;have kA:Za N0_ w (w.alloc (.cells #[.int .i64 2,.slice as1 cset.length cs1,.int .i64 cm,.int .i64 cx,.bool lz,.int .i64 cn,.slice as2 ckd.length cs2] 114)):=(Za.refl _ _).alloc _;have hO1:(w.alloc (.cells #[.int .i64 2,.slice as1 cset.length cs1,.int .i64 cm,.int .i64 cx,.bool lz,.int .i64 cn,.slice as2 ckd.length cs2] 114)).heap[w.heap.size]? = some (.cells #[.int .i64 2,.slice as1 cset.length cs1,.int .i64 cm,.int .i64 cx,.bool lz,.int .i64 cn,.slice as2 ckd.length cs2] 114 (0,0)):=heap_alloc_new w _;have hem:=J4 hZ (hM.same kA) (fun k hk=>Nat.lt_of_lt_of_le (hX k hk) kA.size);have how1:=how.same kA;have HX:Hid (∀k,Ex k->k < w.heap.size):=hX;go_enter Tryz.func94,Tryz.ntmps94;go_upto_region 2 with fail;generalize w.alloc (.cells #[.int .i64 2,.slice as1 cset.length cs1,.int .i64 cm,.int .i64 cx,.bool lz,.int .i64 cn,.slice as2 ckd.length cs2] 114)=w1 at kA hO1 hem how1 ⊢;generalize w.heap.size=P1 at hO1 ⊢;clear q0 q1 q2 q3 q4 q5 q6 m3 hP0 hpv hgp how hX hM hc hlt hLl hiz;go_upto_region 3 with (first
  | (go_at_call 125; refine hem.mono ?_; rintro e w2 ⟨Lb,Sb,rfl,hW,hk2⟩))
 have hW2:Wp w1 Z S Ex Lb Sb (.slice none 0 0) [] P1 ({ kind:=2,set:=cset,min:=cm,max:=cx,lazy:=lz,num:=cn,kids:=ckd },.slice as1 cset.length cs1,.slice as2 ckd.length cs2) w2:=⟨hW,by rw [hk2.block P1 (lt_of_block hO1) id]; exact hO1,how1.same hk2⟩;clear hem hW hO1 how1 hk2;have x0:=hW2.x0;simp only at x0;have HXp:Hid (Z.X i p=Zfm [(p,eno)] (ckd.map (fun k=>Z.X k.toNat))):=(by show _ = _; rw [HXI.out]; simp [pcX,ZpA]);have hno:=Za7 hW2.wk.mi.mc hZ.g9;go_upto_region 5 with (first
  | (go_at_call 128; refine hno.mono ?_; rintro e w3 ⟨gv,rfl,hgv,hk3,-⟩; obtain ⟨ag,cg,rfl⟩:=Zd hgv))
 have hq3:=hW2.q.same (hk3.trans ((Za.refl _ w3).alloc (.cells #[.int .i64 (p:Int),.slice ag Z.G cg] 161)));have ho3:=Zip hgv p;have hb3:w1.heap.size<=w3.heap.size:=Nat.le_trans hW2.wk.kp.size hk3.size;generalize w3.alloc (.cells #[.int .i64 (p:Int),.slice ag Z.G cg] 161)=w4 at hq3 ho3 ⊢;generalize w3.heap.size=B0 at ho3 hb3 ⊢;clear hno hgv hk3 hW2 x0;have x6:=hq3.x6;simp only at x6;have HOk:Hid (∀j,j < Z.ps.length->OkX Z.u.size 0 Z.G (Z.X j)):=(by show∀_,_; exact fun j hj=>Zfp hZ.vps j hj);have HKd:Hid (∀k∈ckd,(0:Int)<=k/\k < (i:Int)):=(by show∀_,_; intro k hk; have:=hvp.kids k hk; omega);have hckl:ckd.length<=1000:=hset.2;clear hvp hset;go_wp2;go_loopg [22,24,45] (ckd.length + 1) (fun gl s22 _ s45 wr =>∃(a:Nat) (tv:Value) (La:En),a + gl=ckd.length + 1/\a<=ckd.length/\s22=tv/\s45 = .int .i64 (a:Int)/\Hid (La=Zfm [(p,eno)] ((ckd.take a).map (fun k=>Z.X k.toNat)))/\Qs wr Z.G tv La/\(∀b,tv.ownBlock=some b->w1.heap.size<=b)/\Wq w1 Z S Ex P1 ({ kind:=2,set:=cset,min:=cm,max:=cx,lazy:=lz,num:=cn,kids:=ckd },.slice as1 cset.length cs1,.slice as2 ckd.length cs2) wr)
 case atStart=>exact ⟨0,_,[(p,eno)],by omega,by omega,rfl,rfl,(by show _ = _; simp [Zfm]),ho3,fun b hb=>by simp [Value.ownBlock] at hb; omega,hq3⟩
 case round =>
  clear hq3 ho3 hb3 x6;obtain ⟨a,tv,La,hgl,ha,rfl,rfl,HLa,hta,htb,hq⟩:=hrel;have HG:Hid (a + gk=ckd.length + 1):=hgl;clear hgl;obtain ⟨at5,ct5,htv⟩:=hta.form;subst htv
  by_cases hlt:a < ckd.length
  ·have hz:(a:Int) < (ckd.length:Int):=by omega
   obtain ⟨g2,cap2,hv2,hg2⟩:=ZT hq.ow.2 (by simp only; omega);simp only [Value.slice.injEq] at hv2;obtain ⟨rfl,_,rfl⟩:=hv2;have a0:=hq.ow.2.cellAt a (by omega);simp only at a0;rw [Zlz ckd a hlt] at a0;have hkk:=HKd.out ckd[a] (List.getElem_mem hlt);have HTk:Hid (Zfm [(p,eno)] ((ckd.take (a + 1)).map (fun k=>Z.X k.toNat))=thn (Zfm [(p,eno)] ((ckd.take a).map (fun k=>Z.X k.toNat))) (Z.X ckd[a].toNat)):=(by show _ = _; rw [QY ckd a hlt,List.map_append,List.map_singleton,Zfq]);generalize ckd[a]=kk at a0 hkk HTk;obtain ⟨j,rfl⟩:=Int.eq_ofNat_of_zero_le hkk.1;simp only [Int.toNat_natCast] at HTk;have hj:j < i:=by omega
   have hOkL:(∀e∈La,OkE Z.u.size 0 Z.G p e)/\(La.map (·.1)).Nodup:=by
    rw [HLa.out];refine ⟨ZcI (fun X hX=>?_) (fun e he=>by simp at he; subst he; exact ZaU (Nat.le_refl _) hp),Zce (by simp)⟩;obtain ⟨k,hk,rfl⟩:=List.mem_map.1 hX
    have:=HKd.out k (List.mem_of_mem_take hk)
    exact HOk.out _ (by omega)
   have hlen:=Zcs hOkL.2 (fun e he=>(hOkL.1 e he).2.1);have hcall:=ZhS hZ (hE j hj) hq.mi (fun j2 q2 h1 h2=>hF j2 q2 (by omega) h2) (fun k hk=>Nat.lt_of_lt_of_le (hq.ex k hk) hq.kp.size) hta (fun e he=>(hOkL.1 e he).2.1) (by omega) (HOk.out j (by omega));clear hOkL;go_wp2_with (first
    | (go_at_call 130; refine hcall.mono ?_; rintro en w6 ⟨v6,rfl,hv6,hx6,hm6,hk6⟩; obtain ⟨a6,c6,hv6f⟩:=hv6.form; subst hv6f))
   go_roundg (gk - 1)
   case measure=>have:=HG.out; omega
   case rel=>exact ⟨a + 1,_,_,by have:=HG.out; omega,by omega,rfl,congrArg (Value.int .i64) (by omega),(by show _ = _; rw [HTk.out,<- HLa.out]),hv6,fun b hb=>Nat.le_trans hq.kp.size (hx6 b hb).2,hq.tabs hm6 hk6⟩
  ·obtain rfl:a=ckd.length:=by omega
   have HLe:Hid (Z.X i p=La):=(by show _ = _; rw [HXp.out,HLa.out,List.take_length]);go_wp2;go_ret;refine ⟨_,rfl,by rw [HLe.out]; exact hta,fun b hb hx=>?_,hq.mi,(kA.mono (fun _ _ h=>h.elim)).trans hq.kp⟩;have h1:=htb b hb;have h2:=hq.ex b hx;omega
theorem ZkX {w:World} {base:Nat} {e:TypeId} {size n cap g:Nat} {xs:List Value} (h:w.ownsRow base e size (.slice (some ⟨g,0,none⟩) n cap) n xs) (j:Nat) (hj:j < n * size) (v:Value):(w.setCell ⟨g,j,none⟩ v).ownsRow base e size (.slice (some ⟨g,0,none⟩) n cap) n (xs.set j v):=by
 obtain ⟨h1,h2⟩:=h;refine ⟨by simpa using h1,Or.inr ?_⟩
 rcases h2 with ⟨h2,_⟩ | ⟨g',cap',cur,hv,hg,hh,hc,hm,hs,ht⟩
 ·simp at h2
 ·simp only [Value.slice.injEq,Option.some.injEq,Addr.mk.injEq,and_true,true_and] at hv;obtain ⟨rfl,rfl⟩:=hv;refine ⟨g,cap,cur.setIfInBounds j v,rfl,hg,?_,hc,hm,by simpa using hs,?_⟩
  ·rw [heap_setCell_same _ _ _ _ _ _ hh]
  ·rw [<- ht];simp only [Array.toList_setIfInBounds];rw [List.take_set]
theorem Zqd (e:Ef) (n p q i:Nat):spv (est e n (p,q)) i=up1 (up0 (spv e) n (.int .i64 (p:Int))) n (.int .i64 (q:Int)) i:=by
 unfold spv est up1 up0
 by_cases h:i=n
 ·subst h; simp
 ·simp [h]
theorem ZqN {w:World} {G g cap:Nat} {e:Ef} (h:GrR w G (.slice (some ⟨g,0,none⟩) G cap) e) {n:Nat} (hn:n < G) (p q:Nat):GrR ((w.setCell ⟨g,n * 2,none⟩ (.int .i64 (p:Int))).setCell ⟨g,n * 2 + 1,none⟩ (.int .i64 (q:Int))) G (.slice (some ⟨g,0,none⟩) G cap) (est e n (p,q)):=by
 unfold GrR at h ⊢;have h1:=ZkX (ZkX h (n * 2) (by omega) (.int .i64 (p:Int))) (n * 2 + 1) (by omega) (.int .i64 (q:Int));rw [ZcG G _ n _ hn,ZeI G _ n _ hn] at h1;rw [Q5 G (spv (est e n (p,q))) _ (fun i _=>Zqd e n p q i)];exact h1
def ZsK (Z:Mz) (wa:World) (s:Value) (e:Ef) (wc:World):Prop :=∃(a:Option Addr) (c:Nat),s = .slice a Z.G c/\GrR wc Z.G (.slice a Z.G c) e/\Za N0_ wa wc/\∀k,(Value.slice a Z.G c).ownBlock=some k->wa.heap.size<=k
def gmX (n p:Nat) (f:Nat×Ef):Nat×Ef:=(f.1,est f.2 n (p,f.1))
theorem Zne {Z:Mz} (hZ:Ms Z) {i:Nat} (hi:i < Z.ps.length) {c:Pc} (hc:Z.ps[i]? = some c) (hkind:c.kind=5) (hE :∀j,j < i->Zdy Z j):Zgp Z i:=by
 intro w S Ex p hM hF hX hp;have hu:=hZ.u200;have hfew:=hZ.few;have hLl:Z.L.length=Z.ps.length:=by rw [<- hZ.lps,List.length_map]
 have hlt:i < Z.L.length:=by omega
 obtain ⟨gp,cp,hpv,hgp⟩:=ZT hM.pcs.row (by omega);have hP0:Pcs w (.slice (some ⟨gp,0,none⟩) Z.L.length cp) Z.L:=by rw [<- hpv]; exact hM.pcs
 have hA:=JQ hP0 hlt;have how:=hM.pcs.rows _ (List.getElem_mem hlt);have hxe:(Z.L[i]'hlt).1=c:=by
  have h1:Z.ps[i]? = some (Z.L[i]'hlt).1:=by rw [<- hZ.lps,List.getElem?_map,List.getElem?_eq_getElem hlt]; rfl
  rw [hc] at h1;exact (Option.some.inj h1).symm
 have HXI:Hid (Z.X i=pcX Z.u c (fun k=>Z.X k.toNat)):=J3 hZ.vps hc;have hvp:=hZ.vps i c hc;have hset:=hZ.sets c (List.mem_of_getElem? hc);generalize Z.L[i]'hlt=x at hA how hxe;obtain ⟨c',sv,kv⟩:=x;simp only at hxe;subst hxe;obtain ⟨as1,cs1,he1⟩:=Zd how.1;obtain ⟨as2,cs2,he2⟩:=Zd how.2;simp only at he1 he2 hA;subst he1 he2;obtain ⟨q0,q1,q2,q3,q4,q5,q6⟩:=hA;obtain ⟨ck,cset,cm,cx,lz,cn,ckd⟩:=c';simp only at q0 q1 q2 q3 q4 q5 q6 hkind hvp hset how;subst hkind;have hiz:(i:Int) < (Z.L.length:Int):=by omega
 have m3:=hM.mc.c3;rw [hpv] at m3;have kA:Za N0_ w (w.alloc (.cells #[.int .i64 5,.slice as1 cset.length cs1,.int .i64 cm,.int .i64 cx,.bool lz,.int .i64 cn,.slice as2 ckd.length cs2] 114)):=(Za.refl _ _).alloc _;have hO1:(w.alloc (.cells #[.int .i64 5,.slice as1 cset.length cs1,.int .i64 cm,.int .i64 cx,.bool lz,.int .i64 cn,.slice as2 ckd.length cs2] 114)).heap[w.heap.size]? = some (.cells #[.int .i64 5,.slice as1 cset.length cs1,.int .i64 cm,.int .i64 cx,.bool lz,.int .i64 cn,.slice as2 ckd.length cs2] 114 (0,0)):=heap_alloc_new w _;have hem:=J4 hZ (hM.same kA) (fun k hk=>Nat.lt_of_lt_of_le (hX k hk) kA.size);have how1:=how.same kA;have HX:Hid (∀k,Ex k->k < w.heap.size):=hX;go_enter Tryz.func94,Tryz.ntmps94;go_upto_region 2 with fail;generalize w.alloc (.cells #[.int .i64 5,.slice as1 cset.length cs1,.int .i64 cm,.int .i64 cx,.bool lz,.int .i64 cn,.slice as2 ckd.length cs2] 114)=w1 at kA hO1 hem how1 ⊢;generalize w.heap.size=P1 at hO1 ⊢;clear q0 q1 q2 q3 q4 q5 q6 m3 hP0 hpv hgp how hX hM hc hlt hLl hiz;go_upto_region 3 with (first
  | (go_at_call 125; refine hem.mono ?_; rintro e w2 ⟨Lb,Sb,rfl,hW,hk2⟩))
 have hW2:Wp w1 Z S Ex Lb Sb (.slice none 0 0) [] P1 ({ kind:=5,set:=cset,min:=cm,max:=cx,lazy:=lz,num:=cn,kids:=ckd },.slice as1 cset.length cs1,.slice as2 ckd.length cs2) w2:=⟨hW,by rw [hk2.block P1 (lt_of_block hO1) id]; exact hO1,how1.same hk2⟩;clear hem hW hO1 how1 hk2;have x0:=hW2.x0;simp only at x0;obtain ⟨hk1,hn0,hnG⟩:=hvp.grp rfl;simp only at hk1 hn0 hnG;obtain ⟨kk,rfl⟩:=List.length_eq_one_iff.1 hk1;have hkk:=hvp.kids kk (by simp);obtain ⟨j,rfl⟩:=Int.eq_ofNat_of_zero_le (show 0<=kk by omega);obtain ⟨n1,rfl⟩:=Int.eq_ofNat_of_zero_le (show 0<=cn by omega);obtain ⟨nn,rfl⟩ :∃nn,n1=nn + 1:=⟨n1 - 1,by omega⟩;have hj:j < i:=by omega
 have hnnG:nn < Z.G:=by omega
 have hg9:=hZ.g9;have hOk:=Zfp (u:=Z.u) hZ.vps j (by omega);have HXp:Hid (Z.X i p=Zm8 nn (Z.X j) p):=(by show _ = _; rw [HXI.out]; simp [pcX]);simp only [List.length_singleton] at hW2 ⊢;obtain ⟨g2,cap2,hv2,hg2⟩:=ZT hW2.ow.2 (by simp);simp only [List.length_singleton,Value.slice.injEq] at hv2;obtain ⟨rfl,_,rfl⟩:=hv2;have a0:w2.cell? ⟨g2,0,none⟩=some (.int .i64 (j:Int)):=by
  have:=hW2.ow.2.cellAt 0 (by simp)
  simpa [Zgu] using this
 have x6:=hW2.x6;simp only at x6;have hcall:=Zep (hE j hj) hW2.wk (fun j2 q2 h1 h2=>hF j2 q2 (by omega) h2) hp;obtain ⟨F,hFe⟩ :∃F,Z.X j p=F:=⟨_,rfl⟩;have HFE:Hid (Z.X j p=F):=hFe;have HFin:Hid (∀y∈F,y.1<=Z.u.size):=(by show∀_,_; rw [<- HFE.out]; exact fun y hy=>((hOk p hp).2 y hy).2.1);have HFn:Hid ((F.map (·.1)).Nodup):=(by show List.Nodup _; rw [<- HFE.out]; exact (hOk p hp).1);have hFl:=Zcs HFn.out HFin.out;rw [hFe] at hcall;clear hFe hvp hset hk1 hkk hOk hn0 hnG;go_upto_region 22 with (first
  | (go_at_call 74; refine hcall.mono ?_; rintro en w3 ⟨fv,rfl,hf,hfn,hW3,hk3⟩; obtain ⟨af,cf,rfl⟩:=hf.form))
 have hW4:=hW2.tabs hW3 hk3;clear hcall hW2 hW3 hk3 a0 x6 x0;go_wp2;go_loopg [10,11,114] (F.length + 1) (fun gl _ _ s114 wr =>∃(b:Nat) (lw:Value) (M:En),b + gl=F.length + 1/\b<=F.length/\s114 = .int .i64 (b:Int)/\Hid (M=Qu [] ((F.take b).map (gmX nn p)))/\Wp w1 Z S Ex Lb Sb lw M P1 ({ kind:=5,set:=cset,min:=cm,max:=cx,lazy:=lz,num:=((nn + 1:Nat):Int),kids := [(j:Int)] },.slice as1 cset.length cs1,.slice (some ⟨g2,0,none⟩) 1 cs2) wr/\Qs wr Z.G (.slice af F.length cf) F/\∀k,(Value.slice af F.length cf).ownBlock=some k->lw.ownBlock≠some k)
 case atStart=>exact ⟨0,_,[],by omega,by omega,rfl,(by show _ = _; simp [Qu,dd]),hW4,hf,hfn⟩
 case round =>
  clear hW4 hf hfn;obtain ⟨b,lw,M,hgl,hb,rfl,HM,hW,hf,hfn⟩:=hrel;have HG:Hid (b + gk=F.length + 1):=hgl;clear hgl
  by_cases hlt:b < F.length
  ·have hz:(b:Int) < (F.length:Int):=by omega
   obtain ⟨g3,cap3,ah,ch,hv3,hg3,a0,a1,hgr⟩:=hf.at hlt;simp only [Value.slice.injEq] at hv3;obtain ⟨rfl,_,rfl⟩:=hv3;have hqe:=HFin.out F[b] (List.getElem_mem hlt);have HTk:Hid ((F.take (b + 1)).map (gmX nn p)=(F.take b).map (gmX nn p) ++ [gmX nn p F[b]]):=(by show _ = _; rw [QY F b hlt,List.map_append,List.map_singleton]);generalize F[b]=f at a0 a1 hgr hqe HTk;obtain ⟨q,ef⟩:=f;simp only at a0 a1 hgr hqe;have HMn:Hid (Qu M [(q,est ef nn (p,q))]=Qu [] ((F.take (b + 1)).map (gmX nn p))):=(by show _ = _; rw [HTk.out,Qr,<- HM.out]; rfl);go_upto_region 24 with fail;have kB:Za N0_ wr (wr.alloc (.cells #[.int .i64 (q:Int),.slice ah Z.G ch] 161)):=(Za.refl _ _).alloc _;have hQ:Bk (wr.alloc (.cells #[.int .i64 (q:Int),.slice ah Z.G ch] 161)) wr.heap.size 161 [.int .i64 (q:Int),.slice ah Z.G ch]:=Qz wr _ _;have hW2:=hW.same kB;have hf2:=hf.same kB;have hg4:=hgr.same kB;generalize wr.alloc (.cells #[.int .i64 (q:Int),.slice ah Z.G ch] 161)=wa at kB hQ hW2 hf2 hg4 ⊢;generalize wr.heap.size=Q at hQ ⊢;clear kB hW hf hgr a0 a1 hg3;have kd:Za N0_ wa wa.drew:=(Za.refl _ _).drew;have hS0:wa.drew.cell? ⟨Q,1,none⟩=some (.slice ah Z.G ch):=by rw [(hQ.keeps kd id).cell]; rfl
   have hno:=Za7 (hW2.same kd).wk.mi.mc hg9;go_cut [11] (fun s11 wc=>ZsK Z wa s11 ef wc)
   case first =>
    go_region_held3 (fun w'=>w'.cell? ⟨Q,1,none⟩=some (.slice ah Z.G ch)) (first | assumption | go_keep) (first
     | (go_at_call 128; refine hno.mono ?_; rintro en w5 ⟨gv,rfl,hgv,hk5,-⟩; obtain ⟨a5,c5,rfl⟩:=Zd hgv; have hk6:=kd.trans hk5; have hS1:w5.cell? ⟨Q,1,none⟩=some (.slice ah Z.G ch):=(by rw [(hQ.keeps hk6 id).cell]; rfl))
     | (go_at_call 129; refine (ZeJ (hg4.same hk6) hgv hg9).mono ?_; rintro en w6 ⟨gw,rfl,hgw,hk7,hnew⟩; obtain ⟨a6,c6,rfl⟩:=Zd hgw; have hS2:w6.cell? ⟨Q,1,none⟩=some (.slice ah Z.G ch):=(by rw [(hQ.keeps (hk6.trans hk7) id).cell]; rfl)))
    all_goals (try go_wp2_with fail)
    all_goals go_meet
    all_goals exact ⟨a6,c6,rfl,by rw [Zhi] at hgw; exact hgw,hk6.trans hk7,fun k hk=>Nat.le_trans hk6.size (hnew k hk)⟩
   case rest =>
    obtain ⟨a6,c6,rfl,hgw,hk8,hnew⟩:=hcut;obtain ⟨gg,cg,hv6,hgg⟩:=ZT hgw (by omega);simp only [Value.slice.injEq] at hv6;obtain ⟨rfl,_,rfl⟩:=hv6;have hgge:=hnew gg rfl;have hW3:=hW2.same hk8;have hQ3:=hQ.keeps hk8 id;have q0:wc.cell? ⟨Q,0,none⟩=some (.int .i64 (q:Int)):=by rw [hQ3.cell]; rfl
    have x5:=hW3.x5;simp only at x5
    push_cast at x5
    have hnz:(nn:Int) < (Z.G:Int):=by omega
    have r0:=hgw.cellAt (nn * 2) (by omega);have r1:=hgw.cellAt (nn * 2 + 1) (by omega);rw [(Jy Z.G _ nn hnnG).1] at r0;rw [(Jy Z.G _ nn hnnG).2] at r1;obtain ⟨cur,hcur⟩:=Zu hgw rfl;have z0:wc.frozen? ⟨gg,nn * 2,none⟩=false:=Zv hcur;have z1:wc.frozen? ⟨gg,nn * 2 + 1,none⟩=false:=Zv hcur;have hne:Q≠gg:=by have:=hQ.lt; omega
    obtain ⟨y0,y1,hy,-,-⟩:=Zet ef nn;rw [hy] at r0 r1;simp only at r0 r1;have hge:=ZqN hgw hnnG p q;have k9:Za N0_ wa ((wc.setCell ⟨gg,nn * 2,none⟩ (.int .i64 (p:Int))).setCell ⟨gg,nn * 2 + 1,none⟩ (.int .i64 (q:Int))):=(hk8.setCell (fun h=>by simp at h; omega) _).setCell (fun h=>by simp at h; omega) _;have q9:((wc.setCell ⟨gg,nn * 2,none⟩ (.int .i64 (p:Int))).setCell ⟨gg,nn * 2 + 1,none⟩ (.int .i64 (q:Int))).cell? ⟨Q,0,none⟩=some (.int .i64 (q:Int)):=by rw [(hQ.keeps k9 id).cell]; rfl
    have hW9:=hW2.same k9;have hf9:=hf2.same k9;clear hy hcur hgw hk8 hnew hW2 hf2 hg4 hno kd hS0 hW3 hQ3 hQ;go_upto_region 26 with fail;generalize ((wc.setCell ⟨gg,nn * 2,none⟩ (.int .i64 (p:Int))).setCell ⟨gg,nn * 2 + 1,none⟩ (.int .i64 (q:Int)))=wz at hge k9 q9 hW9 hf9 ⊢;clear q0 x5 r0 r1 z0 z1 k9;have hadd:=Zcp hZ hW9.wk hge hqe;go_wp2_with (first
     | (go_at_call 127; refine hadd.mono ?_; rintro en wy ⟨rfl,lx,hWy,hky,hby⟩; have hs:=Zaj hW9.wk.ll hf9 hfn hky hby; have hWq:=hW9.added hWy hky))
    go_roundg (gk - 1)
    case measure=>have:=HG.out; omega
    case rel=>exact ⟨b + 1,lx,_,by have:=HG.out; omega,by omega,congrArg (Value.int .i64) (by omega),HMn,hWq,hs.1,hs.2⟩
  ·obtain rfl:b=F.length:=by omega
   have HMe:Hid (Z.X i p=M):=(by
    show _ = _;rw [HXp.out,HM.out,List.take_length,Zbd,Zm8,HFE.out];refine (Zsh ?_ (fun e _=>rfl)).symm;rw [List.map_map];exact HFn.out)
   obtain ⟨al,cl,hlw⟩:=hW.wk.ll.ends.form;subst hlw;have c1:=hW.wk.ll.c1;go_wp2;go_ret;exact Jo hW.wk kA HMe.out
theorem Zng {Z:Mz} (hZ:Ms Z) {i:Nat} (hi:i < Z.ps.length) {c:Pc} (hc:Z.ps[i]? = some c) (hkind:c.kind=3) (hE :∀j,j < i->Zdy Z j):Zgp Z i:=by
 intro w S Ex p hM hF hX hp;have hu:=hZ.u200;have hfew:=hZ.few;have hLl:Z.L.length=Z.ps.length:=by rw [<- hZ.lps,List.length_map]
 have hlt:i < Z.L.length:=by omega
 obtain ⟨gp,cp,hpv,hgp⟩:=ZT hM.pcs.row (by omega);have hP0:Pcs w (.slice (some ⟨gp,0,none⟩) Z.L.length cp) Z.L:=by rw [<- hpv]; exact hM.pcs
 have hA:=JQ hP0 hlt;have how:=hM.pcs.rows _ (List.getElem_mem hlt);have hxe:(Z.L[i]'hlt).1=c:=by
  have h1:Z.ps[i]? = some (Z.L[i]'hlt).1:=by rw [<- hZ.lps,List.getElem?_map,List.getElem?_eq_getElem hlt]; rfl
  rw [hc] at h1;exact (Option.some.inj h1).symm
 have HXI:Hid (Z.X i=pcX Z.u c (fun k=>Z.X k.toNat)):=J3 hZ.vps hc;have hvp:=hZ.vps i c hc;have hset:=hZ.sets c (List.mem_of_getElem? hc);generalize Z.L[i]'hlt=x at hA how hxe;obtain ⟨c',sv,kv⟩:=x;simp only at hxe;subst hxe;obtain ⟨as1,cs1,he1⟩:=Zd how.1;obtain ⟨as2,cs2,he2⟩:=Zd how.2;simp only at he1 he2 hA;subst he1 he2;obtain ⟨q0,q1,q2,q3,q4,q5,q6⟩:=hA;obtain ⟨ck,cset,cm,cx,lz,cn,ckd⟩:=c';simp only at q0 q1 q2 q3 q4 q5 q6 hkind hvp hset how;subst hkind;have hiz:(i:Int) < (Z.L.length:Int):=by omega
 have m3:=hM.mc.c3;rw [hpv] at m3;have kA:Za N0_ w (w.alloc (.cells #[.int .i64 3,.slice as1 cset.length cs1,.int .i64 cm,.int .i64 cx,.bool lz,.int .i64 cn,.slice as2 ckd.length cs2] 114)):=(Za.refl _ _).alloc _;have hO1:(w.alloc (.cells #[.int .i64 3,.slice as1 cset.length cs1,.int .i64 cm,.int .i64 cx,.bool lz,.int .i64 cn,.slice as2 ckd.length cs2] 114)).heap[w.heap.size]? = some (.cells #[.int .i64 3,.slice as1 cset.length cs1,.int .i64 cm,.int .i64 cx,.bool lz,.int .i64 cn,.slice as2 ckd.length cs2] 114 (0,0)):=heap_alloc_new w _;have hem:=J4 hZ (hM.same kA) (fun k hk=>Nat.lt_of_lt_of_le (hX k hk) kA.size);have how1:=how.same kA;have HX:Hid (∀k,Ex k->k < w.heap.size):=hX;go_enter Tryz.func94,Tryz.ntmps94;go_upto_region 2 with fail;generalize w.alloc (.cells #[.int .i64 3,.slice as1 cset.length cs1,.int .i64 cm,.int .i64 cx,.bool lz,.int .i64 cn,.slice as2 ckd.length cs2] 114)=w1 at kA hO1 hem how1 ⊢;generalize w.heap.size=P1 at hO1 ⊢;clear q0 q1 q2 q3 q4 q5 q6 m3 hP0 hpv hgp how hX hM hc hlt hLl hiz;go_upto_region 3 with (first
  | (go_at_call 125; refine hem.mono ?_; rintro e w2 ⟨Lb,Sb,rfl,hW,hk2⟩))
 have hW2:Wp w1 Z S Ex Lb Sb (.slice none 0 0) [] P1 ({ kind:=3,set:=cset,min:=cm,max:=cx,lazy:=lz,num:=cn,kids:=ckd },.slice as1 cset.length cs1,.slice as2 ckd.length cs2) w2:=⟨hW,by rw [hk2.block P1 (lt_of_block hO1) id]; exact hO1,how1.same hk2⟩;clear hem hW hO1 how1 hk2;have x0:=hW2.x0;simp only at x0;have HXp:Hid (Z.X i p=dd sno ((ckd.map (fun k=>Z.X k.toNat)).flatMap (· p))):=(by show _ = _; rw [HXI.out]; simp [pcX,Zj5]);have HOk:Hid (∀j,j < Z.ps.length->OkX Z.u.size 0 Z.G (Z.X j)):=(by show∀_,_; exact fun j hj=>Zfp hZ.vps j hj);have HKd:Hid (∀k∈ckd,(0:Int)<=k/\k < (i:Int)):=(by show∀_,_; intro k hk; have:=hvp.kids k hk; omega);have hckl:ckd.length<=1000:=hset.2;have x6:=hW2.x6;simp only at x6;clear hvp hset;go_wp2;go_loopg [13,15,143] (ckd.length + 1) (fun gl _ _ s143 wr =>∃(a:Nat) (lw:Value) (M:En),a + gl=ckd.length + 1/\a<=ckd.length/\s143 = .int .i64 (a:Int)/\Hid (M=Qu [] (((ckd.take a).map (fun k=>Z.X k.toNat)).flatMap (· p)))/\Wp w1 Z S Ex Lb Sb lw M P1 ({ kind:=3,set:=cset,min:=cm,max:=cx,lazy:=lz,num:=cn,kids:=ckd },.slice as1 cset.length cs1,.slice as2 ckd.length cs2) wr)
 case atStart=>exact ⟨0,_,[],by omega,by omega,rfl,(by show _ = _; simp [Qu,dd]),hW2⟩
 case round =>
  clear hW2 x6 x0;obtain ⟨a,lv,M,hgl,ha,rfl,HM,hW⟩:=hrel;have HG:Hid (a + gk=ckd.length + 1):=hgl;clear hgl
  by_cases hlt:a < ckd.length
  ·have hz:(a:Int) < (ckd.length:Int):=by omega
   obtain ⟨g2,cap2,hv2,hg2⟩:=ZT hW.ow.2 (by simp only; omega);simp only [Value.slice.injEq] at hv2;obtain ⟨rfl,_,rfl⟩:=hv2;have a0:=hW.ow.2.cellAt a (by omega);simp only at a0;rw [Zlz ckd a hlt] at a0;have hkk:=HKd.out ckd[a] (List.getElem_mem hlt);have HTk:Hid (((ckd.take (a + 1)).map (fun k=>Z.X k.toNat)).flatMap (· p)=((ckd.take a).map (fun k=>Z.X k.toNat)).flatMap (· p) ++ Z.X ckd[a].toNat p):=(by show _ = _; rw [QY ckd a hlt,List.map_append,List.map_singleton,List.flatMap_append]; simp);generalize ckd[a]=kk at a0 hkk HTk;obtain ⟨j,rfl⟩:=Int.eq_ofNat_of_zero_le hkk.1;simp only [Int.toNat_natCast] at HTk;have hj:j < i:=by omega
   have hOk:=HOk.out j (by omega);have hcall:=Zep (hE j hj) hW.wk (fun j2 q2 h1 h2=>hF j2 q2 (by omega) h2) hp;obtain ⟨F,hFe⟩ :∃F,Z.X j p=F:=⟨_,rfl⟩;have HFE:Hid (Z.X j p=F):=hFe;have HFin:Hid (∀y∈F,y.1<=Z.u.size):=(by show∀_,_; rw [<- HFE.out]; exact fun y hy=>((hOk p hp).2 y hy).2.1);have hFl:F.length<=Z.u.size + 1:=by
    have:=Zcs (hOk p hp).1 (fun y hy=>((hOk p hp).2 y hy).2.1)
    rw [HFE.out] at this;exact this
   rw [hFe] at hcall;clear hFe hOk;go_upto_region 33 with (first
    | (go_at_call 74; refine hcall.mono ?_; rintro en w3 ⟨fv,rfl,hf,hfn,hW3,hk3⟩; obtain ⟨af,cf,rfl⟩:=hf.form))
   have hW4:=hW.tabs hW3 hk3;clear hcall hW hW3 hk3 a0;obtain ⟨wo,rfl⟩ :∃wo:World,wo=wr:=⟨_,rfl⟩;obtain ⟨gq,rfl⟩ :∃gq:Nat,gq=gk:=⟨_,rfl⟩;go_wp2;go_loopg [15,152] (F.length + 1) (fun gl _ s152 wi =>∃(b:Nat) (lw:Value) (M2:En),b + gl=F.length + 1/\b<=F.length/\s152 = .int .i64 (b:Int)/\Hid (M2=Qu M (F.take b))/\Wp w1 Z S Ex Lb Sb lw M2 P1 ({ kind:=3,set:=cset,min:=cm,max:=cx,lazy:=lz,num:=cn,kids:=ckd },.slice as1 cset.length cs1,.slice (some ⟨g2,0,none⟩) ckd.length cs2) wi/\Qs wi Z.G (.slice af F.length cf) F/\∀k,(Value.slice af F.length cf).ownBlock=some k->lw.ownBlock≠some k)
   case atStart=>exact ⟨0,_,M,by omega,by omega,rfl,(by show _ = _; simp [Qu,dd]),hW4,hf,hfn⟩
   case round =>
    clear hW4 hf hfn;obtain ⟨b,lw,M2,hgl2,hb,rfl,HM2,hW,hf,hfn⟩:=hrel;have HG2:Hid (b + gk=F.length + 1):=hgl2;clear hgl2
    by_cases hlt2:b < F.length
    ·have hz2:(b:Int) < (F.length:Int):=by omega
     obtain ⟨g3,cap3,ah,ch,hv3,hg3,a0,a1,hgr⟩:=hf.at hlt2;simp only [Value.slice.injEq] at hv3;obtain ⟨rfl,_,rfl⟩:=hv3;have hqe:=HFin.out F[b] (List.getElem_mem hlt2);have HTq:Hid (F.take (b + 1)=F.take b ++ [F[b]]):=QY F b hlt2;generalize F[b]=f at a0 a1 hgr hqe HTq;obtain ⟨q,ef⟩:=f;simp only at a0 a1 hgr hqe;have HMn:Hid (Qu M2 [(q,ef)]=Qu M (F.take (b + 1))):=(by show _ = _; rw [HTq.out,Qr,<- HM2.out]);go_upto_region 35 with fail;have kB:Za N0_ wr (wr.alloc (.cells #[.int .i64 (q:Int),.slice ah Z.G ch] 161)):=(Za.refl _ _).alloc _;have hQ:Bk (wr.alloc (.cells #[.int .i64 (q:Int),.slice ah Z.G ch] 161)) wr.heap.size 161 [.int .i64 (q:Int),.slice ah Z.G ch]:=Qz wr _ _;have hW9:=hW.same kB;have hf9:=hf.same kB;have hg9:=hgr.same kB;generalize wr.alloc (.cells #[.int .i64 (q:Int),.slice ah Z.G ch] 161)=wa at kB hQ hW9 hf9 hg9 ⊢;generalize wr.heap.size=Q at hQ ⊢;clear kB hW hf hgr a0 a1 hg3;have q0:wa.cell? ⟨Q,0,none⟩=some (.int .i64 (q:Int)):=by rw [hQ.cell]; rfl
     have q1:wa.cell? ⟨Q,1,none⟩=some (.slice ah Z.G ch):=by rw [hQ.cell]; rfl
     have hadd:=Zcp hZ hW9.wk hg9 hqe;go_wp2_with (first
      | (go_at_call 127; refine hadd.mono ?_; rintro en wy ⟨rfl,lx,hWy,hky,hby⟩; have hs:=Zaj hW9.wk.ll hf9 hfn hky hby; have hWq:=hW9.added hWy hky))
     go_roundg (gk - 1)
     case measure=>have:=HG2.out; omega
     case rel=>exact ⟨b + 1,lx,_,by have:=HG2.out; omega,by omega,congrArg (Value.int .i64) (by omega),HMn,hWq,hs.1,hs.2⟩
    ·obtain rfl:b=F.length:=by omega
     have HM3:Hid (M2=Qu [] (((ckd.take (a + 1)).map (fun k=>Z.X k.toNat)).flatMap (· p))):=(by
      show _ = _;rw [HM2.out,List.take_length,HM.out,HTk.out,Qr,HFE.out])
     go_wp2;go_roundg (gq - 1)
     case measure=>have:=HG.out; omega
     case rel=>exact ⟨a + 1,lw,M2,by have:=HG.out; omega,by omega,congrArg (Value.int .i64) (by omega),HM3,hW⟩
  ·obtain rfl:a=ckd.length:=by omega
   have HMe:Hid (Z.X i p=M):=(by
    show _ = _;rw [HXp.out,HM.out,List.take_length,Zbd])
   obtain ⟨al,cl,hlw⟩:=hW.wk.ll.ends.form;subst hlw;have c1:=hW.wk.ll.c1;go_wp2;go_ret;exact Jo hW.wk kA HMe.out
end Go.Proofs.YtfkflljplohhcaaGreatDoor
