import Derived.Test.YtfkflljplohhcaaGreatDoorMc
set_option linter.unusedVariables false
set_option maxHeartbeats 8000000
set_option maxRecDepth 100000
namespace Go.Proofs.YtfkflljplohhcaaGreatDoor
open Go.RowKit
structure Wq (w0:World) (Z:Mz) (S Ex:Nat->Prop) (P1:Nat) (x:Pm) (w:World):Prop where
 mi:MI w Z S Ex
 kp:Za (fo Z) w0 w
 ex:∀k,Ex k->k<w0.heap.size
 o:w.heap[P1]?=some (.cells #[.int .i64 x.1.kind,x.2.1,.int .i64 x.1.min,.int .i64 x.1.max,.bool x.1.lazy,.int .i64 x.1.num,x.2.2] 114 (0,0))
 ow:Jl w x
namespace Wq
variable {w0 w w':World}{Z:Mz}{S Ex:Nat->Prop}{P1:Nat}{x:Pm}
theorem same(h:Wq w0 Z S Ex P1 x w)(k:Za ai w w'):Wq w0 Z S Ex P1 x w':=⟨h.mi.same k,h.kp.trans (k.mono (fun _ _ h=>h.elim)),h.ex,by rw[k.block P1 (lt_of_block h.o) id];exact h.o,h.ow.same k⟩
theorem tabs(h:Wq w0 Z S Ex P1 x w)(hm:MI w' Z S Ex)(k:Za (fo Z) w w'):Wq w0 Z S Ex P1 x w' :=
 ⟨hm,h.kp.trans k,h.ex,by rw[k.block P1 (lt_of_block h.o) (h.mi.mZ.not h.o (by decide))];exact h.o,⟨Zb h.ow.1 k (h.mi.mZ.own h.ow.1 (by decide)),Zb h.ow.2 k (h.mi.mZ.own h.ow.2 (by decide))⟩⟩
theorem x6(h:Wq w0 Z S Ex P1 x w):w.cell? ⟨P1,6,none⟩=some x.2.2:=by rw[Zc h.o];rfl
end Wq
variable {w0 w:World}{Z:Mz}{S:Nat->Prop}{Lb G i cap g:Nat}{x:Pm}
theorem Wp.q{Ex:Nat->Prop}{Sb P1:Nat}{lv:Value}{M:En}(h:Wp w0 Z S Ex Lb Sb lv M P1 x w):Wq w0 Z S Ex P1 x w :=
 ⟨h.wk.mi.exc (fun k _ hk=>Or.inl hk),h.wk.kp,h.wk.ex,h.o,h.ow⟩
variable {e:Ef}
theorem Zi5{gv:Value}(hg:gJ w G gv e)(p:Nat):Qw (w.alloc (.cells #[.int .i64 (p:Int),gv] 161)) G (.slice (some ⟨w.heap.size,0,none⟩) 1 1) [(p,e)]:=by
 have hB:Bk (w.alloc (.cells #[.int .i64 (p:Int),gv] 161)) w.heap.size 161 [.int .i64 (p:Int),gv]:=QC w _ _;refine⟨fun _=>gv,hB.own (n:=1) (size:=2) rfl (by unfold maxLen;omega) (Nat.zero_le _),fun i hi=>?_⟩;simp at hi;subst hi;exact hg.same ((Za.refl _ _).alloc _)
theorem ZfW(L:En)(l:List Xs)(X:Xs):lW L (l++[X])=thn (lW L l) X:=by simp[lW]
theorem Yi(l:List Int)(k:Nat)(h:k<l.length):(nY l)[k]?=some (.int .i64 l[k]):=by simp[nY,h]
variable {c:Pc}
theorem Zog(hZ:Ms Z)(hi:i<Z.ps.length)(hc:Z.ps[i]?=some c)(hkind:c.kind=2)(hE:∀j,j<i->uT Z j):zn Z i:=by
 intro w S Ex p hM hF hX hp;have hu:=hZ.iF;have cZ:=hZ.few;have jm:Z.L.length=Z.ps.length:=by rw[<- hZ.oH,List.length_map]
 have hlt:i<Z.L.length:=by omega
 obtain⟨gp,cp,hpv,oU⟩:=ZW hM.dM.row (by omega);have iL:nH w (.slice (some ⟨gp,0,none⟩) Z.L.length cp) Z.L:=by rw[<- hpv];exact hM.dM
 have hA:=J0 iL hlt;have how:=hM.dM.rows _ (List.getElem_mem hlt);have hxe:(Z.L[i]'hlt).1=c:=by
  have h1:Z.ps[i]?=some (Z.L[i]'hlt).1:=by rw[<- hZ.oH,List.getElem?_map,List.getElem?_eq_getElem hlt];rfl
  rw[hc] at h1;exact(Option.some.inj h1).symm
 have qz:Hid (Z.X i=gW Z.u c (fun k=>Z.X k.toNat)):=J9 hZ.kK hc;have hvp:=hZ.kK i c hc;have hset:=hZ.sets c (List.mem_of_getElem? hc);generalize Z.L[i]'hlt=x at hA how hxe;obtain⟨c',sv,kv⟩:=x;simp only at hxe;subst hxe;obtain⟨bR,cs1,he1⟩:=aj how.1;obtain⟨dJ,cs2,he2⟩:=aj how.2;simp only at he1 he2 hA;subst he1 he2;obtain⟨q0,q1,q2,q3,q4,q5,q6⟩:=hA;obtain⟨ck,aI,cm,cx,lz,cn,aZ⟩:=c';simp only at q0 q1 q2 q3 q4 q5 q6 hkind hvp hset how;subst hkind;have hiz:(i:Int)<(Z.L.length:Int):=by omega
 have m3:=hM.mc.c3;rw[hpv] at m3;have kA:Za ai w (w.alloc (.cells #[.int .i64 2,.slice bR aI.length cs1,.int .i64 cm,.int .i64 cx,.bool lz,.int .i64 cn,.slice dJ aZ.length cs2] 114)):=QT;have dF:(w.alloc (.cells #[.int .i64 2,.slice bR aI.length cs1,.int .i64 cm,.int .i64 cx,.bool lz,.int .i64 cn,.slice dJ aZ.length cs2] 114)).heap[w.heap.size]?=some (.cells #[.int .i64 2,.slice bR aI.length cs1,.int .i64 cm,.int .i64 cx,.bool lz,.int .i64 cn,.slice dJ aZ.length cs2] 114 (0,0)):=heap_alloc_new w _;have hem:=zy hZ (hM.same kA) (fun k hk=>Nat.lt_of_lt_of_le (hX k hk) kA.size);have dz:=how.same kA;have HX:Hid (∀k,Ex k->k<w.heap.size):=hX;go_enter Tryz.func94,Tryz.ntmps94;go_upto_region 2 with fail;generalize w.alloc (.cells #[.int .i64 2,.slice bR aI.length cs1,.int .i64 cm,.int .i64 cx,.bool lz,.int .i64 cn,.slice dJ aZ.length cs2] 114)=w1 at kA dF hem dz ⊢;generalize w.heap.size=P1 at dF ⊢;clear q0 q1 q2 q3 q4 q5 q6 m3 iL hpv oU how hX hM hc hlt jm hiz;go_upto_region 3 with(first|(go_at_call 125;refine hem.mono ?_;rintro e w2 ⟨Lb,Sb,rfl,hW,hk2⟩))
 have hW2:Wp w1 Z S Ex Lb Sb (.slice none 0 0) [] P1 ({ kind:=2,set:=aI,min:=cm,max:=cx,lazy:=lz,num:=cn,kids:=aZ },.slice bR aI.length cs1,.slice dJ aZ.length cs2) w2:=⟨hW,by rw[hk2.block P1 (lt_of_block dF) id];exact dF,dz.same hk2⟩;clear hem hW dF dz hk2;have x0:=hW2.x0;simp only at x0;have l8:Hid (Z.X i p=lW [(p,dG)] (aZ.map (fun k=>Z.X k.toNat))):=(by show _ = _;rw[qz.out];simp[gW,zf]);have hno:=D9 hW2.wk.mi.mc hZ.g9;go_upto_region 5 with(first|(go_at_call 128;refine hno.mono ?_;rintro e w3 ⟨gv,rfl,hgv,hk3,-⟩;obtain⟨ag,cg,rfl⟩:=aj hgv))
 have hq3:=hW2.q.same (hk3.trans ((Za.refl _ w3).alloc (.cells #[.int .i64 (p:Int),.slice ag Z.G cg] 161)));have ho3:=Zi5 hgv p;have hb3:w1.heap.size<=w3.heap.size:=Nat.le_trans hW2.wk.kp.size hk3.size;generalize w3.alloc (.cells #[.int .i64 (p:Int),.slice ag Z.G cg] 161)=w4 at hq3 ho3 ⊢;generalize w3.heap.size=B0 at ho3 hb3 ⊢;clear hno hgv hk3 hW2 x0;have x6:=hq3.x6;simp only at x6;have M5:Hid (∀j,j<Z.ps.length->dh Z.u.size 0 Z.G (Z.X j)):=(by show∀_,_;exact fun j hj=>Il hZ.kK j hj);have Ni:Hid (∀k∈aZ,(0:Int)<=k/\k<(i:Int)):=(by show∀_,_;intro k hk;have:=hvp.kids k hk;omega);have Pj:aZ.length<=1000:=hset.2;clear hvp hset;go_wp2;go_loopg [22,24,45] (aZ.length+1) (fun gl NF _ s45 wr =>∃(a:Nat) (tv:Value) (La:En),a+gl=aZ.length+1/\a<=aZ.length/\NF=tv/\s45=.int .i64 (a:Int)/\Hid (La=lW [(p,dG)] ((aZ.take a).map (fun k=>Z.X k.toNat)))/\Qw wr Z.G tv La/\(∀b,tv.ownBlock=some b->w1.heap.size<=b)/\Wq w1 Z S Ex P1 ({ kind:=2,set:=aI,min:=cm,max:=cx,lazy:=lz,num:=cn,kids:=aZ },.slice bR aI.length cs1,.slice dJ aZ.length cs2) wr)
 case atStart=>exact⟨0,_,[(p,dG)],by omega,by omega,rfl,rfl,(by show _ = _;simp[lW]),ho3,fun b hb=>by simp[Value.ownBlock] at hb;omega,hq3⟩
 case round =>
  clear hq3 ho3 hb3 x6;obtain⟨a,tv,La,hgl,ha,rfl,rfl,Ck,qJ,htb,hq⟩:=hrel;have HG:Hid (a+gk=aZ.length+1):=hgl;clear hgl;obtain⟨R6,RJ,Om⟩:=qJ.form;subst Om
  by_cases hlt:a<aZ.length
  ·have hz:(a:Int)<(aZ.length:Int):=by omega
   obtain⟨g2,cap2,hv2,hg2⟩:=ZW hq.ow.2 (by simp only;omega);simp only[Value.slice.injEq] at hv2;obtain⟨rfl,_,rfl⟩:=hv2;have a0:=hq.ow.2.cellAt a (by omega);simp only at a0;rw[Yi aZ a hlt] at a0;have hkk:=Ni.out aZ[a] (List.getElem_mem hlt);have oq:Hid (lW [(p,dG)] ((aZ.take (a+1)).map (fun k=>Z.X k.toNat))=thn (lW [(p,dG)] ((aZ.take a).map (fun k=>Z.X k.toNat))) (Z.X aZ[a].toNat)):=(by show _ = _;rw[Q6 aZ a hlt,List.map_append,List.map_singleton,ZfW]);generalize aZ[a]=kk at a0 hkk oq;obtain⟨j,rfl⟩:=Int.eq_ofNat_of_zero_le hkk.1;simp only[Int.toNat_natCast] at oq;have hj:j<i:=by omega
   have lI:(∀e∈La,nI Z.u.size 0 Z.G p e)/\(La.map (·.1)).Nodup:=by
    rw[Ck.out];refine⟨L6 (fun X hX=>?_) (fun e he=>by simp at he;subst he;exact zC (Nat.le_refl _) hp),Uk (by simp)⟩;obtain⟨k,hk,rfl⟩:=List.mem_map.1 hX
    have:=Ni.out k (List.mem_of_mem_take hk)
    exact M5.out _ (by omega)
   have hlen:=zt lI.2 (fun e he=>(lI.1 e he).2.1);have hcall:=Ziv hZ (hE j hj) hq.mi (fun j2 q2 h1 h2=>hF j2 q2 (by omega) h2) (fun k hk=>Nat.lt_of_lt_of_le (hq.ex k hk) hq.kp.size) qJ (fun e he=>(lI.1 e he).2.1) (by omega) (M5.out j (by omega));clear lI;go_wp2_with(first|(go_at_call 130;refine hcall.mono ?_;rintro en w6 ⟨v6,rfl,hv6,hx6,OG,dN⟩;obtain⟨a6,c6,z8⟩:=hv6.form;subst z8))
   go_roundg (gk-1)
   case measure=>have:=HG.out;omega
   case rel=>exact⟨a+1,_,_,by have:=HG.out;omega,by omega,rfl,congrArg (Value.int .i64) (by omega),(by show _ = _;rw[oq.out,<- Ck.out]),hv6,fun b hb=>Nat.le_trans hq.kp.size (hx6 b hb).2,hq.tabs OG dN⟩
  ·obtain rfl:a=aZ.length:=by omega
   have HLe:Hid (Z.X i p=La):=(by show _ = _;rw[l8.out,Ck.out,List.take_length]);go_wp2;go_ret;refine⟨_,rfl,by rw[HLe.out];exact qJ,fun b hb hx=>?_,hq.mi,(kA.mono (fun _ _ h=>h.elim)).trans hq.kp⟩;have h1:=htb b hb;have h2:=hq.ex b hx;omega
theorem YN{base:Nat}{e:TypeId}{size n:Nat}{xs:List Value}(h:w.ownsRow base e size (.slice (some ⟨g,0,none⟩) n cap) n xs)(j:Nat)(hj:j<n*size)(v:Value):(w.setCell ⟨g,j,none⟩ v).ownsRow base e size (.slice (some ⟨g,0,none⟩) n cap) n (xs.set j v):=by
 obtain⟨h1,h2⟩:=h;refine⟨by simpa using h1,Or.inr ?_⟩
 rcases h2 with⟨h2,_⟩ | ⟨g',cap',cur,hv,hg,hh,hc,hm,hs,ht⟩
 ·simp at h2
 ·simp only[Value.slice.injEq,Option.some.injEq,Addr.mk.injEq,and_true,true_and] at hv;obtain⟨rfl,rfl⟩:=hv;refine⟨g,cap,cur.setIfInBounds j v,rfl,hg,?_,hc,hm,by simpa using hs,?_⟩
  ·rw[heap_setCell_same _ _ _ _ _ _ hh]
  ·rw[<- ht];simp only[Array.toList_setIfInBounds];rw[List.take_set]
theorem ZrC(e:Ef)(n p q i:Nat):jC (est e n (p,q)) i=wG (sw (jC e) n (.int .i64 (p:Int))) n (.int .i64 (q:Int)) i:=by
 unfold jC est wG sw
 by_cases h:i=n
 ·subst h;simp
 ·simp[h]
theorem Zsk(h:gJ w G (.slice (some ⟨g,0,none⟩) G cap) e){n:Nat}(hn:n<G)(p q:Nat):gJ ((w.setCell ⟨g,n*2,none⟩ (.int .i64 (p:Int))).setCell ⟨g,n*2+1,none⟩ (.int .i64 (q:Int))) G (.slice (some ⟨g,0,none⟩) G cap) (est e n (p,q)):=by
 unfold gJ at h ⊢;have h1:=YN (YN h (n*2) (by omega) (.int .i64 (p:Int))) (n*2+1) (by omega) (.int .i64 (q:Int));rw[L9 G _ n _ hn,TI G _ n _ hn] at h1;rw[Jd G (jC (est e n (p,q))) _ (fun i _=>ZrC e n p q i)];exact h1
def Zuz (Z:Mz) (wa:World) (s:Value) (e:Ef) (wc:World):Prop :=∃(a:Option Addr) (c:Nat),s=.slice a Z.G c/\gJ wc Z.G (.slice a Z.G c) e/\Za ai wa wc/\∀k,(Value.slice a Z.G c).ownBlock=some k->wa.heap.size<=k
def Hg (n p:Nat) (f:Nat×Ef):Nat×Ef:=(f.1,est f.2 n (p,f.1))
theorem Zoi(hZ:Ms Z)(hi:i<Z.ps.length)(hc:Z.ps[i]?=some c)(hkind:c.kind=5)(hE:∀j,j<i->uT Z j):zn Z i:=by
 intro w S Ex p hM hF hX hp;have hu:=hZ.iF;have cZ:=hZ.few;have jm:Z.L.length=Z.ps.length:=by rw[<- hZ.oH,List.length_map]
 have hlt:i<Z.L.length:=by omega
 obtain⟨gp,cp,hpv,oU⟩:=ZW hM.dM.row (by omega);have iL:nH w (.slice (some ⟨gp,0,none⟩) Z.L.length cp) Z.L:=by rw[<- hpv];exact hM.dM
 have hA:=J0 iL hlt;have how:=hM.dM.rows _ (List.getElem_mem hlt);have hxe:(Z.L[i]'hlt).1=c:=by
  have h1:Z.ps[i]?=some (Z.L[i]'hlt).1:=by rw[<- hZ.oH,List.getElem?_map,List.getElem?_eq_getElem hlt];rfl
  rw[hc] at h1;exact(Option.some.inj h1).symm
 have qz:Hid (Z.X i=gW Z.u c (fun k=>Z.X k.toNat)):=J9 hZ.kK hc;have hvp:=hZ.kK i c hc;have hset:=hZ.sets c (List.mem_of_getElem? hc);generalize Z.L[i]'hlt=x at hA how hxe;obtain⟨c',sv,kv⟩:=x;simp only at hxe;subst hxe;obtain⟨bR,cs1,he1⟩:=aj how.1;obtain⟨dJ,cs2,he2⟩:=aj how.2;simp only at he1 he2 hA;subst he1 he2;obtain⟨q0,q1,q2,q3,q4,q5,q6⟩:=hA;obtain⟨ck,aI,cm,cx,lz,cn,aZ⟩:=c';simp only at q0 q1 q2 q3 q4 q5 q6 hkind hvp hset how;subst hkind;have hiz:(i:Int)<(Z.L.length:Int):=by omega
 have m3:=hM.mc.c3;rw[hpv] at m3;have kA:Za ai w (w.alloc (.cells #[.int .i64 5,.slice bR aI.length cs1,.int .i64 cm,.int .i64 cx,.bool lz,.int .i64 cn,.slice dJ aZ.length cs2] 114)):=QT;have dF:(w.alloc (.cells #[.int .i64 5,.slice bR aI.length cs1,.int .i64 cm,.int .i64 cx,.bool lz,.int .i64 cn,.slice dJ aZ.length cs2] 114)).heap[w.heap.size]?=some (.cells #[.int .i64 5,.slice bR aI.length cs1,.int .i64 cm,.int .i64 cx,.bool lz,.int .i64 cn,.slice dJ aZ.length cs2] 114 (0,0)):=heap_alloc_new w _;have hem:=zy hZ (hM.same kA) (fun k hk=>Nat.lt_of_lt_of_le (hX k hk) kA.size);have dz:=how.same kA;have HX:Hid (∀k,Ex k->k<w.heap.size):=hX;go_enter Tryz.func94,Tryz.ntmps94;go_upto_region 2 with fail;generalize w.alloc (.cells #[.int .i64 5,.slice bR aI.length cs1,.int .i64 cm,.int .i64 cx,.bool lz,.int .i64 cn,.slice dJ aZ.length cs2] 114)=w1 at kA dF hem dz ⊢;generalize w.heap.size=P1 at dF ⊢;clear q0 q1 q2 q3 q4 q5 q6 m3 iL hpv oU how hX hM hc hlt jm hiz;go_upto_region 3 with(first|(go_at_call 125;refine hem.mono ?_;rintro e w2 ⟨Lb,Sb,rfl,hW,hk2⟩))
 have hW2:Wp w1 Z S Ex Lb Sb (.slice none 0 0) [] P1 ({ kind:=5,set:=aI,min:=cm,max:=cx,lazy:=lz,num:=cn,kids:=aZ },.slice bR aI.length cs1,.slice dJ aZ.length cs2) w2:=⟨hW,by rw[hk2.block P1 (lt_of_block dF) id];exact dF,dz.same hk2⟩;clear hem hW dF dz hk2;have x0:=hW2.x0;simp only at x0;obtain⟨hk1,hn0,VY⟩:=hvp.iZ rfl;simp only at hk1 hn0 VY;obtain⟨kk,rfl⟩:=List.length_eq_one_iff.1 hk1;have hkk:=hvp.kids kk (by simp);obtain⟨j,rfl⟩:=Int.eq_ofNat_of_zero_le (show 0<=kk by omega);obtain⟨n1,rfl⟩:=Int.eq_ofNat_of_zero_le (show 0<=cn by omega);obtain⟨nn,rfl⟩:∃nn,n1=nn+1:=⟨n1-1,by omega⟩;have hj:j<i:=by omega
 have Am:nn<Z.G:=by omega
 have dH:=hZ.g9;have dW:=Il (u:=Z.u) hZ.kK j (by omega);have l8:Hid (Z.X i p=vO nn (Z.X j) p):=(by show _ = _;rw[qz.out];simp[gW]);simp only[List.length_singleton] at hW2 ⊢;obtain⟨g2,cap2,hv2,hg2⟩:=ZW hW2.ow.2 (by simp);simp only[List.length_singleton,Value.slice.injEq] at hv2;obtain⟨rfl,_,rfl⟩:=hv2;have a0:w2.cell? (ak g2)=some (.int .i64 (j:Int)):=by
  have:=hW2.ow.2.cellAt 0 (by simp)
  simpa [nY] using this
 have x6:=hW2.x6;simp only at x6;have hcall:=LU (hE j hj) hW2.wk (fun j2 q2 h1 h2=>hF j2 q2 (by omega) h2) hp;obtain⟨F,jX⟩:∃F,Z.X j p=F:=⟨_,rfl⟩;have pW:Hid (Z.X j p=F):=jX;have HFin:Hid (∀y∈F,y.1<=Z.u.size):=(by show∀_,_;rw[<- pW.out];exact fun y hy=>((dW p hp).2 y hy).2.1);have HFn:Hid ((F.map (·.1)).Nodup):=(by show List.Nodup _;rw[<- pW.out];exact(dW p hp).1);have xH:=zt HFn.out HFin.out;rw[jX] at hcall;clear jX hvp hset hk1 hkk dW hn0 VY;go_upto_region 22 with(first|(go_at_call 74;refine hcall.mono ?_;rintro en w3 ⟨fv,rfl,hf,hfn,hW3,hk3⟩;obtain⟨af,cf,rfl⟩:=hf.form))
 have lD:=hW2.tabs hW3 hk3;clear hcall hW2 hW3 hk3 a0 x6 x0;go_wp2;go_loopg [10,11,114] (F.length+1) (fun gl _ _ NJ wr =>∃(b:Nat) (lw:Value) (M:En),b+gl=F.length+1/\b<=F.length/\NJ=.int .i64 (b:Int)/\Hid (M=Qx [] ((F.take b).map (Hg nn p)))/\Wp w1 Z S Ex Lb Sb lw M P1 ({ kind:=5,set:=aI,min:=cm,max:=cx,lazy:=lz,num:=((nn+1:Nat):Int),kids := [(j:Int)] },.slice bR aI.length cs1,.slice (some ⟨g2,0,none⟩) 1 cs2) wr/\Qw wr Z.G (.slice af F.length cf) F/\∀k,(Value.slice af F.length cf).ownBlock=some k->lw.ownBlock≠some k)
 case atStart=>exact⟨0,_,[],by omega,by omega,rfl,(by show _ = _;simp[Qx,dd]),lD,hf,hfn⟩
 case round =>
  clear lD hf hfn;obtain⟨b,lw,M,hgl,hb,rfl,HM,hW,hf,hfn⟩:=hrel;have HG:Hid (b+gk=F.length+1):=hgl;clear hgl
  by_cases hlt:b<F.length
  ·have hz:(b:Int)<(F.length:Int):=by omega
   obtain⟨g3,pq,ah,ch,hv3,hg3,a0,a1,hgr⟩:=hf.at hlt;simp only[Value.slice.injEq] at hv3;obtain⟨rfl,_,rfl⟩:=hv3;have hqe:=HFin.out F[b] (List.getElem_mem hlt);have oq:Hid ((F.take (b+1)).map (Hg nn p)=(F.take b).map (Hg nn p)++[Hg nn p F[b]]):=(by show _ = _;rw[Q6 F b hlt,List.map_append,List.map_singleton]);generalize F[b]=f at a0 a1 hgr hqe oq;obtain⟨q,ef⟩:=f;simp only at a0 a1 hgr hqe;have yu:Hid (Qx M [(q,est ef nn (p,q))]=Qx [] ((F.take (b+1)).map (Hg nn p))):=(by show _ = _;rw[oq.out,Qv,<- HM.out];rfl);go_upto_region 24 with fail;have kB:Za ai wr (wr.alloc (.cells #[.int .i64 (q:Int),.slice ah Z.G ch] 161)):=QT;have hQ:Bk (wr.alloc (.cells #[.int .i64 (q:Int),.slice ah Z.G ch] 161)) wr.heap.size 161 [.int .i64 (q:Int),.slice ah Z.G ch]:=QC wr _ _;have hW2:=hW.same kB;have hf2:=hf.same kB;have hg4:=hgr.same kB;generalize wr.alloc (.cells #[.int .i64 (q:Int),.slice ah Z.G ch] 161)=wa at kB hQ hW2 hf2 hg4 ⊢;generalize wr.heap.size=Q at hQ ⊢;clear kB hW hf hgr a0 a1 hg3;have kd:Za ai wa wa.drew:=(Za.refl _ _).drew;have hS0:wa.drew.cell? ⟨Q,1,none⟩=some (.slice ah Z.G ch):=by rw[(hQ.keeps kd id).cell];rfl
   have hno:=D9 (hW2.same kd).wk.mi.mc dH;go_cut [11] (fun s11 wc=>Zuz Z wa s11 ef wc)
   case first =>
    go_region_held3 (fun w'=>w'.cell? ⟨Q,1,none⟩=some (.slice ah Z.G ch)) (first | assumption | go_keep) (first|(go_at_call 128;refine hno.mono ?_;rintro en w5 ⟨gv,rfl,hgv,hk5,-⟩;obtain⟨a5,c5,rfl⟩:=aj hgv;have dN:=kd.trans hk5;have hS1:w5.cell? ⟨Q,1,none⟩=some (.slice ah Z.G ch):=(by rw[(hQ.keeps dN id).cell];rfl))|(go_at_call 129;refine(TH (hg4.same dN) hgv dH).mono ?_;rintro en w6 ⟨gw,rfl,hgw,iq,hnew⟩;obtain⟨a6,c6,rfl⟩:=aj hgw;have hS2:w6.cell? ⟨Q,1,none⟩=some (.slice ah Z.G ch):=(by rw[(hQ.keeps (dN.trans iq) id).cell];rfl)))
    all_goals (try go_wp2_with fail)
    all_goals go_meet
    all_goals exact⟨a6,c6,rfl,by rw[SL] at hgw;exact hgw,dN.trans iq,fun k hk=>Nat.le_trans dN.size (hnew k hk)⟩
   case rest =>
    obtain⟨a6,c6,rfl,hgw,vF,hnew⟩:=hcut;obtain⟨gg,cg,hv6,hgg⟩:=ZW hgw (by omega);simp only[Value.slice.injEq] at hv6;obtain⟨rfl,_,rfl⟩:=hv6;have xay:=hnew gg rfl;have hW3:=hW2.same vF;have Db:=hQ.keeps vF id;have q0:wc.cell? (ak Q)=some (.int .i64 (q:Int)):=by rw[Db.cell];rfl
    have x5:=hW3.x5;simp only at x5
    push_cast at x5
    have hnz:(nn:Int)<(Z.G:Int):=by omega
    have r0:=hgw.cellAt (nn*2) (by omega);have r1:=hgw.cellAt (nn*2+1) (by omega);rw[(JB Z.G _ nn Am).1] at r0;rw[(JB Z.G _ nn Am).2] at r1;obtain⟨cur,AJ⟩:=Zx hgw rfl;have z0:wc.frozen? ⟨gg,nn*2,none⟩=false:=Zv AJ;have z1:wc.frozen? ⟨gg,nn*2+1,none⟩=false:=Zv AJ;have hne:Q≠gg:=by have:=hQ.lt;omega
    obtain⟨y0,y1,hy,-,-⟩:=TE ef nn;rw[hy] at r0 r1;simp only at r0 r1;have hge:=Zsk hgw Am p q;have k9:Za ai wa ((wc.setCell ⟨gg,nn*2,none⟩ (.int .i64 (p:Int))).setCell ⟨gg,nn*2+1,none⟩ (.int .i64 (q:Int))):=(vF.setCell (fun h=>by simp at h;omega) _).setCell (fun h=>by simp at h;omega) _;have q9:((wc.setCell ⟨gg,nn*2,none⟩ (.int .i64 (p:Int))).setCell ⟨gg,nn*2+1,none⟩ (.int .i64 (q:Int))).cell? (ak Q)=some (.int .i64 (q:Int)):=by rw[(hQ.keeps k9 id).cell];rfl
    have xz:=hW2.same k9;have Gs:=hf2.same k9;clear hy AJ hgw vF hnew hW2 hf2 hg4 hno kd hS0 hW3 Db hQ;go_upto_region 26 with fail;generalize ((wc.setCell ⟨gg,nn*2,none⟩ (.int .i64 (p:Int))).setCell ⟨gg,nn*2+1,none⟩ (.int .i64 (q:Int)))=wz at hge k9 q9 xz Gs ⊢;clear q0 x5 r0 r1 z0 z1 k9;have hadd:=zw hZ xz.wk hge hqe;go_wp2_with(first|(go_at_call 127;refine hadd.mono ?_;rintro en wy ⟨rfl,lx,Pt,Gi,hby⟩;have hs:=Ei xz.wk.ll Gs hfn Gi hby;have Pv:=xz.added Pt Gi))
    go_roundg (gk-1)
    case measure=>have:=HG.out;omega
    case rel=>exact⟨b+1,lx,_,by have:=HG.out;omega,by omega,congrArg (Value.int .i64) (by omega),yu,Pv,hs.1,hs.2⟩
  ·obtain rfl:b=F.length:=by omega
   have zO:Hid (Z.X i p=M):=(by
    show _ = _;rw[l8.out,HM.out,List.take_length,Ml,vO,pW.out];refine(XG ?_ (fun e _=>rfl)).symm;rw[List.map_map];exact HFn.out)
   obtain⟨al,cl,Ga⟩:=hW.wk.ll.ends.form;subst Ga;have c1:=hW.wk.ll.c1;go_wp2;go_ret;exact Js hW.wk kA zO.out
theorem Zok(hZ:Ms Z)(hi:i<Z.ps.length)(hc:Z.ps[i]?=some c)(hkind:c.kind=3)(hE:∀j,j<i->uT Z j):zn Z i:=by
 intro w S Ex p hM hF hX hp;have hu:=hZ.iF;have cZ:=hZ.few;have jm:Z.L.length=Z.ps.length:=by rw[<- hZ.oH,List.length_map]
 have hlt:i<Z.L.length:=by omega
 obtain⟨gp,cp,hpv,oU⟩:=ZW hM.dM.row (by omega);have iL:nH w (.slice (some ⟨gp,0,none⟩) Z.L.length cp) Z.L:=by rw[<- hpv];exact hM.dM
 have hA:=J0 iL hlt;have how:=hM.dM.rows _ (List.getElem_mem hlt);have hxe:(Z.L[i]'hlt).1=c:=by
  have h1:Z.ps[i]?=some (Z.L[i]'hlt).1:=by rw[<- hZ.oH,List.getElem?_map,List.getElem?_eq_getElem hlt];rfl
  rw[hc] at h1;exact(Option.some.inj h1).symm
 have qz:Hid (Z.X i=gW Z.u c (fun k=>Z.X k.toNat)):=J9 hZ.kK hc;have hvp:=hZ.kK i c hc;have hset:=hZ.sets c (List.mem_of_getElem? hc);generalize Z.L[i]'hlt=x at hA how hxe;obtain⟨c',sv,kv⟩:=x;simp only at hxe;subst hxe;obtain⟨bR,cs1,he1⟩:=aj how.1;obtain⟨dJ,cs2,he2⟩:=aj how.2;simp only at he1 he2 hA;subst he1 he2;obtain⟨q0,q1,q2,q3,q4,q5,q6⟩:=hA;obtain⟨ck,aI,cm,cx,lz,cn,aZ⟩:=c';simp only at q0 q1 q2 q3 q4 q5 q6 hkind hvp hset how;subst hkind;have hiz:(i:Int)<(Z.L.length:Int):=by omega
 have m3:=hM.mc.c3;rw[hpv] at m3;have kA:Za ai w (w.alloc (.cells #[.int .i64 3,.slice bR aI.length cs1,.int .i64 cm,.int .i64 cx,.bool lz,.int .i64 cn,.slice dJ aZ.length cs2] 114)):=QT;have dF:(w.alloc (.cells #[.int .i64 3,.slice bR aI.length cs1,.int .i64 cm,.int .i64 cx,.bool lz,.int .i64 cn,.slice dJ aZ.length cs2] 114)).heap[w.heap.size]?=some (.cells #[.int .i64 3,.slice bR aI.length cs1,.int .i64 cm,.int .i64 cx,.bool lz,.int .i64 cn,.slice dJ aZ.length cs2] 114 (0,0)):=heap_alloc_new w _;have hem:=zy hZ (hM.same kA) (fun k hk=>Nat.lt_of_lt_of_le (hX k hk) kA.size);have dz:=how.same kA;have HX:Hid (∀k,Ex k->k<w.heap.size):=hX;go_enter Tryz.func94,Tryz.ntmps94;go_upto_region 2 with fail;generalize w.alloc (.cells #[.int .i64 3,.slice bR aI.length cs1,.int .i64 cm,.int .i64 cx,.bool lz,.int .i64 cn,.slice dJ aZ.length cs2] 114)=w1 at kA dF hem dz ⊢;generalize w.heap.size=P1 at dF ⊢;clear q0 q1 q2 q3 q4 q5 q6 m3 iL hpv oU how hX hM hc hlt jm hiz;go_upto_region 3 with(first|(go_at_call 125;refine hem.mono ?_;rintro e w2 ⟨Lb,Sb,rfl,hW,hk2⟩))
 have hW2:Wp w1 Z S Ex Lb Sb (.slice none 0 0) [] P1 ({ kind:=3,set:=aI,min:=cm,max:=cx,lazy:=lz,num:=cn,kids:=aZ },.slice bR aI.length cs1,.slice dJ aZ.length cs2) w2:=⟨hW,by rw[hk2.block P1 (lt_of_block dF) id];exact dF,dz.same hk2⟩;clear hem hW dF dz hk2;have x0:=hW2.x0;simp only at x0;have l8:Hid (Z.X i p=dd bq ((aZ.map (fun k=>Z.X k.toNat)).flatMap (· p))):=(by show _ = _;rw[qz.out];simp[gW,rA]);have M5:Hid (∀j,j<Z.ps.length->dh Z.u.size 0 Z.G (Z.X j)):=(by show∀_,_;exact fun j hj=>Il hZ.kK j hj);have Ni:Hid (∀k∈aZ,(0:Int)<=k/\k<(i:Int)):=(by show∀_,_;intro k hk;have:=hvp.kids k hk;omega);have Pj:aZ.length<=1000:=hset.2;have x6:=hW2.x6;simp only at x6;clear hvp hset;go_wp2;go_loopg [13,15,143] (aZ.length+1) (fun gl _ _ NI wr =>∃(a:Nat) (lw:Value) (M:En),a+gl=aZ.length+1/\a<=aZ.length/\NI=.int .i64 (a:Int)/\Hid (M=Qx [] (((aZ.take a).map (fun k=>Z.X k.toNat)).flatMap (· p)))/\Wp w1 Z S Ex Lb Sb lw M P1 ({ kind:=3,set:=aI,min:=cm,max:=cx,lazy:=lz,num:=cn,kids:=aZ },.slice bR aI.length cs1,.slice dJ aZ.length cs2) wr)
 case atStart=>exact⟨0,_,[],by omega,by omega,rfl,(by show _ = _;simp[Qx,dd]),hW2⟩
 case round =>
  clear hW2 x6 x0;obtain⟨a,lv,M,hgl,ha,rfl,HM,hW⟩:=hrel;have HG:Hid (a+gk=aZ.length+1):=hgl;clear hgl
  by_cases hlt:a<aZ.length
  ·have hz:(a:Int)<(aZ.length:Int):=by omega
   obtain⟨g2,cap2,hv2,hg2⟩:=ZW hW.ow.2 (by simp only;omega);simp only[Value.slice.injEq] at hv2;obtain⟨rfl,_,rfl⟩:=hv2;have a0:=hW.ow.2.cellAt a (by omega);simp only at a0;rw[Yi aZ a hlt] at a0;have hkk:=Ni.out aZ[a] (List.getElem_mem hlt);have oq:Hid (((aZ.take (a+1)).map (fun k=>Z.X k.toNat)).flatMap (· p)=((aZ.take a).map (fun k=>Z.X k.toNat)).flatMap (· p)++Z.X aZ[a].toNat p):=(by show _ = _;rw[Q6 aZ a hlt,List.map_append,List.map_singleton,List.flatMap_append];simp);generalize aZ[a]=kk at a0 hkk oq;obtain⟨j,rfl⟩:=Int.eq_ofNat_of_zero_le hkk.1;simp only[Int.toNat_natCast] at oq;have hj:j<i:=by omega
   have dW:=M5.out j (by omega);have hcall:=LU (hE j hj) hW.wk (fun j2 q2 h1 h2=>hF j2 q2 (by omega) h2) hp;obtain⟨F,jX⟩:∃F,Z.X j p=F:=⟨_,rfl⟩;have pW:Hid (Z.X j p=F):=jX;have HFin:Hid (∀y∈F,y.1<=Z.u.size):=(by show∀_,_;rw[<- pW.out];exact fun y hy=>((dW p hp).2 y hy).2.1);have xH:F.length<=Z.u.size+1:=by
    have:=zt (dW p hp).1 (fun y hy=>((dW p hp).2 y hy).2.1)
    rw[pW.out] at this;exact this
   rw[jX] at hcall;clear jX dW;go_upto_region 33 with(first|(go_at_call 74;refine hcall.mono ?_;rintro en w3 ⟨fv,rfl,hf,hfn,hW3,hk3⟩;obtain⟨af,cf,rfl⟩:=hf.form))
   have lD:=hW.tabs hW3 hk3;clear hcall hW hW3 hk3 a0;obtain⟨wo,rfl⟩:∃wo:World,wo=wr:=⟨_,rfl⟩;obtain⟨gq,rfl⟩:∃gq:Nat,gq=gk:=⟨_,rfl⟩;go_wp2;go_loopg [15,152] (F.length+1) (fun gl _ NH wi =>∃(b:Nat) (lw:Value) (M2:En),b+gl=F.length+1/\b<=F.length/\NH=.int .i64 (b:Int)/\Hid (M2=Qx M (F.take b))/\Wp w1 Z S Ex Lb Sb lw M2 P1 ({ kind:=3,set:=aI,min:=cm,max:=cx,lazy:=lz,num:=cn,kids:=aZ },.slice bR aI.length cs1,.slice (some ⟨g2,0,none⟩) aZ.length cs2) wi/\Qw wi Z.G (.slice af F.length cf) F/\∀k,(Value.slice af F.length cf).ownBlock=some k->lw.ownBlock≠some k)
   case atStart=>exact⟨0,_,M,by omega,by omega,rfl,(by show _ = _;simp[Qx,dd]),lD,hf,hfn⟩
   case round =>
    clear lD hf hfn;obtain⟨b,lw,M2,jk,hb,rfl,wh,hW,hf,hfn⟩:=hrel;have HG2:Hid (b+gk=F.length+1):=jk;clear jk
    by_cases hlt2:b<F.length
    ·have hz2:(b:Int)<(F.length:Int):=by omega
     obtain⟨g3,pq,ah,ch,hv3,hg3,a0,a1,hgr⟩:=hf.at hlt2;simp only[Value.slice.injEq] at hv3;obtain⟨rfl,_,rfl⟩:=hv3;have hqe:=HFin.out F[b] (List.getElem_mem hlt2);have Eu:Hid (F.take (b+1)=F.take b++[F[b]]):=Q6 F b hlt2;generalize F[b]=f at a0 a1 hgr hqe Eu;obtain⟨q,ef⟩:=f;simp only at a0 a1 hgr hqe;have yu:Hid (Qx M2 [(q,ef)]=Qx M (F.take (b+1))):=(by show _ = _;rw[Eu.out,Qv,<- wh.out]);go_upto_region 35 with fail;have kB:Za ai wr (wr.alloc (.cells #[.int .i64 (q:Int),.slice ah Z.G ch] 161)):=QT;have hQ:Bk (wr.alloc (.cells #[.int .i64 (q:Int),.slice ah Z.G ch] 161)) wr.heap.size 161 [.int .i64 (q:Int),.slice ah Z.G ch]:=QC wr _ _;have xz:=hW.same kB;have Gs:=hf.same kB;have dH:=hgr.same kB;generalize wr.alloc (.cells #[.int .i64 (q:Int),.slice ah Z.G ch] 161)=wa at kB hQ xz Gs dH ⊢;generalize wr.heap.size=Q at hQ ⊢;clear kB hW hf hgr a0 a1 hg3;have q0:wa.cell? (ak Q)=some (.int .i64 (q:Int)):=by rw[hQ.cell];rfl
     have q1:wa.cell? ⟨Q,1,none⟩=some (.slice ah Z.G ch):=by rw[hQ.cell];rfl
     have hadd:=zw hZ xz.wk dH hqe;go_wp2_with(first|(go_at_call 127;refine hadd.mono ?_;rintro en wy ⟨rfl,lx,Pt,Gi,hby⟩;have hs:=Ei xz.wk.ll Gs hfn Gi hby;have Pv:=xz.added Pt Gi))
     go_roundg (gk-1)
     case measure=>have:=HG2.out;omega
     case rel=>exact⟨b+1,lx,_,by have:=HG2.out;omega,by omega,congrArg (Value.int .i64) (by omega),yu,Pv,hs.1,hs.2⟩
    ·obtain rfl:b=F.length:=by omega
     have zP:Hid (M2=Qx [] (((aZ.take (a+1)).map (fun k=>Z.X k.toNat)).flatMap (· p))):=(by
      show _ = _;rw[wh.out,List.take_length,HM.out,oq.out,Qv,pW.out])
     go_wp2;go_roundg (gq-1)
     case measure=>have:=HG.out;omega
     case rel=>exact⟨a+1,lw,M2,by have:=HG.out;omega,by omega,congrArg (Value.int .i64) (by omega),zP,hW⟩
  ·obtain rfl:a=aZ.length:=by omega
   have zO:Hid (Z.X i p=M):=(by
    show _ = _;rw[l8.out,HM.out,List.take_length,Ml])
   obtain⟨al,cl,Ga⟩:=hW.wk.ll.ends.form;subst Ga;have c1:=hW.wk.ll.c1;go_wp2;go_ret;exact Js hW.wk kA zO.out
theorem ZhL{Ex:Nat->Prop}{Sb Sk:Nat}(hZ:Ms Z)(hE:uT Z i)(hF:zo Z S (i+1))(dW:dh Z.u.size 0 Z.G (Z.X i))(hk:x.1.kids = [(i:Int)])(n:Nat):H7 w0 Z S Ex Lb Sb Sk x i n:=by
 induction n with
 | zero=>intro w lv M sn p left gv ef hs how hgr hp hn;omega
 | succ n ih=>exact ZgA hZ hE hF dW hk ih
theorem Zoh(hZ:Ms Z)(hi:i<Z.ps.length)(hc:Z.ps[i]?=some c)(hkind:c.kind=4)(hE:∀j,j<i->uT Z j):zn Z i:=by
 intro w S Ex p hM hF hX hp;have hu:=hZ.iF;have cZ:=hZ.few;have jm:Z.L.length=Z.ps.length:=by rw[<- hZ.oH,List.length_map]
 have hlt:i<Z.L.length:=by omega
 obtain⟨gp,cp,hpv,oU⟩:=ZW hM.dM.row (by omega);have iL:nH w (.slice (some ⟨gp,0,none⟩) Z.L.length cp) Z.L:=by rw[<- hpv];exact hM.dM
 have hA:=J0 iL hlt;have how:=hM.dM.rows _ (List.getElem_mem hlt);have hxe:(Z.L[i]'hlt).1=c:=by
  have h1:Z.ps[i]?=some (Z.L[i]'hlt).1:=by rw[<- hZ.oH,List.getElem?_map,List.getElem?_eq_getElem hlt];rfl
  rw[hc] at h1;exact(Option.some.inj h1).symm
 have qz:Hid (Z.X i=gW Z.u c (fun k=>Z.X k.toNat)):=J9 hZ.kK hc;have hvp:=hZ.kK i c hc;have hset:=hZ.sets c (List.mem_of_getElem? hc);generalize Z.L[i]'hlt=x at hA how hxe;obtain⟨c',sv,kv⟩:=x;simp only at hxe;subst hxe;obtain⟨bR,cs1,he1⟩:=aj how.1;obtain⟨dJ,cs2,he2⟩:=aj how.2;simp only at he1 he2 hA;subst he1 he2;obtain⟨q0,q1,q2,q3,q4,q5,q6⟩:=hA;obtain⟨ck,aI,cm,cx,lz,cn,aZ⟩:=c';simp only at q0 q1 q2 q3 q4 q5 q6 hkind hvp hset how;subst hkind;have hiz:(i:Int)<(Z.L.length:Int):=by omega
 have m3:=hM.mc.c3;rw[hpv] at m3;have kA:Za ai w (w.alloc (.cells #[.int .i64 4,.slice bR aI.length cs1,.int .i64 cm,.int .i64 cx,.bool lz,.int .i64 cn,.slice dJ aZ.length cs2] 114)):=QT;have dF:(w.alloc (.cells #[.int .i64 4,.slice bR aI.length cs1,.int .i64 cm,.int .i64 cx,.bool lz,.int .i64 cn,.slice dJ aZ.length cs2] 114)).heap[w.heap.size]?=some (.cells #[.int .i64 4,.slice bR aI.length cs1,.int .i64 cm,.int .i64 cx,.bool lz,.int .i64 cn,.slice dJ aZ.length cs2] 114 (0,0)):=heap_alloc_new w _;have hem:=zy hZ (hM.same kA) (fun k hk=>Nat.lt_of_lt_of_le (hX k hk) kA.size);have dz:=how.same kA;have HX:Hid (∀k,Ex k->k<w.heap.size):=hX;go_enter Tryz.func94,Tryz.ntmps94;go_upto_region 2 with fail;generalize w.alloc (.cells #[.int .i64 4,.slice bR aI.length cs1,.int .i64 cm,.int .i64 cx,.bool lz,.int .i64 cn,.slice dJ aZ.length cs2] 114)=w1 at kA dF hem dz ⊢;generalize w.heap.size=P1 at dF ⊢;clear q0 q1 q2 q3 q4 q5 q6 m3 iL hpv oU how hX hM hc hlt jm hiz;go_upto_region 3 with(first|(go_at_call 125;refine hem.mono ?_;rintro e w2 ⟨Lb,Sb,rfl,hW,hk2⟩))
 have hW2:Wp w1 Z S Ex Lb Sb (.slice none 0 0) [] P1 ({ kind:=4,set:=aI,min:=cm,max:=cx,lazy:=lz,num:=cn,kids:=aZ },.slice bR aI.length cs1,.slice dJ aZ.length cs2) w2:=⟨hW,by rw[hk2.block P1 (lt_of_block dF) id];exact dF,dz.same hk2⟩;clear hem hW dF dz hk2;have x0:=hW2.x0;simp only at x0;obtain⟨hk1,hm0,OH,hmx,Og⟩:=hvp.rep rfl;simp only at hk1 hm0 OH hmx Og;obtain⟨kk,rfl⟩:=List.length_eq_one_iff.1 hk1;have hkk:=hvp.kids kk (by simp);obtain⟨j,rfl⟩:=Int.eq_ofNat_of_zero_le (show 0<=kk by omega);obtain⟨m,rfl⟩:=Int.eq_ofNat_of_zero_le hm0;have hj:j<i:=by omega
 have dW:=Il (u:=Z.u) hZ.kK j (by omega);have l8:Hid (Z.X i p=uS Z.u.size { least:=m,most:=if cx<0 then none else some cx.toNat,lazy:=lz } (Z.X j) p):=(by show _ = _;rw[qz.out];simp[gW,Xr]);simp only[List.length_singleton] at hW2 ⊢;obtain⟨g2,cap2,hv2,hg2⟩:=ZW hW2.ow.2 (by simp);simp only[List.length_singleton,Value.slice.injEq] at hv2;obtain⟨rfl,_,rfl⟩:=hv2;have hno:=D9 hW2.wk.mi.mc hZ.g9;go_upto_region 40 with(first|(go_at_call 128;refine hno.mono ?_;rintro e w3 ⟨gv,rfl,hgv,hk3,-⟩;obtain⟨ag,cg,rfl⟩:=aj hgv))
 have kB:=hk3.trans ((Za.refl _ w3).alloc (.cells #[.int .i64 (p:Int),.slice ag Z.G cg] 161));have hW3:=hW2.same kB;have ho3:=Zi5 hgv p;have hb3:w1.heap.size<=w3.heap.size:=Nat.le_trans hW2.wk.kp.size hk3.size;generalize w3.alloc (.cells #[.int .i64 (p:Int),.slice ag Z.G cg] 161)=w4 at hW3 ho3 kB ⊢;generalize w3.heap.size=B0 at ho3 hb3 ⊢;clear hno hgv hk3 hW2 x0 kB hvp hset hkk hk1;go_wp2;go_loopg [16,17] (m+1) (fun gl s16 s17 wr =>∃(a:Nat) (tv:Value) (La:En),a+gl=m+1/\a<=m/\s16=tv/\s17=.int .i64 (a:Int)/\Hid (La=lW [(p,dG)] (List.replicate a (Z.X j)))/\Qw wr Z.G tv La/\Wp w1 Z S Ex Lb Sb (.slice none 0 0) [] P1 ({ kind:=4,set:=aI,min:=(m:Int),max:=cx,lazy:=lz,num:=cn,kids := [(j:Int)] },.slice bR aI.length cs1,.slice (some ⟨g2,0,none⟩) 1 cs2) wr)
 case atStart=>exact⟨0,_,[(p,dG)],by omega,by omega,rfl,rfl,(by show _ = _;simp[lW]),ho3,hW3⟩
 case round =>
  clear hW3 ho3 hb3;obtain⟨a,tv,La,hgl,ha,rfl,rfl,Ck,qJ,hW⟩:=hrel;have HG:Hid (a+gk=m+1):=hgl;clear hgl;obtain⟨R6,RJ,Om⟩:=qJ.form;subst Om;have lI:(∀e∈La,nI Z.u.size 0 Z.G p e)/\(La.map (·.1)).Nodup:=by
   rw[Ck.out];exact⟨L6 (fun X hX=>by rw[List.eq_of_mem_replicate hX];exact dW) (fun e he=>by simp at he;subst he;exact zC (Nat.le_refl _) hp),Uk (by simp)⟩
  have hlen:=zt lI.2 (fun e he=>(lI.1 e he).2.1);have HIn:Hid (∀e∈La,e.1<=Z.u.size):=(by show∀_,_;exact fun e he=>(lI.1 e he).2.1);clear lI;have x2:=hW.x2;have x3:=hW.x3;have x6:=hW.x6;simp only at x2 x3 x6;have a0:wr.cell? (ak g2)=some (.int .i64 (j:Int)):=by
   have:=hW.ow.2.cellAt 0 (by simp)
   simpa [nY] using this
  by_cases hlt:a<m
  ·have hz:(a:Int)<(m:Int):=by omega
   have hcall:=Ziv hZ (hE j hj) hW.wk.mi (fun j2 q2 h1 h2=>hF j2 q2 (by omega) h2) (fun k hk=>by
    rcases hk with hk | hk
    ·exact Nat.lt_of_lt_of_le (hW.wk.ex k hk) hW.wk.kp.size
    ·simp[Value.ownBlock] at hk) qJ HIn.out (by omega) dW
   go_wp2_with(first|(go_at_call 130;refine hcall.mono ?_;rintro en w6 ⟨v6,rfl,hv6,hx6,OG,dN⟩;obtain⟨a6,c6,z8⟩:=hv6.form;subst z8))
   go_roundg (gk-1)
   case measure=>have:=HG.out;omega
   case rel=>exact⟨a+1,_,_,by have:=HG.out;omega,by omega,rfl,congrArg (Value.int .i64) (by omega),(by show _ = _;rw[Ck.out,List.replicate_succ',ZfW]),hv6,hW.tabs (hW.wk.tabs dN OG) dN⟩
  ·obtain rfl:a=m:=by omega
   have c4:=hW.wk.mi.mc.c4;have hmk:=Zen ((Z.u.size+1)*52) (by omega)
   push_cast at hmk
   obtain⟨lf,hlf⟩:∃lf,(if cx<0 then 51 else cx.toNat-a)=lf:=⟨_,rfl⟩;have OP:lf<=51:=by rw[<- hlf];split <;> omega
   have Ng:Hid ((if cx<0 then 51 else cx.toNat-a)=lf):=hlf;clear hlf;go_upto_region 45 with fail;have kA2:Za ai wr (wr.alloc (.cells (iV ((Z.u.size+1)*52) bq).toArray 4)):=QT;have xG:Bk (wr.alloc (.cells (iV ((Z.u.size+1)*52) bq).toArray 4)) wr.heap.size 4 (iV ((Z.u.size+1)*52) bq):=QC wr _ _;have qQ:=hW.same kA2;have Aa:=qJ.same kA2;have hs5:Fs w1 Z S Ex Lb Sb wr.heap.size (.slice none 0 0) [] (fun _ _=>false) (wr.alloc (.cells (iV ((Z.u.size+1)*52) bq).toArray 4)):=⟨qQ.wk,xG,hW.wk.kp.size,by have:=hW.wk.ll.lt2;omega⟩;have HP1:Hid (P1<wr.heap.size):=(by show _ < _;exact lt_of_block hW.o);generalize wr.alloc (.cells (iV ((Z.u.size+1)*52) bq).toArray 4)=w7 at kA2 xG qQ Aa hs5 ⊢;generalize wr.heap.size=Sk at xG hs5 HP1 ⊢;clear kA2 xG hW qJ hmk x2 x3 x6 a0 c4;have x2:=qQ.x2;have x3:=qQ.x3;simp only at x2 x3;go_upto_if 194 with fail;go_cut [19] (fun s19 wc=>s19=.int .i64 (lf:Int)/\w7=wc)
   case first =>
    by_cases hcx:cx<0
    ·have hz1:¬(0:Int)<=cx:=by omega
     have hl:lf=51:=by rw[<- Ng.out,if_pos hcx]
     subst hl;go_wp2_with fail;go_meet;exact⟨rfl,rfl⟩
    ·have hz1:(0:Int)<=cx:=by omega
     have HL2:Hid ((lf:Int)=cx-(a:Int)):=(by show _ = _;rw[<- Ng.out,if_neg hcx];omega);go_wp2_with fail;go_meet;exact⟨by rw[HL2.out],rfl⟩
   case rest =>
    obtain⟨rfl,rfl⟩:=hcut;have UX:Hid (Z.X i p=dd bq (bnd La (fun q=>fu Z.u.size (Z.X j) lz lf q))):=(by
     show _ = _;rw[l8.out,Ck.out];unfold uS Rp.left fu;simp only;rw[<- Ng.out]
     by_cases hcx:cx<0
     ·simp[hcx]
     ·simp[hcx])
    clear l8 Ng x2 x3 qz;have Az:=ZhL (w0:=w1) (Ex:=Ex) (Lb:=Lb) (Sb:=Sb) (Sk:=Sk) (x:=({ kind:=4,set:=aI,min:=(a:Int),max:=cx,lazy:=lz,num:=cn,kids := [(j:Int)] },.slice bR aI.length cs1,.slice (some ⟨g2,0,none⟩) 1 cs2)) hZ (hE j hj) (fun j2 q2 h1 h2=>hF j2 q2 (by omega) h2) dW rfl (Z.u.size+1);unfold H7 at Az;simp only at Az;have CO:w7.heap[P1]?=some (.cells #[.int .i64 4,.slice bR aI.length cs1,.int .i64 (a:Int),.int .i64 cx,.bool lz,.int .i64 cn,.slice (some ⟨g2,0,none⟩) 1 cs2] 114 (0,0)):=qQ.o;have FT:=qQ.ow;clear qQ;go_wp2;go_loopg [21,202] (La.length+1) (fun gl _ NG wi =>∃(b:Nat) (lw:Value) (M:En) (rO:Nat->Nat->Bool),b+gl=La.length+1/\b<=La.length/\NG=.int .i64 (b:Int)/\Hid (M=Qx [] (bnd (La.take b) (fun q=>fu Z.u.size (Z.X j) lz lf q)))/\Hid (ve Z.u.size (Z.X j) lz rO M 0)/\Fs w1 Z S Ex Lb Sb Sk lw M rO wi/\Qw wi Z.G (.slice R6 La.length RJ) La/\(∀k,(Value.slice R6 La.length RJ).ownBlock=some k->lw.ownBlock≠some k)/\wi.heap[P1]?=some (.cells #[.int .i64 4,.slice bR aI.length cs1,.int .i64 (a:Int),.int .i64 cx,.bool lz,.int .i64 cn,.slice (some ⟨g2,0,none⟩) 1 cs2] 114 (0,0))/\Jl wi ({ kind:=4,set:=aI,min:=(a:Int),max:=cx,lazy:=lz,num:=cn,kids := [(j:Int)] },.slice bR aI.length cs1,.slice (some ⟨g2,0,none⟩) 1 cs2))
    case atStart=>exact⟨0,_,[],_,by omega,by omega,rfl,(by show _ = _;simp[bnd,Qx,dd]),(by show ve _ _ _ _ _ _;exact fun q lf _ _ h=>by simp at h),hs5,Aa,fun k _ h=>by simp[Value.ownBlock] at h,CO,FT⟩
    case round =>
     clear hs5 Aa CO FT;obtain⟨b,lw,M,rO,jk,hb,rfl,HM,HCl,hs,qJ,htn,ho,how⟩:=hrel;have HG2:Hid (b+gk=La.length+1):=jk;clear jk
     by_cases hlt2:b<La.length
     ·have hz2:(b:Int)<(La.length:Int):=by omega
      obtain⟨g3,pq,ah,ch,hv3,hg3,a0,a1,hgr⟩:=qJ.at hlt2;simp only[Value.slice.injEq] at hv3;obtain⟨rfl,_,rfl⟩:=hv3;have hqe:=HIn.out La[b] (List.getElem_mem hlt2);have Eu:Hid (bnd (La.take (b+1)) (fun q=>fu Z.u.size (Z.X j) lz lf q)=bnd (La.take b) (fun q=>fu Z.u.size (Z.X j) lz lf q)++aY La[b] (fu Z.u.size (Z.X j) lz lf La[b].1)):=Zji La _ b hlt2;generalize La[b]=f at a0 a1 hgr hqe Eu;obtain⟨q,ef⟩:=f;simp only at a0 a1 hgr hqe Eu;have yu:Hid (Qx M (aY (q,ef) (fu Z.u.size (Z.X j) lz lf q))=Qx [] (bnd (La.take (b+1)) (fun q=>fu Z.u.size (Z.X j) lz lf q))):=(by show _ = _;rw[Eu.out,Qv,<- HM.out]);go_upto_region 51 with fail;have kB:Za ai wr (wr.alloc (.cells #[.int .i64 (q:Int),.slice ah Z.G ch] 161)):=QT;have hQ:Bk (wr.alloc (.cells #[.int .i64 (q:Int),.slice ah Z.G ch] 161)) wr.heap.size 161 [.int .i64 (q:Int),.slice ah Z.G ch]:=QC wr _ _;have CK:=hs.same kB;have Fj:=qJ.same kB;have dH:=hgr.same kB;have xm:(wr.alloc (.cells #[.int .i64 (q:Int),.slice ah Z.G ch] 161)).heap[P1]?=some (.cells #[.int .i64 4,.slice bR aI.length cs1,.int .i64 (a:Int),.int .i64 cx,.bool lz,.int .i64 cn,.slice (some ⟨g2,0,none⟩) 1 cs2] 114 (0,0)):=by rw[kB.block P1 (lt_of_block ho) id];exact ho
      have xh:=how.same kB;generalize wr.alloc (.cells #[.int .i64 (q:Int),.slice ah Z.G ch] 161)=wa at kB hQ CK Fj dH xm xh ⊢;generalize wr.heap.size=Q at hQ ⊢;clear kB hs qJ hgr a0 a1 hg3 ho how;have q0:wa.cell? (ak Q)=some (.int .i64 (q:Int)):=by rw[hQ.cell];rfl
      have q1:wa.cell? ⟨Q,1,none⟩=some (.slice ah Z.G ch):=by rw[hQ.cell];rfl
      have x0:wa.cell? (ak P1)=some (.int .i64 4):=by rw[Zc xm];rfl
      have x1:wa.cell? ⟨P1,1,none⟩=some (.slice bR aI.length cs1):=by rw[Zc xm];rfl
      have x2:wa.cell? ⟨P1,2,none⟩=some (.int .i64 (a:Int)):=by rw[Zc xm];rfl
      have x3:wa.cell? ⟨P1,3,none⟩=some (.int .i64 cx):=by rw[Zc xm];rfl
      have x4:wa.cell? ⟨P1,4,none⟩=some (.bool lz):=by rw[Zc xm];rfl
      have x5:wa.cell? ⟨P1,5,none⟩=some (.int .i64 cn):=by rw[Zc xm];rfl
      have x6:wa.cell? ⟨P1,6,none⟩=some (.slice (some ⟨g2,0,none⟩) 1 cs2):=by rw[Zc xm];rfl
      have hcall:=Az wa lw M rO q lf _ ef CK xh dH hqe (by omega) OP (fun q2 l2 _ h2 h3=>HCl.out q2 l2 (by omega) h2 h3);go_wp2_with(first|(go_at_call 131;refine hcall.mono ?_;rintro en wy ⟨rfl,ly,Nt,hsy,hny,xw⟩;have hse:=CK.sP xw Fj htn))
      go_roundg (gk-1)
      case measure=>have:=HG2.out;omega
      case rel=>exact⟨b+1,ly,_,Nt,by have:=HG2.out;omega,by omega,congrArg (Value.int .i64) (by omega),yu,Zjd HCl.out hny,hsy,hse.1,hse.2,CK.yH xw xm (by decide),⟨CK.qa xw xh.1 (by decide),CK.qa xw xh.2 (by decide)⟩⟩
     ·obtain rfl:b=La.length:=by omega
      have zO:Hid (Z.X i p=M):=(by
       show _ = _;rw[UX.out,HM.out,List.take_length,Ml])
      obtain⟨al,cl,Ga⟩:=hs.wk.ll.ends.form;subst Ga;have c1:=hs.wk.ll.c1;go_wp2;go_ret;exact Js hs.wk kA zO.out
def r9 (ps:List Pc):Prop :=∀c∈ps,1<=c.kind/\c.kind<=7
theorem IE{a b:List Pc}(ha:r9 a)(hb:r9 b):r9 (a++b):=fun c hc=>(List.mem_append.1 hc).elim (ha c) (hb c)
theorem Yl{fs:List Pf}(h:∀f∈fs,∀n,r9 (f n)):∀n,r9 (cat fs n):=by
 induction fs with
 | nil=>intro n c h;simp[cat] at h
 | cons f fs ih =>
   intro n;simp only[cat];exact IE (h f (by simp) n) (ih (fun g hg=>h g (by simp[hg])) _)
theorem BQ(h1:1<=c.kind)(h2:c.kind<=7):r9 [c]:=fun d hd=>by simp at hd;subst hd;exact⟨h1,h2⟩
theorem Zt3{lo hi:Nat}{f:Pf}(h:Fg lo hi f):∀n,r9 (f n) :=
 h (fun _ _ f =>∀n,r9 (f n))
   ⟨fun _ _ S n=>BQ (by simp[lQ]) (by simp[lQ]),fun _ _ n=>BQ (by decide) (by decide),fun _ _ n=>BQ (by decide) (by decide),
    fun _ _ fs _ ih n=>IE (Yl ih n) (BQ (by simp[ZL]) (by simp[ZL])),fun _ _ fs _ ih n=>IE (Yl ih n) (BQ (by simp[ZL]) (by simp[ZL])),
    fun _ _ f a b lz _ _ _ _ ih n=>IE (ih n) (BQ (by simp) (by simp)),fun _ _ f _ ih n=>IE (ih n) (BQ (by simp) (by simp)),fun _ _ _ _ f _ _ ih=>ih⟩
theorem Zp1(hZ:Ms Z)(hK:r9 Z.ps):∀i,i<Z.ps.length->uT Z i:=by
 intro i
 induction i using Nat.strongRecOn with
 | ind i ih =>
   intro hi;have hc:Z.ps[i]?=some Z.ps[i]:=List.getElem?_eq_getElem hi;have hE:∀j,j<i->uT Z j:=fun j hj=>ih j hj (by omega);refine ZgG hZ hi ?_;have hk:=hK Z.ps[i] (List.getElem_mem hi)
   rcases(show Z.ps[i].kind=1\/Z.ps[i].kind=2\/Z.ps[i].kind=3\/Z.ps[i].kind=4\/Z.ps[i].kind=5\/Z.ps[i].kind=6\/Z.ps[i].kind=7 from by omega) with h | h | h | h | h | h | h
   ·exact Zof hZ hi hc h
   ·exact Zog hZ hi hc h hE
   ·exact Zok hZ hi hc h hE
   ·exact Zoh hZ hi hc h hE
   ·exact Zoi hZ hi hc h hE
   ·exact Zjx hZ hi hc h
   ·exact Zoj hZ hi hc h
end Go.Proofs.YtfkflljplohhcaaGreatDoor
