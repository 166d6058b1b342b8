import Derived.Test.YtfkflljplohhcaaGreatDoorYj
set_option linter.unusedVariables false
set_option maxHeartbeats 800000
set_option maxRecDepth 100000
namespace Go.Proofs.YtfkflljplohhcaaGreatDoor
open Go.RowKit
variable {w:World}{Ab Kb p kr c base g fn:Nat}{ao:Option Addr}{Q:Ending->World->Prop}{cap:Array Value}{e ty:TypeId}{xs:List Value}{y:Value}
theorem ZrU{Sb n cap:Nat}{l:Nat}(hp:p<=200)(hpn:p<n)(cA:w.cell? ⟨Ab,p,none⟩=some (.bool true))(cK:w.cell? (ak Kb)=some (.slice (some ⟨kr,0,none⟩) n cap))(cR:w.cell? ⟨kr,p,none⟩=some (.slice ao l c))(hQ:Q (.returned (.slice ao l c)) w):
  au 138 (#[.int .i64 (p:Int)]++#[ae Ab,ae Sb,ae Kb]) w Q:=by
 have hpz:(p:Int)<201:=by omega
 have hnz:(p:Int)<(n:Int):=by omega
 go_enter Tryz.func138,Tryz.ntmps138;go_wp2_with fail;exact hQ
theorem ZrV{Sb X m n cap:Nat}{R2:World->Prop}{R3:Nat->Nat->World->Prop}(hp:p<=200)(hpn:p<n)(cA:w.cell? ⟨Ab,p,none⟩=some (.bool false))(fA:w.frozen? ⟨Ab,p,none⟩=false)
  (c1:(w.setCell ⟨Ab,p,none⟩ (.bool true)).cell? (ak Sb)=some ((ae X))) (c2:(w.setCell ⟨Ab,p,none⟩ (.bool true)).cell? ⟨X,3,none⟩=some (.map (some m)))
  (AL:au 139 #[.agg #[.map (some m)]] (w.setCell ⟨Ab,p,none⟩ (.bool true)) (fun e w2=>e=.returned (.tuple #[])/\Hid (R2 w2)/\w2.cell? (ak Kb)=some (.slice (some ⟨kr,0,none⟩) n cap)/\w2.cell? (ak Sb)=some ((ae X))))
  (yR:∀w2 w3,R2 w2->Za ai w2 w3->au 71 #[ae X,.int .i64 (p:Int)] w3 (fun e w4 =>∃A P,e=.returned (.func (.func 90) #[] #[ae A,ae P])/\Hid (R3 A P w4)/\(w4.cell? (ak Kb)=some (.slice (some ⟨kr,0,none⟩) n cap)/\w4.cell? (ak Sb)=some ((ae X)))))
  (Ph:∀A P w3 w4,R3 A P w3->Za ai w3 w4->au 140 #[.func (.func 90) #[] #[ae A,ae P]] w4 (fun e w5 =>∃ao l c u,e=.returned (.slice ao l c)/\w5.cell? ⟨kr,p,none⟩=some u/\w5.frozen? ⟨kr,p,none⟩=false/\(w5.setCell ⟨kr,p,none⟩ (.slice ao l c)).cell? (ak Kb)=some (.slice (some ⟨kr,0,none⟩) n cap)/\(w5.setCell ⟨kr,p,none⟩ (.slice ao l c)).cell? (ak Sb)=some ((ae X))/\(w5.setCell ⟨kr,p,none⟩ (.slice ao l c)).cell? ⟨kr,p,none⟩=some (.slice ao l c)/\Q (.returned (.slice ao l c)) (w5.setCell ⟨kr,p,none⟩ (.slice ao l c))/\(w5.cell? (ak Kb)=some (.slice (some ⟨kr,0,none⟩) n cap)/\w5.cell? (ak Sb)=some ((ae X))))) :
  au 138 (#[.int .i64 (p:Int)]++#[ae Ab,ae Sb,ae Kb]) w Q:=by
 have hpz:(p:Int)<201:=by omega
 have hnz:(p:Int)<(n:Int):=by omega
 go_enter Tryz.func138,Tryz.ntmps138;go_upto_region 3 with fail;generalize (w.setCell ⟨Ab,p,none⟩ (.bool true))=w1 at c1 c2 AL ⊢;clear cA fA;go_upto_region 4 with(go_at_call 139;refine AL.mono ?_;rintro e w2 ⟨rfl,HR2,hK2,hS2⟩);have AB:=yR w2 w2.drew HR2.out (Za.refl _ _).drew;have hS0:(w2.drew.cell? (ak Kb)=some (.slice (some ⟨kr,0,none⟩) n cap)/\w2.drew.cell? (ak Sb)=some ((ae X))):=⟨hK2,hS2⟩;clear hK2 hS2 c1 c2 yR AL;go_region_held3 (fun w'=>(w'.cell? (ak Kb)=some (.slice (some ⟨kr,0,none⟩) n cap)/\w'.cell? (ak Sb)=some ((ae X)))) (first | assumption | go_keep) (first|(go_at_call 71;refine AB.mono ?_;rintro e w4 ⟨A,P,rfl,HR3,dE⟩;have Gv:=Ph A P w4 w4 HR3.out (Za.refl _ _))|(go_at_call 140;refine Gv.mono ?_;rintro e w5 ⟨ao,l,c,u,rfl,cu,fu,ck,cs,cr,hQ,hS5⟩;have hst:(store ⟨kr,p,none⟩ (.slice ao l c)).run Tryz.prog w5=.ok () (w5.setCell ⟨kr,p,none⟩ (.slice ao l c)):=(by rw[run_store _ _ _ _ _ rfl];simp[cu,fu,go_sem])))
 all_goals (try go_wp2_with fail)
 all_goals exact hQ
theorem YM{size n cap:Nat}(h:w.ownsRow base e size (.slice (some ⟨g,0,none⟩) n cap) n xs)(j:Nat)(v:Value):(w.setCell ⟨g,j,none⟩ v).ownsRow base e size (.slice (some ⟨g,0,none⟩) n cap) n (xs.set j v):=by
 obtain⟨h1,h2⟩:=h;refine⟨by simpa using h1,Or.inr ?_⟩
 rcases h2 with⟨h2,_⟩ | ⟨g',cap',cur,hv,hg,hh,hc,hm,hs,ht⟩
 ·simp at h2
 ·simp only[Value.slice.injEq,Option.some.injEq,Addr.mk.injEq,and_true,true_and] at hv;obtain⟨rfl,rfl⟩:=hv;refine⟨g,cap,cur.setIfInBounds j v,rfl,hg,?_,hc,hm,by simpa using hs,?_⟩
  ·rw[heap_setCell_same _ _ _ _ _ _ hh]
  ·rw[<- ht];simp only[Array.toList_setIfInBounds];rw[List.take_set]
theorem L8{size n cap:Nat}(h:w.ownsRow base e size (.slice (some ⟨g,0,none⟩) n cap) n xs)(j:Nat):w.frozen? ⟨g,j,none⟩=false/\g<w.heap.size:=by
 obtain⟨h1,h2⟩:=h
 rcases h2 with⟨h2,_⟩ | ⟨g',cap',cur,hv,hg,hh,hc,hm,hs,ht⟩
 ·simp at h2
 ·simp only[Value.slice.injEq,Option.some.injEq,Addr.mk.injEq,and_true,true_and] at hv;obtain⟨rfl,rfl⟩:=hv;exact⟨Zv hh,lt_of_block hh⟩
abbrev Kf:=Nat->Option (Value×List Em)
def qb (K:Kf) (n:Nat):List Value:=(List.range n).map fun p=>match K p with | none => .slice none 0 0 | some x=>x.1
def pG (A:Nat->Bool):List Value:=(List.range 201).map fun p => .bool (A p)
def vP (K:Kf) (p:Nat) (x:Value×List Em):Kf:=fun q=>if q=p then some x else K q
theorem Iu(K:Kf)(n:Nat):(qb K n).length=n:=by simp[qb]
theorem LF(K:Kf){n:Nat}(hp:p<n):(qb K n)[p]?=some (match K p with | none => .slice none 0 0 | some x=>x.1):=by simp[qb,hp]
theorem Zsh(K:Kf)(n p:Nat)(x:Value×List Em):(qb K n).set p x.1=qb (vP K p x) n:=by
 apply List.ext_getElem?;intro i;rw[List.getElem?_set]
 by_cases hi:i<n
 ·rw[LF _ hi,LF _ hi]
  by_cases h:p=i
  ·subst h;simp[Iu,hi,vP]
  ·rw[if_neg h];simp[vP,Ne.symm h]
 ·rw[List.getElem?_eq_none (l:=qb (vP K p x) n) (by rw[Iu];omega),List.getElem?_eq_none (l:=qb K n) (by rw[Iu];omega)]
  split
  ·rename_i h;subst h;simp[Iu,hi]
  ·rfl
theorem SC(A:Nat->Bool)(hp:p<=200):(pG A)[p]?=some (.bool (A p)):=by simp[pG,show p<201 by omega]
theorem ZsT(A:Nat->Bool)(p:Nat):(pG A).set p (.bool true)=pG (fun q=>if q=p then true else A q):=by
 apply List.ext_getElem?;intro i;rw[List.getElem?_set]
 by_cases hi:i<=200
 ·rw[SC _ hi,SC _ hi]
  by_cases h:p=i
  ·subst h;simp[pG];omega
  ·rw[if_neg h];simp[Ne.symm h]
 ·rw[List.getElem?_eq_none (l:=pG (fun q=>if q=p then true else A q)) (by simp[pG];omega),List.getElem?_eq_none (l:=pG A) (by simp[pG];omega)]
  split
  ·rename_i h;subst h;simp[pG];omega
  ·rfl
structure Kn where
 kr:Nat
 Ab:Nat
 N:Nat
 G:Nat
 X:Xs
def vY (κ:Kn) (K:Kf) (A:Nat->Bool):aO:=fun w F Fr =>
 (w.ownsRow 0 221 1 (.slice (some ⟨κ.kr,0,none⟩) (κ.N+1) (κ.N+1)) (κ.N+1) (qb K (κ.N+1))/\w.heap[κ.Ab]?=some (.cells (pG A).toArray 245 (0,0)))/\(∀k,Fr k↔k = κ.kr\/k = κ.Ab)/\F κ.kr/\F κ.Ab/\κ.kr≠κ.Ab/\
  ∀p v M,K p=some (v,M)->yC w F v M/\M.map (fun x=>(x.1,x.2.1))=(κ.X p).map (fun e=>(e.1,ap e.2 (eG κ.G)))
theorem DJ(κ:Kn)(K:Kf)(A:Nat->Bool):Zs (vY κ K A):=by
 refine⟨?_,?_⟩
 ·rintro w F Fr ⟨⟨h1,h2⟩,h3,h4,h5,h6,h7⟩ k hk
  rcases(h3 k).1 hk with rfl | rfl
  ·exact⟨h4,(L8 h1 0).2⟩
  ·exact⟨h5,lt_of_block h2⟩
 ·rintro w w' F F' Fr ⟨⟨h1,h2⟩,h3,h4,h5,h6,h7⟩ l hF hk;refine⟨⟨QJ h1 (fun k h=>?_),by rw[hk _ ((h3 _).2 (Or.inr rfl))];exact h2⟩,h3,hF _ ((h3 _).2 (Or.inl rfl)),hF _ ((h3 _).2 (Or.inr rfl)),h6,fun p v M h=>⟨(h7 p v M h).1.later l,(h7 p v M h).2⟩⟩;simp[Value.ownBlock] at h;subst h;exact hk _ ((h3 _).2 (Or.inl rfl))
def R9 (C:Cx) (ρ:Rx) (κ:Kn) (mine:List aO):aO:=fun w F Fr =>∃(T:Tt) (tl:Value) (K:Kf),Zr (aR C ρ tl T::vY κ K (fun p=>(K p).isSome)::mine) w F Fr
variable {C:Cx}{ρ:Rx}
theorem Jo{κ:Kn}{mine:List aO}(ha:∀R∈mine,Zs R)(T:Tt)(tl:Value)(K:Kf)(A:Nat->Bool):∀R∈(aR C ρ tl T::vY κ K A::mine),Zs R:=by
 intro R hR
 rcases List.mem_cons.1 hR with rfl | hR
 ·exact QA _ _ _ _
 ·rcases List.mem_cons.1 hR with rfl | hR
  ·exact DJ _ _ _
  ·exact ha R hR
theorem ZrW{κ:Kn}{mine:List aO}(ha:∀R∈mine,Zs R):Zs (R9 C ρ κ mine):=by
 refine⟨?_,?_⟩
 ·rintro w F Fr ⟨T,tl,K,h⟩;exact(ZT (Jo ha T tl K _)).lt h
 ·rintro w w' F F' Fr ⟨T,tl,K,h⟩ l hF hk;exact⟨T,tl,K,(ZT (Jo ha T tl K _)).frame h l hF hk⟩
theorem rC.ctx{C':Cx}{F:az}{fv:Value}{X:Xs}{R:aO}(h:rC C w F fv X R)(hu:C'.u=C.u)(hG:C'.G=C.G):rC C' w F fv X R:=by
 unfold rC at h ⊢;rw[hu,hG];exact h
theorem Zo0{κ:Kn}{mine:List aO}{B:Option Bo}{w0:World}{F0:az}{Sb lo hi:Nat}(hS:ja C w0 F0 ρ.bg κ.X B mine)(hSb:di w0 F0 Sb 52 ((ae C.X)))(hKb:di w0 F0 Kb 244 (.slice (some ⟨κ.kr,0,none⟩) (κ.N+1) (κ.N+1)))(hpn : ρ.pn = [])(hN : κ.N=C.u.size)(hG : κ.G=C.G)(hu:C.u.size<=200)(hX:dh C.u.size lo hi κ.X):
  rC C w0 F0 (.func (.func 138) #[] #[.pointer (some ⟨κ.Ab,0,none⟩),ae Sb,ae Kb]) κ.X (R9 C ρ κ mine):=by
 refine⟨_,_,rfl,fun _ _=>by kernel_rfl,?_⟩;rintro w F l aW Fr p ⟨T,tl,K,hR⟩ hp;have hS1:=hS.later l;have uy:=hSb.later l;have uD:=hKb.later l;have hok:=ZT (Jo (C:=C) (ρ := ρ) (κ := κ) hS.ok T tl K (fun p=>(K p).isSome));have eX:∀k,Fr k->F k:=fun k hk=>(hok.lt hR k hk).1;obtain⟨FK,FS,hA⟩:=Zo.1 (Zy hR);obtain⟨⟨r1,r2⟩,r3,r4,r5,r6,r7⟩:=id hA.one;have tV:p<=200:=by omega
 have cA:w.cell? ⟨κ.Ab,p,none⟩=some (.bool (K p).isSome):=by rw[Zc r2];simpa using SC (fun p=>(K p).isSome) tV
 have cR:=r1.cellAt p (by omega);rw[LF K (by omega)] at cR
 cases hK:K p with
 | some x =>
   obtain⟨v,M⟩:=x;rw[hK] at cA cR;obtain⟨nU,hM⟩:=r7 p v M hK;obtain⟨ao,cap,eZ⟩:=nU.form;refine ZrU (ao:=ao) (l:=M.length) (c:=cap) tV (by omega) cA uD.cell (by rw[cR,<- eZ]) ?_;exact⟨_,M,F,Fr,rfl,⟨T,tl,K,hR⟩,aJ.refl eX,by rw[<- eZ];exact nU,by rw[hM,hG]⟩
 | none =>
   rw[hK] at cA;have hk1:Za (fun k=>k = κ.Ab) w (w.setCell ⟨κ.Ab,p,none⟩ (.bool true)):=Zh w _ _ _;have hl1:aH w F (w.setCell ⟨κ.Ab,p,none⟩ (.bool true)) F:=⟨hk1.mono (fun k _ e=>e ▸ r5),fun k h=>Or.inl h⟩;have P7:vY κ K (fun q=>if q=p then true else (K q).isSome) (w.setCell ⟨κ.Ab,p,none⟩ (.bool true)) F FK:=by
    refine⟨⟨QJ r1 (fun k h=>?_),?_⟩,r3,r4,r5,r6,fun q v M h=>⟨(r7 q v M h).1.later hl1,(r7 q v M h).2⟩⟩
    ·simp[Value.ownBlock] at h;subst h;exact Q8 r6
    ·rw[heap_setCell_same _ _ _ _ _ _ r2,<- ZsT];simp
   have t1:aJ w F FK (w.setCell ⟨κ.Ab,p,none⟩ (.bool true)) F FK:=aJ.same (fun k hk=>((DJ _ _ _).lt hA.one k hk).1) (hk1.mono (fun k _ e=>(r3 k).2 (Or.inr e)));obtain⟨hA1,t1'⟩:=hA.upd (DJ _ _ _) (pK hS.ok _ _ _ _) t1 P7;have aK:Zr (aR C ρ tl T::vY κ K (fun q=>if q=p then true else (K q).isSome)::mine) (w.setCell ⟨κ.Ab,p,none⟩ (.bool true)) F _:=Zy (Zo.2 ⟨_,_,hA1⟩);have hok1:∀tl T,Zs (Zr (vY κ K (fun q=>if q=p then true else (K q).isSome)::mine)):=fun tl T=>ZT (fun R hR=>(Jo (C:=C) (ρ := ρ) hS.ok T tl K _) R (List.mem_cons.2 (Or.inr hR)));obtain⟨Fs1,Fk1,hB1⟩:=Zo.1 aK;have PE:Se (w.setCell ⟨κ.Ab,p,none⟩ (.bool true)) C ρ.jn ρ.bg tl:=hB1.one.choose_spec.1;refine ZrV (X:=C.X) (m:=C.m) (kr := κ.kr) (n := κ.N+1) (cap := κ.N+1)
    (R2:=fun w2 =>∃F2 bf,Zr (aR C ρ tl iP::vY κ K (fun q=>if q=p then true else (K q).isSome)::mine) w2 F2 bf/\aJ w F Fr w2 F2 bf)
    (R3:=fun A P w2 =>∃F2 bf,Zr (aR C ρ tl iP::vY κ K (fun q=>if q=p then true else (K q).isSome)::mine) w2 F2 bf/\aJ w F Fr w2 F2 bf/\di w2 F2 A 52 ((ae C.X))/\di w2 F2 P 3 (.int .i64 (p:Int)))
    tV (by omega) cA (Zv r2) (uy.later hl1).cell PE.c3 ?_ ?_ ?_
   ·refine(Zno hB1.one hpn).mono ?_;rintro e w2 ⟨rfl,F2,Fs2,g1,g2⟩;obtain⟨p1,p2⟩:=hB1.upd (QA _ _ _ _) (hok1 tl T) g2 g1;have t2:=t1'.trans p2;have l2:=t2.dm eX;exact⟨rfl,⟨F2,_,Zo.2 ⟨_,_,p1⟩,t2⟩,(uD.later l2).cell,(uy.later l2).cell⟩
   ·rintro w2 w3 ⟨F2,bf,g1,g2⟩ k3;have lg:=ZT (Jo (C:=C) (ρ := ρ) (κ := κ) hS.ok iP tl K (fun q=>if q=p then true else (K q).isSome));have lK:Fb w2 F2:=aW.vk g2 (fun k hk=>(lg.lt g1 k hk).2);refine(Zi6 (C:=C) (p:=(p:Int))).mono ?_;rintro e w4 ⟨rfl,b1,b2,k4⟩;have k24:=k3.trans k4;have hF2:∀k,bf k->F2 k:=fun k hk=>(lg.lt g1 k hk).1;have g1':=lg.frame g1 (aH.ay k24) hF2 (fun k hk=>k24.block k (lg.lt g1 k hk).2 id);have t4:aJ w F Fr w4 F2 bf:=g2.trans (aJ.ay hF2 k24);have l4:=t4.dm eX;have hbig:∀k,w3.heap.size<=k->¬F2 k:=fun k hk h=>by have:=lK k h;have:=k3.size;omega
    exact⟨_,_,rfl,⟨F2,bf,g1',t4,⟨b1,hbig _ (Nat.le_refl _)⟩,⟨b2,hbig _ (by omega)⟩⟩,(uD.later l4).cell,(uy.later l4).cell⟩
   ·rintro A P w3 w4 ⟨F2,bf,g1,g2,b1,b2⟩ k4;have lg:=ZT (Jo (C:=C) (ρ := ρ) (κ := κ) hS.ok iP tl K (fun q=>if q=p then true else (K q).isSome));have hF2:∀k,bf k->F2 k:=fun k hk=>(lg.lt g1 k hk).1;have g1':=lg.frame g1 (aH.ay k4) hF2 (fun k hk=>k4.block k (lg.lt g1 k hk).2 id);have t4:aJ w F Fr w4 F2 bf:=g2.trans (aJ.ay hF2 k4);have l4:=t4.dm eX;have o9:Fb w4 F2:=aW.vk t4 (fun k hk=>(lg.lt g1' k hk).2);obtain⟨Vo,FS4,WV⟩:=Zo.1 (Zy g1');refine(ZhZ (hS1.later l4) (b1.later (aH.ay k4)) (b2.later (aH.ay k4)) o9 WV.two hp hu X8 hX).mono ?_;rintro e w5 ⟨v,M,T',tv,F5,gK,rfl,c1,c2,c3,c4⟩;obtain⟨p1,p2⟩:=WV.swap.upd (pK hS.ok _ _ _ _) (DJ _ _ _) c2 c1;have t5:=t4.trans p2;have l5:=t5.dm eX;obtain⟨⟨s1,s2⟩,s3,s4,s5,s6,s7⟩:=id p1.two;obtain⟨ao,cap,eZ⟩:=c3.form;have dN:Za (fun k=>k = κ.kr) w5 (w5.setCell ⟨κ.kr,p,none⟩ v):=Zh w5 _ _ _;have l6:aH w5 F5 (w5.setCell ⟨κ.kr,p,none⟩ v) F5:=⟨dN.mono (fun k _ e=>e ▸ s4),fun k h=>Or.inl h⟩;have cs1:=s1.cellAt p (by omega);rw[LF K (by omega),hK] at cs1;have P6:vY κ (vP K p (v,M)) (fun q=>(vP K p (v,M) q).isSome) (w5.setCell ⟨κ.kr,p,none⟩ v) F5 Vo:=by
     refine⟨⟨?_,?_⟩,s3,s4,s5,s6,fun q v' M' h=>?_⟩
     ·rw[<- Zsh];exact YM s1 p v
     ·have e:(fun q=>if q=p then true else (K q).isSome)=(fun q=>(vP K p (v,M) q).isSome):=by funext q;unfold vP;by_cases hq:q=p <;> simp[hq]
      rw[Q8 (Ne.symm s6),<- e];exact s2
     ·unfold vP at h
      split at h
      ·rename_i hq;subst hq;simp at h;obtain⟨rfl,rfl⟩:=h;exact⟨c3.later l6,by rw[c4,hG]⟩
      ·exact⟨(s7 q v' M' h).1.later l6,(s7 q v' M' h).2⟩
    have t6:aJ w5 F5 Vo (w5.setCell ⟨κ.kr,p,none⟩ v) F5 Vo:=aJ.same (fun k hk=>((DJ _ _ _).lt p1.two k hk).1) (dN.mono (fun k _ e=>(s3 k).2 (Or.inl e)));obtain⟨q1,q2⟩:=p1.swap.upd (DJ _ _ _) (pK hS.ok _ _ _ _) t6 P6;refine⟨ao,M.length,cap,_,by rw[eZ],cs1,(L8 s1 p).1,?_,?_,?_,?_,(uD.later l5).cell,(uy.later l5).cell⟩
    ·rw[<- eZ];exact(uD.later (l5.trans l6)).cell
    ·rw[<- eZ];exact(uy.later (l5.trans l6)).cell
    ·rw[<- eZ]
     have:=(YM s1 p v).cellAt p (by omega)
     rw[this,List.getElem?_set_self (by rw[Iu];omega)]
    ·rw[<- eZ];exact⟨v,M,F5,_,rfl,⟨T',tv,vP K p (v,M),Zy (Zo.2 ⟨_,_,q1⟩)⟩,t5.trans q2,c3.later l6,c4⟩
theorem Tryz.qG:(Tryz.prog.info? 221).map (fun i=>(i.zero,i.size,i.bytes))=some (some (.slice none 0 0),1,24):=by kernel_rfl
theorem Zvd:Tryz.zeroCells245=(pG fun _=>false).toArray:=by kernel_rfl
def wP:Kf:=fun _=>none
theorem Zj1(n:Nat)(hn:n<=1000000)(w:World):∃w',(Instr.makeSlice 244 (.int .i64 (n:Int)) (.int .i64 (n:Int))).run Tryz.prog w=.ok (.slice (some ⟨w.heap.size,0,none⟩) n n) w'/\w'.ownsRow 0 221 1 (.slice (some ⟨w.heap.size,0,none⟩) n n) n (qb wP n)/\Za ai w w':=by
 obtain⟨i0,hi,hz0,hz1,hz2⟩:=info_parts Tryz.qG;obtain⟨w1,hmk,hrow,hgrow⟩:=run_make_full (P:=Tryz.prog) w 0 244 221 i0 (.slice none 0 0) 1 Tryz.underlying244 hi hz0 hz1 .i64 .i64 n (by rw[hz2];omega) (by unfold maxLen;omega) (Nat.zero_le _);refine⟨w1,hmk,?_,(Za.refl _ _).grown hgrow (by simp)⟩;have e:(madeCells (Value.cells (.slice none 0 0)) (n*1)).toList=qb wP n:=by
  rw[Nat.mul_one];refine(toList_madeCells_one _ _).trans ?_;simp[qb,wP,List.map_const']
 rw[e] at hrow;exact hrow
theorem Zd2{jn:Int}{bg tl:Value}(h:Se w C jn bg tl)(hu:C.u.size<=200):
  au 108 #[ae C.X] w fun e w' =>∃Ab Sb Kb kr,e=.returned (.func (.func 138) #[] #[ae Ab,ae Sb,ae Kb])/\(w.heap.size<=Ab/\w.heap.size<=Sb/\w.heap.size<=Kb/\w.heap.size<=kr/\kr≠Ab/\kr≠Sb/\kr≠Kb/\Ab≠Sb/\Ab≠Kb)/\aP w' Sb 52 ((ae C.X))/\aP w' Kb 244 (.slice (some ⟨kr,0,none⟩) (C.u.size+1) (C.u.size+1))/\w'.ownsRow 0 221 1 (.slice (some ⟨kr,0,none⟩) (C.u.size+1) (C.u.size+1)) (C.u.size+1) (qb wP (C.u.size+1))/\w'.heap[Ab]?=some (.cells (pG fun _=>false).toArray 245 (0,0))/\Za ai w w':=by
 have mR:∀(fn:Fn) (first cap:Array Value) (w:World),(Instr.makeFunc fn first cap).run Tryz.prog w=.ok (.func fn first cap) w:=fun _ _ _ _=>rfl;have b1:aP (w.alloc (.cells #[ae C.X] 52)) w.heap.size 52 ((ae C.X)):=heap_alloc_new _ _;have k1:Za ai w (w.alloc (.cells #[ae C.X] 52)):=(Za.refl _ w).alloc _;have c0:=(h.same (k1.block C.X h.lt id)).c0;clear h;go_enter Tryz.func108,Tryz.ntmps108;go_upto_region 1 with fail;have s1:=b1.lt;generalize (w.alloc (.cells #[ae C.X] 52))=w1 at b1 k1 c0 s1 ⊢;have cb:=b1.cell;obtain⟨w2,hmk,hrow,k2⟩:=Zj1 (C.u.size+1) (by omega) w1;have hz:((C.u.size:Nat):Int)+1=((C.u.size+1:Nat):Int):=by push_cast;rfl
 have hwr:IntKind.i64.wrap ((C.u.size:Int)+1)=((C.u.size+1:Nat):Int):=by rw[hz];exact IntWalk.i64_in _ ⟨by omega,by omega⟩
 have s2:=(L8 hrow 0).2;have k3:Za ai w2 (w2.alloc (.cells #[.slice (some ⟨w1.heap.size,0,none⟩) (C.u.size+1) (C.u.size+1)] 244)):=(Za.refl _ w2).alloc _;have b3:aP (w2.alloc (.cells #[.slice (some ⟨w1.heap.size,0,none⟩) (C.u.size+1) (C.u.size+1)] 244)) w2.heap.size 244 (.slice (some ⟨w1.heap.size,0,none⟩) (C.u.size+1) (C.u.size+1)):=heap_alloc_new _ _;have hN:=k1.size;generalize hN1:C.u.size+1=N1 at *;have HN1:Hid (C.u.size+1=N1):=hN1;clear hN1;go_upto_region 2 with fail;have s3:=b3.lt;generalize (w2.alloc (.cells #[.slice (some ⟨w1.heap.size,0,none⟩) N1 N1] 244))=w3 at b3 k3 s3 ⊢;have k4:Za ai w3 (w3.alloc (.cells Tryz.zeroCells245 245)):=(Za.refl _ w3).alloc _;have b4:(w3.alloc (.cells Tryz.zeroCells245 245)).heap[w3.heap.size]?=some (.cells (pG fun _=>false).toArray 245 (0,0)):=(by rw[<- Zvd];exact heap_alloc_new w3 _);go_upto_region 3 with fail;generalize (w3.alloc (.cells Tryz.zeroCells245 245))=w4 at b4 k4 ⊢;have B1:aP w4 w.heap.size 52 ((ae C.X)):=((b1.keeps k2 id).keeps k3 id).keeps k4 id;have B3:=b3.keeps k4 id;have R3:=Zb (Zb hrow k3 (fun _ _ h=>h)) k4 (fun _ _ h=>h);have HF:Hid (∃Ab Sb Kb kr,(Value.func (.func 138) #[] #[ae w3.heap.size,ae w.heap.size,ae w2.heap.size])=(.func (.func 138) #[] #[ae Ab,ae Sb,ae Kb])/\(w.heap.size<=Ab/\w.heap.size<=Sb/\w.heap.size<=Kb/\w.heap.size<=kr/\kr≠Ab/\kr≠Sb/\kr≠Kb/\Ab≠Sb/\Ab≠Kb)/\aP w4 Sb 52 ((ae C.X))/\aP w4 Kb 244 (.slice (some ⟨kr,0,none⟩) N1 N1)/\w4.ownsRow 0 221 1 (.slice (some ⟨kr,0,none⟩) N1 N1) N1 (qb wP N1)/\w4.heap[Ab]?=some (.cells (pG fun _=>false).toArray 245 (0,0))/\Za ai w w4) :=
  ⟨_,_,_,w1.heap.size,rfl,⟨by omega,by omega,by omega,by omega,by omega,by omega,by omega,by omega,by omega⟩,B1,B3,R3,b4,((k1.trans k2).trans k3).trans k4⟩
 clear B1 B3 R3 b1 b3 b4 k1 k2 k3 k4 hrow hmk c0 cb;go_wp2_with fail;go_ret;obtain⟨Ab,Sb,Kb,kr,h1,h2⟩:=HF.out;have e:=HN1.out;subst e;exact⟨Ab,Sb,Kb,kr,congrArg Ending.returned h1,h2⟩
def wm (w:World) (b:Nat) (lo hi:Int) (lz:Bool) (ty:TypeId) (y:Value):Prop:=w.cell? (ak b)=some (.int .i64 lo)/\w.cell? ⟨b,1,none⟩=some (.int .i64 hi)/\w.cell? ⟨b,2,none⟩=some (.bool lz)/\w.cell? ⟨b,3,none⟩=some (.iface ty y)
def vS (Q:Ending->World->Prop) (e:Ending) (w:World):Prop :=∃fn cap,e=.returned (.func (.func fn) #[] cap)/\Hid (Q (.returned (.func (.func fn) #[] cap)) w)
theorem Zow{X:Nat}{f:Nat->Nat}
  (hcall:∀w1,Za ai w w1->au 78 #[ae X,.agg #[.int .u64 (f 0),.int .u64 (f 1),.int .u64 (f 2),.int .u64 (f 3)],.func (.func fn) #[] cap] w1 (vS Q)) :
  au 58 #[ae X,.iface 172 (.agg #[.int .u64 (f 0),.int .u64 (f 1),.int .u64 (f 2),.int .u64 (f 3)]),.func (.func fn) #[] cap] w Q:=by
 have hc:=hcall (w.alloc (.cells #[.int .u64 (f 0),.int .u64 (f 1),.int .u64 (f 2),.int .u64 (f 3)] 172)) ((Za.refl _ _).alloc _);clear hcall;have Ct:∀(x:Value) (w:World),(Instr.typeAssert (.iface 172 x) 85 172 true).run Tryz.prog w=.ok (.tuple #[x,.bool true]) w:=fun _ _=>by kernel_rfl
 go_enter Tryz.func58,Tryz.ntmps58;go_wp2_with(go_at_call 78;refine hc.mono ?_;rintro e w2 ⟨bU,cap2,rfl,hQ⟩);exact hQ.out
theorem ZjH{X:Nat}
  (hcall:∀w1,Za ai w w1->au 84 #[.int .i64 0,.func (.func fn) #[] cap] w1 (vS Q)) :
  au 58 #[ae X,.iface 185 (.agg #[]),.func (.func fn) #[] cap] w Q:=by
 have hc:=hcall (w.alloc (.cells #[] 185)) ((Za.refl _ _).alloc _);clear hcall;have Ct:∀(x:Value) (w:World),(Instr.typeAssert (.iface 185 x) 85 172 true).run Tryz.prog w=.ok (.tuple #[.agg #[.int .u64 0,.int .u64 0,.int .u64 0,.int .u64 0],.bool false]) w:=fun _ _=>by kernel_rfl
 have EG:∀(x:Value) (w:World),(Instr.typeAssert (.iface 185 x) 85 175 true).run Tryz.prog w=.ok (.tuple #[.agg #[.slice none 0 0],.bool false]) w:=fun _ _=>by kernel_rfl
 have Ku:∀(x:Value) (w:World),(Instr.typeAssert (.iface 185 x) 85 165 true).run Tryz.prog w=.ok (.tuple #[.agg #[.slice none 0 0],.bool false]) w:=fun _ _=>by kernel_rfl
 have Nn:∀(x:Value) (w:World),(Instr.typeAssert (.iface 185 x) 85 179 true).run Tryz.prog w=.ok (.tuple #[.agg #[.int .i64 0,.int .i64 0,.bool false,.nilIface],.bool false]) w:=fun _ _=>by kernel_rfl
 have Vu:∀(x:Value) (w:World),(Instr.typeAssert (.iface 185 x) 85 182 true).run Tryz.prog w=.ok (.tuple #[.agg #[.int .i64 0,.nilIface],.bool false]) w:=fun _ _=>by kernel_rfl
 have ta5:∀(x:Value) (w:World),(Instr.typeAssert (.iface 185 x) 85 185 true).run Tryz.prog w=.ok (.tuple #[x,.bool true]) w:=fun _ _=>by kernel_rfl
 go_enter Tryz.func58,Tryz.ntmps58;go_wp2_with(go_at_call 84;refine hc.mono ?_;rintro e w2 ⟨bU,cap2,rfl,hQ⟩);exact hQ.out
theorem ZoA{X:Nat}{u:ByteArray}(c0:∀w1,Za ai w w1->w1.cell? (ak X)=some (.string u))
  (hcall:∀w1,Za ai w w1->au 84 #[.int .i64 (u.size:Int),.func (.func fn) #[] cap] w1 (vS Q)) :
  au 58 #[ae X,.iface 187 (.agg #[]),.func (.func fn) #[] cap] w Q:=by
 have hc:=hcall (w.alloc (.cells #[] 187)) ((Za.refl _ _).alloc _);have c1:=c0 (w.alloc (.cells #[] 187)) ((Za.refl _ _).alloc _);clear hcall c0;have Ct:∀(x:Value) (w:World),(Instr.typeAssert (.iface 187 x) 85 172 true).run Tryz.prog w=.ok (.tuple #[.agg #[.int .u64 0,.int .u64 0,.int .u64 0,.int .u64 0],.bool false]) w:=fun _ _=>by kernel_rfl
 have EG:∀(x:Value) (w:World),(Instr.typeAssert (.iface 187 x) 85 175 true).run Tryz.prog w=.ok (.tuple #[.agg #[.slice none 0 0],.bool false]) w:=fun _ _=>by kernel_rfl
 have Ku:∀(x:Value) (w:World),(Instr.typeAssert (.iface 187 x) 85 165 true).run Tryz.prog w=.ok (.tuple #[.agg #[.slice none 0 0],.bool false]) w:=fun _ _=>by kernel_rfl
 have Nn:∀(x:Value) (w:World),(Instr.typeAssert (.iface 187 x) 85 179 true).run Tryz.prog w=.ok (.tuple #[.agg #[.int .i64 0,.int .i64 0,.bool false,.nilIface],.bool false]) w:=fun _ _=>by kernel_rfl
 have Vu:∀(x:Value) (w:World),(Instr.typeAssert (.iface 187 x) 85 182 true).run Tryz.prog w=.ok (.tuple #[.agg #[.int .i64 0,.nilIface],.bool false]) w:=fun _ _=>by kernel_rfl
 have ta5:∀(x:Value) (w:World),(Instr.typeAssert (.iface 187 x) 85 185 true).run Tryz.prog w=.ok (.tuple #[.agg #[],.bool false]) w:=fun _ _=>by kernel_rfl
 have ta6:∀(x:Value) (w:World),(Instr.typeAssert (.iface 187 x) 85 187 true).run Tryz.prog w=.ok (.tuple #[x,.bool true]) w:=fun _ _=>by kernel_rfl
 go_enter Tryz.func58,Tryz.ntmps58;go_wp2_with(go_at_call 84;refine hc.mono ?_;rintro e w2 ⟨bU,cap2,rfl,hQ⟩);exact hQ.out
theorem Zox{X:Nat}{n:Nat}
  (hcall:∀w1,Za ai w w1->au 79 #[ae X,.slice ao n c,.func (.func fn) #[] cap] w1 (vS Q)) :
  au 58 #[ae X,.iface 175 (.agg #[.slice ao n c]),.func (.func fn) #[] cap] w Q:=by
 have hc:=hcall (w.alloc (.cells #[.slice ao n c] 175)) ((Za.refl _ _).alloc _);clear hcall;have Ct:∀(x:Value) (w:World),(Instr.typeAssert (.iface 175 x) 85 172 true).run Tryz.prog w=.ok (.tuple #[.agg #[.int .u64 0,.int .u64 0,.int .u64 0,.int .u64 0],.bool false]) w:=fun _ _=>by kernel_rfl
 have EG:∀(x:Value) (w:World),(Instr.typeAssert (.iface 175 x) 85 175 true).run Tryz.prog w=.ok (.tuple #[x,.bool true]) w:=fun _ _=>by kernel_rfl
 go_enter Tryz.func58,Tryz.ntmps58;go_wp2_with(go_at_call 79;refine hc.mono ?_;rintro e w2 ⟨bU,cap2,rfl,hQ⟩);exact hQ.out
theorem Zoz{X:Nat}{num:Int}
  (hcall:∀w1,Za ai w w1->au 83 #[ae X,.agg #[.int .i64 num,.iface ty y],.func (.func fn) #[] cap] w1 (vS Q)) :
  au 58 #[ae X,.iface 182 (.agg #[.int .i64 num,.iface ty y]),.func (.func fn) #[] cap] w Q:=by
 have hc:=hcall (w.alloc (.cells #[.int .i64 num,.iface ty y] 182)) ((Za.refl _ _).alloc _);clear hcall;have Ct:∀(x:Value) (w:World),(Instr.typeAssert (.iface 182 x) 85 172 true).run Tryz.prog w=.ok (.tuple #[.agg #[.int .u64 0,.int .u64 0,.int .u64 0,.int .u64 0],.bool false]) w:=fun _ _=>by kernel_rfl
 have EG:∀(x:Value) (w:World),(Instr.typeAssert (.iface 182 x) 85 175 true).run Tryz.prog w=.ok (.tuple #[.agg #[.slice none 0 0],.bool false]) w:=fun _ _=>by kernel_rfl
 have Ku:∀(x:Value) (w:World),(Instr.typeAssert (.iface 182 x) 85 165 true).run Tryz.prog w=.ok (.tuple #[.agg #[.slice none 0 0],.bool false]) w:=fun _ _=>by kernel_rfl
 have Nn:∀(x:Value) (w:World),(Instr.typeAssert (.iface 182 x) 85 179 true).run Tryz.prog w=.ok (.tuple #[.agg #[.int .i64 0,.int .i64 0,.bool false,.nilIface],.bool false]) w:=fun _ _=>by kernel_rfl
 have Vu:∀(x:Value) (w:World),(Instr.typeAssert (.iface 182 x) 85 182 true).run Tryz.prog w=.ok (.tuple #[x,.bool true]) w:=fun _ _=>by kernel_rfl
 go_enter Tryz.func58,Tryz.ntmps58;go_wp2_with(go_at_call 83;refine hc.mono ?_;rintro e w2 ⟨bU,cap2,rfl,hQ⟩);exact hQ.out
variable {R:Nat->Array Value->World->Prop}
theorem ZoB{X:Nat}{n:Nat}
  (mO:∀w1,Za ai w w1->w1.cell? (ak w.heap.size)=some (.slice ao n c)->au 81 #[ae X,.func (.func fn) #[] cap] w1 (fun e w2 =>∃bU cap2,e=.returned (.func (.func bU) #[] cap2)/\Hid (R bU cap2 w2)/\w2.cell? (ak w.heap.size)=some (.slice ao n c)))
  (hcall:∀bU cap2 w1 w2,R bU cap2 w1->Za ai w1 w2->w2.cell? (ak w.heap.size)=some (.slice ao n c)->au 80 #[ae X,.slice ao n c,.func (.func bU) #[] cap2] w2 (fun e w3=>vS Q e w3/\w3.cell? (ak w.heap.size)=some (.slice ao n c))) :
  au 58 #[ae X,.iface 165 (.agg #[.slice ao n c]),.func (.func fn) #[] cap] w Q:=by
 have b1:aP (w.alloc (.cells #[.slice ao n c] 165)) w.heap.size 165 (.slice ao n c):=heap_alloc_new _ _;have hS0:(w.alloc (.cells #[.slice ao n c] 165)).drew.cell? (ak w.heap.size)=some (.slice ao n c):=b1.cell;have hc:=mO (w.alloc (.cells #[.slice ao n c] 165)).drew (((Za.refl _ _).alloc _).drew) hS0;clear mO b1;have Ct:∀(x:Value) (w:World),(Instr.typeAssert (.iface 165 x) 85 172 true).run Tryz.prog w=.ok (.tuple #[.agg #[.int .u64 0,.int .u64 0,.int .u64 0,.int .u64 0],.bool false]) w:=fun _ _=>by kernel_rfl
 have EG:∀(x:Value) (w:World),(Instr.typeAssert (.iface 165 x) 85 175 true).run Tryz.prog w=.ok (.tuple #[.agg #[.slice none 0 0],.bool false]) w:=fun _ _=>by kernel_rfl
 have Ku:∀(x:Value) (w:World),(Instr.typeAssert (.iface 165 x) 85 165 true).run Tryz.prog w=.ok (.tuple #[x,.bool true]) w:=fun _ _=>by kernel_rfl
 go_enter Tryz.func58,Tryz.ntmps58;go_upto_region 10 with fail;generalize w.heap.size=pb at *;go_region_held3 (fun w'=>(w'.cell? (ak pb)=some (.slice ao n c))) (first | assumption | go_keep) (first|(go_at_call 81;refine hc.mono ?_;rintro e w2 ⟨bU,cap2,rfl,HR,hS2⟩;have hc2:=hcall bU cap2 w2 w2 HR.out (Za.refl _ _) hS2)|(go_at_call 80;refine hc2.mono ?_;rintro e w3 ⟨⟨RH,pq,rfl,hQ⟩,rT⟩))
 all_goals (try go_wp2_with fail)
 all_goals exact hQ.out
theorem Zoy{X:Nat}{lo hi:Int}{lz:Bool}
  (mO:∀w1,Za ai w w1->wm w1 w.heap.size lo hi lz ty y->au 81 #[ae X,.func (.func fn) #[] cap] w1 (fun e w2 =>∃bU cap2,e=.returned (.func (.func bU) #[] cap2)/\Hid (R bU cap2 w2)/\wm w2 w.heap.size lo hi lz ty y))
  (hcall:∀bU cap2 w1 w2,R bU cap2 w1->Za ai w1 w2->wm w2 w.heap.size lo hi lz ty y->au 82 #[ae X,.agg #[.int .i64 lo,.int .i64 hi,.bool lz,.iface ty y],.func (.func bU) #[] cap2] w2 (fun e w3=>vS Q e w3/\wm w3 w.heap.size lo hi lz ty y)) :
  au 58 #[ae X,.iface 179 (.agg #[.int .i64 lo,.int .i64 hi,.bool lz,.iface ty y]),.func (.func fn) #[] cap] w Q:=by
 have b1:(w.alloc (.cells #[.int .i64 lo,.int .i64 hi,.bool lz,.iface ty y] 179)).heap[w.heap.size]?=some (.cells #[.int .i64 lo,.int .i64 hi,.bool lz,.iface ty y] 179 (0,0)):=heap_alloc_new _ _;have hS0:wm (w.alloc (.cells #[.int .i64 lo,.int .i64 hi,.bool lz,.iface ty y] 179)).drew w.heap.size lo hi lz ty y:=⟨by rw[Zc (w:=(w.alloc _).drew) b1];rfl,by rw[Zc (w:=(w.alloc _).drew) b1];rfl,by rw[Zc (w:=(w.alloc _).drew) b1];rfl,by rw[Zc (w:=(w.alloc _).drew) b1];rfl⟩;have hc:=mO (w.alloc (.cells #[.int .i64 lo,.int .i64 hi,.bool lz,.iface ty y] 179)).drew (((Za.refl _ _).alloc _).drew) hS0;clear mO b1;unfold wm at hS0 hc hcall;have Ct:∀(x:Value) (w:World),(Instr.typeAssert (.iface 179 x) 85 172 true).run Tryz.prog w=.ok (.tuple #[.agg #[.int .u64 0,.int .u64 0,.int .u64 0,.int .u64 0],.bool false]) w:=fun _ _=>by kernel_rfl
 have EG:∀(x:Value) (w:World),(Instr.typeAssert (.iface 179 x) 85 175 true).run Tryz.prog w=.ok (.tuple #[.agg #[.slice none 0 0],.bool false]) w:=fun _ _=>by kernel_rfl
 have Ku:∀(x:Value) (w:World),(Instr.typeAssert (.iface 179 x) 85 165 true).run Tryz.prog w=.ok (.tuple #[.agg #[.slice none 0 0],.bool false]) w:=fun _ _=>by kernel_rfl
 have Nn:∀(x:Value) (w:World),(Instr.typeAssert (.iface 179 x) 85 179 true).run Tryz.prog w=.ok (.tuple #[x,.bool true]) w:=fun _ _=>by kernel_rfl
 go_enter Tryz.func58,Tryz.ntmps58;go_upto_region 13 with fail;generalize w.heap.size=pb at *;go_region_held3 (fun w'=>(w'.cell? (ak pb)=some (.int .i64 lo)/\w'.cell? ⟨pb,1,none⟩=some (.int .i64 hi)/\w'.cell? ⟨pb,2,none⟩=some (.bool lz)/\w'.cell? ⟨pb,3,none⟩=some (.iface ty y))) (first | assumption | go_keep) (first|(go_at_call 81;refine hc.mono ?_;rintro e w2 ⟨bU,cap2,rfl,HR,hS2⟩;have hc2:=hcall bU cap2 w2 w2 HR.out (Za.refl _ _) hS2)|(go_at_call 82;refine hc2.mono ?_;rintro e w3 ⟨⟨RH,pq,rfl,hQ⟩,rT⟩))
 all_goals (try go_wp2_with fail)
 all_goals exact hQ.out
end Go.Proofs.YtfkflljplohhcaaGreatDoor
