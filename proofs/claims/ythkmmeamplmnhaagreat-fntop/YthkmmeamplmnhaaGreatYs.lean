import Derived.Test.YthkmmeamplmnhaaGreatYr
namespace Go.Proofs.YthkmmeamplmnhaaGreat
open Go.RowKit
set_option linter.unusedVariables false
def mdU (D:Nat) (U:Nat→List Mt→Rsc) (b:Nat) (out:List Mt):Rsc:=starL [DfR D,U b out]
theorem mdU_ok {D:Nat} {U:Nat→List Mt→Rsc} (hU :∀b out,RscOk (U b out)) (b:Nat) (out:List Mt):RscOk (mdU D U b out) :=
 starL_ok (fun R hR=>by
  rcases List.mem_cons.1 hR with rfl | hR
  ·exact dfR_ok D
  ·rcases List.mem_cons.1 hR with rfl | hR
   ·exact hU b out
   ·simp at hR)
theorem mdU_up {D:Nat} {U:Nat→List Mt→Rsc} (hup :∀b b' out w F Fr,b≤b'→U b out w F Fr→U b' out w F Fr) (b b':Nat) (out:List Mt) (w:World) (F Fr:Bs2) (hb:b≤b') (h:mdU D U b out w F Fr):mdU D U b' out w F Fr:=by
 obtain ⟨F1,F2,hA⟩:=starL_two.1 h
 exact starL_two.2 ⟨F1,F2,hA.all,hA.dis,hA.one,hup _ _ _ _ _ _ hb hA.two⟩
theorem mdU_ok2 {D:Nat} {U:Nat→List Mt→Rsc} (hU :∀b out,RscOk (U b out)) (hup :∀b b' out w F Fr,b≤b'→U b out w F Fr→U b' out w F Fr) (out:List Mt):RscOk (fun w F Fr=>mdU D U w.heap.size out w F Fr):=by
 refine ⟨fun h=>(mdU_ok hU _ out).lt h,?_⟩
 intro w w' F F' Fr h l hF' hk
 exact mdU_up hup _ _ _ _ _ _ l.size ((mdU_ok hU _ out).frame h l hF' hk)
def RoundM (N:Nat) (Al:List Mt) (tmps:Array Value) (ps:Array Tmp) (assign body:Code) (cc:List Mt→Option Code) (cap:Nat) (U:Nat→List Mt→Rsc):Prop :=
 ∀ (l:Nat) (w1:World) (F1 Fu:Bs2) (b:Nat) (out:List Mt) (m:Mt) (ag:Option Addr) (ng cg:Nat),Fb w1 F1→U b out w1 F1 Fu→b≤w1.heap.size→w1.ownsRow b 31 2 (.slice ag ng cg) m.gs.length (flatR m.gs)→(∀k,(Value.slice ag ng cg).ownBlock=some k→¬ F1 k)→m.ok=true→m.gs.length≤9→0≤m.fr→m.fr≤m.up→m.up≤(N:Int)→out.length < cap→cc out=none→out ++ [m] <+: Al→F1 l→l < w1.heap.size→¬ Fu l→
   ∃ Ax:Act→World→Prop,assign.wpIn (Fence.wide.inRound l) 0 Tryz.prog (Exit.then (fun a1 w2=>Keeps (fun _=>False) w1 w2∧Ax a1 w2) (fun _ _ _=>False)) { tmps:=(ps.zip #[.agg #[.bool m.ok,.int .i64 m.fr,.int .i64 m.up,.slice ag ng cg]]).foldl (fun t (p,v)=>t.setIfInBounds p v) tmps,defers := [] } w1∧
     ∀ (a1:Act) (w2 w3:World),Keeps (fun _=>False) w1 w2→Ax a1 w2→Keeps (fun k=>k=l) w2 w3→U b out w3 F1 Fu→
       body.wpIn (Fence.wide.inRound l) 0 Tryz.prog (fun e a3 w4=>exOf (cc (out ++ [m])) e∧∃F4 Fu4,U w4.heap.size (out ++ [m]) w4 F4 Fu4∧Trn w3 F1 Fu w4 F4 Fu4) a1 w3
def lpM (l:Nat) (r:LoopState→Option Code→Loop) (cc:List Mt→Option Code) (U:Nat→List Mt→Rsc) (b:Nat) (out:List Mt):Rsc:=LpR l (r (if (cc out).isNone then .ready else .done) (cc out)) (U b out)
def lpMlr (l:Nat) (r:LoopState→Option Code→Loop) (cc:List Mt→Option Code) (cap:Nat) (U:Nat→List Mt→Rsc):Mlr:=⟨l,fun out=>(cc out).isNone,cap,lpM l r cc U⟩
theorem mdMlr_ok {N l D fn cap:Nat} {Al:List Mt} {tmps:Array Value} {ps:Array Tmp} {assign body:Code} {cc:List Mt→Option Code} {U:Nat→List Mt→Rsc} (hU :∀b out,RscOk (U b out)) (hup :∀b b' out w F Fr,b≤b'→U b out w F Fr→U b' out w F Fr) (h0:cc []=none) (hps:ps.size=1) (h:RoundM N Al tmps ps assign body cc cap U) :
  MlrOk N Al (lpMlr l (lrec fn tmps ps assign body D) cc cap (mdU D U)):=by
 refine ⟨fun b out=>lpR_ok (mdU_ok hU b out),by show (cc []).isNone=true; rw [h0]; rfl,?_,?_⟩
 ·rintro b b' out w F Fr hb ⟨Fu,he,hn,hF,hl,hUw⟩
  exact ⟨Fu,he,hn,hF,hl,mdU_up hup _ _ _ _ _ _ hb hUw⟩
 ·intro w F Fr b out m a n c hFb ht hb hrow hnb h1 h2 h3 h4 h5 hn hon hpx
  have hc:cc out=none:=Option.isNone_iff_eq_none.1 hon
  have ht':LpR l (lrec fn tmps ps assign body D .ready none) (mdU D U b out) w F Fr:=by
   have h6:lpM l (lrec fn tmps ps assign body D) cc (mdU D U) b out w F Fr:=ht
   unfold lpM at h6
   rw [hc] at h6
   exact h6
  obtain ⟨Fu0,he0,hn0,hF0,hl0,hU0⟩:=id ht'
  have hlt:l < w.heap.size:=(Array.getElem?_eq_some_iff.1 hl0).1
  obtain ⟨Fa,Fu,hA⟩:=starL_two.1 hU0
  have hnu:¬ Fu l:=fun h=>hn0 ((hA.all l).2 (Or.inr h))
  obtain ⟨Ax,r1,r2⟩:=h l w F Fu b out m a n c hFb hA.two hb hrow hnb h1 h2 h3 h4 h5 hn hc hpx hF0 hlt hnu
  refine round_yield (U:=mdU D U b out) (U':=fun w F Fr=>mdU D U w.heap.size (out ++ [m]) w F Fr) (c:=cc (out ++ [m])) (Ax:=Ax) (mdU_ok hU b out) (mdU_ok2 hU hup _) (by simp [hps]) he0 hn0 hF0 hl0 hU0 r1 ?_
  intro a1 w1 w2 k1 hx k2 hUv
  have hlat:Lat w F w2 F:=(Lat.ofKeeps k1).trans ⟨k2.mono (fun k _ e=>e ▸ hF0),fun k h=>Or.inl h⟩
  have hsame :∀k,k < w.heap.size→k≠l→w2.heap[k]? = w.heap[k]?:=fun k hk hne=>by
   rw [k2.block k (Nat.lt_of_lt_of_le hk k1.size) hne,k1.block k hk (fun h=>h)]
  have hU2:U b out w2 F Fu:=(hU b out).frame hA.two hlat (fun k hk=>((hU b out).lt hA.two k hk).1) (fun k hk=>hsame k ((hU b out).lt hA.two k hk).2 (fun e=>hnu (e ▸ hk)))
  have hD2:DfR D w2 F Fa:=(dfR_ok D).frame hA.one hlat (fun k hk=>((dfR_ok D).lt hA.one k hk).1) (fun k hk=>hsame k ((dfR_ok D).lt hA.one k hk).2 (fun e=>hn0 (e ▸ (hA.all k).2 (Or.inl hk))))
  have hA2:Apt (U b out) (DfR D) w2 F Fu0 Fu Fa:=⟨fun k=>(hA.all k).trans Or.comm,fun k h1 h2=>hA.dis k h2 h1,hU2,hD2⟩
  refine wpIn_mono (r2 a1 w1 w2 k1 hx k2 hU2) ?_
  rintro e a3 w4 ⟨hex,F4,Fu4,g1,g2⟩
  obtain ⟨p1,p2⟩:=hA2.upd (hU b out) (dfR_ok D) g2 g1
  exact ⟨hex,F4,_,starL_two.2 ⟨_,_,p1.swap⟩,p2⟩
theorem range_matches {g:Operand} {ps:Array Tmp} {assign body:Code} {Q:Exit→Act→World→Prop} {a:Act} {w:World} {n cap b0:Nat} {C:Cx} {ρ:Rx} {X:Xs} {B:Option Bo} {mine:List Rsc} {T:Tt} {tl:Value} {F Fr:Bs2} {A:Nat} {cc:List Mt→Option Code} {U:Nat→List Mt→Rsc}
  (hU :∀b out,RscOk (U b out)) (hup :∀b b' out w F Fr,b≤b'→U b out w F Fr→U b' out w F Fr) (h0:cc []=none) (hps:ps.size=1) (hround:RoundM C.u.size (allL (fun a=>(X a).map (mtOf C.G a)) C.u.size (C.u.size + 2) 0) a.tmps ps assign body cc cap U)
  (hg:a.eval g = .func (.func 56) #[] #[.pointer (some ⟨A,0,none⟩)])
  (hS:Srch C w F ρ.bg X B mine) (hA:CeI w F A 0 (.pointer (some ⟨C.X,0,none⟩))) (hFb:Fb w F) (hR:starL (SeR C ρ tl T :: U b0 [] :: mine) w F Fr) (hrd:Rdy C.u.size T B) (hX:OkX C.u.size 0 C.G X) (hu:C.u.size≤200) (hG:C.G≤9) (hb:b0≤w.heap.size) (hcap:C.u.size + 1≤cap)
  (hdone :∀(D b':Nat) (out:List Mt) (T':Tt) (tv:Value) (w2:World) (F2 Fr2:Bs2),out=mtold (fun o=>(cc o).isNone) [] (allL (fun a=>(X a).map (mtOf C.G a)) C.u.size (C.u.size + 2) 0)→starL (SeR C ρ tv T' :: DfR D :: U b' out :: mine) w2 F2 Fr2→Trn w F Fr w2 F2 Fr2→w.heap.size≤D→Rdy C.u.size T' B→
   match cc out with
   | none=>Q .normal { a with defers := { target:=.collected D,args:=#[] } :: a.defers } w2
   | some c=>c.wpIn Fence.wide n Tryz.prog Q { a with defers := { target:=.collected D,args:=#[] } :: a.defers } w2) :
  (Code.rangeFunc g ps assign body).wpIn Fence.wide n Tryz.prog Q a w:=by
 refine range_loop hg (fun _ _=>by kernel_rfl) ?_
 intro fn
 have hUs :∀R∈(SeR C ρ tl T :: U b0 [] :: mine),RscOk R:=by
  intro R hR
  rcases List.mem_cons.1 hR with rfl | hR
  ·exact seR_ok _ _ _ _
  ·rcases List.mem_cons.1 hR with rfl | hR
   ·exact hU b0 []
   ·exact hS.ok R hR
 have hOk0:=starL_ok hUs
 have hFr :∀k,Fr k→F k∧k < w.heap.size:=hOk0.lt hR
 generalize hW1:((w.alloc (.deferred (some []))).alloc (.loop (lrec fn a.tmps ps assign body w.heap.size .ready none)))=W1
 have k1:Keeps (fun _=>False) w W1:=by rw [← hW1]; exact ((Keeps.refl _ w).alloc _).alloc _
 have bD:W1.heap[w.heap.size]? = some (.deferred (some [])):=by rw [← hW1]; exact box1 w _ _
 have bL:W1.heap[w.heap.size + 1]? = some (.loop (lrec fn a.tmps ps assign body w.heap.size .ready none)):=by rw [← hW1]; exact box2 w _ _
 obtain ⟨F1,hF1⟩ :∃F1:Bs2,F1=fun k=>F k∨k=w.heap.size∨k=w.heap.size + 1:=⟨_,rfl⟩
 have l1:Lat w F W1 F1:=⟨k1.mono (fun _ _ h=>h.elim),fun k hk=>by rw [hF1] at hk; rcases hk with h | h | h; exact Or.inl h; exact Or.inr (by omega); exact Or.inr (by omega)⟩
 have hR1:starL (SeR C ρ tl T :: U b0 [] :: mine) W1 F1 Fr:=hOk0.frame hR l1 (fun k hk=>by rw [hF1]; exact Or.inl (hFr k hk).1) (fun k hk=>k1.block k (hFr k hk).2 (fun h=>h))
 have hltL:w.heap.size + 1 < W1.heap.size:=(Array.getElem?_eq_some_iff.1 bL).1
 have hFb1:Fb W1 F1:=fun k hk=>by
  rw [hF1] at hk
  rcases hk with h | h | h
  ·exact Nat.lt_of_lt_of_le (hFb k h) k1.size
  ·omega
  ·omega
 have hτ:MlrOk C.u.size (allL (fun a=>(X a).map (mtOf C.G a)) C.u.size (C.u.size + 2) 0) (lpMlr (w.heap.size + 1) (lrec fn a.tmps ps assign body w.heap.size) cc cap (mdU w.heap.size U)):=mdMlr_ok hU hup h0 hps hround
 obtain ⟨G1,G2,hApt⟩:=starL_cons.1 (starL_perm hR1)
 have hdG :∀k,Fr k↔G1 k∨G2 k:=hApt.all
 have hbig :∀k,Fr k→k < w.heap.size:=fun k hk=>(hFr k hk).2
 have htl:lpM (w.heap.size + 1) (lrec fn a.tmps ps assign body w.heap.size) cc (mdU w.heap.size U) b0 [] W1 F1 (fun k=>k=w.heap.size + 1∨k=w.heap.size∨G1 k):=by
  unfold lpM
  rw [h0]
  refine ⟨fun k=>k=w.heap.size∨G1 k,fun k=>Iff.rfl,fun h=>?_,by rw [hF1]; exact Or.inr (Or.inr rfl),bL,?_⟩
  ·rcases h with h | h
   ·omega
   ·have:=hbig _ ((hdG _).2 (Or.inl h)); omega
  ·refine starL_two.2 ⟨fun k=>k=w.heap.size,G1,fun k=>Iff.rfl,fun k e h=>?_,⟨fun k=>Iff.rfl,by rw [hF1]; exact Or.inr (Or.inl rfl),bD⟩,hApt.one⟩
   have:=hbig _ ((hdG _).2 (Or.inl h)); omega
 have hR2:starL (SeR C ρ tl T :: (lpMlr (w.heap.size + 1) (lrec fn a.tmps ps assign body w.heap.size) cc cap (mdU w.heap.size U)).tl b0 [] :: mine) W1 F1 (fun k=>(k=w.heap.size + 1∨k=w.heap.size∨G1 k)∨G2 k):=by
  refine starL_perm ⟨fun k=>k=w.heap.size + 1∨k=w.heap.size∨G1 k,G2,fun k=>Iff.rfl,fun k h1 h2=>?_,htl,hApt.two⟩
  rcases h1 with h1 | h1 | h1
  ·have:=hbig _ ((hdG _).2 (Or.inr h2)); omega
  ·have:=hbig _ ((hdG _).2 (Or.inr h2)); omega
  ·exact hApt.dis k h1 h2
 have hrun:=matches_run (τ:=lpMlr (w.heap.size + 1) (lrec fn a.tmps ps assign body w.heap.size) cc cap (mdU w.heap.size U)) hτ (hS.later l1) (hA.later l1) hR2 hFb1 hrd hX hu hG (Nat.le_trans hb k1.size) hcap
 refine Calls.mono hrun ?_
 rintro e w2 ⟨rfl,T',tv',F2,Fr2,b',g1,g2,g3⟩
 change starL (SeR C ρ tv' T' :: lpM (w.heap.size + 1) (lrec fn a.tmps ps assign body w.heap.size) cc (mdU w.heap.size U) b' (mtold (fun o=>(cc o).isNone) [] (allL (fun a=>(X a).map (mtOf C.G a)) C.u.size (C.u.size + 2) 0)) :: mine) w2 F2 Fr2 at g1
 generalize hout:mtold (fun o=>(cc o).isNone) [] (allL (fun a=>(X a).map (mtOf C.G a)) C.u.size (C.u.size + 2) 0)=out at g1
 obtain ⟨H1,H2,hB⟩:=starL_cons.1 (starL_perm g1)
 have hrec :∃st pe,LpR (w.heap.size + 1) (lrec fn a.tmps ps assign body w.heap.size st pe) (mdU w.heap.size U b' out) w2 F2 H1∧st≠.busy∧pe=cc out :=
  ⟨_,_,hB.one,(by split <;> simp),rfl⟩
 obtain ⟨st,pe,⟨Fu,he,hn,hF,hl,hUw⟩,hst,hpe⟩:=hrec
 refine ⟨_,rfl,st,pe,hl,hst,?_⟩
 obtain ⟨q1,q2,q3⟩:=LpR.put (r':=lrec fn a.tmps ps assign body w.heap.size .exhausted pe) (mdU_ok hU b' out) hn hF hl hUw
 generalize hw3:w2.putObj (w.heap.size + 1) (.loop (lrec fn a.tmps ps assign body w.heap.size .exhausted pe))=w3 at q1 q2 q3 ⊢
 have hSes:RscOk (starL (SeR C ρ tv' T' :: mine)):=se_ok hS.ok _ _ _ _
 obtain ⟨J1,J2,hC⟩:=starL_two.1 q2
 have hnotL:¬ H2 (w.heap.size + 1):=fun h=>hB.dis _ ((he _).2 (Or.inl rfl)) h
 have hlt2 :∀k,Fr2 k→F2 k∧k < w2.heap.size:=fun k hk=>by
  rcases (hB.all k).1 hk with h | h
  ·rcases (he k).1 h with rfl | h
   ·exact ⟨hF,(Array.getElem?_eq_some_iff.1 hl).1⟩
   ·exact (mdU_ok hU b' out).lt hUw k h
  ·exact hSes.lt hB.two k h
 obtain ⟨F3,hF3⟩ :∃F3:Bs2,F3=fun k=>F2 k∧k≠w.heap.size + 1:=⟨_,rfl⟩
 have l3:Lat w2 F2 w3 F3:=⟨q3.mono (fun k _ e=>e ▸ hF),fun k hk=>by rw [hF3] at hk; exact Or.inl hk.1⟩
 have hH2:starL (SeR C ρ tv' T' :: mine) w3 F3 H2:=hSes.frame hB.two l3 (fun k hk=>by rw [hF3]; exact ⟨(hSes.lt hB.two k hk).1,fun e=>hnotL (e ▸ hk)⟩) (fun k hk=>q3.block k (hSes.lt hB.two k hk).2 (fun e=>hnotL (e ▸ hk)))
 have hl33:Lat w3 F2 w3 F3:=⟨Keeps.refl _ _,fun k hk=>by rw [hF3] at hk; exact Or.inl hk.1⟩
 have hJ1:DfR w.heap.size w3 F3 J1:=(dfR_ok _).frame hC.one hl33 (fun k hk=>by rw [hF3]; exact ⟨((dfR_ok _).lt hC.one k hk).1,fun e=>hn (e ▸ (hC.all k).2 (Or.inl hk))⟩) (fun _ _=>rfl)
 have hJ2:U b' out w3 F3 J2:=(hU b' out).frame hC.two hl33 (fun k hk=>by rw [hF3]; exact ⟨((hU b' out).lt hC.two k hk).1,fun e=>hn (e ▸ (hC.all k).2 (Or.inr hk))⟩) (fun _ _=>rfl)
 have hFuH :∀k,Fu k→H1 k:=fun k hk=>(he k).2 (Or.inr hk)
 have hfin:starL (SeR C ρ tv' T' :: DfR w.heap.size :: U b' out :: mine) w3 F3 (fun k=>Fu k∨H2 k):=by
  obtain ⟨K1,K2,hD⟩:=starL_cons.1 hH2
  refine ⟨K1,fun k=>J1 k∨J2 k∨K2 k,fun k=>?_,fun k h1 h2=>?_,hD.one,J1,fun k=>J2 k∨K2 k,fun k=>Iff.rfl,fun k h1 h2=>?_,hJ1,J2,K2,fun k=>Iff.rfl,fun k h1 h2=>?_,hJ2,hD.two⟩
  ·show Fu k∨H2 k↔K1 k∨(J1 k∨J2 k∨K2 k)
   rw [hC.all k,hD.all k]
   constructor
   ·rintro ((h | h) | h | h)
    ·exact Or.inr (Or.inl h)
    ·exact Or.inr (Or.inr (Or.inl h))
    ·exact Or.inl h
    ·exact Or.inr (Or.inr (Or.inr h))
   ·rintro (h | h | h | h)
    ·exact Or.inr (Or.inl h)
    ·exact Or.inl (Or.inl h)
    ·exact Or.inl (Or.inr h)
    ·exact Or.inr (Or.inr h)
  ·rcases h2 with h2 | h2 | h2
   ·exact hB.dis k (hFuH k ((hC.all k).2 (Or.inl h2))) ((hD.all k).2 (Or.inl h1))
   ·exact hB.dis k (hFuH k ((hC.all k).2 (Or.inr h2))) ((hD.all k).2 (Or.inl h1))
   ·exact hD.dis k h1 h2
  ·rcases h2 with h2 | h2
   ·exact hC.dis k h1 h2
   ·exact hB.dis k (hFuH k ((hC.all k).2 (Or.inl h1))) ((hD.all k).2 (Or.inr h2))
  ·exact hB.dis k (hFuH k ((hC.all k).2 (Or.inr h1))) ((hD.all k).2 (Or.inr h2))
 have ht:Trn w F Fr w3 F3 (fun k=>Fu k∨H2 k):=by
  have hrel :∀k,(Fu k∨H2 k)→Fr2 k∧k≠w.heap.size + 1:=fun k hk=>by
   rcases hk with hk | hk
   ·exact ⟨(hB.all k).2 (Or.inl (hFuH k hk)),fun e=>hn (e ▸ hk)⟩
   ·exact ⟨(hB.all k).2 (Or.inr hk),fun e=>hnotL (e ▸ hk)⟩
  refine ⟨?_,fun k hk=>?_,fun k hk=>?_,fun k hs hk hnk=>?_,fun k hk=>?_⟩
  ·have kk:Keeps (fun k=>Fr k∨w.heap.size≤k) w w3:=((k1.mono (fun _ _ h=>h.elim)).trans (E:=fun k=>Fr k∨w.heap.size≤k) (g2.keeps.mono (fun k _ hk=>by
    rcases hk with (h | h | h) | h
    ·exact Or.inr (by omega)
    ·exact Or.inr (by omega)
    ·exact Or.inl ((hdG k).2 (Or.inl h))
    ·exact Or.inl ((hdG k).2 (Or.inr h))))).trans (q3.mono (fun k _ e=>Or.inr (by omega)))
   exact kk.mono (fun k hk h=>h.elim id (fun h=>by omega))
  ·rcases g2.fresh k (hrel k hk).1 with ((h | h | h) | h) | h
   ·exact absurd h (hrel k hk).2
   ·exact Or.inr (by omega)
   ·exact Or.inl ((hdG k).2 (Or.inl h))
   ·exact Or.inl ((hdG k).2 (Or.inr h))
   ·exact Or.inr (Nat.le_trans k1.size h)
  ·rw [hF3] at hk
   rcases g2.out k hk.1 with ⟨h1,h2⟩ | h
   ·rw [hF1] at h1
    refine Or.inl ⟨?_,fun h=>h2 (((hdG k).1 h).elim (fun h=>Or.inl (Or.inr (Or.inr h))) Or.inr)⟩
    rcases h1 with h | h | h
    ·exact h
    ·exact absurd (Or.inl (Or.inr (Or.inl h))) h2
    ·exact absurd h hk.2
   ·rcases (hB.all k).1 h with h | h
    ·rcases (he k).1 h with h | h
     ·exact absurd h hk.2
     ·exact Or.inr (Or.inl h)
    ·exact Or.inr (Or.inr h)
  ·rw [hF3]
   refine ⟨g2.inn k (Nat.lt_of_lt_of_le hs k1.size) (by rw [hF1]; exact Or.inl hk) (fun h=>?_),by omega⟩
   rcases h with (h | h | h) | h
   ·omega
   ·omega
   ·exact hnk ((hdG k).2 (Or.inl h))
   ·exact hnk ((hdG k).2 (Or.inr h))
  ·rw [hF3]
   exact ⟨(hlt2 k (hrel k hk).1).1,(hrel k hk).2⟩
 have:=hdone w.heap.size b' out T' tv' w3 F3 _ hout.symm hfin ht (Nat.le_refl _) g3
 rw [← hpe] at this
 exact this
end Go.Proofs.YthkmmeamplmnhaaGreat
namespace Go.Proofs.YthkmmeamplmnhaaGreat
open Go.RowKit Go.Shelf
set_option linter.unusedVariables false
attribute [local go_sem] Oper.semAt_some
theorem allL_congr {L L':Nat→List Mt} {N:Nat} (h :∀a,a≤N→L a=L' a) :∀(k p:Nat),allL L N k p=allL L' N k p:=by
 intro k
 induction k with
 | zero=>intro p; rfl
 | succ k ih =>
   intro p
   have e:findL L (N + 1 - p) p=findL L' (N + 1 - p) p:=findL_congr fun a h1 h2=>h a (by omega)
   simp only [allL,e,ih]
theorem allRef_eq {s u:ByteArray} {g:Nat} {f:Pf} (hw:wanted s u 0=true) (ht:treeRef s = .ok (g,f)):allRef s u=allL (fun a=>(smx u [] f a).map (mtOf g a)) u.size (u.size + 2) 0:=by
 unfold allRef
 refine allL_congr (fun a ha=>?_) _ _
 have hw2:wanted s u (a:Int)=true:=by
  simp only [wanted,ht,Bool.true_and,Bool.and_eq_true,decide_eq_true_eq] at hw ⊢
  omega
 simp [waysRef,hw2,ht]
theorem findL_nils {L:Nat→List Mt} (h :∀a,L a = []) :∀(k p:Nat),findL L k p=none:=by
 intro k
 induction k with
 | zero=>intro p; rfl
 | succ k ih=>intro p; simp only [findL,h,ih]
theorem allRef_not {s u:ByteArray} (hw:wanted s u 0≠true):allRef s u = []:=by
 have h :∀a:Nat,waysRef s u (a:Int) = []:=fun a=>by
  have hn:wanted s u (a:Int)=false:=by
   cases ht:treeRef s with
   | error x=>simp [wanted,ht]
   | ok gf =>
     simp only [wanted,ht,Bool.true_and,Bool.and_eq_true,decide_eq_true_eq,ne_eq] at hw
     simp only [wanted,ht,Bool.true_and,Bool.and_eq_false_iff,decide_eq_false_iff_not]
     left
     left
     omega
  simp [waysRef,hn]
 unfold allRef
 simp only [allL,findL_nils h]
theorem mtold_all (out l:List Mt):mtold (fun _=>true) out l=out ++ l:=by
 induction l generalizing out with
 | nil=>simp [mtold]
 | cons m l ih=>simp [mtold,ih]
def CtR (P:Nat) (n:Nat):Rsc:=fun w F Fr=>(∀k,Fr k↔k=P)∧F P∧At1 w P 3 (.int .i64 (n:Int))
theorem ctR_ok (P n:Nat):RscOk (CtR P n):=by
 refine ⟨?_,?_⟩
 ·rintro w F Fr ⟨h1,h2,h3⟩ k hk
  obtain rfl:=(h1 k).1 hk
  exact ⟨h2,h3.lt⟩
 ·rintro w w' F F' Fr ⟨h1,h2,h3⟩ l hF' hk
  exact ⟨h1,hF' P ((h1 P).2 rfl),by unfold At1 at h3 ⊢; rw [hk P ((h1 P).2 rfl)]; exact h3⟩
def CountP (s u:ByteArray) (w:World) (e:Ending) (w':World):Prop:=e = .returned (.int .i64 ((allRef s u).length:Int))∧Keeps (fun _=>False) w w'
set_option maxHeartbeats 2000000 in
set_option maxRecDepth 100000 in
theorem icount_any {w:World} {s u:ByteArray}:Calls Tryz.prog 12 #[.string s,.string u] w (CountP s u w):=by
 have hpn :∀(a:Addr) (w:World),(binOp BinOp.eql 61 (.pointer (some a)) (.pointer none)).run Tryz.prog w = .ok (.bool false) w:=fun _ _=>by kernel_rfl
 have hpn0 :∀(w:World),(binOp BinOp.eql 61 (.pointer none) (.pointer none)).run Tryz.prog w = .ok (.bool true) w:=fun _=>by kernel_rfl
 have hfn :∀f,Fence.wide.fn f:=fun _=>trivial
 have hdp:Fence.wide.depth=none:=rfl
 have hsf:Calls Tryz.prog 33 #[.string s,.string u,.int .i64 0] w _:=searchFor_any (F:=fun _=>False) (fun _ h=>h.elim)
 refine (callsIn_wide (n:=3)).1 ?_
 refine callsIn_of_wp_marks Tryz.func12 rfl trivial ?_
 simp only [Tryz.ntmps12,List.size_toArray,List.length_cons,List.length_nil,Nat.reduceAdd,Nat.reduceSub,Array.replicate_succ,Array.replicate_zero,List.push_toArray,List.append_toArray,List.nil_append,List.cons_append]
 by_cases hw:wanted s u 0=true
 ·have hu:u.size≤200:=by
   simp only [wanted,Bool.and_eq_true,decide_eq_true_eq] at hw
   omega
  have hsf2:CallsIn Fence.wide 2 Tryz.prog 33 #[.string s,.string u,.int .i64 0] w (fun e w2 =>∃X2,e = .returned (.pointer (some ⟨X2,0,none⟩))∧Hid (∃g f,treeRef s = .ok (g,f)∧Made u g (smx u [] f) w (fun _=>False) X2 w2)):=by
   refine callsIn_wide.2 (hsf.mono ?_)
   rintro e w2 (⟨h1,-⟩ | ⟨g,f,X2,h1,h2,rfl,h3⟩)
   ·rw [hw] at h1; cases h1
   ·exact ⟨X2,rfl,g,f,h2,h3⟩
  have HE:Hid (∀(X2:Nat) (w3:World),CallsIn Fence.wide 2 Tryz.prog 35 #[.pointer (some ⟨X2,0,none⟩)] w3 (fun e w'=>e = .returned (.func (.func 56) #[] #[.pointer (some ⟨w3.heap.size,0,none⟩)])∧At1 w' w3.heap.size 61 (.pointer (some ⟨X2,0,none⟩))∧Keeps (fun _=>False) w3 w')):=fun X2 w3=>callsIn_wide.2 matches_any
  clear hsf hpn0
  gi_wp2_with (first
   | (gi_at_call 33; refine hsf2.mono ?_; rintro e w2 ⟨X2,rfl,HM⟩; have k12:Keeps (fun _=>False) w w2:=(by obtain ⟨g,f,ht,hMd⟩:=HM.out; exact made_keeps hMd))
   | (gi_at_call 35; refine (HE.out X2 _).mono ?_; rintro e w4 ⟨rfl,bA,k4⟩))
  obtain ⟨g,f,ht,hMd⟩:=HM.out
  obtain ⟨C,kk,bg,B,mine,F',Fr',hCX,hCu,hCG,hres,hT,hS⟩:=hMd.ex
  subst hCX
  obtain ⟨hfg,hg9,hf1,hf4⟩:=tree_fg ht
  have hX:OkX C.u.size 0 C.G (smx u [] f):=by rw [hCu,hCG]; exact fp_ok u ⟨f,hfg,rfl⟩
  have hok:=se_ok (C:=C) (ρ:=⟨(kk:Int),bg,[]⟩) (tl:=.nilFunc) (T:=tno) hS.ok
  have hlt:=hok.lt hres
  have hs12:=k12.size
  have hF' :∀i,F' i→Fr' i∧w.heap.size≤i∧i < w2.heap.size:=fun i hi=>by
   rcases hT.out i hi with h | h
   ·exact h.1.elim
   ·rcases hT.fresh i h with h2 | h2
    ·exact h2.elim
    ·exact ⟨h,h2,(hlt i h).2⟩
  have k23:Keeps (fun _=>False) w2 (w2.alloc (.cells #[.int .i64 0] 3)):=(Keeps.refl _ _).alloc _
  have bS:At1 (w2.alloc (.cells #[.int .i64 0] 3)) w2.heap.size 3 (.int .i64 0):=heap_alloc_new _ _
  have hsS:=bS.lt
  simp only [World.size_alloc] at bA hsS
  have k24:=k23.trans k4
  have hs34:=k4.size
  simp only [World.size_alloc] at hs34
  have bS4:=bS.keeps k4 (fun h=>h)
  have l24:Lat w2 F' w4 (fun i=>F' i∨i=w2.heap.size):=⟨k24.mono (fun _ _ h=>h.elim),fun i hi=>hi.imp id (fun e=>by omega)⟩
  have hres4:=hok.frame hres l24 (fun i hi=>Or.inl (hlt i hi).1) (fun i hi=>k24.block i (hlt i hi).2 (fun h=>h))
  have hnot :∀i,w2.heap.size < i→¬ (F' i∨i=w2.heap.size):=fun i hi h=>by
   rcases h with h | h
   ·have:=hF' i h; omega
   ·omega
  have hCt:CtR w2.heap.size 0 w4 (fun i=>F' i∨i=w2.heap.size) (fun i=>i=w2.heap.size):=⟨fun _=>Iff.rfl,Or.inr rfl,bS4⟩
  have hR4:starL (SeR C ⟨(kk:Int),bg,[]⟩ .nilFunc tno :: CtR w2.heap.size ([]:List Mt).length :: mine) w4 (fun i=>F' i∨i=w2.heap.size) (fun i=>i=w2.heap.size∨Fr' i):=starL_perm (starL_new hok hres4 (fun h=>by have:=(hlt _ h).2; omega) (Or.inr rfl) hCt)
  have hFb4:Fb w4 (fun i=>F' i∨i=w2.heap.size):=fun i hi=>by
   rcases hi with h | h
   ·have:=(hF' i h).2.2; omega
   ·omega
  have hS4:Srch C w4 (fun i=>F' i∨i=w2.heap.size) bg (smx u [] f) B mine:=hS.later l24
  have hk04:Keeps (fun _=>False) w w4:=k12.trans k24
  clear hCt hres4 hS hMd HM
  refine range_matches (cap:=1000) (cc:=fun _=>none) (b0:=0) (ρ:=⟨(kk:Int),bg,[]⟩) (X:=smx u [] f) (U:=fun _ out=>CtR w2.heap.size out.length) (fun b out=>ctR_ok _ _) (fun b b' out w F Fr _ h=>h) rfl rfl ?round rfl hS4 ⟨bA.cell,hnot _ (by omega),bA.lt⟩ hFb4 hR4 Rdy.no hX (by rw [hCu]; exact hu) (by rw [hCG]; exact hg9) (Nat.zero_le _) (by rw [hCu]; omega) ?done
  case round =>
   clear hS4 bA hFb4 hR4 hF' hlt hok hT hres bS4 bS l24 hnot hsf2 HE
   intro l w5 F5 Fu b out m ag ng cg hFb5 hU hb5 hrow hnF h1 h2 h3 h4 h5 hn hcc hpx hF5l hll hnl
   clear hrow hnF h1 h2 h3 h4 h5 hcc hpx hU
   refine ⟨fun a1 w6=>w6=w5∧a1 = { tmps:=#[.string s,.string u,undef,undef,.int .i64 0,.pointer (some ⟨C.X,0,none⟩),.pointer (some ⟨w2.heap.size,0,none⟩),.string s,.string u,.pointer (some ⟨C.X,0,none⟩),.pointer (some ⟨C.X,0,none⟩),.bool false,.pointer (some ⟨C.X,0,none⟩),.func (.func 56) #[] #[.pointer (some ⟨w2.heap.size + 1,0,none⟩)],.agg #[.bool m.ok,.int .i64 m.fr,.int .i64 m.up,.slice ag ng cg],undef,undef,undef],defers := [] },?_,?_⟩
   ·have HK:Hid (Keeps (fun _=>False) w5 w5):=Keeps.refl _ _
    gi_wp2
    exact ⟨HK.out,by first | trivial | rfl,by first | rfl | kernel_rfl | simp⟩
   ·rintro a1 w6 w7 k6 ⟨rfl,rfl⟩ k7 ⟨e1,e2,e3⟩
    have d0:=e3.cell
    have fz:w7.frozen? ⟨w2.heap.size,0,none⟩=false:=free_of e3
    have hz:out.length < 1000:=hn
    have HF:Hid (∃F4 Fu4,CtR w2.heap.size (out ++ [m]).length (w7.setCell ⟨w2.heap.size,0,none⟩ (.int .i64 ((out.length:Int) + 1))) F4 Fu4∧Trn w7 F5 Fu (w7.setCell ⟨w2.heap.size,0,none⟩ (.int .i64 ((out.length:Int) + 1))) F4 Fu4):=by
     refine ⟨F5,Fu,⟨e1,e2,?_⟩,Trn.same (fun k hk=>((e1 k).1 hk) ▸ e2) ((keeps_setCell _ _ _ _).mono (fun k _ e=>(e1 k).2 e))⟩
     unfold At1 at e3 ⊢
     rw [heap_setCell_same _ _ _ _ _ _ e3]
     simp
    generalize out.length=N at d0 hz HF
    clear e1 e2 e3 k6 k7 hn hFb5
    gi_wp2
    exact ⟨rfl,(by have h:=HF.out; rw [List.length_append] at h; exact h)⟩
  case done =>
   intro D b' out T' tv w5 F5 Fr5 hout hst ht5 hD hrd2
   obtain ⟨hD1,F3,Fr3,F6,FU,q1,q2,q3,q4⟩:=done_end (ctR_ok _ _) hS4.ok hst ht5
   obtain ⟨e1,e2,e3⟩:=q3
   have e0:At1 w5 w2.heap.size 3 (.int .i64 (out.length:Int)):=by
    unfold At1 at e3 ⊢
    rw [put_other (by omega)] at e3
    exact e3
   have d0:=e0.cell
   have hlen:out=allRef s u:=by
    rw [hout,hCu,hCG,allRef_eq hw ht]
    have h1:=mtold_all [] (allL (fun a=>(smx u [] f a).map (mtOf g a)) u.size (u.size + 2) 0)
    rw [List.nil_append] at h1
    exact h1
   have hkk:Keeps (fun _=>False) w (w5.putObj D (.deferred none)):=hk04.trans' q2.keeps (fun i hi h=>by
    rcases h with h | h
    ·omega
    ·rcases hT.fresh i h with h2 | h2
     ·exact h2
     ·omega)
   have HF:Hid (CountP s u w (.returned (.int .i64 (out.length:Int))) (w5.putObj D (.deferred none))):=⟨by rw [hlen],hkk⟩
   have HD:Hid (w5.heap[D]? = some (.deferred (some []))):=hD1
   clear q1 q2 q4 e1 e2 e3 e0 hD1 hst ht5 hrd2 hkk hS4 bA hFb4 hR4 hF' hlt hok hT hres bS4 bS l24 hnot hsf2 HE hX hout hlen
   gi_wp2
   refine ⟨by simp,.inl ⟨_,_,rfl,run_takeDeferred HD.out,?_⟩⟩
   refine ⟨_,results_tmp rfl _ _ _,?_⟩
   exact HF.out
 ·have hsf2:CallsIn Fence.wide 2 Tryz.prog 33 #[.string s,.string u,.int .i64 0] w (fun e w2=>e = .returned (.pointer none)∧Hid (CountP s u w (.returned (.int .i64 0)) w2)):=by
   refine callsIn_wide.2 (hsf.mono ?_)
   rintro e w2 (⟨h1,rfl,h2⟩ | ⟨g,f,X2,h1,-⟩)
   ·exact ⟨rfl,by rw [allRef_not hw]; rfl,h2⟩
   ·rw [h1] at hw; exact absurd rfl hw
  clear hsf hpn
  gi_wp2_with (gi_at_call 33; refine hsf2.mono ?_; rintro e w2 ⟨rfl,HP⟩)
  refine ⟨_,results_tmp rfl _ _ _,?_⟩
  exact HP.out
def McR (S B b:Nat) (out:List Mt):Rsc:=fun w F Fr =>∃(v:Value) (L:List Mm),At1 w S 25 v∧L.map (·.1)=out∧w.ownsRow B 29 4 v L.length (L.flatMap cell4)∧MwI B w F L∧(∀k,Fr k↔k=S∨v.ownBlock=some k)∧(∀k,Fr k→F k)∧v.ownBlock≠some S∧B≤b∧∀x∈L,∀k,x.2.ownBlock=some k→k < b
theorem mcR_ok (S B b:Nat) (out:List Mt):RscOk (McR S B b out):=by
 refine ⟨?_,?_⟩
 ·rintro w F Fr ⟨v,L,h1,h2,h3,h4,h5,h6,h7,h8⟩ k hk
  refine ⟨h6 k hk,?_⟩
  rcases (h5 k).1 hk with rfl | hk
  ·exact h1.lt
  ·exact (h3.lt k hk).2
 ·rintro w w' F F' Fr ⟨v,L,h1,h2,h3,h4,h5,h6,h7,h8⟩ l hF' hk
  exact ⟨v,L,by unfold At1; rw [hk S ((h5 S).2 (Or.inl rfl))]; exact h1,h2,ownsRow_at h3 (fun k h=>hk k ((h5 k).2 (Or.inr h))),h4.later l,h5,hF',h7,h8⟩
theorem mcR_up (S B:Nat) (b b':Nat) (out:List Mt) (w:World) (F Fr:Bs2) (hb:b≤b') (h:McR S B b out w F Fr):McR S B b' out w F Fr:=by
 obtain ⟨v,L,h1,h2,h3,h4,h5,h6,h7,h8,h9⟩:=h
 exact ⟨v,L,h1,h2,h3,h4,h5,h6,h7,Nat.le_trans h8 hb,fun x hx k hk=>Nat.lt_of_lt_of_le (h9 x hx k hk) hb⟩
theorem mcR_add {S B b:Nat} {m:Mt} {out:List Mt} {w:World} {F Fr:Bs2} {a:Option Addr} {n c:Nat} {v:Value} {L:List Mm} (hFb:Fb w F) (hb:b≤w.heap.size) (h1:At1 w S 25 v) (h2:L.map (·.1)=out) (h3:w.ownsRow B 29 4 v L.length (L.flatMap cell4)) (h4:MwI B w F L) (h5 :∀k,Fr k↔k=S∨v.ownBlock=some k) (h6 :∀k,Fr k→F k) (h7:v.ownBlock≠some S) (h8:B≤b) (h9 :∀x∈L,∀k,x.2.ownBlock=some k→k < b) (hl:out.length < 1000)
  (hrow:w.ownsRow b 31 2 (.slice a n c) m.gs.length (flatR m.gs)) (hnF :∀k,(Value.slice a n c).ownBlock=some k→¬ F k) :
  ∃ v' w3,Sem.run Tryz.prog (Builtin.append_ #[25,25] 25 #[v,.slice (some ⟨w.heap.size,0,none⟩) 1 1]) (w.alloc (.cells #[.bool m.ok,.int .i64 m.fr,.int .i64 m.up,.slice a n c] 29)) = .ok v' w3∧(∃ao n cap,v' = .slice ao n cap)∧w3.cell? ⟨S,0,none⟩=some v∧w3.frozen? ⟨S,0,none⟩=false∧
    ∃F4 Fu4,McR S B (w3.setCell ⟨S,0,none⟩ v').heap.size (out ++ [m]) (w3.setCell ⟨S,0,none⟩ v') F4 Fu4∧Trn w F Fr (w3.setCell ⟨S,0,none⟩ v') F4 Fu4:=by
 have hlen:L.length=out.length:=by have:=congrArg List.length h2; simpa using this
 obtain ⟨v',w',hrun,ho,hk,hbk⟩:=app_matchB h3 (Nat.le_trans h8 hb) (by omega) (m,.slice a n c) rfl
 have hS:At1 w' S 25 v:=h1.keeps hk h7
 have hS2:(w'.setCell ⟨S,0,none⟩ v').heap[S]? = some (.cells #[v'] 25 (0,0)):=by rw [heap_setCell_same _ _ _ _ _ _ hS]; rfl
 have hne:v'.ownBlock≠some S:=fun e=>by
  rcases hbk S e with h | h
  ·exact h7 h
  ·have:=h1.lt; omega
 have kS:Keeps (fun k=>k=S) w' (w'.setCell ⟨S,0,none⟩ v'):=keeps_setCell _ _ _ _
 have kAll:Keeps Fr w (w'.setCell ⟨S,0,none⟩ v'):=(hk.mono (fun k _ h=>(h5 k).2 (Or.inr h))).trans (kS.mono (fun k _ e=>(h5 k).2 (Or.inl e)))
 have hsz:=kAll.size
 have ho2:(w'.setCell ⟨S,0,none⟩ v').ownsRow B 29 4 v' (L ++ [(m,Value.slice a n c)]).length ((L ++ [(m,Value.slice a n c)]).flatMap cell4):=ownsRow_at ho (fun k h=>Below.heap_setCell _ _ _ _ (fun e=>hne (by rw [h]; exact congrArg some e)))
 obtain ⟨F4,hF4⟩ :∃F4:Bs2,F4=fun k=>(F k∧¬ Fr k)∨k=S∨v'.ownBlock=some k:=⟨_,rfl⟩
 have lt:Lat w F (w'.setCell ⟨S,0,none⟩ v') F4:=⟨kAll.mono (fun k _ h=>h6 k h),fun k h=>by
  rw [hF4] at h
  rcases h with h | h | h
  ·exact Or.inl h.1
  ·exact Or.inl (h6 k ((h5 k).2 (Or.inl h)))
  ·rcases hbk k h with h | h
   ·exact Or.inl (h6 k ((h5 k).2 (Or.inr h)))
   ·exact Or.inr (by omega)⟩
 have hfresh :∀k,(Value.slice a n c).ownBlock=some k→b≤k∧k < w.heap.size:=fun k hk=>hrow.lt k hk
 refine ⟨v',w',hrun,(by obtain ⟨ao,cap,rfl⟩:=own_form ho; exact ⟨_,_,_,rfl⟩),hS.cell,free_of hS,F4,fun k=>k=S∨v'.ownBlock=some k,?_,?_⟩
 ·refine ⟨v',L ++ [(m,.slice a n c)],hS2,by simp [h2],ho2,⟨fun x hx=>?_,?_⟩,fun k=>Iff.rfl,fun k h=>by rw [hF4]; exact Or.inr h,hne,by omega,fun x hx k hk2=>?_⟩
  ·rcases List.mem_append.1 hx with hx | hx
   ·exact ownsRow_later (h4.rows x hx) lt
   ·simp at hx
    subst hx
    obtain ⟨r1,r2⟩:=ownsRow_later ⟨hrow,hnF⟩ lt
    exact ⟨ownsRow_base r1 (fun k hk=>Nat.le_trans h8 (hfresh k hk).1),r2⟩
  ·rw [List.filterMap_append,List.nodup_append]
   refine ⟨h4.sep,?_,fun i hi j hj e=>?_⟩
   ·cases hc:(Value.slice a n c).ownBlock <;> simp [hc]
   ·obtain ⟨x,hx,hxe⟩:=List.mem_filterMap.1 hi
    have hj2:(Value.slice a n c).ownBlock=some j:=by
     obtain ⟨y,hy,hye⟩:=List.mem_filterMap.1 hj
     simp at hy
     subst hy
     exact hye
    subst e
    have:=h9 x hx _ hxe
    have:=(hfresh _ hj2).1
    omega
  ·rcases List.mem_append.1 hx with hx | hx
   ·have:=h9 x hx k hk2; omega
   ·simp at hx
    subst hx
    have:=(hfresh k hk2).2; omega
 ·refine ⟨kAll,fun k h=>?_,fun k h=>by rw [hF4] at h; exact h,fun k _ h hn=>by rw [hF4]; exact Or.inl ⟨h,hn⟩,fun k h=>by rw [hF4]; exact Or.inr h⟩
  rcases h with h | h
  ·exact Or.inl ((h5 k).2 (Or.inl h))
  ·rcases hbk k h with h | h
   ·exact Or.inl ((h5 k).2 (Or.inr h))
   ·exact Or.inr (by omega)
def ColM (l:List Mt) (w:World) (Fr:Bs2) (e:Ending) (w':World):Prop :=
 ∃(ao:Option Addr) (n c:Nat) (L:List Mm),e = .returned (.slice ao n c)∧L.map (·.1)=l∧w'.ownsRow w.heap.size 29 4 (.slice ao n c) L.length (L.flatMap cell4)∧MwI w.heap.size w' (fun _=>False) L∧Keeps Fr w w'
set_option maxHeartbeats 1000000 in
set_option maxRecDepth 100000 in
theorem appseqM_any {C:Cx} {ρ:Rx} {X:Xs} {B:Option Bo} {mine:List Rsc} {T:Tt} {tl:Value} {w:World} {F Fr:Bs2} {A:Nat} (hS:Srch C w F ρ.bg X B mine) (hA:CeI w F A 0 (.pointer (some ⟨C.X,0,none⟩))) (hFb:Fb w F) (hR:starL (SeR C ρ tl T :: mine) w F Fr) (hrd:Rdy C.u.size T B) (hX:OkX C.u.size 0 C.G X) (hu:C.u.size≤200) (hG:C.G≤9) :
  Calls Tryz.prog 55 #[.slice none 0 0,.func (.func 56) #[] #[.pointer (some ⟨A,0,none⟩)]] w (ColM (allL (fun a=>(X a).map (mtOf C.G a)) C.u.size (C.u.size + 2) 0) w Fr):=by
 have hmS:RscOk (starL (SeR C ρ tl T :: mine)):=se_ok hS.ok _ _ _ _
 have k1:Keeps (fun _=>False) w (w.alloc (.cells #[.slice none 0 0] 25)):=(Keeps.refl _ w).alloc _
 have b1:At1 (w.alloc (.cells #[.slice none 0 0] 25)) w.heap.size 25 (.slice none 0 0):=heap_alloc_new _ _
 have l1:Lat w F (w.alloc (.cells #[.slice none 0 0] 25)) (fun k=>F k∨k=w.heap.size):=⟨k1.mono (fun _ _ h=>h.elim),fun k hk=>hk.imp id (fun e=>by omega)⟩
 have hFr :∀k,Fr k→F k∧k < w.heap.size:=hmS.lt hR
 have hR1:starL (SeR C ρ tl T :: mine) (w.alloc (.cells #[.slice none 0 0] 25)) (fun k=>F k∨k=w.heap.size) Fr:=hmS.frame hR l1 (fun k hk=>Or.inl (hFr k hk).1) (fun k hk=>k1.block k (hFr k hk).2 (fun h=>h))
 have hC1:McR w.heap.size w.heap.size w.heap.size [] (w.alloc (.cells #[.slice none 0 0] 25)) (fun k=>F k∨k=w.heap.size) (fun k=>k=w.heap.size):=⟨_,[],b1,rfl,World.ownsRow_nil _ _ _ _,⟨by simp,by simp⟩,fun k=>by simp [Value.ownBlock],fun k hk=>Or.inr hk,by simp [Value.ownBlock],Nat.le_refl _,by simp⟩
 have hR2:starL (SeR C ρ tl T :: McR w.heap.size w.heap.size w.heap.size [] :: mine) (w.alloc (.cells #[.slice none 0 0] 25)) (fun k=>F k∨k=w.heap.size) (fun k=>k=w.heap.size∨Fr k):=starL_perm (starL_new hmS hR1 (fun h=>by have:=(hFr _ h).2; omega) (Or.inr rfl) hC1)
 have hFb1:Fb (w.alloc (.cells #[.slice none 0 0] 25)) (fun k=>F k∨k=w.heap.size):=fun k hk=>hk.elim (fun h=>Nat.lt_of_lt_of_le (hFb k h) k1.size) (fun e=>by have:=b1.lt; omega)
 have hS1:=hS.later l1; have hA1:=hA.later l1
 have hb1:w.heap.size≤(w.alloc (.cells #[.slice none 0 0] 25)).heap.size:=k1.size
 clear hR1 hC1 l1 hS hA hFb hR hmS hFr
 refine (callsIn_wide (n:=3)).1 ?_
 refine callsIn_of_wp_marks Tryz.func55 rfl trivial ?_
 simp only [Tryz.ntmps55,List.size_toArray,List.length_cons,List.length_nil,Nat.reduceAdd,Nat.reduceSub,Array.replicate_succ,Array.replicate_zero,List.push_toArray,List.append_toArray,List.nil_append,List.cons_append]
 gi_wp2
 refine range_matches (cap:=1000) (cc:=fun _=>none) (U:=McR w.heap.size w.heap.size) (fun b out=>mcR_ok _ _ b out) (fun b b' out w F Fr=>mcR_up _ _ b b' out w F Fr) rfl rfl ?round rfl hS1 hA1 hFb1 hR2 hrd hX hu hG hb1 (by omega) ?done
 case round =>
  intro l w1 F1 Fu b out m ag ng cg hFb hU hbs hrow hnF hok hgl hfr hup hupN hn hcc hpx hF1l hll hnl
  clear hgl hfr hup hupN hcc hpx
  refine ⟨fun a1 w2=>w2.heap[w1.heap.size]? = some (.cells #[.bool m.ok,.int .i64 m.fr,.int .i64 m.up,.slice ag ng cg] 29 (0,0))∧a1 = { tmps:=#[.slice none 0 0,.func (.func 56) #[] #[.pointer (some ⟨A,0,none⟩)],.pointer (some ⟨w.heap.size,0,none⟩),undef,.slice none 0 0,.pointer (some ⟨w1.heap.size,0,none⟩),.func (.func 56) #[] #[.pointer (some ⟨A,0,none⟩)],.agg #[.bool m.ok,.int .i64 m.fr,.int .i64 m.up,.slice ag ng cg],undef,undef,undef,undef,undef],defers := [] },?_,?_⟩
  ·have HK:Hid (Keeps (fun _=>False) w1 (w1.alloc (.cells #[.bool m.ok,.int .i64 m.fr,.int .i64 m.up,.slice ag ng cg] 29))):=(Keeps.refl _ _).alloc _
   have HA:Hid ((w1.alloc (.cells #[.bool m.ok,.int .i64 m.fr,.int .i64 m.up,.slice ag ng cg] 29)).heap[w1.heap.size]? = some (.cells #[.bool m.ok,.int .i64 m.fr,.int .i64 m.up,.slice ag ng cg] 29 (0,0))):=heap_alloc_new _ _
   clear hU hrow hnF hok
   gi_wp2
   exact ⟨HK.out,HA.out,by first | trivial | rfl⟩
  ·rintro a1 w2 w3 k2 ⟨hb,rfl⟩ k3 ⟨v,L,c1,c2,c3,c4,c5,c6,c7,c8,c9⟩
   have hb3:w3.heap[w1.heap.size]? = some (.cells #[.bool m.ok,.int .i64 m.fr,.int .i64 m.up,.slice ag ng cg] 29 (0,0)):=by rw [k3.block _ (lt_of_block hb) (by omega)]; exact hb
   have l3:Lat w1 F1 w3 F1:=(Lat.ofKeeps k2).trans ⟨k3.mono (fun k _ e=>e ▸ hF1l),fun k h=>Or.inl h⟩
   have hFb3:Fb w3 F1:=(hFb.keeps k2).keeps k3
   obtain ⟨ao,n,cap,hvf⟩ :∃ao n cap,v = .slice ao n cap:=by obtain ⟨ao,cap,h⟩:=own_form c3; exact ⟨_,_,_,h⟩
   have e0:=c1.cell
   have e1:w3.cell? ⟨w1.heap.size,0,none⟩=some (.bool m.ok):=by rw [cell_of hb3]; rfl
   have e2:w3.cell? ⟨w1.heap.size,1,none⟩=some (.int .i64 m.fr):=by rw [cell_of hb3]; rfl
   have e3:w3.cell? ⟨w1.heap.size,2,none⟩=some (.int .i64 m.up):=by rw [cell_of hb3]; rfl
   have e4:w3.cell? ⟨w1.heap.size,3,none⟩=some (.slice ag ng cg):=by rw [cell_of hb3]; rfl
   obtain ⟨r1,r2⟩:=ownsRow_later ⟨hrow,hnF⟩ l3
   obtain ⟨v',w4,hrun,⟨ao',n',cap',rfl⟩,cS,fS,hfin⟩:=mcR_add (m:=m) hFb3 (Nat.le_trans hbs (Nat.le_trans k2.size k3.size)) c1 c2 c3 c4 c5 c6 c7 c8 c9 hn r1 r2
   have es:(w4.setCell ⟨w.heap.size,0,none⟩ (.slice ao' n' cap')).heap.size=w4.heap.size:=by simp [World.setCell]
   rw [es] at hfin
   have HF:Hid (∃F4 Fu4,McR w.heap.size w.heap.size w4.heap.size (out ++ [m]) (w4.setCell ⟨w.heap.size,0,none⟩ (.slice ao' n' cap')) F4 Fu4∧Trn w3 F1 Fu (w4.setCell ⟨w.heap.size,0,none⟩ (.slice ao' n' cap')) F4 Fu4):=hfin
   rw [hvf] at e0 hrun cS
   clear hfin es c1 c2 c3 c4 c5 c6 c7 c8 c9 hb3 l3 hFb3 hb k2 k3 hU hrow hnF hvf r1 r2 hok
   gi_wp2_with (gi_at_builtin; refine wpListIn_append_run rfl _ _ _ _ rfl rfl _ _ _ _ rfl rfl hrun ?_)
   exact ⟨rfl,HF.out⟩
 case done =>
  intro D b' out T' tv w2 F2 Fr2 hout hst ht hD hrd2
  obtain ⟨hD1,F3,Fr3,F4,FU,q1,q2,q3,q4⟩:=done_end (mcR_ok _ _ _ _) hS1.ok hst ht
  obtain ⟨v,L,c1,c2,c3,c4,c5,c6,c7,c8,c9⟩:=q3
  have c0:At1 w2 w.heap.size 25 v:=by
   have:D≠w.heap.size:=by have:=b1.lt; omega
   unfold At1 at c1 ⊢
   rw [put_other (Ne.symm this)] at c1
   exact c1
  obtain ⟨ao,cap,hvf⟩:=own_form c3
  subst hvf
  have e0:=c0.cell
  have hmt:(mtold (fun o=>((fun (_:List Mt)=>(none:Option Code)) o).isNone) [] (allL (fun a=>(X a).map (mtOf C.G a)) C.u.size (C.u.size + 2) 0))=allL (fun a=>(X a).map (mtOf C.G a)) C.u.size (C.u.size + 2) 0:=by
   have:=mtold_all [] (allL (fun a=>(X a).map (mtOf C.G a)) C.u.size (C.u.size + 2) 0)
   rw [List.nil_append] at this
   exact this
  have HF:Hid (ColM (allL (fun a=>(X a).map (mtOf C.G a)) C.u.size (C.u.size + 2) 0) w Fr (.returned (.slice ao L.length cap)) (w2.putObj D (.deferred none))):=⟨ao,L.length,cap,L,rfl,by rw [c2,hout,hmt],c3,⟨fun x hx=>⟨(c4.rows x hx).1,fun _ _ h=>h⟩,c4.sep⟩,(k1.mono (fun _ _ h=>h.elim)).trans' (E:=Fr) q2.keeps (fun i hi h=>h.elim (fun e=>by omega) id)⟩
  have HD:Hid (w2.heap[D]? = some (.deferred (some []))):=hD1
  clear q1 q2 q4 hD1 hst ht c0 c1 c2 c3 c4 c5 c6 c7 c8 c9 hS1 hA1 hR2 hFb1 hX hout hmt
  gi_wp2
  refine ⟨by simp,.inl ⟨_,_,rfl,run_takeDeferred HD.out,?_⟩⟩
  refine ⟨_,results_tmp rfl _ _ _,?_⟩
  exact HF.out
set_option maxHeartbeats 400000 in
set_option maxRecDepth 100000 in
theorem collectM_any {C:Cx} {ρ:Rx} {X:Xs} {B:Option Bo} {mine:List Rsc} {T:Tt} {tl:Value} {w:World} {F Fr:Bs2} {A:Nat} (hS:Srch C w F ρ.bg X B mine) (hA:CeI w F A 0 (.pointer (some ⟨C.X,0,none⟩))) (hFb:Fb w F) (hR:starL (SeR C ρ tl T :: mine) w F Fr) (hrd:Rdy C.u.size T B) (hX:OkX C.u.size 0 C.G X) (hu:C.u.size≤200) (hG:C.G≤9) :
  Calls Tryz.prog 34 #[.func (.func 56) #[] #[.pointer (some ⟨A,0,none⟩)]] w (ColM (allL (fun a=>(X a).map (mtOf C.G a)) C.u.size (C.u.size + 2) 0) w Fr):=by
 have hcall:Calls Tryz.prog 55 #[.slice none 0 0,.func (.func 56) #[] #[.pointer (some ⟨A,0,none⟩)]] w (fun e w' =>∃ao n cap,e = .returned (.slice ao n cap)∧Hid (ColM (allL (fun a=>(X a).map (mtOf C.G a)) C.u.size (C.u.size + 2) 0) w Fr (.returned (.slice ao n cap)) w')):=by
  refine (appseqM_any hS hA hFb hR hrd hX hu hG).mono ?_
  intro e w' h
  obtain ⟨ao,n,c,L,rfl,h1⟩:=id h
  exact ⟨_,_,_,rfl,h⟩
 clear hS hA hFb hR hrd hX
 go_enter Tryz.func34,Tryz.ntmps34
 go_wp2_with (go_at_call 55; refine hcall.mono ?_; rintro e w2 ⟨ao,n,cap,rfl,HF⟩)
 go_ret
 exact HF.out
set_option maxHeartbeats 2000000 in
set_option maxRecDepth 100000 in
theorem iall_any {w:World} {s u:ByteArray}:Calls Tryz.prog 10 #[.string s,.string u] w (ColM (allRef s u) w (fun _=>False)):=by
 have hpn :∀(a:Addr) (w:World),(binOp BinOp.eql 61 (.pointer (some a)) (.pointer none)).run Tryz.prog w = .ok (.bool false) w:=fun _ _=>by kernel_rfl
 have hpn0 :∀(w:World),(binOp BinOp.eql 61 (.pointer none) (.pointer none)).run Tryz.prog w = .ok (.bool true) w:=fun _=>by kernel_rfl
 have hsf:Calls Tryz.prog 33 #[.string s,.string u,.int .i64 0] w _:=searchFor_any (F:=fun _=>False) (fun _ h=>h.elim)
 by_cases hw:wanted s u 0=true
 ·have hu:u.size≤200:=by
   simp only [wanted,Bool.and_eq_true,decide_eq_true_eq] at hw
   omega
  have hsf2:Calls Tryz.prog 33 #[.string s,.string u,.int .i64 0] w (fun e w2 =>∃X2,e = .returned (.pointer (some ⟨X2,0,none⟩))∧Hid (∀w3 A,Keeps (fun _=>False) w2 w3→w2.heap.size≤A→At1 w3 A 61 (.pointer (some ⟨X2,0,none⟩))→Calls Tryz.prog 34 #[.func (.func 56) #[] #[.pointer (some ⟨A,0,none⟩)]] w3 (fun e w' =>∃ao n cap,e = .returned (.slice ao n cap)∧Hid (ColM (allRef s u) w (fun _=>False) (.returned (.slice ao n cap)) w')))):=by
   refine hsf.mono ?_
   rintro e w2 (⟨h1,-⟩ | ⟨g,f,X2,h1,ht,rfl,hMd⟩)
   ·rw [hw] at h1; cases h1
   ·have k12:=made_keeps hMd
    obtain ⟨C,kk,bg,B,mine,F',Fr',hCX,hCu,hCG,hres,hT,hS⟩:=hMd.ex
    obtain ⟨hfg,hg9,hf1,hf4⟩:=tree_fg ht
    have hX:OkX C.u.size 0 C.G (smx u [] f):=by rw [hCu,hCG]; exact fp_ok u ⟨f,hfg,rfl⟩
    have hok:=se_ok (C:=C) (ρ:=⟨(kk:Int),bg,[]⟩) (tl:=.nilFunc) (T:=tno) hS.ok
    have hlt:=hok.lt hres
    have hF' :∀i,F' i→w.heap.size≤i∧i < w2.heap.size:=fun i hi=>by
     rcases hT.out i hi with h | h
     ·exact h.1.elim
     ·rcases hT.fresh i h with h2 | h2
      ·exact h2.elim
      ·exact ⟨h2,(hlt i h).2⟩
    refine ⟨X2,rfl,?_⟩
    intro w3 A k3 hA2 hA
    have l3:Lat w2 F' w3 F':=Lat.ofKeeps k3
    have hs23:=k3.size
    have hres3:=hok.frame hres l3 (fun i hi=>(hlt i hi).1) (fun i hi=>k3.block i (hlt i hi).2 (fun h=>h))
    subst hCX
    refine (collectM_any (hS.later l3) ⟨hA.cell,fun h=>by have:=(hF' _ h).2; omega,hA.lt⟩ (fun i hi=>Nat.lt_of_lt_of_le (hF' i hi).2 hs23) hres3 Rdy.no hX (by rw [hCu]; exact hu) (by rw [hCG]; exact hg9)).mono ?_
    rintro e w' ⟨ao,n,c,L,rfl,h1,h2,h3,h4⟩
    have hs12:=k12.size
    have hle:w.heap.size≤w3.heap.size:=Nat.le_trans hs12 hs23
    refine ⟨ao,n,c,rfl,ao,n,c,L,rfl,?_,ownsRow_base h2 (fun k hk=>Nat.le_trans hle (h2.lt k hk).1),⟨fun x hx=>⟨ownsRow_base (h3.rows x hx).1 (fun k hk=>Nat.le_trans hle ((h3.rows x hx).1.lt k hk).1),fun _ _ h=>h⟩,h3.sep⟩,?_⟩
    ·rw [h1,allRef_eq hw ht,hCu,hCG]
    ·exact (k12.trans k3).trans' h4 (fun i hi h=>by have:=(hF' i (hlt i h).1).1; omega)
  clear hsf hpn0
  go_enter Tryz.func10,Tryz.ntmps10
  go_wp2_with (first
   | (go_at_call 33; refine hsf2.mono ?_; rintro e w2 ⟨X2,rfl,HM⟩)
   | (go_at_call 35; refine matches_any.mono ?_; rintro e w4 ⟨rfl,bA,k4⟩)
   | (go_at_call 34; refine (HM.out _ _ k4 (Nat.le_refl _) bA).mono ?_; rintro e w5 ⟨ao,n,cap,rfl,HF⟩))
  go_ret
  exact HF.out
 ·have hsf2:Calls Tryz.prog 33 #[.string s,.string u,.int .i64 0] w (fun e w2=>e = .returned (.pointer none)∧Keeps (fun _=>False) w w2):=by
   refine hsf.mono ?_
   rintro e w2 (⟨h1,rfl,h2⟩ | ⟨g,f,X2,h1,-⟩)
   ·exact ⟨rfl,h2⟩
   ·rw [h1] at hw; exact absurd rfl hw
  rw [allRef_not hw]
  clear hsf hpn
  go_enter Tryz.func10,Tryz.ntmps10
  go_wp2_with (go_at_call 33; refine hsf2.mono ?_; rintro e w2 ⟨rfl,hk⟩)
  go_ret
  exact ⟨none,0,0,[],rfl,rfl,World.ownsRow_nil _ _ _ _,⟨by simp,by simp⟩,hk⟩
end Go.Proofs.YthkmmeamplmnhaaGreat
