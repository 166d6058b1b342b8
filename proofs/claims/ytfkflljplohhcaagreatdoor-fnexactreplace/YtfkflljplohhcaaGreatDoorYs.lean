import Derived.Test.YtfkflljplohhcaaGreatDoorYr
namespace Go.Proofs.YtfkflljplohhcaaGreatDoor
open Go.RowKit
set_option linter.unusedVariables false
def mdU (D:Nat) (U:Nat->List Mt->Rsc) (b:Nat) (out:List Mt):Rsc:=Zp [DfR D,U b out]
theorem ZdX {D:Nat} {U:Nat->List Mt->Rsc} (hU :∀b out,Zq (U b out)) (b:Nat) (out:List Mt):Zq (mdU D U b out) :=
 ZR (fun R hR=>by
  rcases List.mem_cons.1 hR with rfl | hR
  ·exact QK D
  ·rcases List.mem_cons.1 hR with rfl | hR
   ·exact hU b out
   ·simp at hR)
theorem ZpH {D:Nat} {U:Nat->List Mt->Rsc} (hup :∀b b' out w F Fr,b<=b'->U b out w F Fr->U b' out w F Fr) (b b':Nat) (out:List Mt) (w:World) (F Fr:Bs2) (hb:b<=b') (h:mdU D U b out w F Fr):mdU D U b' out w F Fr:=by
 obtain ⟨F1,F2,hA⟩:=QQ.1 h;exact QQ.2 ⟨F1,F2,hA.all,hA.dis,hA.one,hup _ _ _ _ _ _ hb hA.two⟩
theorem ZqG {D:Nat} {U:Nat->List Mt->Rsc} (hU :∀b out,Zq (U b out)) (hup :∀b b' out w F Fr,b<=b'->U b out w F Fr->U b' out w F Fr) (out:List Mt):Zq (fun w F Fr=>mdU D U w.heap.size out w F Fr):=by
 refine ⟨fun h=>(ZdX hU _ out).lt h,?_⟩;intro w w' F F' Fr h l hF' hk;exact ZpH hup _ _ _ _ _ _ l.size ((ZdX hU _ out).frame h l hF' hk)
def ZmZ (N:Nat) (Al:List Mt) (Xa:Nat) (xt:ByteArray) (tmps:Array Value) (ps:Array Tmp) (assign body:Code) (cc:List Mt->Option Code) (cap:Nat) (U:Nat->List Mt->Rsc):Prop :=
 ∀ (l:Nat) (w1:World) (F1 Fu:Bs2) (b:Nat) (out:List Mt) (m:Mt) (ag:Option Addr) (ng cg:Nat),Fb w1 F1->U b out w1 F1 Fu->b<=w1.heap.size->w1.ownsRow b 118 2 (.slice ag ng cg) m.gs.length (ZB m.gs)->(∀k,(Value.slice ag ng cg).ownBlock=some k->¬ F1 k)->m.ok=true->m.gs.length<=9->0<=m.fr->m.fr<=m.up->m.up<=(N:Int)->out.length < cap->cc out=none->out ++ [m] <+: Al->F1 l->l < w1.heap.size->¬ Fu l->
   ∃ Ax:Act->World->Prop,assign.wpIn (Fence.wide.inRound l) 0 Tryz.prog (Exit.then (fun a1 w2=>Za N0_ w1 w2/\Ax a1 w2) (fun _ _ _=>False)) { tmps:=(ps.zip #[.agg #[.bool m.ok,.int .i64 m.fr,.int .i64 m.up,.slice ag ng cg]]).foldl (fun t (p,v)=>t.setIfInBounds p v) tmps,defers := [] } w1/\
     ∀ (a1:Act) (w2 w3:World),Za N0_ w1 w2->Ax a1 w2->Za (fun k=>k=l) w2 w3->TxA Xa xt w3->U b out w3 F1 Fu->
       body.wpIn (Fence.wide.inRound l) 0 Tryz.prog (fun e a3 w4=>Zoz (cc (out ++ [m])) e/\∃F4 Fu4,U w4.heap.size (out ++ [m]) w4 F4 Fu4/\Trn w3 F1 Fu w4 F4 Fu4) a1 w3
def lpM (l:Nat) (r:LoopState->Option Code->Loop) (cc:List Mt->Option Code) (U:Nat->List Mt->Rsc) (b:Nat) (out:List Mt):Rsc:=LpR l (r (if (cc out).isNone then .ready else .done) (cc out)) (U b out)
def Zn5 (l:Nat) (r:LoopState->Option Code->Loop) (cc:List Mt->Option Code) (cap:Nat) (U:Nat->List Mt->Rsc):Mlr:=⟨l,fun out=>(cc out).isNone,cap,lpM l r cc U⟩
theorem Zn1 {N l D fn cap Xa:Nat} {xt:ByteArray} {Al:List Mt} {tmps:Array Value} {ps:Array Tmp} {assign body:Code} {cc:List Mt->Option Code} {U:Nat->List Mt->Rsc} (hU :∀b out,Zq (U b out)) (hup :∀b b' out w F Fr,b<=b'->U b out w F Fr->U b' out w F Fr) (h0:cc []=none) (hps:ps.size=1) (h:ZmZ N Al Xa xt tmps ps assign body cc cap U) :
  ZcD N Al Xa xt (Zn5 l (Zal fn tmps ps assign body D) cc cap (mdU D U)):=by
 refine ⟨fun b out=>ZpJ (ZdX hU b out),by show (cc []).isNone=true; rw [h0]; rfl,?_,?_⟩
 ·rintro b b' out w F Fr hb ⟨Fu,he,hn,hF,hl,hUw⟩;exact ⟨Fu,he,hn,hF,hl,ZpH hup _ _ _ _ _ _ hb hUw⟩
 ·intro w F Fr b out m a n c hFb ht hb hrow hnb h1 h2 h3 h4 h5 hn hon hpx hTx;have hc:cc out=none:=Option.isNone_iff_eq_none.1 hon;have ht':LpR l (Zal fn tmps ps assign body D .ready none) (mdU D U b out) w F Fr:=by
   have h6:lpM l (Zal fn tmps ps assign body D) cc (mdU D U) b out w F Fr:=ht;unfold lpM at h6;rw [hc] at h6;exact h6
  obtain ⟨Fu0,he0,hn0,hF0,hl0,hU0⟩:=id ht';have hlt:l < w.heap.size:=(Array.getElem?_eq_some_iff.1 hl0).1;obtain ⟨Fa,Fu,hA⟩:=QQ.1 hU0;have hnu:¬ Fu l:=fun h=>hn0 ((hA.all l).2 (Or.inr h));obtain ⟨Ax,r1,r2⟩:=h l w F Fu b out m a n c hFb hA.two hb hrow hnb h1 h2 h3 h4 h5 hn hc hpx hF0 hlt hnu;refine Zc2 (U:=mdU D U b out) (U':=fun w F Fr=>mdU D U w.heap.size (out ++ [m]) w F Fr) (c:=cc (out ++ [m])) (Ax:=Ax) (ZdX hU b out) (ZqG hU hup _) (by simp [hps]) he0 hn0 hF0 hl0 hU0 r1 ?_;intro a1 w1 w2 k1 hx k2 hUv;have hlat:Lat w F w2 F:=(Lat.ofKeeps k1).trans ⟨k2.mono (fun k _ e=>e ▸ hF0),fun k h=>Or.inl h⟩;have hsame :∀k,k < w.heap.size->k≠l->w2.heap[k]? = w.heap[k]?:=fun k hk hne=>by
   rw [k2.block k (Nat.lt_of_lt_of_le hk k1.size) hne,k1.block k hk id]
  have hU2:U b out w2 F Fu:=(hU b out).frame hA.two hlat (fun k hk=>((hU b out).lt hA.two k hk).1) (fun k hk=>hsame k ((hU b out).lt hA.two k hk).2 (fun e=>hnu (e ▸ hk)));have hD2:DfR D w2 F Fa:=(QK D).frame hA.one hlat (fun k hk=>((QK D).lt hA.one k hk).1) (fun k hk=>hsame k ((QK D).lt hA.one k hk).2 (fun e=>hn0 (e ▸ (hA.all k).2 (Or.inl hk))));have hA2:Apt (U b out) (DfR D) w2 F Fu0 Fu Fa:=⟨fun k=>(hA.all k).trans Or.comm,fun k h1 h2=>hA.dis k h2 h1,hU2,hD2⟩;have hTx2:TxA Xa xt w2:=by
   refine (hTx.keeps k1 id).keeps k2 (fun e=>?_);obtain ⟨cs,hX1,-⟩:=hTx;have e':Xa=l:=e;rw [e',hl0] at hX1
   cases hX1
  refine wpIn_mono (r2 a1 w1 w2 k1 hx k2 hTx2 hU2) ?_;rintro e a3 w4 ⟨hex,F4,Fu4,g1,g2⟩;obtain ⟨p1,p2⟩:=hA2.upd (hU b out) (QK D) g2 g1;exact ⟨hex,F4,_,QQ.2 ⟨_,_,p1.swap⟩,p2⟩
theorem ZdP {g:Operand} {ps:Array Tmp} {assign body:Code} {Q:Exit->Act->World->Prop} {a:Act} {w:World} {n cap b0:Nat} {C:Cx} {ρ:Rx} {B:Option Bo} {mine:List Rsc} {T:Tt} {tl:Value} {F Fr:Bs2} {gf:Nat} {lb:Array Value} {Al:List Mt} {cc:List Mt->Option Code} {U:Nat->List Mt->Rsc}
  (hU :∀b out,Zq (U b out)) (hup :∀b b' out w F Fr,b<=b'->U b out w F Fr->U b' out w F Fr) (h0:cc []=none) (hps:ps.size=1) (hround:ZmZ C.u.size Al C.X C.u a.tmps ps assign body cc cap U)
  (hg:a.eval g = .func (.func gf) #[] lb) (eg:ZdD gf)
  (ha :∀R∈mine,Zq R) (hFb:Fb w F) (hR:Zp (SeR C ρ tl T :: U b0 [] :: mine) w F Fr) (hb:b0<=w.heap.size)
  (hrun :∀(τ:Mlr) (w1:World) (F1 Fr1:Bs2),ZcD C.u.size Al C.X C.u τ->Lat w F w1 F1->Zp (SeR C ρ tl T :: τ.tl b0 [] :: mine) w1 F1 Fr1->Fb w1 F1->b0<=w1.heap.size->cap<=τ.cap->Calls Tryz.prog gf (#[.func (.yield τ.l) #[] #[]] ++ lb) w1 (MtP C ρ B mine τ (Jk τ.on [] Al) w1 F1 Fr1))
  (hdone :∀(D b':Nat) (out:List Mt) (T':Tt) (tv:Value) (w2:World) (F2 Fr2:Bs2),out=Jk (fun o=>(cc o).isNone) [] Al->Zp (SeR C ρ tv T' :: DfR D :: U b' out :: mine) w2 F2 Fr2->Trn w F Fr w2 F2 Fr2->w.heap.size<=D->Rdy C.u.size T' B->
   match cc out with
   | none=>Q .normal { a with defers := { target:=.collected D,args:=#[] } :: a.defers } w2
   | some c=>c.wpIn Fence.wide n Tryz.prog Q { a with defers := { target:=.collected D,args:=#[] } :: a.defers } w2) :
  (Code.rangeFunc g ps assign body).wpIn Fence.wide n Tryz.prog Q a w:=by
 refine ZdQ hg eg ?_;intro fn;have hUs :∀R∈(SeR C ρ tl T :: U b0 [] :: mine),Zq R:=by
  intro R hR
  rcases List.mem_cons.1 hR with rfl | hR
  ·exact Qx _ _ _ _
  ·rcases List.mem_cons.1 hR with rfl | hR
   ·exact hU b0 []
   ·exact ha R hR
 have hOk0:=ZR hUs;have hFr :∀k,Fr k->F k/\k < w.heap.size:=hOk0.lt hR;generalize hW1:((w.alloc (.deferred (some []))).alloc (.loop (Zal fn a.tmps ps assign body w.heap.size .ready none)))=W1;have k1:Za N0_ w W1:=by rw [<- hW1]; exact ((Za.refl _ w).alloc _).alloc _
 have bD:W1.heap[w.heap.size]? = some (.deferred (some [])):=by rw [<- hW1]; exact Zbc w _ _
 have bL:W1.heap[w.heap.size + 1]? = some (.loop (Zal fn a.tmps ps assign body w.heap.size .ready none)):=by rw [<- hW1]; exact Zbi w _ _
 obtain ⟨F1,hF1⟩ :∃F1:Bs2,F1=fun k=>F k\/k=w.heap.size\/k=w.heap.size + 1:=⟨_,rfl⟩;have l1:Lat w F W1 F1:=⟨k1.mono (fun _ _ h=>h.elim),fun k hk=>by rw [hF1] at hk; rcases hk with h | h | h; exact Or.inl h; exact Or.inr (by omega); exact Or.inr (by omega)⟩;have hR1:Zp (SeR C ρ tl T :: U b0 [] :: mine) W1 F1 Fr:=hOk0.frame hR l1 (fun k hk=>by rw [hF1]; exact Or.inl (hFr k hk).1) (fun k hk=>k1.block k (hFr k hk).2 id);have hltL:w.heap.size + 1 < W1.heap.size:=(Array.getElem?_eq_some_iff.1 bL).1;have hFb1:Fb W1 F1:=fun k hk=>by
  rw [hF1] at hk
  rcases hk with h | h | h
  ·exact Nat.lt_of_lt_of_le (hFb k h) k1.size
  ·omega
  ·omega
 have hτ:ZcD C.u.size Al C.X C.u (Zn5 (w.heap.size + 1) (Zal fn a.tmps ps assign body w.heap.size) cc cap (mdU w.heap.size U)):=Zn1 hU hup h0 hps hround;obtain ⟨G1,G2,hApt⟩:=Zl.1 (Zy hR1);have hdG :∀k,Fr k↔G1 k\/G2 k:=hApt.all;have hbig :∀k,Fr k->k < w.heap.size:=fun k hk=>(hFr k hk).2;have htl:lpM (w.heap.size + 1) (Zal fn a.tmps ps assign body w.heap.size) cc (mdU w.heap.size U) b0 [] W1 F1 (fun k=>k=w.heap.size + 1\/k=w.heap.size\/G1 k):=by
  unfold lpM;rw [h0];refine ⟨fun k=>k=w.heap.size\/G1 k,fun k=>Iff.rfl,fun h=>?_,by rw [hF1]; exact Or.inr (Or.inr rfl),bL,?_⟩
  ·rcases h with h | h
   ·omega
   ·have:=hbig _ ((hdG _).2 (Or.inl h)); omega
  ·refine QQ.2 ⟨fun k=>k=w.heap.size,G1,fun k=>Iff.rfl,fun k e h=>?_,⟨fun k=>Iff.rfl,by rw [hF1]; exact Or.inr (Or.inl rfl),bD⟩,hApt.one⟩
   have:=hbig _ ((hdG _).2 (Or.inl h)); omega
 have hR2:Zp (SeR C ρ tl T :: (Zn5 (w.heap.size + 1) (Zal fn a.tmps ps assign body w.heap.size) cc cap (mdU w.heap.size U)).tl b0 [] :: mine) W1 F1 (fun k=>(k=w.heap.size + 1\/k=w.heap.size\/G1 k)\/G2 k):=by
  refine Zy ⟨fun k=>k=w.heap.size + 1\/k=w.heap.size\/G1 k,G2,fun k=>Iff.rfl,fun k h1 h2=>?_,htl,hApt.two⟩
  rcases h1 with h1 | h1 | h1
  ·have:=hbig _ ((hdG _).2 (Or.inr h2)); omega
  ·have:=hbig _ ((hdG _).2 (Or.inr h2)); omega
  ·exact hApt.dis k h1 h2
 have hrun:=hrun (Zn5 (w.heap.size + 1) (Zal fn a.tmps ps assign body w.heap.size) cc cap (mdU w.heap.size U)) W1 F1 _ hτ l1 hR2 hFb1 (Nat.le_trans hb k1.size) (Nat.le_refl _);refine Calls.mono hrun ?_;rintro e w2 ⟨rfl,T',tv',F2,Fr2,b',g1,g2,g3⟩;change Zp (SeR C ρ tv' T' :: lpM (w.heap.size + 1) (Zal fn a.tmps ps assign body w.heap.size) cc (mdU w.heap.size U) b' (Jk (fun o=>(cc o).isNone) [] Al) :: mine) w2 F2 Fr2 at g1;generalize hout:Jk (fun o=>(cc o).isNone) [] Al=out at g1;obtain ⟨H1,H2,hB⟩:=Zl.1 (Zy g1);have hrec :∃st pe,LpR (w.heap.size + 1) (Zal fn a.tmps ps assign body w.heap.size st pe) (mdU w.heap.size U b' out) w2 F2 H1/\st≠.busy/\pe=cc out :=
  ⟨_,_,hB.one,(by split <;> simp),rfl⟩
 obtain ⟨st,pe,⟨Fu,he,hn,hF,hl,hUw⟩,hst,hpe⟩:=hrec;refine ⟨_,rfl,st,pe,hl,hst,?_⟩;obtain ⟨q1,q2,q3⟩:=LpR.put (r':=Zal fn a.tmps ps assign body w.heap.size .exhausted pe) (ZdX hU b' out) hn hF hl hUw;generalize hw3:w2.putObj (w.heap.size + 1) (.loop (Zal fn a.tmps ps assign body w.heap.size .exhausted pe))=w3 at q1 q2 q3 ⊢;have hSes:Zq (Zp (SeR C ρ tv' T' :: mine)):=Zb7 ha _ _ _ _;obtain ⟨J1,J2,hC⟩:=QQ.1 q2;have hnotL:¬ H2 (w.heap.size + 1):=fun h=>hB.dis _ ((he _).2 (Or.inl rfl)) h;have hlt2 :∀k,Fr2 k->F2 k/\k < w2.heap.size:=fun k hk=>by
  rcases (hB.all k).1 hk with h | h
  ·rcases (he k).1 h with rfl | h
   ·exact ⟨hF,(Array.getElem?_eq_some_iff.1 hl).1⟩
   ·exact (ZdX hU b' out).lt hUw k h
  ·exact hSes.lt hB.two k h
 obtain ⟨F3,hF3⟩ :∃F3:Bs2,F3=fun k=>F2 k/\k≠w.heap.size + 1:=⟨_,rfl⟩;have l3:Lat w2 F2 w3 F3:=⟨q3.mono (fun k _ e=>e ▸ hF),fun k hk=>by rw [hF3] at hk; exact Or.inl hk.1⟩;have hH2:Zp (SeR C ρ tv' T' :: mine) w3 F3 H2:=hSes.frame hB.two l3 (fun k hk=>by rw [hF3]; exact ⟨(hSes.lt hB.two k hk).1,fun e=>hnotL (e ▸ hk)⟩) (fun k hk=>q3.block k (hSes.lt hB.two k hk).2 (fun e=>hnotL (e ▸ hk)));have hl33:Lat w3 F2 w3 F3:=⟨Za.refl _ _,fun k hk=>by rw [hF3] at hk; exact Or.inl hk.1⟩;have hJ1:DfR w.heap.size w3 F3 J1:=(QK _).frame hC.one hl33 (fun k hk=>by rw [hF3]; exact ⟨((QK _).lt hC.one k hk).1,fun e=>hn (e ▸ (hC.all k).2 (Or.inl hk))⟩) (fun _ _=>rfl);have hJ2:U b' out w3 F3 J2:=(hU b' out).frame hC.two hl33 (fun k hk=>by rw [hF3]; exact ⟨((hU b' out).lt hC.two k hk).1,fun e=>hn (e ▸ (hC.all k).2 (Or.inr hk))⟩) (fun _ _=>rfl);have hFuH :∀k,Fu k->H1 k:=fun k hk=>(he k).2 (Or.inr hk);have hfin:Zp (SeR C ρ tv' T' :: DfR w.heap.size :: U b' out :: mine) w3 F3 (fun k=>Fu k\/H2 k):=by
  obtain ⟨K1,K2,hD⟩:=Zl.1 hH2;refine ⟨K1,fun k=>J1 k\/J2 k\/K2 k,fun k=>?_,fun k h1 h2=>?_,hD.one,J1,fun k=>J2 k\/K2 k,fun k=>Iff.rfl,fun k h1 h2=>?_,hJ1,J2,K2,fun k=>Iff.rfl,fun k h1 h2=>?_,hJ2,hD.two⟩
  ·show Fu k\/H2 k↔K1 k\/(J1 k\/J2 k\/K2 k);rw [hC.all k,hD.all k];constructor
   ·rintro ((h | h) | h | h)
    ·exact Or.inr (Or.inl h)
    ·exact Or.inr (Or.inr (Or.inl h))
    ·exact Or.inl h
    ·exact Or.inr (Or.inr (Or.inr h))
   ·rintro (h | h | h | h)
    ·exact Or.inr (Or.inl h)
    ·exact Or.inl (Or.inl h)
    ·exact Or.inl (Or.inr h)
    ·exact Or.inr (Or.inr h)
  ·rcases h2 with h2 | h2 | h2
   ·exact hB.dis k (hFuH k ((hC.all k).2 (Or.inl h2))) ((hD.all k).2 (Or.inl h1))
   ·exact hB.dis k (hFuH k ((hC.all k).2 (Or.inr h2))) ((hD.all k).2 (Or.inl h1))
   ·exact hD.dis k h1 h2
  ·rcases h2 with h2 | h2
   ·exact hC.dis k h1 h2
   ·exact hB.dis k (hFuH k ((hC.all k).2 (Or.inl h1))) ((hD.all k).2 (Or.inr h2))
  ·exact hB.dis k (hFuH k ((hC.all k).2 (Or.inr h1))) ((hD.all k).2 (Or.inr h2))
 have ht:Trn w F Fr w3 F3 (fun k=>Fu k\/H2 k):=by
  have hrel :∀k,(Fu k\/H2 k)->Fr2 k/\k≠w.heap.size + 1:=fun k hk=>by
   rcases hk with hk | hk
   ·exact ⟨(hB.all k).2 (Or.inl (hFuH k hk)),fun e=>hn (e ▸ hk)⟩
   ·exact ⟨(hB.all k).2 (Or.inr hk),fun e=>hnotL (e ▸ hk)⟩
  refine ⟨?_,fun k hk=>?_,fun k hk=>?_,fun k hs hk hnk=>?_,fun k hk=>?_⟩
  ·have kk:Za (fun k=>Fr k\/w.heap.size<=k) w w3:=((k1.mono (fun _ _ h=>h.elim)).trans (E:=fun k=>Fr k\/w.heap.size<=k) (g2.keeps.mono (fun k _ hk=>by
    rcases hk with (h | h | h) | h
    ·exact Or.inr (by omega)
    ·exact Or.inr (by omega)
    ·exact Or.inl ((hdG k).2 (Or.inl h))
    ·exact Or.inl ((hdG k).2 (Or.inr h))))).trans (q3.mono (fun k _ e=>Or.inr (by omega)))
   exact kk.mono (fun k hk h=>h.elim id (fun h=>by omega))
  ·rcases g2.fresh k (hrel k hk).1 with ((h | h | h) | h) | h
   ·exact absurd h (hrel k hk).2
   ·exact Or.inr (by omega)
   ·exact Or.inl ((hdG k).2 (Or.inl h))
   ·exact Or.inl ((hdG k).2 (Or.inr h))
   ·exact Or.inr (Nat.le_trans k1.size h)
  ·rw [hF3] at hk
   rcases g2.out k hk.1 with ⟨h1,h2⟩ | h
   ·rw [hF1] at h1;refine Or.inl ⟨?_,fun h=>h2 (((hdG k).1 h).elim (fun h=>Or.inl (Or.inr (Or.inr h))) Or.inr)⟩
    rcases h1 with h | h | h
    ·exact h
    ·exact absurd (Or.inl (Or.inr (Or.inl h))) h2
    ·exact absurd h hk.2
   ·rcases (hB.all k).1 h with h | h
    ·rcases (he k).1 h with h | h
     ·exact absurd h hk.2
     ·exact Or.inr (Or.inl h)
    ·exact Or.inr (Or.inr h)
  ·rw [hF3];refine ⟨g2.inn k (Nat.lt_of_lt_of_le hs k1.size) (by rw [hF1]; exact Or.inl hk) (fun h=>?_),by omega⟩
   rcases h with (h | h | h) | h
   ·omega
   ·omega
   ·exact hnk ((hdG k).2 (Or.inl h))
   ·exact hnk ((hdG k).2 (Or.inr h))
  ·rw [hF3];exact ⟨(hlt2 k (hrel k hk).1).1,(hrel k hk).2⟩
 have:=hdone w.heap.size b' out T' tv' w3 F3 _ hout.symm hfin ht (Nat.le_refl _) g3
 rw [<- hpe] at this;exact this
theorem ZeG {g:Operand} {ps:Array Tmp} {assign body:Code} {Q:Exit->Act->World->Prop} {a:Act} {w:World} {n cap b0:Nat} {C:Cx} {ρ:Rx} {X:Xs} {B:Option Bo} {mine:List Rsc} {T:Tt} {tl:Value} {F Fr:Bs2} {A:Nat} {cc:List Mt->Option Code} {U:Nat->List Mt->Rsc}
  (hU :∀b out,Zq (U b out)) (hup :∀b b' out w F Fr,b<=b'->U b out w F Fr->U b' out w F Fr) (h0:cc []=none) (hps:ps.size=1) (hround:ZmZ C.u.size (JN (fun a=>(X a).map (QX C.G a)) C.u.size (C.u.size + 2) 0) C.X C.u a.tmps ps assign body cc cap U)
  (hg:a.eval g = .func (.func 43) #[] #[.pointer (some ⟨A,0,none⟩)])
  (hS:ZdC C w F ρ.bg X B mine) (hA:CeI w F A 0 (.pointer (some ⟨C.X,0,none⟩))) (hFb:Fb w F) (hR:Zp (SeR C ρ tl T :: U b0 [] :: mine) w F Fr) (hrd:Rdy C.u.size T B) (hX:OkX C.u.size 0 C.G X) (hu:C.u.size<=200) (hG:C.G<=9) (hb:b0<=w.heap.size) (hcap:C.u.size + 1<=cap)
  (hdone :∀(D b':Nat) (out:List Mt) (T':Tt) (tv:Value) (w2:World) (F2 Fr2:Bs2),out=Jk (fun o=>(cc o).isNone) [] (JN (fun a=>(X a).map (QX C.G a)) C.u.size (C.u.size + 2) 0)->Zp (SeR C ρ tv T' :: DfR D :: U b' out :: mine) w2 F2 Fr2->Trn w F Fr w2 F2 Fr2->w.heap.size<=D->Rdy C.u.size T' B->
   match cc out with
   | none=>Q .normal { a with defers := { target:=.collected D,args:=#[] } :: a.defers } w2
   | some c=>c.wpIn Fence.wide n Tryz.prog Q { a with defers := { target:=.collected D,args:=#[] } :: a.defers } w2) :
  (Code.rangeFunc g ps assign body).wpIn Fence.wide n Tryz.prog Q a w :=
 ZdP hU hup h0 hps hround hg (fun _ _=>by kernel_rfl) hS.ok hFb hR hb (fun τ w1 F1 Fr1 hτ l1 hR1 hFb1 hb1 hc1=>ZgY hτ (hS.later l1) (hA.later l1) hR1 hFb1 hrd hX hu hG hb1 (Nat.le_trans hcap hc1)) hdone
end Go.Proofs.YtfkflljplohhcaaGreatDoor
