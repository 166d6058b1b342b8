import Derived.Test.YtfkflljplohhcaaGreatDoorYr
set_option linter.unusedVariables false
namespace Go.Proofs.YtfkflljplohhcaaGreatDoor
open Go.RowKit
def oG (D:Nat) (U:Nat->List Mt->aO) (b:Nat) (out:List Mt):aO:=Zr [l9 D,U b out]
variable {D cap b0:Nat}{U:Nat->List Mt->aO}{w:World}{tl:Value}
theorem DK(hU:∀b out,Zs (U b out))(b:Nat)(out:List Mt):Zs (oG D U b out) :=
 ZT (fun R hR=>by
  rcases List.mem_cons.1 hR with rfl | hR
  ·exact QO D
  ·rcases List.mem_cons.1 hR with rfl | hR
   ·exact hU b out
   ·simp at hR)
theorem X6(hup:∀b b' out w F Fr,b<=b'->U b out w F Fr->U b' out w F Fr)(b b':Nat)(out:List Mt)(w:World)(F Fr:az)(hb:b<=b')(h:oG D U b out w F Fr):oG D U b' out w F Fr:=by
 obtain⟨F1,F2,hA⟩:=QU.1 h;exact QU.2 ⟨F1,F2,hA.all,hA.fe,hA.one,hup _ _ _ _ _ _ hb hA.two⟩
theorem Zr8(hU:∀b out,Zs (U b out))(hup:∀b b' out w F Fr,b<=b'->U b out w F Fr->U b' out w F Fr)(out:List Mt):Zs (fun w F Fr=>oG D U w.heap.size out w F Fr):=by
 refine⟨fun h=>(DK hU _ out).lt h,?_⟩;intro w w' F F' Fr h l hF' hk;exact X6 hup _ _ _ _ _ _ l.size ((DK hU _ out).frame h l hF' hk)
def Sm (N:Nat) (Al:List Mt) (Xa:Nat) (xt:ByteArray) (tmps:Array Value) (ps:Array Tmp) (assign body:Code) (cc:List Mt->Option Code) (cap:Nat) (U:Nat->List Mt->aO):Prop :=
 ∀ (l:Nat) (w1:World) (F1 Fu:az) (b:Nat) (out:List Mt) (m:Mt) (ag:Option Addr) (ng cg:Nat),Fb w1 F1->U b out w1 F1 Fu->b<=w1.heap.size->w1.ownsRow b 118 2 (.slice ag ng cg) m.gs.length (ZD m.gs)->(∀k,(Value.slice ag ng cg).ownBlock=some k->¬F1 k)->m.ok=true->m.gs.length<=9->0<=m.fr->m.fr<=m.up->m.up<=(N:Int)->out.length<cap->cc out=none->out++[m] <+: Al->F1 l->l<w1.heap.size->¬Fu l->
   ∃ Ax:Act->World->Prop,assign.wpIn (Fence.wide.inRound l) 0 Tryz.prog (Exit.then (fun a1 w2=>Za ai w1 w2/\Ax a1 w2) (fun _ _ _=>False)) { tmps:=(ps.zip #[.agg #[.bool m.ok,.int .i64 m.fr,.int .i64 m.up,.slice ag ng cg]]).foldl (fun t (p,v)=>t.setIfInBounds p v) tmps,defers := [] } w1/\
     ∀ (a1:Act) (w2 w3:World),Za ai w1 w2->Ax a1 w2->Za (·=l) w2 w3->pM Xa xt w3->U b out w3 F1 Fu->
       body.wpIn (Fence.wide.inRound l) 0 Tryz.prog (fun e a3 w4=>xS (cc (out++[m])) e/\∃F4 gZ,U w4.heap.size (out++[m]) w4 F4 gZ/\aJ w3 F1 Fu w4 F4 gZ) a1 w3
def Cz (l:Nat) (r:LoopState->Option Code->Loop) (cc:List Mt->Option Code) (U:Nat->List Mt->aO) (b:Nat) (out:List Mt):aO:=ko l (r (if (cc out).isNone then .ready else .done) (cc out)) (U b out)
def Li (l:Nat) (r:LoopState->Option Code->Loop) (cc:List Mt->Option Code) (cap:Nat) (U:Nat->List Mt->aO):zH:=⟨l,fun out=>(cc out).isNone,cap,Cz l r cc U⟩
variable {Al:List Mt}{assign body:Code}{cc:List Mt->Option Code}
theorem Zpf{N l fn Xa:Nat}{xt:ByteArray}{tmps:Array Value}{ps:Array Tmp}(hU:∀b out,Zs (U b out))(hup:∀b b' out w F Fr,b<=b'->U b out w F Fr->U b' out w F Fr)(h0:cc []=none)(hps:ps.size=1)(h:Sm N Al Xa xt tmps ps assign body cc cap U):
  rW N Al Xa xt (Li l (eF fn tmps ps assign body D) cc cap (oG D U)):=by
 refine⟨fun b out=>X3 (DK hU b out),by show (cc []).isNone=true;rw[h0];rfl,?_,?_⟩
 ·rintro b b' out w F Fr hb ⟨Fu,he,hn,hF,hl,oZ⟩;exact⟨Fu,he,hn,hF,hl,X6 hup _ _ _ _ _ _ hb oZ⟩
 ·intro w F Fr b out m a n c aW ht hb hrow hnb h1 h2 h3 h4 h5 hn hon hpx hTx;have hc:cc out=none:=Option.isNone_iff_eq_none.1 hon;have ht':ko l (eF fn tmps ps assign body D .ready none) (oG D U b out) w F Fr:=by
   have h6:Cz l (eF fn tmps ps assign body D) cc (oG D U) b out w F Fr:=ht;unfold Cz at h6;rw[hc] at h6;exact h6
  obtain⟨Vm,he0,hn0,eX,hl0,GD⟩:=id ht';have hlt:l<w.heap.size:=(Array.getElem?_eq_some_iff.1 hl0).1;obtain⟨Fa,Fu,hA⟩:=QU.1 GD;have hnu:¬Fu l:=fun h=>hn0 ((hA.all l).2 (Or.inr h));obtain⟨Ax,r1,r2⟩:=h l w F Fu b out m a n c aW hA.two hb hrow hnb h1 h2 h3 h4 h5 hn hc hpx eX hlt hnu;refine Zdk (U:=oG D U b out) (U':=fun w F Fr=>oG D U w.heap.size (out++[m]) w F Fr) (c:=cc (out++[m])) (Ax:=Ax) (DK hU b out) (Zr8 hU hup _) (by simp[hps]) he0 hn0 eX hl0 GD r1 ?_;intro a1 w1 w2 k1 hx k2 hUv;have hlat:aH w F w2 F:=(aH.ay k1).trans ⟨k2.mono (fun k _ e=>e ▸ eX),fun k h=>Or.inl h⟩;have hsame:∀k,k<w.heap.size->k≠l->w2.heap[k]?=w.heap[k]?:=fun k hk hne=>by
   rw[k2.block k (Nat.lt_of_lt_of_le hk k1.size) hne,k1.block k hk id]
  have GA:U b out w2 F Fu:=(hU b out).frame hA.two hlat (fun k hk=>((hU b out).lt hA.two k hk).1) (fun k hk=>hsame k ((hU b out).lt hA.two k hk).2 (fun e=>hnu (e ▸ hk)));have hD2:l9 D w2 F Fa:=(QO D).frame hA.one hlat (fun k hk=>((QO D).lt hA.one k hk).1) (fun k hk=>hsame k ((QO D).lt hA.one k hk).2 (fun e=>hn0 (e ▸ (hA.all k).2 (Or.inl hk))));have hA2:iW (U b out) (l9 D) w2 F Vm Fu Fa:=⟨fun k=>(hA.all k).trans Or.comm,fun k h1 h2=>hA.fe k h2 h1,GA,hD2⟩;have Px:pM Xa xt w2:=by
   refine(hTx.keeps k1 id).keeps k2 (fun e=>?_);obtain⟨cs,hX1,-⟩:=hTx;have e':Xa=l:=e;rw[e',hl0] at hX1
   cases hX1
  refine wpIn_mono (r2 a1 w1 w2 k1 hx k2 Px GA) ?_;rintro e a3 w4 ⟨hex,F4,gZ,g1,g2⟩;obtain⟨p1,p2⟩:=hA2.upd (hU b out) (QO D) g2 g1;exact⟨hex,F4,_,QU.2 ⟨_,_,p1.swap⟩,p2⟩
variable {Q:Exit->Act->World->Prop}{a:Act}{C:Cx}{ρ:Rx}{B:Option Bo}{T:Tt}{F Fr:az}
theorem Zed{g:Operand}{ps:Array Tmp}{n:Nat}{mine:List aO}{gf:Nat}{lb:Array Value}
  (hU:∀b out,Zs (U b out)) (hup:∀b b' out w F Fr,b<=b'->U b out w F Fr->U b' out w F Fr) (h0:cc []=none) (hps:ps.size=1) (je:Sm C.u.size Al C.X C.u a.tmps ps assign body cc cap U)
  (hg:a.eval g=.func (.func gf) #[] lb) (eg:jE gf)
  (ha:∀R∈mine,Zs R) (aW:Fb w F) (hR:Zr (aR C ρ tl T::U b0 []::mine) w F Fr) (hb:b0<=w.heap.size)
  (hrun:∀(τ:zH) (w1:World) (F1 dO:az),rW C.u.size Al C.X C.u τ->aH w F w1 F1->Zr (aR C ρ tl T::τ.tl b0 []::mine) w1 F1 dO->Fb w1 F1->b0<=w1.heap.size->cap<=τ.cap->au gf (#[.func (.yield τ.l) #[] #[]]++lb) w1 (zG C ρ B mine τ (Q2 τ.on [] Al) w1 F1 dO))
  (hdone:∀(D b':Nat) (out:List Mt) (T':Tt) (tv:Value) (w2:World) (F2 bf:az),out=Q2 (fun o=>(cc o).isNone) [] Al->Zr (aR C ρ tv T'::l9 D::U b' out::mine) w2 F2 bf->aJ w F Fr w2 F2 bf->w.heap.size<=D->iB C.u.size T' B->
   match cc out with
   | none=>Q .normal { a with defers := { target:=.collected D,args:=#[] }::a.defers } w2
   | some c=>c.wpIn Fence.wide n Tryz.prog Q { a with defers := { target:=.collected D,args:=#[] }::a.defers } w2) :
  (Code.rangeFunc g ps assign body).wpIn Fence.wide n Tryz.prog Q a w:=by
 refine Zee hg eg ?_;intro fn;have Pw:∀R∈(aR C ρ tl T::U b0 []::mine),Zs R:=by
  intro R hR
  rcases List.mem_cons.1 hR with rfl | hR
  ·exact QA _ _ _ _
  ·rcases List.mem_cons.1 hR with rfl | hR
   ·exact hU b0 []
   ·exact ha R hR
 have uB:=ZT Pw;have iY:∀k,Fr k->F k/\k<w.heap.size:=uB.lt hR;generalize hW1:((w.alloc (.deferred (some []))).alloc (.loop (eF fn a.tmps ps assign body w.heap.size .ready none)))=W1;have k1:Za ai w W1:=by rw[<- hW1];exact((Za.refl _ w).alloc _).alloc _
 have bD:W1.heap[w.heap.size]?=some (.deferred (some [])):=by rw[<- hW1];exact fU w _ _
 have bL:W1.heap[w.heap.size+1]?=some (.loop (eF fn a.tmps ps assign body w.heap.size .ready none)):=by rw[<- hW1];exact gH w _ _
 obtain⟨F1,hF1⟩:∃F1:az,F1=fun k=>F k\/k=w.heap.size\/k=w.heap.size+1:=⟨_,rfl⟩;have l1:aH w F W1 F1:=⟨k1.mono (fun _ _ h=>h.elim),fun k hk=>by rw[hF1] at hk;rcases hk with h | h | h;exact Or.inl h;exact Or.inr (by omega);exact Or.inr (by omega)⟩;have aK:Zr (aR C ρ tl T::U b0 []::mine) W1 F1 Fr:=uB.frame hR l1 (fun k hk=>by rw[hF1];exact Or.inl (iY k hk).1) (fun k hk=>k1.block k (iY k hk).2 id);have OL:w.heap.size+1<W1.heap.size:=(Array.getElem?_eq_some_iff.1 bL).1;have eQ:Fb W1 F1:=fun k hk=>by
  rw[hF1] at hk
  rcases hk with h | h | h
  ·exact Nat.lt_of_lt_of_le (aW k h) k1.size
  ·omega
  ·omega
 have hτ:rW C.u.size Al C.X C.u (Li (w.heap.size+1) (eF fn a.tmps ps assign body w.heap.size) cc cap (oG w.heap.size U)):=Zpf hU hup h0 hps je;obtain⟨G1,G2,dZ⟩:=Zo.1 (Zy aK);have jl:∀k,Fr k↔G1 k\/G2 k:=dZ.all;have hbig:∀k,Fr k->k<w.heap.size:=fun k hk=>(iY k hk).2;have htl:Cz (w.heap.size+1) (eF fn a.tmps ps assign body w.heap.size) cc (oG w.heap.size U) b0 [] W1 F1 (fun k=>k=w.heap.size+1\/k=w.heap.size\/G1 k):=by
  unfold Cz;rw[h0];refine⟨fun k=>k=w.heap.size\/G1 k,fun k=>Iff.rfl,fun h=>?_,by rw[hF1];exact Or.inr (Or.inr rfl),bL,?_⟩
  ·rcases h with h | h
   ·omega
   ·have:=hbig _ ((jl _).2 (Or.inl h));omega
  ·refine QU.2 ⟨fun k=>k=w.heap.size,G1,fun k=>Iff.rfl,fun k e h=>?_,⟨fun k=>Iff.rfl,by rw[hF1];exact Or.inr (Or.inl rfl),bD⟩,dZ.one⟩
   have:=hbig _ ((jl _).2 (Or.inl h));omega
 have hR2:Zr (aR C ρ tl T::(Li (w.heap.size+1) (eF fn a.tmps ps assign body w.heap.size) cc cap (oG w.heap.size U)).tl b0 []::mine) W1 F1 (fun k=>(k=w.heap.size+1\/k=w.heap.size\/G1 k)\/G2 k):=by
  refine Zy ⟨fun k=>k=w.heap.size+1\/k=w.heap.size\/G1 k,G2,fun k=>Iff.rfl,fun k h1 h2=>?_,htl,dZ.two⟩
  rcases h1 with h1 | h1 | h1
  ·have:=hbig _ ((jl _).2 (Or.inr h2));omega
  ·have:=hbig _ ((jl _).2 (Or.inr h2));omega
  ·exact dZ.fe k h1 h2
 have hrun:=hrun (Li (w.heap.size+1) (eF fn a.tmps ps assign body w.heap.size) cc cap (oG w.heap.size U)) W1 F1 _ hτ l1 hR2 eQ (Nat.le_trans hb k1.size) (Nat.le_refl _);refine Calls.mono hrun ?_;rintro e w2 ⟨rfl,T',tv',F2,bf,b',g1,g2,g3⟩;change Zr (aR C ρ tv' T'::Cz (w.heap.size+1) (eF fn a.tmps ps assign body w.heap.size) cc (oG w.heap.size U) b' (Q2 (fun o=>(cc o).isNone) [] Al)::mine) w2 F2 bf at g1;generalize hout:Q2 (fun o=>(cc o).isNone) [] Al=out at g1;obtain⟨H1,H2,hB⟩:=Zo.1 (Zy g1);have hrec:∃st pe,ko (w.heap.size+1) (eF fn a.tmps ps assign body w.heap.size st pe) (oG w.heap.size U b' out) w2 F2 H1/\st≠.busy/\pe=cc out :=
  ⟨_,_,hB.one,(by split <;> simp),rfl⟩
 obtain⟨st,pe,⟨Fu,he,hn,hF,hl,oZ⟩,hst,hpe⟩:=hrec;refine⟨_,rfl,st,pe,hl,hst,?_⟩;obtain⟨q1,q2,q3⟩:=ko.put (r':=eF fn a.tmps ps assign body w.heap.size .exhausted pe) (DK hU b' out) hn hF hl oZ;generalize hw3:w2.putObj (w.heap.size+1) (.loop (eF fn a.tmps ps assign body w.heap.size .exhausted pe))=w3 at q1 q2 q3 ⊢;have lF:Zs (Zr (aR C ρ tv' T'::mine)):=pK ha _ _ _ _;obtain⟨J1,J2,hC⟩:=QU.1 q2;have jg:¬H2 (w.heap.size+1):=fun h=>hB.fe _ ((he _).2 (Or.inl rfl)) h;have hlt2:∀k,bf k->F2 k/\k<w2.heap.size:=fun k hk=>by
  rcases(hB.all k).1 hk with h | h
  ·rcases(he k).1 h with rfl | h
   ·exact⟨hF,(Array.getElem?_eq_some_iff.1 hl).1⟩
   ·exact(DK hU b' out).lt oZ k h
  ·exact lF.lt hB.two k h
 obtain⟨F3,jr⟩:∃F3:az,F3=fun k=>F2 k/\k≠w.heap.size+1:=⟨_,rfl⟩;have l3:aH w2 F2 w3 F3:=⟨q3.mono (fun k _ e=>e ▸ hF),fun k hk=>by rw[jr] at hk;exact Or.inl hk.1⟩;have hH2:Zr (aR C ρ tv' T'::mine) w3 F3 H2:=lF.frame hB.two l3 (fun k hk=>by rw[jr];exact⟨(lF.lt hB.two k hk).1,fun e=>jg (e ▸ hk)⟩) (fun k hk=>q3.block k (lF.lt hB.two k hk).2 (fun e=>jg (e ▸ hk)));have ui:aH w3 F2 w3 F3:=⟨Za.refl _ _,fun k hk=>by rw[jr] at hk;exact Or.inl hk.1⟩;have Re:l9 w.heap.size w3 F3 J1:=(QO _).frame hC.one ui (fun k hk=>by rw[jr];exact⟨((QO _).lt hC.one k hk).1,fun e=>hn (e ▸ (hC.all k).2 (Or.inl hk))⟩) (fun _ _=>rfl);have hJ2:U b' out w3 F3 J2:=(hU b' out).frame hC.two ui (fun k hk=>by rw[jr];exact⟨((hU b' out).lt hC.two k hk).1,fun e=>hn (e ▸ (hC.all k).2 (Or.inr hk))⟩) (fun _ _=>rfl);have jo:∀k,Fu k->H1 k:=fun k hk=>(he k).2 (Or.inr hk);have hfin:Zr (aR C ρ tv' T'::l9 w.heap.size::U b' out::mine) w3 F3 (fun k=>Fu k\/H2 k):=by
  obtain⟨K1,K2,hD⟩:=Zo.1 hH2;refine⟨K1,fun k=>J1 k\/J2 k\/K2 k,fun k=>?_,fun k h1 h2=>?_,hD.one,J1,fun k=>J2 k\/K2 k,fun k=>Iff.rfl,fun k h1 h2=>?_,Re,J2,K2,fun k=>Iff.rfl,fun k h1 h2=>?_,hJ2,hD.two⟩
  ·show Fu k\/H2 k↔K1 k\/(J1 k\/J2 k\/K2 k);rw[hC.all k,hD.all k];constructor
   ·rintro((h | h) | h | h)
    ·exact Or.inr (Or.inl h)
    ·exact Or.inr (Or.inr (Or.inl h))
    ·exact Or.inl h
    ·exact Or.inr (Or.inr (Or.inr h))
   ·rintro(h | h | h | h)
    ·exact Or.inr (Or.inl h)
    ·exact Or.inl (Or.inl h)
    ·exact Or.inl (Or.inr h)
    ·exact Or.inr (Or.inr h)
  ·rcases h2 with h2 | h2 | h2
   ·exact hB.fe k (jo k ((hC.all k).2 (Or.inl h2))) ((hD.all k).2 (Or.inl h1))
   ·exact hB.fe k (jo k ((hC.all k).2 (Or.inr h2))) ((hD.all k).2 (Or.inl h1))
   ·exact hD.fe k h1 h2
  ·rcases h2 with h2 | h2
   ·exact hC.fe k h1 h2
   ·exact hB.fe k (jo k ((hC.all k).2 (Or.inl h1))) ((hD.all k).2 (Or.inr h2))
  ·exact hB.fe k (jo k ((hC.all k).2 (Or.inr h1))) ((hD.all k).2 (Or.inr h2))
 have ht:aJ w F Fr w3 F3 (fun k=>Fu k\/H2 k):=by
  have hrel:∀k,(Fu k\/H2 k)->bf k/\k≠w.heap.size+1:=fun k hk=>by
   rcases hk with hk | hk
   ·exact⟨(hB.all k).2 (Or.inl (jo k hk)),fun e=>hn (e ▸ hk)⟩
   ·exact⟨(hB.all k).2 (Or.inr hk),fun e=>jg (e ▸ hk)⟩
  refine⟨?_,fun k hk=>?_,fun k hk=>?_,fun k hs hk hnk=>?_,fun k hk=>?_⟩
  ·have kk:Za (fun k=>Fr k\/w.heap.size<=k) w w3:=((k1.mono (fun _ _ h=>h.elim)).trans (E:=fun k=>Fr k\/w.heap.size<=k) (g2.keeps.mono (fun k _ hk=>by
    rcases hk with(h | h | h) | h
    ·exact Or.inr (by omega)
    ·exact Or.inr (by omega)
    ·exact Or.inl ((jl k).2 (Or.inl h))
    ·exact Or.inl ((jl k).2 (Or.inr h))))).trans (q3.mono (fun k _ e=>Or.inr (by omega)))
   exact kk.mono (fun k hk h=>h.elim id (fun h=>by omega))
  ·rcases g2.fresh k (hrel k hk).1 with((h | h | h) | h) | h
   ·exact absurd h (hrel k hk).2
   ·exact Or.inr (by omega)
   ·exact Or.inl ((jl k).2 (Or.inl h))
   ·exact Or.inl ((jl k).2 (Or.inr h))
   ·exact Or.inr (Nat.le_trans k1.size h)
  ·rw[jr] at hk
   rcases g2.out k hk.1 with⟨h1,h2⟩ | h
   ·rw[hF1] at h1;refine Or.inl ⟨?_,fun h=>h2 (((jl k).1 h).elim (fun h=>Or.inl (Or.inr (Or.inr h))) Or.inr)⟩
    rcases h1 with h | h | h
    ·exact h
    ·exact absurd (Or.inl (Or.inr (Or.inl h))) h2
    ·exact absurd h hk.2
   ·rcases(hB.all k).1 h with h | h
    ·rcases(he k).1 h with h | h
     ·exact absurd h hk.2
     ·exact Or.inr (Or.inl h)
    ·exact Or.inr (Or.inr h)
  ·rw[jr];refine⟨g2.dP k (Nat.lt_of_lt_of_le hs k1.size) (by rw[hF1];exact Or.inl hk) (fun h=>?_),by omega⟩
   rcases h with(h | h | h) | h
   ·omega
   ·omega
   ·exact hnk ((jl k).2 (Or.inl h))
   ·exact hnk ((jl k).2 (Or.inr h))
  ·rw[jr];exact⟨(hlt2 k (hrel k hk).1).1,(hrel k hk).2⟩
 have:=hdone w.heap.size b' out T' tv' w3 F3 _ hout.symm hfin ht (Nat.le_refl _) g3
 rw[<- hpe] at this;exact this
theorem ZbS{g:Operand}{ps:Array Tmp}{n:Nat}{X:Xs}{mine:List aO}{A:Nat}
  (hU:∀b out,Zs (U b out)) (hup:∀b b' out w F Fr,b<=b'->U b out w F Fr->U b' out w F Fr) (h0:cc []=none) (hps:ps.size=1) (je:Sm C.u.size (Q5 (fun a=>(X a).map (QN C.G a)) C.u.size (C.u.size+2) 0) C.X C.u a.tmps ps assign body cc cap U)
  (hg:a.eval g=.func (.func 43) #[] #[ae A])
  (hS:ja C w F ρ.bg X B mine) (hA:eY w F A 0 ((ae C.X))) (aW:Fb w F) (hR:Zr (aR C ρ tl T::U b0 []::mine) w F Fr) (hrd:iB C.u.size T B) (hX:dh C.u.size 0 C.G X) (hu:C.u.size<=200) (hG:C.G<=9) (hb:b0<=w.heap.size) (hcap:C.u.size+1<=cap)
  (hdone:∀(D b':Nat) (out:List Mt) (T':Tt) (tv:Value) (w2:World) (F2 bf:az),out=Q2 (fun o=>(cc o).isNone) [] (Q5 (fun a=>(X a).map (QN C.G a)) C.u.size (C.u.size+2) 0)->Zr (aR C ρ tv T'::l9 D::U b' out::mine) w2 F2 bf->aJ w F Fr w2 F2 bf->w.heap.size<=D->iB C.u.size T' B->
   match cc out with
   | none=>Q .normal { a with defers := { target:=.collected D,args:=#[] }::a.defers } w2
   | some c=>c.wpIn Fence.wide n Tryz.prog Q { a with defers := { target:=.collected D,args:=#[] }::a.defers } w2) :
  (Code.rangeFunc g ps assign body).wpIn Fence.wide n Tryz.prog Q a w :=
 Zed hU hup h0 hps je hg (fun _ _=>by kernel_rfl) hS.ok aW hR hb (fun τ w1 F1 dO hτ l1 aK eQ hb1 hc1=>ZhA hτ (hS.later l1) (hA.later l1) aK eQ hrd hX hu hG hb1 (Nat.le_trans hcap hc1)) hdone
end Go.Proofs.YtfkflljplohhcaaGreatDoor
