import Derived.Test.YtfkflljplohhcaaGreatDoorYf
set_option linter.unusedVariables false
set_option maxHeartbeats 400000
namespace Go.Proofs.YtfkflljplohhcaaGreatDoor
open Go.RowKit
variable {C:Cx}{ρ:Rx}{ats:List aO}{τ:jG}{T:Tt}{out:List (Nat×Rs)}{w w':World}{F Fr:az}{R:aO}{j d p N i:Nat}{ty:TypeId}{y qm nx:Value}
theorem ZoM(hτ:j5 C τ)(ha:∀R∈ats,Zs R)(hR:R∈ats)(h:Run C ρ ats τ T out w F Fr):
  ∃F1,R w F F1/\(∀k,F1 k->F k)/\∀(w':World) (F' p8:az),aJ w F F1 w' F' p8->R w' F' p8->∃aM,Run C ρ ats τ T out w' F' aM/\aJ w F Fr w' F' aM:=by
 have hall:∀S∈(aR C ρ τ.tv T::τ.tl out::ats),Zs S:=by
  intro S hS
  rcases List.mem_cons.1 hS with rfl | hS
  ·exact QA _ _ _ _
  ·rcases List.mem_cons.1 hS with rfl | hS
   ·exact hτ.ok out
   ·exact ha S hS
 obtain⟨l',hl',hsp⟩:=Zhb (R:=R) (l:=aR C ρ τ.tv T::τ.tl out::ats) (List.mem_cons.2 (Or.inr (List.mem_cons.2 (Or.inr hR))));obtain⟨F1,F2,h1,h2,h3,h4⟩:=(hsp w F Fr).1 h;have hA:iW R (Zr l') w F Fr F1 F2:=⟨h1,h2,h3,h4⟩;have hq:Zs (Zr l'):=ZT (fun S hS=>hall S (hl' S hS));refine⟨F1,h3,fun k hk=>((ha R hR).lt h3 k hk).1,fun w' F' p8 t hR'=>?_⟩;obtain⟨g1,g2⟩:=hA.upd (ha R hR) hq t hR';exact⟨_,(hsp w' F' _).2 ⟨_,_,g1.all,g1.fe,g1.one,g1.two⟩,g2⟩
def rC (C:Cx) (w:World) (F:az) (fv:Value) (X:Xs) (R:aO):Prop :=
 ∃ (fn:Nat) (cap:Array Value),fv=.func (.func fn) #[] cap/\jE fn/\
   ∀ (w':World) (F':az),aH w F w' F'->Fb w' F'->∀(Fr:az) (p:Nat),R w' F' Fr->p<=C.u.size->
     au fn (#[.int .i64 (p:Int)]++cap) w' (fun e w2 =>∃(v:Value) (M:List Em) (F2 bf:az),e=.returned v/\R w2 F2 bf/\aJ w' F' Fr w2 F2 bf/\yC w2 F2 v M/\M.map (fun x=>(x.1,x.2.1))=(X p).map (fun x=>(x.1,ap x.2 (eG C.G))))
variable {F':az}
theorem rC.later{fv:Value}{X:Xs}(h:rC C w F fv X R)(l:aH w F w' F'):rC C w' F' fv X R:=by
 obtain⟨fn,cap,h1,h2,h3⟩:=h;exact⟨fn,cap,h1,h2,fun w2 F2 l2=>h3 w2 F2 (l.trans l2)⟩
structure Rb where
 A:Nat
 J:Nat
 Nb:Nat
 At:Nat
 Gb:Nat
 Ab:Nat
 Cb:Nat
def Rb.again (k:Rb):Array Value:=#[.pointer (some ⟨k.Nb,0,none⟩),.pointer (some ⟨k.A,0,none⟩),.pointer (some ⟨k.J,0,none⟩),.pointer (some ⟨k.At,0,none⟩),.pointer (some ⟨k.Gb,0,none⟩)]
def Rb.lM (k:Rb):Array Value:=#[.pointer (some ⟨k.Nb,0,none⟩),.pointer (some ⟨k.Ab,0,none⟩),.pointer (some ⟨k.Cb,0,none⟩)]
structure vW (C:Cx) (w:World) (F:az) (k:Rb) (j:Nat) (r:Rp) (ty:TypeId) (y qm nx:Value):Prop where
 a:eY w F k.A 0 ((ae C.X))
 j:eY w F k.J 0 (.int .i64 (j:Int))
 n:rM w F k.Nb r (.iface ty y)
 at_:eY w F k.At 0 qm
 g:eY w F k.Gb 0 (.func (.func 114) #[] k.lM)
 ag:eY w F k.Ab 0 (.func (.func 109) #[] k.again)
 c:eY w F k.Cb 0 nx
variable {r:Rp}
theorem vW.later{k:Rb}(h:vW C w F k j r ty y qm nx)(l:aH w F w' F'):vW C w' F' k j r ty y qm nx :=
 ⟨h.a.later l,h.j.later l,h.n.later l,h.at_.later l,h.g.later l,h.ag.later l,h.c.later l⟩
def rX (C:Cx) (ρ:Rx) (ats:List aO) (τ:jG) (X:Xs) (W:Wt) (j:Nat) (r:Rp) (b:Bo) (d p:Nat) (T:Tt) (V:Vs) (out:List (Nat×Rs)) (L:Wn) (gs:Rs) (w:World) (F Fr:az) (e:Ending) (w':World):Prop :=
 e=.returned (.bool (JI τ.stop V L))/\∃T' F' aM,Run C ρ ats τ T' (out++ek τ.stop V L gs) w' F' aM/\aJ w F Fr w' F' aM/\pJ C.u.size j (kY C.u.size X r W) r b d p T T' (QW τ.stop V L)
def vX (C:Cx) (w:World) (F:az) (fn:Nat) (cap:Array Value) (X:Xs) (W:Wt) (j:Nat) (r:Rp) (b:Bo) (mine:List aO) (d p:Nat) (L:Wn):Prop :=
 ∀ (w':World) (F':az),aH w F w' F'->Fb w' F'->∀(ρ:Rx) (ats:List aO) (τ:jG) (T:Tt) (V:Vs) (out:List (Nat×Rs)) (Fr:az) (gv:Value) (gs:Rs),
   (∀R∈ats,Zs R)->(∀R∈mine,R∈ats)->j5 C τ->Run C ρ ats τ T out w' F' Fr->fF w' F' gv gs->gs.length=C.G->uQ C.u.size j (kY C.u.size X r W) r b d p T V->out.length+ic τ.stop V L<=τ.cap->
   au fn (#[.int .i64 (d:Int),.int .i64 (p:Int),gv]++cap) w' (rX C ρ ats τ X W j r b d p T V out L gs w' F' Fr)
variable {C:Cx}{ρ:Rx}{ats:List aO}{τ:jG}{X:Xs}{W:Wt}{j:Nat}{r:Rp}{b:Bo}{d p:Nat}{T:Tt}{V:Vs}{out:List (Nat×Rs)}{L L1 L2:Wn}{gs:Rs}{w w1 w2:World}{F Fr F1 dO:az}{e:Ending}
theorem rX.stop(h:rX C ρ ats τ X W j r b d p T V out L1 gs w F Fr e w1)(hc:JI τ.stop V L1=false)(L2:Wn):rX C ρ ats τ X W j r b d p T V out (L1++L2) gs w F Fr (.returned (.bool false)) w1:=by
 obtain⟨rfl,T1,F1,dO,h1,h2,h3⟩:=h;refine⟨by rw[ML hc],T1,F1,dO,?_,h2,?_⟩
 ·rw[TW hc];exact h1
 ·rw[QE (ML hc _)];rw[QE hc] at h3;exact h3
variable {T1:Tt}
theorem rX.then(hc:JI τ.stop V L1=true)(t:aJ w F Fr w1 F1 dO)(ho:pJ C.u.size j (kY C.u.size X r W) r b d p T T1 (bI V L1))(h2:rX C ρ ats τ X W j r b d p T1 (bI V L1) (out++ek τ.stop V L1 gs) L2 gs w1 F1 dO e w2):rX C ρ ats τ X W j r b d p T V out (L1++L2) gs w F Fr e w2:=by
 obtain⟨rfl,T2,F2,bf,g1,g2,g3⟩:=h2;refine⟨by rw[Eg hc],T2,F2,bf,?_,t.trans g2,?_⟩
 ·rw[JX hc,<- List.append_assoc];exact g1
 ·rw[Uq hc];exact ho.trans g3
theorem Q0.rp(hin:uQ C.u.size j (kY C.u.size X r W) r b d p T V)(hj:¬b.has j)(h:Q0 C ρ ats τ T V out L gs (some b) w F Fr e w1):rX C ρ ats τ X W j r b d p T V out L gs w F Fr e w1:=by
 obtain⟨rfl,T1,F1,dO,h1,h2,h3⟩:=h;exact⟨rfl,T1,F1,dO,h1,h2,ZrM hin hj (fun y hy=>Zeb _ _ _ _ hy) h3⟩
theorem ZpH{C:Cx}{w:World}{F:az}{k:Rb}{j:Nat}{r:Rp}{X:Xs}{W:Wt}{b:Bo}{mine:List aO}{d p:Nat}(hX:iE C.u.size X)(hp:p<=C.u.size)(hj:¬b.has j)
  (hI:vW C w F k j r ty y qm nx) (hnx:Qg C w F nx W (some b) mine) (hag:vX C w F 109 k.again X W j r b mine d p (bn (wa C.u.size X r d p) W)) :
  vX C w F 114 k.lM X W j r b mine d p (bn (wg C.u.size X r d p) W):=by
 intro w' F' l aW ρ ats τ T V out Fr gv gs ha hm hτ hR hg hgl hin hno;have hI':=hI.later l;have eX:=JG hτ ha hR;obtain⟨ao,cg,hgv⟩:∃ag cg,gv=.slice ag gs.length cg:=by obtain⟨a,c,h,_⟩:=hg;exact⟨a,c,h⟩
 have vH:jE 109:=fun _ _=>by kernel_rfl
 obtain⟨fn,cap,hfe,hcf,hcall⟩:=hnx;have hc:=hI'.c.1;rw[hfe] at hc;rw[Xz hX r d p hp] at hno ⊢
 by_cases hd:d<r.least
 ·rw[if_pos hd] at hno ⊢;have h1:=hag w' F' l aW ρ ats τ T V out Fr gv gs ha hm hτ hR hg hgl hin hno;rw[hgv] at h1 ⊢;exact ZoY hI'.n.c0 hI'.ag.1 (by omega) vH (h1.mono (fun e w2 h2=>⟨_,h2.1,by rw[<- h2.1];exact h2⟩))
 ·rw[if_neg hd] at hno ⊢
  cases hz:r.lazy with
  | true =>
    rw[hz,if_pos rfl] at hno;rw[if_pos rfl];have e1:bn ((p,dG)::wa C.u.size X r d p) W=W p++bn (wa C.u.size X r d p) W:=by rw[ZsI,XL,XD]
    rw[e1] at hno ⊢;obtain⟨n1,n2⟩:=Ec out V _ _ gs τ.stop hno;have h1:=hcall w' F' l aW ρ ats τ T V out Fr p gv gs ha hm hτ hR hg hgl hp hin.cls n1;rw[hgv] at h1 ⊢;have c2:=hI'.n.c2;rw[hz] at c2;refine ZlH (fa:=109) (capa:=k.again) hI'.n.c0 c2 hc (by omega) hcf vH (h1.mono ?_);intro e w1 h2;have h3:=h2.rp (X:=X) (W:=W) hin hj;refine⟨_,h2.1,fun hcb=>?_,fun hcb=>?_⟩
    ·exact h3.stop hcb _
    ·obtain⟨rfl,T1,F1,dO,g1,g2,g3⟩:=h3;rw[Qc hcb] at g3;have l1:=g2.dm eX;refine⟨(hI'.later l1).ag.1,?_⟩;have h4:=hag w1 F1 (l.trans l1) (vT hτ ha aW g2 g1) ρ ats τ T1 (bI V (W p)) _ dO gv gs ha hm hτ g1 (hg.later l1) hgl g3.dP (n2 hcb);rw[hgv] at h4;exact h4.mono (fun e w2 h5=>⟨_,h5.1,by rw[<- h5.1];exact rX.then hcb g2 g3 h5⟩)
  | false =>
    rw[hz,if_neg (by simp)] at hno;rw[if_neg (by simp)];have e1:bn (wa C.u.size X r d p++[(p,dG)]) W=bn (wa C.u.size X r d p) W++W p:=by rw[ZnA,Lt]
    rw[e1] at hno ⊢;obtain⟨n1,n2⟩:=Ec out V _ _ gs τ.stop hno;have h1:=hag w' F' l aW ρ ats τ T V out Fr gv gs ha hm hτ hR hg hgl hin n1;rw[hgv] at h1 ⊢;have c2:=hI'.n.c2;rw[hz] at c2;refine Zhk (fn:=fn) (cap:=cap) hI'.n.c0 c2 hI'.ag.1 (by omega) hcf vH (h1.mono ?_);intro e w1 h3;refine⟨_,h3.1,fun hcb=>?_,fun hcb=>?_⟩
    ·exact h3.stop hcb _
    ·obtain⟨rfl,T1,F1,dO,g1,g2,g3⟩:=h3;rw[Qc hcb] at g3;have l1:=g2.dm eX;have hc1:=(hI'.later l1).c.1;rw[hfe] at hc1;refine⟨hc1,?_⟩;have h4:=hcall w1 F1 (l.trans l1) (vT hτ ha aW g2 g1) ρ ats τ T1 (bI V (bn (wa C.u.size X r d p) W)) _ dO p gv gs ha hm hτ g1 (hg.later l1) hgl hp g3.cls (n2 hcb);rw[hgv] at h4;exact h4.mono (fun e w2 h5=>⟨_,h5.1,by rw[<- h5.1];exact rX.then hcb g2 g3 (h5.rp g3.dP hj)⟩)
def tk (r:Rp) (d p:Nat) (e:Nat×Ef):Bool := !(decide (r.least<=d) && e.1 == p)
def gG (N:Nat) (X:Xs) (r:Rp) (W:Wt) (d p:Nat) (l:En):Wn:=(l.filter (tk r d p)).flatMap fun e=>pr (ap e.2) (bn (wg N X r (d+1) e.1) W)
theorem Zs4{X:Xs}{r:Rp}{W:Wt}{d p:Nat}(h:r.most≠some d):bn (wa N X r d p) W=gG N X r W d p (X p):=by
 unfold wa gG;rw[if_neg h,Ta]
 congr 1
 funext e
 rw[XO]
variable {l:En}
theorem ZqQ{X:Xs}{r:Rp}{W:Wt}{d p:Nat}(h:i<l.length)(hs:tk r d p l[i]=false):gG N X r W d p (l.take (i+1))=gG N X r W d p (l.take i):=by
 unfold gG;rw[List.take_succ_eq_append_getElem h,List.filter_append];simp[hs]
theorem ZqR{X:Xs}{r:Rp}{W:Wt}{d p:Nat}(h:i<l.length)(hs:tk r d p l[i]=true):gG N X r W d p (l.take (i+1))=gG N X r W d p (l.take i)++pr (ap l[i].2) (bn (wg N X r (d+1) l[i].1) W):=by
 unfold gG;rw[List.take_succ_eq_append_getElem h,List.filter_append];simp[hs]
theorem Y5{X:Xs}{r:Rp}{W:Wt}{d p:Nat}(l:En)(i:Nat):gG N X r W d p l=gG N X r W d p (l.take i)++gG N X r W d p (l.drop i):=by
 unfold gG;rw[<- List.flatMap_append,<- List.filter_append,List.take_append_drop]
theorem Zje(M:List Em)(i:Nat)(h:i<M.length):(M.flatMap zh)[i*2]?=some (.int .i64 (M[i].1:Int))/\(M.flatMap zh)[i*2+1]?=some M[i].2.2:=by
 induction M generalizing i with
 | nil=>simp at h
 | cons x M ih =>
   cases i with
   | zero=>exact⟨rfl,rfl⟩
   | succ i =>
     have:=ih i (by simpa using h)
     rw[show (i+1)*2=i*2+2 by omega,show i*2+2+1=i*2+1+2 by omega];exact this
theorem ZrZ{V:Vs}{L:Wn}{t:Tr}(h:∀y∈L,V y.1=true):∀y∈pr t L,V y.1=true:=by
 intro y hy;unfold pr at hy;rw[List.mem_map] at hy;obtain⟨x,hx,rfl⟩:=hy;exact h x hx
structure yD (C:Cx) (ρ:Rx) (ats:List aO) (τ:jG) (X:Xs) (W:Wt) (j:Nat) (r:Rp) (b:Bo) (d p:Nat) (T:Tt) (V:Vs) (out:List (Nat×Rs)) (gv:Value) (gs:Rs) (w:World) (F Fr:az) (rr:Nat) (ao:Option Addr) (n cp i:Nat) (w':World):Prop where
 more:JI τ.stop V (gG C.u.size X r W d p ((X p).take i))=true
 st:∃(c:Nat) (M:List Em) (T':Tt) (F' aM:az),yC w' F' (.slice ao n cp) M/\M.map (fun x=>(x.1,x.2.1))=(X p).map (fun x=>(x.1,ap x.2 (eG C.G)))/\n=M.length/\
  Run C (ρ.pin ((j,r.need (d+1)),rr,c)) ats τ T' (out++ek τ.stop V (gG C.u.size X r W d p ((X p).take i)) gs) w' F' aM/\aJ w F Fr w' F' aM/\pJ C.u.size j (kY C.u.size X r W) r b d p T T' (bI V (gG C.u.size X r W d p ((X p).take i)))/\
  di w' F' w.heap.size 3 (.int .i64 (d:Int))/\di w' F' (w.heap.size+1) 36 gv
variable {C:Cx}{ρ:Rx}{ats:List aO}{τ:jG}{X:Xs}{W:Wt}{j:Nat}{r:Rp}{b:Bo}{d p:Nat}{T:Tt}{V:Vs}{out:List (Nat×Rs)}{gv:Value}{gs:Rs}{w w1 w2:World}{F Fr:az}{rr:Nat}{ao:Option Addr}{n cp i:Nat}
theorem yD.same(hτ:j5 C τ)(ha:∀R∈ats,Zs R)(aW:Fb w F)(h:yD C ρ ats τ X W j r b d p T V out gv gs w F Fr rr ao n cp i w1)(k:Za ai w1 w2):yD C ρ ats τ X W j r b d p T V out gv gs w F Fr rr ao n cp i w2:=by
 obtain⟨h1,c,M,T',F',aM,h2,h3,h4,h5,h6,h7,h8,h9⟩:=h;obtain⟨g1,g2⟩:=Ql hτ ha h5 k;have l:aH w1 F' w2 F':=aH.ay k;exact⟨h1,c,M,T',F',aM,h2.later l,h3,h4,g1,h6.trans g2,h7,h8.later l,h9.later l⟩
theorem yD.skip(hi:i<(X p).length)(hs:tk r d p (X p)[i]=false)(h:yD C ρ ats τ X W j r b d p T V out gv gs w F Fr rr ao n cp i w1):yD C ρ ats τ X W j r b d p T V out gv gs w F Fr rr ao n cp (i+1) w1:=by
 have e:=ZqQ (N:=C.u.size) (X:=X) (W:=W) hi hs;refine⟨by rw[e];exact h.more,?_⟩;rw[e];exact h.st
theorem ZqO{C:Cx}{ρ:Rx}{ats:List aO}{τ:jG}{X:Xs}{W:Wt}{j:Nat}{r:Rp}{b:Bo}{d p:Nat}{T:Tt}{V:Vs}{out:List (Nat×Rs)}{gv:Value}{gs:Rs}{w w1 w2:World}{F Fr F1 dO:az}{rr c:Nat}{ao ag av:Option Addr}{n cp i cg nv cv Eb:Nat}{k:Rb}{mine:List aO}{M:List Em}
  (hX:iE C.u.size X) (hp:p<=C.u.size) (hu:C.u.size<=200) (hj:¬b.has j) (hmm:∀m,r.most=some m->m<=50/\r.least<=m) (rR:∀m,r.most=some m->d+1<=m) (hd1:d<=900) (hG:C.G<=9)
  (hI:vW C w F k j r ty y qm nx) (aW:Fb w F) (hτ:j5 C τ) (ha:∀R∈ats,Zs R) (hm:∀R∈mine,R∈ats) (eX:∀k,Fr k->F k) (hg:fF w F gv gs) (hgl:gs.length=C.G) (hgv:gv=.slice ag gs.length cg)
  (hi:i<(X p).length) (hs:tk r d p (X p)[i]=true) (hno:out.length+ic τ.stop V (gG C.u.size X r W d p (X p))<=τ.cap)
  (ih:vX C w F 114 k.lM X W j r b mine (d+1) (X p)[i].1 (bn (wg C.u.size X r (d+1) (X p)[i].1) W))
  (hc:JI τ.stop V (gG C.u.size X r W d p ((X p).take i))=true)
  (nU:yC w1 F1 (.slice ao n cp) M) (hM:M.map (fun x=>(x.1,x.2.1))=(X p).map (fun x=>(x.1,ap x.2 (eG C.G)))) (hn:n=M.length)
  (aK:Run C (ρ.pin ((j,r.need (d+1)),rr,c)) ats τ T1 (out++ek τ.stop V (gG C.u.size X r W d p ((X p).take i)) gs) w1 F1 dO) (t1:aJ w F Fr w1 F1 dO) (ho:pJ C.u.size j (kY C.u.size X r W) r b d p T T1 (bI V (gG C.u.size X r W d p ((X p).take i))))
  (bd:di w1 F1 w.heap.size 3 (.int .i64 (d:Int))) (bg:di w1 F1 (w.heap.size+1) 36 gv) (hsp:fF w1 F1 (.slice av nv cv) (ap (X p)[i].2 (eG C.G)))
  (k2:Za ai w1 w2) (Ha:w1.heap.size<=Eb) (hb:w2.heap[Eb]?=some (.cells #[.int .i64 ((X p)[i].1:Int),.slice av nv cv] 135 (0,0))) :
  au 106 #[ae rr,.int .i64 ((X p)[i].1:Int),.int .u8 ((r.room (d+1):Nat):Int),.func (.func 112) #[] #[.pointer (some ⟨k.Gb,0,none⟩),ae w.heap.size,ae Eb,.pointer (some ⟨w.heap.size+1,0,none⟩)]] w2
   (fun e w3 =>∃f,e=.returned (.bool f)/\Hid (f=true->yD C ρ ats τ X W j r b d p T V out gv gs w F Fr rr ao n cp (i+1) w3)/\Hid (f=false->rX C ρ ats τ X W j r b d p T V out (gG C.u.size X r W d p (X p)) gs w F Fr (.returned (.bool false)) w3)):=by
 have l1:=t1.dm eX;have l2:aH w1 F1 w2 F1:=aH.ay k2;obtain⟨hR2,t2⟩:=Ql hτ ha aK k2;have hF1:=JG hτ ha aK;have eQ:Fb w1 F1:=vT hτ ha aW t1 aK;have lK:Fb w2 F1:=eQ.keeps k2;obtain⟨hpq,hq⟩:=hX p hp (X p)[i] (List.getElem_mem hi);have hcd:d<r.least\/p<(X p)[i].1:=by
  unfold tk at hs;simp only[Bool.not_eq_true',Bool.and_eq_false_iff,decide_eq_false_iff_not,beq_eq_false_iff_ne] at hs;omega
 obtain⟨hrm1,Ox⟩:=YR (fun m h=>(hmm m h).1) (r:=r) (d+1);have hnx:=ZqR (N:=C.u.size) (X:=X) (W:=W) hi hs;have hE0:eY w2 F1 Eb 0 (.int .i64 ((X p)[i].1:Int)):=⟨by rw[Zc hb];rfl,fun h=>by have:=eQ _ h;omega,lt_of_block hb⟩;have hE1:eY w2 F1 Eb 1 (.slice av nv cv):=⟨by rw[Zc hb];rfl,fun h=>by have:=eQ _ h;omega,lt_of_block hb⟩;have hcell:∀(wx:World) (Fx:az),aH w2 F1 wx Fx->(wx.cell? ⟨k.Gb,0,none⟩=some (.func (.func 114) #[] k.lM)/\wx.cell? (ak w.heap.size)=some (.int .i64 (d:Int))/\wx.cell? (ak Eb)=some (.int .i64 ((X p)[i].1:Int))/\wx.cell? ⟨Eb,1,none⟩=some (.slice av nv cv)/\wx.cell? ⟨w.heap.size+1,0,none⟩=some (.slice ag gs.length cg)):=by
  intro wx Fx lx;have h5:=(bg.later (l2.trans lx)).cell;rw[hgv] at h5;exact⟨((hI.later l1).later (l2.trans lx)).g.1,(bd.later (l2.trans lx)).cell,(hE0.later lx).1,(hE1.later lx).1,h5⟩
 refine TU (ρ := ρ.pin ((j,r.need (d+1)),rr,c)) (room:=r.room (d+1)) (j:=j) (n:=r.need (d+1)) (c:=c) (p:=(X p)[i].1) hτ ha hR2 (by simp[Rx.pin]) (by omega) (by omega) (fun _ _=>by kernel_rfl) ?_ ?_
 ·intro hrm;have tF:=ZrZ (t:=ap (X p)[i].2) (ZrL hX (fun m h=>(hmm m h).2) ho.dP hpq hq hcd rR hrm1 hrm);refine⟨true,rfl,fun _=>⟨?_,c,M,T1,F1,dO,nU.later l2,hM,hn,?_,t1.trans t2,?_,bd.later l2,bg.later l2⟩,fun h=>nomatch h⟩
  ·rw[hnx,Eg hc];exact MJ tF
  ·rw[hnx,JX hc,TV tF,List.append_nil];exact hR2
  ·rw[hnx,JT,<- zu,DT tF,Q9];exact ho
 ·intro hrm w3 fV gB t3;have l3:aH w2 F1 w3 F1:=t3.dm hF1;have jr:=JG hτ ha gB;have iA:Fb w3 F1:=vT hτ ha lK t3 gB;have hin:=ZuS (X:=X) (W:=W) (T:=T1) ho.dP hj hpq;have kd:Za ai w3 w3.drew:=(Za.refl _ _).drew;have hwl:aH w F w3 F1:=(l1.trans l2).trans l3;have hsum:(out++ek τ.stop V (gG C.u.size X r W d p ((X p).take i)) gs).length+ic τ.stop (bI V (gG C.u.size X r W d p ((X p).take i))) (bn (wg C.u.size X r (d+1) (X p)[i].1) W)<=τ.cap:=by
   have h1:=hno;rw[Y5 (X p) (i+1),hnx,List.append_assoc] at h1;obtain⟨-,h2⟩:=Ec out V _ _ gs τ.stop h1;have h3:=(Ec _ _ _ _ gs τ.stop (h2 hc)).1;rw[Sw] at h3;exact h3
  refine ZoZ (fn:=114) (cap:=k.lM) (R:=fun v wx=>Za ai w3 wx/\fF wx F1 v (ap (X p)[i].2 gs)) (hcell w3.drew F1 (l3.drew)) (by omega) (fun _ _=>by kernel_rfl) ?_ ?_
  ·have hg3:=(hg.later hwl).later (aH.ay (F:=F1) kd);have Fv:=((hsp.later l2).later l3).later (aH.ay (F:=F1) kd);rw[hgv] at hg3;rw[<- hgl] at Fv;refine(Zmu (iA.keeps kd) hg3 Fv (by omega)).mono ?_;rintro x wx ⟨v,rfl,hv,hk⟩;obtain⟨av',cv',rfl,-⟩:=id hv;exact⟨_,_,_,rfl,⟨kd.trans hk,hv⟩,hcell wx F1 (l3.trans (aH.ay (kd.trans hk)))⟩
  ·rintro av' nv' cv' wx ⟨hk,hv⟩;obtain⟨PH,tx⟩:=Ql hτ ha gB hk;have h1:=ih wx F1 (hwl.trans (aH.ay hk)) (iA.keeps hk) _ ats τ _ _ _ fV _ _ ha hm hτ PH hv (by rw[Ih];exact hgl) hin hsum
   push_cast at h1
   refine h1.mono ?_;rintro e w4 ⟨rfl,T4,F4,sj,g1,g2,g3⟩;have hout:=Zty hX (fun m h=>(hmm m h).2) ho.dP hj hpq hq hcd rR g3;have l4:aH w2 F1 w4 F4:=(l3.trans (aH.ay hk)).trans (g2.dm jr);have t4:aJ w F Fr w4 F4 sj:=(((t1.trans t2).trans t3).trans tx).trans g2;have e1:∀L:Wn,(out++ek τ.stop V (gG C.u.size X r W d p ((X p).take i)) gs)++ek τ.stop (bI V (gG C.u.size X r W d p ((X p).take i))) L (ap (X p)[i].2 gs)=out++ek τ.stop V (gG C.u.size X r W d p ((X p).take i)++pr (ap (X p)[i].2) L) gs:=by
    intro L;rw[JX hc,YK,List.append_assoc]
   rw[e1,<- hnx] at g1;have e2:JI τ.stop V (gG C.u.size X r W d p ((X p).take (i+1)))=JI τ.stop (bI V (gG C.u.size X r W d p ((X p).take i))) (bn (wg C.u.size X r (d+1) (X p)[i].1) W):=by rw[hnx,Eg hc,SI]
   have e3:QW τ.stop V (gG C.u.size X r W d p ((X p).take (i+1)))=QW τ.stop (bI V (gG C.u.size X r W d p ((X p).take i))) (bn (wg C.u.size X r (d+1) (X p)[i].1) W):=by rw[hnx,Uq hc,ZiD]
   rw[<- e3,<- e2] at hout;refine⟨_,rfl,⟨_,rfl,fun hcb=>?_,fun hcb=>?_⟩,hcell w4 F4 l4⟩
   ·rw[<- e2] at hcb;rw[if_pos hcb,Qc hcb] at hout;have ll:=l2.trans l4;exact⟨true,rfl,fun _=>⟨hcb,c,M,T4,F4,sj,nU.later (l2.trans l4),hM,hn,g1,t4,ho.trans hout,bd.later (l2.trans l4),bg.later (l2.trans l4)⟩,fun h=>nomatch h⟩
   ·rw[<- e2] at hcb;rw[if_neg (by simp[hcb])] at hout;refine⟨T4,_,F4,sj,g1,fun w5 gK yS t5=>⟨false,rfl,(fun h=>nomatch h),fun _=>?_⟩⟩;have h5:rX C ρ ats τ X W j r b d p T V out (gG C.u.size X r W d p ((X p).take (i+1))) gs w F Fr (.returned (.bool false)) w5:=⟨by rw[hcb],_,F4,gK,zz yS,t4.trans t5,ho.trans hout⟩;rw[Y5 (X p) (i+1)];exact h5.stop hcb _
theorem vX.later{C:Cx}{w:World}{F:az}{fn:Nat}{cap:Array Value}{X:Xs}{W:Wt}{j:Nat}{r:Rp}{b:Bo}{mine:List aO}{d p:Nat}{L:Wn}(h:vX C w F fn cap X W j r b mine d p L)(l:aH w F w' F'):vX C w' F' fn cap X W j r b mine d p L :=
 fun w2 F2 l2=>h w2 F2 (l.trans l2)
theorem ZqP{C:Cx}{w:World}{F:az}{k:Rb}{j:Nat}{r:Rp}{X:Xs}{W:Wt}{b:Bo}{mine:List aO}{d p:Nat}(hX:iE C.u.size X)(hp:p<=C.u.size)(hu:C.u.size<=200)(hj:¬b.has j)(hmm:∀m,r.most=some m->m<=50/\r.least<=m)(jK:r.least<=50)(rR:∀m,r.most=some m->d<=m)(hd1:d<=900)(hG:C.G<=9)(cZ:(X p).length<=1000)
  (hI:vW C w F k j r ty y qm nx) (hat:rC C w F qm X R) (qg:R∈mine)
  (ih:r.most≠some d->∀q,p<=q->q<=C.u.size->(d<r.least\/p<q)->vX C w F 114 k.lM X W j r b mine (d+1) q (bn (wg C.u.size X r (d+1) q) W)) :
  vX C w F 109 k.again X W j r b mine d p (bn (wa C.u.size X r d p) W):=by
 intro w' F' l aW ρ ats τ T V out Fr gv gs ha hm hτ hR hg hgl hin hno;have hI':=hI.later l;have eX:=JG hτ ha hR;obtain⟨ag,cg,hgv⟩:∃ag cg,gv=.slice ag gs.length cg:=by obtain⟨a,c,h,_⟩:=hg;exact⟨a,c,h⟩
 by_cases hmd:r.most=some d
 ·have e:bn (wa C.u.size X r d p) W = []:=by unfold wa;rw[if_pos hmd];rfl
  have c1:=hI'.n.c1;have hmv:jM r=(d:Int):=by unfold jM;rw[hmd]
  rw[hmv] at c1;rw[e,hgv];refine(ZlI c1 (lt_of_block hI'.n.1)).mono ?_;rintro e w2 ⟨rfl,hk⟩;obtain⟨g1,g2⟩:=Ql hτ ha hR hk;refine⟨by rw[D7],T,F',Fr,by rw[Ma,List.append_nil];exact g1,g2,?_⟩;rw[Qc (D7 _ _),Q9];exact hin.refl
 ·rw[Zs4 hmd] at hno ⊢;obtain⟨fat,capat,hfe,Pk,AX⟩:=hat.later l;have hne:¬(d:Int)=jM r:=by
   unfold jM
   cases hc:r.most with
   | none=>simp only;omega
   | some m=>simp only;intro h;exact hmd (by rw[hc];congr 1;omega)
  have Gu:∀m,r.most=some m->d+1<=m:=fun m h=>by
   have:=rR m h
   have:m≠d:=fun h'=>hmd (h' ▸ h)
   omega
  have hcells:∀(w1:World) (F1:az) (jx:Int) (bx tx:Value),aH w' F' w1 F1->Se w1 C jx bx tx->w1.cell? (ak w'.heap.size)=some (.int .i64 (d:Int))->
    (w1.cell? ⟨k.A,0,none⟩=some ((ae C.X))/\w1.cell? ⟨k.J,0,none⟩=some (.int .i64 (j:Int))/\w1.cell? ⟨C.X,3,none⟩=some (.map (some C.m))/\w1.cell? ⟨k.Nb,0,none⟩=some (.int .i64 (r.least:Int))/\w1.cell? ⟨k.Nb,1,none⟩=some (.int .i64 (jM r))/\w1.cell? ⟨k.Nb,2,none⟩=some (.bool r.lazy)/\w1.cell? ⟨k.Nb,3,none⟩=some (.iface ty y)/\w1.cell? (ak w'.heap.size)=some (.int .i64 (d:Int))):=by
   intro w1 F1 jx bx tx l1 hS hb;have h1:=hI'.later l1;exact⟨h1.a.1,h1.j.1,hS.c3,h1.n.c0,h1.n.c1,h1.n.c2,h1.n.c3,hb⟩
  have hnF:∀x,w'.heap.size<=x->¬F' x:=fun x hx h=>by have:=aW x h;omega
  rw[hgv];refine ZrT (X:=C.X) (m:=C.m) (nd:=r.need (d+1)) (rm:=r.room (d+1)) (l:=r.least) (mo:=jM r) (lz:=r.lazy) (ty:=ty) (y:=y) (j:=j) (fat:=fat) (capat:=capat)
   (R:=fun rr w2 =>∃c F2 bf,Run C (ρ.pin ((j,r.need (d+1)),rr,c)) ats τ T out w2 F2 bf/\aJ w' F' Fr w2 F2 bf/\di w2 F2 w'.heap.size 3 (.int .i64 (d:Int))/\di w2 F2 (w'.heap.size+1) 36 gv)
   (I:=fun rr ao n cp i wi=>yD C ρ ats τ X W j r b d p T V out gv gs w' F' Fr rr ao n cp i wi) (by omega) hne Pk ?_ ?_ ?_ ?_ ?_ ?_ ?_
  ·intro w1 k1 hb;exact hcells w1 F' _ _ _ (aH.ay k1) (Qu (Ql hτ ha hR k1).1) hb.cell
  ·intro w1
   have:=Zek (w:=w1) (r:=r) (t:=ty) (y:=y) (d:=d+1) (by omega) (by omega)
   unfold Cy at this
   push_cast at this
   exact this
  ·intro w1
   have:=ZiL (w:=w1) (r:=r) (t:=ty) (y:=y) (d:=d+1) (fun m h=>⟨(hmm m h).1,Gu m h⟩)
   unfold Cy at this
   push_cast at this
   exact this
  ·intro w1 k1 b1 b2;obtain⟨g1,g2⟩:=Ql hτ ha hR k1;refine(Uo (j:=j) (n:=r.need (d+1)) hτ ha g1).mono ?_;rintro e w2 ⟨rr,c,F2,bf,rfl,h1,h2⟩;have l2:aH w1 F' w2 F2:=h2.dm eX;have B1:di w2 F2 w'.heap.size 3 (.int .i64 (d:Int)):=(show di w1 F' _ _ _ from ⟨b1,hnF _ (Nat.le_refl _)⟩).later l2;have B2:di w2 F2 (w'.heap.size+1) 36 gv:=(show di w1 F' _ _ _ from ⟨by rw[hgv];exact b2,hnF _ (by omega)⟩).later l2;exact⟨rr,rfl,⟨c,F2,bf,h1,g2.trans h2,B1,B2⟩,hcells w2 F2 _ _ _ ((aH.ay k1).trans l2) (Qu h1) B1.cell⟩
  ·rintro rr w3 w4 ⟨c,F2,bf,h1,h2,B1,B2⟩ k4;have l2:aH w' F' w3 F2:=h2.dm eX;have l4:aH w3 F2 w4 F2:=aH.ay k4;obtain⟨g1,g2⟩:=Ql hτ ha h1 k4;have o9:Fb w4 F2:=(vT hτ ha aW h2 h1).keeps k4;have vH:=(hI'.later (l2.trans l4)).at_.1;rw[hfe] at vH;refine⟨vH,?_⟩;obtain⟨F4,nR,nS,hup⟩:=ZoM hτ ha (hm R qg) g1;refine(AX w4 F2 (l2.trans l4) o9 F4 p nR hp).mono ?_;rintro e w5 ⟨v,M,F5,gK,rfl,yS,t5,nU,hM⟩;obtain⟨Ko,g5,g6⟩:=hup w5 F5 gK t5 yS;obtain⟨ao,cp,rfl⟩:=nU.form;have hln:M.length=(X p).length:=by have:=congrArg List.length hM;simpa using this
   have l5:aH w4 F2 w5 F5:=t5.dm nS;refine⟨ao,M.length,cp,rfl,by omega,?_⟩;show yD C ρ ats τ X W j r b d p T V out gv gs w' F' Fr rr ao M.length cp 0 w5;have e0:gG C.u.size X r W d p ((X p).take 0) = []:=by simp[gG]
   refine⟨by rw[e0,D7],c,M,T,F5,Ko,nU,hM,rfl,?_,(h2.trans g2).trans g6,?_,B1.later (l4.trans l5),B2.later (l4.trans l5)⟩
   ·rw[e0,Ma,List.append_nil];exact g5
   ·rw[e0,Q9];exact hin.refl
  ·intro rr ao n cp i wi hA hin2;obtain⟨hc,c,M,T1,F1,dO,nU,hM,hn,aK,t1,ho,bd,bg⟩:=id hA;have hln:M.length=(X p).length:=by have:=congrArg List.length hM;simpa using this
   have hi:i<(X p).length:=by omega
   have hiM:i<M.length:=by omega
   have hx:(M[i].1,M[i].2.1)=((X p)[i].1,ap (X p)[i].2 (eG C.G)):=by
    have h1:(M.map (fun x=>(x.1,x.2.1)))[i]?=((X p).map (fun x=>(x.1,ap x.2 (eG C.G))))[i]?:=by rw[hM]
    rw[List.getElem?_map,List.getElem?_map,List.getElem?_eq_getElem hiM,List.getElem?_eq_getElem hi] at h1;simpa using h1
   obtain⟨hx1,hx2⟩:=Prod.mk.inj hx;have l1:=t1.dm eX;obtain⟨hrow,hro⟩:=nU.row (by omega);have hsp:=nU.sp M[i] (List.getElem_mem hiM);rw[hx2] at hsp;obtain⟨av,cv,Wl,-⟩:=id hsp;rw[Wl] at hsp;obtain⟨g,rfl⟩:∃g,ao=some ⟨g,0,none⟩:=by
    obtain⟨m,hm2⟩:∃m,M.length=m+1:=⟨M.length-1,by omega⟩;rw[hm2] at hrow;obtain⟨g,c2,h5,_⟩:=ZM hrow;simp only[Value.slice.injEq] at h5;exact⟨g,h5.1⟩
   subst hn;have hI1:=hI'.later l1;refine⟨g,(X p)[i].1,av,(ap (X p)[i].2 (eG C.G)).length,cv,rfl,?_,?_,hI1.n.c0,bd.cell,fun h1 h2 w2 k2=>?_,fun h1 w2 Eb k2 Ha hb=>?_⟩
   ·rw[hrow.cellAt (i*2) (by omega),(Zje M i hiM).1,hx1]
   ·rw[hrow.cellAt (i*2+1) (by omega),(Zje M i hiM).2,Wl]
   ·have hs:tk r d p (X p)[i]=false:=by
     unfold tk;have a1:r.least<=d:=by omega
     have a2:(X p)[i].1=p:=by omega
     simp[a1,a2]
    exact(hA.skip hi hs).same hτ ha aW k2
   ·have hs:tk r d p (X p)[i]=true:=by
     unfold tk;simp only[Bool.not_eq_true',Bool.and_eq_false_iff,decide_eq_false_iff_not,beq_eq_false_iff_ne];omega
    have hcd:d<r.least\/p<(X p)[i].1:=by
     have:=(hX p hp (X p)[i] (List.getElem_mem hi)).1
     omega
    obtain⟨hpq,hq⟩:=hX p hp (X p)[i] (List.getElem_mem hi);exact ZqO hX hp hu hj hmm Gu hd1 hG hI' aW hτ ha hm eX hg hgl hgv hi hs hno ((ih hmd _ hpq hq hcd).later l) hc nU hM rfl aK t1 ho bd bg hsp k2 Ha hb
  ·rintro rr ao n cp wi ⟨hc,c,M,T1,F1,dO,nU,hM,hn,aK,t1,ho,bd,bg⟩;have hln:M.length=(X p).length:=by have:=congrArg List.length hM;simpa using this
   rw[hn,hln,List.take_length] at hc aK ho;exact⟨by rw[hc],T1,F1,dO,zz aK,t1,by rw[Qc hc];exact ho⟩
theorem ZtU{C:Cx}{w:World}{F:az}{k:Rb}{j:Nat}{r:Rp}{X:Xs}{W:Wt}{b:Bo}{mine:List aO}(hX:iE C.u.size X)(hu:C.u.size<=200)(hj:¬b.has j)(hmm:∀m,r.most=some m->m<=50/\r.least<=m)(jK:r.least<=50)(hG:C.G<=9)(cZ:∀p,p<=C.u.size->(X p).length<=1000)
  (hI:vW C w F k j r ty y qm nx) (hat:rC C w F qm X R) (qg:R∈mine) (hnx:Qg C w F nx W (some b) mine) :
  ∀f d p,iO C.u.size r d p<=f->p<=C.u.size->d<=r.least+p->(∀m,r.most=some m->d<=m)->vX C w F 114 k.lM X W j r b mine d p (bn (wg C.u.size X r d p) W):=by
 intro f
 induction f with
 | zero=>intro d p h hp;unfold iO at h;omega
 | succ f ih =>
   intro d p h hp hd rR;refine ZpH hX hp hj hI hnx (ZqP hX hp hu hj hmm jK rR (by omega) hG (cZ p hp) hI hat qg ?_);intro hmd q hpq hq hc;refine ih (d+1) q ?_ hq (by omega) (fun m hm=>?_)
   ·unfold iO at *;omega
   ·have:=rR m hm
    have:m≠d:=fun h'=>hmd (h' ▸ hm)
    omega
def om (N:Nat) (j:Nat) (X:Xs) (r:Rp) (W:Wt) (b:Bo):Bo:=⟨b.j0,b.W0,(j,kY N X r W)::b.js⟩
theorem MC{j:Nat}{X:Xs}{r:Rp}{W:Wt}{b:Bo}{T:Tt}{V:Vs}(h:ky N (om N j X r W b) T V):ky N b T V/\Kq N (j,kY N X r W) T V :=
 ⟨⟨h.1,fun x hx=>h.2 x (by simp[om,hx])⟩,h.2 _ (by simp[om])⟩
theorem ZoR{X:Xs}(hX:iE N X){r:Rp}(hm:∀m,r.most=some m->r.least<=m){j p:Nat}{b:Bo}{T:Tt}{V:Vs}{W:Wt}(h:ky N (om N j X r W b) T V)(hp:p<=N)(hrm:0<r.room 0)(hT:r.room 0<=T j (r.need 0) p):∀y∈bn (wg N X r 0 p) W,V y.1=true:=by
 intro y hy;obtain⟨z,hz,he⟩:=XQ (W:=W) (Zjc hX r hm (d:=0) (fun _ _=>Nat.zero_le _) hT (by omega)) y hy;rw[<- he];exact(MC h).2 (r.need 0) p hp (by simp only;omega) z hz
theorem ZtA{X:Xs}{r:Rp}{j p rm:Nat}{b:Bo}{T:Tt}{V:Vs}{W:Wt}(h:ky N (om N j X r W b) T V)(hj:¬b.has j):uQ N j (kY N X r W) r b 0 p (fC T j (r.need 0) p rm) V:=by
 refine⟨DR (MC h).1 hj,fun n x hx hO hne y hy=>?_⟩;have hne2:¬(n=r.need 0/\x=p):=by
  rintro⟨rfl,rfl⟩;exact hO (Or.inr ⟨rfl,Nat.le_refl _⟩)
 rw[Z3 T (by simp;intro h1 h2;exact hne2 ⟨h1,h2⟩)] at hne hy;exact(MC h).2 n x hx hne y hy
theorem ZrN{X:Xs}(hX:iE N X){r:Rp}(hm:∀m,r.most=some m->r.least<=m){j p:Nat}{b:Bo}{T T':Tt}{V:Vs}{W:Wt}{stop:Bool}(h:ky N (om N j X r W b) T V)(hj:¬b.has j)(hp:p<=N)
  (hP:pJ N j (kY N X r W) r b 0 p (fC T j (r.need 0) p (r.room 0)) T' (QW stop V (bn (wg N X r 0 p) W))) :
  jH N T (if JI stop V (bn (wg N X r 0 p) W) then T' else fC T' j (r.need 0) p (T j (r.need 0) p)) (QW stop V (bn (wg N X r 0 p) W)) (some (om N j X r W b)):=by
 obtain⟨g1,g2,g3,g4⟩:=hP;obtain⟨h1,h2⟩:=MC h;have hT:∀n x,Op r 0 p n x->¬(n=r.need 0/\x=p)->T' j n x=T j n x:=by
  intro n x hO hne;rw[g3 n x hO,Z3 T (by simp;intro h1 h2;exact hne ⟨h1,h2⟩)]
 have o5:T' j (r.need 0) p=r.room 0:=by
  rw[g3 _ _ (Or.inr ⟨rfl,Nat.le_refl _⟩),Ej]
 have hou:∀a,¬(om N j X r W b).has a->¬b.has a/\a≠j:=by
  intro a ha;refine⟨fun h2=>ha (h2.imp id (fun ⟨x,hx,e⟩=>⟨x,by simp[om,hx],e⟩)),fun e=>ha (Or.inr ⟨(j,kY N X r W),by simp[om],e.symm⟩)⟩
 cases hcc:JI stop V (bn (wg N X r 0 p) W) with
 | true =>
   rw[if_pos rfl];rw[Qc hcc] at g1 g2 ⊢;refine⟨⟨g1.1,fun x hx=>?_⟩,fun a ha=>?_⟩
   ·rcases List.mem_cons.1 hx with rfl | hx
    ·intro n x hx hne y hy;simp only at hne hy
     by_cases hO2:Op r 0 p n x
     ·by_cases hh:n=r.need 0/\x=p
      ·obtain⟨rfl,rfl⟩:=hh;rw[o5] at hy;unfold kY at hy;rw[Zjb hX r hm (fun _ _=>Nat.zero_le _)] at hy;exact yn hy
      ·rw[hT n x hO2 hh] at hne hy;exact BZ _ _ _ (h2 n x hx hne y hy)
     ·exact g2 n x hx hO2 hne y hy
    ·exact g1.2 x hx
   ·obtain⟨q1,q2⟩:=hou a ha;rw[g4 a q2 q1,Qk T q2]
 | false =>
   simp only[Bool.false_eq_true,if_false];rw[QE hcc] at g1 g2 ⊢;have g5:ky N b (fC T' j (r.need 0) p (T j (r.need 0) p)) V:=DR g1 hj;refine⟨⟨g5.1,fun x hx=>?_⟩,fun a ha=>?_⟩
   ·rcases List.mem_cons.1 hx with rfl | hx
    ·intro n x hx hne y hy;simp only at hne hy
     by_cases hh:n=r.need 0/\x=p
     ·obtain⟨rfl,rfl⟩:=hh;rw[Ej] at hne hy;exact h2 _ _ hx hne y hy
     ·rw[Z3 T' (by simp;intro h1 h2;exact hh ⟨h1,h2⟩)] at hne hy
      by_cases hO2:Op r 0 p n x
      ·rw[hT n x hO2 hh] at hne hy;exact h2 n x hx hne y hy
      ·exact g2 n x hx hO2 hne y hy
    ·exact g5.2 x hx
   ·obtain⟨q1,q2⟩:=hou a ha;rw[Qk T' q2,g4 a q2 q1,Qk T q2]
theorem ZlE{C:Cx}{w:World}{F:az}{k:Rb}{j:Nat}{r:Rp}{X:Xs}{W:Wt}{b:Bo}{mine:List aO}(hX:iE C.u.size X)(hu:C.u.size<=200)(hj:¬b.has j)(hmm:∀m,r.most=some m->m<=50/\r.least<=m)(jK:r.least<=50)(hG:C.G<=9)(cZ:∀p,p<=C.u.size->(X p).length<=1000)
  (hI:vW C w F k j r ty y qm nx) (hat:rC C w F qm X R) (qg:R∈mine) (hnx:Qg C w F nx W (some b) mine) :
  Qg C w F (.func (.func 115) #[] #[.pointer (some ⟨k.A,0,none⟩),.pointer (some ⟨k.J,0,none⟩),.pointer (some ⟨k.Nb,0,none⟩),.pointer (some ⟨k.Gb,0,none⟩)]) (fun p=>bn (wg C.u.size X r 0 p) W) (some (om C.u.size j X r W b)) mine:=by
 refine⟨_,_,rfl,fun _ _=>by kernel_rfl,?_⟩;intro w' F' l aW ρ ats τ T V out Fr p gv gs ha hm hτ hR hg hgl hp hP hno;have hI':=hI.later l;have eX:=JG hτ ha hR;have hgo:vX C w F 114 k.lM X W j r b mine 0 p (bn (wg C.u.size X r 0 p) W):=ZtU hX hu hj hmm jK hG cZ hI hat qg hnx _ 0 p (Nat.le_refl _) hp (Nat.zero_le _) (fun _ _=>Nat.zero_le _);have hP':ky C.u.size (om C.u.size j X r W b) T V:=hP;obtain⟨ag,cg,hgv⟩:∃ag cg,gv=.slice ag gs.length cg:=by obtain⟨a,c,h,_⟩:=hg;exact⟨a,c,h⟩
 obtain⟨hrm1,Ox⟩:=YR (fun m h=>(hmm m h).1) (r:=r) 0;have hcells:∀(w1:World) (F1:az) (jx:Int) (bx tx:Value),aH w' F' w1 F1->Se w1 C jx bx tx->w1.cell? (ak w'.heap.size)=some (.int .i64 (p:Int))->
   (w1.cell? ⟨k.A,0,none⟩=some ((ae C.X))/\w1.cell? ⟨k.J,0,none⟩=some (.int .i64 (j:Int))/\w1.cell? ⟨C.X,3,none⟩=some (.map (some C.m))/\w1.cell? ⟨k.Nb,0,none⟩=some (.int .i64 (r.least:Int))/\w1.cell? ⟨k.Nb,1,none⟩=some (.int .i64 (jM r))/\w1.cell? ⟨k.Nb,2,none⟩=some (.bool r.lazy)/\w1.cell? ⟨k.Nb,3,none⟩=some (.iface ty y)/\w1.cell? (ak w'.heap.size)=some (.int .i64 (p:Int))):=by
  intro w1 F1 jx bx tx l1 hS hb;have h1:=hI'.later l1;exact⟨h1.a.1,h1.j.1,hS.c3,h1.n.c0,h1.n.c1,h1.n.c2,h1.n.c3,hb⟩
 have hnF:∀x,w'.heap.size<=x->¬F' x:=fun x hx h=>by have:=aW x h;omega
 rw[hgv];refine ZrS (X:=C.X) (m:=C.m) (nd:=r.need 0) (rm:=r.room 0) (l:=r.least) (mo:=jM r) (lz:=r.lazy) (ty:=ty) (y:=y) (j:=j)
  (R:=fun rr w2 =>∃c F2 bf,Run C (ρ.pin ((j,r.need 0),rr,c)) ats τ T out w2 F2 bf/\aJ w' F' Fr w2 F2 bf/\di w2 F2 w'.heap.size 3 (.int .i64 (p:Int))/\di w2 F2 (w'.heap.size+1) 36 gv) ?_ ?_ ?_ ?_ ?_
 ·intro w1 k1 hb;exact hcells w1 F' _ _ _ (aH.ay k1) (Qu (Ql hτ ha hR k1).1) hb.cell
 ·intro w1
  have:=Zek (w:=w1) (r:=r) (t:=ty) (y:=y) (d:=0) (by omega) (by omega)
  exact this
 ·intro w1
  have:=ZiL (w:=w1) (r:=r) (t:=ty) (y:=y) (d:=0) (fun m h=>⟨(hmm m h).1,Nat.zero_le _⟩)
  exact this
 ·intro w1 k1 b1 b2;obtain⟨g1,g2⟩:=Ql hτ ha hR k1;refine(Uo (j:=j) (n:=r.need 0) hτ ha g1).mono ?_;rintro e w2 ⟨rr,c,F2,bf,rfl,h1,h2⟩;have l2:aH w1 F' w2 F2:=h2.dm eX;have B1:di w2 F2 w'.heap.size 3 (.int .i64 (p:Int)):=(show di w1 F' _ _ _ from ⟨b1,hnF _ (Nat.le_refl _)⟩).later l2;have B2:di w2 F2 (w'.heap.size+1) 36 gv:=(show di w1 F' _ _ _ from ⟨by rw[hgv];exact b2,hnF _ (by omega)⟩).later l2;exact⟨rr,rfl,⟨c,F2,bf,h1,g2.trans h2,B1,B2⟩,hcells w2 F2 _ _ _ ((aH.ay k1).trans l2) (Qu h1) B1.cell⟩
 ·rintro rr w2 w3 ⟨c,F2,bf,h1,h2,B1,B2⟩ k3;have l2:aH w' F' w2 F2:=h2.dm eX;have l3:aH w2 F2 w3 F2:=aH.ay k3;obtain⟨gB,t3⟩:=Ql hτ ha h1 k3;have jr:=JG hτ ha gB;have iA:Fb w3 F2:=(vT hτ ha aW h2 h1).keeps k3;have Nq:aJ w' F' Fr w3 F2 bf:=h2.trans t3;have hcl:∀(wx:World) (Fx:az) (jx:Int) (bx tx:Value),aH w3 F2 wx Fx->Se wx C jx bx tx->_:=fun wx Fx jx bx tx lx hS=>hcells wx Fx jx bx tx ((l2.trans l3).trans lx) hS (B1.later (l3.trans lx)).cell;refine TU (ρ := ρ.pin ((j,r.need 0),rr,c)) (room:=r.room 0) (j:=j) (n:=r.need 0) (c:=c) (p:=p) hτ ha gB (by simp[Rx.pin]) (by omega) (by omega) (fun _ _=>by kernel_rfl) ?_ ?_
  ·intro hrm;have hs:=ZoR hX (fun m h=>(hmm m h).2) hP' hp hrm1 hrm;refine⟨true,rfl,⟨by rw[MJ hs],T,F2,bf,?_,Nq,jH.seen (j:=j) (p:=p) (W:=W) (B:=none) hP' hs⟩,hcl w3 F2 _ _ _ (aH.refl _ _) (Qu gB)⟩;rw[TV hs,List.append_nil];exact zz gB
  ·intro hrm w4 sj nR t4;have l4:aH w3 F2 w4 F2:=t4.dm jr;have nS:=JG hτ ha nR;have o9:Fb w4 F2:=vT hτ ha iA t4 nR;have lw:aH w' F' w4 F2:=(l2.trans l3).trans l4;have c3:=(B2.later (l3.trans l4)).cell;rw[hgv] at c3;have hst:=hgo w4 F2 (l.trans lw) o9 (ρ.pin ((j,r.need 0),rr,c)) ats τ _ V out sj gv gs ha hm hτ nR (hg.later lw) hgl (ZtA (X:=X) (W:=W) hP' hj) hno;rw[hgv] at hst;refine ZoX (fn:=114) (cap:=k.lM) (hI'.later lw).g.1 (B1.later (l3.trans l4)).cell c3 (fun _ _=>by kernel_rfl) ?_;refine Calls.mono hst ?_;rintro e w5 ⟨rfl,T5,F5,gK,g1,g2,g3⟩;have hout:=ZrN hX (fun m h=>(hmm m h).2) hP' hj hp g3;have l5:aH w4 F2 w5 F5:=g2.dm nS;have xJ:=JG hτ ha g1;refine⟨_,rfl,_,rfl,fun hc=>?_,fun hc=>?_⟩
   ·rw[if_pos hc] at hout;exact⟨true,rfl,⟨by rw[hc],T5,F5,gK,zz g1,(Nq.trans t4).trans g2,hout⟩,hcl w5 F5 _ _ _ (l4.trans l5) (Qu g1)⟩
   ·rw[if_neg (by simp[hc])] at hout;refine⟨T5,_,F5,gK,g1,fun w6 Ko C9 t6=>?_⟩;exact⟨false,rfl,⟨by rw[hc],_,F5,Ko,zz C9,((Nq.trans t4).trans g2).trans t6,hout⟩,hcl w6 F5 _ _ _ ((l4.trans l5).trans (t6.dm xJ)) (Qu C9)⟩
theorem ZoU{C:Cx}{w:World}{F:az}{k:Rb}{j:Nat}{r:Rp}{X:Xs}{W:Wt}{b:Bo}{mine:List aO}(hX:iE C.u.size X)(hu:C.u.size<=200)(hj:¬b.has j)(hmm:∀m,r.most=some m->m<=50/\r.least<=m)(jK:r.least<=50)(hG:C.G<=9)(cZ:∀p,p<=C.u.size->(X p).length<=1000)
  (hI:vW C w F k j r ty y qm nx) (hat:rC C w F qm X R) (qg:R∈mine) (hnx:Qg C w F nx W (some b) mine) :
  Qg C w F (.func (.func 115) #[] #[.pointer (some ⟨k.A,0,none⟩),.pointer (some ⟨k.J,0,none⟩),.pointer (some ⟨k.Nb,0,none⟩),.pointer (some ⟨k.Gb,0,none⟩)]) (fun p=>bn (uS C.u.size r X p) W) (some (om C.u.size j X r W b)) mine :=
 (ZlE hX hu hj hmm jK hG cZ hI hat qg hnx).uO (fun p hp=>(Zue hX r hmm p hp W).symm)
end Go.Proofs.YtfkflljplohhcaaGreatDoor
