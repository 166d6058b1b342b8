import Derived.Test.YthkmmeamplmnhaaGreatYa
import Derived.Test.YthkmmeamplmnhaaGreatB
import Derived.Test.YthkmmeamplmnhaaGreatX
import Derived.RangeFuncNested
import Derived.RangeFuncCalls
import Derived.Laws.StructEq
namespace Go.Proofs.YthkmmeamplmnhaaGreat
open Go.RowKit
set_option linter.unusedVariables false
abbrev Bs2:=Nat→Prop
structure Lat (w:World) (F:Bs2) (w':World) (F':Bs2):Prop where
 keeps:Keeps F w w'
 fresh :∀k,F' k→F k∨w.heap.size≤k
namespace Lat
variable {w w1 w2:World} {F F1 F2:Bs2}
theorem refl (w:World) (F:Bs2):Lat w F w F:=⟨Keeps.refl _ _,fun _ h=>Or.inl h⟩
theorem trans (h:Lat w F w1 F1) (h2:Lat w1 F1 w2 F2):Lat w F w2 F2:=by
 refine ⟨h.keeps.trans' h2.keeps (fun i hi h3=>(h.fresh i h3).elim id (fun h4=>by omega)),fun k hk=>?_⟩
 rcases h2.fresh k hk with h3 | h3
 ·exact h.fresh k h3
 ·exact Or.inr (Nat.le_trans h.keeps.size h3)
theorem size (h:Lat w F w1 F1):w.heap.size≤w1.heap.size:=h.keeps.size
theorem stay (h:Lat w F w1 F1) {k:Nat} (hk:k < w.heap.size) (hF:¬ F k):w1.heap[k]? = w.heap[k]?∧¬ F1 k :=
 ⟨h.keeps.block k hk hF,fun h1=>(h.fresh k h1).elim hF (fun h2=>by omega)⟩
theorem ofKeeps (k:Keeps (fun _=>False) w w1):Lat w F w1 F:=⟨k.mono (fun _ _ h=>h.elim),fun _ h=>Or.inl h⟩
theorem drew (h:Lat w F w1 F1):Lat w F w1.drew F1:=h.trans (ofKeeps ((Keeps.refl _ _).drew))
end Lat
def BxI (w:World) (F:Bs2) (b:Nat) (t:TypeId) (v:Value):Prop:=At1 w b t v∧¬ F b
theorem BxI.later {w w':World} {F F':Bs2} {b:Nat} {t:TypeId} {v:Value} (h:BxI w F b t v) (l:Lat w F w' F'):BxI w' F' b t v:=by
 obtain ⟨h1,h2⟩:=l.stay h.1.lt h.2
 exact ⟨by unfold At1; rw [h1]; exact h.1,h2⟩
theorem BxI.cell {w:World} {F:Bs2} {b:Nat} {t:TypeId} {v:Value} (h:BxI w F b t v):w.cell? ⟨b,0,none⟩=some v:=h.1.cell
def SpI (w:World) (F:Bs2) (v:Value) (gs:Rs):Prop :=∃ao cap,v = .slice ao gs.length cap∧(0 < gs.length→w.ownsRow 0 31 2 v gs.length (flatR gs)∧∀k,v.ownBlock=some k→¬ F k)
theorem ownsRow_later {w w':World} {F F':Bs2} {base:Nat} {e:TypeId} {size:Nat} {v:Value} {n:Nat} {xs:List Value} (h:w.ownsRow base e size v n xs∧∀k,v.ownBlock=some k→¬ F k) (l:Lat w F w' F'):w'.ownsRow base e size v n xs∧∀k,v.ownBlock=some k→¬ F' k :=
 ⟨ownsRow_keeps h.1 l.keeps h.2,fun k hk=>(l.stay (h.1.lt k hk).2 (h.2 k hk)).2⟩
theorem SpI.later {w w':World} {F F':Bs2} {v:Value} {gs:Rs} (h:SpI w F v gs) (l:Lat w F w' F'):SpI w' F' v gs:=by
 obtain ⟨ao,cap,rfl,h2⟩:=h
 exact ⟨ao,cap,rfl,fun hn=>ownsRow_later (h2 hn) l⟩
abbrev Em:=Nat×Rs×Value
def cellE (x:Em):List Value := [.int .i64 (x.1:Int),x.2.2]
structure EnI (w:World) (F:Bs2) (v:Value) (M:List Em):Prop where
 form :∃ao cap,v = .slice ao M.length cap
 row:0 < M.length→w.ownsRow 0 83 2 v M.length (M.flatMap cellE)∧∀k,v.ownBlock=some k→¬ F k
 sp :∀x∈M,SpI w F x.2.2 x.2.1
theorem EnI.later {w w':World} {F F':Bs2} {v:Value} {M:List Em} (h:EnI w F v M) (l:Lat w F w' F'):EnI w' F' v M :=
 ⟨h.form,fun hn=>ownsRow_later (h.row hn) l,fun x hx=>(h.sp x hx).later l⟩
abbrev Rsc:=World→Bs2→Bs2→Prop
structure RscOk (R:Rsc):Prop where
 lt :∀{w:World} {F Fr:Bs2},R w F Fr→∀k,Fr k→F k∧k < w.heap.size
 frame :∀{w w':World} {F F' Fr:Bs2},R w F Fr→Lat w F w' F'→(∀k,Fr k→F' k)→(∀k,Fr k→w'.heap[k]? = w.heap[k]?)→R w' F' Fr
structure Trn (w:World) (F O:Bs2) (w':World) (F' O':Bs2):Prop where
 keeps:Keeps O w w'
 fresh :∀k,O' k→O k∨w.heap.size≤k
 out :∀k,F' k→(F k∧¬ O k)∨O' k
 inn :∀k,k < w.heap.size→F k→¬ O k→F' k
 own :∀k,O' k→F' k
namespace Trn
variable {w w1 w2:World} {F F1 F2 O O1 O2:Bs2}
theorem lat (h:Trn w F O w1 F1 O1) (hO :∀k,O k→F k):Lat w F w1 F1 :=
 ⟨h.keeps.mono (fun k _ hk=>hO k hk),fun k hk=>by
  rcases h.out k hk with h1 | h1
  ·exact Or.inl h1.1
  ·exact (h.fresh k h1).imp (hO k) id⟩
theorem refl (hO :∀k,O k→F k):Trn w F O w F O:=⟨Keeps.refl _ _,fun _ h=>Or.inl h,fun k h=>by by_cases hk:O k; exact Or.inr hk; exact Or.inl ⟨h,hk⟩,fun k _ h _=>h,hO⟩
theorem trans (h:Trn w F O w1 F1 O1) (h2:Trn w1 F1 O1 w2 F2 O2):Trn w F O w2 F2 O2:=by
 refine ⟨h.keeps.trans' h2.keeps (fun i hi h3=>(h.fresh i h3).elim id (fun h4=>by omega)),fun k hk=>?_,fun k hk=>?_,fun k hs hF hO=>?_,h2.own⟩
 ·rcases h2.fresh k hk with h3 | h3
  ·exact h.fresh k h3
  ·exact Or.inr (Nat.le_trans h.keeps.size h3)
 ·rcases h2.out k hk with ⟨h3,h4⟩ | h3
  ·exact (h.out k h3).imp id (fun h5=>absurd h5 h4)
  ·exact Or.inr h3
 ·exact h2.inn k (Nat.lt_of_lt_of_le hs h.keeps.size) (h.inn k hs hF hO) (fun h3=>(h.fresh k h3).elim hO (fun h4=>by omega))
theorem size (h:Trn w F O w1 F1 O1):w.heap.size≤w1.heap.size:=h.keeps.size
theorem ofKeeps (hO :∀k,O k→F k) (k:Keeps (fun _=>False) w w1):Trn w F O w1 F O :=
 ⟨k.mono (fun _ _ h=>h.elim),(refl hO (w:=w)).fresh,(refl hO (w:=w)).out,(refl hO (w:=w)).inn,hO⟩
theorem wide {P:Bs2} (h:Trn w F O w1 F1 O1) (hP :∀k,P k→F k∧k < w.heap.size∧¬ O k):Trn w F (fun k=>O k∨P k) w1 F1 (fun k=>O1 k∨P k):=by
 refine ⟨h.keeps.mono (fun _ _ h=>Or.inl h),fun k hk=>?_,fun k hk=>?_,fun k hs hF hO=>h.inn k hs hF (fun h3=>hO (Or.inl h3)),fun k hk=>?_⟩
 ·rcases hk with hk | hk
  ·exact (h.fresh k hk).imp Or.inl id
  ·exact Or.inl (Or.inr hk)
 ·by_cases hp:P k
  ·exact Or.inr (Or.inr hp)
  ·rcases h.out k hk with ⟨h3,h4⟩ | h3
   ·exact Or.inl ⟨h3,fun h5=>h5.elim h4 hp⟩
   ·exact Or.inr (Or.inl h3)
 ·rcases hk with hk | hk
  ·exact h.own k hk
  ·exact h.inn k (hP k hk).2.1 (hP k hk).1 (hP k hk).2.2
theorem congr {P P1:Bs2} (h:Trn w F O w1 F1 O1) (e :∀k,O k↔P k) (e1 :∀k,O1 k↔P1 k):Trn w F P w1 F1 P1:=by
 obtain rfl:O=P:=funext fun k=>propext (e k)
 obtain rfl:O1=P1:=funext fun k=>propext (e1 k)
 exact h
end Trn
def Fb (w:World) (F:Bs2):Prop :=∀k,F k→k < w.heap.size
theorem Fb.keeps {w w':World} {F E:Bs2} (h:Fb w F) (k:Keeps E w w'):Fb w' F:=fun i hi=>Nat.lt_of_lt_of_le (h i hi) k.size
theorem Fb.trn {w w':World} {F F' O O':Bs2} (h:Fb w F) (t:Trn w F O w' F' O') (hO :∀k,O' k→k < w'.heap.size):Fb w' F':=fun k hk=>by
 rcases t.out k hk with h1 | h1
 ·exact Nat.lt_of_lt_of_le (h k h1.1) t.size
 ·exact hO k h1
theorem RscOk.stays {R:Rsc} (hR:RscOk R) {w w':World} {F F' O O' Fr:Bs2} (h:R w F Fr) (t:Trn w F O w' F' O') (hO :∀k,O k→F k) (hd :∀k,Fr k→¬ O k):R w' F' Fr∧∀k,Fr k→¬ O' k :=
 ⟨hR.frame h (t.lat hO) (fun k hk=>t.inn k (hR.lt h k hk).2 (hR.lt h k hk).1 (hd k hk)) (fun k hk=>t.keeps.block k (hR.lt h k hk).2 (hd k hk)),
  fun k hk h2=>(t.fresh k h2).elim (hd k hk) (fun h3=>by have:=(hR.lt h k hk).2; omega)⟩
def starL:List Rsc→Rsc
 | []=>fun w F Fr =>∀k,¬ Fr k
 | R :: l=>fun w F Fr =>∃F1 F2,(∀k,Fr k↔F1 k∨F2 k)∧(∀k,F1 k→¬ F2 k)∧R w F F1∧starL l w F F2
theorem starL_ok :∀{l:List Rsc},(∀R∈l,RscOk R)→RscOk (starL l):=by
 intro l
 induction l with
 | nil=>exact fun _=>⟨fun h k hk=>absurd hk (h k),fun h _ _ _=>h⟩
 | cons R l ih =>
   intro hl
   have h1:=hl R (by simp)
   have h2:=ih (fun S hS=>hl S (by simp [hS]))
   refine ⟨?_,?_⟩
   ·rintro w F Fr ⟨F1,F2,he,hd,hR,hs⟩ k hk
    rcases (he k).1 hk with hk | hk
    ·exact h1.lt hR k hk
    ·exact h2.lt hs k hk
   ·rintro w w' F F' Fr ⟨F1,F2,he,hd,hR,hs⟩ hl hF hk
    exact ⟨F1,F2,he,hd,h1.frame hR hl (fun k h=>hF k ((he k).2 (Or.inl h))) (fun k h=>hk k ((he k).2 (Or.inl h))),h2.frame hs hl (fun k h=>hF k ((he k).2 (Or.inr h))) (fun k h=>hk k ((he k).2 (Or.inr h)))⟩
theorem starL_split {R:Rsc} :∀{l:List Rsc},R∈l→∃l':List Rsc,(∀S∈l',S∈l)∧∀(w:World) (F Fr:Bs2),starL l w F Fr↔∃F1 F2,(∀k,Fr k↔F1 k∨F2 k)∧(∀k,F1 k→¬ F2 k)∧R w F F1∧starL l' w F F2:=by
 intro l
 induction l with
 | nil=>intro h; simp at h
 | cons S l ih =>
   intro h
   rcases List.mem_cons.1 h with rfl | h
   ·exact ⟨l,fun T hT=>by simp [hT],fun w F Fr=>Iff.rfl⟩
   ·obtain ⟨l',h1,h2⟩:=ih h
    refine ⟨S :: l',fun T hT=>?_,fun w F Fr=>?_⟩
    ·rcases List.mem_cons.1 hT with rfl | hT
     ·simp
     ·simp [h1 T hT]
    ·constructor
     ·rintro ⟨F1,F2,he,hd,hS,hs⟩
      obtain ⟨F3,F4,he2,hd2,hR,hs2⟩:=(h2 w F F2).1 hs
      refine ⟨F3,fun k=>F1 k∨F4 k,fun k=>?_,fun k hk hc=>?_,hR,F1,F4,fun k=>Iff.rfl,fun k hk hc=>hd k hk ((he2 k).2 (Or.inr hc)),hS,hs2⟩
      ·rw [he k,he2 k]
       constructor
       ·rintro (h | h | h)
        ·exact Or.inr (Or.inl h)
        ·exact Or.inl h
        ·exact Or.inr (Or.inr h)
       ·rintro (h | h | h)
        ·exact Or.inr (Or.inl h)
        ·exact Or.inl h
        ·exact Or.inr (Or.inr h)
      ·rcases hc with hc | hc
       ·exact hd k hc ((he2 k).2 (Or.inl hk))
       ·exact hd2 k hk hc
     ·rintro ⟨F3,F5,he,hd,hR,F1,F4,he2,hd2,hS,hs2⟩
      refine ⟨F1,fun k=>F3 k∨F4 k,fun k=>?_,fun k hk hc=>?_,hS,(h2 w F _).2 ⟨F3,F4,fun k=>Iff.rfl,fun k hk hc=>hd k hk ((he2 k).2 (Or.inr hc)),hR,hs2⟩⟩
      ·rw [he k,he2 k]
       constructor
       ·rintro (h | h | h)
        ·exact Or.inr (Or.inl h)
        ·exact Or.inl h
        ·exact Or.inr (Or.inr h)
       ·rintro (h | h | h)
        ·exact Or.inr (Or.inl h)
        ·exact Or.inl h
        ·exact Or.inr (Or.inr h)
      ·rcases hc with hc | hc
       ·exact hd k hc ((he2 k).2 (Or.inl hk))
       ·exact hd2 k hk hc
end Go.Proofs.YthkmmeamplmnhaaGreat
namespace Go.Proofs.YthkmmeamplmnhaaGreat
open Go.RowKit
set_option linter.unusedVariables false
abbrev Tt:=Nat→Nat→Nat→Nat
def tno:Tt:=fun _ _ _=>0
def tset (T:Tt) (j n p r:Nat):Tt:=fun a b c=>if a=j∧b=n∧c=p then r else T a b c
theorem tset_same (T:Tt) (j n p r:Nat):tset T j n p r j n p=r:=by simp [tset]
theorem tset_other (T:Tt) {j n p r a b c:Nat} (h:¬ (a=j∧b=n∧c=p)):tset T j n p r a b c=T a b c:=by simp [tset,h]
theorem tset_joint (T:Tt) {j n p r a:Nat} (h:a≠j):tset T j n p r a=T a:=by funext b c; simp [tset,h]
structure Cx where
 X:Nat
 m:Nat
 u:ByteArray
 nn:Value
 G:Nat
def Se (w:World) (C:Cx) (jn:Int) (bg tl:Value):Prop:=w.heap[C.X]? = some (.cells #[.string C.u,C.nn,.int .i64 jn,.map (some C.m),bg,tl] 122 (0,0))
namespace Se
variable {w w':World} {C:Cx} {jn:Int} {bg tl:Value}
theorem lt (h:Se w C jn bg tl):C.X < w.heap.size:=lt_of_block h
theorem c0 (h:Se w C jn bg tl):w.cell? ⟨C.X,0,none⟩=some (.string C.u):=by rw [cell_of h]; rfl
theorem c1 (h:Se w C jn bg tl):w.cell? ⟨C.X,1,none⟩=some C.nn:=by rw [cell_of h]; rfl
theorem c2 (h:Se w C jn bg tl):w.cell? ⟨C.X,2,none⟩=some (.int .i64 jn):=by rw [cell_of h]; rfl
theorem c3 (h:Se w C jn bg tl):w.cell? ⟨C.X,3,none⟩=some (.map (some C.m)):=by rw [cell_of h]; rfl
theorem c4 (h:Se w C jn bg tl):w.cell? ⟨C.X,4,none⟩=some bg:=by rw [cell_of h]; rfl
theorem c5 (h:Se w C jn bg tl):w.cell? ⟨C.X,5,none⟩=some tl:=by rw [cell_of h]; rfl
theorem fz (h:Se w C jn bg tl) (i:Nat):w.frozen? ⟨C.X,i,none⟩=false:=free_of h
theorem same (h:Se w C jn bg tl) (hk:w'.heap[C.X]? = w.heap[C.X]?):Se w' C jn bg tl:=by unfold Se; rw [hk]; exact h
theorem set2 (h:Se w C jn bg tl) (x:Int):Se (w.setCell ⟨C.X,2,none⟩ (.int .i64 x)) C x bg tl:=by unfold Se; rw [heap_setCell_same _ _ _ _ _ _ h]; rfl
theorem set4 (h:Se w C jn bg tl) (x:Value):Se (w.setCell ⟨C.X,4,none⟩ x) C jn x tl:=by unfold Se; rw [heap_setCell_same _ _ _ _ _ _ h]; rfl
theorem set5 (h:Se w C jn bg tl) (x:Value):Se (w.setCell ⟨C.X,5,none⟩ x) C jn bg x:=by unfold Se; rw [heap_setCell_same _ _ _ _ _ _ h]; rfl
end Se
def rmv (f:Nat→Nat):List Value:=(List.range 201).map fun p => .int .u8 ((f p:Nat):Int)
def Rm (w:World) (r:Nat) (f:Nat→Nat):Prop:=w.heap[r]? = some (.cells (rmv f).toArray 202 (0,0))
abbrev Et:=(Nat×Nat)×Nat×Nat
def entOf (x:Et):MapEntry := { key:=.agg #[.int .i64 ((x.1.1:Nat):Int),.int .i64 ((x.1.2:Nat):Int)],val:=.pointer (some ⟨x.2.1,0,none⟩),born:=x.2.2 }
structure Tb (w:World) (m:Nat) (T:Tt) (L:List Et):Prop where
 mp :∃clock,w.heap[m]? = some (.map (L.map entOf).toArray clock)
 keys:(L.map (·.1)).Nodup
 blks:(L.map (·.2.1)).Nodup
 room :∀x∈L,Rm w x.2.1 (T x.1.1 x.1.2)
 rest :∀j n,(∀x∈L,x.1≠(j,n))→∀p,T j n p=0
 few :∀j n p,T j n p≤255
 apart :∀x∈L,x.2.1≠m
structure Rx where
 jn:Int
 bg:Value
 pn:List Et
def SeR (C:Cx) (ρ:Rx) (tl:Value) (T:Tt):Rsc:=fun w F Fr =>∃L,Se w C ρ.jn ρ.bg tl∧Tb w C.m T L∧(∀x∈ρ.pn,x∈L)∧(∀k,Fr k↔k=C.X∨k=C.m∨∃x∈L,x.2.1=k)∧(∀k,Fr k→F k)∧C.X≠C.m∧∀x∈L,x.2.1≠C.X
theorem seR_ok (C:Cx) (ρ:Rx) (tl:Value) (T:Tt):RscOk (SeR C ρ tl T):=by
 refine ⟨?_,?_⟩
 ·rintro w F Fr ⟨L,hS,hT,hpn,he,hF,hne,hx⟩ k hk
  refine ⟨hF k hk,?_⟩
  rcases (he k).1 hk with rfl | rfl | ⟨x,hx,rfl⟩
  ·exact hS.lt
  ·obtain ⟨c,hc⟩:=hT.mp
   exact (Array.getElem?_eq_some_iff.1 hc).1
  ·exact lt_of_block (hT.room x hx)
 ·rintro w w' F F' Fr ⟨L,hS,hT,hpn,he,hF,hne,hx⟩ hl hF' hk
  have e1:=hk C.X ((he _).2 (Or.inl rfl))
  have e2:=hk C.m ((he _).2 (Or.inr (Or.inl rfl)))
  have e3:=fun x hx=>hk x ((he x).2 (Or.inr (Or.inr hx)))
  refine ⟨L,hS.same e1,⟨by rw [e2]; exact hT.mp,hT.keys,hT.blks,fun x hx=>?_,hT.rest,hT.few,hT.apart⟩,hpn,he,hF',hne,hx⟩
  unfold Rm
  rw [e3 x.2.1 ⟨x,hx,rfl⟩]
  exact hT.room x hx
structure Tlr where
 tv:Value
 stop:Bool
 cap:Nat
 tl:List (Nat×Rs)→Rsc
structure TlrOk (C:Cx) (τ:Tlr):Prop where
 ok :∀out,RscOk (τ.tl out)
 yl :∃l,τ.tv = .func (.yield l) #[] #[]∧∀(w:World) (F Fr:Bs2) (out:List (Nat×Rs)) (q:Nat) (gv:Value) (gs:Rs),Fb w F→τ.tl out w F Fr→SpI w F gv gs→gs.length=C.G→q≤C.u.size→out.length < τ.cap→
  YieldAt Fence.wide 0 Tryz.prog l #[.agg #[.int .i64 (q:Int),gv]] w fun e w'=>e = .returned (.bool (!τ.stop))∧∃F' Fr',τ.tl (out ++ [(q,gs)]) w' F' Fr'∧Trn w F Fr w' F' Fr'
def Run (C:Cx) (ρ:Rx) (ats:List Rsc) (τ:Tlr) (T:Tt) (out:List (Nat×Rs)):Rsc:=starL (SeR C ρ τ.tv T :: τ.tl out :: ats)
theorem run_ok {C:Cx} {τ:Tlr} (hτ:TlrOk C τ) {ats:List Rsc} (ha :∀R∈ats,RscOk R) (ρ:Rx) (T:Tt) (out:List (Nat×Rs)):RscOk (Run C ρ ats τ T out):=by
 refine starL_ok ?_
 intro R hR
 rcases List.mem_cons.1 hR with rfl | hR
 ·exact seR_ok _ _ _ _
 ·rcases List.mem_cons.1 hR with rfl | hR
  ·exact hτ.ok out
  ·exact ha R hR
structure Bo where
 j0:Nat
 W0:Wt
 js:List (Nat×(Nat→Nat→Wt))
def Bo.has (b:Bo) (j:Nat):Prop:=j=b.j0∨∃x∈b.js,x.1=j
def ClJ (N:Nat) (x:Nat×(Nat→Nat→Wt)) (T:Tt) (V:Vs):Prop :=∀n p,p≤N→T x.1 n p≠0→∀y∈x.2 n (T x.1 n p) p,V y.1=true
def ClB (N:Nat) (j:Nat) (W:Wt) (T:Tt) (V:Vs):Prop :=∀p,p≤N→(T j 0 p≠0→∀y∈W p,V y.1=true)∧(T j 0 p=0→∀y∈W p,V y.1=false)
def Cls (N:Nat) (b:Bo) (T:Tt) (V:Vs):Prop:=ClB N b.j0 b.W0 T V∧∀x∈b.js,ClJ N x T V
def Pre (N:Nat) (W:Wt) (T:Tt) (V:Vs) (p:Nat):Option Bo→Prop
 | none =>∀y∈W p,V y.1=false
 | some b=>Cls N b T V
def Pst (N:Nat) (T T':Tt) (V:Vs):Option Bo→Prop
 | none=>T'=T
 | some b=>Cls N b T' V∧∀j,¬ b.has j→T' j=T j
theorem Pst.refl {N:Nat} {W:Wt} {T:Tt} {V:Vs} {p:Nat} {B:Option Bo} (h:Pre N W T V p B):Pst N T T V B:=by
 cases B with
 | none=>rfl
 | some b=>exact ⟨h,fun _ _=>rfl⟩
def StepPost (C:Cx) (ρ:Rx) (ats:List Rsc) (τ:Tlr) (T:Tt) (V:Vs) (out:List (Nat×Rs)) (L:Wn) (gs:Rs) (B:Option Bo) (w:World) (F Fr:Bs2) (e:Ending) (w':World):Prop :=
 e = .returned (.bool (cont τ.stop V L))∧∃T' F' Fr',Run C ρ ats τ T' (out ++ told τ.stop V L gs) w' F' Fr'∧Trn w F Fr w' F' Fr'∧Pst C.u.size T T' (seenV τ.stop V L) B
def StepC (C:Cx) (w:World) (F:Bs2) (fv:Value) (W:Wt) (B:Option Bo) (mine:List Rsc):Prop :=
 ∃ (fn:Nat) (cap:Array Value),fv = .func (.func fn) #[] cap∧(∀(args:Array Value) (w:World),(callFunc fn args).run Tryz.prog w = .ok (.enter fn args) w)∧
   ∀ (w':World) (F':Bs2),Lat w F w' F'→Fb w' F'→∀(ρ:Rx) (ats:List Rsc) (τ:Tlr) (T:Tt) (V:Vs) (out:List (Nat×Rs)) (Fr:Bs2) (p:Nat) (gv:Value) (gs:Rs),
     (∀R∈ats,RscOk R)→(∀R∈mine,R∈ats)→TlrOk C τ→Run C ρ ats τ T out w' F' Fr→SpI w' F' gv gs→gs.length=C.G→p≤C.u.size→Pre C.u.size W T V p B→out.length + tln τ.stop V (W p)≤τ.cap→
     Calls Tryz.prog fn (#[.int .i64 (p:Int),gv] ++ cap) w' (StepPost C ρ ats τ T V out (W p) gs B w' F' Fr)
theorem StepC.later {C:Cx} {w w':World} {F F':Bs2} {fv:Value} {W:Wt} {B:Option Bo} {mine:List Rsc} (h:StepC C w F fv W B mine) (l:Lat w F w' F'):StepC C w' F' fv W B mine:=by
 obtain ⟨fn,cap,h1,h2,h3⟩:=h
 exact ⟨fn,cap,h1,h2,fun w2 F2 l2=>h3 w2 F2 (l.trans l2)⟩
theorem StepC.form {C:Cx} {w:World} {F:Bs2} {fv:Value} {W:Wt} {B:Option Bo} {mine:List Rsc} (h:StepC C w F fv W B mine) :∃(fn:Nat) (cap:Array Value),fv = .func (.func fn) #[] cap:=by
 obtain ⟨fn,cap,h1,h2,h3⟩:=h
 exact ⟨fn,cap,h1⟩
theorem StepC.mine {C:Cx} {w:World} {F:Bs2} {fv:Value} {W:Wt} {B:Option Bo} {mine mine':List Rsc} (h:StepC C w F fv W B mine) (hm :∀R∈mine,R∈mine'):StepC C w F fv W B mine':=by
 obtain ⟨fn,cap,h1,h2,h3⟩:=h
 exact ⟨fn,cap,h1,h2,fun w2 F2 l2 hb2 ρ ats τ T V out Fr p gv gs ha hm'=>h3 w2 F2 l2 hb2 ρ ats τ T V out Fr p gv gs ha (fun R hR=>hm' R (hm R hR))⟩
theorem StepC.alk {C:Cx} {w:World} {F:Bs2} {fv:Value} {W W':Wt} {b:Bo} {mine:List Rsc} (h:StepC C w F fv W (some b) mine) (hW :∀p,p≤C.u.size→Alk (W p) (W' p)):StepC C w F fv W' (some b) mine:=by
 obtain ⟨fn,cap,h1,h2,h3⟩:=h
 refine ⟨fn,cap,h1,h2,fun w2 F2 l2 hb2 ρ ats τ T V out Fr p gv gs ha hm hτ hR hg hl hp hP hn=>?_⟩
 refine (h3 w2 F2 l2 hb2 ρ ats τ T V out Fr p gv gs ha hm hτ hR hg hl hp hP (by rw [tln_alk (hW p hp)]; exact hn)).mono ?_
 rintro e w' ⟨rfl,T',F',Fr',g1,g2,g3⟩
 refine ⟨by rw [cont_alk (hW p hp)],T',F',Fr',?_,g2,?_⟩
 ·rw [told_alk (hW p hp)] at g1; exact g1
 ·rw [seenV_alk (hW p hp)] at g3; exact g3
theorem StepC.congr {C:Cx} {w:World} {F:Bs2} {fv:Value} {W W':Wt} {B:Option Bo} {mine:List Rsc} (h:StepC C w F fv W B mine) (hW :∀p,p≤C.u.size→W p=W' p):StepC C w F fv W' B mine:=by
 obtain ⟨fn,cap,h1,h2,h3⟩:=h
 refine ⟨fn,cap,h1,h2,fun w2 F2 l2 hb2 ρ ats τ T V out Fr p gv gs ha hm hτ hR hg hl hp hP hn=>?_⟩
 have e:=hW p hp
 have hP':Pre C.u.size W T V p B:=by
  cases B with
  | none=>show∀y∈W p,_; rw [e]; exact hP
  | some b=>exact hP
 have:=h3 w2 F2 l2 hb2 ρ ats τ T V out Fr p gv gs ha hm hτ hR hg hl hp hP' (by rw [e]; exact hn)
 rw [e] at this
 exact this
structure Bo.le (b c:Bo):Prop where
 j0:c.j0=b.j0
 W0:c.W0=b.W0
 js :∀x∈b.js,x∈c.js
 new :∀x∈c.js,x∈b.js∨¬ b.has x.1
theorem ClJ.mono {N:Nat} {x:Nat×(Nat→Nat→Wt)} {T T':Tt} {V V':Vs} (h:ClJ N x T V) (hT:T' x.1=T x.1) (hV :∀y,V y=true→V' y=true):ClJ N x T' V':=by
 intro n p hp hne y hy
 rw [hT] at hne hy
 exact hV _ (h n p hp hne y hy)
theorem StepC.wide {C:Cx} {w:World} {F:Bs2} {fv:Value} {W:Wt} {b c:Bo} {mine:List Rsc} (h:StepC C w F fv W (some b) mine) (hb:b.le c):StepC C w F fv W (some c) mine:=by
 obtain ⟨fn,cap,h1,h2,h3⟩:=h
 refine ⟨fn,cap,h1,h2,fun w2 F2 l2 hb2 ρ ats τ T V out Fr p gv gs ha hm hτ hR hg hl hp hP hn=>?_⟩
 obtain ⟨q1,q2⟩:Cls C.u.size c T V:=hP
 rw [hb.j0,hb.W0] at q1
 refine (h3 w2 F2 l2 hb2 ρ ats τ T V out Fr p gv gs ha hm hτ hR hg hl hp ⟨q1,fun x hx=>q2 x (hb.js x hx)⟩ hn).mono ?_
 rintro e w' ⟨rfl,T',F',Fr',g1,g2,⟨g3,g4⟩,g5⟩
 refine ⟨rfl,T',F',Fr',g1,g2,⟨by rw [hb.j0,hb.W0]; exact g3,fun x hx=>?_⟩,fun j hj=>g5 j ?_⟩
 ·rcases hb.new x hx with h | h
  ·exact g4 x h
  ·exact (q2 x hx).mono (g5 _ h) (fun y hy=>seenV_mono _ _ _ _ hy)
 ·rintro (h | ⟨x,hx,h⟩)
  ·exact hj (Or.inl (by rw [hb.j0]; exact h))
  ·exact hj (Or.inr ⟨x,hb.js x hx,h⟩)
end Go.Proofs.YthkmmeamplmnhaaGreat
namespace Go.Proofs.YthkmmeamplmnhaaGreat
set_option linter.unusedVariables false
def onceBo (j:Nat) (W:Wt):Option Bo→Bo
 | none=>⟨j,W,[]⟩
 | some b=>⟨b.j0,b.W0,(j,fun _ _=>W) :: b.js⟩
def Inj (N:Nat) (W:Wt):Prop :=∀p q,p≤N→q≤N→∀y∈W p,∀z∈W q,y.1=z.1→p=q
def Nw (j:Nat) (B:Option Bo):Prop :=∀b,B=some b→¬ b.has j
theorem cls_set {N:Nat} {b:Bo} {T:Tt} {V:Vs} {j n p r:Nat} (h:Cls N b T V) (hj:¬ b.has j):Cls N b (tset T j n p r) V:=by
 refine ⟨?_,fun x hx=>(h.2 x hx).mono (tset_joint T (fun e=>hj (Or.inr ⟨x,hx,e⟩))) (fun _ h=>h)⟩
 intro q hq
 rw [tset_joint T (fun e=>hj (Or.inl e.symm))]
 exact h.1 q hq
theorem once_seen {N j p:Nat} {W:Wt} {B:Option Bo} {T:Tt} {V:Vs} (h:Cls N (onceBo j W B) T V) (hp:p≤N) (hT:T j 0 p≠0) :∀y∈W p,V y.1=true:=by
 cases B with
 | none=>exact (h.1 p hp).1 hT
 | some b=>exact h.2 (j,fun _ _=>W) (by simp [onceBo]) 0 p hp hT
theorem once_in {N j p:Nat} {W:Wt} {B:Option Bo} {T:Tt} {V:Vs} (h:Cls N (onceBo j W B) T V) (hp:p≤N) (hT:T j 0 p=0) (hj:Nw j B):Pre N W (tset T j 0 p 1) V p B:=by
 cases B with
 | none=>exact (h.1 p hp).2 hT
 | some b=>exact cls_set ⟨h.1,fun x hx=>h.2 x (by simp [onceBo,hx])⟩ (hj b rfl)
theorem once_out {N j p:Nat} {W:Wt} {B:Option Bo} {T T':Tt} {V:Vs} {stop:Bool} (h:Cls N (onceBo j W B) T V) (hp:p≤N) (hT:T j 0 p=0) (hj:Nw j B) (hi:B=none→Inj N W)
  (hP:Pst N (tset T j 0 p 1) T' (seenV stop V (W p)) B) :
  Pst N T (if cont stop V (W p) then T' else tset T' j 0 p 0) (seenV stop V (W p)) (some (onceBo j W B)):=by
 cases B with
 | none =>
   obtain rfl:T'=tset T j 0 p 1:=hP
   cases hc:cont stop V (W p) with
   | true =>
     rw [seenV_true hc,if_pos rfl]
     refine ⟨⟨fun q hq=>⟨fun h1=>?_,fun h1=>?_⟩,fun x hx=>by simp [onceBo] at hx⟩,fun a ha=>tset_joint T (fun e=>ha (Or.inl e))⟩
     ·by_cases hq2:q=p
      ·subst hq2; exact fun y hy=>sal_mem hy
      ·have e:tset T j 0 p 1 j 0 q=T j 0 q:=tset_other T (by simp [hq2])
       have h1':tset T j 0 p 1 j 0 q≠0:=h1
       rw [e] at h1'
       exact fun y hy=>sal_mono _ _ _ ((h.1 q hq).1 h1' y hy)
     ·have hq2:q≠p:=by
       rintro rfl
       have h1':tset T j 0 q 1 j 0 q=0:=h1
       rw [tset_same] at h1'
       omega
      have h1':tset T j 0 p 1 j 0 q=0:=h1
      rw [tset_other T (by simp [hq2])] at h1'
      intro y hy
      have h2:=(h.1 q hq).2 h1' y hy
      cases hs:sal V (W p) y.1 with
      | false=>rfl
      | true =>
        rcases sal_iff.1 hs with h3 | ⟨z,hz,he⟩
        ·rw [h2] at h3; simp at h3
        ·exact absurd (hi rfl q p hq hp y hy z hz he.symm) hq2
   | false =>
     rw [seenV_false hc]
     simp only [Bool.false_eq_true,if_false]
     have e:tset (tset T j 0 p 1) j 0 p 0=T:=by
      funext a b c
      unfold tset
      by_cases hh:a=j∧b=0∧c=p
      ·obtain ⟨rfl,rfl,rfl⟩:=hh; simp [hT]
      ·simp [hh]
     rw [e]
     exact ⟨h,fun _ _=>rfl⟩
 | some b =>
   obtain ⟨g1,g2⟩:=hP
   have hjb:=hj b rfl
   have gj:T' j=tset T j 0 p 1 j:=g2 j hjb
   have hou :∀a,¬ (onceBo j W (some b)).has a→¬ b.has a∧a≠j:=by
    intro a ha
    refine ⟨fun h2=>ha (h2.imp id (fun ⟨x,hx,e⟩=>⟨x,by simp [onceBo,hx],e⟩)),fun e=>ha (Or.inr ⟨_,by simp [onceBo]; exact Or.inl rfl,e.symm⟩)⟩
   cases hc:cont stop V (W p) with
   | true =>
     rw [if_pos rfl]
     rw [seenV_true hc] at g1 ⊢
     refine ⟨⟨g1.1,fun x hx=>?_⟩,fun a ha=>?_⟩
     ·rcases List.mem_cons.1 hx with rfl | hx
      ·intro n q hq hne y hy
       simp only at hne hy
       by_cases hh:n=0∧q=p
       ·obtain ⟨rfl,rfl⟩:=hh; exact sal_mem hy
       ·rw [gj,tset_other T (by simp; intro h1 h2; exact hh ⟨h1,h2⟩)] at hne
        exact sal_mono _ _ _ (h.2 (j,fun _ _=>W) (by simp [onceBo]) n q hq hne y hy)
      ·exact g1.2 x hx
     ·obtain ⟨h1,h2⟩:=hou a ha
      rw [g2 a h1,tset_joint T h2]
   | false =>
     simp only [Bool.false_eq_true,if_false]
     rw [seenV_false hc] at g1 ⊢
     have hTj:tset T' j 0 p 0 j=T j:=by
      funext n q
      by_cases hh:n=0∧q=p
      ·obtain ⟨rfl,rfl⟩:=hh; rw [tset_same,hT]
      ·rw [tset_other T' (by simp; intro h1 h2; exact hh ⟨h1,h2⟩),gj,tset_other T (by simp; intro h1 h2; exact hh ⟨h1,h2⟩)]
     have g3:Cls N b (tset T' j 0 p 0) V:=cls_set g1 hjb
     refine ⟨⟨g3.1,fun x hx=>?_⟩,fun a ha=>?_⟩
     ·rcases List.mem_cons.1 hx with rfl | hx
      ·exact (h.2 (j,fun _ _=>W) (by simp [onceBo])).mono hTj (fun _ h=>h)
      ·exact g3.2 x hx
     ·obtain ⟨h1,h2⟩:=hou a ha
      rw [tset_joint T' h2,g2 a h1,tset_joint T h2]
def dOf (r:Rp) (n rm:Nat):Nat:=if 0 < n then r.least - n else match r.most with | none=>r.least | some m=>max r.least (m + 1 - rm)
def jwR (N:Nat) (X:Xs) (r:Rp) (W:Wt) (n rm:Nat):Wt:=fun p=>bn (wg N X r (dOf r n rm) p) W
theorem bn_sub {L M:En} {W:Wt} (h :∀e∈L,∃f∈M,f.1=e.1) :∀y∈bn L W,∃z∈bn M W,z.1=y.1:=by
 intro y hy
 unfold bn at hy
 rw [List.mem_flatMap] at hy
 obtain ⟨e,he,hy⟩:=hy
 obtain ⟨f,hf,hfe⟩:=h e he
 unfold pr at hy
 rw [List.mem_map] at hy
 obtain ⟨x,hx,rfl⟩:=hy
 refine ⟨(x.1,fun g=>x.2 (ap f.2 g)),?_,rfl⟩
 unfold bn
 rw [List.mem_flatMap]
 refine ⟨f,hf,?_⟩
 unfold pr
 rw [List.mem_map,hfe]
 exact ⟨x,hx,rfl⟩
theorem dOf_same {N:Nat} {X:Xs} (hX:Rng N X) (r:Rp) (hm :∀m,r.most=some m→r.least≤m) {d:Nat} (hd :∀m,r.most=some m→d≤m) (p:Nat):wg N X r (dOf r (r.need d) (r.room d)) p=wg N X r d p:=by
 unfold dOf Rp.need Rp.room
 by_cases h:d < r.least
 ·rw [if_pos (by omega)]
  congr 1
  omega
 ·rw [if_neg (by omega)]
  cases hmm:r.most with
  | none =>
    simp only
    unfold wg
    have e:wgN N r r.least p=wgN N r d p:=by unfold wgN; omega
    rw [e]
    exact wg_free hX r hmm _ _ _ p (Nat.le_refl _) (by omega)
  | some m =>
    have:=hd m hmm
    have:=hm m hmm
    simp only
    congr 1
    omega
theorem dOf_room {N:Nat} {X:Xs} (hX:Rng N X) (r:Rp) (hm :∀m,r.most=some m→r.least≤m) {d rm p:Nat} (hd :∀m,r.most=some m→d≤m) (h1:r.room d≤rm) (h0:0 < rm) :
  ∀e∈wg N X r d p,∃e'∈wg N X r (dOf r (r.need d) rm) p,e'.1=e.1:=by
 refine wg_room hX r ?_ ?_ ?_
 ·intro m hmm
  have:=hd m hmm
  have:=hm m hmm
  refine ⟨by omega,?_,by omega⟩
  unfold dOf
  split
  ·omega
  ·rw [hmm]; simp only; omega
 ·unfold dOf Rp.need
  split
  ·omega
  ·cases hmm:r.most with
   | none=>simp only; omega
   | some m=>simp only; omega
 ·unfold Rp.room at *
  cases hmm:r.most with
  | none=>simp
  | some m =>
    rw [hmm] at h1
    have:=hd m hmm
    have:=hm m hmm
    simp only at h1 ⊢
    unfold dOf Rp.need
    rw [hmm]
    simp only
    split <;> omega
def Op (r:Rp) (d p n q:Nat):Prop:=r.need d < n∨(n=r.need d∧q≤p)
def ClO (N j:Nat) (jw:Nat→Nat→Wt) (O:Nat→Nat→Prop) (T:Tt) (V:Vs):Prop :=∀n p,p≤N→¬ O n p→T j n p≠0→∀y∈jw n (T j n p) p,V y.1=true
structure RpIn (N j:Nat) (jw:Nat→Nat→Wt) (r:Rp) (b:Bo) (d p:Nat) (T:Tt) (V:Vs):Prop where
 cls:Cls N b T V
 clo:ClO N j jw (Op r d p) T V
structure RpOut (N j:Nat) (jw:Nat→Nat→Wt) (r:Rp) (b:Bo) (d p:Nat) (T T':Tt) (V':Vs):Prop where
 cls:Cls N b T' V'
 clo:ClO N j jw (Op r d p) T' V'
 op :∀n q,Op r d p n q→T' j n q=T j n q
 rest :∀a,a≠j→¬ b.has a→T' a=T a
theorem RpIn.refl {N j:Nat} {jw:Nat→Nat→Wt} {r:Rp} {b:Bo} {d p:Nat} {T:Tt} {V:Vs} (h:RpIn N j jw r b d p T V):RpOut N j jw r b d p T T V:=⟨h.cls,h.clo,fun _ _ _=>rfl,fun _ _ _=>rfl⟩
theorem RpOut.inn {N j:Nat} {jw:Nat→Nat→Wt} {r:Rp} {b:Bo} {d p:Nat} {T T':Tt} {V:Vs} (h:RpOut N j jw r b d p T T' V):RpIn N j jw r b d p T' V:=⟨h.cls,h.clo⟩
theorem RpOut.trans {N j:Nat} {jw:Nat→Nat→Wt} {r:Rp} {b:Bo} {d p:Nat} {T T1 T2:Tt} {V V2:Vs} (h:RpOut N j jw r b d p T T1 V) (h2:RpOut N j jw r b d p T1 T2 V2):RpOut N j jw r b d p T T2 V2 :=
 ⟨h2.cls,h2.clo,fun n q hh=>(h2.op n q hh).trans (h.op n q hh),fun a ha hb=>(h2.rest a ha hb).trans (h.rest a ha hb)⟩
theorem rp_next {N j:Nat} {jw:Nat→Nat→Wt} {r:Rp} {b:Bo} {d p:Nat} {T T':Tt} {V V':Vs} (h:RpIn N j jw r b d p T V) (hj:¬ b.has j) (hV :∀y,V y=true→V' y=true) (hP:Pst N T T' V' (some b)):RpOut N j jw r b d p T T' V':=by
 have hT:T' j=T j:=hP.2 j hj
 refine ⟨hP.1,fun n q hq hO hne y hy=>?_,fun n q _=>by rw [hT],fun a _ hb=>hP.2 a hb⟩
 rw [hT] at hne hy
 exact hV _ (h.clo n q hq hO hne y hy)
theorem op_not {r:Rp} {d p q:Nat} (hq:p≤q) (hc:d < r.least∨p < q):¬ Op r d p (r.need (d + 1)) q:=by
 unfold Op Rp.need
 omega
theorem op_more {r:Rp} {d p q n x:Nat} (hq:p≤q) (h:Op r d p n x):Op r (d + 1) q n x:=by
 unfold Op Rp.need at *
 omega
theorem rp_seen {N:Nat} {X:Xs} (hX:Rng N X) {r:Rp} (hm :∀m,r.most=some m→r.least≤m) {j d p q:Nat} {b:Bo} {T:Tt} {V:Vs} {W:Wt} (h:RpIn N j (jwR N X r W) r b d p T V) (hq:p≤q) (hqN:q≤N) (hc:d < r.least∨p < q) (hd :∀m,r.most=some m→d + 1≤m) (hrm:0 < r.room (d + 1))
  (hT:r.room (d + 1)≤T j (r.need (d + 1)) q) :∀y∈bn (wg N X r (d + 1) q) W,V y.1=true:=by
 intro y hy
 obtain ⟨z,hz,he⟩:=bn_sub (W:=W) (dOf_room hX r hm hd hT (by omega)) y hy
 rw [← he]
 exact h.clo (r.need (d + 1)) q hqN (op_not hq hc) (by omega) z hz
theorem rp_in {N:Nat} {X:Xs} {r:Rp} {j d p q:Nat} {b:Bo} {T:Tt} {V:Vs} {W:Wt} (h:RpIn N j (jwR N X r W) r b d p T V) (hj:¬ b.has j) (hq:p≤q) :
  RpIn N j (jwR N X r W) r b (d + 1) q (tset T j (r.need (d + 1)) q (r.room (d + 1))) V:=by
 refine ⟨cls_set h.cls hj,fun n x hx hO hne y hy=>?_⟩
 have hne2:¬ (n=r.need (d + 1)∧x=q):=by
  rintro ⟨rfl,rfl⟩
  exact hO (Or.inr ⟨rfl,Nat.le_refl _⟩)
 rw [tset_other T (by simp; intro h1 h2; exact hne2 ⟨h1,h2⟩)] at hne hy
 exact h.clo n x hx (fun h2=>hO (op_more hq h2)) hne y hy
theorem rp_out {N:Nat} {X:Xs} (hX:Rng N X) {r:Rp} (hm :∀m,r.most=some m→r.least≤m) {j d p q:Nat} {b:Bo} {T T':Tt} {V:Vs} {W:Wt} {stop:Bool} (h:RpIn N j (jwR N X r W) r b d p T V) (hj:¬ b.has j) (hq:p≤q) (hqN:q≤N) (hc:d < r.least∨p < q) (hd :∀m,r.most=some m→d + 1≤m)
  (hP:RpOut N j (jwR N X r W) r b (d + 1) q (tset T j (r.need (d + 1)) q (r.room (d + 1))) T' (seenV stop V (bn (wg N X r (d + 1) q) W))) :
  RpOut N j (jwR N X r W) r b d p T (if cont stop V (bn (wg N X r (d + 1) q) W) then T' else tset T' j (r.need (d + 1)) q (T j (r.need (d + 1)) q)) (seenV stop V (bn (wg N X r (d + 1) q) W)):=by
 obtain ⟨g1,g2,g3,g4⟩:=hP
 have hT :∀n x,Op r (d + 1) q n x→¬ (n=r.need (d + 1)∧x=q)→T' j n x=T j n x:=by
  intro n x hO hne
  rw [g3 n x hO,tset_other T (by simp; intro h1 h2; exact hne ⟨h1,h2⟩)]
 have hT2:T' j (r.need (d + 1)) q=r.room (d + 1):=by
  rw [g3 _ _ (Or.inr ⟨rfl,Nat.le_refl _⟩),tset_same]
 cases hcc:cont stop V (bn (wg N X r (d + 1) q) W) with
 | true =>
   rw [if_pos rfl]
   rw [seenV_true hcc] at g1 g2 ⊢
   refine ⟨g1,fun n x hx hO hne y hy=>?_,fun n x hO=>?_,fun a ha hb=>?_⟩
   ·by_cases hO2:Op r (d + 1) q n x
    ·by_cases hh:n=r.need (d + 1)∧x=q
     ·obtain ⟨rfl,rfl⟩:=hh
      rw [hT2] at hy
      unfold jwR at hy
      rw [dOf_same hX r hm hd] at hy
      exact sal_mem hy
     ·rw [hT n x hO2 hh] at hne hy
      exact sal_mono _ _ _ (h.clo n x hx hO hne y hy)
    ·exact g2 n x hx hO2 hne y hy
   ·have hne:¬ (n=r.need (d + 1)∧x=q):=by
     rintro ⟨rfl,rfl⟩
     exact op_not hq hc hO
    exact hT n x (op_more hq hO) hne
   ·rw [g4 a ha hb,tset_joint T ha]
 | false =>
   simp only [Bool.false_eq_true,if_false]
   rw [seenV_false hcc] at g1 g2 ⊢
   refine ⟨cls_set g1 hj,fun n x hx hO hne y hy=>?_,fun n x hO=>?_,fun a ha hb=>?_⟩
   ·by_cases hh:n=r.need (d + 1)∧x=q
    ·obtain ⟨rfl,rfl⟩:=hh
     rw [tset_same] at hne hy
     exact h.clo _ _ hx hO hne y hy
    ·rw [tset_other T' (by simp; intro h1 h2; exact hh ⟨h1,h2⟩)] at hne hy
     by_cases hO2:Op r (d + 1) q n x
     ·rw [hT n x hO2 hh] at hne hy
      exact h.clo n x hx hO hne y hy
     ·exact g2 n x hx hO2 hne y hy
   ·have hne:¬ (n=r.need (d + 1)∧x=q):=by
     rintro ⟨rfl,rfl⟩
     exact op_not hq hc hO
    rw [tset_other T' (by simp; intro h1 h2; exact hne ⟨h1,h2⟩)]
    exact hT n x (op_more hq hO) hne
   ·rw [tset_joint T' ha,g4 a ha hb,tset_joint T ha]
end Go.Proofs.YthkmmeamplmnhaaGreat
namespace Go.Proofs.YthkmmeamplmnhaaGreat
open Go.RowKit
set_option linter.unusedVariables false
def keyV (j n:Nat):Value:=.agg #[.int .i64 ((j:Nat):Int),.int .i64 ((n:Nat):Int)]
structure KeyMap (P:Program) (mt kt et:TypeId):Prop where
 map:P.underlying mt=some (.map kt et)
 key :∃fs,P.underlying kt=some (.struct fs)
 eq :∀(a b c d:Nat) (w:World),(Op.equal kt (keyV a b) (keyV c d)).run P w = .ok (a == c && b == d) w
 check :∀(e:Bool) (a b:Nat) (w:World),(Instr.checkKey e 10000 kt (keyV a b)).run P w = .ok () w
 zero :∀w:World,(zeroValue et).run P w = .ok (.pointer none) w
theorem set_map {P:Program} {w:World} {r:Nat} {es:Array MapEntry} {clock:Nat} (o:Obj) (h:w.heap[r]? = some (.map es clock)):(setObj r o).run P w = .ok () (w.putObj r o):=by simp [setObj,Sem.run,h,World.putObj]
theorem get_map {P:Program} {w:World} {r:Nat} {es:Array MapEntry} {clock:Nat} (h:w.heap[r]? = some (.map es clock)):(getObj r).run P w = .ok (.map es clock) w:=by simp [getObj,Sem.run,h]
section
variable {P:Program} {mt kt et:TypeId}
theorem asking_miss (h:KeyMap P mt kt et) {j n:Nat} (w:World) :∀(L:List Et) (i:Nat),(∀x∈L,x.1≠(j,n))→(Instr.findAsking kt (keyV j n) (L.map entOf) i).run P w = .ok none w:=by
 intro L
 induction L with
 | nil=>intro i _; simp [Instr.findAsking]
 | cons x L ih =>
   intro i hx
   have hne:=hx x (by simp)
   have he:(Op.equal kt (keyV j n) (entOf x).key).run P w = .ok false w:=by
    have:=h.eq j n x.1.1 x.1.2 w
    rw [show (entOf x).key=keyV x.1.1 x.1.2 from rfl,this]
    congr 1
    have:¬ (j=x.1.1∧n=x.1.2):=fun ⟨h1,h2⟩=>hne (by rw [h1,h2])
    simpa using this
   simp only [List.map_cons,Instr.findAsking,Sem.run_bind,he,Result.andThen_ok,Bool.false_eq_true,if_false]
   exact ih (i + 1) (fun y hy=>hx y (by simp [hy]))
theorem asking_hit (h:KeyMap P mt kt et) {j n:Nat} (w:World) :∀(L:List Et) (i:Nat) (x:Et),(L.map (·.1)).Nodup→x∈L→x.1=(j,n)→∃k,(Instr.findAsking kt (keyV j n) (L.map entOf) i).run P w = .ok (some (k,.pointer (some ⟨x.2.1,0,none⟩))) w:=by
 intro L
 induction L with
 | nil=>intro i x _ hx; simp at hx
 | cons y L ih =>
   intro i x hn hx hk
   simp only [List.map_cons,List.nodup_cons] at hn
   by_cases hy:y.1=(j,n)
   ·have hxy:x=y:=by
     rcases List.mem_cons.1 hx with rfl | hx
     ·rfl
     ·exact absurd (List.mem_map.2 ⟨x,hx,by rw [hk,hy]⟩) hn.1
    subst hxy
    have he:(Op.equal kt (keyV j n) (entOf x).key).run P w = .ok true w:=by
     have:=h.eq j n x.1.1 x.1.2 w
     rw [show (entOf x).key=keyV x.1.1 x.1.2 from rfl,this,hy]
     simp
    refine ⟨i,?_⟩
    simp only [List.map_cons,Instr.findAsking,Sem.run_bind,he,Result.andThen_ok,if_true,Sem.run_pure]
    rfl
   ·have he:(Op.equal kt (keyV j n) (entOf y).key).run P w = .ok false w:=by
     have:=h.eq j n y.1.1 y.1.2 w
     rw [show (entOf y).key=keyV y.1.1 y.1.2 from rfl,this]
     congr 1
     have:¬ (j=y.1.1∧n=y.1.2):=fun ⟨h1,h2⟩=>hy (by rw [h1,h2])
     simpa using this
    rcases List.mem_cons.1 hx with rfl | hx
    ·exact absurd hk hy
    ·obtain ⟨k,hk2⟩:=ih (i + 1) x hn.2 hx hk
     refine ⟨k,?_⟩
     simp only [List.map_cons,Instr.findAsking,Sem.run_bind,he,Result.andThen_ok,Bool.false_eq_true,if_false]
     exact hk2
theorem find_key (h:KeyMap P mt kt et) {j n:Nat} (w:World) (L:List Et):(Instr.findKey kt (keyV j n) (L.map entOf)).run P w=(Instr.findAsking kt (keyV j n) (L.map entOf) 0).run P w:=by
 obtain ⟨fs,hfs⟩:=h.key
 unfold Instr.findKey
 simp only [Sem.run_bind,run_underlying hfs,Result.andThen_ok]
 cases L with
 | nil=>simp [Instr.findNow,Instr.findAsking]
 | cons x L=>simp [Instr.findNow,Instr.sameNow,entOf,keyV]
theorem lookup_miss (h:KeyMap P mt kt et) {w:World} {m clock j n:Nat} {L:List Et} (hm:w.heap[m]? = some (.map (L.map entOf).toArray clock)) (hx :∀x∈L,x.1≠(j,n)) :
  (Instr.lookup mt (.map (some m)) (keyV j n) false).run P w = .ok (.pointer none) w:=by
 unfold Instr.lookup
 simp only [Sem.run_bind,run_underlying h.map,Result.andThen_ok,get_map hm,h.check,find_key h,asking_miss h w L 0 hx,h.zero,Sem.run_pure,Bool.false_eq_true,if_false]
theorem lookup_hit (h:KeyMap P mt kt et) {w:World} {m clock j n:Nat} {L:List Et} (hm:w.heap[m]? = some (.map (L.map entOf).toArray clock)) (hn:(L.map (·.1)).Nodup) {x:Et} (hx:x∈L) (hk:x.1=(j,n)) :
  (Instr.lookup mt (.map (some m)) (keyV j n) false).run P w = .ok (.pointer (some ⟨x.2.1,0,none⟩)) w:=by
 obtain ⟨k,hk2⟩:=asking_hit h w L 0 x hn hx hk
 unfold Instr.lookup
 simp only [Sem.run_bind,run_underlying h.map,Result.andThen_ok,get_map hm,h.check,find_key h,hk2,Sem.run_pure,Bool.false_eq_true,if_false]
theorem update_miss (h:KeyMap P mt kt et) {w:World} {m clock j n r:Nat} {L:List Et} (hm:w.heap[m]? = some (.map (L.map entOf).toArray clock)) (hx :∀x∈L,x.1≠(j,n)) :
  (Instr.mapUpdate mt (.map (some m)) (keyV j n) (.pointer (some ⟨r,0,none⟩))).run P w = .ok () (w.putObj m (.map ((L ++ [((j,n),r,clock)]).map entOf).toArray (clock + 1))):=by
 unfold Instr.mapUpdate
 simp only [Sem.run_bind,run_underlying h.map,Result.andThen_ok,get_map hm,h.check,find_key h,asking_miss h w L 0 hx]
 rw [set_map _ hm]
 congr 2
 simp [entOf,keyV]
theorem clear_map (t:TypeId) (h:KeyMap P mt kt et) {w:World} {m clock:Nat} {es:Array MapEntry} (hm:w.heap[m]? = some (.map es clock)) :
  (Builtin.clear_ #[mt] t #[.map (some m)]).run P w = .ok (.tuple #[]) (w.putObj m (.map #[] clock)):=by
 unfold Builtin.clear_
 simp only [Sem.run_bind,run_underlying h.map,Result.andThen_ok,get_map hm,List.getElem?_toArray,List.getElem?_cons_zero,set_map _ hm,Sem.run_pure]
end
theorem put_same {w:World} {m:Nat} {o:Obj} (hm:m < w.heap.size):(w.putObj m o).heap[m]? = some o:=by
 unfold World.putObj
 simp [hm]
theorem put_other {w:World} {m k:Nat} {o:Obj} (h:k≠m):(w.putObj m o).heap[k]? = w.heap[k]?:=by
 unfold World.putObj
 simp [Ne.symm h]
theorem put_keeps (w:World) (m:Nat) (o:Obj):Keeps (fun k=>k=m) w (w.putObj m o) :=
 ⟨rfl,rfl,rfl,by simp [World.putObj],fun k _ hk=>put_other hk⟩
structure Apt (R Q:Rsc) (w:World) (F Fr F1 F2:Bs2):Prop where
 all :∀k,Fr k↔F1 k∨F2 k
 dis :∀k,F1 k→¬ F2 k
 one:R w F F1
 two:Q w F F2
theorem starL_cons {R:Rsc} {l:List Rsc} {w:World} {F Fr:Bs2}:starL (R :: l) w F Fr↔∃F1 F2,Apt R (starL l) w F Fr F1 F2 :=
 ⟨fun ⟨F1,F2,h1,h2,h3,h4⟩=>⟨F1,F2,h1,h2,h3,h4⟩,fun ⟨F1,F2,h⟩=>⟨F1,F2,h.all,h.dis,h.one,h.two⟩⟩
theorem Apt.upd {R R' Q:Rsc} (hR:RscOk R) (hQ:RscOk Q) {w w':World} {F F' Fr F1 F2 F1':Bs2} (h:Apt R Q w F Fr F1 F2) (t:Trn w F F1 w' F' F1') (h':R' w' F' F1') :
  Apt R' Q w' F' (fun k=>F1' k∨F2 k) F1' F2∧Trn w F Fr w' F' (fun k=>F1' k∨F2 k):=by
 have hs:=hQ.stays h.two t (fun k hk=>(hR.lt h.one k hk).1) (fun k hk h1=>h.dis k h1 hk)
 refine ⟨⟨fun k=>Iff.rfl,fun k h1 h2=>hs.2 k h2 h1,h',hs.1⟩,?_⟩
 refine (t.wide (P:=F2) (fun k hk=>⟨(hQ.lt h.two k hk).1,(hQ.lt h.two k hk).2,fun h1=>h.dis k h1 hk⟩)).congr (fun k=>(h.all k).symm) (fun k=>Iff.rfl)
theorem Apt.swap {R Q:Rsc} {w:World} {F Fr F1 F2:Bs2} (h:Apt R Q w F Fr F1 F2):Apt Q R w F Fr F2 F1:=⟨fun k=>(h.all k).trans Or.comm,fun k h1 h2=>h.dis k h2 h1,h.two,h.one⟩
theorem starL_swap {A B:Rsc} {l:List Rsc} {w:World} {F Fr:Bs2} (h:starL (A :: B :: l) w F Fr):starL (B :: A :: l) w F Fr:=by
 obtain ⟨F1,F2,e1,d1,hA,F3,F4,e2,d2,hB,hl⟩:=h
 refine ⟨F3,fun k=>F1 k∨F4 k,fun k=>?_,fun k hk hc=>?_,hB,F1,F4,fun k=>Iff.rfl,fun k hk hc=>d1 k hk ((e2 k).2 (Or.inr hc)),hA,hl⟩
 ·rw [e1 k,e2 k]
  constructor
  ·rintro (h | h | h)
   ·exact Or.inr (Or.inl h)
   ·exact Or.inl h
   ·exact Or.inr (Or.inr h)
  ·rintro (h | h | h)
   ·exact Or.inr (Or.inl h)
   ·exact Or.inl h
   ·exact Or.inr (Or.inr h)
 ·rcases hc with hc | hc
  ·exact d1 k hc ((e2 k).2 (Or.inl hk))
  ·exact d2 k hk hc
theorem tl_ok {C:Cx} {τ:Tlr} (hτ:TlrOk C τ) {ats:List Rsc} (ha :∀R∈ats,RscOk R) (out:List (Nat×Rs)):RscOk (starL (τ.tl out :: ats)) :=
 starL_ok (fun R hR=>(List.mem_cons.1 hR).elim (fun h=>h ▸ hτ.ok out) (ha R))
theorem se_ok {ats:List Rsc} (ha :∀R∈ats,RscOk R) (C:Cx) (ρ:Rx) (tl:Value) (T:Tt):RscOk (starL (SeR C ρ tl T :: ats)) :=
 starL_ok (fun R hR=>(List.mem_cons.1 hR).elim (fun h=>h ▸ seR_ok C ρ tl T) (ha R))
theorem run_se {C:Cx} {ρ:Rx} {ats:List Rsc} {τ:Tlr} {T:Tt} {out:List (Nat×Rs)} {w:World} {F Fr:Bs2} (h:Run C ρ ats τ T out w F Fr) :∃F1 F2,Apt (SeR C ρ τ.tv T) (starL (τ.tl out :: ats)) w F Fr F1 F2:=starL_cons.1 h
theorem run_of_se {C:Cx} {ρ:Rx} {ats:List Rsc} {τ:Tlr} {T:Tt} {out:List (Nat×Rs)} {w:World} {F Fr F1 F2:Bs2} (h:Apt (SeR C ρ τ.tv T) (starL (τ.tl out :: ats)) w F Fr F1 F2):Run C ρ ats τ T out w F Fr:=starL_cons.2 ⟨F1,F2,h⟩
theorem run_tl {C:Cx} {ρ:Rx} {ats:List Rsc} {τ:Tlr} {T:Tt} {out:List (Nat×Rs)} {w:World} {F Fr:Bs2} (h:Run C ρ ats τ T out w F Fr) :∃F1 F2,Apt (τ.tl out) (starL (SeR C ρ τ.tv T :: ats)) w F Fr F1 F2:=starL_cons.1 (starL_swap h)
theorem run_of_tl {C:Cx} {ρ:Rx} {ats:List Rsc} {τ:Tlr} {T:Tt} {out:List (Nat×Rs)} {w:World} {F Fr F1 F2:Bs2} (h:Apt (τ.tl out) (starL (SeR C ρ τ.tv T :: ats)) w F Fr F1 F2):Run C ρ ats τ T out w F Fr:=starL_swap (starL_cons.2 ⟨F1,F2,h⟩)
theorem run_cell {C:Cx} {ρ:Rx} {ats:List Rsc} {τ:Tlr} {T:Tt} {out:List (Nat×Rs)} {w:World} {F Fr:Bs2} (h:Run C ρ ats τ T out w F Fr):Se w C ρ.jn ρ.bg τ.tv:=by
 obtain ⟨F1,F2,h⟩:=run_se h
 exact h.one.choose_spec.1
theorem run_same {C:Cx} {ρ:Rx} {ats:List Rsc} {τ:Tlr} {T:Tt} {out:List (Nat×Rs)} {w w':World} {F Fr:Bs2} (hτ:TlrOk C τ) (ha :∀R∈ats,RscOk R) (h:Run C ρ ats τ T out w F Fr) (k:Keeps (fun _=>False) w w') :
  Run C ρ ats τ T out w' F Fr∧Trn w F Fr w' F Fr:=by
 have hO:=run_ok hτ ha ρ T out
 exact ⟨hO.frame h (Lat.ofKeeps k) (fun i hi=>(hO.lt h i hi).1) (fun i hi=>k.block i (hO.lt h i hi).2 (fun h=>h)),Trn.ofKeeps (fun i hi=>(hO.lt h i hi).1) k⟩
theorem round_any {n m:Nat} {P:Program} {l:Nat} {f:FuncId} {tmps:Array Value} {assign body:Code} {w:World} {R:Ending→World→Prop} (h:RoundIn Fence.wide n P l f tmps assign body w R):RoundIn Fence.wide m P l f tmps assign body w R :=
 ⟨h.1,fun c cs _=>h.2 c cs (room_wide _)⟩
theorem told_one {stop:Bool} {V:Vs} {p:Nat} {t:Tr} (h:V p=false) (g:Rs):told stop V [(p,t)] g = [(p,t g)]∧cont stop V [(p,t)] = !stop∧dd V [(p,t)] = [(p,t)]:=by
 have e:dd V [(p,t)] = [(p,t)]:=by rw [dd_cons_new (by exact h)]; rfl
 refine ⟨?_,?_,e⟩
 ·unfold told; rw [e]; cases stop <;> simp
 ·unfold cont; rw [e]; cases stop <;> simp
end Go.Proofs.YthkmmeamplmnhaaGreat
