import Derived.Test.YtfkflljplohhcaaGreatDoorYa
import Derived.Test.YtfkflljplohhcaaGreatDoorB
import Derived.Test.YtfkflljplohhcaaGreatDoorX
import Derived.RangeFuncNested
import Derived.RangeFuncCalls
import Derived.Laws.StructEq
namespace Go.Proofs.YtfkflljplohhcaaGreatDoor
open Go.RowKit
set_option linter.unusedVariables false
abbrev Bs2:=Nat->Prop
structure Lat (w:World) (F:Bs2) (w':World) (F':Bs2):Prop where
 keeps:Za F w w'
 fresh :∀k,F' k->F k\/w.heap.size<=k
namespace Lat
variable {w w1 w2:World} {F F1 F2:Bs2}
theorem refl (w:World) (F:Bs2):Lat w F w F:=⟨Za.refl _ _,fun _ h=>Or.inl h⟩
theorem trans (h:Lat w F w1 F1) (h2:Lat w1 F1 w2 F2):Lat w F w2 F2:=by
 refine ⟨h.keeps.trans' h2.keeps (fun i hi h3=>(h.fresh i h3).elim id (fun h4=>by omega)),fun k hk=>?_⟩
 rcases h2.fresh k hk with h3 | h3
 ·exact h.fresh k h3
 ·exact Or.inr (Nat.le_trans h.keeps.size h3)
theorem size (h:Lat w F w1 F1):w.heap.size<=w1.heap.size:=h.keeps.size
theorem stay (h:Lat w F w1 F1) {k:Nat} (hk:k < w.heap.size) (hF:¬ F k):w1.heap[k]? = w.heap[k]?/\¬ F1 k :=
 ⟨h.keeps.block k hk hF,fun h1=>(h.fresh k h1).elim hF (fun h2=>by omega)⟩
theorem ofKeeps (k:Za N0_ w w1):Lat w F w1 F:=⟨k.mono (fun _ _ h=>h.elim),fun _ h=>Or.inl h⟩
theorem drew (h:Lat w F w1 F1):Lat w F w1.drew F1:=h.trans (ofKeeps ((Za.refl _ _).drew))
end Lat
def BxI (w:World) (F:Bs2) (b:Nat) (t:TypeId) (v:Value):Prop:=At1 w b t v/\¬ F b
theorem BxI.later {w w':World} {F F':Bs2} {b:Nat} {t:TypeId} {v:Value} (h:BxI w F b t v) (l:Lat w F w' F'):BxI w' F' b t v:=by
 obtain ⟨h1,h2⟩:=l.stay h.1.lt h.2;exact ⟨by unfold At1; rw [h1]; exact h.1,h2⟩
theorem BxI.cell {w:World} {F:Bs2} {b:Nat} {t:TypeId} {v:Value} (h:BxI w F b t v):w.cell? ⟨b,0,none⟩=some v:=h.1.cell
def SpI (w:World) (F:Bs2) (v:Value) (gs:Rs):Prop :=∃ao cap,v = .slice ao gs.length cap/\(0 < gs.length->w.ownsRow 0 118 2 v gs.length (ZB gs)/\∀k,v.ownBlock=some k->¬ F k)
theorem ZJ {w w':World} {F F':Bs2} {base:Nat} {e:TypeId} {size:Nat} {v:Value} {n:Nat} {xs:List Value} (h:w.ownsRow base e size v n xs/\∀k,v.ownBlock=some k->¬ F k) (l:Lat w F w' F'):w'.ownsRow base e size v n xs/\∀k,v.ownBlock=some k->¬ F' k :=
 ⟨Zb h.1 l.keeps h.2,fun k hk=>(l.stay (h.1.lt k hk).2 (h.2 k hk)).2⟩
theorem SpI.later {w w':World} {F F':Bs2} {v:Value} {gs:Rs} (h:SpI w F v gs) (l:Lat w F w' F'):SpI w' F' v gs:=by
 obtain ⟨ao,cap,rfl,h2⟩:=h;exact ⟨ao,cap,rfl,fun hn=>ZJ (h2 hn) l⟩
abbrev Em:=Nat×Rs×Value
def Zge (x:Em):List Value := [.int .i64 (x.1:Int),x.2.2]
structure EnI (w:World) (F:Bs2) (v:Value) (M:List Em):Prop where
 form :∃ao cap,v = .slice ao M.length cap
 row:0 < M.length->w.ownsRow 0 135 2 v M.length (M.flatMap Zge)/\∀k,v.ownBlock=some k->¬ F k
 sp :∀x∈M,SpI w F x.2.2 x.2.1
theorem EnI.later {w w':World} {F F':Bs2} {v:Value} {M:List Em} (h:EnI w F v M) (l:Lat w F w' F'):EnI w' F' v M :=
 ⟨h.form,fun hn=>ZJ (h.row hn) l,fun x hx=>(h.sp x hx).later l⟩
abbrev Rsc:=World->Bs2->Bs2->Prop
structure Zq (R:Rsc):Prop where
 lt :∀{w:World} {F Fr:Bs2},R w F Fr->∀k,Fr k->F k/\k < w.heap.size
 frame :∀{w w':World} {F F' Fr:Bs2},R w F Fr->Lat w F w' F'->(∀k,Fr k->F' k)->(∀k,Fr k->w'.heap[k]? = w.heap[k]?)->R w' F' Fr
structure Trn (w:World) (F O:Bs2) (w':World) (F' O':Bs2):Prop where
 keeps:Za O w w'
 fresh :∀k,O' k->O k\/w.heap.size<=k
 out :∀k,F' k->(F k/\¬ O k)\/O' k
 inn :∀k,k < w.heap.size->F k->¬ O k->F' k
 own :∀k,O' k->F' k
namespace Trn
variable {w w1 w2:World} {F F1 F2 O O1 O2:Bs2}
theorem lat (h:Trn w F O w1 F1 O1) (hO :∀k,O k->F k):Lat w F w1 F1 :=
 ⟨h.keeps.mono (fun k _ hk=>hO k hk),fun k hk=>by
  rcases h.out k hk with h1 | h1
  ·exact Or.inl h1.1
  ·exact (h.fresh k h1).imp (hO k) id⟩
theorem refl (hO :∀k,O k->F k):Trn w F O w F O:=⟨Za.refl _ _,fun _ h=>Or.inl h,fun k h=>by by_cases hk:O k; exact Or.inr hk; exact Or.inl ⟨h,hk⟩,fun k _ h _=>h,hO⟩
theorem trans (h:Trn w F O w1 F1 O1) (h2:Trn w1 F1 O1 w2 F2 O2):Trn w F O w2 F2 O2:=by
 refine ⟨h.keeps.trans' h2.keeps (fun i hi h3=>(h.fresh i h3).elim id (fun h4=>by omega)),fun k hk=>?_,fun k hk=>?_,fun k hs hF hO=>?_,h2.own⟩
 ·rcases h2.fresh k hk with h3 | h3
  ·exact h.fresh k h3
  ·exact Or.inr (Nat.le_trans h.keeps.size h3)
 ·rcases h2.out k hk with ⟨h3,h4⟩ | h3
  ·exact (h.out k h3).imp id (fun h5=>absurd h5 h4)
  ·exact Or.inr h3
 ·exact h2.inn k (Nat.lt_of_lt_of_le hs h.keeps.size) (h.inn k hs hF hO) (fun h3=>(h.fresh k h3).elim hO (fun h4=>by omega))
theorem size (h:Trn w F O w1 F1 O1):w.heap.size<=w1.heap.size:=h.keeps.size
theorem ofKeeps (hO :∀k,O k->F k) (k:Za N0_ w w1):Trn w F O w1 F O :=
 ⟨k.mono (fun _ _ h=>h.elim),(refl hO (w:=w)).fresh,(refl hO (w:=w)).out,(refl hO (w:=w)).inn,hO⟩
theorem wide {P:Bs2} (h:Trn w F O w1 F1 O1) (hP :∀k,P k->F k/\k < w.heap.size/\¬ O k):Trn w F (fun k=>O k\/P k) w1 F1 (fun k=>O1 k\/P k):=by
 refine ⟨h.keeps.mono (fun _ _ h=>Or.inl h),fun k hk=>?_,fun k hk=>?_,fun k hs hF hO=>h.inn k hs hF (fun h3=>hO (Or.inl h3)),fun k hk=>?_⟩
 ·rcases hk with hk | hk
  ·exact (h.fresh k hk).imp Or.inl id
  ·exact Or.inl (Or.inr hk)
 ·by_cases hp:P k
  ·exact Or.inr (Or.inr hp)
  ·rcases h.out k hk with ⟨h3,h4⟩ | h3
   ·exact Or.inl ⟨h3,fun h5=>h5.elim h4 hp⟩
   ·exact Or.inr (Or.inl h3)
 ·rcases hk with hk | hk
  ·exact h.own k hk
  ·exact h.inn k (hP k hk).2.1 (hP k hk).1 (hP k hk).2.2
theorem congr {P P1:Bs2} (h:Trn w F O w1 F1 O1) (e :∀k,O k↔P k) (e1 :∀k,O1 k↔P1 k):Trn w F P w1 F1 P1:=by
 obtain rfl:O=P:=funext fun k=>propext (e k);obtain rfl:O1=P1:=funext fun k=>propext (e1 k);exact h
end Trn
def Fb (w:World) (F:Bs2):Prop :=∀k,F k->k < w.heap.size
theorem Fb.keeps {w w':World} {F E:Bs2} (h:Fb w F) (k:Za E w w'):Fb w' F:=fun i hi=>Nat.lt_of_lt_of_le (h i hi) k.size
theorem Fb.trn {w w':World} {F F' O O':Bs2} (h:Fb w F) (t:Trn w F O w' F' O') (hO :∀k,O' k->k < w'.heap.size):Fb w' F':=fun k hk=>by
 rcases t.out k hk with h1 | h1
 ·exact Nat.lt_of_lt_of_le (h k h1.1) t.size
 ·exact hO k h1
theorem Zq.stays {R:Rsc} (hR:Zq R) {w w':World} {F F' O O' Fr:Bs2} (h:R w F Fr) (t:Trn w F O w' F' O') (hO :∀k,O k->F k) (hd :∀k,Fr k->¬ O k):R w' F' Fr/\∀k,Fr k->¬ O' k :=
 ⟨hR.frame h (t.lat hO) (fun k hk=>t.inn k (hR.lt h k hk).2 (hR.lt h k hk).1 (hd k hk)) (fun k hk=>t.keeps.block k (hR.lt h k hk).2 (hd k hk)),
  fun k hk h2=>(t.fresh k h2).elim (hd k hk) (fun h3=>by have:=(hR.lt h k hk).2; omega)⟩
def Zp:List Rsc->Rsc
 | []=>fun w F Fr =>∀k,¬ Fr k
 | R :: l=>fun w F Fr =>∃F1 F2,(∀k,Fr k↔F1 k\/F2 k)/\(∀k,F1 k->¬ F2 k)/\R w F F1/\Zp l w F F2
theorem ZR :∀{l:List Rsc},(∀R∈l,Zq R)->Zq (Zp l):=by
 intro l
 induction l with
 | nil=>exact fun _=>⟨fun h k hk=>absurd hk (h k),fun h _ _ _=>h⟩
 | cons R l ih =>
   intro hl;have h1:=hl R (by simp);have h2:=ih (fun S hS=>hl S (by simp [hS]));refine ⟨?_,?_⟩
   ·rintro w F Fr ⟨F1,F2,he,hd,hR,hs⟩ k hk
    rcases (he k).1 hk with hk | hk
    ·exact h1.lt hR k hk
    ·exact h2.lt hs k hk
   ·rintro w w' F F' Fr ⟨F1,F2,he,hd,hR,hs⟩ hl hF hk;exact ⟨F1,F2,he,hd,h1.frame hR hl (fun k h=>hF k ((he k).2 (Or.inl h))) (fun k h=>hk k ((he k).2 (Or.inl h))),h2.frame hs hl (fun k h=>hF k ((he k).2 (Or.inr h))) (fun k h=>hk k ((he k).2 (Or.inr h)))⟩
theorem ZgA {R:Rsc} :∀{l:List Rsc},R∈l->∃l':List Rsc,(∀S∈l',S∈l)/\∀(w:World) (F Fr:Bs2),Zp l w F Fr↔∃F1 F2,(∀k,Fr k↔F1 k\/F2 k)/\(∀k,F1 k->¬ F2 k)/\R w F F1/\Zp l' w F F2:=by
 intro l
 induction l with
 | nil=>intro h; simp at h
 | cons S l ih =>
   intro h
   rcases List.mem_cons.1 h with rfl | h
   ·exact ⟨l,fun T hT=>by simp [hT],fun w F Fr=>Iff.rfl⟩
   ·obtain ⟨l',h1,h2⟩:=ih h;refine ⟨S :: l',fun T hT=>?_,fun w F Fr=>?_⟩
    ·rcases List.mem_cons.1 hT with rfl | hT
     ·simp
     ·simp [h1 T hT]
    ·constructor
     ·rintro ⟨F1,F2,he,hd,hS,hs⟩;obtain ⟨F3,F4,he2,hd2,hR,hs2⟩:=(h2 w F F2).1 hs;refine ⟨F3,fun k=>F1 k\/F4 k,fun k=>?_,fun k hk hc=>?_,hR,F1,F4,fun k=>Iff.rfl,fun k hk hc=>hd k hk ((he2 k).2 (Or.inr hc)),hS,hs2⟩
      ·rw [he k,he2 k];constructor
       ·rintro (h | h | h)
        ·exact Or.inr (Or.inl h)
        ·exact Or.inl h
        ·exact Or.inr (Or.inr h)
       ·rintro (h | h | h)
        ·exact Or.inr (Or.inl h)
        ·exact Or.inl h
        ·exact Or.inr (Or.inr h)
      ·rcases hc with hc | hc
       ·exact hd k hc ((he2 k).2 (Or.inl hk))
       ·exact hd2 k hk hc
     ·rintro ⟨F3,F5,he,hd,hR,F1,F4,he2,hd2,hS,hs2⟩;refine ⟨F1,fun k=>F3 k\/F4 k,fun k=>?_,fun k hk hc=>?_,hS,(h2 w F _).2 ⟨F3,F4,fun k=>Iff.rfl,fun k hk hc=>hd k hk ((he2 k).2 (Or.inr hc)),hR,hs2⟩⟩
      ·rw [he k,he2 k];constructor
       ·rintro (h | h | h)
        ·exact Or.inr (Or.inl h)
        ·exact Or.inl h
        ·exact Or.inr (Or.inr h)
       ·rintro (h | h | h)
        ·exact Or.inr (Or.inl h)
        ·exact Or.inl h
        ·exact Or.inr (Or.inr h)
      ·rcases hc with hc | hc
       ·exact hd k hc ((he2 k).2 (Or.inl hk))
       ·exact hd2 k hk hc
abbrev Tt:=Nat->Nat->Nat->Nat
def tno:Tt:=fun _ _ _=>0
def ZaM (T:Tt) (j n p r:Nat):Tt:=fun a b c=>if a=j/\b=n/\c=p then r else T a b c
theorem Zag (T:Tt) (j n p r:Nat):ZaM T j n p r j n p=r:=by simp [ZaM]
theorem Z1 (T:Tt) {j n p r a b c:Nat} (h:¬ (a=j/\b=n/\c=p)):ZaM T j n p r a b c=T a b c:=by simp [ZaM,h]
theorem Qj (T:Tt) {j n p r a:Nat} (h:a≠j):ZaM T j n p r a=T a:=by funext b c; simp [ZaM,h]
structure Cx where
 X:Nat
 m:Nat
 u:ByteArray
 nn:Value
 G:Nat
def Se (w:World) (C:Cx) (jn:Int) (bg tl:Value):Prop:=w.heap[C.X]? = some (.cells #[.string C.u,C.nn,.int .i64 jn,.map (some C.m),bg,tl] 105 (0,0))
namespace Se
variable {w w':World} {C:Cx} {jn:Int} {bg tl:Value}
theorem lt (h:Se w C jn bg tl):C.X < w.heap.size:=lt_of_block h
theorem c0 (h:Se w C jn bg tl):w.cell? ⟨C.X,0,none⟩=some (.string C.u):=by rw [Zc h]; rfl
theorem c1 (h:Se w C jn bg tl):w.cell? ⟨C.X,1,none⟩=some C.nn:=by rw [Zc h]; rfl
theorem c2 (h:Se w C jn bg tl):w.cell? ⟨C.X,2,none⟩=some (.int .i64 jn):=by rw [Zc h]; rfl
theorem c3 (h:Se w C jn bg tl):w.cell? ⟨C.X,3,none⟩=some (.map (some C.m)):=by rw [Zc h]; rfl
theorem c4 (h:Se w C jn bg tl):w.cell? ⟨C.X,4,none⟩=some bg:=by rw [Zc h]; rfl
theorem c5 (h:Se w C jn bg tl):w.cell? ⟨C.X,5,none⟩=some tl:=by rw [Zc h]; rfl
theorem fz (h:Se w C jn bg tl) (i:Nat):w.frozen? ⟨C.X,i,none⟩=false:=Zv h
theorem same (h:Se w C jn bg tl) (hk:w'.heap[C.X]? = w.heap[C.X]?):Se w' C jn bg tl:=by unfold Se; rw [hk]; exact h
theorem set2 (h:Se w C jn bg tl) (x:Int):Se (w.setCell ⟨C.X,2,none⟩ (.int .i64 x)) C x bg tl:=by unfold Se; rw [heap_setCell_same _ _ _ _ _ _ h]; rfl
theorem set4 (h:Se w C jn bg tl) (x:Value):Se (w.setCell ⟨C.X,4,none⟩ x) C jn x tl:=by unfold Se; rw [heap_setCell_same _ _ _ _ _ _ h]; rfl
theorem set5 (h:Se w C jn bg tl) (x:Value):Se (w.setCell ⟨C.X,5,none⟩ x) C jn bg x:=by unfold Se; rw [heap_setCell_same _ _ _ _ _ _ h]; rfl
end Se
def rmv (f:Nat->Nat):List Value:=(List.range 201).map fun p => .int .u8 ((f p:Nat):Int)
def Rm (w:World) (r:Nat) (f:Nat->Nat):Prop:=w.heap[r]? = some (.cells (rmv f).toArray 243 (0,0))
abbrev Et:=(Nat×Nat)×Nat×Nat
def J0 (x:Et):MapEntry := { key:=.agg #[.int .i64 ((x.1.1:Nat):Int),.int .i64 ((x.1.2:Nat):Int)],val:=.pointer (some ⟨x.2.1,0,none⟩),born:=x.2.2 }
structure Tb (w:World) (m:Nat) (T:Tt) (L:List Et):Prop where
 mp :∃clock,w.heap[m]? = some (.map (L.map J0).toArray clock)
 keys:(L.map (·.1)).Nodup
 blks:(L.map (·.2.1)).Nodup
 room :∀x∈L,Rm w x.2.1 (T x.1.1 x.1.2)
 rest :∀j n,(∀x∈L,x.1≠(j,n))->∀p,T j n p=0
 few :∀j n p,T j n p<=255
 apart :∀x∈L,x.2.1≠m
structure Rx where
 jn:Int
 bg:Value
 pn:List Et
def SeR (C:Cx) (ρ:Rx) (tl:Value) (T:Tt):Rsc:=fun w F Fr =>∃L,Se w C ρ.jn ρ.bg tl/\Tb w C.m T L/\(∀x∈ρ.pn,x∈L)/\(∀k,Fr k↔k=C.X\/k=C.m\/∃x∈L,x.2.1=k)/\(∀k,Fr k->F k)/\C.X≠C.m/\∀x∈L,x.2.1≠C.X
theorem Qx (C:Cx) (ρ:Rx) (tl:Value) (T:Tt):Zq (SeR C ρ tl T):=by
 refine ⟨?_,?_⟩
 ·rintro w F Fr ⟨L,hS,hT,hpn,he,hF,hne,hx⟩ k hk;refine ⟨hF k hk,?_⟩
  rcases (he k).1 hk with rfl | rfl | ⟨x,hx,rfl⟩
  ·exact hS.lt
  ·obtain ⟨c,hc⟩:=hT.mp;exact (Array.getElem?_eq_some_iff.1 hc).1
  ·exact lt_of_block (hT.room x hx)
 ·rintro w w' F F' Fr ⟨L,hS,hT,hpn,he,hF,hne,hx⟩ hl hF' hk;have e1:=hk C.X ((he _).2 (Or.inl rfl));have e2:=hk C.m ((he _).2 (Or.inr (Or.inl rfl)));have e3:=fun x hx=>hk x ((he x).2 (Or.inr (Or.inr hx)));refine ⟨L,hS.same e1,⟨by rw [e2]; exact hT.mp,hT.keys,hT.blks,fun x hx=>?_,hT.rest,hT.few,hT.apart⟩,hpn,he,hF',hne,hx⟩;unfold Rm;rw [e3 x.2.1 ⟨x,hx,rfl⟩];exact hT.room x hx
structure Tlr where
 tv:Value
 stop:Bool
 cap:Nat
 tl:List (Nat×Rs)->Rsc
structure Zas (C:Cx) (τ:Tlr):Prop where
 ok :∀out,Zq (τ.tl out)
 yl :∃l,τ.tv = .func (.yield l) #[] #[]/\∀(w:World) (F Fr:Bs2) (out:List (Nat×Rs)) (q:Nat) (gv:Value) (gs:Rs),Fb w F->τ.tl out w F Fr->SpI w F gv gs->gs.length=C.G->q<=C.u.size->out.length < τ.cap->
  YieldAt Fence.wide 0 Tryz.prog l #[.agg #[.int .i64 (q:Int),gv]] w fun e w'=>e = .returned (.bool (!τ.stop))/\∃F' Fr',τ.tl (out ++ [(q,gs)]) w' F' Fr'/\Trn w F Fr w' F' Fr'
def Run (C:Cx) (ρ:Rx) (ats:List Rsc) (τ:Tlr) (T:Tt) (out:List (Nat×Rs)):Rsc:=Zp (SeR C ρ τ.tv T :: τ.tl out :: ats)
theorem ZdN {C:Cx} {τ:Tlr} (hτ:Zas C τ) {ats:List Rsc} (ha :∀R∈ats,Zq R) (ρ:Rx) (T:Tt) (out:List (Nat×Rs)):Zq (Run C ρ ats τ T out):=by
 refine ZR ?_;intro R hR
 rcases List.mem_cons.1 hR with rfl | hR
 ·exact Qx _ _ _ _
 ·rcases List.mem_cons.1 hR with rfl | hR
  ·exact hτ.ok out
  ·exact ha R hR
structure Bo where
 j0:Nat
 W0:Wt
 js:List (Nat×(Nat->Nat->Wt))
def Bo.has (b:Bo) (j:Nat):Prop:=j=b.j0\/∃x∈b.js,x.1=j
def ClJ (N:Nat) (x:Nat×(Nat->Nat->Wt)) (T:Tt) (V:Vs):Prop :=∀n p,p<=N->T x.1 n p≠0->∀y∈x.2 n (T x.1 n p) p,V y.1=true
def ClB (N:Nat) (j:Nat) (W:Wt) (T:Tt) (V:Vs):Prop :=∀p,p<=N->(T j 0 p≠0->∀y∈W p,V y.1=true)/\(T j 0 p=0->∀y∈W p,V y.1=false)
def Cls (N:Nat) (b:Bo) (T:Tt) (V:Vs):Prop:=ClB N b.j0 b.W0 T V/\∀x∈b.js,ClJ N x T V
def Pre (N:Nat) (W:Wt) (T:Tt) (V:Vs) (p:Nat):Option Bo->Prop
 | none =>∀y∈W p,V y.1=false
 | some b=>Cls N b T V
def Pst (N:Nat) (T T':Tt) (V:Vs):Option Bo->Prop
 | none=>T'=T
 | some b=>Cls N b T' V/\∀j,¬ b.has j->T' j=T j
theorem Pst.refl {N:Nat} {W:Wt} {T:Tt} {V:Vs} {p:Nat} {B:Option Bo} (h:Pre N W T V p B):Pst N T T V B:=by
 cases B with
 | none=>rfl
 | some b=>exact ⟨h,fun _ _=>rfl⟩
def QT (C:Cx) (ρ:Rx) (ats:List Rsc) (τ:Tlr) (T:Tt) (V:Vs) (out:List (Nat×Rs)) (L:Wn) (gs:Rs) (B:Option Bo) (w:World) (F Fr:Bs2) (e:Ending) (w':World):Prop :=
 e = .returned (.bool (JB τ.stop V L))/\∃T' F' Fr',Run C ρ ats τ T' (out ++ Zae τ.stop V L gs) w' F' Fr'/\Trn w F Fr w' F' Fr'/\Pst C.u.size T T' (QR τ.stop V L) B
def Qe (C:Cx) (w:World) (F:Bs2) (fv:Value) (W:Wt) (B:Option Bo) (mine:List Rsc):Prop :=
 ∃ (fn:Nat) (cap:Array Value),fv = .func (.func fn) #[] cap/\(∀(args:Array Value) (w:World),(callFunc fn args).run Tryz.prog w = .ok (.enter fn args) w)/\
   ∀ (w':World) (F':Bs2),Lat w F w' F'->Fb w' F'->∀(ρ:Rx) (ats:List Rsc) (τ:Tlr) (T:Tt) (V:Vs) (out:List (Nat×Rs)) (Fr:Bs2) (p:Nat) (gv:Value) (gs:Rs),
     (∀R∈ats,Zq R)->(∀R∈mine,R∈ats)->Zas C τ->Run C ρ ats τ T out w' F' Fr->SpI w' F' gv gs->gs.length=C.G->p<=C.u.size->Pre C.u.size W T V p B->out.length + tln τ.stop V (W p)<=τ.cap->
     Calls Tryz.prog fn (#[.int .i64 (p:Int),gv] ++ cap) w' (QT C ρ ats τ T V out (W p) gs B w' F' Fr)
theorem Qe.later {C:Cx} {w w':World} {F F':Bs2} {fv:Value} {W:Wt} {B:Option Bo} {mine:List Rsc} (h:Qe C w F fv W B mine) (l:Lat w F w' F'):Qe C w' F' fv W B mine:=by
 obtain ⟨fn,cap,h1,h2,h3⟩:=h;exact ⟨fn,cap,h1,h2,fun w2 F2 l2=>h3 w2 F2 (l.trans l2)⟩
theorem Qe.form {C:Cx} {w:World} {F:Bs2} {fv:Value} {W:Wt} {B:Option Bo} {mine:List Rsc} (h:Qe C w F fv W B mine) :∃(fn:Nat) (cap:Array Value),fv = .func (.func fn) #[] cap:=by
 obtain ⟨fn,cap,h1,h2,h3⟩:=h;exact ⟨fn,cap,h1⟩
theorem Qe.mine {C:Cx} {w:World} {F:Bs2} {fv:Value} {W:Wt} {B:Option Bo} {mine mine':List Rsc} (h:Qe C w F fv W B mine) (hm :∀R∈mine,R∈mine'):Qe C w F fv W B mine':=by
 obtain ⟨fn,cap,h1,h2,h3⟩:=h;exact ⟨fn,cap,h1,h2,fun w2 F2 l2 hb2 ρ ats τ T V out Fr p gv gs ha hm'=>h3 w2 F2 l2 hb2 ρ ats τ T V out Fr p gv gs ha (fun R hR=>hm' R (hm R hR))⟩
theorem Qe.alk {C:Cx} {w:World} {F:Bs2} {fv:Value} {W W':Wt} {b:Bo} {mine:List Rsc} (h:Qe C w F fv W (some b) mine) (hW :∀p,p<=C.u.size->Alk (W p) (W' p)):Qe C w F fv W' (some b) mine:=by
 obtain ⟨fn,cap,h1,h2,h3⟩:=h;refine ⟨fn,cap,h1,h2,fun w2 F2 l2 hb2 ρ ats τ T V out Fr p gv gs ha hm hτ hR hg hl hp hP hn=>?_⟩;refine (h3 w2 F2 l2 hb2 ρ ats τ T V out Fr p gv gs ha hm hτ hR hg hl hp hP (by rw [Zkl (hW p hp)]; exact hn)).mono ?_;rintro e w' ⟨rfl,T',F',Fr',g1,g2,g3⟩;refine ⟨by rw [Ze2 (hW p hp)],T',F',Fr',?_,g2,?_⟩
 ·rw [ZhQ (hW p hp)] at g1; exact g1
 ·rw [ZfE (hW p hp)] at g3; exact g3
theorem Qe.congr {C:Cx} {w:World} {F:Bs2} {fv:Value} {W W':Wt} {B:Option Bo} {mine:List Rsc} (h:Qe C w F fv W B mine) (hW :∀p,p<=C.u.size->W p=W' p):Qe C w F fv W' B mine:=by
 obtain ⟨fn,cap,h1,h2,h3⟩:=h;refine ⟨fn,cap,h1,h2,fun w2 F2 l2 hb2 ρ ats τ T V out Fr p gv gs ha hm hτ hR hg hl hp hP hn=>?_⟩;have e:=hW p hp;have hP':Pre C.u.size W T V p B:=by
  cases B with
  | none=>show∀y∈W p,_; rw [e]; exact hP
  | some b=>exact hP
 have:=h3 w2 F2 l2 hb2 ρ ats τ T V out Fr p gv gs ha hm hτ hR hg hl hp hP' (by rw [e]; exact hn)
 rw [e] at this;exact this
structure Bo.le (b c:Bo):Prop where
 j0:c.j0=b.j0
 W0:c.W0=b.W0
 js :∀x∈b.js,x∈c.js
 new :∀x∈c.js,x∈b.js\/¬ b.has x.1
theorem ClJ.mono {N:Nat} {x:Nat×(Nat->Nat->Wt)} {T T':Tt} {V V':Vs} (h:ClJ N x T V) (hT:T' x.1=T x.1) (hV :∀y,V y=true->V' y=true):ClJ N x T' V':=by
 intro n p hp hne y hy;rw [hT] at hne hy;exact hV _ (h n p hp hne y hy)
theorem Qe.wide {C:Cx} {w:World} {F:Bs2} {fv:Value} {W:Wt} {b c:Bo} {mine:List Rsc} (h:Qe C w F fv W (some b) mine) (hb:b.le c):Qe C w F fv W (some c) mine:=by
 obtain ⟨fn,cap,h1,h2,h3⟩:=h;refine ⟨fn,cap,h1,h2,fun w2 F2 l2 hb2 ρ ats τ T V out Fr p gv gs ha hm hτ hR hg hl hp hP hn=>?_⟩;obtain ⟨q1,q2⟩:Cls C.u.size c T V:=hP;rw [hb.j0,hb.W0] at q1;refine (h3 w2 F2 l2 hb2 ρ ats τ T V out Fr p gv gs ha hm hτ hR hg hl hp ⟨q1,fun x hx=>q2 x (hb.js x hx)⟩ hn).mono ?_;rintro e w' ⟨rfl,T',F',Fr',g1,g2,⟨g3,g4⟩,g5⟩;refine ⟨rfl,T',F',Fr',g1,g2,⟨by rw [hb.j0,hb.W0]; exact g3,fun x hx=>?_⟩,fun j hj=>g5 j ?_⟩
 ·rcases hb.new x hx with h | h
  ·exact g4 x h
  ·exact (q2 x hx).mono (g5 _ h) (fun y hy=>ZdM _ _ _ _ hy)
 ·rintro (h | ⟨x,hx,h⟩)
  ·exact hj (Or.inl (by rw [hb.j0]; exact h))
  ·exact hj (Or.inr ⟨x,hb.js x hx,h⟩)
end Go.Proofs.YtfkflljplohhcaaGreatDoor
namespace Go.Proofs.YtfkflljplohhcaaGreatDoor
set_option linter.unusedVariables false
def Qy (j:Nat) (W:Wt):Option Bo->Bo
 | none=>⟨j,W,[]⟩
 | some b=>⟨b.j0,b.W0,(j,fun _ _=>W) :: b.js⟩
def Inj (N:Nat) (W:Wt):Prop :=∀p q,p<=N->q<=N->∀y∈W p,∀z∈W q,y.1=z.1->p=q
def Nw (j:Nat) (B:Option Bo):Prop :=∀b,B=some b->¬ b.has j
theorem Zck {N:Nat} {b:Bo} {T:Tt} {V:Vs} {j n p r:Nat} (h:Cls N b T V) (hj:¬ b.has j):Cls N b (ZaM T j n p r) V:=by
 refine ⟨?_,fun x hx=>(h.2 x hx).mono (Qj T (fun e=>hj (Or.inr ⟨x,hx,e⟩))) (fun _ h=>h)⟩;intro q hq;rw [Qj T (fun e=>hj (Or.inl e.symm))];exact h.1 q hq
theorem Zk5 {N j p:Nat} {W:Wt} {B:Option Bo} {T:Tt} {V:Vs} (h:Cls N (Qy j W B) T V) (hp:p<=N) (hT:T j 0 p≠0) :∀y∈W p,V y.1=true:=by
 cases B with
 | none=>exact (h.1 p hp).1 hT
 | some b=>exact h.2 (j,fun _ _=>W) (by simp [Qy]) 0 p hp hT
theorem ZqC {N j p:Nat} {W:Wt} {B:Option Bo} {T:Tt} {V:Vs} (h:Cls N (Qy j W B) T V) (hp:p<=N) (hT:T j 0 p=0) (hj:Nw j B):Pre N W (ZaM T j 0 p 1) V p B:=by
 cases B with
 | none=>exact (h.1 p hp).2 hT
 | some b=>exact Zck ⟨h.1,fun x hx=>h.2 x (by simp [Qy,hx])⟩ (hj b rfl)
theorem ZnV {N j p:Nat} {W:Wt} {B:Option Bo} {T T':Tt} {V:Vs} {stop:Bool} (h:Cls N (Qy j W B) T V) (hp:p<=N) (hT:T j 0 p=0) (hj:Nw j B) (hi:B=none->Inj N W)
  (hP:Pst N (ZaM T j 0 p 1) T' (QR stop V (W p)) B) :
  Pst N T (if JB stop V (W p) then T' else ZaM T' j 0 p 0) (QR stop V (W p)) (some (Qy j W B)):=by
 cases B with
 | none =>
   obtain rfl:T'=ZaM T j 0 p 1:=hP
   cases hc:JB stop V (W p) with
   | true =>
     rw [Z8 hc,if_pos rfl];refine ⟨⟨fun q hq=>⟨fun h1=>?_,fun h1=>?_⟩,fun x hx=>by simp [Qy] at hx⟩,fun a ha=>Qj T (fun e=>ha (Or.inl e))⟩
     ·by_cases hq2:q=p
      ·subst hq2; exact fun y hy=>Zax hy
      ·have e:ZaM T j 0 p 1 j 0 q=T j 0 q:=Z1 T (by simp [hq2]);have h1':ZaM T j 0 p 1 j 0 q≠0:=h1;rw [e] at h1';exact fun y hy=>Zaw _ _ _ ((h.1 q hq).1 h1' y hy)
     ·have hq2:q≠p:=by
       rintro rfl;have h1':ZaM T j 0 q 1 j 0 q=0:=h1;rw [Zag] at h1';omega
      have h1':ZaM T j 0 p 1 j 0 q=0:=h1;rw [Z1 T (by simp [hq2])] at h1';intro y hy;have h2:=(h.1 q hq).2 h1' y hy
      cases hs:sal V (W p) y.1 with
      | false=>rfl
      | true =>
        rcases ZeB.1 hs with h3 | ⟨z,hz,he⟩
        ·rw [h2] at h3; simp at h3
        ·exact absurd (hi rfl q p hq hp y hy z hz he.symm) hq2
   | false =>
     rw [QB hc];simp only [Bool.false_eq_true,if_false];have e:ZaM (ZaM T j 0 p 1) j 0 p 0=T:=by
      funext a b c
      unfold ZaM
      by_cases hh:a=j/\b=0/\c=p
      ·obtain ⟨rfl,rfl,rfl⟩:=hh; simp [hT]
      ·simp [hh]
     rw [e];exact ⟨h,fun _ _=>rfl⟩
 | some b =>
   obtain ⟨g1,g2⟩:=hP;have hjb:=hj b rfl;have gj:T' j=ZaM T j 0 p 1 j:=g2 j hjb;have hou :∀a,¬ (Qy j W (some b)).has a->¬ b.has a/\a≠j:=by
    intro a ha;refine ⟨fun h2=>ha (h2.imp id (fun ⟨x,hx,e⟩=>⟨x,by simp [Qy,hx],e⟩)),fun e=>ha (Or.inr ⟨_,by simp [Qy]; exact Or.inl rfl,e.symm⟩)⟩
   cases hc:JB stop V (W p) with
   | true =>
     rw [if_pos rfl];rw [Z8 hc] at g1 ⊢;refine ⟨⟨g1.1,fun x hx=>?_⟩,fun a ha=>?_⟩
     ·rcases List.mem_cons.1 hx with rfl | hx
      ·intro n q hq hne y hy;simp only at hne hy
       by_cases hh:n=0/\q=p
       ·obtain ⟨rfl,rfl⟩:=hh; exact Zax hy
       ·rw [gj,Z1 T (by simp; intro h1 h2; exact hh ⟨h1,h2⟩)] at hne;exact Zaw _ _ _ (h.2 (j,fun _ _=>W) (by simp [Qy]) n q hq hne y hy)
      ·exact g1.2 x hx
     ·obtain ⟨h1,h2⟩:=hou a ha;rw [g2 a h1,Qj T h2]
   | false =>
     simp only [Bool.false_eq_true,if_false];rw [QB hc] at g1 ⊢;have hTj:ZaM T' j 0 p 0 j=T j:=by
      funext n q
      by_cases hh:n=0/\q=p
      ·obtain ⟨rfl,rfl⟩:=hh; rw [Zag,hT]
      ·rw [Z1 T' (by simp; intro h1 h2; exact hh ⟨h1,h2⟩),gj,Z1 T (by simp; intro h1 h2; exact hh ⟨h1,h2⟩)]
     have g3:Cls N b (ZaM T' j 0 p 0) V:=Zck g1 hjb;refine ⟨⟨g3.1,fun x hx=>?_⟩,fun a ha=>?_⟩
     ·rcases List.mem_cons.1 hx with rfl | hx
      ·exact (h.2 (j,fun _ _=>W) (by simp [Qy])).mono hTj (fun _ h=>h)
      ·exact g3.2 x hx
     ·obtain ⟨h1,h2⟩:=hou a ha;rw [Qj T' h2,g2 a h1,Qj T h2]
def dOf (r:Rp) (n rm:Nat):Nat:=if 0 < n then r.least - n else match r.most with | none=>r.least | some m=>max r.least (m + 1 - rm)
def jwR (N:Nat) (X:Xs) (r:Rp) (W:Wt) (n rm:Nat):Wt:=fun p=>bn (wg N X r (dOf r n rm) p) W
theorem ZpT {L M:En} {W:Wt} (h :∀e∈L,∃f∈M,f.1=e.1) :∀y∈bn L W,∃z∈bn M W,z.1=y.1:=by
 intro y hy;unfold bn at hy;rw [List.mem_flatMap] at hy;obtain ⟨e,he,hy⟩:=hy;obtain ⟨f,hf,hfe⟩:=h e he;unfold pr at hy;rw [List.mem_map] at hy;obtain ⟨x,hx,rfl⟩:=hy;refine ⟨(x.1,fun g=>x.2 (ap f.2 g)),?_,rfl⟩;unfold bn;rw [List.mem_flatMap];refine ⟨f,hf,?_⟩;unfold pr;rw [List.mem_map,hfe];exact ⟨x,hx,rfl⟩
theorem Ziu {N:Nat} {X:Xs} (hX:Rng N X) (r:Rp) (hm :∀m,r.most=some m->r.least<=m) {d:Nat} (hd :∀m,r.most=some m->d<=m) (p:Nat):wg N X r (dOf r (r.need d) (r.room d)) p=wg N X r d p:=by
 unfold dOf Rp.need Rp.room
 by_cases h:d < r.least
 ·rw [if_pos (by omega)]
  congr 1
  omega
 ·rw [if_neg (by omega)]
  cases hmm:r.most with
  | none =>
    simp only;unfold wg;have e:wgN N r r.least p=wgN N r d p:=by unfold wgN; omega
    rw [e];exact Zkf hX r hmm _ _ _ p (Nat.le_refl _) (by omega)
  | some m =>
    have:=hd m hmm
    have:=hm m hmm
    simp only
    congr 1
    omega
theorem Ziv {N:Nat} {X:Xs} (hX:Rng N X) (r:Rp) (hm :∀m,r.most=some m->r.least<=m) {d rm p:Nat} (hd :∀m,r.most=some m->d<=m) (h1:r.room d<=rm) (h0:0 < rm) :
  ∀e∈wg N X r d p,∃e'∈wg N X r (dOf r (r.need d) rm) p,e'.1=e.1:=by
 refine Zp5 hX r ?_ ?_ ?_
 ·intro m hmm
  have:=hd m hmm
  have:=hm m hmm
  refine ⟨by omega,?_,by omega⟩;unfold dOf
  split
  ·omega
  ·rw [hmm]; simp only; omega
 ·unfold dOf Rp.need
  split
  ·omega
  ·cases hmm:r.most with
   | none=>simp only; omega
   | some m=>simp only; omega
 ·unfold Rp.room at *
  cases hmm:r.most with
  | none=>simp
  | some m =>
    rw [hmm] at h1
    have:=hd m hmm
    have:=hm m hmm
    simp only at h1 ⊢;unfold dOf Rp.need;rw [hmm];simp only
    split <;> omega
def Op (r:Rp) (d p n q:Nat):Prop:=r.need d < n\/(n=r.need d/\q<=p)
def ClO (N j:Nat) (jw:Nat->Nat->Wt) (O:Nat->Nat->Prop) (T:Tt) (V:Vs):Prop :=∀n p,p<=N->¬ O n p->T j n p≠0->∀y∈jw n (T j n p) p,V y.1=true
structure ZmY (N j:Nat) (jw:Nat->Nat->Wt) (r:Rp) (b:Bo) (d p:Nat) (T:Tt) (V:Vs):Prop where
 cls:Cls N b T V
 clo:ClO N j jw (Op r d p) T V
structure Zbz (N j:Nat) (jw:Nat->Nat->Wt) (r:Rp) (b:Bo) (d p:Nat) (T T':Tt) (V':Vs):Prop where
 cls:Cls N b T' V'
 clo:ClO N j jw (Op r d p) T' V'
 op :∀n q,Op r d p n q->T' j n q=T j n q
 rest :∀a,a≠j->¬ b.has a->T' a=T a
theorem ZmY.refl {N j:Nat} {jw:Nat->Nat->Wt} {r:Rp} {b:Bo} {d p:Nat} {T:Tt} {V:Vs} (h:ZmY N j jw r b d p T V):Zbz N j jw r b d p T T V:=⟨h.cls,h.clo,fun _ _ _=>rfl,fun _ _ _=>rfl⟩
theorem Zbz.inn {N j:Nat} {jw:Nat->Nat->Wt} {r:Rp} {b:Bo} {d p:Nat} {T T':Tt} {V:Vs} (h:Zbz N j jw r b d p T T' V):ZmY N j jw r b d p T' V:=⟨h.cls,h.clo⟩
theorem Zbz.trans {N j:Nat} {jw:Nat->Nat->Wt} {r:Rp} {b:Bo} {d p:Nat} {T T1 T2:Tt} {V V2:Vs} (h:Zbz N j jw r b d p T T1 V) (h2:Zbz N j jw r b d p T1 T2 V2):Zbz N j jw r b d p T T2 V2 :=
 ⟨h2.cls,h2.clo,fun n q hh=>(h2.op n q hh).trans (h.op n q hh),fun a ha hb=>(h2.rest a ha hb).trans (h.rest a ha hb)⟩
theorem Zql {N j:Nat} {jw:Nat->Nat->Wt} {r:Rp} {b:Bo} {d p:Nat} {T T':Tt} {V V':Vs} (h:ZmY N j jw r b d p T V) (hj:¬ b.has j) (hV :∀y,V y=true->V' y=true) (hP:Pst N T T' V' (some b)):Zbz N j jw r b d p T T' V':=by
 have hT:T' j=T j:=hP.2 j hj;refine ⟨hP.1,fun n q hq hO hne y hy=>?_,fun n q _=>by rw [hT],fun a _ hb=>hP.2 a hb⟩;rw [hT] at hne hy;exact hV _ (h.clo n q hq hO hne y hy)
theorem Zk1 {r:Rp} {d p q:Nat} (hq:p<=q) (hc:d < r.least\/p < q):¬ Op r d p (r.need (d + 1)) q:=by
 unfold Op Rp.need;omega
theorem ZgT {r:Rp} {d p q n x:Nat} (hq:p<=q) (h:Op r d p n x):Op r (d + 1) q n x:=by
 unfold Op Rp.need at *;omega
theorem Zqk {N:Nat} {X:Xs} (hX:Rng N X) {r:Rp} (hm :∀m,r.most=some m->r.least<=m) {j d p q:Nat} {b:Bo} {T:Tt} {V:Vs} {W:Wt} (h:ZmY N j (jwR N X r W) r b d p T V) (hq:p<=q) (hqN:q<=N) (hc:d < r.least\/p < q) (hd :∀m,r.most=some m->d + 1<=m) (hrm:0 < r.room (d + 1))
  (hT:r.room (d + 1)<=T j (r.need (d + 1)) q) :∀y∈bn (wg N X r (d + 1) q) W,V y.1=true:=by
 intro y hy;obtain ⟨z,hz,he⟩:=ZpT (W:=W) (Ziv hX r hm hd hT (by omega)) y hy;rw [<- he];exact h.clo (r.need (d + 1)) q hqN (Zk1 hq hc) (by omega) z hz
theorem ZsX {N:Nat} {X:Xs} {r:Rp} {j d p q:Nat} {b:Bo} {T:Tt} {V:Vs} {W:Wt} (h:ZmY N j (jwR N X r W) r b d p T V) (hj:¬ b.has j) (hq:p<=q) :
  ZmY N j (jwR N X r W) r b (d + 1) q (ZaM T j (r.need (d + 1)) q (r.room (d + 1))) V:=by
 refine ⟨Zck h.cls hj,fun n x hx hO hne y hy=>?_⟩;have hne2:¬ (n=r.need (d + 1)/\x=q):=by
  rintro ⟨rfl,rfl⟩;exact hO (Or.inr ⟨rfl,Nat.le_refl _⟩)
 rw [Z1 T (by simp; intro h1 h2; exact hne2 ⟨h1,h2⟩)] at hne hy;exact h.clo n x hx (fun h2=>hO (ZgT hq h2)) hne y hy
theorem ZrO {N:Nat} {X:Xs} (hX:Rng N X) {r:Rp} (hm :∀m,r.most=some m->r.least<=m) {j d p q:Nat} {b:Bo} {T T':Tt} {V:Vs} {W:Wt} {stop:Bool} (h:ZmY N j (jwR N X r W) r b d p T V) (hj:¬ b.has j) (hq:p<=q) (hqN:q<=N) (hc:d < r.least\/p < q) (hd :∀m,r.most=some m->d + 1<=m)
  (hP:Zbz N j (jwR N X r W) r b (d + 1) q (ZaM T j (r.need (d + 1)) q (r.room (d + 1))) T' (QR stop V (bn (wg N X r (d + 1) q) W))) :
  Zbz N j (jwR N X r W) r b d p T (if JB stop V (bn (wg N X r (d + 1) q) W) then T' else ZaM T' j (r.need (d + 1)) q (T j (r.need (d + 1)) q)) (QR stop V (bn (wg N X r (d + 1) q) W)):=by
 obtain ⟨g1,g2,g3,g4⟩:=hP;have hT :∀n x,Op r (d + 1) q n x->¬ (n=r.need (d + 1)/\x=q)->T' j n x=T j n x:=by
  intro n x hO hne;rw [g3 n x hO,Z1 T (by simp; intro h1 h2; exact hne ⟨h1,h2⟩)]
 have hT2:T' j (r.need (d + 1)) q=r.room (d + 1):=by
  rw [g3 _ _ (Or.inr ⟨rfl,Nat.le_refl _⟩),Zag]
 cases hcc:JB stop V (bn (wg N X r (d + 1) q) W) with
 | true =>
   rw [if_pos rfl];rw [Z8 hcc] at g1 g2 ⊢;refine ⟨g1,fun n x hx hO hne y hy=>?_,fun n x hO=>?_,fun a ha hb=>?_⟩
   ·by_cases hO2:Op r (d + 1) q n x
    ·by_cases hh:n=r.need (d + 1)/\x=q
     ·obtain ⟨rfl,rfl⟩:=hh;rw [hT2] at hy;unfold jwR at hy;rw [Ziu hX r hm hd] at hy;exact Zax hy
     ·rw [hT n x hO2 hh] at hne hy;exact Zaw _ _ _ (h.clo n x hx hO hne y hy)
    ·exact g2 n x hx hO2 hne y hy
   ·have hne:¬ (n=r.need (d + 1)/\x=q):=by
     rintro ⟨rfl,rfl⟩;exact Zk1 hq hc hO
    exact hT n x (ZgT hq hO) hne
   ·rw [g4 a ha hb,Qj T ha]
 | false =>
   simp only [Bool.false_eq_true,if_false];rw [QB hcc] at g1 g2 ⊢;refine ⟨Zck g1 hj,fun n x hx hO hne y hy=>?_,fun n x hO=>?_,fun a ha hb=>?_⟩
   ·by_cases hh:n=r.need (d + 1)/\x=q
    ·obtain ⟨rfl,rfl⟩:=hh;rw [Zag] at hne hy;exact h.clo _ _ hx hO hne y hy
    ·rw [Z1 T' (by simp; intro h1 h2; exact hh ⟨h1,h2⟩)] at hne hy
     by_cases hO2:Op r (d + 1) q n x
     ·rw [hT n x hO2 hh] at hne hy;exact h.clo n x hx hO hne y hy
     ·exact g2 n x hx hO2 hne y hy
   ·have hne:¬ (n=r.need (d + 1)/\x=q):=by
     rintro ⟨rfl,rfl⟩;exact Zk1 hq hc hO
    rw [Z1 T' (by simp; intro h1 h2; exact hne ⟨h1,h2⟩)];exact hT n x (ZgT hq hO) hne
   ·rw [Qj T' ha,g4 a ha hb,Qj T ha]
end Go.Proofs.YtfkflljplohhcaaGreatDoor
namespace Go.Proofs.YtfkflljplohhcaaGreatDoor
open Go.RowKit
set_option linter.unusedVariables false
def ZdB (j n:Nat):Value:=.agg #[.int .i64 ((j:Nat):Int),.int .i64 ((n:Nat):Int)]
structure ZcA (P:Program) (mt kt et:TypeId):Prop where
 map:P.underlying mt=some (.map kt et)
 key :∃fs,P.underlying kt=some (.struct fs)
 eq :∀(a b c d:Nat) (w:World),(Op.equal kt (ZdB a b) (ZdB c d)).run P w = .ok (a == c && b == d) w
 check :∀(e:Bool) (a b:Nat) (w:World),(Instr.checkKey e 10000 kt (ZdB a b)).run P w = .ok () w
 zero :∀w:World,(zeroValue et).run P w = .ok (.pointer none) w
theorem Zkz {P:Program} {w:World} {r:Nat} {es:Array MapEntry} {clock:Nat} (o:Obj) (h:w.heap[r]? = some (.map es clock)):(setObj r o).run P w = .ok () (w.putObj r o):=by simp [setObj,Sem.run,h,World.putObj]
theorem ZeX {P:Program} {w:World} {r:Nat} {es:Array MapEntry} {clock:Nat} (h:w.heap[r]? = some (.map es clock)):(getObj r).run P w = .ok (.map es clock) w:=by simp [getObj,Sem.run,h]
section
variable {P:Program} {mt kt et:TypeId}
theorem Zdv (h:ZcA P mt kt et) {j n:Nat} (w:World) :∀(L:List Et) (i:Nat),(∀x∈L,x.1≠(j,n))->(Instr.findAsking kt (ZdB j n) (L.map J0) i).run P w = .ok none w:=by
 intro L
 induction L with
 | nil=>intro i _; simp [Instr.findAsking]
 | cons x L ih =>
   intro i hx;have hne:=hx x (by simp);have he:(Op.equal kt (ZdB j n) (J0 x).key).run P w = .ok false w:=by
    have:=h.eq j n x.1.1 x.1.2 w
    rw [show (J0 x).key=ZdB x.1.1 x.1.2 from rfl,this]
    congr 1
    have:¬ (j=x.1.1/\n=x.1.2):=fun ⟨h1,h2⟩=>hne (by rw [h1,h2])
    simpa using this
   simp only [List.map_cons,Instr.findAsking,Sem.run_bind,he,Result.andThen_ok,Bool.false_eq_true,if_false];exact ih (i + 1) (fun y hy=>hx y (by simp [hy]))
theorem ZjX (h:ZcA P mt kt et) {j n:Nat} (w:World) :∀(L:List Et) (i:Nat) (x:Et),(L.map (·.1)).Nodup->x∈L->x.1=(j,n)->∃k,(Instr.findAsking kt (ZdB j n) (L.map J0) i).run P w = .ok (some (k,.pointer (some ⟨x.2.1,0,none⟩))) w:=by
 intro L
 induction L with
 | nil=>intro i x _ hx; simp at hx
 | cons y L ih =>
   intro i x hn hx hk;simp only [List.map_cons,List.nodup_cons] at hn
   by_cases hy:y.1=(j,n)
   ·have hxy:x=y:=by
     rcases List.mem_cons.1 hx with rfl | hx
     ·rfl
     ·exact absurd (List.mem_map.2 ⟨x,hx,by rw [hk,hy]⟩) hn.1
    subst hxy;have he:(Op.equal kt (ZdB j n) (J0 x).key).run P w = .ok true w:=by
     have:=h.eq j n x.1.1 x.1.2 w
     rw [show (J0 x).key=ZdB x.1.1 x.1.2 from rfl,this,hy];simp
    refine ⟨i,?_⟩;simp only [List.map_cons,Instr.findAsking,Sem.run_bind,he,Result.andThen_ok,if_true,Sem.run_pure];rfl
   ·have he:(Op.equal kt (ZdB j n) (J0 y).key).run P w = .ok false w:=by
     have:=h.eq j n y.1.1 y.1.2 w
     rw [show (J0 y).key=ZdB y.1.1 y.1.2 from rfl,this]
     congr 1
     have:¬ (j=y.1.1/\n=y.1.2):=fun ⟨h1,h2⟩=>hy (by rw [h1,h2])
     simpa using this
    rcases List.mem_cons.1 hx with rfl | hx
    ·exact absurd hk hy
    ·obtain ⟨k,hk2⟩:=ih (i + 1) x hn.2 hx hk;refine ⟨k,?_⟩;simp only [List.map_cons,Instr.findAsking,Sem.run_bind,he,Result.andThen_ok,Bool.false_eq_true,if_false];exact hk2
theorem ZeY (h:ZcA P mt kt et) {j n:Nat} (w:World) (L:List Et):(Instr.findKey kt (ZdB j n) (L.map J0)).run P w=(Instr.findAsking kt (ZdB j n) (L.map J0) 0).run P w:=by
 obtain ⟨fs,hfs⟩:=h.key;unfold Instr.findKey;simp only [Sem.run_bind,run_underlying hfs,Result.andThen_ok]
 cases L with
 | nil=>simp [Instr.findNow,Instr.findAsking]
 | cons x L=>simp [Instr.findNow,Instr.sameNow,J0,ZdB]
theorem Zg3 (h:ZcA P mt kt et) {w:World} {m clock j n:Nat} {L:List Et} (hm:w.heap[m]? = some (.map (L.map J0).toArray clock)) (hx :∀x∈L,x.1≠(j,n)) :
  (Instr.lookup mt (.map (some m)) (ZdB j n) false).run P w = .ok (.pointer none) w:=by
 unfold Instr.lookup;simp only [Sem.run_bind,run_underlying h.map,Result.andThen_ok,ZeX hm,h.check,ZeY h,Zdv h w L 0 hx,h.zero,Sem.run_pure,Bool.false_eq_true,if_false]
theorem Zjl (h:ZcA P mt kt et) {w:World} {m clock j n:Nat} {L:List Et} (hm:w.heap[m]? = some (.map (L.map J0).toArray clock)) (hn:(L.map (·.1)).Nodup) {x:Et} (hx:x∈L) (hk:x.1=(j,n)) :
  (Instr.lookup mt (.map (some m)) (ZdB j n) false).run P w = .ok (.pointer (some ⟨x.2.1,0,none⟩)) w:=by
 obtain ⟨k,hk2⟩:=ZjX h w L 0 x hn hx hk;unfold Instr.lookup;simp only [Sem.run_bind,run_underlying h.map,Result.andThen_ok,ZeX hm,h.check,ZeY h,hk2,Sem.run_pure,Bool.false_eq_true,if_false]
theorem Zgy (h:ZcA P mt kt et) {w:World} {m clock j n r:Nat} {L:List Et} (hm:w.heap[m]? = some (.map (L.map J0).toArray clock)) (hx :∀x∈L,x.1≠(j,n)) :
  (Instr.mapUpdate mt (.map (some m)) (ZdB j n) (.pointer (some ⟨r,0,none⟩))).run P w = .ok () (w.putObj m (.map ((L ++ [((j,n),r,clock)]).map J0).toArray (clock + 1))):=by
 unfold Instr.mapUpdate;simp only [Sem.run_bind,run_underlying h.map,Result.andThen_ok,ZeX hm,h.check,ZeY h,Zdv h w L 0 hx];rw [Zkz _ hm]
 congr 2
 simp [J0,ZdB]
theorem Zml (t:TypeId) (h:ZcA P mt kt et) {w:World} {m clock:Nat} {es:Array MapEntry} (hm:w.heap[m]? = some (.map es clock)) :
  (Builtin.clear_ #[mt] t #[.map (some m)]).run P w = .ok (.tuple #[]) (w.putObj m (.map #[] clock)):=by
 unfold Builtin.clear_;simp only [Sem.run_bind,run_underlying h.map,Result.andThen_ok,ZeX hm,List.getElem?_toArray,List.getElem?_cons_zero,Zkz _ hm,Sem.run_pure]
end
theorem ZeH {w:World} {m:Nat} {o:Obj} (hm:m < w.heap.size):(w.putObj m o).heap[m]? = some o:=by
 unfold World.putObj;simp [hm]
theorem Q3 {w:World} {m k:Nat} {o:Obj} (h:k≠m):(w.putObj m o).heap[k]? = w.heap[k]?:=by
 unfold World.putObj;simp [Ne.symm h]
theorem JP (w:World) (m:Nat) (o:Obj):Za (fun k=>k=m) w (w.putObj m o) :=
 ⟨rfl,rfl,rfl,by simp [World.putObj],fun k _ hk=>Q3 hk⟩
structure Apt (R Q:Rsc) (w:World) (F Fr F1 F2:Bs2):Prop where
 all :∀k,Fr k↔F1 k\/F2 k
 dis :∀k,F1 k->¬ F2 k
 one:R w F F1
 two:Q w F F2
theorem Zl {R:Rsc} {l:List Rsc} {w:World} {F Fr:Bs2}:Zp (R :: l) w F Fr↔∃F1 F2,Apt R (Zp l) w F Fr F1 F2 :=
 ⟨fun ⟨F1,F2,h1,h2,h3,h4⟩=>⟨F1,F2,h1,h2,h3,h4⟩,fun ⟨F1,F2,h⟩=>⟨F1,F2,h.all,h.dis,h.one,h.two⟩⟩
theorem Apt.upd {R R' Q:Rsc} (hR:Zq R) (hQ:Zq Q) {w w':World} {F F' Fr F1 F2 F1':Bs2} (h:Apt R Q w F Fr F1 F2) (t:Trn w F F1 w' F' F1') (h':R' w' F' F1') :
  Apt R' Q w' F' (fun k=>F1' k\/F2 k) F1' F2/\Trn w F Fr w' F' (fun k=>F1' k\/F2 k):=by
 have hs:=hQ.stays h.two t (fun k hk=>(hR.lt h.one k hk).1) (fun k hk h1=>h.dis k h1 hk);refine ⟨⟨fun k=>Iff.rfl,fun k h1 h2=>hs.2 k h2 h1,h',hs.1⟩,?_⟩;refine (t.wide (P:=F2) (fun k hk=>⟨(hQ.lt h.two k hk).1,(hQ.lt h.two k hk).2,fun h1=>h.dis k h1 hk⟩)).congr (fun k=>(h.all k).symm) (fun k=>Iff.rfl)
theorem Apt.swap {R Q:Rsc} {w:World} {F Fr F1 F2:Bs2} (h:Apt R Q w F Fr F1 F2):Apt Q R w F Fr F2 F1:=⟨fun k=>(h.all k).trans Or.comm,fun k h1 h2=>h.dis k h2 h1,h.two,h.one⟩
theorem Zb4 {A B:Rsc} {l:List Rsc} {w:World} {F Fr:Bs2} (h:Zp (A :: B :: l) w F Fr):Zp (B :: A :: l) w F Fr:=by
 obtain ⟨F1,F2,e1,d1,hA,F3,F4,e2,d2,hB,hl⟩:=h;refine ⟨F3,fun k=>F1 k\/F4 k,fun k=>?_,fun k hk hc=>?_,hB,F1,F4,fun k=>Iff.rfl,fun k hk hc=>d1 k hk ((e2 k).2 (Or.inr hc)),hA,hl⟩
 ·rw [e1 k,e2 k];constructor
  ·rintro (h | h | h)
   ·exact Or.inr (Or.inl h)
   ·exact Or.inl h
   ·exact Or.inr (Or.inr h)
  ·rintro (h | h | h)
   ·exact Or.inr (Or.inl h)
   ·exact Or.inl h
   ·exact Or.inr (Or.inr h)
 ·rcases hc with hc | hc
  ·exact d1 k hc ((e2 k).2 (Or.inl hk))
  ·exact d2 k hk hc
theorem ZrG {C:Cx} {τ:Tlr} (hτ:Zas C τ) {ats:List Rsc} (ha :∀R∈ats,Zq R) (out:List (Nat×Rs)):Zq (Zp (τ.tl out :: ats)) :=
 ZR (fun R hR=>(List.mem_cons.1 hR).elim (fun h=>h ▸ hτ.ok out) (ha R))
theorem Zb7 {ats:List Rsc} (ha :∀R∈ats,Zq R) (C:Cx) (ρ:Rx) (tl:Value) (T:Tt):Zq (Zp (SeR C ρ tl T :: ats)) :=
 ZR (fun R hR=>(List.mem_cons.1 hR).elim (fun h=>h ▸ Qx C ρ tl T) (ha R))
theorem Zh6 {C:Cx} {ρ:Rx} {ats:List Rsc} {τ:Tlr} {T:Tt} {out:List (Nat×Rs)} {w:World} {F Fr:Bs2} (h:Run C ρ ats τ T out w F Fr) :∃F1 F2,Apt (SeR C ρ τ.tv T) (Zp (τ.tl out :: ats)) w F Fr F1 F2:=Zl.1 h
theorem Zc1 {C:Cx} {ρ:Rx} {ats:List Rsc} {τ:Tlr} {T:Tt} {out:List (Nat×Rs)} {w:World} {F Fr F1 F2:Bs2} (h:Apt (SeR C ρ τ.tv T) (Zp (τ.tl out :: ats)) w F Fr F1 F2):Run C ρ ats τ T out w F Fr:=Zl.2 ⟨F1,F2,h⟩
theorem ZrN {C:Cx} {ρ:Rx} {ats:List Rsc} {τ:Tlr} {T:Tt} {out:List (Nat×Rs)} {w:World} {F Fr:Bs2} (h:Run C ρ ats τ T out w F Fr) :∃F1 F2,Apt (τ.tl out) (Zp (SeR C ρ τ.tv T :: ats)) w F Fr F1 F2:=Zl.1 (Zb4 h)
theorem ZkI {C:Cx} {ρ:Rx} {ats:List Rsc} {τ:Tlr} {T:Tt} {out:List (Nat×Rs)} {w:World} {F Fr F1 F2:Bs2} (h:Apt (τ.tl out) (Zp (SeR C ρ τ.tv T :: ats)) w F Fr F1 F2):Run C ρ ats τ T out w F Fr:=Zb4 (Zl.2 ⟨F1,F2,h⟩)
theorem Qq {C:Cx} {ρ:Rx} {ats:List Rsc} {τ:Tlr} {T:Tt} {out:List (Nat×Rs)} {w:World} {F Fr:Bs2} (h:Run C ρ ats τ T out w F Fr):Se w C ρ.jn ρ.bg τ.tv:=by
 obtain ⟨F1,F2,h⟩:=Zh6 h;exact h.one.choose_spec.1
theorem Qk {C:Cx} {ρ:Rx} {ats:List Rsc} {τ:Tlr} {T:Tt} {out:List (Nat×Rs)} {w w':World} {F Fr:Bs2} (hτ:Zas C τ) (ha :∀R∈ats,Zq R) (h:Run C ρ ats τ T out w F Fr) (k:Za N0_ w w') :
  Run C ρ ats τ T out w' F Fr/\Trn w F Fr w' F Fr:=by
 have hO:=ZdN hτ ha ρ T out;exact ⟨hO.frame h (Lat.ofKeeps k) (fun i hi=>(hO.lt h i hi).1) (fun i hi=>k.block i (hO.lt h i hi).2 id),Trn.ofKeeps (fun i hi=>(hO.lt h i hi).1) k⟩
theorem Zc3 {n m:Nat} {P:Program} {l:Nat} {f:FuncId} {tmps:Array Value} {assign body:Code} {w:World} {R:Ending->World->Prop} (h:RoundIn Fence.wide n P l f tmps assign body w R):RoundIn Fence.wide m P l f tmps assign body w R :=
 ⟨h.1,fun c cs _=>h.2 c cs (room_wide _)⟩
theorem Zno {stop:Bool} {V:Vs} {p:Nat} {t:Tr} (h:V p=false) (g:Rs):Zae stop V [(p,t)] g = [(p,t g)]/\JB stop V [(p,t)] = !stop/\dd V [(p,t)] = [(p,t)]:=by
 have e:dd V [(p,t)] = [(p,t)]:=by rw [Qd (by exact h)]; rfl
 refine ⟨?_,?_,e⟩
 ·unfold Zae; rw [e]; cases stop <;> simp
 ·unfold JB; rw [e]; cases stop <;> simp
end Go.Proofs.YtfkflljplohhcaaGreatDoor
