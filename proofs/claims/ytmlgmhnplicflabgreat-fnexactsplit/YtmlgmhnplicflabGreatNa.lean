import Derived.Test.YtmlgmhnplicflabGreatC
import Derived.Test.YtmlgmhnplicflabGreatA
import Derived.Deep.RegionWith
namespace Go.Proofs.YtmlgmhnplicflabGreat
open Go.RowKit
set_option linter.unusedVariables false
theorem row_at {w:World} {base:Nat} {e:TypeId} {size:Nat} {v:Value} {n:Nat} {xs:List Value} (h:w.ownsRow base e size v n xs) (hn:0 < n) :∃g cap,v = .slice (some ⟨g,0,none⟩) n cap∧(∀j,j < n * size→w.cell? ⟨g,j,none⟩=xs[j]?)∧(∀j,w.frozen? ⟨g,j,none⟩=false)∧g < w.heap.size∧base≤g:=by
 obtain ⟨m,rfl⟩ :∃m,n=m + 1:=⟨n - 1,by omega⟩
 obtain ⟨g,cap,rfl,h1,h2⟩:=own_some h
 exact ⟨g,cap,rfl,fun j hj=>h.cellAt j hj,fun j=>h.frozenAt j,h2,h1⟩
theorem flatR_at2 (l:List (Int×Int)) (j:Nat) (h:j < l.length):(flatR l)[j * 2]? = some (.int .i64 (l.getD j (0,0)).1)∧(flatR l)[j * 2 + 1]? = some (.int .i64 (l.getD j (0,0)).2):=by
 induction l generalizing j with
 | nil=>simp at h
 | cons r l ih =>
   cases j with
   | zero=>simp [flatR]
   | succ j =>
     have:=ih j (by simpa using h)
     have e:flatR (r :: l) = .int .i64 r.1 :: .int .i64 r.2 :: flatR l:=by simp [flatR]
     rw [e]
     have e1:(j + 1) * 2=j * 2 + 1 + 1:=by omega
     rw [e1]
     simpa using this
theorem eqSpan_same (a b:Int) (w:World):Calls Tryz.prog 52 #[.agg #[.int .i64 a,.int .i64 b],.agg #[.int .i64 a,.int .i64 b]] w fun e w'=>e = .returned (.bool true)∧Keeps (fun _=>False) w w':=by
 go_enter Tryz.func52,Tryz.ntmps52
 go_wp2
 go_ret
 exact ⟨rfl,((Keeps.refl _ _).alloc _).alloc _⟩
set_option maxHeartbeats 400000 in
theorem eqSpanS_same {w:World} {b1 b2:Nat} {v1 v2:Value} {l:List (Int×Int)} (h1:w.ownsRow b1 77 2 v1 l.length (flatR l)) (h2:w.ownsRow b2 77 2 v2 l.length (flatR l)) (hl:l.length≤10000000) :
  Calls Tryz.prog 39 #[v1,v2] w fun e w'=>e = .returned (.bool true)∧Keeps (fun _=>False) w w':=by
 by_cases hn:0 < l.length
 ·obtain ⟨g1,c1,rfl,hc1,_,hg1,_⟩:=row_at h1 hn
  obtain ⟨g2,c2,rfl,hc2,_,hg2,_⟩:=row_at h2 hn
  have fl:=flatR_at2 l
  go_enter Tryz.func39,Tryz.ntmps39
  go_wp2
  go_loopw [5] (fun i wr =>∃k:Nat,k≤l.length∧i = .int .i64 k∧Keeps (fun _=>False) w wr) (fun i _=>l.length - (intOf i).toNat)
  case atStart=>exact ⟨0,by omega,rfl,Keeps.refl _ _⟩
  case round =>
   obtain ⟨k,hk,rfl,hkp⟩:=hrel
   by_cases hlt:k < l.length
   ·have e1 :∀j,wr.cell? ⟨g1,j,none⟩=w.cell? ⟨g1,j,none⟩:=fun j=>by simp [World.cell?,hkp.block g1 hg1 (fun h=>h)]
    have e2 :∀j,wr.cell? ⟨g2,j,none⟩=w.cell? ⟨g2,j,none⟩:=fun j=>by simp [World.cell?,hkp.block g2 hg2 (fun h=>h)]
    have a1:wr.cell? ⟨g1,k * 2,none⟩=some (.int .i64 (l.getD k (0,0)).1):=by rw [e1,hc1 _ (by omega)]; exact (fl k hlt).1
    have a2:wr.cell? ⟨g1,k * 2 + 1,none⟩=some (.int .i64 (l.getD k (0,0)).2):=by rw [e1,hc1 _ (by omega)]; exact (fl k hlt).2
    have a3:wr.cell? ⟨g2,k * 2,none⟩=some (.int .i64 (l.getD k (0,0)).1):=by rw [e2,hc2 _ (by omega)]; exact (fl k hlt).1
    have a4:wr.cell? ⟨g2,k * 2 + 1,none⟩=some (.int .i64 (l.getD k (0,0)).2):=by rw [e2,hc2 _ (by omega)]; exact (fl k hlt).2
    have hkz:(k:Int) < (l.length:Int):=by omega
    generalize (l.getD k (0,0)).1=x at a1 a3
    generalize (l.getD k (0,0)).2=y at a2 a4
    clear e1 e2 fl hc1 hc2 h1 h2
    go_wp2
    go_region_with (go_at_call 52; refine (eqSpan_same _ _ _).mono ?_; rintro e w2 ⟨rfl,hk2⟩)
    all_goals go_wp2
    all_goals go_roundw
    all_goals (first
     | (case rel=>exact ⟨k + 1,by omega,by go_num,(hkp.drew).trans hk2⟩)
     | (case measure=>simp [intOf]; omega)
     | skip)
    all_goals (first
     | exact ⟨k + 1,by omega,by go_num,(hkp.drew).trans hk2⟩
     | (simp [intOf]; omega))
   ·go_wp2
    go_ret
    exact ⟨rfl,hkp⟩
 ·have hl0:l = []:=List.eq_nil_of_length_eq_zero (by omega)
  subst hl0
  obtain ⟨a1,c1,rfl⟩:=own_form h1
  obtain ⟨a2,c2,rfl⟩:=own_form h2
  clear h1 h2
  go_enter Tryz.func39,Tryz.ntmps39
  go_wp2
  refine wp_loop_rounds 1 ?_
  rw [rounds_succ]
  go_wp2
  go_ret
  exact ⟨rfl,Keeps.refl _ _⟩
def marksR (k:Int) (n:Nat):List (Int×Int):=(List.range n).map fun (j:Nat)=>(k + 2 * (j:Int),k + 2 * (j:Int) + 1)
theorem marksR_len (k:Int) (n:Nat):(marksR k n).length=n:=by simp [marksR]
theorem marksR_succ (k:Int) (n:Nat):marksR k (n + 1)=marksR k n ++ [(k + 2 * (n:Int),k + 2 * (n:Int) + 1)]:=by simp [marksR,List.range_succ]
theorem setR (l:List (Int×Int)) (k:Int) (i:Nat) (h:i < l.length):((flatR (marksR k i ++ l.drop i)).set (i * 2) (.int .i64 (k + 2 * (i:Int)))).set (i * 2 + 1) (.int .i64 (k + 2 * (i:Int) + 1))=flatR (marksR k (i + 1) ++ l.drop (i + 1)):=by
 rw [List.drop_eq_getElem_cons h,marksR_succ]
 have e1:flatR (marksR k i ++ l[i] :: l.drop (i + 1))=flatR (marksR k i) ++ (.int .i64 (l[i]).1 :: .int .i64 (l[i]).2 :: flatR (l.drop (i + 1))):=by rw [flatR_append]; rfl
 have e2:flatR ((marksR k i ++ [(k + 2 * (i:Int),k + 2 * (i:Int) + 1)]) ++ l.drop (i + 1))=flatR (marksR k i) ++ (.int .i64 (k + 2 * (i:Int)) :: .int .i64 (k + 2 * (i:Int) + 1) :: flatR (l.drop (i + 1))):=by rw [flatR_append,flatR_append,List.append_assoc]; rfl
 have hl:(flatR (marksR k i)).length=i * 2:=by rw [flatR_len,marksR_len]
 rw [e1,e2,List.set_append_right _ _ (by omega),List.set_append_right _ _ (by omega),hl]
 have e3:i * 2 + 1 - i * 2=1:=by omega
 rw [e3]
 simp
set_option maxHeartbeats 400000 in
theorem markSpanS_any {w:World} {b:Nat} {v:Value} {l:List (Int×Int)} {k:Int} (h:w.ownsRow b 77 2 v l.length (flatR l)) (hl:l.length≤10000000) (hk0:0≤k) (hk:k≤1000000000000) :
  Calls Tryz.prog 35 #[v,.int .i64 k] w fun e w'=>e = .returned (.int .i64 (k + 2 * l.length))∧w'.ownsRow b 77 2 v l.length (flatR (marksR k l.length))∧Keeps (fun j=>v.ownBlock=some j) w w':=by
 by_cases hn:0 < l.length
 ·obtain ⟨g,cap,rfl,_,_,_,_⟩:=row_at h hn
  go_enter Tryz.func35,Tryz.ntmps35
  go_wp2
  go_loopw [1,5] (fun x i wr =>∃j:Nat,j≤l.length∧i = .int .i64 j∧x = .int .i64 (k + 2 * (j:Int))∧wr.ownsRow b 77 2 (.slice (some ⟨g,0,none⟩) l.length cap) l.length (flatR (marksR k j ++ l.drop j))∧Keeps (fun j=>j=g) w wr) (fun _ i _=>l.length - (intOf i).toNat)
  case atStart=>exact ⟨0,by omega,rfl,by simp,by simpa [marksR] using h,Keeps.refl _ _⟩
  case round =>
   obtain ⟨j,hj,rfl,rfl,hrow,hkp⟩:=hrel
   by_cases hlt:j < l.length
   ·have hlen:(flatR (marksR k j ++ l.drop j)).length=l.length * 2:=by rw [flatR_len]; simp [marksR_len]; omega
    have c1 :∃u,wr.cell? ⟨g,j * 2,none⟩=some u:=by
     rw [hrow.cellAt _ (by omega)]
     exact ⟨_,List.getElem?_eq_getElem (by omega)⟩
    have c2 :∃u,wr.cell? ⟨g,j * 2 + 1,none⟩=some u:=by
     rw [hrow.cellAt _ (by omega)]
     exact ⟨_,List.getElem?_eq_getElem (by omega)⟩
    obtain ⟨u,c1⟩:=c1
    obtain ⟨u2,c2⟩:=c2
    have f1:=hrow.frozenAt (j * 2)
    have f2:=hrow.frozenAt (j * 2 + 1)
    have hjz:(j:Int) < (l.length:Int):=by omega
    have hst:=(hrow.stored (j * 2) (.int .i64 (k + 2 * (j:Int)))).1.stored (j * 2 + 1) (.int .i64 (k + 2 * (j:Int) + 1))
    rw [setR l k j hlt] at hst
    clear hlen
    go_wp2
    go_roundw
    case rel=>exact ⟨j + 1,by omega,by go_num,by go_num,hst.1,(hkp.setCell (fun _=>rfl) _).setCell (fun _=>rfl) _⟩
    case measure=>simp [intOf]; omega
   ·obtain rfl:j=l.length:=by omega
    go_wp2
    go_ret
    exact ⟨rfl,by simpa using hrow,hkp.mono fun i _ h=>by simp [Value.ownBlock,h]⟩
 ·have hl0:l = []:=List.eq_nil_of_length_eq_zero (by omega)
  subst hl0
  have h':=h
  obtain ⟨a1,c1,rfl⟩:=own_form h
  clear h
  go_enter Tryz.func35,Tryz.ntmps35
  go_wp2
  refine wp_loop_rounds 1 ?_
  rw [rounds_succ]
  go_wp2
  go_ret
  exact ⟨by simp,by simpa [marksR] using h',Keeps.refl _ _⟩
set_option maxHeartbeats 400000 in
theorem heldSpanS_any {w:World} {b:Nat} {v:Value} {l:List (Int×Int)} {n:Nat} {k:Int} (hm:l=marksR k n) (h:w.ownsRow b 77 2 v l.length (flatR l)) (hl:l.length≤10000000) (hk0:0≤k) (hk:k≤1000000000000) :
  Calls Tryz.prog 36 #[v,.int .i64 k] w fun e w'=>e = .returned (.int .i64 (k + 2 * n))∧w'=w:=by
 have hln:l.length=n:=by rw [hm,marksR_len]
 by_cases hn:0 < l.length
 ·obtain ⟨g,cap,rfl,hc,_,_,_⟩:=row_at h hn
  have hg :∀j,j < l.length→l.getD j (0,0)=(k + 2 * (j:Int),k + 2 * (j:Int) + 1):=fun j hj=>by
   have:j < n:=by omega
   rw [hm]; simp [marksR,this]
  have k1 :∀j,j < l.length→w.cell? ⟨g,j * 2,none⟩=some (.int .i64 (k + 2 * (j:Int))):=fun j hj=>by
   rw [hc _ (by omega),(flatR_at2 l j hj).1,hg j hj]
  have k2 :∀j,j < l.length→w.cell? ⟨g,j * 2 + 1,none⟩=some (.int .i64 (k + 2 * (j:Int) + 1)):=fun j hj=>by
   rw [hc _ (by omega),(flatR_at2 l j hj).2,hg j hj]
  obtain ⟨N,hN⟩ :∃N,l.length=N:=⟨_,rfl⟩
  have HN:Hid (N=n):=hN.symm.trans hln
  rw [hN] at k1 k2 hn hl ⊢
  clear h hc hm hln hN hg
  go_enter Tryz.func36,Tryz.ntmps36
  go_wp2
  go_loop [1,5] (fun x i =>∃j:Nat,j≤N∧i = .int .i64 j∧x = .int .i64 (k + 2 * (j:Int))) (fun _ i=>N - (intOf i).toNat)
  case atStart=>exact ⟨0,by omega,rfl,by simp⟩
  case round =>
   obtain ⟨j,hj,rfl,rfl⟩:=hrel
   by_cases hlt:j < N
   ·have a1:=k1 j hlt
    have a2:=k2 j hlt
    have hjz:(j:Int) < (N:Int):=by omega
    clear k1 k2
    go_wp2
    go_round
    case rel=>exact ⟨j + 1,by omega,by go_num,by go_num⟩
    case measure=>simp [intOf]; omega
   ·obtain rfl:j=N:=by omega
    go_wp2
    go_ret
    exact ⟨ret_int (by have:=HN.out; omega),rfl⟩
 ·have hl0:l.length=0:=by omega
  obtain rfl:n=0:=by omega
  obtain ⟨a1,c1,rfl⟩:=own_form h
  rw [hl0]
  clear h hm hln hl0 hn hl
  go_enter Tryz.func36,Tryz.ntmps36
  go_wp2
  refine wp_loop_rounds 1 ?_
  rw [rounds_succ]
  go_wp2
  go_ret
  exact ⟨by simp,rfl⟩
end Go.Proofs.YtmlgmhnplicflabGreat
namespace Go.Proofs.YtmlgmhnplicflabGreat
open Go.RowKit
set_option linter.unusedVariables false
def mv (m:Mt) (v:Value):Value:=.agg #[.bool m.ok,.int .i64 m.fr,.int .i64 m.up,v]
set_option maxHeartbeats 400000 in
theorem eqMatch_same {w:World} {b1 b2:Nat} {ok:Bool} {fr up:Int} {gs:List (Int×Int)} {v1 v2:Value} (h1:w.ownsRow b1 77 2 v1 gs.length (flatR gs)) (h2:w.ownsRow b2 77 2 v2 gs.length (flatR gs)) (hl:gs.length≤10000000) :
  Calls Tryz.prog 16 #[.agg #[.bool ok,.int .i64 fr,.int .i64 up,v1],.agg #[.bool ok,.int .i64 fr,.int .i64 up,v2]] w fun e w'=>e = .returned (.bool true)∧Keeps (fun _=>False) w w':=by
 obtain ⟨ao1,cp1,rfl⟩:=own_form h1
 obtain ⟨ao2,cp2,rfl⟩:=own_form h2
 go_enter Tryz.func16,Tryz.ntmps16
 go_wp2_with (first
  | (go_at_call 39; refine (eqSpanS_same (ownsRow_keeps h1 (((Keeps.refl (fun _=>False) _).alloc _).alloc _) (fun _ _ h=>h)) (ownsRow_keeps h2 (((Keeps.refl (fun _=>False) _).alloc _).alloc _) (fun _ _ h=>h)) hl).mono ?_; rintro e w2 ⟨rfl,hk2⟩))
 go_ret
 exact ⟨rfl,(((Keeps.refl _ _).alloc _).alloc _).trans hk2⟩
set_option maxHeartbeats 400000 in
theorem markMatch_any {w:World} {b:Nat} {ok:Bool} {fr up:Int} {v:Value} {gs:List (Int×Int)} {k:Int} (h:w.ownsRow b 77 2 v gs.length (flatR gs)) (hl:gs.length≤10000000) (hk0:0≤k) (hk:k≤1000000000000) :
  Calls Tryz.prog 17 #[.agg #[.bool ok,.int .i64 fr,.int .i64 up,v],.int .i64 k] w fun e w'=>e = .returned (.int .i64 (k + 2 * gs.length))∧w'.ownsRow b 77 2 v gs.length (flatR (marksR k gs.length))∧Keeps (fun j=>v.ownBlock=some j) w w':=by
 obtain ⟨ao1,cp1,rfl⟩:=own_form h
 go_enter Tryz.func17,Tryz.ntmps17
 go_wp2_with (first
  | (go_at_call 35; refine (markSpanS_any (ownsRow_keeps h ((Keeps.refl (fun _=>False) _).alloc _) (fun _ _ h=>h)) hl hk0 hk).mono ?_; rintro e w2 ⟨rfl,hP2,hk2⟩))
 go_ret
 exact ⟨rfl,hP2,((Keeps.refl _ _).alloc _).trans hk2⟩
set_option maxHeartbeats 400000 in
theorem heldMatch_any {w:World} {b:Nat} {ok:Bool} {fr up:Int} {v:Value} {n:Nat} {k:Int} (h:w.ownsRow b 77 2 v n (flatR (marksR k n))) (hl:n≤10000000) (hk0:0≤k) (hk:k≤1000000000000) :
  Calls Tryz.prog 18 #[.agg #[.bool ok,.int .i64 fr,.int .i64 up,v],.int .i64 k] w fun e w'=>e = .returned (.int .i64 (k + 2 * n))∧Keeps (fun _=>False) w w':=by
 obtain ⟨ao1,cp1,rfl⟩:=own_form h
 have hcall :∀w':World,w'.ownsRow b 77 2 (.slice ao1 n cp1) n (flatR (marksR k n))→Calls Tryz.prog 36 #[.slice ao1 n cp1,.int .i64 k] w' fun e w2=>e = .returned (.int .i64 (k + 2 * n))∧w2=w':=fun w' h'=>by
  have e:=marksR_len k n
  exact heldSpanS_any (l:=marksR k n) rfl (by rw [e]; exact h') (by rw [e]; exact hl) hk0 hk
 have hn0:(k + 2 * (n:Int) < 0)=False:=by simp; omega
 go_enter Tryz.func18,Tryz.ntmps18
 go_wp2_with (first
  | (go_at_call 36; refine (hcall _ (ownsRow_keeps h ((Keeps.refl (fun _=>False) _).alloc _) (fun _ _ h=>h))).mono ?_; rintro e w2 ⟨rfl,hw2⟩; subst w2; clear hcall))
 go_ret
 exact ⟨rfl,(Keeps.refl _ _).alloc _⟩
def OneQ (m:Mt) (b:Nat) (w:World) (e:Ending) (w':World):Prop :=
 ∃(a:Option Addr) (n c:Nat),e = .returned (.agg #[.bool m.ok,.int .i64 m.fr,.int .i64 m.up,.slice a n c])∧w'.ownsRow b 77 2 (.slice a n c) m.gs.length (flatR m.gs)∧Keeps (fun _=>False) w w'
def mtD:Option Mt→Mt
 | none=>⟨false,0,0,[]⟩
 | some m=>m
end Go.Proofs.YtmlgmhnplicflabGreat
