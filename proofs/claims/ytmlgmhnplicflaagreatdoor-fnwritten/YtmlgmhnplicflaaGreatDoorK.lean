import Derived.Test.YtmlgmhnplicflaaGreatDoorJ
import Derived.Test.YtmlgmhnplicflaaGreatDoorA
import Derived.Deep.RegionWith

/-
  The laws' comparisons: what is the same is found the same.
-/
namespace Go.Proofs.YtmlgmhnplicflaaGreatDoor
open Go.RowKit
set_option linter.unusedVariables false

/-- A row's cells, where it has any. -/
theorem row_at {w : World} {base : Nat} {e : TypeId} {size : Nat} {v : Value} {n : Nat} {xs : List Value} (h : w.ownsRow base e size v n xs) (hn : 0 < n) : ∃ g cap, v = .slice (some ⟨g, 0, none⟩) n cap ∧ (∀ j, j < n * size → w.cell? ⟨g, j, none⟩ = xs[j]?) ∧ (∀ j, w.frozen? ⟨g, j, none⟩ = false) ∧ g < w.heap.size ∧ base ≤ g := by
  obtain ⟨m, rfl⟩ : ∃ m, n = m + 1 := ⟨n - 1, by omega⟩
  obtain ⟨g, cap, rfl, h1, h2⟩ := own_some h
  exact ⟨g, cap, rfl, fun j hj => h.cellAt j hj, fun j => h.frozenAt j, h2, h1⟩

set_option maxHeartbeats 400000 in
theorem eqIntS_same {w : World} {b1 b2 : Nat} {v1 v2 : Value} {l : List Int} (h1 : w.ownsRow b1 3 1 v1 l.length (ints l)) (h2 : w.ownsRow b2 3 1 v2 l.length (ints l)) (hl : l.length ≤ 10000000) :
    Calls Tryz.prog 126 #[v1, v2] w fun e w' => e = .returned (.bool true) ∧ ∃ n, w' = w.drewN n := by
  by_cases hn : 0 < l.length
  · obtain ⟨g1, c1, rfl, hc1, _, _⟩ := row_at h1 hn
    obtain ⟨g2, c2, rfl, hc2, _, _⟩ := row_at h2 hn
    have k1 : ∀ j, j < l.length → w.cell? ⟨g1, j, none⟩ = some (.int .i64 (l.getD j 0)) := fun j hj => by rw [hc1 j (by omega)]; simp [ints, hj]
    have k2 : ∀ j, j < l.length → w.cell? ⟨g2, j, none⟩ = some (.int .i64 (l.getD j 0)) := fun j hj => by rw [hc2 j (by omega)]; simp [ints, hj]
    clear h1 h2 hc1 hc2
    go_enter Tryz.func126, Tryz.ntmps126
    go_wp2
    go_loopw [5] (fun i wr => ∃ k n : Nat, k ≤ l.length ∧ i = .int .i64 k ∧ wr = w.drewN n) (fun i _ => l.length - (intOf i).toNat)
    case atStart => exact ⟨0, 0, by omega, rfl, rfl⟩
    case round =>
      obtain ⟨k, n, hk, rfl, rfl⟩ := hrel
      by_cases hlt : k < l.length
      · have a1 := k1 k hlt
        have a2 := k2 k hlt
        have hkz : (k : Int) < (l.length : Int) := by omega
        clear k1 k2
        go_wp2
        go_quiet (fail)
        go_wp2
        go_roundw
        case rel => exact ⟨k + 1, _, by omega, by go_num, rfl⟩
        case measure => simp [intOf]; omega
      · go_wp2
        go_ret
        exact ⟨rfl, _, rfl⟩
  · have hl0 : l = [] := List.eq_nil_of_length_eq_zero (by omega)
    subst hl0
    obtain ⟨a1, c1, rfl⟩ := own_form h1
    obtain ⟨a2, c2, rfl⟩ := own_form h2
    clear h1 h2
    go_enter Tryz.func126, Tryz.ntmps126
    go_wp2
    refine wp_loop_rounds 1 ?_
    rw [rounds_succ]
    go_wp2
    go_ret
    exact ⟨rfl, 0, rfl⟩

theorem flatR_at (l : List (Int × Int)) (j : Nat) (h : j < l.length) : (flatR l)[j * 2]? = some (.int .i64 (l.getD j (0, 0)).1) ∧ (flatR l)[j * 2 + 1]? = some (.int .i64 (l.getD j (0, 0)).2) := by
  induction l generalizing j with
  | nil => simp at h
  | cons r l ih =>
    cases j with
    | zero => simp [flatR]
    | succ j =>
      have := ih j (by simpa using h)
      have e : flatR (r :: l) = .int .i64 r.1 :: .int .i64 r.2 :: flatR l := by simp [flatR]
      rw [e]
      have e1 : (j + 1) * 2 = j * 2 + 1 + 1 := by omega
      rw [e1]
      simpa using this

theorem eqRange_same (a b : Int) (w : World) : Calls Tryz.prog 154 #[.agg #[.int .i64 a, .int .i64 b], .agg #[.int .i64 a, .int .i64 b]] w fun e w' => e = .returned (.bool true) ∧ Keeps (fun _ => False) w w' := by
  go_enter Tryz.func154, Tryz.ntmps154
  go_wp2
  go_ret
  exact ⟨rfl, ((Keeps.refl _ _).alloc _).alloc _⟩

set_option maxHeartbeats 400000 in
theorem eqRangeS_same {w : World} {b1 b2 : Nat} {v1 v2 : Value} {l : List (Int × Int)} (h1 : w.ownsRow b1 158 2 v1 l.length (flatR l)) (h2 : w.ownsRow b2 158 2 v2 l.length (flatR l)) (hl : l.length ≤ 10000000) :
    Calls Tryz.prog 125 #[v1, v2] w fun e w' => e = .returned (.bool true) ∧ Keeps (fun _ => False) w w' := by
  by_cases hn : 0 < l.length
  · obtain ⟨g1, c1, rfl, hc1, _, hg1, _⟩ := row_at h1 hn
    obtain ⟨g2, c2, rfl, hc2, _, hg2, _⟩ := row_at h2 hn
    have fl := flatR_at l
    go_enter Tryz.func125, Tryz.ntmps125
    go_wp2
    go_loopw [5] (fun i wr => ∃ k : Nat, k ≤ l.length ∧ i = .int .i64 k ∧ Keeps (fun _ => False) w wr) (fun i _ => l.length - (intOf i).toNat)
    case atStart => exact ⟨0, by omega, rfl, Keeps.refl _ _⟩
    case round =>
      obtain ⟨k, hk, rfl, hkp⟩ := hrel
      by_cases hlt : k < l.length
      · have e1 : ∀ j, wr.cell? ⟨g1, j, none⟩ = w.cell? ⟨g1, j, none⟩ := fun j => by simp [World.cell?, hkp.block g1 hg1 (fun h => h)]
        have e2 : ∀ j, wr.cell? ⟨g2, j, none⟩ = w.cell? ⟨g2, j, none⟩ := fun j => by simp [World.cell?, hkp.block g2 hg2 (fun h => h)]
        have a1 : wr.cell? ⟨g1, k * 2, none⟩ = some (.int .i64 (l.getD k (0, 0)).1) := by rw [e1, hc1 _ (by omega)]; exact (fl k hlt).1
        have a2 : wr.cell? ⟨g1, k * 2 + 1, none⟩ = some (.int .i64 (l.getD k (0, 0)).2) := by rw [e1, hc1 _ (by omega)]; exact (fl k hlt).2
        have a3 : wr.cell? ⟨g2, k * 2, none⟩ = some (.int .i64 (l.getD k (0, 0)).1) := by rw [e2, hc2 _ (by omega)]; exact (fl k hlt).1
        have a4 : wr.cell? ⟨g2, k * 2 + 1, none⟩ = some (.int .i64 (l.getD k (0, 0)).2) := by rw [e2, hc2 _ (by omega)]; exact (fl k hlt).2
        have hkz : (k : Int) < (l.length : Int) := by omega
        generalize (l.getD k (0, 0)).1 = x at a1 a3
        generalize (l.getD k (0, 0)).2 = y at a2 a4
        clear e1 e2 fl hc1 hc2 h1 h2
        go_wp2
        go_region_with (go_at_call 154; refine (eqRange_same _ _ _).mono ?_; rintro e w2 ⟨rfl, hk2⟩)
        all_goals go_wp2
        all_goals go_roundw
        all_goals (first
          | (case rel => exact ⟨k + 1, by omega, by go_num, (hkp.drew).trans hk2⟩)
          | (case measure => simp [intOf]; omega)
          | skip)
        all_goals (first
          | exact ⟨k + 1, by omega, by go_num, (hkp.drew).trans hk2⟩
          | (simp [intOf]; omega))
      · go_wp2
        go_ret
        exact ⟨rfl, hkp⟩
  · have hl0 : l = [] := List.eq_nil_of_length_eq_zero (by omega)
    subst hl0
    obtain ⟨a1, c1, rfl⟩ := own_form h1
    obtain ⟨a2, c2, rfl⟩ := own_form h2
    clear h1 h2
    go_enter Tryz.func125, Tryz.ntmps125
    go_wp2
    refine wp_loop_rounds 1 ?_
    rw [rounds_succ]
    go_wp2
    go_ret
    exact ⟨rfl, Keeps.refl _ _⟩

set_option maxHeartbeats 400000 in
theorem eqPiece_same {w : World} {c : Pc} {s1 k1 s2 k2 : Value} (h1 : Owned w (c, s1, k1)) (h2 : Owned w (c, s2, k2)) (hs : c.set.length ≤ 10000000) (hk : c.kids.length ≤ 10000000) :
    Calls Tryz.prog 91 #[.agg #[.int .i64 c.kind, s1, .int .i64 c.min, .int .i64 c.max, .bool c.lazy, .int .i64 c.num, k1], .agg #[.int .i64 c.kind, s2, .int .i64 c.min, .int .i64 c.max, .bool c.lazy, .int .i64 c.num, k2]] w fun e w' => e = .returned (.bool true) ∧ Keeps (fun _ => False) w w' := by
  obtain ⟨c, sv, mn, mx, lz, nm, kd⟩ := c
  simp only at h1 h2 hs hk ⊢
  have hA := h1.1
  have hB := h2.1
  have hC := h1.2
  have hD := h2.2
  simp only at hA hB hC hD
  obtain ⟨ao1, cp1, rfl⟩ := own_form hA
  obtain ⟨ao2, cp2, rfl⟩ := own_form hB
  obtain ⟨ao3, cp3, rfl⟩ := own_form hC
  obtain ⟨ao4, cp4, rfl⟩ := own_form hD
  clear h1 h2
  go_enter Tryz.func91, Tryz.ntmps91
  go_wp2_with (first
    | (go_at_call 125; refine (eqRangeS_same ((hA.alloc _).alloc _) ((hB.alloc _).alloc _) hs).mono ?_; rintro e w2 ⟨rfl, hk2⟩; have p1 : Pb w2 w.heap.size { kind := c, set := sv, min := mn, max := mx, lazy := lz, num := nm, kids := kd } (.slice ao1 sv.length cp1) (.slice ao3 kd.length cp3) := Pb.keeps (box1 w _ _) hk2 (fun h => h); have p2 : Pb w2 (w.heap.size + 1) { kind := c, set := sv, min := mn, max := mx, lazy := lz, num := nm, kids := kd } (.slice ao2 sv.length cp2) (.slice ao4 kd.length cp4) := Pb.keeps (box2 w _ _) hk2 (fun h => h); obtain ⟨_, _, d2, d3, d4, d5, d6, _⟩ := p1.facts; obtain ⟨_, _, e2, e3, e4, e5, e6, _⟩ := p2.facts)
    | (go_at_call 126; refine (eqIntS_same (ownsRow_keeps ((hC.alloc _).alloc _) hk2 (fun _ _ h => h)) (ownsRow_keeps ((hD.alloc _).alloc _) hk2 (fun _ _ h => h)) hk).mono ?_; rintro e w3 ⟨rfl, n3, rfl⟩))
  go_ret
  exact ⟨rfl, ((((Keeps.refl _ _).alloc _).alloc _).trans hk2).drewN _⟩

theorem cell7_get (L : List Pm) (j i : Nat) (hj : j < L.length) (hi : i < 7) : (L.flatMap cell7)[j * 7 + i]? = (cell7 (L[j]'hj))[i]? := by
  induction L generalizing j with
  | nil => simp at hj
  | cons x L ih =>
    cases j with
    | zero =>
      rw [List.flatMap_cons, List.getElem?_append_left (by simp [cell7]; omega)]
      simp
    | succ j =>
      have := ih j (by simpa using hj)
      rw [List.flatMap_cons, List.getElem?_append_right (by simp [cell7]; omega)]
      have e : (j + 1) * 7 + i - (cell7 x).length = j * 7 + i := by simp [cell7]; omega
      rw [e, this]
      simp

theorem Pcs.same {w w' : World} {v : Value} {L : List Pm} (h : Pcs w v L) (hk : Keeps (fun _ => False) w w') : Pcs w' v L :=
  ⟨ownsRow_keeps h.row hk (fun _ _ h => h), fun x hx => (h.rows x hx).same hk⟩

/-- The cells of the piece j. -/
theorem Pcs.cells {w : World} {g cap : Nat} {L : List Pm} (h : Pcs w (.slice (some ⟨g, 0, none⟩) L.length cap) L) {j : Nat} (hj : j < L.length) :
    w.cell? ⟨g, j * 7, none⟩ = some (.int .i64 (L[j]'hj).1.kind) ∧ w.cell? ⟨g, j * 7 + 1, none⟩ = some (L[j]'hj).2.1 ∧ w.cell? ⟨g, j * 7 + 2, none⟩ = some (.int .i64 (L[j]'hj).1.min) ∧ w.cell? ⟨g, j * 7 + 3, none⟩ = some (.int .i64 (L[j]'hj).1.max) ∧
    w.cell? ⟨g, j * 7 + 4, none⟩ = some (.bool (L[j]'hj).1.lazy) ∧ w.cell? ⟨g, j * 7 + 5, none⟩ = some (.int .i64 (L[j]'hj).1.num) ∧ w.cell? ⟨g, j * 7 + 6, none⟩ = some (L[j]'hj).2.2 := by
  have hc := h.row.cellAt
  refine ⟨?_, ?_, ?_, ?_, ?_, ?_, ?_⟩
  · have e := hc (j * 7) (by omega); rw [e]; exact cell7_get L j 0 hj (by omega)
  · rw [hc (j * 7 + 1) (by omega)]; exact cell7_get L j 1 hj (by omega)
  · rw [hc (j * 7 + 2) (by omega)]; exact cell7_get L j 2 hj (by omega)
  · rw [hc (j * 7 + 3) (by omega)]; exact cell7_get L j 3 hj (by omega)
  · rw [hc (j * 7 + 4) (by omega)]; exact cell7_get L j 4 hj (by omega)
  · rw [hc (j * 7 + 5) (by omega)]; exact cell7_get L j 5 hj (by omega)
  · rw [hc (j * 7 + 6) (by omega)]; exact cell7_get L j 6 hj (by omega)

/-- Sizes that no comparison minds. -/
def Small (L : List Pm) : Prop := L.length ≤ 10000000 ∧ ∀ x ∈ L, x.1.set.length ≤ 10000000 ∧ x.1.kids.length ≤ 10000000

set_option maxHeartbeats 1000000 in
theorem eqPieceS_same {w : World} {v1 v2 : Value} {L1 L2 : List Pm} (h1 : Pcs w v1 L1) (h2 : Pcs w v2 L2) (he : L1.map (·.1) = L2.map (·.1)) (hS : Small L1) :
    Calls Tryz.prog 59 #[v1, v2] w fun e w' => e = .returned (.bool true) ∧ Keeps (fun _ => False) w w' := by
  have hlen : L1.length = L2.length := by have := congrArg List.length he; simpa using this
  by_cases hn : 0 < L1.length
  · obtain ⟨g1, c1, rfl, _⟩ := row_at h1.row hn
    obtain ⟨g2, c2, rfl, _⟩ := row_at h2.row (by omega)
    obtain ⟨hS1, hS2⟩ := hS
    have HLen : Hid (L1.length = L2.length) := hlen
    have hz : ((L1.length : Int) != (L2.length : Int)) = false := by simp [hlen]
    clear hlen
    go_enter Tryz.func59, Tryz.ntmps59
    go_wp2
    go_loopw [5] (fun i wr => ∃ k : Nat, k ≤ L1.length ∧ i = .int .i64 k ∧ Keeps (fun _ => False) w wr) (fun i _ => L1.length - (intOf i).toNat)
    case atStart => exact ⟨0, by omega, rfl, Keeps.refl _ _⟩
    case round =>
      obtain ⟨k, hk, rfl, hkp⟩ := hrel
      by_cases hlt : k < L1.length
      · have hlt2 : k < L2.length := by rw [← HLen.out]; exact hlt
        have o1 := (h1.rows _ (List.getElem_mem hlt)).same hkp
        have o2 := (h2.rows _ (List.getElem_mem hlt2)).same hkp
        have hsm := hS2 _ (List.getElem_mem hlt)
        have hce : (L1[k]'hlt).1 = (L2[k]'hlt2).1 := by
          have h3 : (L1.map (·.1))[k]? = (L2.map (·.1))[k]? := by rw [he]
          simpa [hlt, hlt2] using h3
        obtain ⟨a0, a1, a2, a3, a4, a5, a6⟩ := (h1.same hkp).cells hlt
        obtain ⟨b0, b1, b2, b3, b4, b5, b6⟩ := (h2.same hkp).cells hlt2
        rw [← hce] at b0 b2 b3 b4 b5
        have hkz : (k : Int) < (L1.length : Int) := by omega
        have hkz2 : (k : Int) < (L2.length : Int) := by omega
        revert a0 a1 a2 a3 a4 a5 a6 b0 b1 b2 b3 b4 b5 b6 o1 o2 hsm hce
        generalize L1[k]'hlt = x
        generalize L2[k]'hlt2 = y
        obtain ⟨c, s1, k1⟩ := x
        obtain ⟨c', s2, k2⟩ := y
        intro o1 o2 hsm hce
        simp only at hce
        subst hce
        intro a0 a1 a2 a3 a4 a5 a6 b0 b1 b2 b3 b4 b5 b6
        simp only at a0 a1 a2 a3 a4 a5 a6 b0 b1 b2 b3 b4 b5 b6 hsm
        go_wp2
        go_region_with (go_at_call 91; refine (eqPiece_same (o1.same ((Keeps.refl _ _).drew)) (o2.same ((Keeps.refl _ _).drew)) hsm.1 hsm.2).mono ?_; rintro e w2 ⟨rfl, hk2⟩)
        all_goals go_wp2
        all_goals go_roundw
        all_goals (first
          | exact ⟨k + 1, by omega, by go_num, (hkp.drew).trans hk2⟩
          | (simp [intOf]; omega))
      · go_wp2
        go_ret
        exact ⟨rfl, hkp⟩
  · have hl0 : L1 = [] := List.eq_nil_of_length_eq_zero (by omega)
    subst hl0
    have hl2 : L2 = [] := List.eq_nil_of_length_eq_zero (by simpa using hlen.symm)
    subst hl2
    obtain ⟨a1, c1, rfl⟩ := own_form h1.row
    obtain ⟨a2, c2, rfl⟩ := own_form h2.row
    clear h1 h2
    go_enter Tryz.func59, Tryz.ntmps59
    go_wp2
    refine wp_loop_rounds 1 ?_
    rw [rounds_succ]
    go_wp2
    go_ret
    exact ⟨rfl, Keeps.refl _ _⟩

set_option maxHeartbeats 400000 in
theorem eqPattern_same {w : World} {ok : Bool} {at_ gr : Int} {v1 v2 : Value} {L1 L2 : List Pm} (h1 : Pcs w v1 L1) (h2 : Pcs w v2 L2) (he : L1.map (·.1) = L2.map (·.1)) (hS : Small L1) :
    Calls Tryz.prog 24 #[.agg #[.bool ok, .int .i64 at_, .int .i64 gr, v1], .agg #[.bool ok, .int .i64 at_, .int .i64 gr, v2]] w fun e w' => e = .returned (.bool true) ∧ Keeps (fun _ => False) w w' := by
  obtain ⟨ao1, cp1, rfl⟩ := own_form h1.row
  obtain ⟨ao2, cp2, rfl⟩ := own_form h2.row
  go_enter Tryz.func24, Tryz.ntmps24
  go_wp2_with (first
    | (go_at_call 59; refine (eqPieceS_same (h1.same (((Keeps.refl _ _).alloc _).alloc _)) (h2.same (((Keeps.refl _ _).alloc _).alloc _)) he hS).mono ?_; rintro e w2 ⟨rfl, hk2⟩))
  go_ret
  exact ⟨rfl, (((Keeps.refl _ _).alloc _).alloc _).trans hk2⟩

end Go.Proofs.YtmlgmhnplicflaaGreatDoor
