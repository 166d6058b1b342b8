import Derived.Test.YtmlgmhnplicflaaGreatDoorAC
import Derived.Test.YtmlgmhnplicflaaGreatDoorK
import Derived.Test.YtmlgmhnplicflaaGreatDoorAD

/-
  The program's comparison of two patterns: rows of numbers and of ranges.
-/
namespace Go.Proofs.YtmlgmhnplicflaaGreatDoor
open Go.RowKit
set_option linter.unusedVariables false

theorem take_next {α : Type} {l1 l2 : List α} {k : Nat} (h : l1.take k = l2.take k) (h1 : k < l1.length) (h2 : k < l2.length) (he : l1[k] = l2[k]) : l1.take (k + 1) = l2.take (k + 1) := by
  rw [take_one l1 k h1, take_one l2 k h2, h, he]
theorem ne_at {α : Type} {l1 l2 : List α} {k : Nat} (h1 : k < l1.length) (h2 : k < l2.length) (he : l1[k] ≠ l2[k]) : ¬ l1 = l2 := by
  intro h; subst h; exact he rfl
theorem take_all {α : Type} {l1 l2 : List α} (h : l1.take l1.length = l2.take l1.length) (hz : l1.length = l2.length) : l1 = l2 := by
  rw [List.take_length] at h
  rw [hz, List.take_length] at h
  exact h
theorem ints_get (l : List Int) (k : Nat) (h : k < l.length) : (ints l)[k]? = some (.int .i64 l[k]) := by simp [ints, h]

set_option maxHeartbeats 1000000 in
set_option maxRecDepth 100000 in
theorem eqInts_any {w : World} {b1 b2 : Nat} {v1 v2 : Value} {l1 l2 : List Int} (h1 : w.ownsRow b1 3 1 v1 l1.length (ints l1)) (h2 : w.ownsRow b2 3 1 v2 l2.length (ints l2)) (hl : l1.length ≤ 10000000) (hl2 : l2.length ≤ 10000000) :
    Calls Tryz.prog 120 #[v1, v2] w fun e w' => ∃ b : Bool, e = .returned (.bool b) ∧ (b = true ↔ l1 = l2) ∧ Keeps (fun _ => False) w w' := by
  obtain ⟨a1, c1, rfl⟩ := own_form h1
  obtain ⟨a2, c2, rfl⟩ := own_form h2
  by_cases hz : l1.length = l2.length
  · have HZ : Hid (l1.length = l2.length) := hz
    have hz2 : ((l1.length : Int) != (l2.length : Int)) = false := by simp [hz]
    clear hz
    go_enter Tryz.func120, Tryz.ntmps120
    go_wp2
    go_loopw [13] (fun i wr => ∃ k : Nat, k ≤ l1.length ∧ i = .int .i64 k ∧ l1.take k = l2.take k ∧ Keeps (fun _ => False) w wr) (fun i _ => l1.length - (intOf i).toNat)
    case atStart => exact ⟨0, by omega, rfl, rfl, Keeps.refl _ _⟩
    case round =>
      obtain ⟨k, hk, rfl, ht, hkp⟩ := hrel
      have HT : Hid (l1.take k = l2.take k) := ht
      clear ht
      by_cases hlt : k < l1.length
      · have hlt2 : k < l2.length := by rw [← HZ.out]; exact hlt
        obtain ⟨g1, rfl⟩ := row_fm h1 (by omega)
        obtain ⟨g2, rfl⟩ := row_fm h2 (by omega)
        have e1 : wr.cell? ⟨g1, k, none⟩ = some (.int .i64 l1[k]) := by rw [(ownsRow_keeps h1 hkp (fun _ _ h => h)).cellAt k (by omega)]; exact ints_get l1 k hlt
        have e2 : wr.cell? ⟨g2, k, none⟩ = some (.int .i64 l2[k]) := by rw [(ownsRow_keeps h2 hkp (fun _ _ h => h)).cellAt k (by omega)]; exact ints_get l2 k hlt2
        have hkz : (k : Int) < (l1.length : Int) := by omega
        have hkz2 : (k : Int) < (l2.length : Int) := by omega
        by_cases he : l1[k] = l2[k]
        · have HN : Hid (l1.take (k + 1) = l2.take (k + 1)) := take_next HT.out hlt hlt2 he
          rw [← he] at e2
          generalize l1[k] = x at e1 e2
          clear he
          go_wp2
          go_region
          all_goals go_wp2
          all_goals go_roundw
          all_goals (first
            | exact ⟨k + 1, by omega, by go_num, HN.out, hkp.drew⟩
            | (simp [intOf]; omega))
        · have HN : Hid (¬ l1 = l2) := ne_at hlt hlt2 he
          generalize l1[k] = x at e1 he
          generalize l2[k] = y at e2 he
          have hb : (x != y) = true := by simpa using he
          clear he
          go_wp2
          go_region
          all_goals go_wp2
          all_goals go_ret
          all_goals exact ⟨false, rfl, by simp [HN.out], hkp.drew⟩
      · obtain rfl : k = l1.length := by omega
        have HN : Hid (l1 = l2) := take_all HT.out HZ.out
        go_wp2
        go_ret
        exact ⟨true, rfl, by simp [HN.out], hkp⟩
  · have hz2 : ((l1.length : Int) != (l2.length : Int)) = true := by simp; omega
    have HN : Hid (¬ l1 = l2) := (by intro h; subst h; exact hz rfl)
    clear hz
    go_enter Tryz.func120, Tryz.ntmps120
    go_wp2
    go_ret
    exact ⟨false, rfl, by simp [HN.out], Keeps.refl _ _⟩

set_option maxHeartbeats 1000000 in
set_option maxRecDepth 100000 in
theorem eqRanges_any {w : World} {b1 b2 : Nat} {v1 v2 : Value} {l1 l2 : List (Int × Int)} (h1 : w.ownsRow b1 158 2 v1 l1.length (flatR l1)) (h2 : w.ownsRow b2 158 2 v2 l2.length (flatR l2)) (hl : l1.length ≤ 10000000) (hl2 : l2.length ≤ 10000000) :
    Calls Tryz.prog 119 #[v1, v2] w fun e w' => ∃ b : Bool, e = .returned (.bool b) ∧ (b = true ↔ l1 = l2) ∧ Keeps (fun _ => False) w w' := by
  obtain ⟨a1, c1, rfl⟩ := own_form h1
  obtain ⟨a2, c2, rfl⟩ := own_form h2
  by_cases hz : l1.length = l2.length
  · have HZ : Hid (l1.length = l2.length) := hz
    have hz2 : ((l1.length : Int) != (l2.length : Int)) = false := by simp [hz]
    clear hz
    go_enter Tryz.func119, Tryz.ntmps119
    go_wp2
    go_loopw [13] (fun i wr => ∃ k : Nat, k ≤ l1.length ∧ i = .int .i64 k ∧ l1.take k = l2.take k ∧ Keeps (fun _ => False) w wr) (fun i _ => l1.length - (intOf i).toNat)
    case atStart => exact ⟨0, by omega, rfl, rfl, Keeps.refl _ _⟩
    case round =>
      obtain ⟨k, hk, rfl, ht, hkp⟩ := hrel
      have HT : Hid (l1.take k = l2.take k) := ht
      clear ht
      by_cases hlt : k < l1.length
      · have hlt2 : k < l2.length := by rw [← HZ.out]; exact hlt
        obtain ⟨g1, rfl⟩ := row_fm h1 (by omega)
        obtain ⟨g2, rfl⟩ := row_fm h2 (by omega)
        have e1 : wr.cell? ⟨g1, k * 2, none⟩ = some (.int .i64 l1[k].1) := by rw [(ownsRow_keeps h1 hkp (fun _ _ h => h)).cellAt (k * 2) (by omega)]; exact (flatR_get l1 k hlt).1
        have e2 : wr.cell? ⟨g2, k * 2, none⟩ = some (.int .i64 l2[k].1) := by rw [(ownsRow_keeps h2 hkp (fun _ _ h => h)).cellAt (k * 2) (by omega)]; exact (flatR_get l2 k hlt2).1
        have f1 : wr.cell? ⟨g1, k * 2 + 1, none⟩ = some (.int .i64 l1[k].2) := by rw [(ownsRow_keeps h1 hkp (fun _ _ h => h)).cellAt (k * 2 + 1) (by omega)]; exact (flatR_get l1 k hlt).2
        have f2 : wr.cell? ⟨g2, k * 2 + 1, none⟩ = some (.int .i64 l2[k].2) := by rw [(ownsRow_keeps h2 hkp (fun _ _ h => h)).cellAt (k * 2 + 1) (by omega)]; exact (flatR_get l2 k hlt2).2
        have hkz : (k : Int) < (l1.length : Int) := by omega
        have hkz2 : (k : Int) < (l2.length : Int) := by omega
        by_cases he : l1[k] = l2[k]
        · have HN : Hid (l1.take (k + 1) = l2.take (k + 1)) := take_next HT.out hlt hlt2 he
          rw [← he] at e2 f2
          generalize l1[k] = x at e1 e2 f1 f2
          clear he
          go_wp2
          go_region
          all_goals go_wp2
          all_goals go_roundw
          all_goals (first
            | exact ⟨k + 1, by omega, by go_num, HN.out, hkp.drew⟩
            | (simp [intOf]; omega))
        · have HN : Hid (¬ l1 = l2) := ne_at hlt hlt2 he
          generalize l1[k] = x at e1 f1 he
          generalize l2[k] = y at e2 f2 he
          obtain ⟨x1, x2⟩ := x
          obtain ⟨y1, y2⟩ := y
          simp only at e1 e2 f1 f2
          have hb : ¬ (x1 = y1 ∧ x2 = y2) := by simpa using he
          clear he
          by_cases hx : x1 = y1
          · subst hx
            have hy : ¬ x2 = y2 := fun h => hb ⟨rfl, h⟩
            clear hb
            go_wp2
            go_region
            all_goals go_wp2
            all_goals go_ret
            all_goals exact ⟨false, rfl, by simp [HN.out], hkp.drew⟩
          · clear hb
            go_wp2
            go_region
            all_goals go_wp2
            all_goals go_ret
            all_goals exact ⟨false, rfl, by simp [HN.out], hkp.drew⟩
      · obtain rfl : k = l1.length := by omega
        have HN : Hid (l1 = l2) := take_all HT.out HZ.out
        go_wp2
        go_ret
        exact ⟨true, rfl, by simp [HN.out], hkp⟩
  · have hz2 : ((l1.length : Int) != (l2.length : Int)) = true := by simp; omega
    have HN : Hid (¬ l1 = l2) := (by intro h; subst h; exact hz rfl)
    clear hz
    go_enter Tryz.func119, Tryz.ntmps119
    go_wp2
    go_ret
    exact ⟨false, rfl, by simp [HN.out], Keeps.refl _ _⟩

end Go.Proofs.YtmlgmhnplicflaaGreatDoor

/-
  The program's comparison of two patterns: pieces.
-/
namespace Go.Proofs.YtmlgmhnplicflaaGreatDoor
open Go.RowKit
set_option linter.unusedVariables false

set_option maxHeartbeats 2000000 in
set_option maxRecDepth 100000 in
theorem samePiece_any {w : World} {c d : Pc} {s1 k1 s2 k2 : Value} (h1 : Owned w (c, s1, k1)) (h2 : Owned w (d, s2, k2)) (hc : c.set.length ≤ 10000000 ∧ c.kids.length ≤ 10000000) (hd : d.set.length ≤ 10000000 ∧ d.kids.length ≤ 10000000) :
    Calls Tryz.prog 84 #[.agg #[.int .i64 c.kind, s1, .int .i64 c.min, .int .i64 c.max, .bool c.lazy, .int .i64 c.num, k1], .agg #[.int .i64 d.kind, s2, .int .i64 d.min, .int .i64 d.max, .bool d.lazy, .int .i64 d.num, k2]] w fun e w' => ∃ b : Bool, e = .returned (.bool b) ∧ (b = true ↔ c = d) ∧ Keeps (fun _ => False) w w' := by
  obtain ⟨ck, cs, cm, cx, cl, cn, ckd⟩ := c
  obtain ⟨dk, ds, dm, dx, dl, dn, dkd⟩ := d
  simp only at h1 h2 hc hd ⊢
  have hA := h1.1
  have hB := h2.1
  have hC := h1.2
  have hD := h2.2
  simp only at hA hB hC hD
  obtain ⟨ao1, cp1, rfl⟩ := own_form hA
  obtain ⟨ao2, cp2, rfl⟩ := own_form hB
  obtain ⟨ao3, cp3, rfl⟩ := own_form hC
  obtain ⟨ao4, cp4, rfl⟩ := own_form hD
  clear h1 h2
  go_enter Tryz.func84, Tryz.ntmps84
  go_wp2_with (first
    | (go_at_call 119; refine (eqRanges_any ((hA.alloc _).alloc _) ((hB.alloc _).alloc _) hc.1 hd.1).mono ?_; rintro e w2 ⟨b2, rfl, hb2, hk2⟩; have p1 := Pv.keeps (P := w.heap.size) (c := { kind := dk, set := cs, min := dm, max := dx, lazy := dl, num := dn, kids := ckd }) (box1 w _ _) hk2 (fun h => h); have p2 := Pv.keeps (P := w.heap.size + 1) (c := { kind := dk, set := ds, min := dm, max := dx, lazy := dl, num := dn, kids := dkd }) (box2 w _ _) hk2 (fun h => h); have q1 := p1.c6; have q2 := p2.c6)
    | (go_at_call 120; refine (eqInts_any (ownsRow_keeps ((hC.alloc _).alloc _) hk2 (fun _ _ h => h)) (ownsRow_keeps ((hD.alloc _).alloc _) hk2 (fun _ _ h => h)) hc.2 hd.2).mono ?_; rintro e w3 ⟨b3, rfl, hb3, hk3⟩))
  all_goals go_ret
  all_goals refine ⟨_, rfl, ?_, ?_⟩
  all_goals (first
    | exact ((Keeps.refl _ _).alloc _).alloc _
    | exact (((Keeps.refl _ _).alloc _).alloc _).trans hk2
    | exact ((((Keeps.refl _ _).alloc _).alloc _).trans hk2).trans hk3
    | simp_all)

end Go.Proofs.YtmlgmhnplicflaaGreatDoor

/-
  The program's comparison of two patterns: lists of pieces, patterns.
-/
namespace Go.Proofs.YtmlgmhnplicflaaGreatDoor
open Go.RowKit
set_option linter.unusedVariables false

/-- What a comparison answers. -/
def EqPost (p : Prop) (w : World) (e : Ending) (w' : World) : Prop := ∃ b : Bool, e = .returned (.bool b) ∧ (b = true ↔ p) ∧ Keeps (fun _ => False) w w'
theorem eqPost_yes {p : Prop} {w w' : World} (h : p) (hk : Keeps (fun _ => False) w w') : EqPost p w (.returned (.bool true)) w' := ⟨true, rfl, by simp [h], hk⟩
theorem eqPost_no {p : Prop} {w w' : World} (h : ¬ p) (hk : Keeps (fun _ => False) w w') : EqPost p w (.returned (.bool false)) w' := ⟨false, rfl, by simp [h], hk⟩
def SmallP (ps : List Pc) : Prop := ps.length ≤ 10000000 ∧ ∀ x ∈ ps, x.set.length ≤ 10000000 ∧ x.kids.length ≤ 10000000

set_option maxHeartbeats 2000000 in
set_option maxRecDepth 100000 in
theorem eqFunc_any {w : World} {v1 v2 : Value} {L1 L2 : List Pm} (h1 : Pcs w v1 L1) (h2 : Pcs w v2 L2) (hs1 : SmallP (L1.map (·.1))) (hs2 : SmallP (L2.map (·.1))) :
    Calls Tryz.prog 83 #[v1, v2, .func (.func 84) #[] #[]] w (EqPost (L1.map (·.1) = L2.map (·.1)) w) := by
  obtain ⟨a1, c1, rfl⟩ := own_form h1.row
  obtain ⟨a2, c2, rfl⟩ := own_form h2.row
  by_cases hz : L1.length = L2.length
  · have HZ : Hid (L1.length = L2.length) := hz
    have hz2 : ((L1.length : Int) != (L2.length : Int)) = false := by simp [hz]
    clear hz
    have hlen1 : L1.length ≤ 10000000 := by have := hs1.1; simpa using this
    go_enter Tryz.func83, Tryz.ntmps83
    go_wp2
    go_loopw [17] (fun i wr => ∃ k : Nat, k ≤ L1.length ∧ i = .int .i64 k ∧ (L1.map (·.1)).take k = (L2.map (·.1)).take k ∧ Keeps (fun _ => False) w wr) (fun i _ => L1.length - (intOf i).toNat)
    case atStart => exact ⟨0, by omega, rfl, rfl, Keeps.refl _ _⟩
    case round =>
      obtain ⟨k, hk, rfl, ht, hkp⟩ := hrel
      have HT : Hid ((L1.map (·.1)).take k = (L2.map (·.1)).take k) := ht
      clear ht
      by_cases hlt : k < L1.length
      · have hlt2 : k < L2.length := by rw [← HZ.out]; exact hlt
        obtain ⟨g1, rfl⟩ := row_fm h1.row (by omega)
        obtain ⟨g2, rfl⟩ := row_fm h2.row (by omega)
        have hA := (h1.sameW hkp).cells hlt
        have hB := fun o => ((h2.sameW hkp).sameW ((Keeps.refl _ _).alloc o)).cells hlt2
        have o1 := (h1.sameW hkp).rows _ (List.getElem_mem hlt)
        have o2 := (h2.sameW hkp).rows _ (List.getElem_mem hlt2)
        have m1 := hs1.2 _ (List.mem_map_of_mem (f := (·.1)) (List.getElem_mem hlt))
        have m2 := hs2.2 _ (List.mem_map_of_mem (f := (·.1)) (List.getElem_mem hlt2))
        have t1 : (L1.map (·.1))[k]'(by simpa using hlt) = (L1[k]'hlt).1 := by simp
        have t2 : (L2.map (·.1))[k]'(by simpa using hlt2) = (L2[k]'hlt2).1 := by simp
        have HY : Hid ((L1[k]'hlt).1 = (L2[k]'hlt2).1 → (L1.map (·.1)).take (k + 1) = (L2.map (·.1)).take (k + 1)) := (by show _ → _; intro he; exact take_next HT.out (by simpa using hlt) (by simpa using hlt2) (by rw [t1, t2, he]))
        have HN : Hid ((L1[k]'hlt).1 ≠ (L2[k]'hlt2).1 → ¬ L1.map (·.1) = L2.map (·.1)) := (by show _ → _; intro he; exact ne_at (k := k) (by simpa using hlt) (by simpa using hlt2) (by rw [t1, t2]; exact he))
        clear t1 t2
        have hkz : (k : Int) < (L1.length : Int) := by omega
        have hkz2 : (k : Int) < (L2.length : Int) := by omega
        generalize L1[k]'hlt = x at hA o1 m1 HY HN
        generalize L2[k]'hlt2 = y at hB o2 m2 HY HN
        obtain ⟨c, s1, k1⟩ := x
        obtain ⟨d, s2, k2⟩ := y
        obtain ⟨as1, cs1, e1⟩ := own_form o1.1
        obtain ⟨as2, cs2, e2⟩ := own_form o1.2
        obtain ⟨as3, cs3, e3⟩ := own_form o2.1
        obtain ⟨as4, cs4, e4⟩ := own_form o2.2
        simp only at e1 e2 e3 e4 hA hB m1 m2
        subst e1 e2 e3 e4
        obtain ⟨q0, q1, q2, q3, q4, q5, q6⟩ := hA
        have r0 := fun o => (hB o).1
        have r1 := fun o => (hB o).2.1
        have r2 := fun o => (hB o).2.2.1
        have r3 := fun o => (hB o).2.2.2.1
        have r4 := fun o => (hB o).2.2.2.2.1
        have r5 := fun o => (hB o).2.2.2.2.2.1
        have r6 := fun o => (hB o).2.2.2.2.2.2
        clear hB
        by_cases he : c = d
        · have HY2 : Hid ((L1.map (·.1)).take (k + 1) = (L2.map (·.1)).take (k + 1)) := HY.out he
          have HE : Hid (c = d) := he
          clear HY HN he
          go_wp2_with (first
            | (go_at_call 84; refine (samePiece_any (o1.same (((Keeps.refl _ _).alloc _).alloc _)) (o2.same (((Keeps.refl _ _).alloc _).alloc _)) m1 m2).mono ?_; rintro e w2 ⟨b, rfl, hb, hk2⟩; obtain rfl : b = true := hb.2 HE.out))
          go_roundw
          case rel => exact ⟨k + 1, by omega, by go_num, HY2.out, (((hkp.alloc _).alloc _).trans hk2)⟩
          case measure => simp [intOf]; omega
        · have HN2 : Hid (¬ L1.map (·.1) = L2.map (·.1)) := HN.out he
          have HE : Hid (¬ c = d) := he
          clear HY HN he
          go_wp2_with (first
            | (go_at_call 84; refine (samePiece_any (o1.same (((Keeps.refl _ _).alloc _).alloc _)) (o2.same (((Keeps.refl _ _).alloc _).alloc _)) m1 m2).mono ?_; rintro e w2 ⟨b, rfl, hb, hk2⟩; obtain rfl : b = false := (by cases b; rfl; exact absurd (hb.1 rfl) HE.out)))
          go_ret
          exact eqPost_no HN2.out (((hkp.alloc _).alloc _).trans hk2)
      · obtain rfl : k = L1.length := by omega
        have HN : Hid (L1.map (·.1) = L2.map (·.1)) := take_all (by have := HT.out; simpa using this) (by have := HZ.out; simpa using this)
        go_wp2
        go_ret
        exact eqPost_yes HN.out hkp
  · have hz2 : ((L1.length : Int) != (L2.length : Int)) = true := by simp; omega
    have HN : Hid (¬ L1.map (·.1) = L2.map (·.1)) := (by show ¬ _; intro h; have := congrArg List.length h; simp at this; exact hz this)
    clear hz
    go_enter Tryz.func83, Tryz.ntmps83
    go_wp2
    go_ret
    exact eqPost_no HN.out (Keeps.refl _ _)

end Go.Proofs.YtmlgmhnplicflaaGreatDoor

/-
  The program's comparison of two patterns.
-/
namespace Go.Proofs.YtmlgmhnplicflaaGreatDoor
open Go.RowKit
set_option linter.unusedVariables false

set_option maxHeartbeats 2000000 in
set_option maxRecDepth 100000 in
theorem samePattern_any {w : World} {v1 v2 : Value} {L1 L2 : List Pm} {ok1 ok2 : Bool} {at1 at2 gr1 gr2 : Int} (h1 : Pcs w v1 L1) (h2 : Pcs w v2 L2) (hs1 : SmallP (L1.map (·.1))) (hs2 : SmallP (L2.map (·.1))) :
    Calls Tryz.prog 49 #[.agg #[.bool ok1, .int .i64 at1, .int .i64 gr1, v1], .agg #[.bool ok2, .int .i64 at2, .int .i64 gr2, v2]] w (EqPost (ok1 = ok2 ∧ at1 = at2 ∧ gr1 = gr2 ∧ L1.map (·.1) = L2.map (·.1)) w) := by
  obtain ⟨a1, c1, rfl⟩ := own_form h1.row
  obtain ⟨a2, c2, rfl⟩ := own_form h2.row
  have hmf : ∀ (fn : Fn) (first cap : Array Value) (w : World), (Instr.makeFunc fn first cap).run Tryz.prog w = .ok (.func fn first cap) w := fun _ _ _ _ => rfl
  go_enter Tryz.func49, Tryz.ntmps49
  go_wp2_with (first
    | (go_at_call 83; refine (eqFunc_any (h1.sameW (((Keeps.refl _ _).alloc _).alloc _)) (h2.sameW (((Keeps.refl _ _).alloc _).alloc _)) hs1 hs2).mono ?_; rintro e w2 ⟨b2, rfl, hb2, hk2⟩))
  all_goals go_ret
  all_goals refine ⟨_, rfl, ?_, ?_⟩
  all_goals (first
    | exact ((Keeps.refl _ _).alloc _).alloc _
    | exact (((Keeps.refl _ _).alloc _).alloc _).trans hk2
    | simp_all)

end Go.Proofs.YtmlgmhnplicflaaGreatDoor
