import Derived.Test.YtmlgmhnplicflaaGreatDoorAK
import Derived.Deep.DeepCutAuto
import Derived.Test.YtmlgmhnplicflaaGreatDoorAL
import Derived.Test.YtmlgmhnplicflaaGreatDoorAJ

/-
  The specification writes a pattern: sequences and alternatives.
-/
namespace Go.Proofs.YtmlgmhnplicflaaGreatDoor
open Go.RowKit
set_option linter.unusedVariables false

theorem own_len {w : World} {base : Nat} {e : TypeId} {size : Nat} {v : Value} {n : Nat} {xs : List Value} (h : w.ownsRow base e size v n xs) : n ≤ 9223372036854775807 := by
  obtain ⟨_, ⟨_, h0⟩ | ⟨g, cap, cur, _, _, _, hcap, hmx, _⟩⟩ := h
  · omega
  · unfold maxLen at hmx; omega
theorem take_flat {α : Type} (f : α → Tx) {l : List α} {k : Nat} (h : k < l.length) : (l.take (k + 1)).flatMap f = (l.take k).flatMap f ++ f l[k] := by
  rw [List.take_succ_eq_append_getElem h, List.flatMap_append]; simp
theorem take_flat_le {α : Type} (f : α → Tx) (l : List α) (k : Nat) : ((l.take k).flatMap f).length ≤ (l.flatMap f).length := by
  conv => rhs; rw [← List.take_append_drop k l, List.flatMap_append, List.length_append]
  omega

set_option maxHeartbeats 4000000 in
set_option maxRecDepth 100000 in
theorem write_2 {ps : List Pc} {n : Nat} (ih : WriteC ps n) {c : Pc} : ∀ (w : World) (v : Value) (L : List Pm) (ok : Bool) (at_ gr : Int) (i : Nat), Src w v L ps → i < n + 1 → i < ps.length → ps[i]? = some c → c.kind = 2 →
    Calls Tryz.prog 51 #[.agg #[.bool ok, .int .i64 at_, .int .i64 gr, v], .int .i64 i] w fun e w' => e = .returned (.string (tb (wr ps i))) ∧ Keeps (fun _ => False) w w' := by
  intro w v L ok at_ gr i hS hin hip hpx hkind
  obtain ⟨hP, hL, hs⟩ := hS
  obtain ⟨ao, cap, rfl⟩ := own_form hP.row
  have hLl : L.length = ps.length := by rw [← hL, List.length_map]
  have hlt : i < L.length := by omega
  have hle := hs.len i hip
  have hi480 := hs.few
  have hkids := hs.kids i c hpx
  obtain ⟨g, rfl⟩ := row_fm hP.row (by omega)
  have kA : ∀ o, Keeps (fun _ => False) w (w.alloc o) := fun o => (Keeps.refl _ _).alloc _
  have hA := fun o => (hP.sameW (kA o)).cells hlt
  have o1 := hP.rows _ (List.getElem_mem hlt)
  have hpy : ps[i]? = some (L[i]'hlt).1 := by rw [← hL, List.getElem?_map, List.getElem?_eq_getElem hlt]; rfl
  have hiz : (i : Int) < (L.length : Int) := by omega
  generalize L[i]'hlt = x at hA o1 hpy
  obtain ⟨c', s1, k1⟩ := x
  rw [hpx] at hpy
  simp only [Option.some.injEq] at hpy
  subst hpy
  obtain ⟨as1, cs1, e1⟩ := own_form o1.1
  obtain ⟨as2, cs2, e2⟩ := own_form o1.2
  simp only at e1 e2 hA
  subst e1 e2
  have q0 := fun o => (hA o).1
  have q1 := fun o => (hA o).2.1
  have q2 := fun o => (hA o).2.2.1
  have q3 := fun o => (hA o).2.2.2.1
  have q4 := fun o => (hA o).2.2.2.2.1
  have q5 := fun o => (hA o).2.2.2.2.2.1
  have q6 := fun o => (hA o).2.2.2.2.2.2
  rw [hkind] at q0
  clear hA
  have HW : Hid (wr ps i = body c (wrs ps i)) := wr_body hpx
  have HLL : Hid (L.length = ps.length) := hLl
  clear hLl
  go_enter Tryz.func51, Tryz.ntmps51
  go_upto_region 3 with fail
  have kB : Keeps (fun _ => False) w ((w.alloc (.cells #[.bool ok, .int .i64 at_, .int .i64 gr, .slice (some ⟨g, 0, none⟩) L.length cap] 33)).alloc (.cells #[.int .i64 2, .slice as1 c.set.length cs1, .int .i64 c.min, .int .i64 c.max, .bool c.lazy, .int .i64 c.num, .slice as2 c.kids.length cs2] 142)) := (kA _).alloc _
  have p0 : Pt ((w.alloc (.cells #[.bool ok, .int .i64 at_, .int .i64 gr, .slice (some ⟨g, 0, none⟩) L.length cap] 33)).alloc (.cells #[.int .i64 2, .slice as1 c.set.length cs1, .int .i64 c.min, .int .i64 c.max, .bool c.lazy, .int .i64 c.num, .slice as2 c.kids.length cs2] 142)) w.heap.size ok at_ gr (.slice (some ⟨g, 0, none⟩) L.length cap) := box1 w _ _
  have p1 : ((w.alloc (.cells #[.bool ok, .int .i64 at_, .int .i64 gr, .slice (some ⟨g, 0, none⟩) L.length cap] 33)).alloc (.cells #[.int .i64 2, .slice as1 c.set.length cs1, .int .i64 c.min, .int .i64 c.max, .bool c.lazy, .int .i64 c.num, .slice as2 c.kids.length cs2] 142)).heap[w.heap.size + 1]? = some (.cells #[.int .i64 2, .slice as1 c.set.length cs1, .int .i64 c.min, .int .i64 c.max, .bool c.lazy, .int .i64 c.num, .slice as2 c.kids.length cs2] 142 (0, 0)) := box2 w _ _
  generalize ((w.alloc (.cells #[.bool ok, .int .i64 at_, .int .i64 gr, .slice (some ⟨g, 0, none⟩) L.length cap] 33)).alloc (.cells #[.int .i64 2, .slice as1 c.set.length cs1, .int .i64 c.min, .int .i64 c.max, .bool c.lazy, .int .i64 c.num, .slice as2 c.kids.length cs2] 142)) = w2 at kB p0 p1 ⊢
  clear q0 q1 q2 q3 q4 q5 q6
  have o2 := o1.same kB
  have hP2 := hP.sameW kB
  generalize w.heap.size = P0 at p0 p1 ⊢
  have r0 : w2.cell? ⟨P0 + 1, 0, none⟩ = some (.int .i64 2) := by rw [cell_of p1]; rfl
  have r6 : w2.cell? ⟨P0 + 1, 6, none⟩ = some (.slice as2 c.kids.length cs2) := by rw [cell_of p1]; rfl
  have hKo : w2.ownsRow 0 3 1 (.slice as2 c.kids.length cs2) c.kids.length (c.kids.map (Value.int .i64 ·)) := ownsRow_base o2.2 (fun _ _ => Nat.zero_le _)
  have HE : Hid (wr ps i = c.kids.flatMap (wrs ps i)) := (by show _ = _; rw [HW.out]; simp [body, hkind])
  have hle2 : (c.kids.flatMap (wrs ps i)).length ≤ 700000 := by rw [← HE.out]; omega
  have hkl := own_len hKo
  have hP3 : ∀ w9, Keeps (fun _ => False) w2 w9 → Src w9 (.slice (some ⟨g, 0, none⟩) L.length cap) L ps := fun w9 k9 => ⟨hP2.sameW k9, hL, hs⟩
  have HH : Hid (i ≤ n ∧ i < ps.length) := ⟨by omega, hip⟩
  clear hkind p1 hP hP2 o1 o2 hL hs hle hi480 hpx hlt hiz hip hin kA HW HLL
  obtain ⟨ck, cset, cm, cx, cl, cn, ckd⟩ := c
  simp only at *
  go_wp2
  go_loopw [6, 80] (fun o ix wq => ∃ k : Nat, k ≤ ckd.length ∧ ix = .int .i64 k ∧ o = .string (tb ((ckd.take k).flatMap (wrs ps i))) ∧ Keeps (fun _ => False) w2 wq) (fun _ ix _ => ckd.length - (intOf ix).toNat)
  case atStart => exact ⟨0, Nat.zero_le _, rfl, rfl, Keeps.refl _ _⟩
  case round =>
    obtain ⟨wq, rfl⟩ : ∃ wq : World, wq = wr := ⟨_, rfl⟩
    obtain ⟨k, hk, rfl, rfl, hkp⟩ := hrel
    by_cases hlt : k < ckd.length
    · obtain ⟨g2, rfl⟩ := row_fm hKo (by omega)
      have z1 : wq.cell? ⟨g2, k, none⟩ = some (.int .i64 ckd[k]) := by rw [(ownsRow_keeps hKo hkp (fun _ _ h => h)).cellAt k (by omega)]; exact ints_get ckd k hlt
      have hkr := hkids ckd[k] (List.getElem_mem hlt)
      have hnx := take_flat (wrs ps i) hlt
      have hl1 := take_flat_le (wrs ps i) ckd (k + 1)
      have hl0 := take_flat_le (wrs ps i) ckd k
      generalize ckd[k] = x at z1 hkr hnx
      obtain ⟨m, rfl⟩ := Int.eq_ofNat_of_zero_le hkr.1
      have hmi : m < i := by omega
      rw [wrs_below ps hmi] at hnx
      have HX : Hid (tb ((ckd.take k).flatMap (wrs ps i)) ++ tb (wr ps m) = tb ((ckd.take (k + 1)).flatMap (wrs ps i))) := (by show _ = _; rw [tb_append, hnx])
      have hsz : ¬ 9223372036854775807 < (tb ((ckd.take k).flatMap (wrs ps i))).size + (tb (wr ps m)).size := by
        have := congrArg List.length hnx
        rw [List.length_append] at this
        rw [tb_size, tb_size]
        omega
      have hcall := fun wx (hx : Keeps (fun _ => False) w2 wx) => ih wx _ L ok at_ gr m (hP3 wx hx) (by have := HH.out; omega) (by have := HH.out; omega)
      have hcall1 := hcall wq hkp
      have a0 := (p0.same hkp).c0; have a1 := (p0.same hkp).c1; have a2 := (p0.same hkp).c2; have a3 := (p0.same hkp).c3
      have hkz : (k : Int) < (ckd.length : Int) := by omega
      generalize tb (wr ps m) = T at HX hsz hcall1
      generalize tb ((ckd.take k).flatMap (wrs ps i)) = O at HX hsz ⊢
      clear hcall hnx hl0 hl1
      go_wp2_with (go_at_call 51; refine hcall1.mono ?_; rintro e w3 ⟨rfl, hk3⟩)
      all_goals go_roundw
      all_goals (first
        | exact ⟨k + 1, by omega, by go_num, by rw [HX.out], hkp.trans hk3⟩
        | (simp [intOf]; omega))
    · have hkk : k = ckd.length := by omega
      subst hkk
      have hz : ¬ (ckd.length : Int) < (ckd.length : Int) := by omega
      go_wp2
      go_ret
      exact ⟨by rw [HE.out]; rfl, kB.trans hkp⟩

end Go.Proofs.YtmlgmhnplicflaaGreatDoor

/-
  The specification writes a pattern: alternatives.
-/
namespace Go.Proofs.YtmlgmhnplicflaaGreatDoor
open Go.RowKit
set_option linter.unusedVariables false

theorem bar_append (l : List Tx) (t : Tx) : barTxt (l ++ [t]) = if l.length = 0 then t else barTxt l ++ 124 :: t := by
  cases l with
  | nil => simp [barTxt]
  | cons x xs => simp [barTxt]
theorem take_bar (f : Int → Tx) {l : List Int} {k : Nat} (h : k < l.length) : barTxt ((l.take (k + 1)).map f) = if k = 0 then f l[k] else barTxt ((l.take k).map f) ++ 124 :: f l[k] := by
  rw [List.take_succ_eq_append_getElem h, List.map_append, List.map_cons, List.map_nil, bar_append, List.length_map, List.length_take, Nat.min_eq_left (Nat.le_of_lt h)]
theorem bar_le_append (l m : List Tx) : (barTxt l).length ≤ (barTxt (l ++ m)).length := by
  cases l with
  | nil => simp [barTxt]
  | cons x xs => simp only [List.cons_append, barTxt, List.flatMap_append, List.length_append]; omega
theorem take_bar_le (f : Int → Tx) (l : List Int) (k : Nat) : (barTxt ((l.take k).map f)).length ≤ (barTxt (l.map f)).length := by
  conv => rhs; rw [← List.take_append_drop k l, List.map_append]
  exact bar_le_append _ _

set_option maxHeartbeats 4000000 in
set_option maxRecDepth 100000 in
theorem write_3 {ps : List Pc} {n : Nat} (ih : WriteC ps n) {c : Pc} : ∀ (w : World) (v : Value) (L : List Pm) (ok : Bool) (at_ gr : Int) (i : Nat), Src w v L ps → i < n + 1 → i < ps.length → ps[i]? = some c → c.kind = 3 →
    Calls Tryz.prog 51 #[.agg #[.bool ok, .int .i64 at_, .int .i64 gr, v], .int .i64 i] w fun e w' => e = .returned (.string (tb (wr ps i))) ∧ Keeps (fun _ => False) w w' := by
  intro w v L ok at_ gr i hS hin hip hpx hkind
  obtain ⟨hP, hL, hs⟩ := hS
  obtain ⟨ao, cap, rfl⟩ := own_form hP.row
  have hLl : L.length = ps.length := by rw [← hL, List.length_map]
  have hlt : i < L.length := by omega
  have hle := hs.len i hip
  have hi480 := hs.few
  have hkids := hs.kids i c hpx
  obtain ⟨g, rfl⟩ := row_fm hP.row (by omega)
  have kA : ∀ o, Keeps (fun _ => False) w (w.alloc o) := fun o => (Keeps.refl _ _).alloc _
  have hA := fun o => (hP.sameW (kA o)).cells hlt
  have o1 := hP.rows _ (List.getElem_mem hlt)
  have hpy : ps[i]? = some (L[i]'hlt).1 := by rw [← hL, List.getElem?_map, List.getElem?_eq_getElem hlt]; rfl
  have hiz : (i : Int) < (L.length : Int) := by omega
  generalize L[i]'hlt = x at hA o1 hpy
  obtain ⟨c', s1, k1⟩ := x
  rw [hpx] at hpy
  simp only [Option.some.injEq] at hpy
  subst hpy
  obtain ⟨as1, cs1, e1⟩ := own_form o1.1
  obtain ⟨as2, cs2, e2⟩ := own_form o1.2
  simp only at e1 e2 hA
  subst e1 e2
  have q0 := fun o => (hA o).1
  have q1 := fun o => (hA o).2.1
  have q2 := fun o => (hA o).2.2.1
  have q3 := fun o => (hA o).2.2.2.1
  have q4 := fun o => (hA o).2.2.2.2.1
  have q5 := fun o => (hA o).2.2.2.2.2.1
  have q6 := fun o => (hA o).2.2.2.2.2.2
  rw [hkind] at q0
  clear hA
  have HW : Hid (wr ps i = body c (wrs ps i)) := wr_body hpx
  have HLL : Hid (L.length = ps.length) := hLl
  clear hLl
  go_enter Tryz.func51, Tryz.ntmps51
  go_upto_region 3 with fail
  have kB : Keeps (fun _ => False) w ((w.alloc (.cells #[.bool ok, .int .i64 at_, .int .i64 gr, .slice (some ⟨g, 0, none⟩) L.length cap] 33)).alloc (.cells #[.int .i64 3, .slice as1 c.set.length cs1, .int .i64 c.min, .int .i64 c.max, .bool c.lazy, .int .i64 c.num, .slice as2 c.kids.length cs2] 142)) := (kA _).alloc _
  have p0 : Pt ((w.alloc (.cells #[.bool ok, .int .i64 at_, .int .i64 gr, .slice (some ⟨g, 0, none⟩) L.length cap] 33)).alloc (.cells #[.int .i64 3, .slice as1 c.set.length cs1, .int .i64 c.min, .int .i64 c.max, .bool c.lazy, .int .i64 c.num, .slice as2 c.kids.length cs2] 142)) w.heap.size ok at_ gr (.slice (some ⟨g, 0, none⟩) L.length cap) := box1 w _ _
  have p1 : ((w.alloc (.cells #[.bool ok, .int .i64 at_, .int .i64 gr, .slice (some ⟨g, 0, none⟩) L.length cap] 33)).alloc (.cells #[.int .i64 3, .slice as1 c.set.length cs1, .int .i64 c.min, .int .i64 c.max, .bool c.lazy, .int .i64 c.num, .slice as2 c.kids.length cs2] 142)).heap[w.heap.size + 1]? = some (.cells #[.int .i64 3, .slice as1 c.set.length cs1, .int .i64 c.min, .int .i64 c.max, .bool c.lazy, .int .i64 c.num, .slice as2 c.kids.length cs2] 142 (0, 0)) := box2 w _ _
  generalize ((w.alloc (.cells #[.bool ok, .int .i64 at_, .int .i64 gr, .slice (some ⟨g, 0, none⟩) L.length cap] 33)).alloc (.cells #[.int .i64 3, .slice as1 c.set.length cs1, .int .i64 c.min, .int .i64 c.max, .bool c.lazy, .int .i64 c.num, .slice as2 c.kids.length cs2] 142)) = w2 at kB p0 p1 ⊢
  clear q0 q1 q2 q3 q4 q5 q6
  have o2 := o1.same kB
  have hP2 := hP.sameW kB
  generalize w.heap.size = P0 at p0 p1 ⊢
  have r0 : w2.cell? ⟨P0 + 1, 0, none⟩ = some (.int .i64 3) := by rw [cell_of p1]; rfl
  have r6 : w2.cell? ⟨P0 + 1, 6, none⟩ = some (.slice as2 c.kids.length cs2) := by rw [cell_of p1]; rfl
  have hKo : w2.ownsRow 0 3 1 (.slice as2 c.kids.length cs2) c.kids.length (c.kids.map (Value.int .i64 ·)) := ownsRow_base o2.2 (fun _ _ => Nat.zero_le _)
  have HE : Hid (wr ps i = barTxt (c.kids.map (wrs ps i))) := (by show _ = _; rw [HW.out]; simp [body, hkind])
  have hle2 : (barTxt (c.kids.map (wrs ps i))).length ≤ 700000 := by rw [← HE.out]; omega
  have hkl := own_len hKo
  have hP3 : ∀ w9, Keeps (fun _ => False) w2 w9 → Src w9 (.slice (some ⟨g, 0, none⟩) L.length cap) L ps := fun w9 k9 => ⟨hP2.sameW k9, hL, hs⟩
  have HH : Hid (i ≤ n ∧ i < ps.length) := ⟨by omega, hip⟩
  clear hkind p1 hP hP2 o1 o2 hL hs hle hi480 hpx hlt hiz hip hin kA HW HLL
  obtain ⟨ck, cset, cm, cx, cl, cn, ckd⟩ := c
  simp only at *
  go_wp2
  go_loopw [6, 95] (fun o ix wq => ∃ k : Nat, k ≤ ckd.length ∧ ix = .int .i64 k ∧ o = .string (tb (barTxt ((ckd.take k).map (wrs ps i)))) ∧ Keeps (fun _ => False) w2 wq) (fun _ ix _ => ckd.length - (intOf ix).toNat)
  case atStart => exact ⟨0, Nat.zero_le _, rfl, rfl, Keeps.refl _ _⟩
  case round =>
    obtain ⟨wq, rfl⟩ : ∃ wq : World, wq = wr := ⟨_, rfl⟩
    obtain ⟨k, hk, rfl, rfl, hkp⟩ := hrel
    by_cases hlt : k < ckd.length
    · obtain ⟨g2, rfl⟩ := row_fm hKo (by omega)
      have z1 : wq.cell? ⟨g2, k, none⟩ = some (.int .i64 ckd[k]) := by rw [(ownsRow_keeps hKo hkp (fun _ _ h => h)).cellAt k (by omega)]; exact ints_get ckd k hlt
      have hkr := hkids ckd[k] (List.getElem_mem hlt)
      have hnx := take_bar (wrs ps i) hlt
      have hl1 := take_bar_le (wrs ps i) ckd (k + 1)
      have hl0 := take_bar_le (wrs ps i) ckd k
      generalize ckd[k] = x at z1 hkr hnx
      obtain ⟨m, rfl⟩ := Int.eq_ofNat_of_zero_le hkr.1
      have hmi : m < i := by omega
      rw [wrs_below ps hmi] at hnx
      have hcall := fun wx (hx : Keeps (fun _ => False) w2 wx) => ih wx _ L ok at_ gr m (hP3 wx hx) (by have := HH.out; omega) (by have := HH.out; omega)
      have hcall1 := hcall wq hkp
      have a0 := (p0.same hkp).c0; have a1 := (p0.same hkp).c1; have a2 := (p0.same hkp).c2; have a3 := (p0.same hkp).c3
      have hkz : (k : Int) < (ckd.length : Int) := by omega
      by_cases h0 : k = 0
      · subst h0
        rw [if_pos rfl] at hnx
        have HX : Hid (tb (barTxt ((ckd.take 0).map (wrs ps i))) ++ tb (wr ps m) = tb (barTxt ((ckd.take (0 + 1)).map (wrs ps i)))) := (by show _ = _; rw [hnx, tb_append]; simp [barTxt])
        have hsz : ¬ 9223372036854775807 < (tb (barTxt ((ckd.take 0).map (wrs ps i)))).size + (tb (wr ps m)).size := by
          have := congrArg List.length hnx
          rw [tb_size, tb_size]
          omega
        generalize tb (wr ps m) = T at HX hsz hcall1
        generalize tb (barTxt ((ckd.take 0).map (wrs ps i))) = O at HX hsz ⊢
        clear hcall hnx hl0 hl1
        go_wp2_with (go_at_call 51; refine hcall1.mono ?_; rintro e w3 ⟨rfl, hk3⟩)
        all_goals go_roundw
        all_goals (first
          | exact ⟨0 + 1, by omega, by go_num, by rw [HX.out], hkp.trans hk3⟩
          | (simp [intOf]; omega))
      · rw [if_neg h0] at hnx
        have HX : Hid (tb (barTxt ((ckd.take k).map (wrs ps i))) ++ ⟨#[124]⟩ ++ tb (wr ps m) = tb (barTxt ((ckd.take (k + 1)).map (wrs ps i)))) := (by show _ = _; rw [hnx, show (⟨#[124]⟩ : ByteArray) = tb [124] from rfl, tb_append, tb_append]; simp)
        have hnl := congrArg List.length hnx
        rw [List.length_append, List.length_cons] at hnl
        have hsz0 : ¬ 9223372036854775807 < (tb (barTxt ((ckd.take k).map (wrs ps i)))).size + 1 := by
          rw [tb_size]
          omega
        have hsz : ¬ 9223372036854775807 < (tb (barTxt ((ckd.take k).map (wrs ps i)))).size + 1 + (tb (wr ps m)).size := by
          rw [tb_size, tb_size]
          omega
        have hk0 : (0 : Int) < (k : Int) := by omega
        generalize tb (wr ps m) = T at HX hsz hcall1
        generalize tb (barTxt ((ckd.take k).map (wrs ps i))) = O at HX hsz hsz0 ⊢
        clear hcall hnx hl0 hl1 hnl
        go_wp2_with (go_at_call 51; refine hcall1.mono ?_; rintro e w3 ⟨rfl, hk3⟩)
        all_goals go_roundw
        all_goals (first
          | exact ⟨k + 1, by omega, by go_num, by rw [HX.out], hkp.trans hk3⟩
          | (simp [intOf]; omega))
    · have hkk : k = ckd.length := by omega
      subst hkk
      have hz : ¬ (ckd.length : Int) < (ckd.length : Int) := by omega
      go_wp2
      go_ret
      exact ⟨by rw [HE.out]; rfl, kB.trans hkp⟩

end Go.Proofs.YtmlgmhnplicflaaGreatDoor

/-
  The specification writes a pattern: sets.
-/
namespace Go.Proofs.YtmlgmhnplicflaaGreatDoor
open Go.RowKit
set_option linter.unusedVariables false

theorem okR_mem {rs : List (Int × Int)} (h : okR rs = true) (r : Int × Int) (hr : r ∈ rs) : 0 ≤ r.1 ∧ r.1 ≤ r.2 ∧ r.2 ≤ 255 := by
  have := List.all_eq_true.1 h r hr
  simp only [Bool.and_eq_true, decide_eq_true_eq] at this
  exact ⟨this.1.1, this.1.2, this.2⟩

set_option maxHeartbeats 4000000 in
set_option maxRecDepth 100000 in
theorem write_1 {ps : List Pc} {n : Nat} (ih : WriteC ps n) {c : Pc} : ∀ (w : World) (v : Value) (L : List Pm) (ok : Bool) (at_ gr : Int) (i : Nat), Src w v L ps → i < n + 1 → i < ps.length → ps[i]? = some c → c.kind = 1 →
    Calls Tryz.prog 51 #[.agg #[.bool ok, .int .i64 at_, .int .i64 gr, v], .int .i64 i] w fun e w' => e = .returned (.string (tb (wr ps i))) ∧ Keeps (fun _ => False) w w' := by
  intro w v L ok at_ gr i hS hin hip hpx hkind
  obtain ⟨hP, hL, hs⟩ := hS
  obtain ⟨ao, cap, rfl⟩ := own_form hP.row
  have hLl : L.length = ps.length := by rw [← hL, List.length_map]
  have hlt : i < L.length := by omega
  have hle := hs.len i hip
  have hi480 := hs.few
  have hkids := hs.kids i c hpx
  obtain ⟨g, rfl⟩ := row_fm hP.row (by omega)
  have kA : ∀ o, Keeps (fun _ => False) w (w.alloc o) := fun o => (Keeps.refl _ _).alloc _
  have hA := fun o => (hP.sameW (kA o)).cells hlt
  have o1 := hP.rows _ (List.getElem_mem hlt)
  have hpy : ps[i]? = some (L[i]'hlt).1 := by rw [← hL, List.getElem?_map, List.getElem?_eq_getElem hlt]; rfl
  have hiz : (i : Int) < (L.length : Int) := by omega
  generalize L[i]'hlt = x at hA o1 hpy
  obtain ⟨c', s1, k1⟩ := x
  rw [hpx] at hpy
  simp only [Option.some.injEq] at hpy
  subst hpy
  obtain ⟨as1, cs1, e1⟩ := own_form o1.1
  obtain ⟨as2, cs2, e2⟩ := own_form o1.2
  simp only at e1 e2 hA
  subst e1 e2
  have q0 := fun o => (hA o).1
  have q1 := fun o => (hA o).2.1
  have q2 := fun o => (hA o).2.2.1
  have q3 := fun o => (hA o).2.2.2.1
  have q4 := fun o => (hA o).2.2.2.2.1
  have q5 := fun o => (hA o).2.2.2.2.2.1
  have q6 := fun o => (hA o).2.2.2.2.2.2
  rw [hkind] at q0
  clear hA
  have HW : Hid (wr ps i = body c (wrs ps i)) := wr_body hpx
  have HLL : Hid (L.length = ps.length) := hLl
  clear hLl
  go_enter Tryz.func51, Tryz.ntmps51
  go_upto_region 3 with fail
  have kB : Keeps (fun _ => False) w ((w.alloc (.cells #[.bool ok, .int .i64 at_, .int .i64 gr, .slice (some ⟨g, 0, none⟩) L.length cap] 33)).alloc (.cells #[.int .i64 1, .slice as1 c.set.length cs1, .int .i64 c.min, .int .i64 c.max, .bool c.lazy, .int .i64 c.num, .slice as2 c.kids.length cs2] 142)) := (kA _).alloc _
  have p0 : Pt ((w.alloc (.cells #[.bool ok, .int .i64 at_, .int .i64 gr, .slice (some ⟨g, 0, none⟩) L.length cap] 33)).alloc (.cells #[.int .i64 1, .slice as1 c.set.length cs1, .int .i64 c.min, .int .i64 c.max, .bool c.lazy, .int .i64 c.num, .slice as2 c.kids.length cs2] 142)) w.heap.size ok at_ gr (.slice (some ⟨g, 0, none⟩) L.length cap) := box1 w _ _
  have p1 : ((w.alloc (.cells #[.bool ok, .int .i64 at_, .int .i64 gr, .slice (some ⟨g, 0, none⟩) L.length cap] 33)).alloc (.cells #[.int .i64 1, .slice as1 c.set.length cs1, .int .i64 c.min, .int .i64 c.max, .bool c.lazy, .int .i64 c.num, .slice as2 c.kids.length cs2] 142)).heap[w.heap.size + 1]? = some (.cells #[.int .i64 1, .slice as1 c.set.length cs1, .int .i64 c.min, .int .i64 c.max, .bool c.lazy, .int .i64 c.num, .slice as2 c.kids.length cs2] 142 (0, 0)) := box2 w _ _
  generalize ((w.alloc (.cells #[.bool ok, .int .i64 at_, .int .i64 gr, .slice (some ⟨g, 0, none⟩) L.length cap] 33)).alloc (.cells #[.int .i64 1, .slice as1 c.set.length cs1, .int .i64 c.min, .int .i64 c.max, .bool c.lazy, .int .i64 c.num, .slice as2 c.kids.length cs2] 142)) = w2 at kB p0 p1 ⊢
  clear q0 q1 q2 q3 q4 q5 q6
  have o2 := o1.same kB
  have hP2 := hP.sameW kB
  generalize w.heap.size = P0 at p0 p1 ⊢
  have r0 : w2.cell? ⟨P0 + 1, 0, none⟩ = some (.int .i64 1) := by rw [cell_of p1]; rfl
  have r1 : w2.cell? ⟨P0 + 1, 1, none⟩ = some (.slice as1 c.set.length cs1) := by rw [cell_of p1]; rfl
  have hrs := hs.rs i c hpx
  have hSo : w2.ownsRow 0 158 2 (.slice as1 c.set.length cs1) c.set.length (flatR c.set) := ownsRow_base o2.1 (fun _ _ => Nat.zero_le _)
  have hkl := own_len hSo
  have HE : Hid (wr ps i = rsTxt c.set) := (by show _ = _; rw [HW.out]; simp [body, hkind])
  have hle2 : (rsTxt c.set).length ≤ 700000 := by rw [← HE.out]; omega
  clear hkind hP hP2 o1 o2 hL hs hle hi480 hpx hlt hiz hip hin kA HW HLL ih hkids p0
  obtain ⟨ck, cset, cm, cx, cl, cn, ckd⟩ := c
  simp only at *
  obtain ⟨X, hX⟩ : ∃ X : Bool, X = (oneOf cset).isSome := ⟨_, rfl⟩
  go_upto_region 6 with fail
  go_cut [38] (fun b wc => b = .bool X ∧ Keeps (fun _ => False) w2 wc)
  case first =>
    rcases (show cset.length ≠ 1 ∨ cset.length = 1 from by omega) with h0 | h1
    · have e1 : ((cset.length : Int) == 1) = false := beq_eq_false_iff_ne.2 (by omega)
      have HX : Hid (X = false) := (by
        show _ = _
        rw [hX]
        match cset, h0 with
        | [], _ => rfl
        | [r], h => simp at h
        | r :: r2 :: rs, _ => rfl)
      clear hX
      go_quiet (fail)
      all_goals go_wp2
      all_goals go_meet
      all_goals exact ⟨by rw [HX.out], (Keeps.refl _ _).drewN _⟩
    · obtain ⟨r, rfl⟩ := List.length_eq_one_iff.1 h1
      obtain ⟨lo, hi⟩ := r
      obtain ⟨g2, rfl⟩ := row_fm hSo (by simp)
      obtain ⟨q1, q2⟩ := flatR_get [(lo, hi)] 0 (by simp)
      have c1 : w2.cell? ⟨g2, 0, none⟩ = some (.int .i64 lo) := by rw [hSo.cellAt 0 (by simp)]; exact q1
      have c2 : w2.cell? ⟨g2, 1, none⟩ = some (.int .i64 hi) := by rw [hSo.cellAt 1 (by simp)]; exact q2
      rw [h1] at r1
      clear q1 q2
      have HX : Hid (X = (lo == hi)) := (by
        show _ = _
        rw [hX]
        unfold oneOf
        by_cases h : lo = hi <;> simp [h])
      clear hX
      go_quiet (fail)
      all_goals go_wp2
      all_goals go_meet
      all_goals exact ⟨by rw [HX.out], (Keeps.refl _ _).drewN _⟩
  case rest =>
    obtain ⟨rfl, hkc⟩ := hcut
    have pc := blkK p1 hkc
    have hSc := ownsRow_keeps hSo hkc (fun _ _ h => h)
    have hkz := kB.trans hkc
    have t1 : wc.cell? ⟨P0 + 1, 1, none⟩ = some (.slice as1 cset.length cs1) := by rw [cell_of pc]; rfl
    clear r0 r1 p1 hSo kB hkc
    cases X with
    | true =>
      have h1 : ∃ lo, cset = [(lo, lo)] := by
        match cset, hX with
        | [], h => simp [oneOf] at h
        | [(a, b)], h =>
          by_cases e : a = b
          · exact ⟨a, by rw [e]⟩
          · simp [oneOf, e] at h
        | r :: r2 :: rs, h => simp [oneOf] at h
      obtain ⟨lo, rfl⟩ := h1
      obtain ⟨g2, rfl⟩ := row_fm hSc (by simp)
      obtain ⟨q1, q2⟩ := flatR_get [(lo, lo)] 0 (by simp)
      have c1 : wc.cell? ⟨g2, 0, none⟩ = some (.int .i64 lo) := by rw [hSc.cellAt 0 (by simp)]; exact q1
      have hr := okR_mem hrs (lo, lo) (by simp)
      simp only at hr
      have HX : Hid (rsTxt [(lo, lo)] = Esc.esc lo) := (by show _ = _; simp [rsTxt, oneOf])
      have hb := fun w9 => l1b (w := w9) (n := lo) hr.1 hr.2.2
      rw [show [(lo, lo)].length = 1 from rfl] at t1
      clear q1 q2 hX pc hSc hkl hle2 hrs
      go_wp2_with (go_at_call 85; refine (hb _).mono ?_; rintro e w3 ⟨rfl, hk3⟩; (try replace hk3 := hkd hk3))
      all_goals go_ret
      all_goals exact ⟨by rw [HE.out, HX.out]; rfl, hkz.trans hk3⟩
    | false =>
      by_cases h0 : cset.length = 0
      · have e2 : ((cset.length : Int) == 0) = true := by rw [h0]; rfl
        have HX : Hid (tb (rsTxt cset) = ⟨#[91, 94, 92, 120, 48, 48, 45, 92, 120, 102, 102, 93]⟩) := (by
          show _ = _
          rw [List.eq_nil_of_length_eq_zero h0]; rfl)
        clear h0 hX
        go_wp2
        go_ret
        exact ⟨by rw [HE.out, HX.out]; rfl, hkz⟩
      · have e2 : ((cset.length : Int) == 0) = false := beq_eq_false_iff_ne.2 (by omega)
        have HX0 : Hid (rsTxt cset = 91 :: (cset.flatMap rgTxt ++ [93])) := (by
          show _ = _
          unfold rsTxt
          cases h : oneOf cset with
          | some a => rw [h] at hX; simp at hX
          | none => simp only []; rw [if_neg h0])
        have hle3 : (cset.flatMap rgTxt).length + 2 ≤ 700000 := by have := hle2; rw [HX0.out] at this; simpa using this
        clear hX hle2
        have HX : Hid (tb (91 :: cset.flatMap rgTxt) ++ ⟨#[93]⟩ = tb (rsTxt cset)) := (by
          show _ = _
          rw [HX0.out, show (⟨#[93]⟩ : ByteArray) = tb [93] from rfl, tb_append]
          simp)
        clear HX0
        go_wp2
        go_loopw [6, 52] (fun o ix wq => ∃ k : Nat, k ≤ cset.length ∧ ix = .int .i64 k ∧ o = .string (tb (91 :: (cset.take k).flatMap rgTxt)) ∧ Keeps (fun _ => False) wc wq) (fun _ ix _ => cset.length - (intOf ix).toNat)
        case atStart => exact ⟨0, Nat.zero_le _, rfl, rfl, Keeps.refl _ _⟩
        case round =>
          obtain ⟨wq, rfl⟩ : ∃ wq : World, wq = wr := ⟨_, rfl⟩
          obtain ⟨k, hk, rfl, rfl, hkp⟩ := hrel
          by_cases hlt : k < cset.length
          · obtain ⟨g2, rfl⟩ := row_fm hSc (by omega)
            obtain ⟨q1, q2⟩ := flatR_get cset k hlt
            have hSq := ownsRow_keeps hSc hkp (fun _ _ h => h)
            have c1 : wq.cell? ⟨g2, k * 2, none⟩ = some (.int .i64 cset[k].1) := by rw [hSq.cellAt _ (by omega)]; exact q1
            have c2 : wq.cell? ⟨g2, k * 2 + 1, none⟩ = some (.int .i64 cset[k].2) := by rw [hSq.cellAt _ (by omega)]; exact q2
            have hr := okR_mem hrs cset[k] (List.getElem_mem hlt)
            have hnx := take_flat rgTxt hlt
            have hl1 := take_flat_le rgTxt cset (k + 1)
            generalize cset[k] = r at c1 c2 hr hnx
            obtain ⟨lo, hi⟩ := r
            simp only at c1 c2 hr
            have hkz2 : (k : Int) < (cset.length : Int) := by omega
            have hb1 := fun w9 => l1b (w := w9) (n := lo) (by omega) (by omega)
            have hb2 := fun w9 => l1b (w := w9) (n := hi) (by omega) (by omega)
            have hnl := congrArg List.length hnx
            rw [List.length_append] at hnl
            have he1 := esc4 lo
            have he2 := esc4 hi
            have hl0 := take_flat_le rgTxt cset k
            have s0 : (tb (91 :: (cset.take k).flatMap rgTxt)).size ≤ 700000 := by rw [tb_size, List.length_cons]; omega
            have s1 : (tb (Esc.esc lo)).size ≤ 4 := by rw [tb_size]; exact he1
            have s2 : (tb (Esc.esc hi)).size ≤ 4 := by rw [tb_size]; exact he2
            have HN : Hid (lo < hi → tb (91 :: (cset.take k).flatMap rgTxt) ++ tb (Esc.esc lo) ++ (⟨#[45]⟩ ++ tb (Esc.esc hi)) = tb (91 :: (cset.take (k + 1)).flatMap rgTxt)) := (by
              intro h
              rw [hnx, show (⟨#[45]⟩ : ByteArray) = tb [45] from rfl, tb_append, tb_append, tb_append]
              simp [rgTxt, h])
            have HN2 : Hid (¬ lo < hi → tb (91 :: (cset.take k).flatMap rgTxt) ++ tb (Esc.esc lo) = tb (91 :: (cset.take (k + 1)).flatMap rgTxt)) := (by
              intro h
              rw [hnx, tb_append]
              simp [rgTxt, h])
            generalize tb (91 :: (cset.take k).flatMap rgTxt) = O at s0 HN HN2 ⊢
            generalize tb (Esc.esc lo) = A1 at hb1 s1 HN HN2
            generalize tb (Esc.esc hi) = A2 at hb2 s2 HN
            clear hnl hnx hl0 hl1 he1 he2 q1 q2 hSq
            have n1 : ¬ 9223372036854775807 < O.size + A1.size := by omega
            have n2 : ¬ 9223372036854775807 < 1 + A2.size := by omega
            have n3 : ¬ 9223372036854775807 < O.size + A1.size + (1 + A2.size) := by omega
            go_upto_region 14 with fail
            have hbx : (wq.alloc (.cells #[.int .i64 lo, .int .i64 hi] 158)).heap[wq.heap.size]? = some (.cells #[.int .i64 lo, .int .i64 hi] 158 (0, 0)) := heap_alloc_new wq _
            have hkA : Keeps (fun _ => False) wc (wq.alloc (.cells #[.int .i64 lo, .int .i64 hi] 158)) := hkp.alloc _
            clear c1 c2
            generalize wq.alloc (.cells #[.int .i64 lo, .int .i64 hi] 158) = w5 at hbx hkA ⊢
            generalize wq.heap.size = P5 at hbx ⊢
            have d0 : w5.cell? ⟨P5, 0, none⟩ = some (.int .i64 lo) := by rw [cell_of hbx]; rfl
            go_upto_region 15 with (go_at_call 85; refine (hb1 _).mono ?_; rintro e w6 ⟨rfl, hk6⟩; replace hbx := blkK hbx hk6; have hkB := hkA.trans hk6)
            have d1 : w6.cell? ⟨P5, 0, none⟩ = some (.int .i64 lo) := by rw [cell_of hbx]; rfl
            have d2 : w6.cell? ⟨P5, 1, none⟩ = some (.int .i64 hi) := by rw [cell_of hbx]; rfl
            by_cases hgt : lo < hi
            · have HM : Hid (O ++ A1 ++ (⟨#[45]⟩ ++ A2) = tb (91 :: (cset.take (k + 1)).flatMap rgTxt)) := HN.out hgt
              go_wp2_with (go_at_call 85; refine (hb2 _).mono ?_; rintro e w7 ⟨rfl, hk7⟩)
              all_goals go_roundw
              all_goals (first
                | exact ⟨k + 1, by omega, by go_num, by rw [HM.out], hkB.trans hk7⟩
                | (simp [intOf]; omega))
            · have HM : Hid (O ++ A1 = tb (91 :: (cset.take (k + 1)).flatMap rgTxt)) := HN2.out (by omega)
              go_wp2
              all_goals go_roundw
              all_goals (first
                | exact ⟨k + 1, by omega, by go_num, by rw [HM.out], hkB⟩
                | (simp [intOf]; omega))
          · have hkk : k = cset.length := by omega
            subst hkk
            have hz : ¬ (cset.length : Int) < (cset.length : Int) := by omega
            have hsz : ¬ 9223372036854775807 < (tb (91 :: cset.flatMap rgTxt)).size + 1 := by rw [tb_size, List.length_cons]; omega
            rw [List.take_length]
            go_wp2
            go_ret
            exact ⟨by rw [HE.out, ← HX.out]; rfl, hkz.trans hkp⟩

end Go.Proofs.YtmlgmhnplicflaaGreatDoor

/-
  The specification's WritePattern: every piece, written.
-/
namespace Go.Proofs.YtmlgmhnplicflaaGreatDoor
open Go.RowKit
set_option linter.unusedVariables false

theorem write_all {ps : List Pc} (n : Nat) : WriteC ps n := by
  induction n with
  | zero => intro w v L ok at_ gr i _ h; omega
  | succ n ih =>
    intro w v L ok at_ gr i hS h1 h2
    have hc := List.getElem?_eq_getElem h2
    have hh := hS.sane.head i _ hc
    unfold headBad at hh
    generalize ps[i] = c at hc hh
    rcases (show c.kind = 1 ∨ c.kind = 2 ∨ c.kind = 3 ∨ c.kind = 4 ∨ c.kind = 5 ∨ c.kind = 6 ∨ c.kind = 7 from by omega) with h | h | h | h | h | h | h
    · exact write_1 ih w v L ok at_ gr i hS h1 h2 hc h
    · exact write_2 ih w v L ok at_ gr i hS h1 h2 hc h
    · exact write_3 ih w v L ok at_ gr i hS h1 h2 hc h
    · exact write_4 ih w v L ok at_ gr i hS h1 h2 hc h
    · exact write_5 ih w v L ok at_ gr i hS h1 h2 hc h
    · exact write_6 ih w v L ok at_ gr i hS h1 h2 hc h
    · exact write_7 ih w v L ok at_ gr i hS h1 h2 hc h

/-- What is read is small. -/
def Sm (f : Pf) : Prop := ∀ n, 1 ≤ (f n).length ∧ ∀ c ∈ f n, c.set.length ≤ 128 ∧ c.kids.length ≤ (f n).length
theorem sm_cat (fs : List Pf) (h : ∀ f ∈ fs, Sm f) : ∀ n, fs.length ≤ (cat fs n).length ∧ ∀ c ∈ cat fs n, c.set.length ≤ 128 ∧ c.kids.length ≤ (cat fs n).length := by
  induction fs with
  | nil => intro n; simp [cat]
  | cons f fs ih =>
    intro n
    have a := h f (by simp) n
    have b := ih (fun f hf => h f (by simp [hf])) (n + (f n).length)
    simp only [cat, List.length_append, List.length_cons, List.mem_append]
    refine ⟨by omega, fun c hc => ?_⟩
    rcases hc with hc | hc
    · have := a.2 c hc; omega
    · have := b.2 c hc; omega
theorem ends_length (fs : List Pf) (n : Nat) : (ends fs n).length = fs.length := by
  induction fs generalizing n with
  | nil => rfl
  | cons f fs ih => simp [ends, ih]
theorem sm_kids (K : Int) (fs : List Pf) (h : ∀ f ∈ fs, Sm f) : Sm (fun n => cat fs n ++ [kidsPc K (ends fs n)]) := by
  intro n
  have a := sm_cat fs h n
  simp only [List.length_append, List.length_cons, List.length_nil, List.mem_append, List.mem_singleton]
  refine ⟨by omega, fun c hc => ?_⟩
  rcases hc with hc | rfl
  · have := a.2 c hc; omega
  · simp only [kidsPc, ends_length, List.length_nil]; omega
theorem sm_over (f : Pf) (x : Nat → Pc) (h : Sm f) (hx : ∀ n, (x n).set = [] ∧ (x n).kids.length = 1) : Sm (fun n => f n ++ [x n]) := by
  intro n
  have a := h n
  have b := hx n
  simp only [List.length_append, List.length_cons, List.length_nil, List.mem_append, List.mem_singleton]
  refine ⟨by omega, fun c hc => ?_⟩
  rcases hc with hc | rfl
  · have := a.2 c hc; omega
  · rw [b.1, b.2]; simp
theorem sm_all {f : Pf} (h : Fm f) : Sm f :=
  h _ ⟨fun S n => by
      simp only [setPf, List.length_cons, List.length_nil, List.mem_singleton]
      exact ⟨by omega, fun c hc => by subst hc; exact ⟨ranges_len S, by simp [setPc]⟩⟩,
    fun n => by simp [startPf], fun n => by simp [endPf], fun fs h => sm_kids 2 fs h, fun fs h => sm_kids 3 fs h,
    fun f lo hi lz _ _ _ _ h => sm_over f _ h (fun n => ⟨rfl, rfl⟩), fun f num h => sm_over f _ h (fun n => ⟨rfl, rfl⟩)⟩
theorem rps_small {s : ByteArray} {r : Rres} (h : readRef s = r) : SmallP (rPs r) := by
  cases r with
  | error x => simp [rPs, SmallP]
  | ok v =>
    obtain ⟨g, ps⟩ := v
    obtain ⟨f, hf, rfl, _, hl⟩ := readRef_fm h
    have a := sm_all hf 0
    refine ⟨by simp only [rPs]; omega, fun x hx => ?_⟩
    have := a.2 x hx
    omega

theorem gs_of {ok : Bool} {at_ gr : Int} {ps : List Pc} {r : Rres} (hs : sane ok ps = true) (hr : readRef (tb (wr ps (ps.length - 1))) = r) (h : rOk r = true ∧ rGr r = gr ∧ at_ = 0 ∧ rPs r = ps) : Gs ok at_ gr ps (wr ps (ps.length - 1)) := by
  obtain ⟨h1, h2, h3, h4⟩ := h
  cases r with
  | error x => simp [rOk] at h1
  | ok v =>
    obtain ⟨g, ps'⟩ := v
    simp only [rGr, rPs] at h2 h4
    subst h4
    exact ⟨hs, rfl, ⟨g, hr, h2.symm⟩, h3⟩
theorem gs_not {ok : Bool} {at_ gr : Int} {ps : List Pc} {r : Rres} (hr : readRef (tb (wr ps (ps.length - 1))) = r) (h : ¬ (rOk r = true ∧ rGr r = gr ∧ at_ = 0 ∧ rPs r = ps)) : ∀ t', ¬ Gs ok at_ gr ps t' := by
  rintro t' ⟨_, rfl, ⟨g, b, c⟩, d⟩
  rw [hr] at b
  subst b c d
  exact h ⟨rfl, rfl, rfl, rfl⟩
theorem gs_insane {ok : Bool} {at_ gr : Int} {ps : List Pc} (h : sane ok ps = false) : ∀ t', ¬ Gs ok at_ gr ps t' := by
  rintro t' ⟨a, _⟩
  rw [h] at a
  simp at a

set_option maxHeartbeats 2000000 in
set_option maxRecDepth 100000 in
theorem specWrite_any {w : World} {v : Value} {L : List Pm} {ps : List Pc} {ok : Bool} {at_ gr : Int} (hP : Pcs w v L) (hL : L.map (·.1) = ps) (hs : SmallP ps) :
    Calls Tryz.prog 18 #[.agg #[.bool ok, .int .i64 at_, .int .i64 gr, v]] w (WrPost (Gs ok at_ gr ps) w) := by
  obtain ⟨ao, cap, rfl⟩ := own_form hP.row
  have kA : Keeps (fun _ => False) w (w.alloc (.cells #[.bool ok, .int .i64 at_, .int .i64 gr, .slice ao L.length cap] 33)) := (Keeps.refl _ _).alloc _
  have hB : Pt (w.alloc (.cells #[.bool ok, .int .i64 at_, .int .i64 gr, .slice ao L.length cap] 33)) w.heap.size ok at_ gr (.slice ao L.length cap) := heap_alloc_new w _
  have hsan := l1sane_any (ok := ok) (at_ := at_) (gr := gr) (hP.sameW kA) hL hs
  have hP1 := hP.sameW kA
  cases hq : sane ok ps with
  | false =>
    rw [hq] at hsan
    have HG : Hid (∀ t', ¬ Gs ok at_ gr ps t') := gs_insane hq
    clear hq
    go_enter Tryz.func18, Tryz.ntmps18
    go_wp2_with (first
      | (go_at_call 50; refine hsan.mono ?_; rintro e w2 ⟨rfl, hk2⟩))
    go_ret
    exact wrPost_no HG.out (kA.trans hk2)
  | true =>
    rw [hq] at hsan
    have hS := sane_facts hq
    have hLl : L.length = ps.length := by rw [← hL, List.length_map]
    obtain ⟨t, ht⟩ : ∃ t, wr ps (ps.length - 1) = t := ⟨_, rfl⟩
    obtain ⟨r, hr⟩ : ∃ r, readRef (tb (wr ps (ps.length - 1))) = r := ⟨_, rfl⟩
    have HY : Hid (rOk r = true ∧ rGr r = gr ∧ at_ = 0 ∧ rPs r = ps → Gs ok at_ gr ps t) := (by intro h; rw [← ht]; exact gs_of hq hr h)
    have HN : Hid (¬ (rOk r = true ∧ rGr r = gr ∧ at_ = 0 ∧ rPs r = ps) → ∀ t', ¬ Gs ok at_ gr ps t') := gs_not hr
    have hsm := rps_small hr
    have hlen : t.length ≤ 700000 := by have := hS.len (ps.length - 1) (by have := hS.pos; omega); have := hS.few; rw [ht] at *; omega
    rw [ht] at hr
    have hread := fun w => spec_all (w := w) hr (by rw [tb_size]; omega)
    have hwr : ∀ w9 : World, Keeps (fun _ => False) (w.alloc (.cells #[.bool ok, .int .i64 at_, .int .i64 gr, .slice ao L.length cap] 33)) w9 → Calls Tryz.prog 51 #[.agg #[.bool ok, .int .i64 at_, .int .i64 gr, .slice ao L.length cap], .int .i64 ((L.length : Int) - 1)] w9 fun e w' => e = .returned (.string (tb t)) ∧ Keeps (fun _ => False) w9 w' := by
      intro w9 k9
      have := write_all (ps := ps) ps.length w9 _ L ok at_ gr (ps.length - 1) ⟨hP1.sameW k9, hL, hS⟩ (by have := hS.pos; omega) (by have := hS.pos; omega)
      rw [ht] at this
      rw [show (L.length : Int) - 1 = ((ps.length - 1 : Nat) : Int) from by have := hS.pos; omega]
      exact this
    have hpos : (0 : Int) < (L.length : Int) := by have := hS.pos; omega
    have hlt : (L.length : Int) ≤ 480 := by have := hS.few; omega
    have hwp : IntKind.i64.wrap ((L.length : Int) - 1) = (L.length : Int) - 1 := IntWalk.i64_in _ (by omega)
    clear hq ht hS hLl
    go_enter Tryz.func18, Tryz.ntmps18
    go_upto_region 5 with (first
      | (go_at_call 50; refine hsan.mono ?_; rintro e w2 ⟨rfl, hk2⟩; have hB2 := hB.same hk2; have b0 := hB2.c0; have b1 := hB2.c1; have b2 := hB2.c2; have b3 := hB2.c3; have hw2 := hwr _ hk2)
      | (go_at_call 51; refine hw2.mono ?_; rintro e w3 ⟨rfl, hk3⟩; have hk4 := hk2.trans hk3)
      | (go_at_call 10; refine (hread _).mono ?_; rintro e w5 ⟨v5, L5, rfl, hO5, hL5, hk5⟩; obtain ⟨a5, cp5, rfl⟩ := own_form hO5.row; have hk6 := hk4.trans hk5))
    clear b0 b1 b2 b3 hw2 hwr hsan hB2 hk2 hk3
    have q6 : Pt (w5.alloc (.cells #[.bool (rOk r), .int .i64 (rAt r), .int .i64 (rGr r), .slice a5 L5.length cp5] 33)) w5.heap.size (rOk r) (rAt r) (rGr r) (.slice a5 L5.length cp5) := heap_alloc_new w5 _
    have kZ : Keeps (fun _ => False) w5 (w5.alloc (.cells #[.bool (rOk r), .int .i64 (rAt r), .int .i64 (rGr r), .slice a5 L5.length cp5] 33)) := (Keeps.refl _ _).alloc _
    have hk7 := hk6.trans kZ
    have q7 := hB.same hk7
    have hO7 := hO5.sameW kZ
    have hP7 := hP1.sameW hk7
    generalize w5.alloc (.cells #[.bool (rOk r), .int .i64 (rAt r), .int .i64 (rGr r), .slice a5 L5.length cp5] 33) = w6 at q6 kZ hk7 q7 hO7 hP7 ⊢
    generalize w5.heap.size = P6 at q6 ⊢
    have hkz := kA.trans hk7
    have hpc := l1pieces_any hO7 hP7 (by rw [hL5]; exact hsm) (by rw [hL]; exact hs)
    rw [hL5, hL] at hpc
    clear hB hP hP1 hO5 hk4 hk5 hk6 kZ hk7 kA hread hO7 hP7 hL5 hsm
    have c0 := q6.c0; have c2 := q6.c2; have c3 := q6.c3
    have d1 := q7.c1; have d2 := q7.c2; have d3 := q7.c3
    clear q6 q7
    have HR : Hid (readRef (tb t) = r) := hr
    clear hr
    generalize rOk r = rk at HY HN c0
    generalize rGr r = rg at HY HN c2
    cases rk with
    | false =>
      have HG : Hid (∀ t', ¬ Gs ok at_ gr ps t') := HN.out (by simp)
      clear HN HY
      go_wp2
      go_ret
      exact wrPost_no HG.out hkz
    | true =>
      by_cases hg : rg = gr
      · subst hg
        by_cases h0 : at_ = 0
        · subst h0
          by_cases hp : rPs r = ps
          · have HG : Hid (Gs ok 0 rg ps t) := HY.out ⟨rfl, rfl, rfl, hp⟩
            have HQ : Hid (rPs r = ps) := hp
            clear HN HY hp
            go_wp2_with (go_at_call 52; refine hpc.mono ?_; rintro e w7 ⟨b, rfl, hb, hk7⟩; obtain rfl : b = true := hb.2 HQ.out)
            go_ret
            exact wrPost_yes HG.out (hkz.trans hk7)
          · have HG : Hid (∀ t', ¬ Gs ok 0 rg ps t') := HN.out (by simp [hp])
            have HQ : Hid (¬ rPs r = ps) := hp
            clear HN HY hp
            go_wp2_with (go_at_call 52; refine hpc.mono ?_; rintro e w7 ⟨b, rfl, hb, hk7⟩; obtain rfl : b = false := (by cases b; rfl; exact absurd (hb.1 rfl) HQ.out))
            go_ret
            exact wrPost_no HG.out (hkz.trans hk7)
        · have HG : Hid (∀ t', ¬ Gs ok at_ rg ps t') := HN.out (by simp [h0])
          have hb : (at_ != 0) = true := by simpa using h0
          clear HN HY
          go_wp2
          go_ret
          exact wrPost_no HG.out hkz
      · have HG : Hid (∀ t', ¬ Gs ok at_ gr ps t') := HN.out (by simp [hg])
        have hb : (rg != gr) = true := by simpa using hg
        clear HN HY
        go_wp2
        go_ret
        exact wrPost_no HG.out hkz

end Go.Proofs.YtmlgmhnplicflaaGreatDoor
