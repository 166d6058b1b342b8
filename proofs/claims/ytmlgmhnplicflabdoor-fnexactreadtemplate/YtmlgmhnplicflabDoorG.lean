import Derived.Test.YtmlgmhnplicflabDoorE

/-
  Templates: the laws' comparisons and marks.
-/
namespace Go.Proofs.YtmlgmhnplicflabDoor
open Go.RowKit
set_option linter.unusedVariables false

theorem BR.same {w w' : World} {base : Nat} {v : Value} {L : List Bt} (h : BR w base v L) (k : Keeps (fun _ => False) w w') : BR w' base v L := ownsRow_keeps h k (fun _ _ h => h)
theorem br_at {w : World} {base : Nat} {v : Value} {L : List Bt} (h : BR w base v L) (hn : 0 < L.length) : ∃ g cap, v = .slice (some ⟨g, 0, none⟩) L.length cap ∧ base ≤ g := by
  unfold BR at h
  obtain ⟨m, hm⟩ : ∃ m, L.length = m + 1 := ⟨L.length - 1, by omega⟩
  rw [hm] at h ⊢
  obtain ⟨g, cap, rfl, h1, h2⟩ := own_some h
  exact ⟨g, cap, rfl, h1⟩

theorem eqBit_same (x : Bt) (w : World) : Calls Tryd.prog 31 #[.agg #[.int .i64 x.1, .string x.2], .agg #[.int .i64 x.1, .string x.2]] w fun e w' => e = .returned (.bool true) ∧ Keeps (fun _ => False) w w' := by
  go_enter Tryd.func31, Tryd.ntmps31
  go_wp2
  go_ret
  exact ⟨rfl, ((Keeps.refl _ _).alloc _).alloc _⟩

set_option maxHeartbeats 400000 in
theorem eqBitS_same {w : World} {b1 b2 : Nat} {v1 v2 : Value} {L : List Bt} (h1 : BR w b1 v1 L) (h2 : BR w b2 v2 L) (hl : L.length ≤ 10000000) :
    Calls Tryd.prog 18 #[v1, v2] w fun e w' => e = .returned (.bool true) ∧ Keeps (fun _ => False) w w' := by
  by_cases hn : 0 < L.length
  · obtain ⟨g1, c1, rfl, -⟩ := br_at h1 hn
    obtain ⟨g2, c2, rfl, -⟩ := br_at h2 hn
    go_enter Tryd.func18, Tryd.ntmps18
    go_wp2
    go_loopw [5] (fun i wr => ∃ k : Nat, k ≤ L.length ∧ i = .int .i64 k ∧ Keeps (fun _ => False) w wr) (fun i _ => L.length - (intOf i).toNat)
    case atStart => exact ⟨0, by omega, rfl, Keeps.refl _ _⟩
    case round =>
      obtain ⟨k, hk, rfl, hkp⟩ := hrel
      by_cases hlt : k < L.length
      · have hx : L[k]? = some L[k] := List.getElem?_eq_getElem hlt
        have a1 := (h1.same hkp).cellAt (k * 2) (by omega)
        have a2 := (h1.same hkp).cellAt (k * 2 + 1) (by omega)
        have a3 := (h2.same hkp).cellAt (k * 2) (by omega)
        have a4 := (h2.same hkp).cellAt (k * 2 + 1) (by omega)
        rw [(cell2_get L k _ hx).1] at a1 a3
        rw [(cell2_get L k _ hx).2] at a2 a4
        have hkz : (k : Int) < (L.length : Int) := by omega
        generalize L[k] = x at a1 a2 a3 a4
        clear h1 h2 hx
        go_wp2
        go_region_with (go_at_call 31; refine (eqBit_same x _).mono ?_; rintro e w2 ⟨rfl, hk2⟩)
        all_goals go_wp2
        all_goals go_roundw
        all_goals (first
          | exact ⟨k + 1, by omega, by go_num, (hkp.drew).trans hk2⟩
          | (simp [intOf]; omega))
      · go_wp2
        go_ret
        exact ⟨rfl, hkp⟩
  · have hl0 : L = [] := List.eq_nil_of_length_eq_zero (by omega)
    subst hl0
    obtain ⟨a1, c1, rfl⟩ := own_form h1
    obtain ⟨a2, c2, rfl⟩ := own_form h2
    clear h1 h2
    go_enter Tryd.func18, Tryd.ntmps18
    go_wp2
    refine wp_loop_rounds 1 ?_
    rw [rounds_succ]
    go_wp2
    go_ret
    exact ⟨rfl, Keeps.refl _ _⟩

set_option maxHeartbeats 400000 in
theorem eqTemplate_same {w : World} {ok : Bool} {at_ : Int} {b1 b2 : Nat} {v1 v2 : Value} {L : List Bt} (h1 : BR w b1 v1 L) (h2 : BR w b2 v2 L) (hl : L.length ≤ 10000000) :
    Calls Tryd.prog 8 #[.agg #[.bool ok, .int .i64 at_, v1], .agg #[.bool ok, .int .i64 at_, v2]] w fun e w' => e = .returned (.bool true) ∧ Keeps (fun _ => False) w w' := by
  obtain ⟨ao1, cp1, rfl⟩ := own_form h1
  obtain ⟨ao2, cp2, rfl⟩ := own_form h2
  go_enter Tryd.func8, Tryd.ntmps8
  go_wp2_with (first
    | (go_at_call 18; refine (eqBitS_same (h1.same (((Keeps.refl _ _).alloc _).alloc _)) (h2.same (((Keeps.refl _ _).alloc _).alloc _)) hl).mono ?_; rintro e w2 ⟨rfl, hk2⟩))
  go_ret
  exact ⟨rfl, (((Keeps.refl _ _).alloc _).alloc _).trans hk2⟩

/-- Digits. -/
def dgs : Nat → Nat → ByteArray → ByteArray
  | 0, _, out => out
  | f + 1, k, out => if k = 0 then out else dgs f (k / 10) (⟨#[48 + UInt8.ofNat (k % 10)]⟩ ++ out)
def mtx (k : Nat) : ByteArray := ⟨#[109]⟩ ++ dgs 5 k ⟨#[]⟩
theorem conv_one2 (n : Int) (w : World) : Sem.run Tryd.prog (convert 46 9 (Value.slice (some { block := w.heap.size, off := 0 }) 1 1)) (w.alloc (Obj.cells #[Value.int IntKind.u8 n] 5)) = .ok (.string ⟨#[UInt8.ofNat n.toNat]⟩) (w.alloc (Obj.cells #[Value.int IntKind.u8 n] 5)) := conv_one n w

set_option maxHeartbeats 1000000 in
set_option maxRecDepth 100000 in
theorem markText_any {w : World} {k : Nat} (h1 : 1 ≤ k) (h2 : k < 100000) : Calls Tryd.prog 32 #[.int .i64 (k : Int)] w fun e w' => e = .returned (.string (mtx k)) ∧ Keeps (fun _ => False) w w' := by
  have hz : ¬ (k : Int) ≤ 0 := by omega
  go_enter Tryd.func32, Tryd.ntmps32
  go_wp2
  go_loopg [0, 3] 5 (fun gl s0 s3 wr => ∃ (j : Nat) (out : ByteArray), j < 10 ^ gl ∧ gl ≤ 5 ∧ out.size + gl ≤ 5 ∧ s0 = .int .i64 (j : Int) ∧ s3 = .string out ∧ Hid (dgs gl j out = dgs 5 k ⟨#[]⟩) ∧ Keeps (fun _ => False) w wr)
  case atStart => exact ⟨k, ⟨#[]⟩, by omega, by omega, Nat.le_refl 5, rfl, rfl, rfl, Keeps.refl _ _⟩
  case round =>
    obtain ⟨j, out, hj, hg5, ho, rfl, rfl, HD, hK⟩ := hrel
    by_cases hj0 : j = 0
    · subst hj0
      have HX : Hid (out = dgs 5 k ⟨#[]⟩) := (by
        show _ = _
        rw [← HD.out]
        cases gk with
        | zero => rfl
        | succ f => simp [dgs])
      have hsz : ¬ 9223372036854775807 < 1 + out.size := by omega
      go_wp2_with fail
      go_ret
      exact ⟨by rw [mtx, ← HX.out]; rfl, hK⟩
    · obtain ⟨f, rfl⟩ : ∃ f, gk = f + 1 := ⟨gk - 1, by
        cases gk with
        | zero => simp at hj; omega
        | succ f => rfl⟩
      have hjz : (0 : Int) < (j : Int) := by omega
      have HX : Hid (dgs f (j / 10) (⟨#[48 + UInt8.ofNat (j % 10)]⟩ ++ out) = dgs 5 k ⟨#[]⟩) := (by show _ = _; rw [← HD.out, dgs, if_neg hj0])
      have hjl : j < 100000 := by
        have : (10 : Nat) ^ (f + 1) ≤ 10 ^ 5 := Nat.pow_le_pow_right (by omega) (by omega)
        omega
      have HJ : Hid (j / 10 < 10 ^ f) := (by show _ < _; rw [Nat.div_lt_iff_lt_mul (by omega)]; rw [Nat.pow_succ] at hj; exact hj)
      have hr : ((j : Int)).tmod 10 = ((j % 10 : Nat) : Int) := by rw [Int.tmod_eq_emod_of_nonneg (by omega)]; omega
      have hq : ((j : Int)).tdiv 10 = ((j / 10 : Nat) : Int) := by rw [Int.tdiv_eq_ediv_of_nonneg (by omega)]; omega
      have hml : j % 10 < 10 := Nat.mod_lt _ (by omega)
      have hdl : j / 10 < 100000 := by omega
      generalize hme : j % 10 = m at hr hml HX
      generalize hde : j / 10 = d at hq HX HJ hdl
      clear hme hde
      have hw : IntKind.u8.wrap (48 + (m : Int)) = 48 + (m : Int) := by unfold IntKind.wrap; simp [IntKind.bits, IntKind.signed]; omega
      have hcv := conv_one2 (48 + (m : Int))
      have htn : (48 + (m : Int)).toNat = 48 + m := by omega
      rw [htn] at hcv
      have hsz : ¬ 9223372036854775807 < 1 + out.size := by omega
      clear hj
      go_wp2_with fail
      go_roundg (f + 1 - 1)
      case measure => omega
      case rel => exact ⟨d, _, HJ.out, by omega, by rw [ByteArray.size_append]; show 1 + out.size + f ≤ 5; omega, rfl, rfl, HX, hK.alloc _⟩

/-- Bits as they are marked. -/
def mkB (k : Nat) (n : Nat) : List Bt := (List.range n).map fun (j : Nat) => (((k + 2 * j : Nat) : Int), mtx (k + 2 * j + 1))
theorem mkB_len (k n : Nat) : (mkB k n).length = n := by simp [mkB]
theorem mkB_succ (k n : Nat) : mkB k (n + 1) = mkB k n ++ [(((k + 2 * n : Nat) : Int), mtx (k + 2 * n + 1))] := by simp [mkB, List.range_succ]
theorem setB (L : List Bt) (k i : Nat) (h : i < L.length) : (((mkB k i ++ L.drop i).flatMap cell2).set (i * 2) (.int .i64 ((k + 2 * i : Nat) : Int))).set (i * 2 + 1) (.string (mtx (k + 2 * i + 1))) = (mkB k (i + 1) ++ L.drop (i + 1)).flatMap cell2 := by
  rw [List.drop_eq_getElem_cons h, mkB_succ]
  have hl : ((mkB k i).flatMap cell2).length = i * 2 := by rw [cell2_len, mkB_len]
  rw [List.flatMap_append, List.flatMap_append, List.flatMap_append, List.set_append_right _ _ (by omega), List.set_append_right _ _ (by omega), hl]
  have e3 : i * 2 + 1 - i * 2 = 1 := by omega
  rw [e3]
  generalize L[i] = x
  generalize L.drop (i + 1) = D
  simp [cell2]

set_option maxHeartbeats 1000000 in
theorem markBitS_any {w : World} {b : Nat} {v : Value} {L : List Bt} {k : Nat} (h : BR w b v L) (hl : L.length ≤ 1000) (hk0 : 1 ≤ k) (hk : k ≤ 1000) :
    Calls Tryd.prog 19 #[v, .int .i64 (k : Int)] w fun e w' => e = .returned (.int .i64 ((k + 2 * L.length : Nat) : Int)) ∧ BR w' b v (mkB k L.length) ∧ Keeps (fun j => v.ownBlock = some j) w w' := by
  by_cases hn : 0 < L.length
  · obtain ⟨g, cap, rfl, -⟩ := br_at h hn
    go_enter Tryd.func19, Tryd.ntmps19
    go_wp2
    go_loopw [1, 5] (fun x i wr => ∃ j : Nat, j ≤ L.length ∧ i = .int .i64 j ∧ x = .int .i64 ((k + 2 * j : Nat) : Int) ∧ wr.ownsRow b 35 2 (.slice (some ⟨g, 0, none⟩) L.length cap) L.length ((mkB k j ++ L.drop j).flatMap cell2) ∧ Keeps (fun j => j = g) w wr) (fun _ i _ => L.length - (intOf i).toNat)
    case atStart => exact ⟨0, by omega, rfl, rfl, by unfold BR at h; simpa [mkB] using h, Keeps.refl _ _⟩
    case round =>
      obtain ⟨j, hj, rfl, rfl, hrow, hkp⟩ := hrel
      by_cases hlt : j < L.length
      · have hlen : ((mkB k j ++ L.drop j).flatMap cell2).length = L.length * 2 := by rw [cell2_len]; simp [mkB_len]; omega
        have c1 : ∃ u, wr.cell? ⟨g, j * 2, none⟩ = some u := by
          rw [hrow.cellAt _ (by omega)]
          exact ⟨_, List.getElem?_eq_getElem (by omega)⟩
        have c2 : ∃ u, (wr.setCell ⟨g, j * 2, none⟩ (.int .i64 ((k + 2 * j : Nat) : Int))).cell? ⟨g, j * 2 + 1, none⟩ = some u := by
          rw [(hrow.stored (j * 2) (.int .i64 ((k + 2 * j : Nat) : Int))).1.cellAt _ (by omega)]
          exact ⟨_, List.getElem?_eq_getElem (by rw [List.length_set]; omega)⟩
        obtain ⟨u, c1⟩ := c1
        obtain ⟨u2, c2⟩ := c2
        have f1 := hrow.frozenAt (j * 2)
        have hst := (hrow.stored (j * 2) (.int .i64 ((k + 2 * j : Nat) : Int))).1
        have f2 := hst.frozenAt (j * 2 + 1)
        have hkp1 : Keeps (fun j => j = g) w (wr.setCell ⟨g, j * 2, none⟩ (.int .i64 ((k + 2 * j : Nat) : Int))) := hkp.setCell (fun _ => rfl) _
        have hjz : (j : Int) < (L.length : Int) := by omega
        have HS : Hid ((((mkB k j ++ L.drop j).flatMap cell2).set (j * 2) (.int .i64 ((k + 2 * j : Nat) : Int))).set (j * 2 + 1) (.string (mtx (k + 2 * j + 1))) = (mkB k (j + 1) ++ L.drop (j + 1)).flatMap cell2) := setB L k j hlt
        generalize ((mkB k j ++ L.drop j).flatMap cell2).set (j * 2) (.int .i64 ((k + 2 * j : Nat) : Int)) = xs at hst HS
        have hkb : k + 2 * j ≤ 3000 := by omega
        generalize hke : k + 2 * j = kj at *
        clear hlen hrow hkp
        go_upto_region 5 with fail
        generalize wr.setCell ⟨g, j * 2, none⟩ (.int .i64 (kj : Int)) = w1 at hst c2 f2 hkp1 ⊢
        have hgl : g < w1.heap.size := (hst.lt g rfl).2
        have hcall := markText_any (w := w1) (k := kj + 1) (by omega) (by omega)
        go_upto_region 7 with (first
          | (go_at_call 32; refine hcall.mono ?_; rintro e w2 ⟨rfl, hk2⟩; have hst2 := ownsRow_keeps hst hk2 (fun _ _ h => h); have c3 : w2.cell? ⟨g, j * 2 + 1, none⟩ = some u2 := (by rw [← c2]; simp only [World.cell?, hk2.block g hgl (fun h => h)]); have f3 := hst2.frozenAt (j * 2 + 1)))
        have hst3 := (hst2.stored (j * 2 + 1) (.string (mtx (kj + 1)))).1
        have hkp3 : Keeps (fun j => j = g) w (w2.setCell ⟨g, j * 2 + 1, none⟩ (.string (mtx (kj + 1)))) := ((hkp1.trans (hk2.mono (fun _ _ h => h.elim))).setCell (fun _ => rfl) _)
        rw [HS.out] at hst3
        go_wp2_with fail
        go_roundw
        case rel => exact ⟨j + 1, by omega, by go_num, congrArg (Value.int .i64) (by omega), hst3, hkp3⟩
        case measure => simp [intOf]; omega
      · obtain rfl : j = L.length := by omega
        go_wp2
        go_ret
        refine ⟨rfl, by simpa [BR, mkB_len] using hrow, hkp.mono fun i _ h => by simp [Value.ownBlock, h]⟩
  · have hl0 : L = [] := List.eq_nil_of_length_eq_zero (by omega)
    subst hl0
    have h' := h
    obtain ⟨a1, c1, rfl⟩ := own_form h
    clear h
    go_enter Tryd.func19, Tryd.ntmps19
    go_wp2
    refine wp_loop_rounds 1 ?_
    rw [rounds_succ]
    go_wp2
    go_ret
    exact ⟨by simp, by simpa [mkB] using h', Keeps.refl _ _⟩

set_option maxHeartbeats 1000000 in
theorem heldBitS_any {w : World} {b : Nat} {v : Value} {L : List Bt} {n k : Nat} (hm : L = mkB k n) (h : BR w b v L) (hn1 : n ≤ 1000) (hk0 : 1 ≤ k) (hk : k ≤ 1000) :
    Calls Tryd.prog 20 #[v, .int .i64 (k : Int)] w fun e w' => e = .returned (.int .i64 ((k + 2 * n : Nat) : Int)) ∧ Keeps (fun _ => False) w w' := by
  have hln : L.length = n := by rw [hm, mkB_len]
  by_cases hn : 0 < L.length
  · obtain ⟨g, cap, rfl, -⟩ := br_at h hn
    have hx : ∀ j, j < n → L[j]? = some (((k + 2 * j : Nat) : Int), mtx (k + 2 * j + 1)) := fun j hj => by rw [hm]; simp [mkB, hj]
    obtain ⟨N, hN⟩ : ∃ N, L.length = N := ⟨_, rfl⟩
    have HN : Hid (N = n) := hN.symm.trans hln
    have hNz : N ≤ 1000 := by have := HN.out; omega
    have k1 : ∀ wr, Keeps (fun _ => False) w wr → ∀ j, j < N → wr.cell? ⟨g, j * 2, none⟩ = some (.int .i64 ((k + 2 * j : Nat) : Int)) ∧ wr.cell? ⟨g, j * 2 + 1, none⟩ = some (.string (mtx (k + 2 * j + 1))) := fun wr hkp j hj => by
      have hr := h.same hkp
      have hj' : j < n := by have := HN.out; omega
      refine ⟨?_, ?_⟩
      · rw [hr.cellAt _ (by omega)]; exact (cell2_get L j _ (hx j hj')).1
      · rw [hr.cellAt _ (by omega)]; exact (cell2_get L j _ (hx j hj')).2
    rw [hN] at hn ⊢
    clear h hm hln hN hx
    go_enter Tryd.func20, Tryd.ntmps20
    go_wp2
    go_loopw [1, 5] (fun x i wr => ∃ j : Nat, j ≤ N ∧ i = .int .i64 j ∧ x = .int .i64 ((k + 2 * j : Nat) : Int) ∧ Keeps (fun _ => False) w wr) (fun _ i _ => N - (intOf i).toNat)
    case atStart => exact ⟨0, by omega, rfl, rfl, Keeps.refl _ _⟩
    case round =>
      obtain ⟨j, hj, rfl, rfl, hkp⟩ := hrel
      by_cases hlt : j < N
      · obtain ⟨a1, a2⟩ := k1 wr hkp j hlt
        have hjz : (j : Int) < (N : Int) := by omega
        have hkb : k + 2 * j ≤ 3000 := by omega
        have HK : Hid (∀ wr', Keeps (fun _ => False) w wr' → wr'.cell? ⟨g, j * 2 + 1, none⟩ = some (.string (mtx (k + 2 * j + 1)))) := (by show ∀ _, _; exact fun wr' h => (k1 wr' h j hlt).2)
        generalize hke : k + 2 * j = kj at *
        clear k1
        go_wp2
        have hcall := markText_any (w := wr.drew) (k := kj + 1) (by omega) (by omega)
        go_region_with (go_at_call 32; refine hcall.mono ?_; rintro e w2 ⟨rfl, hk2⟩; have a3 : w2.cell? ⟨g, j * 2 + 1, none⟩ = some (.string (mtx (kj + 1))) := HK.out w2 ((hkp.drew).trans hk2))
        all_goals go_wp2
        all_goals go_roundw
        all_goals (first
          | exact ⟨j + 1, by omega, by go_num, congrArg (Value.int .i64) (by omega), (hkp.drew).trans hk2⟩
          | (simp [intOf]; omega))
      · obtain rfl : j = N := by omega
        go_wp2
        go_ret
        exact ⟨congrArg (fun x => Ending.returned (Value.int .i64 x)) (by have := HN.out; omega), hkp⟩
  · have hl0 : L.length = 0 := by omega
    obtain rfl : n = 0 := by omega
    obtain ⟨a1, c1, rfl⟩ := own_form h
    rw [hl0]
    clear h hm hln hl0 hn
    go_enter Tryd.func20, Tryd.ntmps20
    go_wp2
    refine wp_loop_rounds 1 ?_
    rw [rounds_succ]
    go_wp2
    go_ret
    exact ⟨by simp, Keeps.refl _ _⟩

set_option maxHeartbeats 400000 in
theorem markTemplate_any {w : World} {ok : Bool} {at_ : Int} {b : Nat} {v : Value} {L : List Bt} (h : BR w b v L) (hl : L.length ≤ 1000) :
    Calls Tryd.prog 9 #[.agg #[.bool ok, .int .i64 at_, v], .int .i64 1] w fun e w' => e = .returned (.int .i64 ((1 + 2 * L.length : Nat) : Int)) ∧ BR w' b v (mkB 1 L.length) ∧ Keeps (fun j => v.ownBlock = some j) w w' := by
  have hcall := markBitS_any (k := 1) (h.same ((Keeps.refl (fun _ => False) w).alloc (.cells #[.bool ok, .int .i64 at_, v] 24))) hl (by omega) (by omega)
  obtain ⟨ao1, cp1, rfl⟩ := own_form h
  generalize hme : 1 + 2 * L.length = m at hcall ⊢
  clear hme h
  go_enter Tryd.func9, Tryd.ntmps9
  go_wp2_with (first
    | (go_at_call 19; refine hcall.mono ?_; rintro e w2 ⟨rfl, hP2, hk2⟩))
  go_ret
  exact ⟨rfl, hP2, ((Keeps.refl _ _).alloc _).trans hk2⟩

set_option maxHeartbeats 400000 in
theorem heldTemplate_any {w : World} {ok : Bool} {at_ : Int} {b : Nat} {v : Value} {n : Nat} (h : BR w b v (mkB 1 n)) (hl : n ≤ 1000) :
    Calls Tryd.prog 10 #[.agg #[.bool ok, .int .i64 at_, v], .int .i64 1] w fun e w' => e = .returned (.int .i64 ((1 + 2 * n : Nat) : Int)) ∧ Keeps (fun _ => False) w w' := by
  have hcall := heldBitS_any (k := 1) rfl (h.same ((Keeps.refl (fun _ => False) w).alloc (.cells #[.bool ok, .int .i64 at_, v] 24))) hl (by omega) (by omega)
  obtain ⟨ao1, cp1, rfl⟩ := own_form h
  have hz : ¬ ((1 + 2 * n : Nat) : Int) < 0 := by omega
  generalize hme : 1 + 2 * n = m at hcall hz ⊢
  clear hme h
  go_enter Tryd.func10, Tryd.ntmps10
  go_wp2_with (first
    | (go_at_call 20; refine hcall.mono ?_; rintro e w2 ⟨rfl, hk2⟩))
  go_ret
  exact ⟨rfl, ((Keeps.refl _ _).alloc _).trans hk2⟩

end Go.Proofs.YtmlgmhnplicflabDoor
