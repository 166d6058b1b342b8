import Derived.Test.YtmlgmhnplicflaaGreatDoorAB
import Derived.Test.YtmlgmhnplicflaaGreatDoorA

/-
  The specification's numbers.
-/
namespace Go.Proofs.YtmlgmhnplicflaaGreatDoor
open Go.RowKit
set_option linter.unusedVariables false

theorem itoa_one {n : Int} (h0 : 0 ≤ n) (h1 : n < 10) : Lib.itoa n = [UInt8.ofNat (48 + n).toNat] := by
  unfold Lib.itoa
  rw [if_neg (by omega), Lib.decDigits, dif_pos (by omega)]
  congr 2
  omega
theorem itoa_two {n : Int} (h0 : 10 ≤ n) (h1 : n < 100) : Lib.itoa n = [UInt8.ofNat (48 + n / 10).toNat, UInt8.ofNat (48 + n % 10).toNat] := by
  unfold Lib.itoa
  rw [if_neg (by omega), Lib.decDigits, dif_neg (by omega), Lib.decDigits, dif_pos (by omega)]
  simp only [List.singleton_append, List.cons.injEq, and_true]
  constructor
  · congr 1; omega
  · congr 1; omega

set_option maxHeartbeats 1000000 in
set_option maxRecDepth 100000 in
theorem l1decimal_one {w : World} {n : Int} (h0 : 0 ≤ n) (h1 : n < 10) :
    Calls Tryz.prog 36 #[.int .i64 n] w fun e w' => e = .returned (.string (tb (Lib.itoa n))) ∧ Keeps (fun _ => False) w w' := by
  have e1 : n.tmod 10 = n := by rw [Int.tmod_eq_emod_of_nonneg h0]; omega
  have e2 : n.tdiv 10 = 0 := by rw [Int.tdiv_eq_ediv_of_nonneg h0]; omega
  have e3 : IntKind.i64.wrap (48 + n) = 48 + n := IntWalk.i64_in _ (by omega)
  have e4 : IntKind.u8.wrap (48 + n) = 48 + n := IntWalk.u8_in _ (by omega)
  have hc := fun w => Esc.conv_one (48 + n) w
  have HE : Hid (tb (Lib.itoa n) = ⟨#[UInt8.ofNat (48 + n).toNat]⟩) := (by show _ = _; rw [itoa_one h0 h1]; rfl)
  go_enter Tryz.func36, Tryz.ntmps36
  go_wp2
  refine wp_loop_rounds 1 ?_
  rw [rounds_succ]
  go_wp2
  go_ret
  exact ⟨Esc.ret_str (by rw [HE.out]; rfl), (Keeps.refl _ _).alloc _⟩

set_option maxHeartbeats 1000000 in
set_option maxRecDepth 100000 in
theorem l1decimal_two {w : World} {n : Int} (h0 : 10 ≤ n) (h1 : n < 100) :
    Calls Tryz.prog 36 #[.int .i64 n] w fun e w' => e = .returned (.string (tb (Lib.itoa n))) ∧ Keeps (fun _ => False) w w' := by
  obtain ⟨a, ha⟩ : ∃ a, n / 10 = a := ⟨_, rfl⟩
  obtain ⟨b, hb⟩ : ∃ b, n % 10 = b := ⟨_, rfl⟩
  have e1 : n.tmod 10 = b := by rw [Int.tmod_eq_emod_of_nonneg (by omega)]; omega
  have e2 : n.tdiv 10 = a := by rw [Int.tdiv_eq_ediv_of_nonneg (by omega)]; omega
  have f1 : a.tmod 10 = a := by rw [Int.tmod_eq_emod_of_nonneg (by omega)]; omega
  have f2 : a.tdiv 10 = 0 := by rw [Int.tdiv_eq_ediv_of_nonneg (by omega)]; omega
  have e3 : IntKind.i64.wrap (48 + b) = 48 + b := IntWalk.i64_in _ (by omega)
  have e4 : IntKind.u8.wrap (48 + b) = 48 + b := IntWalk.u8_in _ (by omega)
  have e5 : IntKind.i64.wrap (48 + a) = 48 + a := IntWalk.i64_in _ (by omega)
  have e6 : IntKind.u8.wrap (48 + a) = 48 + a := IntWalk.u8_in _ (by omega)
  have e7 : IntKind.i64.wrap a = a := IntWalk.i64_in _ (by omega)
  have ha0 : ¬ a = 0 := by omega
  have ha0b : (a == 0) = false := by simpa using ha0
  have hc := fun w => Esc.conv_one (48 + b) w
  have hc2 := Esc.conv_one (48 + a) (w.alloc (.cells #[.int .u8 (48 + b)] 5))
  rw [show (w.alloc (.cells #[.int .u8 (48 + b)] 5)).heap.size = w.heap.size + 1 from by simp] at hc2
  have HE : Hid (tb (Lib.itoa n) = ⟨#[UInt8.ofNat (48 + a).toNat, UInt8.ofNat (48 + b).toNat]⟩) := (by show _ = _; rw [itoa_two h0 h1, ha, hb]; rfl)
  clear ha hb
  go_enter Tryz.func36, Tryz.ntmps36
  go_wp2
  refine wp_loop_rounds 2 ?_
  rw [rounds_succ]
  go_wp2
  rw [rounds_succ]
  go_wp2
  go_ret
  exact ⟨Esc.ret_str (by rw [HE.out]; rfl), ((Keeps.refl _ _).alloc _).alloc _⟩

theorem l1decimal_any {w : World} {n : Int} (h0 : 0 ≤ n) (h1 : n ≤ 50) :
    Calls Tryz.prog 36 #[.int .i64 n] w fun e w' => e = .returned (.string (tb (Lib.itoa n))) ∧ Keeps (fun _ => False) w w' := by
  by_cases h : n < 10
  · exact l1decimal_one h0 h
  · exact l1decimal_two (by omega) (by omega)

end Go.Proofs.YtmlgmhnplicflaaGreatDoor
