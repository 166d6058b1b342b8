import Derived.Test.YtmlgmhnplicflabRows
import Derived.WalkKit
import Derived.Deep.QuietTactic
import Derived.BigQuiet
import Derived.RegionTactic

/-
  The bytes of a text, written as a pattern: the small callees.
-/
namespace Go.Proofs.Ytmlgmhnplicflab.Esc
open Go.RowKit
set_option maxRecDepth 100000

def isP (n : Int) : Bool := decide (33 ≤ n) && decide (n ≤ 126)
def isL (n : Int) : Bool := (decide (97 ≤ n) && decide (n ≤ 122)) || (decide (65 ≤ n) && decide (n ≤ 90))
def isD (n : Int) : Bool := decide (48 ≤ n) && decide (n ≤ 57)

theorem ret_bool {a b : Bool} (h : a = b) : Ending.returned (.bool a) = .returned (.bool b) := by rw [h]

theorem isPrinted_any (n : Int) (w : World) : Calls Try.prog 8 #[.int .u8 n] w fun e w' => e = .returned (.bool (isP n)) ∧ w' = w := by
  by_cases h1 : 33 ≤ n <;> by_cases h2 : n ≤ 126 <;>
  · go_enter Try.func8, Try.ntmps8
    go_wp2
    go_ret
    exact ⟨ret_bool (by simp [isP, h1, h2]), rfl⟩

theorem isDigit_any (n : Int) (w : World) : Calls Try.prog 11 #[.int .u8 n] w fun e w' => e = .returned (.bool (isD n)) ∧ w' = w := by
  by_cases h1 : 48 ≤ n <;> by_cases h2 : n ≤ 57 <;>
  · go_enter Try.func11, Try.ntmps11
    go_wp2
    go_ret
    exact ⟨ret_bool (by simp [isD, h1, h2]), rfl⟩

theorem isLetter_any (n : Int) (w : World) : Calls Try.prog 10 #[.int .u8 n] w fun e w' => e = .returned (.bool (isL n)) ∧ w' = w := by
  by_cases h1 : 97 ≤ n <;> by_cases h2 : n ≤ 122 <;> by_cases h3 : 65 ≤ n <;> by_cases h4 : n ≤ 90 <;>
  · go_enter Try.func10, Try.ntmps10
    go_wp2
    go_ret
    exact ⟨ret_bool (by simp [isL, h1, h2, h3, h4]), rfl⟩
end Go.Proofs.Ytmlgmhnplicflab.Esc
