import Derived.Test.YtmlgmhnplicflabOne
import Derived.WalkSmall

namespace Go.Proofs.Ytmlgmhnplicflab.Esc
open Go.RowKit
set_option maxRecDepth 100000

def hexd (k : Nat) : UInt8 := if k < 10 then UInt8.ofNat (48 + k) else UInt8.ofNat (87 + k)

theorem slice_hex (a : Nat) (h : a < 16) (w : World) : Sem.run Try.prog (Instr.slice 9 (.string { data := #[48, 49, 50, 51, 52, 53, 54, 55, 56, 57, 97, 98, 99, 100, 101, 102] }) (some (.int .i64 (a : Int))) (some (.int .i64 ((a : Int) + 1))) none) w = .ok (.string ⟨#[hexd a]⟩) w := by
  rcases (show a = 0 ∨ a = 1 ∨ a = 2 ∨ a = 3 ∨ a = 4 ∨ a = 5 ∨ a = 6 ∨ a = 7 ∨ a = 8 ∨ a = 9 ∨ a = 10 ∨ a = 11 ∨ a = 12 ∨ a = 13 ∨ a = 14 ∨ a = 15 from by omega) with h | h | h | h | h | h | h | h | h | h | h | h | h | h | h | h <;> subst h <;> kernel_rfl

theorem conv_one (n : Int) (w : World) : Sem.run Try.prog (convert 25 9 (Value.slice (some { block := w.heap.size, off := 0 }) 1 1)) (w.alloc (Obj.cells #[Value.int IntKind.u8 n] 5)) = .ok (.string ⟨#[UInt8.ofNat n.toNat]⟩) (w.alloc (Obj.cells #[Value.int IntKind.u8 n] 5)) := by
  rw [run_convert_bytes_string _ 25 9 5 _ _ _ Try.underlying25 Try.underlying5 Try.underlying9]
  rw [run_bytesToString _ _ _ _ [n]]
  · rfl
  · exact run_loadCells_list _ _ [Value.int IntKind.u8 n] (by
      intro j v hj
      match j, hj with
      | 0, hj => simp at hj; subst hj; simp [Addr.add])

/-- A byte as a pattern has it. -/
def plain (n : Int) : Bool := isL n || isD n || n == 95 || n == 44 || n == 58 || n == 61
def esc (n : Int) : List UInt8 :=
  if isP n then (if plain n then [UInt8.ofNat n.toNat] else [92, UInt8.ofNat n.toNat])
  else [92, 120, hexd (n / 16).toNat, hexd (n % 16).toNat]
def escBA (n : Int) : ByteArray := ⟨(esc n).toArray⟩

theorem ret_str {a b : ByteArray} (h : a = b) : Ending.returned (.string a) = .returned (.string b) := by rw [h]

theorem esc_hex {n : Int} {a b : Nat} (h : n < 33 ∨ 126 < n) (ha : n / 16 = a) (hb : n % 16 = b) : esc n = [92, 120, hexd a, hexd b] := by
  have : isP n = false := by
    unfold isP
    rcases h with h | h
    · simp; omega
    · simp; omega
  simp [esc, this, ha, hb]

set_option maxHeartbeats 400000 in
theorem l1byte_hex (n : Int) (w : World) (h0 : 0 ≤ n) (h1 : n ≤ 255) (h : n < 33 ∨ 126 < n) : Calls Try.prog 6 #[.int .i64 n] w fun e w' => e = .returned (.string (escBA n)) ∧ Below w.heap.size w w' := by
  obtain ⟨a, ha⟩ : ∃ a : Nat, n / 16 = (a : Int) := ⟨(n / 16).toNat, by omega⟩
  obtain ⟨b, hb⟩ : ∃ b : Nat, n % 16 = (b : Int) := ⟨(n % 16).toNat, by omega⟩
  have e1 : IntKind.i64.wrap (n.tdiv 16) = (a : Int) := by rw [Int.tdiv_eq_ediv_of_nonneg h0, ha]; exact IntWalk.i64_in _ (by omega)
  have e2 : n.tmod 16 = (b : Int) := by rw [Int.tmod_eq_emod_of_nonneg h0, hb]
  have e3 : IntKind.i64.wrap ((a : Int) + 1) = (a : Int) + 1 := IntWalk.i64_in _ (by omega)
  have e4 : IntKind.i64.wrap ((b : Int) + 1) = (b : Int) + 1 := IntWalk.i64_in _ (by omega)
  have s1 := slice_hex a (by omega)
  have s2 := slice_hex b (by omega)
  have HE : Hid (escBA n = ⟨#[92, 120, hexd a, hexd b]⟩) := by rw [escBA, esc_hex h ha hb]; rfl
  clear ha hb
  rcases h with h | h <;>
  · go_enter Try.func6, Try.ntmps6
    go_wp2
    go_quiet (fail)
    go_wp2
    go_ret
    refine ⟨ret_str ?_, ?_⟩
    · rw [HE.out]; rfl
    · exact below_drewN (Below.refl _ _) _

set_option maxHeartbeats 400000 in
theorem l1byte_plain (n : Int) (w : World) (h0 : 33 ≤ n) (h1 : n ≤ 126) (hp : plain n = true) : Calls Try.prog 6 #[.int .i64 n] w fun e w' => e = .returned (.string (escBA n)) ∧ Below w.heap.size w w' := by
  have hc := conv_one n w
  have he : escBA n = ⟨#[UInt8.ofNat n.toNat]⟩ := by
    have : isP n = true := by simp [isP]; omega
    rw [escBA, esc]; simp [this, hp]
  have HE : Hid (escBA n = ⟨#[UInt8.ofNat n.toNat]⟩) := he
  clear he
  rcases (show (97 ≤ n ∧ n ≤ 122) ∨ (65 ≤ n ∧ n ≤ 90) ∨ (48 ≤ n ∧ n ≤ 57) ∨ n = 95 ∨ n = 44 ∨ n = 58 ∨ n = 61 from by simp [plain, isL, isD] at hp; omega) with h | h | h | h | h | h | h <;>
  · clear hp
    try subst h
    go_enter Try.func6, Try.ntmps6
    go_wp2
    go_ret
    refine ⟨ret_str ?_, ?_⟩
    · first | (rw [HE.out]; done) | (rw [HE.out]; rfl)
    · exact (Below.refl _ _).alloc (Nat.le_refl _) _

set_option maxHeartbeats 400000 in
theorem l1byte_back (n : Int) (w : World) (h0 : 33 ≤ n) (h1 : n ≤ 126) (hp : plain n = false) : Calls Try.prog 6 #[.int .i64 n] w fun e w' => e = .returned (.string (escBA n)) ∧ Below w.heap.size w w' := by
  have hc := conv_one n w
  have he : escBA n = ⟨#[92, UInt8.ofNat n.toNat]⟩ := by
    have : isP n = true := by simp [isP]; omega
    rw [escBA, esc]; simp [this, hp]
  have HE : Hid (escBA n = ⟨#[92, UInt8.ofNat n.toNat]⟩) := he
  clear he
  have q1 : ¬ (97 ≤ n ∧ n ≤ 122) := by simp [plain, isL, isD] at hp; omega
  have q2 : ¬ (65 ≤ n ∧ n ≤ 90) := by simp [plain, isL, isD] at hp; omega
  have q3 : ¬ (48 ≤ n ∧ n ≤ 57) := by simp [plain, isL, isD] at hp; omega
  have q4 : ¬ n = 95 ∧ ¬ n = 44 ∧ ¬ n = 58 ∧ ¬ n = 61 := by simp [plain, isL, isD] at hp; omega
  clear hp
  obtain ⟨q4, q5, q6, q7⟩ := q4
  have r4 : (n == 95) = false := by simpa using q4
  have r5 : (n == 44) = false := by simpa using q5
  have r6 : (n == 58) = false := by simpa using q6
  have r7 : (n == 61) = false := by simpa using q7
  clear q4 q5 q6 q7
  rcases (show (n < 48) ∨ (57 < n ∧ n < 65) ∨ (90 < n ∧ n < 97) ∨ 122 < n from by omega) with h | h | h | h <;>
  · go_enter Try.func6, Try.ntmps6
    go_wp2
    go_ret
    refine ⟨ret_str ?_, ?_⟩
    · rw [HE.out]; rfl
    · exact (Below.refl _ _).alloc (Nat.le_refl _) _

theorem l1byte_any (n : Int) (w : World) (h0 : 0 ≤ n) (h1 : n ≤ 255) : Calls Try.prog 6 #[.int .i64 n] w fun e w' => e = .returned (.string (escBA n)) ∧ Below w.heap.size w w' := by
  by_cases h : n < 33 ∨ 126 < n
  · exact l1byte_hex n w h0 h1 h
  · cases hp : plain n
    · exact l1byte_back n w (by omega) (by omega) hp
    · exact l1byte_plain n w (by omega) (by omega) hp

end Go.Proofs.Ytmlgmhnplicflab.Esc
