import Derived.Test.YtmlgmhnplicflaaDoorD
import Derived.Deep.LoopGhost

/-
  Quoting: the cursor.
-/
namespace Go.Proofs.YtmlgmhnplicflaaDoor.Quo
open Go.RowKit
set_option linter.unusedVariables false
set_option maxRecDepth 100000

/-- A cursor: text and place. -/
def Cu (w : World) (R : Nat) (s : ByteArray) (a : Int) : Prop := w.heap[R]? = some (.cells #[.string s, .int .i64 a] 43 (0, 0))
namespace Cu
variable {w : World} {R : Nat} {s : ByteArray} {a : Int}
theorem lt (h : Cu w R s a) : R < w.heap.size := lt_of_block h
theorem c0 (h : Cu w R s a) : w.cell? ⟨R, 0, none⟩ = some (.string s) := by rw [cell_of h]; rfl
theorem c1 (h : Cu w R s a) : w.cell? ⟨R, 1, none⟩ = some (.int .i64 a) := by rw [cell_of h]; rfl
theorem fz (h : Cu w R s a) (i : Nat) : w.frozen? ⟨R, i, none⟩ = false := free_of h
theorem drewN (h : Cu w R s a) (n : Nat) : Cu (w.drewN n) R s a := h
theorem drew (h : Cu w R s a) : Cu w.drew R s a := h
theorem keeps {E : Nat → Prop} {w' : World} (h : Cu w R s a) (k : Keeps E w w') (hE : ¬ E R) : Cu w' R s a := by
  unfold Cu at h ⊢; rw [k.block R (lt_of_block h) hE]; exact h
theorem set1 (h : Cu w R s a) (x : Int) : Cu (w.setCell ⟨R, 1, none⟩ (.int .i64 x)) R s x := by unfold Cu; rw [heap_setCell_same _ _ _ _ _ _ h]; rfl
end Cu

theorem ended_any {w : World} {R : Nat} {s : ByteArray} {p : Nat} (h : Cu w R s p) :
    Calls Tryd.prog 28 #[.pointer (some ⟨R, 0, none⟩)] w fun e w' => e = .returned (.bool (decide (p = s.size))) ∧ ∃ n, w' = w.drewN n := by
  have c0 := h.c0
  have c1 := h.c1
  clear h
  go_enter Tryd.func28, Tryd.ntmps28
  go_wp2
  go_quiet (fail)
  go_wp2
  go_ret
  exact ⟨ret_bool (by rw [Bool.eq_iff_iff]; simp; omega), _, rfl⟩
theorem ended_yes {w : World} {R : Nat} {s : ByteArray} {p : Nat} (h : Cu w R s p) (hp : p = s.size) :
    Calls Tryd.prog 28 #[.pointer (some ⟨R, 0, none⟩)] w fun e w' => e = .returned (.bool true) ∧ ∃ n, w' = w.drewN n := by
  refine (ended_any h).mono ?_
  rintro e w' ⟨rfl, hn⟩
  exact ⟨ret_bool (by simp [hp]), hn⟩
theorem ended_no {w : World} {R : Nat} {s : ByteArray} {p : Nat} (h : Cu w R s p) (hp : p < s.size) :
    Calls Tryd.prog 28 #[.pointer (some ⟨R, 0, none⟩)] w fun e w' => e = .returned (.bool false) ∧ ∃ n, w' = w.drewN n := by
  refine (ended_any h).mono ?_
  rintro e w' ⟨rfl, hn⟩
  exact ⟨ret_bool (by simp; omega), hn⟩
theorem sees_any {w : World} {R : Nat} {s : ByteArray} {p b : Nat} (h : Cu w R s p) (hs : s.size ≤ 2000) (hp : p ≤ s.size) (hb : b < 256) :
    Calls Tryd.prog 36 #[.pointer (some ⟨R, 0, none⟩), .int .u8 b] w fun e w' => e = .returned (.bool (decide (bt s p = b))) ∧ ∃ n, w' = w.drewN n := by
  by_cases hlt : p < s.size
  · have c0 := h.c0
    have c1 := h.c1
    have hpz : (p : Int) < (s.size : Int) := by omega
    have HR : Hid (Cu w R s p) := h
    have HB : Hid (bt s p = s[p].toNat) := bt_in hlt
    clear h
    go_enter Tryd.func36, Tryd.ntmps36
    go_wp2
    go_quiet ((go_at_call 28; exact Calls.quiet_of (ended_no (HR.out.drewN _) hlt)))
    go_wp2
    go_ret
    exact ⟨ret_bool (by rw [HB.out, Bool.eq_iff_iff]; simp; omega), _, rfl⟩
  · have hpe : p = s.size := by omega
    have HR : Hid (Cu w R s p) := h
    have HB : Hid (bt s p = 256) := bt_out hlt
    have c0 := h.c0
    have c1 := h.c1
    clear h
    go_enter Tryd.func36, Tryd.ntmps36
    go_wp2
    go_quiet ((go_at_call 28; exact Calls.quiet_of (ended_yes (HR.out.drewN _) hpe)))
    go_wp2
    go_ret
    exact ⟨ret_bool (by rw [HB.out, Bool.eq_iff_iff]; simp; omega), _, rfl⟩
theorem take_yes {w : World} {R : Nat} {s : ByteArray} {p b : Nat} (h : Cu w R s p) (hs : s.size ≤ 2000) (hp : p ≤ s.size) (hlt : b < 256) (hb : bt s p = b) :
    Calls Tryd.prog 26 #[.pointer (some ⟨R, 0, none⟩), .int .u8 b] w fun e w' => e = .returned (.bool true) ∧ Cu w' R s ((p + 1 : Nat) : Int) ∧ Keeps (fun k => k = R) w w' := by
  have HR : Hid (Cu w R s p) := h
  have HB : Hid (bt s p = b) := hb
  clear h hb
  go_enter Tryd.func26, Tryd.ntmps26
  go_wp2_with (first
    | (go_at_call 36; refine (sees_any HR.out hs hp hlt).mono ?_; rintro e w2 ⟨rfl, n, rfl⟩; rw [show decide (bt s p = b) = true from by simp [HB.out]]; have c1 := (HR.out.drewN n).c1; have f1 := (HR.out.drewN n).fz 1))
  go_ret
  exact ⟨rfl, (HR.out.drewN _).set1 _, ((Keeps.refl (fun k => k = R) _).drewN _).setCell (fun _ => rfl) _⟩
theorem take_no {w : World} {R : Nat} {s : ByteArray} {p b : Nat} (h : Cu w R s p) (hs : s.size ≤ 2000) (hp : p ≤ s.size) (hlt : b < 256) (hb : bt s p ≠ b) :
    Calls Tryd.prog 26 #[.pointer (some ⟨R, 0, none⟩), .int .u8 b] w fun e w' => e = .returned (.bool false) ∧ ∃ n, w' = w.drewN n := by
  have HR : Hid (Cu w R s p) := h
  have HB : Hid (bt s p ≠ b) := hb
  clear h hb
  go_enter Tryd.func26, Tryd.ntmps26
  go_wp2_with (first
    | (go_at_call 36; refine (sees_any HR.out hs hp hlt).mono ?_; rintro e w2 ⟨rfl, n, rfl⟩; rw [show decide (bt s p = b) = false from by simp [HB.out]]))
  go_ret
  exact ⟨rfl, _, rfl⟩
theorem next_yes {w : World} {R : Nat} {s : ByteArray} {p : Nat} (h : Cu w R s p) (hs : s.size ≤ 2000) (hp : p < s.size) :
    Calls Tryd.prog 38 #[.pointer (some ⟨R, 0, none⟩)] w fun e w' => e = .returned (.int .u8 (bt s p)) ∧ Cu w' R s ((p + 1 : Nat) : Int) ∧ Keeps (fun k => k = R) w w' := by
  have HR : Hid (Cu w R s p) := h
  have HB : Hid (bt s p = s[p].toNat) := bt_in hp
  have hpz : (p : Int) < (s.size : Int) := by omega
  clear h
  go_enter Tryd.func38, Tryd.ntmps38
  go_wp2_with (first
    | (go_at_call 28; refine (ended_no HR.out hp).mono ?_; rintro e w2 ⟨rfl, n, hn⟩; have hR2 : Cu w2 R s p := (by rw [hn]; exact HR.out.drewN n); have hk2 : Keeps (fun k => k = R) w w2 := (by rw [hn]; exact (Keeps.refl _ _).drewN _); clear hn; have c0 := hR2.c0; have c1 := hR2.c1; have f1 := hR2.fz 1))
  go_quiet (fail)
  go_wp2
  go_ret
  exact ⟨ret_int (by rw [HB.out]), (hR2.drewN _).set1 _, (hk2.drewN _).setCell (fun _ => rfl) _⟩
/-- A digit's value; 16 is none. -/
def hv (b : Nat) : Nat := if 48 ≤ b ∧ b ≤ 57 then b - 48 else if 97 ≤ b ∧ b ≤ 102 then b - 87 else if 65 ≤ b ∧ b ≤ 70 then b - 55 else 16

end Go.Proofs.YtmlgmhnplicflaaDoor.Quo

/-
  Quoting: the reference of what is read back; hexadecimal digits.
-/
namespace Go.Proofs.YtmlgmhnplicflaaDoor.Quo
open Go.RowKit
set_option linter.unusedVariables false
set_option maxRecDepth 100000

def escQ (s : ByteArray) (p : Nat) : Except Nat (Nat × Nat) :=
  if bt s p = 120 then (match hexv (bt s (p + 1)) with
    | none => .error (p + 1)
    | some a => match hexv (bt s (p + 2)) with
      | none => .error (p + 2)
      | some b => .ok (a * 16 + b, p + 3))
  else if bt s p = 110 then .ok (10, p + 1) else if bt s p = 116 then .ok (9, p + 1) else if bt s p = 34 ∨ bt s p = 92 then .ok (bt s p, p + 1) else .error p
def elQ (s : ByteArray) (p : Nat) : Except Nat (Nat × Nat) := if bt s p = 92 then escQ s (p + 1) else if isQ (bt s p) then .ok (bt s p, p + 1) else .error p
def unqF (s : ByteArray) : Nat → Nat → List UInt8 → Except Nat (List UInt8)
  | 0, p, _ => .error p
  | f + 1, p, acc => if bt s p = 34 then (if p + 1 = s.size then .ok acc else .error (p + 1)) else match elQ s p with
    | .error x => .error x
    | .ok (b, q) => unqF s f q (acc ++ [UInt8.ofNat b])
def unqRef (s : ByteArray) : Except Nat (List UInt8) := if 1300 < s.size then .error 1300 else if bt s 0 = 34 then unqF s s.size 1 [] else .error 0
theorem bt_lt {s : ByteArray} {p b : Nat} (h : bt s p = b) (hb : b < 256) : p < s.size := by
  unfold bt at h
  split at h
  · assumption
  · omega
theorem hexv_in {s : ByteArray} {p a : Nat} (h : hexv (bt s p) = some a) : p < s.size := by
  unfold bt at h
  split at h
  · assumption
  · simp [hexv] at h
theorem escQ_ok {s : ByteArray} {p b q : Nat} (h : escQ s p = .ok (b, q)) : b < 256 ∧ p < q ∧ q ≤ s.size := by
  unfold escQ at h
  split at h
  · rename_i h0
    split at h
    · cases h
    · rename_i a ha
      split at h
      · cases h
      · rename_i c hc
        cases h
        have := hexv_lt ha
        have := hexv_lt hc
        have := hexv_in hc
        exact ⟨by omega, by omega, by omega⟩
  · split at h
    · rename_i h0
      cases h
      have := bt_lt h0 (by omega)
      exact ⟨by omega, by omega, by omega⟩
    · split at h
      · rename_i h0
        cases h
        have := bt_lt h0 (by omega)
        exact ⟨by omega, by omega, by omega⟩
      · split at h
        · rename_i h0
          cases h
          rcases h0 with h0 | h0
          · have := bt_lt h0 (by omega)
            exact ⟨by omega, by omega, by omega⟩
          · have := bt_lt h0 (by omega)
            exact ⟨by omega, by omega, by omega⟩
        · cases h
theorem isQ_lt {n : Nat} (h : isQ n = true) : 32 ≤ n ∧ n ≤ 126 := by simp [isQ, isP] at h; omega
theorem elQ_ok {s : ByteArray} {p b q : Nat} (h : elQ s p = .ok (b, q)) : b < 256 ∧ p < q ∧ q ≤ s.size := by
  unfold elQ at h
  split at h
  · obtain ⟨h1, h2, h3⟩ := escQ_ok h
    exact ⟨h1, by omega, h3⟩
  · split at h
    · rename_i h1
      cases h
      have h2 := isQ_lt h1
      have := bt_lt (s := s) (p := p) rfl (by omega)
      exact ⟨by omega, by omega, by omega⟩
    · cases h

theorem hexv_cases {b v : Nat} (h : hexv b = some v) : (digit b = true ∧ 48 ≤ b ∧ b ≤ 57 ∧ v = b - 48) ∨ (digit b = false ∧ 97 ≤ b ∧ b ≤ 102 ∧ v = b - 87) := by
  unfold hexv at h
  split at h
  · rename_i hb
    left
    simp at h
    exact ⟨by simp [digit, hb], hb.1, hb.2, h.symm⟩
  · split at h
    · rename_i h1 hb
      right
      simp at h
      exact ⟨by simp [digit]; omega, hb.1, hb.2, h.symm⟩
    · simp at h
theorem hexv_none {b : Nat} (h : hexv b = none) : digit b = false ∧ ¬ (97 ≤ b ∧ b ≤ 102) := by
  unfold hexv at h
  split at h
  · simp at h
  · split at h
    · simp at h
    · rename_i h1 h2
      exact ⟨by simp [digit]; omega, h2⟩

/-- A digit's byte. -/
def hexc (k : Nat) : Nat := if k < 10 then 48 + k else 87 + k
theorem hexc_of {b v : Nat} (h : hexv b = some v) : v < 16 ∧ b = hexc v := by
  rcases hexv_cases h with ⟨_, h1, h2, h3⟩ | ⟨_, h1, h2, h3⟩
  · exact ⟨by omega, by unfold hexc; split <;> omega⟩
  · exact ⟨by omega, by unfold hexc; split <;> omega⟩
theorem hexc_inj {a b : Nat} (ha : a < 16) (hb : b < 16) (h : hexc a = hexc b) : a = b := by
  unfold hexc at h
  split at h <;> split at h <;> omega
theorem hexc_none {b k : Nat} (h : hexv b = none) (hk : k < 16) : b ≠ hexc k := by
  obtain ⟨h1, h2⟩ := hexv_none h
  simp [digit] at h1
  unfold hexc
  split <;> omega
theorem hexc_lt {k : Nat} (hk : k < 16) : hexc k < 256 := by unfold hexc; split <;> omega
theorem index_hexc (a : Nat) (h : a < 16) (w : World) : Sem.run Tryd.prog (Instr.index 9 (.string { data := #[48, 49, 50, 51, 52, 53, 54, 55, 56, 57, 97, 98, 99, 100, 101, 102] }) (.int .i64 (a : Int))) w = .ok (.int .u8 ((hexc a : Nat) : Int)) w := by
  rcases (show a = 0 ∨ a = 1 ∨ a = 2 ∨ a = 3 ∨ a = 4 ∨ a = 5 ∨ a = 6 ∨ a = 7 ∨ a = 8 ∨ a = 9 ∨ a = 10 ∨ a = 11 ∨ a = 12 ∨ a = 13 ∨ a = 14 ∨ a = 15 from by omega) with h | h | h | h | h | h | h | h | h | h | h | h | h | h | h | h <;> subst h <;> kernel_rfl

set_option maxHeartbeats 400000 in
theorem takeHex_yes {w : World} {R : Nat} {s : ByteArray} {p v : Nat} (h : Cu w R s p) (hs : s.size ≤ 2000) (hp : p ≤ s.size) (hv : hexv (bt s p) = some v) :
    Calls Tryd.prog 44 #[.pointer (some ⟨R, 0, none⟩)] w fun e w' => e = .returned (.tuple #[.int .u8 v, .bool true]) ∧ Cu w' R s ((p + 1 : Nat) : Int) ∧ Keeps (fun k => k = R) w w' := by
  obtain ⟨hv16, hbv⟩ := hexc_of hv
  have HB : Hid (bt s p = hexc v) := hbv
  have HR : Hid (Cu w R s p) := h
  clear h hv hbv
  go_enter Tryd.func44, Tryd.ntmps44
  go_wp2
  go_loopg [4, 5] 17 (fun gl _ s5 wr => ∃ k : Nat, k + gl = 17 ∧ k ≤ v ∧ s5 = .int .i64 (k : Int) ∧ ∃ n, wr = w.drewN n)
  case atStart => exact ⟨0, by omega, by omega, rfl, 0, rfl⟩
  case round =>
    obtain ⟨k, hgl, hk, rfl, n, rfl⟩ := hrel
    have HG : Hid (k + gk = 17) := hgl
    clear hgl
    have hz : (k : Int) < 16 := by omega
    have hidx := index_hexc k (by omega)
    have hR1 := HR.out.drewN n
    by_cases hkv : k = v
    · subst hkv
      have hcall := take_yes hR1 hs hp (hexc_lt (by omega)) HB.out
      have hwr : IntKind.u8.wrap (k : Int) = (k : Int) := IntWalk.u8_in _ ⟨by omega, by omega⟩
      go_wp2_with (go_at_call 26; refine hcall.mono ?_; rintro e w2 ⟨rfl, hR2, hk2⟩)
      go_ret2
      exact ⟨by first | rfl | (rw [hwr]), hR2, (((Keeps.refl _ _).drewN n).trans hk2)⟩
    · have hcall := take_no hR1 hs hp (hexc_lt (k := k) (by omega)) (by rw [HB.out]; exact fun e => hkv (hexc_inj (by omega) (by omega) e.symm))
      have hlt : k < v := by omega
      go_wp2_with (go_at_call 26; refine hcall.mono ?_; rintro e w2 ⟨rfl, m, rfl⟩)
      go_roundg (gk - 1)
      case measure => have := HG.out; omega
      case rel => exact ⟨k + 1, by have := HG.out; omega, by omega, congrArg (Value.int .i64) (by omega), n + m, rfl⟩

set_option maxHeartbeats 400000 in
theorem takeHex_no {w : World} {R : Nat} {s : ByteArray} {p : Nat} (h : Cu w R s p) (hs : s.size ≤ 2000) (hp : p ≤ s.size) (hv : hexv (bt s p) = none) :
    Calls Tryd.prog 44 #[.pointer (some ⟨R, 0, none⟩)] w fun e w' => e = .returned (.tuple #[.int .u8 0, .bool false]) ∧ ∃ n, w' = w.drewN n := by
  have HB : Hid (∀ k, k < 16 → bt s p ≠ hexc k) := fun k hk => hexc_none hv hk
  have HR : Hid (Cu w R s p) := h
  clear h hv
  go_enter Tryd.func44, Tryd.ntmps44
  go_wp2
  go_loopg [4, 5] 17 (fun gl _ s5 wr => ∃ k : Nat, k + gl = 17 ∧ k ≤ 16 ∧ s5 = .int .i64 (k : Int) ∧ ∃ n, wr = w.drewN n)
  case atStart => exact ⟨0, by omega, by omega, rfl, 0, rfl⟩
  case round =>
    obtain ⟨k, hgl, hk, rfl, n, rfl⟩ := hrel
    have HG : Hid (k + gk = 17) := hgl
    clear hgl
    have hR1 := HR.out.drewN n
    by_cases hlt : k < 16
    · have hz : (k : Int) < 16 := by omega
      have hidx := index_hexc k hlt
      have hcall := take_no hR1 hs hp (hexc_lt (k := k) (by omega)) (HB.out k hlt)
      go_wp2_with (go_at_call 26; refine hcall.mono ?_; rintro e w2 ⟨rfl, m, rfl⟩)
      go_roundg (gk - 1)
      case measure => have := HG.out; omega
      case rel => exact ⟨k + 1, by have := HG.out; omega, by omega, congrArg (Value.int .i64) (by omega), n + m, rfl⟩
    · have hz : ¬ (k : Int) < 16 := by omega
      go_wp2
      go_ret2
      exact ⟨rfl, n, rfl⟩

/-- What is read, and where the cursor stands. -/
def RdP (R : Nat) (s : ByteArray) (r : Except Nat (Nat × Nat)) (w : World) (e : Ending) (w' : World) : Prop :=
  (∀ b q, r = .ok (b, q) → e = .returned (.tuple #[.int .u8 (b : Int), .bool true]) ∧ Cu w' R s (q : Int)) ∧ (∀ x, r = .error x → (∃ z, e = .returned (.tuple #[.int .u8 z, .bool false])) ∧ Cu w' R s (x : Int)) ∧ Keeps (fun k => k = R) w w'
def numQ (s : ByteArray) (p : Nat) : Except Nat (Nat × Nat) := match hexv (bt s p) with
    | none => .error p
    | some a => match hexv (bt s (p + 1)) with
      | none => .error (p + 1)
      | some b => .ok (a * 16 + b, p + 2)

set_option maxHeartbeats 400000 in
theorem takeNumber_any {w : World} {R : Nat} {s : ByteArray} {p : Nat} (h : Cu w R s p) (hs : s.size ≤ 2000) (hp : p ≤ s.size) :
    Calls Tryd.prog 43 #[.pointer (some ⟨R, 0, none⟩)] w (RdP R s (numQ s p) w) := by
  cases ha : hexv (bt s p) with
  | none =>
    have hcall := takeHex_no h hs hp ha
    have e : numQ s p = .error p := by simp [numQ, ha]
    rw [e]
    have HR : Hid (Cu w R s p) := h
    clear h ha e
    go_enter Tryd.func43, Tryd.ntmps43
    go_wp2_with (go_at_call 44; refine hcall.mono ?_; rintro e w2 ⟨rfl, n, rfl⟩)
    go_ret2
    exact ⟨(fun b q e => by cases e), (fun x e => by cases e; exact ⟨⟨_, rfl⟩, HR.out.drewN _⟩), (Keeps.refl _ _).drewN _⟩
  | some a =>
    have hcall := takeHex_yes h hs hp ha
    have hpl := hexv_in ha
    have ha16 := hexv_lt ha
    cases hb : hexv (bt s (p + 1)) with
    | none =>
      have e : numQ s p = .error (p + 1) := by simp [numQ, ha, hb]
      rw [e]
      have HN : Hid (∀ w2, Cu w2 R s ((p + 1 : Nat) : Int) → Calls Tryd.prog 44 #[.pointer (some ⟨R, 0, none⟩)] w2 fun e w' => e = .returned (.tuple #[.int .u8 0, .bool false]) ∧ ∃ n, w' = w2.drewN n) := fun w2 h2 => takeHex_no h2 hs (by omega) hb
      clear h ha hb e
      go_enter Tryd.func43, Tryd.ntmps43
      go_wp2_with (first
        | (go_at_call 44; refine hcall.mono ?_; clear hcall; rintro e w2 ⟨rfl, hR2, hk2⟩; have hcall2 := HN.out _ hR2)
        | (go_at_call 44; refine hcall2.mono ?_; rintro e w3 ⟨rfl, n, rfl⟩))
      go_ret2
      exact ⟨(fun b q e => by cases e), (fun x e => by cases e; exact ⟨⟨_, rfl⟩, hR2.drewN _⟩), hk2.drewN _⟩
    | some b =>
      have e : numQ s p = .ok (a * 16 + b, p + 2) := by simp [numQ, ha, hb]
      rw [e]
      have hb16 := hexv_lt hb
      have HN : Hid (∀ w2, Cu w2 R s ((p + 1 : Nat) : Int) → Calls Tryd.prog 44 #[.pointer (some ⟨R, 0, none⟩)] w2 fun e w' => e = .returned (.tuple #[.int .u8 b, .bool true]) ∧ Cu w' R s ((p + 1 + 1 : Nat) : Int) ∧ Keeps (fun k => k = R) w2 w') := fun w2 h2 => takeHex_yes h2 hs (by omega) hb
      have hwr : IntKind.u8.wrap ((a : Int) * 16) = (a : Int) * 16 := IntWalk.u8_in _ ⟨by omega, by omega⟩
      have hwr2 : IntKind.u8.wrap ((a : Int) * 16 + (b : Int)) = (a : Int) * 16 + (b : Int) := IntWalk.u8_in _ ⟨by omega, by omega⟩
      clear h ha hb e
      go_enter Tryd.func43, Tryd.ntmps43
      go_wp2_with (first
        | (go_at_call 44; refine hcall.mono ?_; clear hcall; rintro e w2 ⟨rfl, hR2, hk2⟩; have hcall2 := HN.out _ hR2)
        | (go_at_call 44; refine hcall2.mono ?_; rintro e w3 ⟨rfl, hR3, hk3⟩))
      go_ret2
      have hv : Value.int .u8 ((a : Int) * 16 + (b : Int)) = Value.int .u8 ((a * 16 + b : Nat) : Int) := by congr 1
      exact ⟨(fun b' q e => by cases e; exact ⟨(by rw [← hv]; rfl), hR3⟩), (fun x e => by cases e), hk2.trans hk3⟩

end Go.Proofs.YtmlgmhnplicflaaDoor.Quo
