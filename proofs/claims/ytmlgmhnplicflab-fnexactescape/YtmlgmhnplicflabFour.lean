import Derived.Test.YtmlgmhnplicflabThree

namespace Go.Proofs.Ytmlgmhnplicflab.Esc
open Go.RowKit
set_option maxRecDepth 100000

def encL (l : List UInt8) : List UInt8 := l.flatMap fun c => esc c.toNat
def escText (l : List UInt8) : List UInt8 := if (encL l).length ≤ 120 then encL l else []
def ba (l : List UInt8) : ByteArray := ⟨l.toArray⟩

theorem take_snoc (s : ByteArray) (k : Nat) (h : k < s.size) : s.data.toList.take (k + 1) = s.data.toList.take k ++ [s[k]] := by
  rw [List.take_succ_eq_append_getElem (by simpa using h)]; rfl
theorem encL_snoc (l : List UInt8) (c : UInt8) : encL (l ++ [c]) = encL l ++ esc c.toNat := by simp [encL]
theorem esc_le (n : Int) : (esc n).length ≤ 4 := by unfold esc; split <;> (try split) <;> simp
theorem encL_take_le (l : List UInt8) (k : Nat) : (encL (l.take k)).length ≤ (encL l).length := by
  have h : encL l = encL (l.take k) ++ encL (l.drop k) := by
    unfold encL; rw [← List.flatMap_append, List.take_append_drop]
  rw [h, List.length_append]; omega
theorem ba_append (a b : List UInt8) : ba a ++ ba b = ba (a ++ b) := by
  apply ByteArray.ext; simp [ba]
theorem ba_size (a : List UInt8) : (ba a).size = a.length := by simp [ba, ByteArray.size]
theorem escBA_ba (n : Int) : escBA n = ba (esc n) := rfl

theorem str_eq {a b : ByteArray} (h : a = b) : Value.string a = .string b := by rw [h]
theorem escText_short {l : List UInt8} (h : (encL l).length ≤ 120) : escText l = encL l := by simp [escText, h]
theorem escText_long {l : List UInt8} (k : Nat) (h : 120 < (encL (l.take k)).length) : escText l = [] := by
  have := encL_take_le l k
  simp [escText]; omega

set_option maxHeartbeats 400000 in
theorem specEscape_any (s : ByteArray) (w : World) (hs : s.size ≤ 1048576) :
    Calls Try.prog 4 #[.string s] w fun e w' => e = .returned (.string (ba (escText s.data.toList))) ∧ Below w.heap.size w w' := by
  go_enter Try.func4, Try.ntmps4
  go_wp2
  go_loopw [3, 4] (fun o i wr => ∃ k : Nat, k ≤ s.size ∧ i = .int .i64 k ∧ o = .string (ba (encL (s.data.toList.take k))) ∧ (encL (s.data.toList.take k)).length ≤ 124 ∧ Below w.heap.size w wr) (fun _ i _ => s.size - (intOf i).toNat)
  case atStart => exact ⟨0, Nat.zero_le _, rfl, rfl, by simp [encL], Below.refl _ _⟩
  case round =>
    obtain ⟨k, hk, rfl, rfl, hlen, hbel⟩ := hrel
    have hsz := ba_size (encL (s.data.toList.take k))
    by_cases hl : (encL (s.data.toList.take k)).length ≤ 120
    · by_cases hlt : k < s.size
      · have hc0 : (0 : Int) ≤ (s[k].toNat : Int) := by omega
        have hc1 : (s[k].toNat : Int) ≤ 255 := by have := s[k].toNat_lt; omega
        have he : ba (encL (s.data.toList.take k)) ++ escBA s[k].toNat = ba (encL (s.data.toList.take (k + 1))) := by
          rw [take_snoc s k hlt, encL_snoc, escBA_ba, ba_append]
        have hlen' : (encL (s.data.toList.take (k + 1))).length ≤ 124 := by
          have := esc_le s[k].toNat
          rw [take_snoc s k hlt, encL_snoc, List.length_append]; omega
        have HE : Hid (ba (encL (s.data.toList.take k)) ++ escBA s[k].toNat = ba (encL (s.data.toList.take (k + 1)))) := he
        have hz2 : (escBA s[k].toNat).size ≤ 4 := by rw [escBA_ba, ba_size]; exact esc_le _
        clear he
        go_wp2_with (first
          | (go_at_call 6; refine (l1byte_any _ _ (by omega) (by omega)).mono ?_; rintro e w' ⟨rfl, hb⟩))
        go_roundw
        case rel => exact ⟨k + 1, by omega, by go_num, str_eq HE.out, hlen', hbel.trans (hb.mono hbel.size)⟩
        case measure => simp [intOf]; omega
      · have hT : s.data.toList.take k = s.data.toList := List.take_of_length_le (by rw [Array.length_toList]; exact Nat.le_of_not_lt hlt)
        have HE : Hid (escText s.data.toList = encL (s.data.toList.take k)) := by rw [hT] at hl ⊢; exact escText_short hl
        clear hT
        go_wp2
        go_ret
        exact ⟨ret_str (by rw [HE.out]), hbel⟩
    · have HE : Hid (escText s.data.toList = []) := escText_long k (by omega)
      by_cases hlt : k < s.size <;>
      · go_wp2
        go_ret
        exact ⟨ret_str (by rw [HE.out]; rfl), hbel⟩

theorem own_form {w : World} {base : Nat} {v : Value} {n : Nat} {xs : List Value} (h : w.ownsRow base 5 1 v n xs) : ∃ ao cap, v = .slice ao n cap := by
  obtain ⟨_, ⟨rfl, rfl⟩ | ⟨g, cap, cur, rfl, _⟩⟩ := h
  · exact ⟨_, _, rfl⟩
  · exact ⟨_, _, rfl⟩

theorem fold_ba (l : List UInt8) (r : ByteArray) : (l.map fun c => (c.toNat : Int)).foldl (fun r n => r.push (UInt8.ofNat n.toNat)) r = r ++ ba l := by
  induction l generalizing r with
  | nil => apply ByteArray.ext; simp [ba]
  | cons c l ih =>
    rw [List.map_cons, List.foldl_cons, ih]
    apply ByteArray.ext
    simp [ba]

theorem conv_own {w : World} {base : Nat} {v : Value} {l : List UInt8} (h : w.ownsRow base 5 1 v l.length (cellsOf l)) : Sem.run Try.prog (convert 25 9 v) w = .ok (.string (ba l)) w := by
  have h' := h
  obtain ⟨_, ⟨rfl, hl⟩ | ⟨g, cap, cur, rfl, _⟩⟩ := h
  · obtain rfl := List.eq_nil_of_length_eq_zero hl
    rw [run_convert_bytes_string _ 25 9 5 _ _ _ Try.underlying25 Try.underlying5 Try.underlying9]
    rfl
  · rw [run_convert_bytes_string _ 25 9 5 _ _ _ Try.underlying25 Try.underlying5 Try.underlying9]
    have hc : cellsOf l = (l.map fun c => (c.toNat : Int)).map (Value.int .u8) := by simp [cellsOf]
    rw [run_bytesToString _ _ _ _ (l.map fun c => (c.toNat : Int))]
    · rw [fold_ba]; congr 2
    · rw [← hc]
      have := run_loadCells_list (P := Try.prog) w ⟨g, 0, none⟩ (cellsOf l) (h'.cells rfl)
      simpa [cellsOf] using this

set_option maxHeartbeats 400000 in
theorem implEscape_any (s : ByteArray) (w : World) (hs : s.size ≤ 1048576) :
    Calls Try.prog 5 #[.string s] w fun e w' => e = .returned (.string (ba (escText s.data.toList))) ∧ Below w.heap.size w w' := by
  go_enter Try.func5, Try.ntmps5
  go_wp2
  go_loopw [3, 4] (fun o i wr => ∃ k : Nat, k ≤ s.size ∧ i = .int .i64 k ∧ wr.ownsRow w.heap.size 5 1 o (encL (s.data.toList.take k)).length (cellsOf (encL (s.data.toList.take k))) ∧ (encL (s.data.toList.take k)).length ≤ 120 ∧ Below w.heap.size w wr) (fun _ i _ => s.size - (intOf i).toNat)
  case atStart => exact ⟨0, Nat.zero_le _, rfl, World.ownsRow_nil _ _ _ _, by simp [encL], Below.refl _ _⟩
  case round =>
    obtain ⟨k, hk, rfl, hown, hlen, hbel⟩ := hrel
    by_cases hlt : k < s.size
    · have hc0 : (0 : Int) ≤ (s[k].toNat : Int) := by omega
      have hc1 : (s[k].toNat : Int) ≤ 255 := by have := s[k].toNat_lt; omega
      have he : encL (s.data.toList.take k) ++ esc s[k].toNat = encL (s.data.toList.take (k + 1)) := by
        rw [take_snoc s k hlt, encL_snoc]
      have hlen' : (encL (s.data.toList.take (k + 1))).length ≤ 124 := by
        have := esc_le s[k].toNat
        rw [take_snoc s k hlt, encL_snoc, List.length_append]; omega
      have HE : Hid (encL (s.data.toList.take k) ++ esc s[k].toNat = encL (s.data.toList.take (k + 1))) := he
      clear he
      by_cases hl : (encL (s.data.toList.take (k + 1))).length ≤ 120
      · go_wp2_with (first
          | (go_at_call 7; refine (append_any w.heap.size _ _ _ _ (by omega) (by omega) (by omega) hbel.size hown).mono ?_; rintro e w' ⟨v', rfl, ho, hb⟩; rw [HE.out] at ho; obtain ⟨ao, cap, rfl⟩ := own_form ho))
        go_roundw
        case rel => exact ⟨k + 1, by omega, by go_num, ho, hl, hbel.trans hb⟩
        case measure => simp [intOf]; omega
      · have HN : Hid (escText s.data.toList = []) := escText_long (k + 1) (by omega)
        go_wp2_with (first
          | (go_at_call 7; refine (append_any w.heap.size _ _ _ _ (by omega) (by omega) (by omega) hbel.size hown).mono ?_; rintro e w' ⟨v', rfl, ho, hb⟩; rw [HE.out] at ho; obtain ⟨ao, cap, rfl⟩ := own_form ho))
        go_ret
        exact ⟨ret_str (by rw [HN.out]; rfl), hbel.trans hb⟩
    · have hT : s.data.toList.take k = s.data.toList := List.take_of_length_le (by rw [Array.length_toList]; exact Nat.le_of_not_lt hlt)
      have HE : Hid (escText s.data.toList = encL (s.data.toList.take k)) := by rw [hT] at hlen ⊢; exact escText_short hlen
      have hcv := conv_own hown
      clear hT
      go_wp2
      go_ret
      exact ⟨ret_str (by rw [HE.out]), hbel⟩

end Go.Proofs.Ytmlgmhnplicflab.Esc
