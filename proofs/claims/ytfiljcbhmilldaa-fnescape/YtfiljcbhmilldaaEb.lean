import Derived.Test.YtfiljcbhmilldaaEa
import Derived.Test.YtfiljcbhmilldaaX

/-
  What a text that Escape has written is read as.
-/
namespace Go.Proofs.Ytfiljcbhmilldaa
open Go.RowKit
set_option linter.unusedVariables false

theorem bt_ba (l : List UInt8) (p : Nat) : bt (Esc.ba l) p = match l[p]? with | some c => c.toNat | none => 256 := by
  by_cases h : p < l.length
  · have hs : p < (Esc.ba l).size := by rw [Esc.ba_size]; exact h
    rw [bt_in hs, List.getElem?_eq_getElem h]
    rfl
  · have hs : ¬ p < (Esc.ba l).size := by rw [Esc.ba_size]; exact h
    rw [bt_out hs, List.getElem?_eq_none (by omega)]

/-- A text, seen from a place on. -/
theorem bt_mid (a m b : List UInt8) (j : Nat) (hj : j < m.length) : bt (Esc.ba (a ++ m ++ b)) (a.length + j) = (m[j]).toNat := by
  rw [bt_ba]
  have : (a ++ m ++ b)[a.length + j]? = some m[j] := by
    rw [List.append_assoc, List.getElem?_append_right (by omega)]
    have e : a.length + j - a.length = j := by omega
    rw [e, List.getElem?_append_left hj, List.getElem?_eq_getElem hj]
  rw [this]

theorem hexv_hexd {k : Nat} (hk : k < 16) : hexv (Esc.hexd k).toNat = some k := by
  rcases (show k = 0 ∨ k = 1 ∨ k = 2 ∨ k = 3 ∨ k = 4 ∨ k = 5 ∨ k = 6 ∨ k = 7 ∨ k = 8 ∨ k = 9 ∨ k = 10 ∨ k = 11 ∨ k = 12 ∨ k = 13 ∨ k = 14 ∨ k = 15 from by omega) with h | h | h | h | h | h | h | h | h | h | h | h | h | h | h | h <;> subst h <;> decide

theorem esc_cases (c : UInt8) : (Esc.esc c.toNat = [c] ∧ (letter c.toNat = true ∨ digit c.toNat = true ∨ c.toNat = 95 ∨ c.toNat = 44 ∨ c.toNat = 58 ∨ c.toNat = 61)) ∨
    (Esc.esc c.toNat = [92, c] ∧ letter c.toNat = false ∧ digit c.toNat = false ∧ printed c.toNat = true) ∨ Esc.esc c.toNat = [92, 120, Esc.hexd (c.toNat / 16), Esc.hexd (c.toNat % 16)] := by
  have hc : UInt8.ofNat ((c.toNat : Int)).toNat = c := by simp
  unfold Esc.esc
  by_cases hp : Esc.isP c.toNat = true
  · rw [if_pos hp]
    by_cases hl : Esc.plain c.toNat = true
    · rw [if_pos hl, hc]
      refine Or.inl ⟨rfl, ?_⟩
      simp [Esc.plain, Esc.isL, Esc.isD] at hl
      simp [letter, digit]
      omega
    · rw [if_neg hl, hc]
      refine Or.inr (Or.inl ⟨rfl, ?_, ?_, ?_⟩)
      · simp [Esc.plain, Esc.isL, Esc.isD] at hl; simp [letter]; omega
      · simp [Esc.plain, Esc.isL, Esc.isD] at hl; simp [digit]; omega
      · simp [Esc.isP] at hp; simp [printed]; omega
  · rw [if_neg hp]
    refine Or.inr (Or.inr ?_)
    have h1 : ((c.toNat : Int) / 16).toNat = c.toNat / 16 := by omega
    have h2 : ((c.toNat : Int) % 16).toNat = c.toNat % 16 := by omega
    rw [h1, h2]

/-- The first byte of what a byte is written as. -/
theorem esc_head (c : UInt8) : ∃ d t, Esc.esc c.toNat = d :: t ∧ d.toNat ≠ 42 ∧ d.toNat ≠ 43 ∧ d.toNat ≠ 63 ∧ d.toNat ≠ 123 ∧ d.toNat ≠ 124 ∧ d.toNat ≠ 41 := by
  rcases esc_cases c with ⟨e, h⟩ | ⟨e, _⟩ | e
  · refine ⟨c, [], e, ?_⟩
    simp [letter, digit] at h
    omega
  · exact ⟨92, [c], e, by decide⟩
  · exact ⟨92, _, e, by decide⟩

/-- What stands behind a written byte: the end, or a byte that is no count. -/
theorem next_ok (a m : List UInt8) (l : List UInt8) : bt (Esc.ba (a ++ m ++ Esc.encL l)) (a.length + m.length) = 256 ∨ ∃ x, bt (Esc.ba (a ++ m ++ Esc.encL l)) (a.length + m.length) = x ∧ x < 256 ∧ x ≠ 42 ∧ x ≠ 43 ∧ x ≠ 63 ∧ x ≠ 123 ∧ x ≠ 124 ∧ x ≠ 41 := by
  cases l with
  | nil =>
    left
    rw [bt_ba, List.getElem?_eq_none (by simp [Esc.encL])]
  | cons c l =>
    right
    obtain ⟨d, t, e, hd⟩ := esc_head c
    refine ⟨d.toNat, ?_, d.toNat_lt, hd⟩
    rw [bt_ba]
    have : (a ++ m ++ Esc.encL (c :: l))[a.length + m.length]? = some d := by
      rw [List.getElem?_append_right (by simp)]
      simp [Esc.encL, e]
    rw [this]

theorem cnt_none {s : ByteArray} {q : Nat} (h : bt s q = 256 ∨ ∃ x, bt s q = x ∧ x < 256 ∧ x ≠ 42 ∧ x ≠ 43 ∧ x ≠ 63 ∧ x ≠ 123 ∧ x ≠ 124 ∧ x ≠ 41) : cntRef s q = .ok (none, q) := by
  have h1 : bt s q ≠ 42 ∧ bt s q ≠ 43 ∧ bt s q ≠ 63 ∧ bt s q ≠ 123 := by
    rcases h with h | ⟨x, h, hx⟩
    · rw [h]; decide
    · rw [h]; exact ⟨hx.2.1, hx.2.2.1, hx.2.2.2.1, hx.2.2.2.2.1⟩
  simp [cntRef, h1.1, h1.2.1, h1.2.2.1, h1.2.2.2]

theorem atom_esc_ref {alt : Nat → Nat → Rd3} {room : Bool} (a : List UInt8) (c : UInt8) (b : List UInt8) (g : Nat) :
    atomRef alt room (Esc.ba (a ++ Esc.esc c.toNat ++ b)) a.length g = .ok (setPf (one c.toNat), a.length + (Esc.esc c.toNat).length, g) := by
  have hc := c.toNat_lt
  rcases esc_cases c with ⟨e, h⟩ | ⟨e, h1, h2, h3⟩ | e
  · rw [e]
    have h0 := bt_mid a [c] b 0 (by simp)
    simp only [Nat.add_zero, List.getElem_cons_zero] at h0
    have hx : c.toNat ≠ 40 ∧ c.toNat ≠ 91 ∧ c.toNat ≠ 94 ∧ c.toNat ≠ 36 ∧ c.toNat ≠ 46 ∧ c.toNat ≠ 92 ∧ ¬ (c.toNat = 42 ∨ c.toNat = 43 ∨ c.toNat = 63 ∨ c.toNat = 123 ∨ c.toNat = 125 ∨ c.toNat = 93) := by
      simp [letter, digit] at h
      omega
    unfold atomRef
    rw [h0, if_neg hx.1, if_neg hx.2.1, if_neg hx.2.2.1, if_neg hx.2.2.2.1, if_neg hx.2.2.2.2.1, if_neg hx.2.2.2.2.2.1, if_neg hx.2.2.2.2.2.2]
    rfl
  · rw [e]
    have h0 := bt_mid a [92, c] b 0 (by simp)
    have hb := bt_mid a [92, c] b 1 (by simp)
    simp only [Nat.add_zero, List.getElem_cons_zero] at h0
    simp only [List.getElem_cons_succ, List.getElem_cons_zero] at hb
    have h0' : bt (Esc.ba (a ++ [92, c] ++ b)) a.length = 92 := h0
    have hq : (letter c.toNat || digit c.toNat || !printed c.toNat) = false := by simp [h1, h2, h3]
    have hne : c.toNat ≠ 256 ∧ c.toNat ≠ 100 ∧ c.toNat ≠ 119 ∧ c.toNat ≠ 115 ∧ c.toNat ≠ 110 ∧ c.toNat ≠ 116 ∧ c.toNat ≠ 114 ∧ c.toNat ≠ 120 := by
      simp [letter] at h1
      omega
    have he : escRef (Esc.ba (a ++ [92, c] ++ b)) (a.length + 1) = .ok (one c.toNat, some c.toNat, a.length + 1 + 1) := by
      unfold escRef
      rw [hb, if_neg hne.1, if_neg hne.2.1, if_neg hne.2.2.1, if_neg hne.2.2.2.1, if_neg hne.2.2.2.2.1, if_neg hne.2.2.2.2.2.1, if_neg hne.2.2.2.2.2.2.1, if_neg hne.2.2.2.2.2.2.2, hq]
      simp
    unfold atomRef
    rw [h0', he]
    simp
  · rw [e]
    have h0 := bt_mid a [92, 120, Esc.hexd (c.toNat / 16), Esc.hexd (c.toNat % 16)] b 0 (by simp)
    have h1 := bt_mid a [92, 120, Esc.hexd (c.toNat / 16), Esc.hexd (c.toNat % 16)] b 1 (by simp)
    have h2 := bt_mid a [92, 120, Esc.hexd (c.toNat / 16), Esc.hexd (c.toNat % 16)] b 2 (by simp)
    have h3 := bt_mid a [92, 120, Esc.hexd (c.toNat / 16), Esc.hexd (c.toNat % 16)] b 3 (by simp)
    simp only [Nat.add_zero, List.getElem_cons_zero, List.getElem_cons_succ] at h0 h1 h2 h3
    have h0' : bt (Esc.ba (a ++ [92, 120, Esc.hexd (c.toNat / 16), Esc.hexd (c.toNat % 16)] ++ b)) a.length = 92 := h0
    have h1' : bt (Esc.ba (a ++ [92, 120, Esc.hexd (c.toNat / 16), Esc.hexd (c.toNat % 16)] ++ b)) (a.length + 1) = 120 := h1
    have he : escRef (Esc.ba (a ++ [92, 120, Esc.hexd (c.toNat / 16), Esc.hexd (c.toNat % 16)] ++ b)) (a.length + 1) = .ok (one c.toNat, some c.toNat, a.length + 1 + 3) := by
      have d : c.toNat / 16 * 16 + c.toNat % 16 = c.toNat := by omega
      unfold escRef
      rw [h1', h2, h3, hexv_hexd (by omega), hexv_hexd (by omega)]
      simp [d]
    unfold atomRef
    rw [h0', he]
    simp

theorem seq_esc_ref {alt : Nat → Nat → Rd3} {room : Bool} (l : List UInt8) (a : List UInt8) (g fu : Nat) (fs : List Pf) (hfu : l.length < fu) :
    seqLoop alt room (Esc.ba (a ++ Esc.encL l)) fu a.length g fs = .ok (fs ++ l.map (fun c => setPf (one c.toNat)), (Esc.ba (a ++ Esc.encL l)).size, g) := by
  induction l generalizing a fu fs with
  | nil =>
    obtain ⟨f, rfl⟩ : ∃ f, fu = f + 1 := ⟨fu - 1, by omega⟩
    have e : bt (Esc.ba (a ++ Esc.encL [])) a.length = 256 := by rw [bt_ba, List.getElem?_eq_none (by simp [Esc.encL])]
    rw [seqLoop, if_neg (by simp [e]), Esc.ba_size]
    simp [Esc.encL]
  | cons c l ih =>
    obtain ⟨f, rfl⟩ : ∃ f, fu = f + 1 := ⟨fu - 1, by omega⟩
    have e0 : a ++ Esc.encL (c :: l) = a ++ Esc.esc c.toNat ++ Esc.encL l := by simp [Esc.encL]
    rw [e0]
    obtain ⟨d, t, hd, hx⟩ := esc_head c
    have hb : bt (Esc.ba (a ++ Esc.esc c.toNat ++ Esc.encL l)) a.length = d.toNat := by
      have := bt_mid a (Esc.esc c.toNat) (Esc.encL l) 0 (by rw [hd]; simp)
      simpa [hd] using this
    have hlt := d.toNat_lt
    have hn := next_ok a (Esc.esc c.toNat) l
    have hp : pieceRef alt room (Esc.ba (a ++ Esc.esc c.toNat ++ Esc.encL l)) a.length g = .ok (setPf (one c.toNat), a.length + (Esc.esc c.toNat).length, g) := by
      unfold pieceRef
      rw [atom_esc_ref]
      dsimp only
      rw [cnt_none hn]
    rw [seqLoop, if_pos (by rw [hb]; exact ⟨by clear hn; omega, hx.2.2.2.2.1, hx.2.2.2.2.2⟩), hp]
    dsimp only
    have e1 : a.length + (Esc.esc c.toNat).length = (a ++ Esc.esc c.toNat).length := by simp
    rw [e1, ih (a ++ Esc.esc c.toNat) f (fs ++ [setPf (one c.toNat)]) (by simp at hfu; omega)]
    simp

/-- What Escape has written is read as the bytes, one behind the other. -/
theorem tree_esc (l : List UInt8) (h : (Esc.encL l).length ≤ 120) : treeRef (Esc.ba (Esc.encL l)) = .ok (0, seqPf (l.map (fun c => setPf (one c.toNat)))) := by
  have hs : (Esc.ba (Esc.encL l)).size = (Esc.encL l).length := Esc.ba_size _
  have hl : l.length ≤ (Esc.encL l).length := by
    clear h hs
    induction l with
    | nil => simp
    | cons c l ih =>
      obtain ⟨d, t, hd, _⟩ := esc_head c
      simp only [Esc.encL, List.flatMap_cons, List.length_append, List.length_cons, hd] at ih ⊢
      omega
  have h1 : seqRef (altRef (Esc.ba (Esc.encL l)) 5) true (Esc.ba (Esc.encL l)) 0 0 = .ok (seqPf (l.map (fun c => setPf (one c.toNat))), (Esc.ba (Esc.encL l)).size, 0) := by
    unfold seqRef
    have := seq_esc_ref (alt := altRef (Esc.ba (Esc.encL l)) 5) (room := true) l [] 0 ((Esc.ba (Esc.encL l)).size + 1) [] (by omega)
    simp only [List.nil_append, List.length_nil] at this
    rw [this]
  have h2 : bt (Esc.ba (Esc.encL l)) (Esc.ba (Esc.encL l)).size ≠ 124 := by rw [bt_out (by omega)]; decide
  unfold treeRef
  rw [if_neg (by omega)]
  have h3 : altRef (Esc.ba (Esc.encL l)) 6 0 0 = .ok (seqPf (l.map (fun c => setPf (one c.toNat))), (Esc.ba (Esc.encL l)).size, 0) := by
    show altOf (altRef (Esc.ba (Esc.encL l)) 5) true (Esc.ba (Esc.encL l)) 0 0 = _
    unfold altOf
    rw [h1]
    dsimp only
    rw [if_neg h2]
  rw [h3]
  simp

end Go.Proofs.Ytfiljcbhmilldaa
