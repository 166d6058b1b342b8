import Derived.Test.YtmlgmhnplicflaaDoorH

/-
  Quoting: what is quoted is read back.
-/
namespace Go.Proofs.YtmlgmhnplicflaaDoor.Quo
open Go.RowKit
set_option linter.unusedVariables false
set_option maxRecDepth 100000

theorem bt_ba (L : List UInt8) (p : Nat) : bt (ba L) p = (L[p]?).elim 256 (·.toNat) := by
  have hs : (ba L).size = L.length := by simp [ba, ByteArray.size]
  by_cases h : p < L.length
  · rw [bt_in (by rw [hs]; exact h), List.getElem?_eq_getElem h]
    rfl
  · rw [bt_out (by rw [hs]; exact h), List.getElem?_eq_none (by omega)]
    rfl
theorem bt_mid (pre post : List UInt8) (p i : Nat) (hp : p = pre.length + i) : bt (ba (pre ++ post)) p = (post[i]?).elim 256 (·.toNat) := by
  rw [bt_ba, hp, List.getElem?_append_right (by omega)]
  congr 2
  omega
theorem hexd_v (a : Nat) (h : a < 16) : hexv (hexd a).toNat = some a := by
  rcases (show a = 0 ∨ a = 1 ∨ a = 2 ∨ a = 3 ∨ a = 4 ∨ a = 5 ∨ a = 6 ∨ a = 7 ∨ a = 8 ∨ a = 9 ∨ a = 10 ∨ a = 11 ∨ a = 12 ∨ a = 13 ∨ a = 14 ∨ a = 15 from by omega) with h | h | h | h | h | h | h | h | h | h | h | h | h | h | h | h <;> subst h <;> rfl
theorem hexd_in (a : Nat) (h : a < 16) : 32 ≤ (hexd a).toNat ∧ (hexd a).toNat ≤ 126 := by
  rcases (show a = 0 ∨ a = 1 ∨ a = 2 ∨ a = 3 ∨ a = 4 ∨ a = 5 ∨ a = 6 ∨ a = 7 ∨ a = 8 ∨ a = 9 ∨ a = 10 ∨ a = 11 ∨ a = 12 ∨ a = 13 ∨ a = 14 ∨ a = 15 from by omega) with h | h | h | h | h | h | h | h | h | h | h | h | h | h | h | h <;> subst h <;> decide
theorem ofNat_toNat {n : Nat} (h : n < 256) : (UInt8.ofNat n).toNat = n := by simp; omega
/-- An element is read as the byte it stands for. -/
theorem elQ_qel (pre post : List UInt8) (c : UInt8) : elQ (ba (pre ++ (qel c.toNat ++ post))) pre.length = .ok (c.toNat, pre.length + (qel c.toNat).length) ∧ bt (ba (pre ++ (qel c.toNat ++ post))) pre.length ≠ 34 := by
  have hc := c.toNat_lt
  generalize c.toNat = n at hc
  have b0 := bt_mid pre (qel n ++ post) pre.length 0 rfl
  have b1 := bt_mid pre (qel n ++ post) (pre.length + 1) 1 rfl
  have b2 := bt_mid pre (qel n ++ post) (pre.length + 2) 2 rfl
  have b3 := bt_mid pre (qel n ++ post) (pre.length + 3) 3 rfl
  by_cases h1 : n = 10
  · subst h1
    rw [show qel 10 = [92, 110] from rfl] at b0 b1 ⊢
    simp at b0 b1
    simp [elQ, escQ, b0, b1]
  · by_cases h2 : n = 9
    · subst h2
      rw [show qel 9 = [92, 116] from rfl] at b0 b1 ⊢
      simp at b0 b1
      simp [elQ, escQ, b0, b1]
    · by_cases h3 : n = 34
      · subst h3
        rw [show qel 34 = [92, 34] from rfl] at b0 b1 ⊢
        simp at b0 b1
        simp [elQ, escQ, b0, b1]
      · by_cases h4 : n = 92
        · subst h4
          rw [show qel 92 = [92, 92] from rfl] at b0 b1 ⊢
          simp at b0 b1
          simp [elQ, escQ, b0, b1]
        · by_cases h5 : n < 32 ∨ 126 < n
          · have e : qel n = [92, 120, hexd (n / 16), hexd (n % 16)] := by unfold qel; rw [if_neg h1, if_neg h2, if_neg (by omega), if_pos h5]
            rw [e] at b0 b1 b2 b3 ⊢
            have x1 := hexd_v (n / 16) (by omega)
            have x2 := hexd_v (n % 16) (by omega)
            simp only [List.cons_append, List.nil_append, List.getElem?_cons_zero, List.getElem?_cons_succ, Option.elim_some] at b0 b1 b2 b3
            refine ⟨?_, by rw [show (([92, 120, hexd (n / 16), hexd (n % 16)] : List UInt8) ++ post) = 92 :: 120 :: hexd (n / 16) :: hexd (n % 16) :: post from rfl, b0]; decide⟩
            have hn : n / 16 * 16 + n % 16 = n := by omega
            have e92 : ((92 : UInt8).toNat : Nat) = 92 := rfl
            have e120 : ((120 : UInt8).toNat : Nat) = 120 := rfl
            rw [show (([92, 120, hexd (n / 16), hexd (n % 16)] : List UInt8) ++ post) = 92 :: 120 :: hexd (n / 16) :: hexd (n % 16) :: post from rfl]
            unfold elQ escQ
            rw [b0, e92, if_pos rfl, b1, e120, if_pos rfl, show pre.length + 1 + 1 = pre.length + 2 from rfl, b2, x1, show pre.length + 1 + 2 = pre.length + 3 from rfl]
            simp only [b3, x2, hn]
            rfl
          · have e : qel n = [UInt8.ofNat n] := by unfold qel; rw [if_neg h1, if_neg h2, if_neg (by omega), if_neg h5]
            rw [e] at b0 ⊢
            simp only [List.cons_append, List.nil_append, List.getElem?_cons_zero, Option.elim_some, ofNat_toNat hc] at b0
            have hq : isQ n = true := by simp [isQ, isP]; omega
            rw [show (([UInt8.ofNat n] : List UInt8) ++ post) = UInt8.ofNat n :: post from rfl]
            refine ⟨?_, by rw [b0]; exact h3⟩
            unfold elQ
            rw [b0, if_neg h4, if_pos hq]
            rfl
theorem unqF_qls : ∀ (l2 : List UInt8) (f : Nat) (pre acc : List UInt8), l2.length < f → unqF (ba (pre ++ (qls l2 ++ [34]))) f pre.length acc = .ok (acc ++ l2) := by
  intro l2
  induction l2 with
  | nil =>
    intro f pre acc hf
    obtain ⟨f, rfl⟩ : ∃ g, f = g + 1 := ⟨f - 1, by simp at hf; omega⟩
    have b0 := bt_mid pre (qls [] ++ [34]) pre.length 0 rfl
    have b0' : bt (ba (pre ++ (qls [] ++ [34]))) pre.length = 34 := by rw [b0]; rfl
    have hs : (ba (pre ++ (qls [] ++ [34]))).size = pre.length + 1 := by simp [ba, ByteArray.size, qls]
    simp only [unqF]
    rw [if_pos b0', if_pos hs.symm]
    simp
  | cons c l2 ih =>
    intro f pre acc hf
    obtain ⟨f, rfl⟩ : ∃ g, f = g + 1 := ⟨f - 1, by simp at hf; omega⟩
    have e : qls (c :: l2) ++ [34] = qel c.toNat ++ (qls l2 ++ [34]) := by simp [qls]
    obtain ⟨h1, h2⟩ := elQ_qel pre (qls l2 ++ [34]) c
    rw [e]
    simp only [unqF]
    rw [if_neg h2, h1]
    have ih2 := ih f (pre ++ qel c.toNat) (acc ++ [c]) (by simp at hf; omega)
    rw [List.append_assoc, List.length_append] at ih2
    have hc : UInt8.ofNat c.toNat = c := by simp
    simp only [hc]
    rw [ih2]
    simp
theorem qls_ge (l : List UInt8) : l.length ≤ (qls l).length := by
  induction l with
  | nil => simp
  | cons c l ih =>
    have h : 1 ≤ (qel c.toNat).length := by
      unfold qel
      split
      · simp
      · split
        · simp
        · split
          · simp
          · split <;> simp
    have e : qls (c :: l) = qel c.toNat ++ qls l := by simp [qls]
    rw [e, List.length_append, List.length_cons]
    omega
/-- What is quoted is read back. -/
theorem unq_quote {l : List UInt8} (h : l.length ≤ 200) : unqRef (ba (quoteRef l)) = .ok l := by
  have hq : quoteRef l = 34 :: qls l ++ [34] := by rw [quoteRef, if_neg (by omega)]
  have hs : (ba (quoteRef l)).size = (qls l).length + 2 := by rw [hq]; simp [ba, ByteArray.size]
  have h4 := qls_le l
  have hg := qls_ge l
  unfold unqRef
  rw [if_neg (by omega)]
  have hb : bt (ba (quoteRef l)) 0 = 34 := by rw [hq, bt_ba]; rfl
  rw [if_pos hb, hs, hq]
  have := unqF_qls l ((qls l).length + 2) [34] [] (by omega)
  simpa using this
theorem quote_in {l : List UInt8} {c : UInt8} (h : c ∈ quoteRef l) : 32 ≤ c.toNat ∧ c.toNat ≤ 126 := by
  have hel : ∀ (n : Nat), n < 256 → ∀ c ∈ qel n, 32 ≤ c.toNat ∧ c.toNat ≤ 126 := by
    intro n hn c hc
    unfold qel at hc
    split at hc
    · simp at hc; rcases hc with rfl | rfl <;> decide
    · split at hc
      · simp at hc; rcases hc with rfl | rfl <;> decide
      · split at hc
        · rename_i h3
          simp only [List.mem_cons, List.not_mem_nil, or_false] at hc
          rcases hc with rfl | rfl
          · decide
          · rw [ofNat_toNat hn]; omega
        · split at hc
          · simp only [List.mem_cons, List.not_mem_nil, or_false] at hc
            rcases hc with rfl | rfl | rfl | rfl
            · decide
            · decide
            · exact hexd_in _ (by omega)
            · exact hexd_in _ (by omega)
          · rename_i h4
            simp only [List.mem_cons, List.not_mem_nil, or_false] at hc
            subst hc
            rw [ofNat_toNat hn]
            omega
  unfold quoteRef at h
  split at h
  · simp at h
  · simp only [List.cons_append, List.mem_cons, List.mem_append, List.not_mem_nil, or_false] at h
    rcases h with rfl | h | rfl
    · decide
    · obtain ⟨x, hx, hc⟩ := List.mem_flatMap.1 h
      exact hel _ x.toNat_lt _ hc
    · decide

end Go.Proofs.YtmlgmhnplicflaaDoor.Quo
