import Derived.Test.YtplffcdgojndfaaC
import Derived.Test.YtplffcdgojndfaaYp

/-
  Counts over one byte in a group: which ends, in which order.
-/
namespace Go.Proofs.Ytplffcdgojndfaa
set_option linter.unusedVariables false

/-- What the last of q rounds leaves in the group. -/
def efA (q : Nat) : Ef := if q = 0 then eno else est eno 0 (q - 1, q)
/-- One more, as far as the text goes. -/
def AX (n : Nat) : Xs := fun p => if p < n then [(p + 1, est eno 0 (p, p + 1))] else []
theorem efA_next (m : Nat) : eov (efA m) (est eno 0 (m, m + 1)) = efA (m + 1) := by
  funext i
  unfold efA eov est eno
  by_cases hi : i = 0
  · subst hi; simp
  · by_cases hm : m = 0 <;> simp [hi, hm]
theorem dd_apart {α : Type} (L : List (Nat × α)) : ∀ s : Vs, (∀ e ∈ L, s e.1 = false) → (L.map (·.1)).Nodup → dd s L = L := by
  induction L with
  | nil => intros; rfl
  | cons e L ih =>
    intro s h1 h2
    simp only [List.map_cons, List.nodup_cons] at h2
    simp only [dd]
    rw [if_neg (by rw [h1 e (by simp)]; simp), ih _ ?_ h2.2]
    intro f hf
    unfold sad
    have h3 := h1 f (by simp [hf])
    have h4 : f.1 ≠ e.1 := fun e' => h2.1 (by rw [← e']; exact List.mem_map_of_mem hf)
    simp [h3, h4]
theorem thns_A (n m : Nat) : thns [(0, eno)] (List.replicate m (AX n)) = if m ≤ n then [(m, efA m)] else [] := by
  induction m with
  | zero => simp [thns, efA]
  | succ m ih =>
    rw [List.replicate_succ', thns, List.foldl_append]
    show thn (thns [(0, eno)] (List.replicate m (AX n))) (AX n) = _
    rw [ih]
    by_cases h : m ≤ n
    · rw [if_pos h]
      by_cases h2 : m < n
      · rw [if_pos (by omega)]
        have : bnd [(m, efA m)] (AX n) = [(m + 1, efA (m + 1))] := by
          simp [bnd, AX, h2, beh, efA_next]
        rw [thn, this]
        exact dd_apart _ _ (fun e _ => rfl) (by simp)
      · rw [if_neg (by omega)]
        simp [thn, bnd, AX, h2, beh, dd]
    · rw [if_neg h, if_neg (by omega)]
      rfl
def ldr : Nat → Nat → En
  | 0, p => [(p, eno)]
  | c + 1, p => (p, eno) :: beh (p + 1, est eno 0 (p, p + 1)) (ldr c (p + 1))
theorem beh_ldr (c : Nat) : ∀ m, beh (m, efA m) (ldr c m) = (List.range (c + 1)).map (fun i => (m + i, efA (m + i))) := by
  induction c with
  | zero => intro m; simp [ldr, beh, eov_eno]
  | succ c ih =>
    intro m
    have e : beh (m, efA m) (ldr (c + 1) m) = (m, efA m) :: beh (m, efA m) (beh (m + 1, est eno 0 (m, m + 1)) (ldr c (m + 1))) := by
      simp [ldr, beh, eov_eno]
    rw [e, beh_beh _ _ (m + 1), efA_next, ih (m + 1)]
    conv => rhs; rw [List.range_succ_eq_map]
    rw [List.map_cons, List.map_map, Nat.add_zero]
    congr 1
    refine List.map_congr_left fun i _ => ?_
    show (m + 1 + i, efA (m + 1 + i)) = (m + (i + 1), efA (m + (i + 1)))
    rw [show m + 1 + i = m + (i + 1) from by omega]
theorem beh_rev (e : Nat × Ef) (L : En) : beh e L.reverse = (beh e L).reverse := by simp [beh]
theorem fuF_A (n : Nat) (lz : Bool) (f : Nat) : ∀ left p, left ≤ 50 → p ≤ n → n - p < f → fuF (AX n) lz f left p = if lz then ldr (min left (n - p)) p else (ldr (min left (n - p)) p).reverse := by
  induction f with
  | zero => intro left p _ _ h; omega
  | succ f ih =>
    intro left p h1 h2 h3
    by_cases h0 : left = 0
    · subst h0
      cases lz <;> simp [fuF, ldr]
    · by_cases hp : p < n
      · have hl : less left = left - 1 := by unfold less; rw [if_neg (by omega)]
        obtain ⟨c, hc⟩ : ∃ c, min left (n - p) = c + 1 := ⟨min left (n - p) - 1, by omega⟩
        have hc2 : min (left - 1) (n - (p + 1)) = c := by omega
        have hi := ih (left - 1) (p + 1) (by omega) (by omega) (by omega)
        rw [hc2] at hi
        rw [hc]
        cases lz with
        | true => simp [fuF, h0, AX, hp, hl] at hi ⊢; simp [hi, ldr]
        | false => simp [fuF, h0, AX, hp, hl] at hi ⊢; simp [hi, ldr, beh_rev]
      · have e : min left (n - p) = 0 := by omega
        rw [e]
        cases lz <;> simp [fuF, ldr, AX, hp, h0]
theorem rep_A {n m k : Nat} (lz : Bool) (hm : m ≤ k) (hk : k - m ≤ 50) : repX n { least := m, most := some k, lazy := lz } (AX n) 0 =
    if m ≤ n then (if lz then (List.range (min k n - m + 1)).map (fun i => (m + i, efA (m + i))) else ((List.range (min k n - m + 1)).map (fun i => (m + i, efA (m + i)))).reverse) else [] := by
  unfold repX
  simp only
  rw [thns_A]
  by_cases h : m ≤ n
  · rw [if_pos h, if_pos h]
    have hc : min (k - m) (n - m) = min k n - m := by omega
    have e : bnd [(m, efA m)] (fun q => fuF (AX n) lz (n + 1 - q) (Rp.left { least := m, most := some k, lazy := lz } m) q) = beh (m, efA m) (fuF (AX n) lz (n + 1 - m) (k - m) m) := by
      simp [bnd, Rp.left]
    rw [e, fuF_A n lz _ _ _ hk h (by omega), hc]
    have hN : (((List.range (min k n - m + 1)).map (fun i => (m + i, efA (m + i)))).map (·.1)).Nodup := by
      rw [List.map_map]
      refine List.pairwise_map.2 (List.Pairwise.imp ?_ List.pairwise_lt_range)
      intro a b hab
      show m + a ≠ m + b
      omega
    cases lz with
    | true => simp only [if_true]; rw [beh_ldr]; exact dd_apart _ _ (fun e _ => rfl) hN
    | false =>
      simp only [Bool.false_eq_true, if_false]
      rw [beh_rev, beh_ldr]
      refine dd_apart _ _ (fun e _ => rfl) ?_
      rw [List.map_reverse]
      exact List.pairwise_reverse.2 (List.Pairwise.imp (fun h => Ne.symm h) hN)
  · rw [if_neg h, if_neg h]
    rfl

end Go.Proofs.Ytplffcdgojndfaa

/-
  What a group of one byte with counts is read as.
-/
namespace Go.Proofs.Ytplffcdgojndfaa
set_option linter.unusedVariables false

def cntPf (m k : Nat) (lz : Bool) : Pf := seqPf [repPf m k lz (grpPf 1 (seqPf [setPf (one 97)]))]

/-- A text of such bytes. -/
structure CntS (s : ByteArray) (m k q1 q2 : Nat) (lz : Bool) : Prop where
  b0 : bt s 0 = 40
  b1 : bt s 1 = 97
  b2 : bt s 2 = 41
  b3 : bt s 3 = 123
  n1 : numRef s 4 = .ok (m, q1)
  h1 : q1 ≠ 4
  b4 : bt s q1 = 44
  n2 : numRef s (q1 + 1) = .ok (k, q2)
  h2 : q2 ≠ q1 + 1
  le : m ≤ k
  b5 : bt s q2 = 125
  b6 : bt s (q2 + 1) = if lz then 63 else 256
  b7 : lz = true → bt s (q2 + 2) = 256
  sz : s.size ≤ 120
  lo : 2 ≤ s.size

theorem seq_one (alt : Nat → Nat → Rd3) (room : Bool) (s : ByteArray) {p g q g' : Nat} {f : Pf} (hs : 2 ≤ s.size) (h0 : bt s p ≠ 256 ∧ bt s p ≠ 124 ∧ bt s p ≠ 41) (h : pieceRef alt room s p g = .ok (f, q, g')) (h1 : bt s q = 256 ∨ bt s q = 41) : seqRef alt room s p g = .ok (seqPf [f], q, g') := by
  unfold seqRef
  obtain ⟨z, hz⟩ : ∃ z, s.size + 1 = z + 1 + 1 := ⟨s.size - 1, by omega⟩
  rw [hz]
  have h2 : ¬ (bt s q ≠ 256 ∧ bt s q ≠ 124 ∧ bt s q ≠ 41) := by rcases h1 with h1 | h1 <;> rw [h1] <;> decide
  simp only [seqLoop]
  rw [if_pos h0, h]
  simp only
  rw [if_neg h2]
  rfl
theorem alt_one (alt : Nat → Nat → Rd3) (room : Bool) (s : ByteArray) {p g q g' : Nat} {f : Pf} (h : seqRef alt room s p g = .ok (f, q, g')) (h1 : bt s q = 256 ∨ bt s q = 41) : altOf alt room s p g = .ok (f, q, g') := by
  unfold altOf
  rw [h]
  simp only
  rw [if_neg (by rcases h1 with h1 | h1 <;> rw [h1] <;> decide)]
theorem atom_byte (alt : Nat → Nat → Rd3) (room : Bool) {s : ByteArray} {p g : Nat} (h : bt s p = 97) : atomRef alt room s p g = .ok (setPf (one 97), p + 1, g) := by
  unfold atomRef
  rw [h]
  simp
theorem tree_cnt {s : ByteArray} {m k q1 q2 : Nat} {lz : Bool} (h : CntS s m k q1 q2 lz) : treeRef s = .ok (1, cntPf m k lz) := by
  have i1 : pieceRef (altRef s 4) true s 1 1 = .ok (setPf (one 97), 2, 1) := by
    unfold pieceRef
    rw [atom_byte _ _ h.b1]
    simp only
    unfold cntRef
    rw [h.b2]
    simp
  have i2 : altRef s 5 1 1 = .ok (seqPf [setPf (one 97)], 2, 1) :=
    alt_one _ _ _ (seq_one _ _ _ h.lo (by rw [h.b1]; decide) i1 (Or.inr h.b2)) (Or.inr h.b2)
  have i3 : atomRef (altRef s 5) true s 0 0 = .ok (grpPf 1 (seqPf [setPf (one 97)]), 3, 1) := by
    unfold atomRef
    rw [if_pos h.b0, if_neg (by simp)]
    show (match altRef s 5 1 1 with | .error e => _ | .ok (f, q, g') => _) = _
    rw [i2]
    simp only
    rw [if_pos h.b2]
    rfl
  have i4 : cntRef s 3 = .ok (some ((m : Int), (k : Int)), q2 + 1) := by
    unfold cntRef
    rw [h.b3, if_neg (by decide), if_neg (by decide), if_neg (by decide), if_pos rfl]
    unfold countsRef
    rw [show 3 + 1 = 4 from rfl, h.n1]
    simp only
    rw [if_neg h.h1, if_pos h.b4, h.n2]
    simp only
    rw [if_neg h.h2, if_neg (by have := h.le; omega), if_pos h.b5]
  cases lz with
  | false =>
    have h6 : bt s (q2 + 1) = 256 := by simpa using h.b6
    have i5 : pieceRef (altRef s 5) true s 0 0 = .ok (repPf m k false (grpPf 1 (seqPf [setPf (one 97)])), q2 + 1, 1) := by
      unfold pieceRef
      rw [i3]
      simp only
      rw [i4]
      simp only
      rw [h6, if_neg (by decide)]
    have i6 : altRef s 6 0 0 = .ok (cntPf m k false, q2 + 1, 1) :=
      alt_one _ _ _ (seq_one _ _ _ h.lo (by rw [h.b0]; decide) i5 (Or.inl h6)) (Or.inl h6)
    unfold treeRef
    rw [if_neg (by have := h.sz; omega), i6]
    simp only
    rw [if_neg (bt_end.1 h6)]
  | true =>
    have h6 : bt s (q2 + 1) = 63 := by simpa using h.b6
    have h7 : bt s (q2 + 2) = 256 := h.b7 rfl
    have i5 : pieceRef (altRef s 5) true s 0 0 = .ok (repPf m k true (grpPf 1 (seqPf [setPf (one 97)])), q2 + 2, 1) := by
      unfold pieceRef
      rw [i3]
      simp only
      rw [i4]
      simp only
      rw [h6, if_pos rfl]
    have i6 : altRef s 6 0 0 = .ok (cntPf m k true, q2 + 2, 1) :=
      alt_one _ _ _ (seq_one _ _ _ h.lo (by rw [h.b0]; decide) i5 (Or.inl h7)) (Or.inl h7)
    unfold treeRef
    rw [if_neg (by have := h.sz; omega), i6]
    simp only
    rw [if_neg (bt_end.1 h7)]

end Go.Proofs.Ytplffcdgojndfaa
