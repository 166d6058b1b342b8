import Derived.Test.YtplffcdgojndfaaCb
import Derived.Test.YtplffcdgojndfaaCa

/-
  The ways of a group of one byte with counts, in a text of that byte.
-/
namespace Go.Proofs.Ytplffcdgojndfaa
set_option linter.unusedVariables false

/-- A text of n times that byte. -/
structure AllA (u : ByteArray) (n : Nat) : Prop where
  size : u.size = n
  byte : ∀ p, p < n → bt u p = 97

theorem seqX_one (X : Xs) (p : Nat) : seqX [X] p = dd sno (X p) := by
  show thn [(p, eno)] X = _
  rw [thn, bnd_one]
theorem seqPf_ful (fs : List Pf) : Ful (seqPf fs) := by intro n; simp [seqPf]
theorem grpPf_ful (g : Int) (f : Pf) : Ful (grpPf g f) := by intro n; simp [grpPf]
theorem repPf_ful (a b : Int) (l : Bool) (f : Pf) : Ful (repPf a b l f) := by intro n; simp [repPf]
theorem setPf_ful (S : Bs) : Ful (setPf S) := by intro n; simp [setPf]

theorem one_A {u : ByteArray} {n : Nat} (h : AllA u n) : smx u [] (grpPf 1 (seqPf [setPf (one 97)])) = AX n := by
  rw [smx_grp _ _ _ _ (seqPf_ful _), smx_seq _ _ _ (by intro f hf; simp at hf; subst hf; exact setPf_ful _)]
  show grpX 0 (seqX [smx u [] (setPf (one 97))]) = _
  rw [smx_set]
  funext p
  unfold grpX
  rw [seqX_one]
  unfold oneX AX
  by_cases hp : p < n
  · rw [if_pos (by show (decide (p < u.size) && inR (ranges (one 97)) ((bt u p : Nat) : Int)) = true; rw [inR_ranges _ _ (by rw [h.byte p hp]; decide), h.byte p hp, h.size]; simp [hp, one]), if_pos hp]
    rw [dd_apart _ _ (fun e _ => rfl) (by simp)]
    rfl
  · rw [if_neg (by show ¬ (decide (p < u.size) && inR (ranges (one 97)) ((bt u p : Nat) : Int)) = true; rw [h.size]; simp [hp]), if_neg hp]
    rfl
theorem mtOf_A (q : Nat) : mtOf 1 0 (q, efA q) = ⟨true, 0, (q : Int), [if q = 0 then (-1, -1) else (((q - 1 : Nat) : Int), (q : Int))]⟩ := by
  unfold mtOf gsOf
  by_cases h : q = 0
  · subst h; simp [efA, eno, List.range_succ]
  · simp [efA, h, est, List.range_succ]
theorem ways_cnt {s u : ByteArray} {m k n q1 q2 : Nat} {lz : Bool} (h : CntS s m k q1 q2 lz) (hu : AllA u n) (hn : n ≤ 200) (hk : k - m ≤ 50) : waysRef s u 0 = if lz then cntM m (cntC m k n) else (cntM m (cntC m k n)).reverse := by
  have hw : wanted s u 0 = true := by
    unfold wanted
    rw [tree_cnt h]
    simp [hu.size, hn]
  unfold waysRef
  rw [if_pos hw, tree_cnt h]
  simp only
  have e : smx u [] (cntPf m k lz) 0 = dd sno (repX n { least := m, most := some k, lazy := lz } (AX n) 0) := by
    unfold cntPf
    rw [smx_seq _ _ _ (by intro f hf; simp at hf; subst hf; exact repPf_ful _ _ _ _)]
    show seqX [smx u [] (repPf m k lz (grpPf 1 (seqPf [setPf (one 97)])))] 0 = _
    rw [seqX_one, smx_rep _ _ _ _ _ _ (grpPf_ful _ _), one_A hu, hu.size, if_neg (by omega)]
    rfl
  show ((smx u [] (cntPf m k lz) (0 : Int).toNat).map (mtOf 1 (0 : Int).toNat)) = _
  rw [show (0 : Int).toNat = 0 from rfl, e, rep_A lz h.le hk]
  have hN : (((List.range (min k n - m + 1)).map (fun i => (m + i, efA (m + i)))).map (·.1)).Nodup := by
    rw [List.map_map]
    refine List.pairwise_map.2 (List.Pairwise.imp ?_ List.pairwise_lt_range)
    intro a b hab
    show m + a ≠ m + b
    omega
  have hM : ∀ c, ((List.range c).map (fun i => (m + i, efA (m + i)))).map (mtOf 1 0) = cntM m c := by
    intro c
    rw [List.map_map]
    exact List.map_congr_left fun i _ => mtOf_A (m + i)
  unfold cntC
  by_cases hmn : m ≤ n
  · rw [if_pos hmn, if_pos hmn]
    cases lz with
    | true => simp only [if_true]; rw [dd_apart _ _ (fun e _ => rfl) hN, hM]
    | false =>
      simp only [Bool.false_eq_true, if_false]
      rw [dd_apart _ _ (fun e _ => rfl) (by rw [List.map_reverse]; exact List.pairwise_reverse.2 (List.Pairwise.imp (fun h => Ne.symm h) hN)), List.map_reverse, hM]
  · rw [if_neg hmn, if_neg hmn]
    cases lz <;> rfl

end Go.Proofs.Ytplffcdgojndfaa

/-
  Numbers of one or two digits, and the text of counts.
-/
namespace Go.Proofs.Ytplffcdgojndfaa
set_option linter.unusedVariables false

theorem bt_cba {l : List UInt8} {p : Nat} {b : UInt8} (h : l[p]? = some b) : bt (cba l) p = b.toNat := by
  obtain ⟨hp, e⟩ := List.getElem?_eq_some_iff.1 h
  rw [bt_in (by rw [cba_size]; exact hp)]
  show ((cba l).data[p]'_).toNat = _
  simp [cba, e]
theorem bt_cba_out {l : List UInt8} {p : Nat} (h : l.length ≤ p) : bt (cba l) p = 256 := bt_out (by rw [cba_size]; omega)
theorem dig_yes {d : Nat} (h : d < 10) : digit (48 + d) = true := by simp [digit]; omega
theorem num1 {s : ByteArray} {p d : Nat} (h0 : bt s p = 48 + d) (hd : d < 10) (h1 : digit (bt s (p + 1)) = false) (hs : 2 ≤ s.size) : numRef s p = .ok (d, p + 1) := by
  unfold numRef
  obtain ⟨z, hz⟩ : ∃ z, s.size + 1 = z + 1 + 1 := ⟨s.size - 1, by omega⟩
  rw [hz]
  simp only [numLoop]
  rw [h0, if_pos (dig_yes hd), if_neg (by omega), h1]
  simp
theorem num2 {s : ByteArray} {p a b : Nat} (h0 : bt s p = 48 + a) (ha : a < 10) (h1 : bt s (p + 1) = 48 + b) (hb : b < 10) (hab : a * 10 + b ≤ 50) (h2 : digit (bt s (p + 2)) = false) (hs : 2 ≤ s.size) : numRef s p = .ok (a * 10 + b, p + 2) := by
  unfold numRef
  obtain ⟨z, hz⟩ : ∃ z, s.size + 1 = z + 1 + 1 + 1 := ⟨s.size - 2, by omega⟩
  rw [hz]
  simp only [numLoop]
  rw [h0, if_pos (dig_yes ha), if_neg (by omega), h1, if_pos (dig_yes hb), if_neg (by omega), h2]
  simp
theorem num_L {s : ByteArray} {p n : Nat} (hn : n ≤ 50) (h : ∀ i b, (numL n)[i]? = some b → bt s (p + i) = b.toNat) (h1 : digit (bt s (p + (numL n).length)) = false) (hs : 2 ≤ s.size) : numRef s p = .ok (n, p + (numL n).length) := by
  unfold numL at h h1 ⊢
  by_cases hd : n < 10
  · rw [if_pos hd] at h h1 ⊢
    have e := h 0 _ rfl
    rw [u8_nat (by omega)] at e
    exact num1 e hd h1 hs
  · rw [if_neg hd] at h h1 ⊢
    have e := h 0 _ rfl
    have e1 := h 1 _ rfl
    rw [u8_nat (by omega)] at e e1
    have := num2 (p := p) (a := n / 10) (b := n % 10) e (by omega) e1 (by omega) (by omega) h1 hs
    rw [this]
    have e2 : n / 10 * 10 + n % 10 = n := by omega
    rw [e2]
    rfl
def patL (m k : Nat) (lz : Bool) : List UInt8 := [40, 97, 41, 123] ++ (numL m ++ (44 :: (numL k ++ (125 :: if lz then [63] else []))))
theorem cnt_pat {m k : Nat} (lz : Bool) (h : m ≤ k) (hk : k ≤ 50) : CntS (cba (patL m k lz)) m k (4 + (numL m).length) (4 + (numL m).length + 1 + (numL k).length) lz := by
  have hm := numL_len m
  have hkl := numL_len k
  have A0 : ∀ i, (patL m k lz)[4 + i]? = (numL m ++ (44 :: (numL k ++ (125 :: if lz then [63] else []))))[i]? := fun i => by
    unfold patL
    rw [List.getElem?_append_right (by simp)]
    simp
  have A1 : ∀ i, (patL m k lz)[4 + (numL m).length + i]? = (44 :: (numL k ++ (125 :: if lz then [63] else [])))[i]? := fun i => by
    rw [Nat.add_assoc, A0, List.getElem?_append_right (by omega)]
    simp
  have A2 : ∀ i, (patL m k lz)[4 + (numL m).length + 1 + i]? = (numL k ++ (125 :: if lz then [63] else []))[i]? := fun i => by
    rw [Nat.add_assoc _ 1 i, A1, Nat.add_comm 1 i]
    rfl
  have A3 : ∀ i, (patL m k lz)[4 + (numL m).length + 1 + (numL k).length + i]? = (125 :: if lz then [63] else [])[i]? := fun i => by
    rw [Nat.add_assoc _ (numL k).length i, A2, List.getElem?_append_right (by omega)]
    simp
  have hl : (patL m k lz).length = 4 + (numL m).length + 1 + (numL k).length + 1 + (if lz then 1 else 0) := by
    unfold patL
    cases lz <;> simp <;> omega
  have sz : (cba (patL m k lz)).size = (patL m k lz).length := cba_size _
  have b4 : bt (cba (patL m k lz)) (4 + (numL m).length) = 44 := bt_cba (b := 44) (A1 0)
  have b5 : bt (cba (patL m k lz)) (4 + (numL m).length + 1 + (numL k).length) = 125 := bt_cba (b := 125) (A3 0)
  have lo : 2 ≤ (cba (patL m k lz)).size := by rw [sz, hl]; omega
  refine ⟨bt_cba (b := 40) rfl, bt_cba (b := 97) rfl, bt_cba (b := 41) rfl, bt_cba (b := 123) rfl, ?_, by omega, b4, ?_, by omega, h, b5, ?_, ?_, ?_, lo⟩
  · refine num_L (by omega) (fun i b hb => bt_cba ?_) (by rw [b4]; decide) lo
    obtain ⟨hi, -⟩ := List.getElem?_eq_some_iff.1 hb
    rw [A0, List.getElem?_append_left hi]
    exact hb
  · refine num_L (by omega) (fun i b hb => bt_cba ?_) (by rw [b5]; decide) lo
    obtain ⟨hi, -⟩ := List.getElem?_eq_some_iff.1 hb
    rw [A2, List.getElem?_append_left hi]
    exact hb
  · cases lz with
    | true => exact bt_cba (b := 63) (A3 1)
    | false => exact bt_cba_out (by rw [hl]; simp)
  · intro e
    subst e
    exact bt_cba_out (by rw [hl]; simp)
  · rw [sz, hl]
    cases lz <;> simp <;> omega
theorem all_A (n : Nat) : AllA (cba (List.replicate n 97)) n :=
  ⟨by rw [cba_size]; simp, fun p hp => bt_cba (b := 97) (by simp [hp])⟩

end Go.Proofs.Ytplffcdgojndfaa
