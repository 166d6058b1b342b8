import Derived.Test.YtmlgmhnplicflaaGreatEa
import Derived.Test.YtmlgmhnplicflaaGreatX
import Derived.Test.YtmlgmhnplicflaaGreatYp

/-
  What a text that Escape has written is read as.
-/
namespace Go.Proofs.YtmlgmhnplicflaaGreat
open Go.RowKit
set_option linter.unusedVariables false

theorem bt_ba (l : List UInt8) (p : Nat) : bt (Esc.ba l) p = match l[p]? with | some c => c.toNat | none => 256 := by
  by_cases h : p < l.length
  · have hs : p < (Esc.ba l).size := by rw [Esc.ba_size]; exact h
    rw [bt_in hs, List.getElem?_eq_getElem h]
    rfl
  · have hs : ¬ p < (Esc.ba l).size := by rw [Esc.ba_size]; exact h
    rw [bt_out hs, List.getElem?_eq_none (by omega)]

/-- A text, seen from a place on. -/
theorem bt_mid (a m b : List UInt8) (j : Nat) (hj : j < m.length) : bt (Esc.ba (a ++ m ++ b)) (a.length + j) = (m[j]).toNat := by
  rw [bt_ba]
  have : (a ++ m ++ b)[a.length + j]? = some m[j] := by
    rw [List.append_assoc, List.getElem?_append_right (by omega)]
    have e : a.length + j - a.length = j := by omega
    rw [e, List.getElem?_append_left hj, List.getElem?_eq_getElem hj]
  rw [this]

theorem hexv_hexd {k : Nat} (hk : k < 16) : hexv (Esc.hexd k).toNat = some k := by
  rcases (show k = 0 ∨ k = 1 ∨ k = 2 ∨ k = 3 ∨ k = 4 ∨ k = 5 ∨ k = 6 ∨ k = 7 ∨ k = 8 ∨ k = 9 ∨ k = 10 ∨ k = 11 ∨ k = 12 ∨ k = 13 ∨ k = 14 ∨ k = 15 from by omega) with h | h | h | h | h | h | h | h | h | h | h | h | h | h | h | h <;> subst h <;> decide

theorem esc_cases (c : UInt8) : (Esc.esc c.toNat = [c] ∧ (letter c.toNat = true ∨ digit c.toNat = true ∨ c.toNat = 95 ∨ c.toNat = 44 ∨ c.toNat = 58 ∨ c.toNat = 61)) ∨
    (Esc.esc c.toNat = [92, c] ∧ letter c.toNat = false ∧ digit c.toNat = false ∧ printed c.toNat = true) ∨ Esc.esc c.toNat = [92, 120, Esc.hexd (c.toNat / 16), Esc.hexd (c.toNat % 16)] := by
  have hc : UInt8.ofNat ((c.toNat : Int)).toNat = c := by simp
  unfold Esc.esc
  by_cases hp : Esc.isP c.toNat = true
  · rw [if_pos hp]
    by_cases hl : Esc.plain c.toNat = true
    · rw [if_pos hl, hc]
      refine Or.inl ⟨rfl, ?_⟩
      simp [Esc.plain, Esc.isL, Esc.isD] at hl
      simp [letter, digit]
      omega
    · rw [if_neg hl, hc]
      refine Or.inr (Or.inl ⟨rfl, ?_, ?_, ?_⟩)
      · simp [Esc.plain, Esc.isL, Esc.isD] at hl; simp [letter]; omega
      · simp [Esc.plain, Esc.isL, Esc.isD] at hl; simp [digit]; omega
      · simp [Esc.isP] at hp; simp [printed]; omega
  · rw [if_neg hp]
    refine Or.inr (Or.inr ?_)
    have h1 : ((c.toNat : Int) / 16).toNat = c.toNat / 16 := by omega
    have h2 : ((c.toNat : Int) % 16).toNat = c.toNat % 16 := by omega
    rw [h1, h2]

/-- The first byte of what a byte is written as. -/
theorem esc_head (c : UInt8) : ∃ d t, Esc.esc c.toNat = d :: t ∧ d.toNat ≠ 42 ∧ d.toNat ≠ 43 ∧ d.toNat ≠ 63 ∧ d.toNat ≠ 123 ∧ d.toNat ≠ 124 ∧ d.toNat ≠ 41 := by
  rcases esc_cases c with ⟨e, h⟩ | ⟨e, _⟩ | e
  · refine ⟨c, [], e, ?_⟩
    simp [letter, digit] at h
    omega
  · exact ⟨92, [c], e, by decide⟩
  · exact ⟨92, _, e, by decide⟩

/-- What stands behind a written byte: the end, or a byte that is no count. -/
theorem next_ok (a m : List UInt8) (l : List UInt8) : bt (Esc.ba (a ++ m ++ Esc.encL l)) (a.length + m.length) = 256 ∨ ∃ x, bt (Esc.ba (a ++ m ++ Esc.encL l)) (a.length + m.length) = x ∧ x < 256 ∧ x ≠ 42 ∧ x ≠ 43 ∧ x ≠ 63 ∧ x ≠ 123 ∧ x ≠ 124 ∧ x ≠ 41 := by
  cases l with
  | nil =>
    left
    rw [bt_ba, List.getElem?_eq_none (by simp [Esc.encL])]
  | cons c l =>
    right
    obtain ⟨d, t, e, hd⟩ := esc_head c
    refine ⟨d.toNat, ?_, d.toNat_lt, hd⟩
    rw [bt_ba]
    have : (a ++ m ++ Esc.encL (c :: l))[a.length + m.length]? = some d := by
      rw [List.getElem?_append_right (by simp)]
      simp [Esc.encL, e]
    rw [this]

theorem cnt_none {s : ByteArray} {q : Nat} (h : bt s q = 256 ∨ ∃ x, bt s q = x ∧ x < 256 ∧ x ≠ 42 ∧ x ≠ 43 ∧ x ≠ 63 ∧ x ≠ 123 ∧ x ≠ 124 ∧ x ≠ 41) : cntRef s q = .ok (none, q) := by
  have h1 : bt s q ≠ 42 ∧ bt s q ≠ 43 ∧ bt s q ≠ 63 ∧ bt s q ≠ 123 := by
    rcases h with h | ⟨x, h, hx⟩
    · rw [h]; decide
    · rw [h]; exact ⟨hx.2.1, hx.2.2.1, hx.2.2.2.1, hx.2.2.2.2.1⟩
  simp [cntRef, h1.1, h1.2.1, h1.2.2.1, h1.2.2.2]

theorem atom_esc_ref {alt : Nat → Nat → Rd3} {room : Bool} (a : List UInt8) (c : UInt8) (b : List UInt8) (g : Nat) :
    atomRef alt room (Esc.ba (a ++ Esc.esc c.toNat ++ b)) a.length g = .ok (setPf (one c.toNat), a.length + (Esc.esc c.toNat).length, g) := by
  have hc := c.toNat_lt
  rcases esc_cases c with ⟨e, h⟩ | ⟨e, h1, h2, h3⟩ | e
  · rw [e]
    have h0 := bt_mid a [c] b 0 (by simp)
    simp only [Nat.add_zero, List.getElem_cons_zero] at h0
    have hx : c.toNat ≠ 40 ∧ c.toNat ≠ 91 ∧ c.toNat ≠ 94 ∧ c.toNat ≠ 36 ∧ c.toNat ≠ 46 ∧ c.toNat ≠ 92 ∧ ¬ (c.toNat = 42 ∨ c.toNat = 43 ∨ c.toNat = 63 ∨ c.toNat = 123 ∨ c.toNat = 125 ∨ c.toNat = 93) := by
      simp [letter, digit] at h
      omega
    unfold atomRef
    rw [h0, if_neg hx.1, if_neg hx.2.1, if_neg hx.2.2.1, if_neg hx.2.2.2.1, if_neg hx.2.2.2.2.1, if_neg hx.2.2.2.2.2.1, if_neg hx.2.2.2.2.2.2]
    rfl
  · rw [e]
    have h0 := bt_mid a [92, c] b 0 (by simp)
    have hb := bt_mid a [92, c] b 1 (by simp)
    simp only [Nat.add_zero, List.getElem_cons_zero] at h0
    simp only [List.getElem_cons_succ, List.getElem_cons_zero] at hb
    have h0' : bt (Esc.ba (a ++ [92, c] ++ b)) a.length = 92 := h0
    have hq : (letter c.toNat || digit c.toNat || !printed c.toNat) = false := by simp [h1, h2, h3]
    have hne : c.toNat ≠ 256 ∧ c.toNat ≠ 100 ∧ c.toNat ≠ 119 ∧ c.toNat ≠ 115 ∧ c.toNat ≠ 110 ∧ c.toNat ≠ 116 ∧ c.toNat ≠ 114 ∧ c.toNat ≠ 120 := by
      simp [letter] at h1
      omega
    have he : escRef (Esc.ba (a ++ [92, c] ++ b)) (a.length + 1) = .ok (one c.toNat, some c.toNat, a.length + 1 + 1) := by
      unfold escRef
      rw [hb, if_neg hne.1, if_neg hne.2.1, if_neg hne.2.2.1, if_neg hne.2.2.2.1, if_neg hne.2.2.2.2.1, if_neg hne.2.2.2.2.2.1, if_neg hne.2.2.2.2.2.2.1, if_neg hne.2.2.2.2.2.2.2, hq]
      simp
    unfold atomRef
    rw [h0', he]
    simp
  · rw [e]
    have h0 := bt_mid a [92, 120, Esc.hexd (c.toNat / 16), Esc.hexd (c.toNat % 16)] b 0 (by simp)
    have h1 := bt_mid a [92, 120, Esc.hexd (c.toNat / 16), Esc.hexd (c.toNat % 16)] b 1 (by simp)
    have h2 := bt_mid a [92, 120, Esc.hexd (c.toNat / 16), Esc.hexd (c.toNat % 16)] b 2 (by simp)
    have h3 := bt_mid a [92, 120, Esc.hexd (c.toNat / 16), Esc.hexd (c.toNat % 16)] b 3 (by simp)
    simp only [Nat.add_zero, List.getElem_cons_zero, List.getElem_cons_succ] at h0 h1 h2 h3
    have h0' : bt (Esc.ba (a ++ [92, 120, Esc.hexd (c.toNat / 16), Esc.hexd (c.toNat % 16)] ++ b)) a.length = 92 := h0
    have h1' : bt (Esc.ba (a ++ [92, 120, Esc.hexd (c.toNat / 16), Esc.hexd (c.toNat % 16)] ++ b)) (a.length + 1) = 120 := h1
    have he : escRef (Esc.ba (a ++ [92, 120, Esc.hexd (c.toNat / 16), Esc.hexd (c.toNat % 16)] ++ b)) (a.length + 1) = .ok (one c.toNat, some c.toNat, a.length + 1 + 3) := by
      have d : c.toNat / 16 * 16 + c.toNat % 16 = c.toNat := by omega
      unfold escRef
      rw [h1', h2, h3, hexv_hexd (by omega), hexv_hexd (by omega)]
      simp [d]
    unfold atomRef
    rw [h0', he]
    simp

theorem seq_esc_ref {alt : Nat → Nat → Rd3} {room : Bool} (l : List UInt8) (a : List UInt8) (g fu : Nat) (fs : List Pf) (hfu : l.length < fu) :
    seqLoop alt room (Esc.ba (a ++ Esc.encL l)) fu a.length g fs = .ok (fs ++ l.map (fun c => setPf (one c.toNat)), (Esc.ba (a ++ Esc.encL l)).size, g) := by
  induction l generalizing a fu fs with
  | nil =>
    obtain ⟨f, rfl⟩ : ∃ f, fu = f + 1 := ⟨fu - 1, by omega⟩
    have e : bt (Esc.ba (a ++ Esc.encL [])) a.length = 256 := by rw [bt_ba, List.getElem?_eq_none (by simp [Esc.encL])]
    rw [seqLoop, if_neg (by simp [e]), Esc.ba_size]
    simp [Esc.encL]
  | cons c l ih =>
    obtain ⟨f, rfl⟩ : ∃ f, fu = f + 1 := ⟨fu - 1, by omega⟩
    have e0 : a ++ Esc.encL (c :: l) = a ++ Esc.esc c.toNat ++ Esc.encL l := by simp [Esc.encL]
    rw [e0]
    obtain ⟨d, t, hd, hx⟩ := esc_head c
    have hb : bt (Esc.ba (a ++ Esc.esc c.toNat ++ Esc.encL l)) a.length = d.toNat := by
      have := bt_mid a (Esc.esc c.toNat) (Esc.encL l) 0 (by rw [hd]; simp)
      simpa [hd] using this
    have hlt := d.toNat_lt
    have hn := next_ok a (Esc.esc c.toNat) l
    have hp : pieceRef alt room (Esc.ba (a ++ Esc.esc c.toNat ++ Esc.encL l)) a.length g = .ok (setPf (one c.toNat), a.length + (Esc.esc c.toNat).length, g) := by
      unfold pieceRef
      rw [atom_esc_ref]
      dsimp only
      rw [cnt_none hn]
    rw [seqLoop, if_pos (by rw [hb]; exact ⟨by clear hn; omega, hx.2.2.2.2.1, hx.2.2.2.2.2⟩), hp]
    dsimp only
    have e1 : a.length + (Esc.esc c.toNat).length = (a ++ Esc.esc c.toNat).length := by simp
    rw [e1, ih (a ++ Esc.esc c.toNat) f (fs ++ [setPf (one c.toNat)]) (by simp at hfu; omega)]
    simp

/-- What Escape has written is read as the bytes, one behind the other. -/
theorem tree_esc (l : List UInt8) (h : (Esc.encL l).length ≤ 120) : treeRef (Esc.ba (Esc.encL l)) = .ok (0, seqPf (l.map (fun c => setPf (one c.toNat)))) := by
  have hs : (Esc.ba (Esc.encL l)).size = (Esc.encL l).length := Esc.ba_size _
  have hl : l.length ≤ (Esc.encL l).length := by
    clear h hs
    induction l with
    | nil => simp
    | cons c l ih =>
      obtain ⟨d, t, hd, _⟩ := esc_head c
      simp only [Esc.encL, List.flatMap_cons, List.length_append, List.length_cons, hd] at ih ⊢
      omega
  have h1 : seqRef (altRef (Esc.ba (Esc.encL l)) 5) true (Esc.ba (Esc.encL l)) 0 0 = .ok (seqPf (l.map (fun c => setPf (one c.toNat))), (Esc.ba (Esc.encL l)).size, 0) := by
    unfold seqRef
    have := seq_esc_ref (alt := altRef (Esc.ba (Esc.encL l)) 5) (room := true) l [] 0 ((Esc.ba (Esc.encL l)).size + 1) [] (by omega)
    simp only [List.nil_append, List.length_nil] at this
    rw [this]
  have h2 : bt (Esc.ba (Esc.encL l)) (Esc.ba (Esc.encL l)).size ≠ 124 := by rw [bt_out (by omega)]; decide
  unfold treeRef
  rw [if_neg (by omega)]
  have h3 : altRef (Esc.ba (Esc.encL l)) 6 0 0 = .ok (seqPf (l.map (fun c => setPf (one c.toNat))), (Esc.ba (Esc.encL l)).size, 0) := by
    show altOf (altRef (Esc.ba (Esc.encL l)) 5) true (Esc.ba (Esc.encL l)) 0 0 = _
    unfold altOf
    rw [h1]
    dsimp only
    rw [if_neg h2]
  rw [h3]
  simp

end Go.Proofs.YtmlgmhnplicflaaGreat

/-
  Which texts are whole for an escaped one.
-/
namespace Go.Proofs.YtmlgmhnplicflaaGreat
open Go.RowKit
set_option linter.unusedVariables false
set_option linter.unusedSimpArgs false

/-- Whether the bytes bs stand at p. -/
def has (u : ByteArray) : Nat → List Nat → Bool
  | _, [] => true
  | p, b :: bs => decide (bt u p = b) && has u (p + 1) bs
def byteN (l : List UInt8) : List Nat := l.map (·.toNat)
def WholePost (ok : Bool) (w : World) (e : Ending) (w' : World) : Prop := (∃ x y gs, e = .returned (.agg #[.bool ok, x, y, gs])) ∧ Keeps (fun _ => False) w w'

theorem thn_one {has1 : Nat → Bool} (p : Nat) : thn [(p, eno)] (oneX has1) = if has1 p then [(p + 1, eno)] else [] := by
  unfold thn bnd oneX
  simp only [List.flatMap_cons, List.flatMap_nil, List.append_nil]
  split
  · have e : eov eno eno = eno := by funext i; simp [eov, eno]
    simp [beh, dd, sno, e]
  · simp [beh, dd]
theorem thns_nil (l : List Xs) : thns [] l = [] := by
  induction l with
  | nil => rfl
  | cons X l ih =>
    show thns (thn [] X) l = []
    have : thn [] X = [] := by simp [thn, bnd, dd]
    rw [this]
    exact ih
theorem one_hit (u : ByteArray) (p : Nat) (c : UInt8) : (decide (p < u.size) && inR (ranges (one c.toNat)) (bt u p)) = decide (bt u p = c.toNat) := by
  by_cases hp : p < u.size
  · rw [inR_ranges _ _ (bt_lt hp)]
    rw [Bool.eq_iff_iff]
    simp [hp, one]
  · rw [bt_out hp]
    have := c.toNat_lt
    simp [hp]
    omega
theorem seq_bytes (u : ByteArray) : ∀ (l : List UInt8) (pre : List Pc) (p : Nat), thns [(p, eno)] (smxs u pre (l.map (fun c => setPf (one c.toNat)))) = if has u p (byteN l) then [(p + l.length, eno)] else [] := by
  intro l
  induction l with
  | nil => intro pre p; simp [smxs, thns, has, byteN]
  | cons c l ih =>
    intro pre p
    simp only [List.map_cons, smxs]
    show thns (thn [(p, eno)] (smx u pre (setPf (one c.toNat)))) _ = _
    rw [smx_set, thn_one, one_hit]
    have e : has u p (byteN (c :: l)) = (decide (bt u p = c.toNat) && has u (p + 1) (byteN l)) := rfl
    rw [e]
    by_cases hc : bt u p = c.toNat
    · simp only [hc, decide_true, if_true, Bool.true_and]
      rw [ih]
      simp only [List.length_cons]
      rw [show p + 1 + l.length = p + (l.length + 1) from by omega]
    · simp only [hc, decide_false, Bool.false_and]
      simp [thns_nil]
theorem whole_any {w : World} {l : List UInt8} {u : ByteArray} {ok : Bool} (hl : (Esc.encL l).length ≤ 120) (hu : u.size ≤ 200) (hok : (has u 0 (byteN l) && decide ((byteN l).length = u.size)) = ok) :
    Calls Tryz.prog 23 #[.string (Esc.ba (Esc.encL l)), .string u] w (WholePost ok w) := by
  have ht := tree_esc l hl
  have hful : ∀ f ∈ l.map (fun c => setPf (one c.toNat)), Ful f := fun f hf => by
    obtain ⟨c, -, rfl⟩ := List.mem_map.1 hf
    exact fun n => by simp [setPf]
  have hw : waysRef (Esc.ba (Esc.encL l)) u 0 = if has u 0 (byteN l) then [mtOf 0 0 (l.length, eno)] else [] := by
    unfold waysRef
    have hwt : wanted (Esc.ba (Esc.encL l)) u 0 = true := by simp [wanted, ht, hu]
    rw [hwt, ht]
    simp only [if_true]
    rw [smx_seq u [] _ hful]
    show (thns [((0 : Int).toNat, eno)] (smxs u [] (l.map fun c => setPf (one c.toNat)))).map _ = _
    rw [show ((0 : Int).toNat) = 0 from rfl, seq_bytes]
    split <;> simp
  have hlb : (byteN l).length = l.length := by simp [byteN]
  have hwh : (wholeRef (Esc.ba (Esc.encL l)) u).isSome = ok ∧ ∀ x, wholeRef (Esc.ba (Esc.encL l)) u = some x → x.ok = true := by
    unfold wholeRef
    rw [hw]
    rw [hlb] at hok
    cases hh : has u 0 (byteN l) with
    | false => rw [hh] at hok; simp at hok; subst hok; simp
    | true =>
      rw [hh] at hok
      simp only [Bool.true_and] at hok
      by_cases hs : l.length = u.size
      · simp only [hs, decide_true] at hok
        subst hok
        simp [List.find?, mtOf, hs]
      · simp only [hs, decide_false] at hok
        subst hok
        have : ¬ ((l.length : Int) = (u.size : Int)) := by omega
        simp [List.find?, mtOf, this]
  refine whole_all.mono ?_
  rintro e w' (⟨h1, rfl, k⟩ | ⟨x, a, n, c, h1, rfl, -, k⟩)
  · rw [h1] at hwh
    obtain ⟨h2, -⟩ := hwh
    simp at h2
    subst h2
    exact ⟨⟨_, _, _, rfl⟩, k⟩
  · obtain ⟨h2, h3⟩ := hwh
    have h4 := h3 x h1
    rw [h1] at h2
    simp at h2
    subst h2
    rw [h4]
    exact ⟨⟨_, _, _, rfl⟩, k⟩

end Go.Proofs.YtmlgmhnplicflaaGreat

/-
  Which texts a pattern of a text is whole for.
-/
namespace Go.Proofs.YtmlgmhnplicflaaGreat
open Go.RowKit
set_option linter.unusedVariables false

theorem has_drop (u : ByteArray) (bs : List Nat) (p : Nat) (h : has u p bs = true) (i : Nat) (hi : i < bs.length) : bt u (p + i) = bs[i] := by
  induction bs generalizing p i with
  | nil => simp at hi
  | cons b bs ih =>
    simp only [has, Bool.and_eq_true, decide_eq_true_eq] at h
    cases i with
    | zero => simpa using h.1
    | succ i =>
      have := ih (p + 1) h.2 i (by simpa using hi)
      have e : p + (i + 1) = p + 1 + i := by omega
      rw [e]; simpa using this

theorem has_self (a m b : List UInt8) : has (Esc.ba (a ++ m ++ b)) a.length (byteN m) = true := by
  induction m generalizing a with
  | nil => rfl
  | cons c m ih =>
    have h0 := bt_mid a (c :: m) b 0 (by simp)
    simp only [Nat.add_zero, List.getElem_cons_zero] at h0
    have h1 := ih (a ++ [c])
    have e : a ++ [c] ++ m ++ b = a ++ (c :: m) ++ b := by simp
    rw [e] at h1
    simp only [byteN, List.map_cons, has, h0, decide_true, Bool.true_and]
    simpa [byteN] using h1

/-- The pattern of l is whole for l. -/
theorem whole_self (l : List UInt8) : (has (Esc.ba l) 0 (byteN l) && decide ((byteN l).length = (Esc.ba l).size)) = true := by
  have := has_self [] l []
  simp only [List.nil_append, List.append_nil, List.length_nil] at this
  rw [this, Esc.ba_size]
  simp [byteN]

/-- And for nothing else. -/
theorem whole_other (l m : List UInt8) (h : l ≠ m) : (has (Esc.ba m) 0 (byteN l) && decide ((byteN l).length = (Esc.ba m).size)) = false := by
  cases hh : has (Esc.ba m) 0 (byteN l) with
  | false => simp
  | true =>
    simp only [Bool.true_and, decide_eq_false_iff_not]
    intro hlen
    rw [Esc.ba_size] at hlen
    have hlm : l.length = m.length := by simpa [byteN] using hlen
    apply h
    apply List.ext_getElem hlm
    intro i h1 h2
    have h3 := has_drop _ _ 0 hh i (by simpa [byteN] using h1)
    rw [Nat.zero_add, bt_ba, List.getElem?_eq_getElem h2] at h3
    simp only [byteN, List.getElem_map] at h3
    exact (UInt8.toNat_inj.1 h3).symm

end Go.Proofs.YtmlgmhnplicflaaGreat
