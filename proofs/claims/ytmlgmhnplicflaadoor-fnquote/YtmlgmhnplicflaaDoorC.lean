import Derived.Test.YtmlgmhnplicflaaDoorB
import Derived.Deep.QuietTactic
import Derived.BigQuiet

/-
  Quoting: the program's side.
-/
namespace Go.Proofs.YtmlgmhnplicflaaDoor.Quo
open Go.RowKit
set_option linter.unusedVariables false
set_option maxRecDepth 100000

def sg (i : Nat) : Nat := if i = 9 then 116 else if i = 10 then 110 else if i = 34 then 34 else if i = 92 then 92 else 0
/-- The table of signs. -/
structure Sg (w : World) : Prop where
  lt : 1 < w.heap.size
  cell : ∀ i, i < 93 → w.cell? ⟨1, i, none⟩ = some (.int .u8 (sg i : Int))
theorem Sg.below {w w' : World} {B : Nat} (h : Sg w) (hB : 1 < B) (k : Below B w w') : Sg w' := by
  have e := k.block 1 hB
  refine ⟨Nat.lt_of_lt_of_le h.lt k.size, fun i hi => ?_⟩
  have h2 := h.cell i hi
  simp only [World.cell?] at h2 ⊢
  rw [e]
  exact h2
def isP (n : Nat) : Bool := decide (33 ≤ n) && decide (n ≤ 126)
def isQ (n : Nat) : Bool := n == 32 || isP n

theorem isPrinted_any (n : Nat) (w : World) : Calls Tryd.prog 35 #[.int .u8 (n : Int)] w fun e w' => e = .returned (.bool (isP n)) ∧ w' = w := by
  have h1 : (33 : Int) ≤ (n : Int) ↔ 33 ≤ n := by omega
  have h2 : (n : Int) ≤ 126 ↔ n ≤ 126 := by omega
  by_cases c1 : 33 ≤ n <;> by_cases c2 : n ≤ 126 <;>
  · have d1 := h1
    have d2 := h2
    simp only [c1, c2, iff_true, iff_false] at d1 d2
    clear h1 h2
    go_enter Tryd.func35, Tryd.ntmps35
    go_wp2
    go_ret
    exact ⟨ret_bool (by simp [isP, c1, c2]), rfl⟩
theorem isPlain_any (n : Nat) (w : World) : Calls Tryd.prog 24 #[.int .u8 (n : Int)] w fun e w' => e = .returned (.bool (isQ n)) ∧ w' = w := by
  by_cases c : n = 32
  · subst c
    go_enter Tryd.func24, Tryd.ntmps24
    go_wp2
    go_ret
    exact ⟨rfl, rfl⟩
  · have hz : ((n : Int) == 32) = false := by simp; omega
    have hq : isQ n = isP n := by simp [isQ, c]
    rw [hq]
    clear c hq
    go_enter Tryd.func24, Tryd.ntmps24
    go_wp2_with (go_at_call 35; refine (isPrinted_any n _).mono ?_; rintro e w' ⟨rfl, hw⟩; subst w')
    go_ret
    exact ⟨rfl, rfl⟩
theorem signOf_any {w : World} {n : Nat} (h : Sg w) (hn : n < 256) : Calls Tryd.prog 23 #[.int .u8 (n : Int)] w fun e w' => e = .returned (.int .u8 (sg n : Int)) ∧ ∃ k, w' = w.drewN k := by
  by_cases c : n < 93
  · have c0 := h.cell n c
    have hz : ¬ (93 : Int) ≤ (n : Int) := by omega
    have hz2 : (n : Int) < 93 := by omega
    clear h
    go_enter Tryd.func23, Tryd.ntmps23
    go_wp2
    go_ret
    exact ⟨rfl, 0, rfl⟩
  · have e : sg n = 0 := by unfold sg; repeat (rw [if_neg (by omega)])
    rw [e]
    have hz : (93 : Int) ≤ (n : Int) := by omega
    clear h c e
    go_enter Tryd.func23, Tryd.ntmps23
    go_wp2
    go_ret
    exact ⟨rfl, 0, rfl⟩

set_option maxHeartbeats 400000 in
theorem number_any {w : World} {base : Nat} {v : Value} {l : List UInt8} {n : Nat} (hn : n < 256) (hm : l.length ≤ 1000000) (hb : base ≤ w.heap.size) (hown : Ob w base v l) :
    Calls Tryd.prog 25 #[v, .int .u8 (n : Int)] w fun e w' => ∃ v', e = .returned v' ∧ Ob w' base v' (l ++ [92, 120, hexd (n / 16), hexd (n % 16)]) ∧ Below base w w' := by
  obtain ⟨a, ha⟩ : ∃ a : Nat, n / 16 = a := ⟨_, rfl⟩
  obtain ⟨b, hb'⟩ : ∃ b : Nat, n % 16 = b := ⟨_, rfl⟩
  have e1 : IntKind.u8.wrap ((n : Int).tdiv 16) = (a : Int) := by rw [Int.tdiv_eq_ediv_of_nonneg (by omega)]; rw [show (n : Int) / 16 = (a : Int) by omega]; exact IntWalk.u8_in _ (by omega)
  have e1b : IntKind.u8.wrap ((n : Int) / 16) = (a : Int) := by rw [show (n : Int) / 16 = (a : Int) by omega]; exact IntWalk.u8_in _ (by omega)
  have e2b : (n : Int) % 16 = (b : Int) := by omega
  have e2 : (n : Int).tmod 16 = (b : Int) := by rw [Int.tmod_eq_emod_of_nonneg (by omega)]; omega
  have s1 := index_hex a (by omega)
  have s2 := index_hex b (by omega)
  obtain ⟨v', w1, hrun0, ho, hbel⟩ := app_run w.drew base 22 v l [92, 120, hexd a, hexd b] (by simp; omega) hb hown.drew
  have hrun : Sem.run Tryd.prog (Builtin.append_ #[22, 22] 22 #[v, .slice (some ⟨w.heap.size, 0, none⟩) 4 4]) (w.alloc (.cells #[.int .u8 92, .int .u8 120, .int .u8 (hexd a).toNat, .int .u8 (hexd b).toNat] 5)).drew = .ok v' w1 := hrun0
  rw [ha, hb']
  clear hrun0 ha hb'
  go_enter Tryd.func25, Tryd.ntmps25
  go_wp2
  go_region_law (refine step_append_run rfl _ _ _ _ rfl rfl _ _ _ _ rfl rfl hrun ?_)
  all_goals go_wp2
  all_goals go_ret
  all_goals exact ⟨_, rfl, ho, (Below.refl _ _).drew.trans hbel⟩

theorem sg_pos {n : Nat} (h : sg n ≠ 0) : n = 9 ∨ n = 10 ∨ n = 34 ∨ n = 92 := by
  by_cases h1 : n = 9
  · exact Or.inl h1
  · by_cases h2 : n = 10
    · exact Or.inr (Or.inl h2)
    · by_cases h3 : n = 34
      · exact Or.inr (Or.inr (Or.inl h3))
      · by_cases h4 : n = 92
        · exact Or.inr (Or.inr (Or.inr h4))
        · unfold sg at h
          rw [if_neg h1, if_neg h2, if_neg h3, if_neg h4] at h
          exact absurd rfl h
theorem sg_lt (n : Nat) : sg n < 256 := by unfold sg; repeat (first | omega | split)
theorem qel_sign {n : Nat} (h : sg n ≠ 0) : qel n = [92, UInt8.ofNat (sg n)] := by
  rcases sg_pos h with rfl | rfl | rfl | rfl <;> rfl
theorem qel_plain {n : Nat} (h : sg n = 0) (hq : isQ n = true) : qel n = [UInt8.ofNat n] := by
  have h1 : n ≠ 9 ∧ n ≠ 10 ∧ n ≠ 34 ∧ n ≠ 92 := ⟨fun e => by subst e; simp [sg] at h, fun e => by subst e; simp [sg] at h, fun e => by subst e; simp [sg] at h, fun e => by subst e; simp [sg] at h⟩
  have h2 : 32 ≤ n ∧ n ≤ 126 := by simp [isQ, isP] at hq; omega
  unfold qel
  rw [if_neg (by omega), if_neg (by omega), if_neg (by omega), if_neg (by omega)]
theorem qel_num {n : Nat} (h : sg n = 0) (hq : isQ n = false) : qel n = [92, 120, hexd (n / 16), hexd (n % 16)] := by
  have h1 : n ≠ 9 ∧ n ≠ 10 ∧ n ≠ 34 ∧ n ≠ 92 := ⟨fun e => by subst e; simp [sg] at h, fun e => by subst e; simp [sg] at h, fun e => by subst e; simp [sg] at h, fun e => by subst e; simp [sg] at h⟩
  have h2 : n < 32 ∨ 126 < n := by simp [isQ, isP] at hq; omega
  unfold qel
  rw [if_neg (by omega), if_neg (by omega), if_neg (by omega), if_pos h2]

set_option maxHeartbeats 1000000 in
theorem element_any {w : World} {base : Nat} {v : Value} {l : List UInt8} {n : Nat} (hS : Sg w) (hn : n < 256) (hm : l.length ≤ 1000000) (hb : base ≤ w.heap.size) (hown : Ob w base v l) :
    Calls Tryd.prog 16 #[v, .int .u8 (n : Int)] w fun e w' => ∃ v', e = .returned v' ∧ Ob w' base v' (l ++ qel n) ∧ Below base w w' := by
  have hso := signOf_any hS hn
  clear hS
  by_cases c1 : sg n = 0
  · rw [c1] at hso
    cases c2 : isQ n with
    | true =>
      rw [qel_plain c1 c2]
      have hen : ((UInt8.ofNat n).toNat : Int) = (n : Int) := by simp; omega
      have happ : ∀ k, ∃ v' w1, Sem.run Tryd.prog (Builtin.append_ #[22, 22] 22 #[v, .slice (some ⟨w.heap.size, 0, none⟩) 1 1]) ((w.drewN k).alloc (.cells #[.int .u8 (n : Int)] 5)) = .ok v' w1 ∧ Ob w1 base v' (l ++ [UInt8.ofNat n]) ∧ Below base w w1 := fun k => by
        obtain ⟨v', w1, hrun0, ho, hbel⟩ := app_run (w.drewN k) base 22 v l [UInt8.ofNat n] (by simp; omega) hb (ownsRow_heap hown rfl)
        refine ⟨v', w1, ?_, ho, (below_drewN (Below.refl _ _) k).trans hbel⟩
        have e : (cellsOf [UInt8.ofNat n]).toArray = #[.int .u8 (n : Int)] := by simp only [cellsOf, List.map_cons, List.map_nil, hen]
        rw [e] at hrun0
        exact hrun0
      have HA : Hid (∀ k, ∃ v' w1, Sem.run Tryd.prog (Builtin.append_ #[22, 22] 22 #[v, .slice (some ⟨w.heap.size, 0, none⟩) 1 1]) ((w.drewN k).alloc (.cells #[.int .u8 (n : Int)] 5)) = .ok v' w1 ∧ Ob w1 base v' (l ++ [UInt8.ofNat n]) ∧ Below base w w1) := happ
      have hpl := fun w => isPlain_any n w
      rw [c2] at hpl
      clear c1 c2 happ hown hen
      go_enter Tryd.func16, Tryd.ntmps16
      go_wp2_with (first
        | (go_at_call 23; refine hso.mono ?_; rintro e w' ⟨rfl, k, rfl⟩; obtain ⟨v', w1, hrun, ho, hbel⟩ := HA.out k)
        | (go_at_call 24; refine (hpl _).mono ?_; rintro e w' ⟨rfl, hw⟩; subst w')
        | (at_builtin; refine wpList_append_run rfl _ _ _ _ rfl rfl _ _ _ _ rfl rfl hrun ?_))
      go_ret
      exact ⟨_, rfl, ho, hbel⟩
    | false =>
      rw [qel_num c1 c2]
      have hnu := fun k => number_any (w := w.drewN k) (n := n) hn hm hb (ownsRow_heap hown rfl)
      have hpl := fun w => isPlain_any n w
      rw [c2] at hpl
      clear c1 c2 hown
      go_enter Tryd.func16, Tryd.ntmps16
      go_wp2_with (first
        | (go_at_call 23; refine hso.mono ?_; rintro e w' ⟨rfl, k, rfl⟩)
        | (go_at_call 24; refine (hpl _).mono ?_; rintro e w' ⟨rfl, hw⟩; subst w')
        | (go_at_call 25; refine (hnu k).mono ?_; rintro e w' ⟨v', rfl, ho, hbel⟩))
      go_ret
      exact ⟨_, rfl, ho, (below_drewN (Below.refl _ _) k).trans hbel⟩
  · rw [qel_sign c1]
    have hz : ((sg n : Int) == 0) = false := by simp; omega
    have hlt := sg_lt n
    generalize sg n = x at hso hz hlt
    clear c1
    have HA : Hid (∀ k, ∃ ao c1 w1, Sem.run Tryd.prog (Builtin.append_ #[22, 22] 22 #[v, .slice (some ⟨w.heap.size, 0, none⟩) 1 1]) ((w.drewN k).alloc (.cells #[.int .u8 92] 5)) = .ok (.slice ao (l.length + 1) c1) w1 ∧
        ∃ v' w2, Sem.run Tryd.prog (Builtin.append_ #[22, 22] 22 #[.slice ao (l.length + 1) c1, .slice (some ⟨w1.heap.size, 0, none⟩) 1 1]) (w1.alloc (.cells #[.int .u8 (x : Int)] 5)) = .ok v' w2 ∧ Ob w2 base v' (l ++ [92, UInt8.ofNat x]) ∧ Below base w w2) := fun k => by
      obtain ⟨v1, w1, hrun0, ho, hbel⟩ := app_run (w.drewN k) base 22 v l [92] (by simp; omega) hb (ownsRow_heap hown rfl)
      obtain ⟨ao, c1, rfl⟩ := own_form ho
      obtain ⟨v2, w2, hrun2, ho2, hbel2⟩ := app_run w1 base 22 _ (l ++ [92]) [UInt8.ofNat x] (by simp; omega) (Nat.le_trans hb hbel.size) ho
      have hen : ((UInt8.ofNat x).toNat : Int) = (x : Int) := by simp; omega
      have e : (cellsOf [UInt8.ofNat x]).toArray = #[.int .u8 (x : Int)] := by simp only [cellsOf, List.map_cons, List.map_nil, hen]
      rw [e] at hrun2
      have el : (l ++ [(92 : UInt8)]).length = l.length + 1 := by simp
      rw [el] at hrun0 hrun2
      refine ⟨ao, c1, w1, hrun0, v2, w2, hrun2, ?_, ((below_drewN (Below.refl _ _) k).trans hbel).trans hbel2⟩
      simpa using ho2
    clear hown
    go_enter Tryd.func16, Tryd.ntmps16
    go_wp2_with (first
      | (go_at_call 23; refine hso.mono ?_; rintro e w' ⟨rfl, k, rfl⟩; obtain ⟨ao, c1, w1, hrun1, v', w2, hrun2, ho, hbel⟩ := HA.out k)
      | (at_builtin; refine wpList_append_run rfl _ _ _ _ rfl rfl _ _ _ _ rfl rfl hrun1 ?_)
      | (at_builtin; refine wpList_append_run rfl _ _ _ _ rfl rfl _ _ _ _ rfl rfl hrun2 ?_))
    go_ret
    exact ⟨_, rfl, ho, hbel⟩

set_option maxHeartbeats 1000000 in
theorem implQuote_any {s : ByteArray} {w : World} (hS : Sg w) (hs : s.size ≤ 1048576) :
    Calls Tryd.prog 6 #[.string s] w fun e w' => e = .returned (.string (ba (quoteRef s.data.toList))) ∧ Below w.heap.size w w' := by
  have hsl : s.data.toList.length = s.size := by rw [Array.length_toList]; rfl
  by_cases hl : 200 < s.size
  · have e : quoteRef s.data.toList = [] := by rw [quoteRef, if_pos (by omega)]
    rw [e]
    have hz : (200 : Int) < (s.size : Int) := by omega
    clear hS e
    go_enter Tryd.func6, Tryd.ntmps6
    go_wp2
    go_ret
    exact ⟨rfl, Below.refl _ _⟩
  · have HR : Hid (quoteRef s.data.toList = 34 :: qls s.data.toList ++ [34]) := (by show _ = _; rw [quoteRef, if_neg (by omega)])
    have hz : ¬ (200 : Int) < (s.size : Int) := by omega
    have hw1 : Ob (w.alloc (.cells #[.int .u8 34] 5)) w.heap.size (.slice (some ⟨w.heap.size, 0, none⟩) 1 1) [34] := ob_new w [34] (by decide) (by decide)
    have hbl : Below w.heap.size w (w.alloc (.cells #[.int .u8 34] 5)) := (Below.refl _ _).alloc (Nat.le_refl _) _
    go_enter Tryd.func6, Tryd.ntmps6
    go_wp2
    go_loopw [3, 11] (fun o i wr => ∃ k : Nat, k ≤ s.size ∧ i = .int .i64 k ∧ Ob wr w.heap.size o (34 :: qls (s.data.toList.take k)) ∧ Below w.heap.size w wr) (fun _ i _ => s.size - (intOf i).toNat)
    case atStart => exact ⟨0, Nat.zero_le _, rfl, hw1, hbl⟩
    case round =>
      obtain ⟨k, hk, rfl, hown, hbel⟩ := hrel
      have hlen : (34 :: qls (s.data.toList.take k)).length ≤ 1000 := by
        have h1 := qls_le (s.data.toList.take k)
        have h2 : (s.data.toList.take k).length ≤ 200 := by rw [List.length_take]; omega
        simp only [List.length_cons]
        omega
      by_cases hlt : k < s.size
      · have hc1 : s[k].toNat < 256 := s[k].toNat_lt
        have HE : Hid ((34 :: qls (s.data.toList.take k)) ++ qel s[k].toNat = 34 :: qls (s.data.toList.take (k + 1))) := (by show _ = _; rw [take_snoc s k hlt, qls_snoc]; rfl)
        have hcall := element_any (n := s[k].toNat) (hS.below hS.lt hbel) hc1 (by omega) hbel.size hown
        have hkz : (k : Int) < (s.size : Int) := by omega
        obtain ⟨ao, cp, hof⟩ := own_form hown
        subst hof
        clear hown hw1 hbl
        go_wp2_with (first
          | (go_at_call 16; refine hcall.mono ?_; rintro e w' ⟨v', rfl, ho, hb⟩; rw [HE.out] at ho; obtain ⟨ao2, cap2, rfl⟩ := own_form ho))
        go_roundw
        case rel => exact ⟨k + 1, by omega, by go_num, ho, hbel.trans hb⟩
        case measure => simp [intOf]; omega
      · have hT : s.data.toList.take k = s.data.toList := List.take_of_length_le (by rw [hsl]; omega)
        obtain ⟨v2, w2, hrun, ho, hb2⟩ := app_run wr w.heap.size 22 _ (34 :: qls (s.data.toList.take k)) [34] (by simp only [List.length_cons, List.length_nil] at *; omega) hbel.size hown
        have hcv := conv_own ho
        have HE : Hid (quoteRef s.data.toList = (34 :: qls (s.data.toList.take k)) ++ [34]) := (by show _ = _; rw [HR.out, hT])
        obtain ⟨ao, cp, hof⟩ := own_form hown
        subst hof
        have hrun2 : Sem.run Tryd.prog (Builtin.append_ #[22, 22] 22 #[.slice ao (34 :: qls (s.data.toList.take k)).length cp, .slice (some ⟨wr.heap.size, 0, none⟩) 1 1]) (wr.alloc (.cells #[.int .u8 34] 5)) = .ok v2 w2 := hrun
        have hkz : ¬ (k : Int) < (s.size : Int) := by omega
        clear hT hrun hown hw1 hbl ho
        generalize (34 :: qls (s.data.toList.take k)).length = N at *
        go_wp2_with (at_builtin; refine wpList_append_run rfl _ _ _ _ rfl rfl _ _ _ _ rfl rfl hrun2 ?_)
        go_ret
        exact ⟨ret_str (by rw [HE.out]; first | rfl | simp), hbel.trans hb2⟩

end Go.Proofs.YtmlgmhnplicflaaDoor.Quo
