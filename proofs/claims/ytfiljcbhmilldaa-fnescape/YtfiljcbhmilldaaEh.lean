import Derived.Test.YtfiljcbhmilldaaEg

/-
  The program's matches: copies of no groups.
-/
namespace Go.Proofs.Ytfiljcbhmilldaa
open Go.RowKit
set_option linter.unusedVariables false

set_option maxHeartbeats 1000000 in
set_option maxRecDepth 100000 in
theorem clone_zero {w : World} {an : Option Addr} {cn : Nat} : Calls Try.prog 39 #[.slice an 0 cn] w fun e w' => ∃ a c, e = .returned (.slice a 0 c) ∧ Keeps (fun _ => False) w w' := by
  cases an with
  | none =>
    have hq : ∀ w : World, (binOp BinOp.eql 25 (.slice none 0 cn) (.slice none 0 0)).run Try.prog w = .ok (.bool true) w := fun _ => by kernel_rfl
    go_enter Try.func39, Try.ntmps39
    go_wp2_with fail
    go_ret
    exact ⟨_, _, rfl, Keeps.refl _ _⟩
  | some a =>
    have hq : ∀ w : World, (binOp BinOp.eql 25 (.slice (some a) 0 cn) (.slice none 0 0)).run Try.prog w = .ok (.bool false) w := fun _ => by kernel_rfl
    have hap : ∀ (b : Addr) (w : World), (Builtin.append_ #[25, 25] 25 #[.slice (some b) 0 0, .slice (some a) 0 cn]).run Try.prog w = .ok (.slice (some b) 0 0) w := fun _ _ => by kernel_rfl
    go_enter Try.func39, Try.ntmps39
    go_wp2_with fail
    go_ret
    exact ⟨_, _, rfl, (Keeps.refl _ _).alloc _⟩

/-- A block of cells stays. -/
theorem blk_keeps {w w' : World} {P : Nat} {o : Obj} (h : w.heap[P]? = some o) (k : Keeps (fun _ => False) w w') : w'.heap[P]? = some o := by
  rw [k.block P (by
    apply Decidable.byContradiction
    intro hn
    rw [Array.getElem?_eq_none (by omega)] at h
    simp at h) (fun h => h)]
  exact h

set_option maxHeartbeats 1000000 in
set_option maxRecDepth 100000 in
theorem matchOf_any {w : World} {an : Option Addr} {cn : Nat} {at_ : Int} : Calls Try.prog 25 #[.int .i64 0, .agg #[.int .i64 at_, .slice an 0 cn]] w fun e w' => ∃ a c, e = .returned (.agg #[.bool true, .int .i64 0, .int .i64 at_, .slice a 0 c]) ∧ Keeps (fun _ => False) w w' := by
  go_enter Try.func25, Try.ntmps25
  go_upto_region 1 with fail
  have hK : Keeps (fun _ => False) w ((w.alloc (.cells #[.int .i64 at_, .slice an 0 cn] 62)).alloc (.cells #[.bool false, .int .i64 0, .int .i64 0, .slice none 0 0] 27)) := ((Keeps.refl _ w).alloc _).alloc _
  have b1 := box1 w (.cells #[.int .i64 at_, .slice an 0 cn] 62) (.cells #[.bool false, .int .i64 0, .int .i64 0, .slice none 0 0] 27)
  have b2 := box2 w (.cells #[.int .i64 at_, .slice an 0 cn] 62) (.cells #[.bool false, .int .i64 0, .int .i64 0, .slice none 0 0] 27)
  generalize ((w.alloc (.cells #[.int .i64 at_, .slice an 0 cn] 62)).alloc (.cells #[.bool false, .int .i64 0, .int .i64 0, .slice none 0 0] 27)) = w1 at hK b1 b2 ⊢
  have c0 : w1.cell? ⟨w.heap.size, 0, none⟩ = some (.int .i64 at_) := by rw [cell_of b1]; rfl
  have c1 : w1.cell? ⟨w.heap.size, 1, none⟩ = some (.slice an 0 cn) := by rw [cell_of b1]; rfl
  go_region_with (first
    | (go_at_call 39; refine clone_zero.mono ?_; rintro e w2 ⟨a, c, rfl, hk⟩; (try replace hk := hkd hk); replace b1 := blk_keeps b1 hk; replace b2 := blk_keeps b2 hk; replace hK := hK.trans hk; clear hk; have c0 : w2.cell? ⟨w.heap.size, 0, none⟩ = some (.int .i64 at_) := (by rw [cell_of b1]; rfl); have d0 : w2.cell? ⟨w.heap.size + 1, 0, none⟩ = some (.bool false) := (by rw [cell_of b2]; rfl); have d1 : w2.cell? ⟨w.heap.size + 1, 1, none⟩ = some (.int .i64 0) := (by rw [cell_of b2]; rfl); have d2 : w2.cell? ⟨w.heap.size + 1, 2, none⟩ = some (.int .i64 0) := (by rw [cell_of b2]; rfl); have d3 : w2.cell? ⟨w.heap.size + 1, 3, none⟩ = some (.slice none 0 0) := (by rw [cell_of b2]; rfl); have df := fun i => free_of (i := i) b2))
  all_goals (try go_wp2_with fail)
  all_goals refine bodyPost_ret (v := .agg #[.bool true, .int .i64 0, .int .i64 at_, .slice a 0 c]) (by simp [results, Try.results25, go_sem, d0, d1, d2, d3]) rfl ?_
  all_goals exact ⟨a, c, rfl, (((hK.setCell (fun h => absurd h (by simp)) _).setCell (fun h => absurd h (by simp)) _).setCell (fun h => absurd h (by simp)) _).setCell (fun h => absurd h (by simp)) _⟩

end Go.Proofs.Ytfiljcbhmilldaa

/-
  The program's Ways over the pattern of a text.
-/
namespace Go.Proofs.Ytfiljcbhmilldaa
open Go.RowKit
set_option linter.unusedVariables false

theorem Try.infoMatch : (Try.prog.info? 27).map (fun i => (i.zero, i.size, i.bytes)) = some (some (.agg #[.bool false, .int .i64 0, .int .i64 0, .slice none 0 0]), 4, 48) := by kernel_rfl

theorem byteN_lt (l : List UInt8) : ∀ b ∈ byteN l, b < 256 := by
  intro b hb
  simp only [byteN, List.mem_map] at hb
  obtain ⟨c, _, rfl⟩ := hb
  exact c.toNat_lt

/-- What Ways gives: at most one match. -/
def WaysPost (u : ByteArray) (bs : List Nat) (w : World) (e : Ending) (w' : World) : Prop :=
  (if has u 0 bs then ∃ v a c, e = .returned v ∧ w'.ownsRow w.heap.size 27 4 v 1 [.bool true, .int .i64 0, .int .i64 (bs.length : Int), .slice a 0 c] else e = .returned (.slice none 0 0)) ∧ Keeps (fun _ => False) w w'

set_option maxHeartbeats 2000000 in
set_option maxRecDepth 100000 in
theorem ways_any {w : World} {l : List UInt8} {u : ByteArray} (hl : (Esc.encL l).length ≤ 120) (hu : u.size ≤ 200) :
    Calls Try.prog 12 #[.string (Esc.ba (Esc.encL l)), .string u, .int .i64 0] w (WaysPost u (byteN l) w) := by
  have hpn : ∀ (a : Addr) (w : World), (binOp BinOp.eql 50 (.pointer (some a)) (.pointer none)).run Try.prog w = .ok (.bool false) w := fun _ _ => by kernel_rfl
  have hlt9 := byteN_lt l
  cases hh : has u 0 (byteN l) with
  | false =>
    have HH : Hid (has u 0 (byteN l) = false) := hh
    clear hh
    go_enter Try.func12, Try.ntmps12
    go_wp2_with (first
      | (go_at_call 23; refine (searchFor_any hl hu).mono ?_; rintro e w2 ⟨X, rfl, hR, hX, hk⟩)
      | (go_at_call 24; refine (run_any (p := 0) hR hlt9 hu (Nat.zero_le _)).mono ?_; rintro e w3 ⟨rfl, ⟨an, cn, mp, bg, en, hSe, hen⟩, hk2⟩; rw [HH.out] at hen; simp only [Bool.false_eq_true, if_false] at hen; subst hen; have c5 := hSe.c5))
    have hK : Keeps (fun _ => False) w w3 := hk.trans' hk2 (fun i hi h => by omega)
    go_loopg [8, 25] 1 (fun gl x8 x25 wr => gl = 1 ∧ x8 = .slice none 0 0 ∧ x25 = .int .i64 0 ∧ wr = w3)
    case atStart => exact ⟨rfl, rfl, rfl, rfl⟩
    case round =>
      obtain ⟨rfl, rfl, rfl, rfl⟩ := hrel
      go_wp2_with fail
      go_ret
      exact ⟨by rw [HH.out]; rfl, hK⟩
  | true =>
    have HH : Hid (has u 0 (byteN l) = true) := hh
    clear hh
    go_enter Try.func12, Try.ntmps12
    go_wp2_with (first
      | (go_at_call 23; refine (searchFor_any hl hu).mono ?_; rintro e w2 ⟨X, rfl, hR, hX, hk⟩)
      | (go_at_call 24; refine (run_any (p := 0) hR hlt9 hu (Nat.zero_le _)).mono ?_; rintro e w3 ⟨rfl, ⟨an, cn, mp, bg, en, hSe, hen⟩, hk2⟩; rw [HH.out] at hen; simp only [if_true, Nat.zero_add] at hen; obtain ⟨ge, ce, rfl, hge, -⟩ := own_some (n := 0) hen; have c5 := hSe.c5))
    have hK : Keeps (fun _ => False) w w3 := hk.trans' hk2 (fun i hi h => by omega)
    have e0 : w3.cell? ⟨ge, 0, none⟩ = some (.int .i64 (((byteN l).length : Nat) : Int)) := hen.cellAt 0 (by omega)
    have e1 : w3.cell? ⟨ge, 1, none⟩ = some (.slice an 0 cn) := hen.cellAt 1 (by omega)
    generalize hm : (((byteN l).length : Nat) : Int) = m at e0
    have HM : Hid ((((byteN l).length : Nat) : Int) = m) := hm
    clear hm hen hSe c5 hR hk hk2
    obtain ⟨i0, hi, hz0, hz1, hz2⟩ := info_parts Try.infoMatch
    go_loopg [8, 25] 2 (fun gl x8 x25 wr => (gl = 2 ∧ x8 = .slice none 0 0 ∧ x25 = .int .i64 0 ∧ wr = w3) ∨ (gl = 1 ∧ x25 = .int .i64 1 ∧ Keeps (fun _ => False) w wr ∧ ∃ a c ao cp, x8 = .slice ao 1 cp ∧ wr.ownsRow w.heap.size 27 4 x8 1 [.bool true, .int .i64 0, .int .i64 m, .slice a 0 c]))
    case atStart => exact Or.inl ⟨rfl, rfl, rfl, rfl⟩
    case round =>
      rcases hrel with ⟨rfl, rfl, rfl, rfl⟩ | ⟨rfl, rfl, hK2, a, c, ao, cp, rfl, hrow⟩
      · go_wp2_with (first
          | (go_at_call 25; refine matchOf_any.mono ?_; rintro e w4 ⟨a, c, rfl, hk4⟩; obtain ⟨v', w5, hrun, ho, hgr, hbk⟩ := app_any (P := Try.prog) (w4.alloc (.cells #[.bool true, .int .i64 0, .int .i64 m, .slice a 0 c] 27)) w4.heap.size 32 32 27 i0 _ 4 48 Try.underlying32 hi hz0 hz1 hz2 rfl (by decide) (.slice none 0 0) 0 [] (World.ownsRow_nil _ _ _ _) ⟨w4.heap.size, 0, none⟩ 1 1 [.bool true, .int .i64 0, .int .i64 m, .slice a 0 c] rfl (cells_new w4 _ _) (by intro x hx; simp at hx; rcases hx with rfl | rfl | rfl | rfl <;> rfl) (by unfold maxLen; omega) (by omega) (by simp); obtain ⟨ao, cp, hv'⟩ := own_form ho; subst hv')
          | (at_builtin; refine wpList_append_run rfl _ _ _ _ rfl rfl _ _ _ _ rfl rfl hrun ?_))
        go_roundg 1
        case measure => omega
        case rel =>
          have hk5 : Keeps (fun _ => False) w w4 := (hK.alloc _).trans hk4
          have hk6 : Keeps (fun _ => False) w w5 := (hk5.alloc _).grown hgr (fun k hk _ => by simp [Value.ownBlock] at hk)
          exact Or.inr ⟨rfl, rfl, hk6, a, c, ao, cp, rfl, ownsRow_base (by simpa using ho) (fun k hk => Nat.le_trans hk5.size (ho.lt k hk).1)⟩
      · go_wp2_with fail
        go_ret
        refine ⟨?_, hK2⟩
        rw [HH.out]
        simp only [if_true]
        exact ⟨_, a, c, rfl, by rw [HM.out]; exact hrow⟩

end Go.Proofs.Ytfiljcbhmilldaa

/-
  The program's Whole over the pattern of a text.
-/
namespace Go.Proofs.Ytfiljcbhmilldaa
open Go.RowKit
set_option linter.unusedVariables false

/-- A match in a variable. -/
def AtM (w : World) (P : Nat) (a b c d : Value) : Prop := w.heap[P]? = some (.cells #[a, b, c, d] 27 (0, 0))
theorem AtM.keeps {w w' : World} {P : Nat} {a b c d : Value} (h : AtM w P a b c d) (k : Keeps (fun _ => False) w w') : AtM w' P a b c d := blk_keeps h k
theorem AtM.cells {w : World} {P : Nat} {a b c d : Value} (h : AtM w P a b c d) : w.cell? ⟨P, 0, none⟩ = some a ∧ w.cell? ⟨P, 1, none⟩ = some b ∧ w.cell? ⟨P, 2, none⟩ = some c ∧ w.cell? ⟨P, 3, none⟩ = some d ∧ ∀ i, w.frozen? ⟨P, i, none⟩ = false := by
  unfold AtM at h
  refine ⟨?_, ?_, ?_, ?_, fun i => free_of h⟩ <;> rw [cell_of h] <;> rfl

/-- What Whole gives: whether the text is the pattern's. -/
def WholePost (ok : Bool) (w : World) (e : Ending) (w' : World) : Prop := (∃ x y gs, e = .returned (.agg #[.bool ok, x, y, gs])) ∧ Keeps (fun _ => False) w w'

set_option maxHeartbeats 2000000 in
set_option maxRecDepth 100000 in
theorem whole_any {w : World} {l : List UInt8} {u : ByteArray} {ok : Bool} (hl : (Esc.encL l).length ≤ 120) (hu : u.size ≤ 200) (hok : (has u 0 (byteN l) && decide ((byteN l).length = u.size)) = ok) :
    Calls Try.prog 9 #[.string (Esc.ba (Esc.encL l)), .string u] w (WholePost ok w) := by
  have hK1 : Keeps (fun _ => False) w (w.alloc (.cells #[.bool false, .int .i64 0, .int .i64 0, .slice none 0 0] 27)) := (Keeps.refl _ w).alloc _
  have h4 : AtM (w.alloc (.cells #[.bool false, .int .i64 0, .int .i64 0, .slice none 0 0] 27)) w.heap.size (.bool false) (.int .i64 0) (.int .i64 0) (.slice none 0 0) := heap_alloc_new w _
  have hcall := ways_any (w := w.alloc (.cells #[.bool false, .int .i64 0, .int .i64 0, .slice none 0 0] 27)) hl hu
  unfold WaysPost at hcall
  cases hh : has u 0 (byteN l) with
  | false =>
    rw [hh] at hok hcall
    simp only [Bool.false_and] at hok
    subst hok
    simp only [Bool.false_eq_true, if_false] at hcall
    clear hh
    go_enter Try.func9, Try.ntmps9
    go_wp2_with (first
      | (go_at_call 12; refine hcall.mono ?_; rintro e w2 ⟨rfl, hk⟩))
    replace h4 := h4.keeps hk
    replace hK1 := hK1.trans hk
    clear hk hcall
    go_loopg [11] 1 (fun gl x11 wr => gl = 1 ∧ x11 = .int .i64 0 ∧ wr = w2)
    case atStart => exact ⟨rfl, rfl, rfl⟩
    case round =>
      obtain ⟨rfl, rfl, rfl⟩ := hrel
      obtain ⟨c0, c1, c2, c3, ef⟩ := h4.cells
      go_wp2_with fail
      refine bodyPost_ret (v := .agg #[.bool false, .int .i64 0, .int .i64 0, .slice none 0 0]) (by simp [results, Try.results9, go_sem, c0, c1, c2, c3]) rfl ?_
      exact ⟨⟨_, _, _, rfl⟩, (((hK1.setCell (fun h => absurd h (by simp)) _).setCell (fun h => absurd h (by simp)) _).setCell (fun h => absurd h (by simp)) _).setCell (fun h => absurd h (by simp)) _⟩
  | true =>
    rw [hh] at hok hcall
    simp only [Bool.true_and] at hok
    simp only [if_true] at hcall
    clear hh
    go_enter Try.func9, Try.ntmps9
    go_wp2_with (first
      | (go_at_call 12; refine hcall.mono ?_; rintro e w2 ⟨⟨v, a, c, rfl, hrow⟩, hk⟩; obtain ⟨gm, cm, rfl, hge, -⟩ := own_some (n := 0) hrow))
    replace h4 := h4.keeps hk
    replace hK1 := hK1.trans hk
    have m0 : w2.cell? ⟨gm, 0, none⟩ = some (.bool true) := hrow.cellAt 0 (by omega)
    have m1 : w2.cell? ⟨gm, 1, none⟩ = some (.int .i64 0) := hrow.cellAt 1 (by omega)
    have m2 : w2.cell? ⟨gm, 2, none⟩ = some (.int .i64 ((byteN l).length : Int)) := hrow.cellAt 2 (by omega)
    have m3 : w2.cell? ⟨gm, 3, none⟩ = some (.slice a 0 c) := hrow.cellAt 3 (by omega)
    generalize hm : (byteN l).length = m at hok m2
    clear hk hcall hrow hm
    go_loopg [11] 2 (fun gl x11 wr => (gl = 2 ∧ x11 = .int .i64 0 ∧ wr = w2) ∨ (gl = 1 ∧ x11 = .int .i64 1 ∧ ok = false ∧ AtM wr w.heap.size (.bool false) (.int .i64 0) (.int .i64 0) (.slice none 0 0) ∧ Keeps (fun _ => False) w wr))
    case atStart => exact Or.inl ⟨rfl, rfl, rfl⟩
    case round =>
      rcases hrel with ⟨rfl, rfl, rfl⟩ | ⟨rfl, rfl, rfl, h5, hK5⟩
      · have h6 := h4.keeps ((Keeps.refl (fun _ => False) wr).alloc (.cells #[.bool true, .int .i64 0, .int .i64 m, .slice a 0 c] 27))
        obtain ⟨c0, c1, c2, c3, ef⟩ := h6.cells
        cases ok with
        | true =>
          have hz : ((m : Int) == (u.size : Int)) = true := by simp at hok; simp; omega
          clear hok
          go_wp2_with fail
          refine bodyPost_ret (v := .agg #[.bool true, .int .i64 0, .int .i64 m, .slice a 0 c]) (by simp [results, Try.results9, go_sem, c0, c1, c2, c3]) rfl ?_
          exact ⟨⟨_, _, _, rfl⟩, ((((hK1.alloc _).setCell (fun h => absurd h (by simp)) _).setCell (fun h => absurd h (by simp)) _).setCell (fun h => absurd h (by simp)) _).setCell (fun h => absurd h (by simp)) _⟩
        | false =>
          have hz : ((m : Int) == (u.size : Int)) = false := by simp at hok; simp; omega
          clear hok
          go_wp2_with fail
          go_roundg 1
          case measure => omega
          case rel => exact Or.inr ⟨rfl, rfl, trivial, h6, hK1.alloc _⟩
      · obtain ⟨c0, c1, c2, c3, ef⟩ := h5.cells
        go_wp2_with fail
        refine bodyPost_ret (v := .agg #[.bool false, .int .i64 0, .int .i64 0, .slice none 0 0]) (by simp [results, Try.results9, go_sem, c0, c1, c2, c3]) rfl ?_
        exact ⟨⟨_, _, _, rfl⟩, (((hK5.setCell (fun h => absurd h (by simp)) _).setCell (fun h => absurd h (by simp)) _).setCell (fun h => absurd h (by simp)) _).setCell (fun h => absurd h (by simp)) _⟩

end Go.Proofs.Ytfiljcbhmilldaa

/-
  Which texts a pattern of a text is whole for.
-/
namespace Go.Proofs.Ytfiljcbhmilldaa
open Go.RowKit
set_option linter.unusedVariables false

theorem has_drop (u : ByteArray) (bs : List Nat) (p : Nat) (h : has u p bs = true) (i : Nat) (hi : i < bs.length) : bt u (p + i) = bs[i] := by
  induction bs generalizing p i with
  | nil => simp at hi
  | cons b bs ih =>
    simp only [has, Bool.and_eq_true, decide_eq_true_eq] at h
    cases i with
    | zero => simpa using h.1
    | succ i =>
      have := ih (p + 1) h.2 i (by simpa using hi)
      have e : p + (i + 1) = p + 1 + i := by omega
      rw [e]; simpa using this

theorem has_self (a m b : List UInt8) : has (Esc.ba (a ++ m ++ b)) a.length (byteN m) = true := by
  induction m generalizing a with
  | nil => rfl
  | cons c m ih =>
    have h0 := bt_mid a (c :: m) b 0 (by simp)
    simp only [Nat.add_zero, List.getElem_cons_zero] at h0
    have h1 := ih (a ++ [c])
    have e : a ++ [c] ++ m ++ b = a ++ (c :: m) ++ b := by simp
    rw [e] at h1
    simp only [byteN, List.map_cons, has, h0, decide_true, Bool.true_and]
    simpa [byteN] using h1

/-- The pattern of l is whole for l. -/
theorem whole_self (l : List UInt8) : (has (Esc.ba l) 0 (byteN l) && decide ((byteN l).length = (Esc.ba l).size)) = true := by
  have := has_self [] l []
  simp only [List.nil_append, List.append_nil, List.length_nil] at this
  rw [this, Esc.ba_size]
  simp [byteN]

/-- And for nothing else. -/
theorem whole_other (l m : List UInt8) (h : l ≠ m) : (has (Esc.ba m) 0 (byteN l) && decide ((byteN l).length = (Esc.ba m).size)) = false := by
  cases hh : has (Esc.ba m) 0 (byteN l) with
  | false => simp
  | true =>
    simp only [Bool.true_and, decide_eq_false_iff_not]
    intro hlen
    rw [Esc.ba_size] at hlen
    have hlm : l.length = m.length := by simpa [byteN] using hlen
    apply h
    apply List.ext_getElem hlm
    intro i h1 h2
    have h3 := has_drop _ _ 0 hh i (by simpa [byteN] using h1)
    rw [Nat.zero_add, bt_ba, List.getElem?_eq_getElem h2] at h3
    simp only [byteN, List.getElem_map] at h3
    exact (UInt8.toNat_inj.1 h3).symm

end Go.Proofs.Ytfiljcbhmilldaa
