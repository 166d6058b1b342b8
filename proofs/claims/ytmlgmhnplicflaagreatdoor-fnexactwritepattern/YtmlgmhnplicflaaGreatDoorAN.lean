import Derived.Test.YtmlgmhnplicflaaGreatDoorAM
import Derived.ProofKit
import Derived.OpenShut
import Derived.Carry
import Derived.Deep.Slices
import Derived.Lib.SmallJoins

/-
  A pattern as it is given: its cells.
-/
namespace Go.Proofs.YtmlgmhnplicflaaGreatDoor
open Go.ChangeShapes Go.WideShapes Go.ChangeAt Go.RowKit Go.Deep Go.Joins
set_option linter.unusedVariables false

/-- Cells that a slice leads to. -/
def Rw (W : World) (ao : Option Addr) (vs : List Value) : Prop := vs ≠ [] → ∃ b off, ao = some ⟨b, off, none⟩ ∧ ∀ i u, vs[i]? = some u → W.cell? ⟨b, off + i, none⟩ = some u
theorem cell_lt {W : World} {a : Addr} {u : Value} (h : W.cell? a = some u) : a.block < W.heap.size := by
  apply Decidable.byContradiction
  intro hn
  have : W.heap[a.block]? = none := Array.getElem?_eq_none (by omega)
  simp [World.cell?, this] at h
theorem cell_keeps {W W' : World} {a : Addr} {u : Value} (h : W.cell? a = some u) (k : Keeps (fun _ => False) W W') : W'.cell? a = some u := by
  have := k.block a.block (cell_lt h) (fun h => h)
  unfold World.cell? at h ⊢
  rw [this]; exact h
theorem Rw.keeps {W W' : World} {ao : Option Addr} {vs : List Value} (h : Rw W ao vs) (k : Keeps (fun _ => False) W W') : Rw W' ao vs := fun hv => by
  obtain ⟨b, off, e, hc⟩ := h hv
  exact ⟨b, off, e, fun i u hu => cell_keeps (hc i u hu) k⟩

/-- A piece as it is given. -/
structure Gp (W : World) (x : Pm) : Prop where
  set : ∃ ao cap, x.2.1 = .slice ao x.1.set.length cap ∧ Rw W ao (flatR x.1.set)
  kids : ∃ ao cap, x.2.2 = .slice ao x.1.kids.length cap ∧ Rw W ao (ints x.1.kids)
  slen : x.1.set.length ≤ 9223372036854775807
  klen : x.1.kids.length ≤ 9223372036854775807
  min64 : B64 x.1.min
  max64 : B64 x.1.max
theorem Gp.keeps {W W' : World} {x : Pm} (h : Gp W x) (k : Keeps (fun _ => False) W W') : Gp W' x := by
  obtain ⟨⟨a, c, e, r⟩, ⟨a', c', e', r'⟩, h1, h2, h3, h4⟩ := h
  exact ⟨⟨a, c, e, r.keeps k⟩, ⟨a', c', e', r'.keeps k⟩, h1, h2, h3, h4⟩
structure Gv (W : World) (v : Value) (L : List Pm) : Prop where
  row : ∃ ao cap, v = .slice ao L.length cap ∧ Rw W ao (L.flatMap cell7)
  each : ∀ x ∈ L, Gp W x
  len : L.length ≤ 9223372036854775807
theorem Gv.keeps {W W' : World} {v : Value} {L : List Pm} (h : Gv W v L) (k : Keeps (fun _ => False) W W') : Gv W' v L := by
  obtain ⟨⟨a, c, e, r⟩, h1, h2⟩ := h
  exact ⟨⟨a, c, e, r.keeps k⟩, fun x hx => (h1 x hx).keeps k, h2⟩

section
variable {H : Type} {enc : TypeId × Value → H} {W : World} {base : Nat} {spare : Nat → Bool} {held : Bool}

theorem cR : Tryz.prog.cellsOf 262 = 2 := by kernel_rfl
theorem cP : Tryz.prog.cellsOf 184 = 7 := by kernel_rfl
theorem cI : Tryz.prog.cellsOf 3 = 1 := by kernel_rfl
theorem cA : Tryz.prog.cellsOf 50 = 4 := by kernel_rfl

theorem cells_at {n : Nat} {a : Addr} {cs : List Value} (h : W.cells? base a n = some cs) : cs.length = n ∧ ∀ i, i < n → W.cell? (a.add i) = cs[i]? := by
  unfold World.cells? at h
  split at h
  · have h1 := mapM_some_length h
    refine ⟨by simpa using h1, fun i hi => ?_⟩
    have := mapM_some_get h i i (by simp [hi])
    exact this
  · simp at h

theorem int64 {n : Int} (h : (Lit.int .i64 n).wf = true) : B64 n := by
  simp only [Lit.wf, Bool.and_eq_true, decide_eq_true_eq] at h
  have h1 : IntKind.i64.min = -9223372036854775808 := rfl
  have h2 : IntKind.i64.max = 9223372036854775807 := rfl
  unfold B64
  omega

theorem list2 {α : Type} {l : List α} (h : l.length = 2) : ∃ a b, l = [a, b] := by
  match l, h with
  | [a, b], _ => exact ⟨a, b, rfl⟩
theorem list7 {α : Type} {l : List α} (h : l.length = 7) : ∃ a b c d e f g, l = [a, b, c, d, e, f, g] := by
  match l, h with
  | [a, b, c, d, e, f, g], _ => exact ⟨a, b, c, d, e, f, g, rfl⟩

theorem open_fields {t : TypeId} {fs : Array Field} {fuel : Nat} {cs : List Value} {x : DataW H × List MemPlace} (ht : Tryz.prog.underlying t = some (.struct fs)) (hone : oneCellFields Tryz.prog fs = true) (h : DataW.trod enc Tryz.prog W base spare held fuel t cs = some x) :
    cs.length = Tryz.prog.cellsOf t ∧ ∃ n, ∀ (i : Nat) (f : Field), fs[i]? = some f → ∀ c, cs[i]? = some c → ∃ y, DataW.trod enc Tryz.prog W base spare held n f.type [c] = some y := by
  obtain ⟨xs, n, _, _, hl, hx, hf⟩ := DataW.trod_struct ht h
  refine ⟨hl, n, fun i f hi c hc => ?_⟩
  obtain ⟨o, k⟩ := hone_of hone i f hi
  have h1 := hf i f hi
  have hlt : i < fs.size := (Array.getElem?_eq_some_iff.1 hi).1
  rw [List.getElem?_eq_getElem (by omega), o, k] at h1
  obtain ⟨hi2, hc2⟩ := List.getElem?_eq_some_iff.1 hc
  have e : (cs.drop i).take 1 = [c] := by
    rw [List.drop_eq_getElem_cons hi2, hc2]; simp
  rw [e] at h1
  exact ⟨_, h1⟩

set_option maxRecDepth 100000 in
theorem open_range {fuel : Nat} {cs : List Value} {x : DataW H × List MemPlace} (h : DataW.trod enc Tryz.prog W base spare held fuel 262 cs = some x) : ∃ lo hi : Int, cs = [.int .i64 lo, .int .i64 hi] := by
  obtain ⟨hl, n, hf⟩ := open_fields Tryz.underlying262 (by kernel_rfl) h
  rw [cR] at hl
  obtain ⟨c0, c1, rfl⟩ := list2 hl
  have f0 : ∃ y, DataW.trod enc Tryz.prog W base spare held n 3 [c0] = some y := hf 0 _ rfl c0 rfl
  have f1 : ∃ y, DataW.trod enc Tryz.prog W base spare held n 3 [c1] = some y := hf 1 _ rfl c1 rfl
  obtain ⟨_, f0⟩ := f0
  obtain ⟨_, f1⟩ := f1
  obtain ⟨lo, e0, _⟩ := DataW.trod_int Tryz.underlying3 f0
  obtain ⟨hi, e1, _⟩ := DataW.trod_int Tryz.underlying3 f1
  simp at e0 e1
  subst e0 e1
  exact ⟨lo, hi, rfl⟩

theorem rw_of {a : Addr} {n k : Nat} {vs : List Value} (hl : vs.length = n * k) (hk : 0 < k) (h : ∀ i, i < n → ∃ cs, W.cells? base (a.add (i * k)) k = some cs ∧ ∀ j, j < k → cs[j]? = vs[i * k + j]?) : Rw W (some a) vs := by
  intro hne
  have hpos : 0 < vs.length := List.length_pos_iff.2 hne
  have hn : 0 < n := by
    apply Decidable.byContradiction
    intro h0
    have : n = 0 := by omega
    rw [this, Nat.zero_mul] at hl
    omega
  have hcell : ∀ i, i < vs.length → W.cell? (a.add i) = vs[i]? := by
    intro i hi
    have hik : i / k < n := by rw [hl] at hi; exact Nat.div_lt_of_lt_mul (by rw [Nat.mul_comm]; exact hi)
    obtain ⟨cs, h1, h2⟩ := h (i / k) hik
    have hm : i % k < k := Nat.mod_lt _ hk
    have h3 := (cells_at h1).2 (i % k) hm
    have e : i / k * k + i % k = i := Nat.div_add_mod' i k
    rw [add_add, e] at h3
    rw [h3, h2 _ hm, e]
  have h0 := hcell 0 hpos
  rw [List.getElem?_eq_getElem hpos] at h0
  have hs : a.spot = none := by
    rw [show a.add 0 = a from by simp [Addr.add]] at h0
    unfold World.cell? at h0
    split at h0
    · cases e : a.spot with
      | none => rfl
      | some x => simp [e] at h0
    · simp at h0
  obtain ⟨b, off, sp⟩ := a
  simp only at hs
  subst hs
  refine ⟨b, off, rfl, fun i u hu => ?_⟩
  obtain ⟨hi, _⟩ := List.getElem?_eq_some_iff.1 hu
  have := hcell i hi
  rw [show (Addr.mk b off none).add i = ⟨b, off + i, none⟩ from by by_cases e : i = 0 <;> simp [Addr.add, e]] at this
  rw [this, hu]

theorem flatMap_at {α : Type} (f : α → List Value) (k : Nat) (hf : ∀ x, (f x).length = k) (l : List α) : ∀ (i : Nat) (x : α), l[i]? = some x → ∀ j, j < k → (l.flatMap f)[i * k + j]? = (f x)[j]? := by
  induction l with
  | nil => intro i x h; simp at h
  | cons y l ih =>
    intro i x h j hj
    cases i with
    | zero =>
      simp at h
      subst h
      rw [List.flatMap_cons, List.getElem?_append_left (by rw [hf]; omega)]
      simp
    | succ i =>
      simp at h
      rw [List.flatMap_cons, List.getElem?_append_right (by rw [hf, Nat.succ_mul]; omega), hf]
      rw [show (i + 1) * k + j - k = i * k + j from by rw [Nat.succ_mul]; omega]
      exact ih i x h j hj

theorem flat_len {α : Type} (f : α → List Value) (k : Nat) (hf : ∀ x, (f x).length = k) (l : List α) : (l.flatMap f).length = l.length * k := by
  induction l with
  | nil => simp
  | cons x l ih => rw [List.flatMap_cons, List.length_append, ih, hf, List.length_cons, Nat.succ_mul]; omega
theorem ints_flat (ks : List Int) : ints ks = ks.flatMap fun r => [Value.int .i64 r] := by
  induction ks with
  | nil => rfl
  | cons k ks ih => rw [List.flatMap_cons, ← ih]; rfl

/-- Elements by index. -/
theorem rows_of {α : Type} (d0 : α) {a : Addr} {n k : Nat} (f : α → List Value) (hf : ∀ x, (f x).length = k) (hk : 0 < k) (Q : α → Prop) (h : ∀ i, i < n → ∃ x : α, W.cells? base (a.add (i * k)) k = some (f x) ∧ Q x) :
    ∃ l : List α, l.length = n ∧ Rw W (some a) (l.flatMap f) ∧ ∀ x ∈ l, Q x := by
  haveI : Inhabited α := ⟨d0⟩
  obtain ⟨F, hF⟩ := choose_lt h
  refine ⟨(List.range n).map F, by simp, rw_of (base := base) (n := n) (k := k) ?_ hk (fun i hi => ⟨f (F i), (hF i hi).1, fun j hj => ?_⟩), ?_⟩
  · rw [flat_len f k hf]; simp
  · rw [flatMap_at f k hf _ i (F i) (by simp [hi]) j hj]
  · intro x hx
    obtain ⟨i, hi, rfl⟩ := List.mem_map.1 hx
    exact (hF i (by simpa using hi)).2

theorem open_ranges {fuel : Nat} {v : Value} {x : DataW H × List MemPlace} (h : DataW.trod enc Tryz.prog W base spare held fuel 182 [v] = some x) :
    ∃ (rs : List (Int × Int)) (ao : Option Addr) (cap : Nat), v = .slice ao rs.length cap ∧ Rw W ao (flatR rs) ∧ rs.length ≤ 9223372036854775807 := by
  rcases open_slice Tryz.underlying182 h with ⟨hcs, _⟩ | ⟨a, len, cap, m, n, D, Pl, hcs, _, hl, hm, hmm, _, hel⟩
  · simp at hcs
    subst hcs
    exact ⟨[], none, 0, rfl, fun h => absurd rfl h, by simp⟩
  · simp at hcs
    subst hcs
    rw [cR] at hel
    obtain ⟨rs, h1, h2, _⟩ := rows_of (W := W) (base := base) (0, 0) (a := a) (n := len) (k := 2) (fun r : Int × Int => [Value.int .i64 r.1, .int .i64 r.2]) (fun _ => rfl) (by omega) (fun _ => True) (fun i hi => by
      obtain ⟨cs, hc, ht⟩ := hel i (by rw [hmm]; split <;> omega)
      obtain ⟨lo, hi', rfl⟩ := open_range ht
      exact ⟨(lo, hi'), hc, trivial⟩)
    refine ⟨rs, some a, cap, by rw [h1], h2, ?_⟩
    rw [h1]; unfold maxLen at hm; omega

theorem open_kids {fuel : Nat} {v : Value} {x : DataW H × List MemPlace} (h : DataW.trod enc Tryz.prog W base spare held fuel 139 [v] = some x) :
    ∃ (ks : List Int) (ao : Option Addr) (cap : Nat), v = .slice ao ks.length cap ∧ Rw W ao (ints ks) ∧ ks.length ≤ 9223372036854775807 := by
  rcases open_slice Tryz.underlying139 h with ⟨hcs, _⟩ | ⟨a, len, cap, m, n, D, Pl, hcs, _, hl, hm, hmm, _, hel⟩
  · simp at hcs
    subst hcs
    exact ⟨[], none, 0, rfl, fun h => absurd rfl h, by simp⟩
  · simp at hcs
    subst hcs
    rw [cI] at hel
    obtain ⟨ks, h1, h2, _⟩ := rows_of (W := W) (base := base) 0 (a := a) (n := len) (k := 1) (fun r : Int => [Value.int .i64 r]) (fun _ => rfl) (by omega) (fun _ => True) (fun i hi => by
      obtain ⟨cs, hc, ht⟩ := hel i (by rw [hmm]; split <;> omega)
      obtain ⟨z, rfl, _⟩ := DataW.trod_int Tryz.underlying3 ht
      exact ⟨z, hc, trivial⟩)
    refine ⟨ks, some a, cap, by rw [h1], ?_, ?_⟩
    · rw [ints_flat]; exact h2
    · rw [h1]; unfold maxLen at hm; omega

set_option maxRecDepth 100000 in
theorem open_piece {fuel : Nat} {cs : List Value} {x : DataW H × List MemPlace} (h : DataW.trod enc Tryz.prog W base spare held fuel 184 cs = some x) : ∃ y : Pm, cs = cell7 y ∧ Gp W y := by
  obtain ⟨hl, n, hf⟩ := open_fields Tryz.underlying184 (by kernel_rfl) h
  rw [cP] at hl
  obtain ⟨c0, c1, c2, c3, c4, c5, c6, rfl⟩ := list7 hl
  have f0 : ∃ y, DataW.trod enc Tryz.prog W base spare held n 3 [c0] = some y := hf 0 _ rfl c0 rfl
  have f1 : ∃ y, DataW.trod enc Tryz.prog W base spare held n 182 [c1] = some y := hf 1 _ rfl c1 rfl
  have f2 : ∃ y, DataW.trod enc Tryz.prog W base spare held n 3 [c2] = some y := hf 2 _ rfl c2 rfl
  have f3 : ∃ y, DataW.trod enc Tryz.prog W base spare held n 3 [c3] = some y := hf 3 _ rfl c3 rfl
  have f4 : ∃ y, DataW.trod enc Tryz.prog W base spare held n 4 [c4] = some y := hf 4 _ rfl c4 rfl
  have f5 : ∃ y, DataW.trod enc Tryz.prog W base spare held n 3 [c5] = some y := hf 5 _ rfl c5 rfl
  have f6 : ∃ y, DataW.trod enc Tryz.prog W base spare held n 139 [c6] = some y := hf 6 _ rfl c6 rfl
  obtain ⟨_, f0⟩ := f0
  obtain ⟨_, f1⟩ := f1
  obtain ⟨_, f2⟩ := f2
  obtain ⟨_, f3⟩ := f3
  obtain ⟨_, f4⟩ := f4
  obtain ⟨_, f5⟩ := f5
  obtain ⟨_, f6⟩ := f6
  obtain ⟨k, e0, _⟩ := DataW.trod_int Tryz.underlying3 f0
  obtain ⟨rs, ao, cap, e1, hr, hrl⟩ := open_ranges (v := c1) f1
  obtain ⟨mi, e2, _, w2⟩ := DataW.trod_int Tryz.underlying3 f2
  obtain ⟨ma, e3, _, w3⟩ := DataW.trod_int Tryz.underlying3 f3
  obtain ⟨lz, e4, _⟩ := DataW.trod_bool Tryz.underlying4 f4
  obtain ⟨nu, e5, _⟩ := DataW.trod_int Tryz.underlying3 f5
  obtain ⟨ks, ao', cap', e6, hks, hkl⟩ := open_kids (v := c6) f6
  simp at e0 e2 e3 e4 e5
  subst e0 e1 e2 e3 e4 e5 e6
  exact ⟨({ kind := k, set := rs, min := mi, max := ma, lazy := lz, num := nu, kids := ks }, .slice ao rs.length cap, .slice ao' ks.length cap'), rfl, ⟨⟨ao, cap, rfl, hr⟩, ⟨ao', cap', rfl, hks⟩, hrl, hkl, int64 w2, int64 w3⟩⟩

theorem open_pieces {fuel : Nat} {v : Value} {x : DataW H × List MemPlace} (h : DataW.trod enc Tryz.prog W base spare held fuel 48 [v] = some x) : ∃ L, Gv W v L := by
  rcases open_slice Tryz.underlying48 h with ⟨hcs, _⟩ | ⟨a, len, cap, m, n, D, Pl, hcs, _, hl, hm, hmm, _, hel⟩
  · simp at hcs
    subst hcs
    exact ⟨[], ⟨none, 0, rfl, fun h => absurd rfl h⟩, by simp, by simp⟩
  · simp at hcs
    subst hcs
    rw [cP] at hel
    obtain ⟨L, h1, h2, h3⟩ := rows_of (W := W) (base := base) (({ kind := 0, set := [], min := 0, max := 0, lazy := false, num := 0, kids := [] }, .bool true, .bool true) : Pm) (a := a) (n := len) (k := 7) cell7 (fun _ => rfl) (by omega) (Gp W) (fun i hi => by
      obtain ⟨cs, hc, ht⟩ := hel i (by rw [hmm]; split <;> omega)
      obtain ⟨y, rfl, hy⟩ := open_piece ht
      exact ⟨y, hc, hy⟩)
    refine ⟨L, ⟨some a, cap, by rw [h1], h2⟩, h3, ?_⟩
    rw [h1]; unfold maxLen at hm; omega

set_option maxRecDepth 100000 in
/-- A pattern as it is given. -/
theorem open_pattern {r : Reach} {b0 : Nat} {v : Value} {d : DataW H} {p : List MemPlace} (hv : Value.okWide Tryz.prog W r b0 50 v) (h : DataW.Trod enc Tryz.prog W base spare held 50 v d p) :
    ∃ (ok : Bool) (at_ gr : Int) (u : Value) (L : List Pm), v = .agg #[.bool ok, .int .i64 at_, .int .i64 gr, u] ∧ Gv W u L := by
  obtain ⟨v0, v1, v2, v3, y0, y1, y2, y3, n, rfl, _, _, h0, h1, h2, h3⟩ := open_agg4 Tryz.underlying50 (by kernel_rfl) cA hv h
  obtain ⟨ok, e0, _⟩ := DataW.trod_bool Tryz.underlying4 h0
  obtain ⟨a, e1, _⟩ := DataW.trod_int Tryz.underlying3 h1
  obtain ⟨g, e2, _⟩ := DataW.trod_int Tryz.underlying3 h2
  obtain ⟨L, hL⟩ := open_pieces h3
  simp at e0 e1 e2
  subst e0 e1 e2
  exact ⟨ok, a, g, v3, L, rfl, hL⟩

end
end Go.Proofs.YtmlgmhnplicflaaGreatDoor

/-
  How much is given.
-/
namespace Go.Proofs.YtmlgmhnplicflaaGreatDoor
open Go.RowKit
set_option linter.unusedVariables false

def szR (n : Nat) (left : Int) : Int := if left < n then -1 else left - n

set_option maxRecDepth 100000 in
theorem szRangeS_any {w : World} {ao : Option Addr} {n cap : Nat} {left : Int} (h0 : 0 ≤ left) (h1 : left ≤ 1048576) (hn : n ≤ 9223372036854775807) :
    Calls Tryz.prog 121 #[.slice ao n cap, .int .i64 left] w fun e w' => e = .returned (.int .i64 (szR n left)) ∧ Keeps (fun _ => False) w w' := by
  have e1 : IntKind.i64.wrap (left - (n : Int)) = left - (n : Int) := IntWalk.i64_in _ (by omega)
  by_cases h : left < (n : Int)
  · have hz : left - (n : Int) < 0 := by omega
    have HE : Hid (szR n left = -1) := if_pos h
    clear h
    go_enter Tryz.func121, Tryz.ntmps121
    go_wp2
    go_ret
    exact ⟨by rw [HE.out]; rfl, Keeps.refl _ _⟩
  · have hz : ¬ left - (n : Int) < 0 := by omega
    have HE : Hid (szR n left = left - (n : Int)) := if_neg h
    clear h
    go_enter Tryz.func121, Tryz.ntmps121
    go_wp2
    go_ret
    exact ⟨by rw [HE.out]; rfl, Keeps.refl _ _⟩

set_option maxRecDepth 100000 in
theorem szIntS_any {w : World} {ao : Option Addr} {n cap : Nat} {left : Int} (h0 : 0 ≤ left) (h1 : left ≤ 1048576) (hn : n ≤ 9223372036854775807) :
    Calls Tryz.prog 122 #[.slice ao n cap, .int .i64 left] w fun e w' => e = .returned (.int .i64 (szR n left)) ∧ Keeps (fun _ => False) w w' := by
  have e1 : IntKind.i64.wrap (left - (n : Int)) = left - (n : Int) := IntWalk.i64_in _ (by omega)
  by_cases h : left < (n : Int)
  · have hz : left - (n : Int) < 0 := by omega
    have HE : Hid (szR n left = -1) := if_pos h
    clear h
    go_enter Tryz.func122, Tryz.ntmps122
    go_wp2
    go_ret
    exact ⟨by rw [HE.out]; rfl, Keeps.refl _ _⟩
  · have hz : ¬ left - (n : Int) < 0 := by omega
    have HE : Hid (szR n left = left - (n : Int)) := if_neg h
    clear h
    go_enter Tryz.func122, Tryz.ntmps122
    go_wp2
    go_ret
    exact ⟨by rw [HE.out]; rfl, Keeps.refl _ _⟩

/-- What is left behind a piece. -/
def SzP (x : Pc) (left : Int) (r : Int) : Prop := r = -1 ∨ (0 ≤ r ∧ (x.set.length : Int) + x.kids.length + r = left)
def szVal (x : Pm) : Value := .agg #[.int .i64 x.1.kind, x.2.1, .int .i64 x.1.min, .int .i64 x.1.max, .bool x.1.lazy, .int .i64 x.1.num, x.2.2]

def SzPost (Q : Int → Prop) (w : World) (e : Ending) (w' : World) : Prop := ∃ r : Int, e = .returned (.int .i64 r) ∧ Q r ∧ Keeps (fun _ => False) w w'

set_option maxHeartbeats 1000000 in
set_option maxRecDepth 100000 in
theorem szPiece_any {w : World} {x : Pm} {left : Int} (hx : Gp w x) (h0 : 0 ≤ left) (h1 : left ≤ 1048576) :
    Calls Tryz.prog 89 #[szVal x, .int .i64 left] w (SzPost (SzP x.1 left) w) := by
  obtain ⟨⟨ao, cap, e1, _⟩, ⟨ao2, cap2, e2, _⟩, hs, hk, _, _⟩ := hx
  obtain ⟨c, s1, k1⟩ := x
  simp only at e1 e2 hs hk
  subst e1 e2
  obtain ⟨ck, cset, cm, cx, cl, cn, ckd⟩ := c
  simp only [szVal] at *
  have c1 := fun w9 => szRangeS_any (w := w9) (ao := ao) (n := cset.length) (cap := cap) h0 h1 hs
  have kA : Keeps (fun _ => False) w (w.alloc (.cells #[.int .i64 ck, .slice ao cset.length cap, .int .i64 cm, .int .i64 cx, .bool cl, .int .i64 cn, .slice ao2 ckd.length cap2] 184)) := (Keeps.refl _ _).alloc _
  have hb : (w.alloc (.cells #[.int .i64 ck, .slice ao cset.length cap, .int .i64 cm, .int .i64 cx, .bool cl, .int .i64 cn, .slice ao2 ckd.length cap2] 184)).heap[w.heap.size]? = some (.cells #[.int .i64 ck, .slice ao cset.length cap, .int .i64 cm, .int .i64 cx, .bool cl, .int .i64 cn, .slice ao2 ckd.length cap2] 184 (0, 0)) := heap_alloc_new w _
  by_cases ha : left < (cset.length : Int)
  · have HE : Hid (szR cset.length left = -1) := if_pos ha
    rw [HE.out] at c1
    clear ha
    go_enter Tryz.func89, Tryz.ntmps89
    go_wp2_with (go_at_call 121; refine (c1 _).mono ?_; rintro e w2 ⟨rfl, hk2⟩)
    go_ret
    exact ⟨-1, rfl, Or.inl rfl, kA.trans hk2⟩
  · have HE : Hid (szR cset.length left = left - (cset.length : Int)) := if_neg ha
    rw [HE.out] at c1
    have hz : ¬ left - (cset.length : Int) < 0 := by omega
    have c2 := fun w9 => szIntS_any (w := w9) (ao := ao2) (n := ckd.length) (cap := cap2) (left := left - (cset.length : Int)) (by omega) (by omega) hk
    by_cases hb2 : left - (cset.length : Int) < (ckd.length : Int)
    · have HE2 : Hid (szR ckd.length (left - (cset.length : Int)) = -1) := if_pos hb2
      rw [HE2.out] at c2
      clear ha hb2
      go_enter Tryz.func89, Tryz.ntmps89
      go_wp2_with (first
        | (go_at_call 121; refine (c1 _).mono ?_; rintro e w2 ⟨rfl, hk2⟩; have hb3 := blkK hb hk2; have d6 : w2.cell? ⟨w.heap.size, 6, none⟩ = some (.slice ao2 ckd.length cap2) := (by rw [cell_of hb3]; rfl))
        | (go_at_call 122; refine (c2 _).mono ?_; rintro e w3 ⟨rfl, hk3⟩))
      go_ret
      exact ⟨-1, rfl, Or.inl rfl, (kA.trans hk2).trans hk3⟩
    · have HE2 : Hid (szR ckd.length (left - (cset.length : Int)) = left - (cset.length : Int) - (ckd.length : Int)) := if_neg hb2
      rw [HE2.out] at c2
      have hz2 : ¬ left - (cset.length : Int) - (ckd.length : Int) < 0 := by omega
      have HF : Hid (0 ≤ left - (cset.length : Int) - (ckd.length : Int)) := (by show _ ≤ _; omega)
      clear ha hb2
      go_enter Tryz.func89, Tryz.ntmps89
      go_wp2_with (first
        | (go_at_call 121; refine (c1 _).mono ?_; rintro e w2 ⟨rfl, hk2⟩; have hb3 := blkK hb hk2; have d6 : w2.cell? ⟨w.heap.size, 6, none⟩ = some (.slice ao2 ckd.length cap2) := (by rw [cell_of hb3]; rfl))
        | (go_at_call 122; refine (c2 _).mono ?_; rintro e w3 ⟨rfl, hk3⟩))
      go_ret
      exact ⟨left - (cset.length : Int) - (ckd.length : Int), rfl, Or.inr ⟨HF.out, by simp only; omega⟩, (kA.trans hk2).trans hk3⟩

/-- The cells of one piece. -/
structure Gc7 (w : World) (b o : Nat) (x : Pm) : Prop where
  c0 : w.cell? ⟨b, o, none⟩ = some (.int .i64 x.1.kind)
  c1 : w.cell? ⟨b, o + 1, none⟩ = some x.2.1
  c2 : w.cell? ⟨b, o + 2, none⟩ = some (.int .i64 x.1.min)
  c3 : w.cell? ⟨b, o + 3, none⟩ = some (.int .i64 x.1.max)
  c4 : w.cell? ⟨b, o + 4, none⟩ = some (.bool x.1.lazy)
  c5 : w.cell? ⟨b, o + 5, none⟩ = some (.int .i64 x.1.num)
  c6 : w.cell? ⟨b, o + 6, none⟩ = some x.2.2
theorem gc7_of {w : World} {b off k : Nat} {L : List Pm} {x : Pm} (h : ∀ i u, (L.flatMap cell7)[i]? = some u → w.cell? ⟨b, off + i, none⟩ = some u) (hx : L[k]? = some x) : Gc7 w b (off + k * 7) x := by
  have hf := flatMap_at cell7 7 (fun _ => rfl) L k x hx
  have g : ∀ j u, j < 7 → (cell7 x)[j]? = some u → w.cell? ⟨b, off + k * 7 + j, none⟩ = some u := fun j u hj hu => by
    have := h (k * 7 + j) u (by rw [hf j hj]; exact hu)
    rw [Nat.add_assoc]; exact this
  exact ⟨g 0 _ (by omega) rfl, g 1 _ (by omega) rfl, g 2 _ (by omega) rfl, g 3 _ (by omega) rfl, g 4 _ (by omega) rfl, g 5 _ (by omega) rfl, g 6 _ (by omega) rfl⟩

def SzL (L : List Pm) (r : Int) : Prop := r = -1 ∨ (0 ≤ r ∧ r ≤ 1048576 ∧ L.length ≤ 1048576 ∧ ∀ x ∈ L, x.1.set.length ≤ 1048576 ∧ x.1.kids.length ≤ 1048576)

set_option maxHeartbeats 1000000 in
set_option maxRecDepth 100000 in
theorem szPieceS_any {w : World} {v : Value} {L : List Pm} (hv : Gv w v L) :
    Calls Tryz.prog 57 #[v, .int .i64 1048576] w (SzPost (SzL L) w) := by
  have hv0 := hv
  obtain ⟨⟨ao, cap, rfl, hr⟩, he, hl⟩ := hv
  have e1 : IntKind.i64.wrap (1048576 - (L.length : Int)) = 1048576 - (L.length : Int) := IntWalk.i64_in _ (by omega)
  by_cases ha : (1048576 : Int) - (L.length : Int) < 0
  · go_enter Tryz.func57, Tryz.ntmps57
    go_wp2
    go_ret
    exact ⟨-1, rfl, Or.inl rfl, Keeps.refl _ _⟩
  · go_enter Tryz.func57, Tryz.ntmps57
    go_wp2
    go_loopw [1, 5] (fun lv ix wq => ∃ (k : Nat) (l : Int), k ≤ L.length ∧ ix = .int .i64 k ∧ lv = .int .i64 l ∧ 0 ≤ l ∧ l ≤ 1048576 ∧ Hid (∀ x ∈ L.take k, x.1.set.length ≤ 1048576 ∧ x.1.kids.length ≤ 1048576) ∧ Keeps (fun _ => False) w wq) (fun _ ix _ => L.length - (intOf ix).toNat)
    case atStart => exact ⟨0, 1048576 - (L.length : Int), Nat.zero_le _, rfl, by first | rfl | (rw [e1]), by omega, by omega, by intro x hx; simp at hx, Keeps.refl _ _⟩
    case round =>
      obtain ⟨k, l, hk, rfl, rfl, hl0, hl1, HT, hkp⟩ := hrel
      by_cases hlt : k < L.length
      · have hne : L.flatMap cell7 ≠ [] := by
          intro h
          have := congrArg List.length h
          rw [cell7_len, List.length_nil] at this
          omega
        obtain ⟨b, off, rfl, hc⟩ := (hr.keeps hkp) hne
        have hcc := gc7_of hc (List.getElem?_eq_getElem hlt)
        have hg := (he _ (List.getElem_mem hlt)).keeps hkp
        have hT2 : ∀ x ∈ L.take (k + 1), (x = L[k] ∨ x ∈ L.take k) := fun x hx => by
          rw [List.take_succ_eq_append_getElem hlt] at hx
          rcases List.mem_append.1 hx with h | h
          · exact Or.inr h
          · exact Or.inl (List.mem_singleton.1 h)
        generalize L[k] = x at hcc hg hT2
        have hcall := szPiece_any hg hl0 hl1
        obtain ⟨⟨a1, cp1, q1, _⟩, ⟨a2, cp2, q2, _⟩, _, _, _, _⟩ := hg
        obtain ⟨c, s1, k1⟩ := x
        simp only at q1 q2
        subst q1 q2
        obtain ⟨ck, cset, cm, cx, cl, cn, ckd⟩ := c
        obtain ⟨y0, y1, y2, y3, y4, y5, y6⟩ := hcc
        simp only [szVal] at y0 y1 y2 y3 y4 y5 y6 hcall
        have hkz : (k : Int) < (L.length : Int) := by omega
        clear hc hne
        have HT2 : Hid (∀ x ∈ L.take (k + 1), (x = (({ kind := ck, set := cset, min := cm, max := cx, lazy := cl, num := cn, kids := ckd }, Value.slice a1 cset.length cp1, Value.slice a2 ckd.length cp2) : Pm) ∨ x ∈ L.take k)) := hT2
        clear hT2
        go_upto_region 8 with (go_at_call 89; refine hcall.mono ?_; rintro e w3 ⟨r, rfl, hq, hk3⟩)
        rcases hq with rfl | ⟨hq0, hq1⟩
        · go_wp2
          go_ret
          exact ⟨-1, rfl, Or.inl rfl, hkp.trans hk3⟩
        · have hrz : ¬ r < 0 := by omega
          simp only at hq1
          have HQ : Hid ((cset.length : Int) + ckd.length + r = l) := hq1
          clear hq1
          go_wp2
          go_roundw
          · refine ⟨k + 1, r, by omega, by go_num, rfl, hq0, by have := HQ.out; omega, ?_, hkp.trans hk3⟩
            intro x hx
            rcases HT2.out x hx with rfl | h
            · have := HQ.out; simp only; omega
            · exact HT.out x h
          · simp [intOf]; omega
      · have hkk : k = L.length := by omega
        subst hkk
        have hz : ¬ (L.length : Int) < (L.length : Int) := by omega
        go_wp2
        go_ret
        refine ⟨l, rfl, Or.inr ⟨hl0, hl1, by omega, ?_⟩, hkp⟩
        have := HT.out
        rw [List.take_length] at this
        exact this

/-- All of a pattern. -/
theorem szPattern_any {w : World} {v : Value} {L : List Pm} {ok : Bool} {at_ gr : Int} (hv : Gv w v L) :
    Calls Tryz.prog 22 #[.agg #[.bool ok, .int .i64 at_, .int .i64 gr, v], .int .i64 1048576] w (SzPost (SzL L) w) := by
  obtain ⟨⟨ao, cap, rfl, hr⟩, he, hl⟩ := id hv
  have kA : Keeps (fun _ => False) w (w.alloc (.cells #[.bool ok, .int .i64 at_, .int .i64 gr, .slice ao L.length cap] 50)) := (Keeps.refl _ _).alloc _
  have hcall := szPieceS_any (hv.keeps kA)
  go_enter Tryz.func22, Tryz.ntmps22
  go_upto_region 2 with (go_at_call 57; refine hcall.mono ?_; rintro e w3 ⟨r, rfl, hq, hk3⟩)
  by_cases hr0 : r < 0
  · go_wp2
    go_ret
    exact ⟨-1, rfl, Or.inl rfl, kA.trans hk3⟩
  · go_wp2
    go_ret
    exact ⟨r, rfl, hq, kA.trans hk3⟩

end Go.Proofs.YtmlgmhnplicflaaGreatDoor

/-
  Copies of rows.
-/
namespace Go.Proofs.YtmlgmhnplicflaaGreatDoor
open Go.RowKit
set_option linter.unusedVariables false

def RowPost (t : TypeId) (k n : Nat) (xs : List Value) (w : World) (e : Ending) (w' : World) : Prop := ∃ v, e = .returned v ∧ w'.ownsRow 0 t k v n xs ∧ Keeps (fun _ => False) w w'

theorem Tryz.infoRange2 : (Tryz.prog.info? 158).map (fun i => (i.zero, i.size, i.bytes)) = some (some (.agg #[.int .i64 0, .int .i64 0]), 2, 16) := by kernel_rfl
theorem Tryz.infoInt2 : (Tryz.prog.info? 3).map (fun i => (i.zero, i.size, i.bytes)) = some (some (.int .i64 0), 1, 8) := by kernel_rfl

theorem set_two (A : List Value) (r0 r1 x y : Value) (r : List Value) : ((A ++ r0 :: r1 :: r).set A.length x).set (A.length + 1) y = (A ++ [x, y]) ++ r := by
  rw [List.set_append_right _ _ (Nat.le_refl _), Nat.sub_self, List.set_append_right _ _ (by omega), Nat.add_sub_cancel_left]
  simp
theorem set_one (A : List Value) (r0 x : Value) (r : List Value) : (A ++ r0 :: r).set A.length x = (A ++ [x]) ++ r := by
  rw [List.set_append_right _ _ (Nat.le_refl _), Nat.sub_self]
  simp

set_option maxRecDepth 100000 in
theorem toRange_any {w : World} {lo hi : Int} : Calls Tryz.prog 153 #[.agg #[.int .i64 lo, .int .i64 hi]] w fun e w' => e = .returned (.agg #[.int .i64 lo, .int .i64 hi]) ∧ Keeps (fun _ => False) w w' := by
  go_enter Tryz.func153, Tryz.ntmps153
  go_wp2
  refine bodyPost_ret (v := .agg #[.int .i64 lo, .int .i64 hi]) (by simp [results, Tryz.results153, go_sem]) rfl ?_
  refine ⟨rfl, ?_⟩
  repeat (first
    | exact Keeps.refl _ _
    | refine Keeps.alloc ?_ _
    | refine Keeps.setCell ?_ (by intro h; simp at h; omega) _)

set_option maxHeartbeats 1000000 in
set_option maxRecDepth 100000 in
theorem toIntS_any {w : World} {ao : Option Addr} {cap : Nat} {ks : List Int} (hr : Rw w ao (ints ks)) (hn : ks.length ≤ 1048576) :
    Calls Tryz.prog 124 #[.slice ao ks.length cap] w (RowPost 3 1 ks.length (ints ks) w) := by
  obtain ⟨i0, hi, hz0, hz1, hz2⟩ := info_parts Tryz.infoInt2
  obtain ⟨w1, hmk, hrow, hgrow⟩ := run_make_full (P := Tryz.prog) w 0 139 3 i0 (.int .i64 0) 1 Tryz.underlying139 hi hz0 hz1 .i64 .i64 ks.length (by rw [hz2]; omega) (by unfold maxLen; omega) (Nat.zero_le _)
  have hk0 : Keeps (fun _ => False) w w1 := (Keeps.refl _ _).grown hgrow (by simp)
  generalize (madeCells (Value.cells (.int .i64 0)) (ks.length * 1)).toList = zs at hrow
  clear hgrow
  go_enter Tryz.func124, Tryz.ntmps124
  go_wp2
  go_loopw [4] (fun ix wq => ∃ (k : Nat) (r : List Value), k ≤ ks.length ∧ ix = .int .i64 k ∧ wq.ownsRow 0 3 1 (.slice (some ⟨w.heap.size, 0, none⟩) ks.length ks.length) ks.length (ints (ks.take k) ++ r) ∧ Keeps (fun _ => False) w wq) (fun ix _ => ks.length - (intOf ix).toNat)
  case atStart => exact ⟨0, zs, Nat.zero_le _, rfl, hrow, hk0⟩
  case round =>
    clear hrow hk0 hmk
    obtain ⟨k, r, hk, rfl, hrow, hkp⟩ := hrel
    by_cases hlt : k < ks.length
    · have hne : ints ks ≠ [] := by
        intro h
        have : (ints ks).length = 0 := by rw [h]; rfl
        rw [ints, List.length_map] at this
        omega
      obtain ⟨b, off, rfl, hc⟩ := (hr.keeps hkp) hne
      have z1 : wr.cell? ⟨b, off + k, none⟩ = some (.int .i64 ks[k]) := hc k _ (ints_get ks k hlt)
      have hrl : r.length = ks.length - k := by
        have := hrow.1
        simp [ints] at this
        omega
      obtain ⟨r0, r', rfl⟩ : ∃ r0 r', r = r0 :: r' := by
        cases r with
        | nil => simp at hrl; omega
        | cons a r => exact ⟨a, r, rfl⟩
      have hst := hrow.stored k (.int .i64 ks[k])
      have hnx : ints (ks.take (k + 1)) = ints (ks.take k) ++ [.int .i64 ks[k]] := by
        unfold ints; rw [List.take_succ_eq_append_getElem hlt, List.map_append]; rfl
      have hil : (ints (ks.take k)).length = k := by simp [ints]; omega
      have hrow2 : (wr.setCell ⟨w.heap.size, k, none⟩ (.int .i64 ks[k])).ownsRow 0 3 1 (.slice (some ⟨w.heap.size, 0, none⟩) ks.length ks.length) ks.length (ints (ks.take (k + 1)) ++ r') := by
        have := hst.1
        rw [show (ints (ks.take k) ++ r0 :: r').set k (.int .i64 ks[k]) = (ints (ks.take k) ++ r0 :: r').set (ints (ks.take k)).length (.int .i64 ks[k]) from by rw [hil], set_one] at this
        rw [hnx]
        exact this
      have hfz := hrow.frozenAt k
      have hcl : ∃ u, wr.cell? ⟨w.heap.size, k, none⟩ = some u := ⟨r0, by rw [hrow.cellAt k (by omega)]; rw [List.getElem?_append_right (by omega), hil]; simp⟩
      obtain ⟨u0, hcl⟩ := hcl
      have hkz : (k : Int) < (ks.length : Int) := by omega
      generalize ks[k] = y at z1 hrow2
      clear hst hnx hrl hne hc
      go_wp2
      go_roundw
      · exact ⟨k + 1, r', by omega, by go_num, hrow2, hkp.setCell (by intro h; simp at h) _⟩
      · simp [intOf]; omega
    · have hkk : k = ks.length := by omega
      subst hkk
      have hz : ¬ (ks.length : Int) < (ks.length : Int) := by omega
      have hr0 : r = [] := by
        have := hrow.1
        simp [ints] at this
        exact this
      subst hr0
      rw [List.take_length, List.append_nil] at hrow
      go_wp2
      go_ret
      exact ⟨_, rfl, hrow, hkp⟩

set_option maxHeartbeats 1000000 in
set_option maxRecDepth 100000 in
theorem toRangeS_any {w : World} {ao : Option Addr} {cap : Nat} {rs : List (Int × Int)} (hr : Rw w ao (flatR rs)) (hn : rs.length ≤ 1048576) :
    Calls Tryz.prog 123 #[.slice ao rs.length cap] w (RowPost 158 2 rs.length (flatR rs) w) := by
  obtain ⟨i0, hi, hz0, hz1, hz2⟩ := info_parts Tryz.infoRange2
  obtain ⟨w1, hmk, hrow, hgrow⟩ := run_make_full (P := Tryz.prog) w 0 140 158 i0 (.agg #[.int .i64 0, .int .i64 0]) 2 Tryz.underlying140 hi hz0 hz1 .i64 .i64 rs.length (by rw [hz2]; omega) (by unfold maxLen; omega) (Nat.zero_le _)
  have hk0 : Keeps (fun _ => False) w w1 := (Keeps.refl _ _).grown hgrow (by simp)
  generalize (madeCells (Value.cells (.agg #[.int .i64 0, .int .i64 0])) (rs.length * 2)).toList = zs at hrow
  clear hgrow
  go_enter Tryz.func123, Tryz.ntmps123
  go_wp2
  go_loopw [4] (fun ix wq => ∃ (k : Nat) (r : List Value), k ≤ rs.length ∧ ix = .int .i64 k ∧ wq.ownsRow 0 158 2 (.slice (some ⟨w.heap.size, 0, none⟩) rs.length rs.length) rs.length (flatR (rs.take k) ++ r) ∧ Keeps (fun _ => False) w wq) (fun ix _ => rs.length - (intOf ix).toNat)
  case atStart => exact ⟨0, zs, Nat.zero_le _, rfl, hrow, hk0⟩
  case round =>
    clear hrow hk0 hmk
    obtain ⟨k, r, hk, rfl, hrow, hkp⟩ := hrel
    by_cases hlt : k < rs.length
    · have hne : flatR rs ≠ [] := by
        intro h
        have : (flatR rs).length = 0 := by rw [h]; rfl
        rw [flatR_len] at this
        omega
      obtain ⟨b, off, rfl, hc⟩ := (hr.keeps hkp) hne
      obtain ⟨q1, q2⟩ := flatR_get rs k hlt
      have z1 : wr.cell? ⟨b, off + k * 2, none⟩ = some (.int .i64 rs[k].1) := hc _ _ q1
      have z2 : wr.cell? ⟨b, off + k * 2 + 1, none⟩ = some (.int .i64 rs[k].2) := by have := hc _ _ q2; rw [← Nat.add_assoc] at this; exact this
      have hrl : r.length = (rs.length - k) * 2 := by
        have := hrow.1
        rw [List.length_append, flatR_len, List.length_take, Nat.min_eq_left hk] at this
        omega
      obtain ⟨r0, r1, r', rfl⟩ : ∃ r0 r1 r', r = r0 :: r1 :: r' := by
        match r, hrl with
        | [], h => simp at h; omega
        | [a], h => simp at h; omega
        | a :: b :: r, _ => exact ⟨a, b, r, rfl⟩
      have hnx : flatR (rs.take (k + 1)) = flatR (rs.take k) ++ [.int .i64 rs[k].1, .int .i64 rs[k].2] := by
        rw [List.take_succ_eq_append_getElem hlt, flatR_append]; rfl
      have hil : (flatR (rs.take k)).length = k * 2 := by rw [flatR_len, List.length_take, Nat.min_eq_left hk]
      have hset : ∀ (w9 : World) (lo hi : Int), w9.ownsRow 0 158 2 (.slice (some ⟨w.heap.size, 0, none⟩) rs.length rs.length) rs.length (flatR (rs.take k) ++ r0 :: r1 :: r') →
          ((w9.setCell ⟨w.heap.size, k * 2, none⟩ (.int .i64 lo)).setCell ⟨w.heap.size, k * 2 + 1, none⟩ (.int .i64 hi)).ownsRow 0 158 2 (.slice (some ⟨w.heap.size, 0, none⟩) rs.length rs.length) rs.length (flatR (rs.take k) ++ [.int .i64 lo, .int .i64 hi] ++ r') := by
        intro w9 lo hi h9
        have := ((h9.stored (k * 2) (.int .i64 lo)).1.stored (k * 2 + 1) (.int .i64 hi)).1
        rw [← hil, set_two] at this
        rw [hil] at this
        exact this
      have hcell : ∀ (w9 : World), w9.ownsRow 0 158 2 (.slice (some ⟨w.heap.size, 0, none⟩) rs.length rs.length) rs.length (flatR (rs.take k) ++ r0 :: r1 :: r') → w9.cell? ⟨w.heap.size, k * 2, none⟩ = some r0 ∧ w9.cell? ⟨w.heap.size, k * 2 + 1, none⟩ = some r1 := by
        intro w9 h9
        refine ⟨?_, ?_⟩
        · rw [h9.cellAt (k * 2) (by omega), List.getElem?_append_right (by omega), hil]; simp
        · rw [h9.cellAt (k * 2 + 1) (by omega), List.getElem?_append_right (by omega), hil]; simp
      have HNX : Hid (flatR (rs.take (k + 1)) = flatR (rs.take k) ++ [.int .i64 rs[k].1, .int .i64 rs[k].2]) := hnx
      generalize rs[k] = y at z1 z2 HNX
      obtain ⟨lo, hi'⟩ := y
      simp only at z1 z2
      have hkz : (k : Int) < (rs.length : Int) := by omega
      clear hnx hne hc q1 q2 hil hrl
      have HS : Hid _ := hset
      have HC : Hid _ := hcell
      clear hset hcell
      have h2 := fun w9 => toRange_any (w := w9) (lo := lo) (hi := hi')
      go_wp2_with (go_at_call 153; refine (h2 _).mono ?_; rintro e w3 ⟨rfl, hk3⟩; replace hrow := ownsRow_keeps hrow hk3 (fun _ _ h => h); have hf1 := hrow.frozenAt (k * 2); have hf2 := hrow.frozenAt (k * 2 + 1); obtain ⟨hc1, hc2⟩ := HC.out _ hrow)
      go_roundw
      · exact ⟨k + 1, r', by omega, by go_num, by rw [HNX.out]; exact HS.out _ _ _ hrow, ((hkp.trans hk3).setCell (by intro h; simp at h) _).setCell (by intro h; simp at h) _⟩
      · simp [intOf]; omega
    · have hkk : k = rs.length := by omega
      subst hkk
      have hz : ¬ (rs.length : Int) < (rs.length : Int) := by omega
      have hr0 : r = [] := by
        have := hrow.1
        rw [List.length_append, flatR_len, List.length_take, Nat.min_eq_left hk] at this
        exact List.eq_nil_of_length_eq_zero (by omega)
      subst hr0
      rw [List.take_length, List.append_nil] at hrow
      go_wp2
      go_ret
      exact ⟨_, rfl, hrow, hkp⟩

end Go.Proofs.YtmlgmhnplicflaaGreatDoor
