import Derived.Test.YtmlgmhnplicflaaGreatDoorAB
import Derived.Test.YtmlgmhnplicflaaGreatDoorT

/-
  The program's nodes as texts: what a node in memory is written as; sets out of ranges.
-/
namespace Go.Proofs.YtmlgmhnplicflaaGreatDoor
open Go.RowKit
set_option linter.unusedVariables false

/-- What holds of every kind of node, its kids given. -/
structure WdCl (w : World) (D : Nat → Prop) (P : Value → Tx → Prop) : Prop where
  set : ∀ (S : Bs) (f : Nat → Nat), Bv S f → P (.iface 164 (.agg #[.int .u64 (f 0), .int .u64 (f 1), .int .u64 (f 2), .int .u64 (f 3)])) (rsTxt (ranges S))
  start : P (.iface 176 (.agg #[])) [94]
  fin : P (.iface 177 (.agg #[])) [36]
  seq : ∀ (v : Value) (vs : List Value) (fs : List Tx), w.ownsRow 0 94 1 v vs.length vs → (∀ k, v.ownBlock = some k → D k) → fs.length = vs.length → vs.length ≤ 1000 → (∀ (i : Nat) (x : Value) (f : Tx), vs[i]? = some x → fs[i]? = some f → P x f) → P (.iface 167 (.agg #[v])) fs.flatten
  alt : ∀ (v : Value) (vs : List Value) (fs : List Tx), w.ownsRow 0 94 1 v vs.length vs → (∀ k, v.ownBlock = some k → D k) → fs.length = vs.length → vs.length ≤ 1000 → (∀ (i : Nat) (x : Value) (f : Tx), vs[i]? = some x → fs[i]? = some f → P x f) → P (.iface 169 (.agg #[v])) (barTxt fs)
  rep : ∀ (a : Value) (f : Tx) (lo hi : Int) (lz : Bool), B64 lo → B64 hi → P a f → P (.iface 171 (.agg #[.int .i64 lo, .int .i64 hi, .bool lz, a])) (f ++ cntTxt lo hi lz)
  grp : ∀ (a : Value) (f : Tx) (num : Int), P a f → P (.iface 174 (.agg #[.int .i64 num, a])) (40 :: (f ++ [41]))

/-- A node, all of whose rows lie in blocks of D, and the text that it is written as. -/
def Wd (w : World) (D : Nat → Prop) (v : Value) (f : Tx) : Prop := ∀ P : Value → Tx → Prop, WdCl w D P → P v f

namespace Wd
variable {w w' : World} {D D' : Nat → Prop}

theorem cl : WdCl w D (Wd w D) :=
  ⟨fun S f h P c => c.set S f h, fun P c => c.start, fun P c => c.fin, fun v vs fs ho hD hl hn hk P c => c.seq v vs fs ho hD hl hn (fun i x f hx hf => hk i x f hx hf P c),
    fun v vs fs ho hD hl hn hk P c => c.alt v vs fs ho hD hl hn (fun i x f hx hf => hk i x f hx hf P c), fun a f lo hi lz h1 h2 h P c => c.rep a f lo hi lz h1 h2 (h P c), fun a f num h P c => c.grp a f num (h P c)⟩

/-- Induction, the nodes themselves at hand. -/
theorem ind {v : Value} {f : Tx} {M : Value → Tx → Prop} (h : Wd w D v f) (hM : WdCl w D (fun v f => Wd w D v f ∧ M v f)) : M v f := (h _ hM).2

variable {v : Value} {f : Tx}
theorem mono (h : Wd w D v f) (hD' : ∀ k, D k → k < w.heap.size → D' k) : Wd w D' v f :=
  h (Wd w D') ⟨cl.set, cl.start, cl.fin,
    fun v vs fs ho hD hl hn ih => cl.seq v vs fs ho (fun k hk' => hD' k (hD k hk') (ho.lt k hk').2) hl hn ih,
    fun v vs fs ho hD hl hn ih => cl.alt v vs fs ho (fun k hk' => hD' k (hD k hk') (ho.lt k hk').2) hl hn ih, cl.rep, cl.grp⟩
theorem keeps {E : Nat → Prop} (h : Wd w D v f) (k : Keeps E w w') (hE : ∀ i, D i → i < w.heap.size → ¬ E i) : Wd w' D v f :=
  h (Wd w' D) ⟨cl.set, cl.start, cl.fin,
    fun v vs fs ho hD hl hn ih => cl.seq v vs fs (ownsRow_keeps ho k (fun i hi => hE i (hD i hi) (ho.lt i hi).2)) hD hl hn ih,
    fun v vs fs ho hD hl hn ih => cl.alt v vs fs (ownsRow_keeps ho k (fun i hi => hE i (hD i hi) (ho.lt i hi).2)) hD hl hn ih, cl.rep, cl.grp⟩
theorem same (h : Wd w D v f) (k : Keeps (fun _ => False) w w') : Wd w' D v f := h.keeps k (fun _ _ _ h => h)
theorem iface (h : Wd w D v f) : ∃ t x, v = .iface t x :=
  h (fun v f => ∃ t x, v = .iface t x) ⟨fun S f h => ⟨_, _, rfl⟩, ⟨_, _, rfl⟩, ⟨_, _, rfl⟩, fun v vs fs _ _ _ _ _ => ⟨_, _, rfl⟩, fun v vs fs _ _ _ _ _ => ⟨_, _, rfl⟩, fun a f lo hi lz _ _ _ => ⟨_, _, rfl⟩, fun a f num _ => ⟨_, _, rfl⟩⟩
end Wd

theorem unS_snoc (l : List (Int × Int)) (r : Int × Int) (x : Nat) : unS (l ++ [r]) x = (unS l x || (decide (r.1 ≤ (x : Int)) && decide ((x : Int) ≤ r.2))) := by simp [unS]
theorem rng_int (lo hi : Int) (x : Nat) (h0 : 0 ≤ lo) (h1 : 0 ≤ hi) : rng lo.toNat hi.toNat x = (decide (lo ≤ (x : Int)) && decide ((x : Int) ≤ hi)) := by
  unfold rng
  rw [decide_eq_decide.2 (show lo.toNat ≤ x ↔ lo ≤ (x : Int) by omega), decide_eq_decide.2 (show x ≤ hi.toNat ↔ (x : Int) ≤ hi by omega)]
theorem okR_snoc (l : List (Int × Int)) (r : Int × Int) : okR (l ++ [r]) = (okR l && (decide (0 ≤ r.1) && decide (r.1 ≤ r.2) && decide (r.2 ≤ 255))) := by simp [okR]
theorem flatR_get (l : List (Int × Int)) (k : Nat) (h : k < l.length) : (flatR l)[k * 2]? = some (.int .i64 l[k].1) ∧ (flatR l)[k * 2 + 1]? = some (.int .i64 l[k].2) := by
  induction l generalizing k with
  | nil => simp at h
  | cons r l ih =>
    cases k with
    | zero => simp [flatR]
    | succ k =>
      have := ih k (by simpa using h)
      have e : flatR (r :: l) = [.int .i64 r.1, .int .i64 r.2] ++ flatR l := rfl
      rw [e]
      constructor
      · rw [List.getElem?_append_right (by simp; omega)]
        have : (k + 1) * 2 - [Value.int .i64 r.1, Value.int .i64 r.2].length = k * 2 := by simp; omega
        rw [this]; simpa using (ih k (by simpa using h)).1
      · rw [List.getElem?_append_right (by simp; omega)]
        have : (k + 1) * 2 + 1 - [Value.int .i64 r.1, Value.int .i64 r.2].length = k * 2 + 1 := by simp; omega
        rw [this]; simpa using (ih k (by simpa using h)).2
theorem okR_take {l : List (Int × Int)} (k : Nat) (h : okR (l.take k) = false) : okR l = false := by
  rw [← Bool.not_eq_true] at h ⊢
  intro hl
  apply h
  unfold okR at hl ⊢
  rw [List.all_eq_true] at hl ⊢
  exact fun r hr => hl r (List.mem_of_mem_take hr)

/-- What becomes of ranges. -/
def SetOfPost (rs : List (Int × Int)) (w : World) (e : Ending) (w' : World) : Prop :=
  (∃ (f : Nat → Nat) (b : Bool), okR rs = b ∧ (b = true → Bv (unS rs) f) ∧ e = .returned (.tuple #[.agg #[.int .u64 (f 0), .int .u64 (f 1), .int .u64 (f 2), .int .u64 (f 3)], .bool b])) ∧ Keeps (fun _ => False) w w'

theorem row_fm {w : World} {base : Nat} {e : TypeId} {size n cap : Nat} {ao : Option Addr} {xs : List Value} (h : w.ownsRow base e size (.slice ao n cap) n xs) (hn : 0 < n) : ∃ g, ao = some ⟨g, 0, none⟩ := by
  obtain ⟨_, ⟨_, h0⟩ | ⟨g, cap', cur, h1, _⟩⟩ := h
  · omega
  · simp only [Value.slice.injEq] at h1
    exact ⟨g, h1.1⟩
theorem take_one {α : Type} (l : List α) (k : Nat) (h : k < l.length) : l.take (k + 1) = l.take k ++ [l[k]] := by
  rw [List.take_add_one, List.getElem?_eq_getElem h]; rfl

theorem sb_puts {w : World} {P : Nat} {f : Nat → Nat} (h : Sb w P f) (f' : Nat → Nat) : Sb ((((w.setCell ⟨P, 0, none⟩ (.int .u64 (f' 0))).setCell ⟨P, 1, none⟩ (.int .u64 (f' 1))).setCell ⟨P, 2, none⟩ (.int .u64 (f' 2))).setCell ⟨P, 3, none⟩ (.int .u64 (f' 3))) P f' := by
  have h1 := h.set (q := 0) (by omega) (f' 0) (f' := fun i => if i = 0 then f' 0 else f i) (by intro i _; rfl)
  have h2 := h1.set (q := 1) (by omega) (f' 1) (f' := fun i => if i = 1 then f' 1 else if i = 0 then f' 0 else f i) (by intro i _; rfl)
  have h3 := h2.set (q := 2) (by omega) (f' 2) (f' := fun i => if i = 2 then f' 2 else if i = 1 then f' 1 else if i = 0 then f' 0 else f i) (by intro i _; rfl)
  exact h3.set (q := 3) (by omega) (f' 3) (f' := f') (by intro i hi; rcases (show i = 0 ∨ i = 1 ∨ i = 2 ∨ i = 3 from by omega) with e | e | e | e <;> subst e <;> rfl)
theorem keeps_puts (w : World) (P : Nat) {a b c d : Value} : Keeps (fun k => k = P) w ((((w.setCell ⟨P, 0, none⟩ a).setCell ⟨P, 1, none⟩ b).setCell ⟨P, 2, none⟩ c).setCell ⟨P, 3, none⟩ d) :=
  ((((Keeps.refl (fun k => k = P) w).setCell (fun _ => rfl) _).setCell (fun _ => rfl) _).setCell (fun _ => rfl) _).setCell (fun _ => rfl) _


set_option maxHeartbeats 1000000 in
set_option maxRecDepth 100000 in
theorem setOf_any {w : World} {v : Value} {rs : List (Int × Int)} (h : w.ownsRow 0 158 2 v rs.length (flatR rs)) (hn : rs.length ≤ 10000000) :
    Calls Tryz.prog 146 #[v] w (SetOfPost rs w) := by
  obtain ⟨ao, cap, rfl⟩ := own_form h
  go_enter Tryz.func146, Tryz.ntmps146
  go_wp2
  go_loopw [9] (fun i wr => ∃ (k : Nat) (f : Nat → Nat), k ≤ rs.length ∧ i = .int .i64 k ∧ Sb wr (w.heap.size + 1) f ∧ Bv (unS (rs.take k)) f ∧ okR (rs.take k) = true ∧ Sb wr w.heap.size (fun _ => 0) ∧ Keeps (fun _ => False) w wr) (fun i _ => rs.length - (intOf i).toNat)
  case atStart => exact ⟨0, fun _ => 0, Nat.zero_le _, rfl, box2 _ _ _, ⟨fun _ => by decide, fun x _ => by simp [unS]⟩, by simp [okR], box1 _ _ _, ((Keeps.refl _ _).alloc _).alloc _⟩
  case round =>
    obtain ⟨k, f, hk, rfl, hs, hB, hok, hZ, hkp⟩ := hrel
    have hhk := hkp.size
    by_cases hlt : k < rs.length
    · have hrow := ownsRow_keeps h hkp (fun _ _ h => h)
      obtain ⟨g, rfl⟩ := row_fm h (by omega)
      obtain ⟨e1, e2⟩ := flatR_get rs k hlt
      have c1 : wr.cell? ⟨g, k * 2, none⟩ = some (.int .i64 rs[k].1) := by rw [hrow.cellAt _ (by omega)]; exact e1
      have c2 : wr.cell? ⟨g, k * 2 + 1, none⟩ = some (.int .i64 rs[k].2) := by rw [hrow.cellAt _ (by omega)]; exact e2
      have hkz : (k : Int) < (rs.length : Int) := by omega
      have ht := take_one rs k hlt
      clear e1 e2
      generalize rs[k] = r at c1 c2 ht
      obtain ⟨lo, hi⟩ := r
      simp only at c1 c2
      have HT : Hid (rs.take (k + 1) = rs.take k ++ [(lo, hi)]) := ht
      clear ht
      have kA : Keeps (fun _ => False) wr (wr.alloc (.cells #[.int .i64 lo, .int .i64 hi] 158)) := (Keeps.refl _ _).alloc _
      by_cases hb : 0 ≤ lo ∧ lo ≤ hi ∧ hi ≤ 255
      · obtain ⟨b1, b2, b3⟩ := hb
        have HO : Hid (okR (rs.take (k + 1)) = true) := (by show _ = _; rw [HT.out, okR_snoc, hok]; simp; omega)
        have u1 : IntKind.u8.wrap lo = lo := IntWalk.u8_in _ (by omega)
        have u2 : IntKind.u8.wrap hi = hi := IntWalk.u8_in _ (by omega)
        go_wp2
        have hbx : (wr.alloc (.cells #[.int .i64 lo, .int .i64 hi] 158)).heap[wr.heap.size]? = some (.cells #[.int .i64 lo, .int .i64 hi] 158 (0, 0)) := heap_alloc_new wr _
        replace hs := hs.keeps kA (fun h => h)
        replace hZ := hZ.keeps kA (fun h => h)
        replace hkp := hkp.trans kA
        generalize wr.alloc (.cells #[.int .i64 lo, .int .i64 hi] 158) = w2 at hbx hs hZ hkp ⊢
        generalize wr.heap.size = P at hbx ⊢
        have r0 : w2.cell? ⟨P, 0, none⟩ = some (.int .i64 lo) := by rw [cell_of hbx]; rfl
        have r1 : w2.cell? ⟨P, 1, none⟩ = some (.int .i64 hi) := by rw [cell_of hbx]; rfl
        have d0 := hs.cell (q := 0) (by omega)
        have d1 := hs.cell (q := 1) (by omega)
        have d2 := hs.cell (q := 2) (by omega)
        have d3 := hs.cell (q := 3) (by omega)
        go_region_with (first
          | (go_at_call 188; refine (span_int lo hi (by omega) (by omega) (by omega) (by omega)).mono ?_; rintro e w3 ⟨f3, hf3, rfl, hk3⟩; replace hk3 := hkd hk3; replace hkp := hkp.trans hk3; replace hs := hs.keeps hk3 (fun h => h); replace hZ := hZ.keeps hk3 (fun h => h); have g0 := hs.cell (q := 0) (by omega); have g1 := hs.cell (q := 1) (by omega); have g2 := hs.cell (q := 2) (by omega); have g3 := hs.cell (q := 3) (by omega))
          | (go_at_call 187; refine (with_ex hB hf3).mono ?_; rintro e w4 ⟨f4, hf4, rfl, hk4⟩; replace hkp := hkp.trans hk4; replace hs := hs.keeps hk4 (fun h => h); replace hZ := hZ.keeps hk4 (fun h => h); have e0 := hs.cell (q := 0) (by omega); have e1 := hs.cell (q := 1) (by omega); have e2 := hs.cell (q := 2) (by omega); have e3 := hs.cell (q := 3) (by omega); have ef := hs.fz))
        all_goals go_wp2
        all_goals go_roundw
        all_goals (first
          | exact ⟨k + 1, f4, by omega, by go_num, sb_puts hs f4, bv_congr hf4 (fun x hx => by rw [HT.out, unS_snoc, ← rng_int _ _ _ b1 (by omega)]; rfl), HO.out, hZ.keeps (keeps_puts w4 (w.heap.size + 1)) (by omega), hkp.trans' (keeps_puts w4 (w.heap.size + 1)) (fun i hi h => by omega)⟩
          | (simp [intOf]; omega))
      · have HO : Hid (okR rs = false) := (by
          show _ = _
          refine okR_take (k + 1) ?_
          rw [HT.out, okR_snoc, hok, Bool.true_and]
          rw [← Bool.not_eq_true]
          simp only [Bool.and_eq_true, decide_eq_true_eq]
          omega)
        rcases (show lo < 0 ∨ (0 ≤ lo ∧ hi < lo) ∨ (0 ≤ lo ∧ lo ≤ hi ∧ 255 < hi) from by omega) with hc | ⟨hc, hd⟩ | ⟨hc, hd, he⟩ <;>
        · have hZ2 := hZ.keeps kA (fun h => h)
          have hK2 := hkp.trans kA
          go_upto_region 6 with fail
          generalize wr.alloc (.cells #[.int .i64 lo, .int .i64 hi] 158) = w2 at hZ2 hK2 ⊢
          have e0 := hZ2.cell (q := 0) (by omega)
          have e1 := hZ2.cell (q := 1) (by omega)
          have e2 := hZ2.cell (q := 2) (by omega)
          have e3 := hZ2.cell (q := 3) (by omega)
          have ef := hZ2.fz
          go_wp2
          refine bodyPost_ret (v := .tuple #[.agg #[.int .u64 0, .int .u64 0, .int .u64 0, .int .u64 0], .bool false]) (by simp [results, Tryz.results146, go_sem, e0, e1, e2, e3]) rfl ?_
          exact ⟨⟨fun _ => 0, false, HO.out, fun h => by simp at h, rfl⟩, hK2.trans' (keeps_puts w2 w.heap.size) (fun i hi h => by omega)⟩
    · obtain rfl : k = rs.length := by omega
      rw [List.take_length] at hB hok
      have d0 := hs.cell (q := 0) (by omega)
      have d1 := hs.cell (q := 1) (by omega)
      have d2 := hs.cell (q := 2) (by omega)
      have d3 := hs.cell (q := 3) (by omega)
      have e0 := hZ.cell (q := 0) (by omega)
      have e1 := hZ.cell (q := 1) (by omega)
      have e2 := hZ.cell (q := 2) (by omega)
      have e3 := hZ.cell (q := 3) (by omega)
      have ef := hZ.fz
      go_wp2
      refine bodyPost_ret (v := .tuple #[.agg #[.int .u64 (f 0), .int .u64 (f 1), .int .u64 (f 2), .int .u64 (f 3)], .bool true]) (by simp [results, Tryz.results146, go_sem, e0, e1, e2, e3]) rfl ?_
      exact ⟨⟨f, true, hok, fun _ => hB, rfl⟩, hkp.trans' (keeps_puts wr w.heap.size) (fun i hi h => by omega)⟩

end Go.Proofs.YtmlgmhnplicflaaGreatDoor

/-
  The program's nodes out of pieces: one piece, its kids given.
-/
namespace Go.Proofs.YtmlgmhnplicflaaGreatDoor
open Go.RowKit
set_option linter.unusedVariables false

/-- A piece in a variable. -/
def Pv (w : World) (P : Nat) (c : Pc) (sv kv : Value) : Prop := w.heap[P]? = some (.cells #[.int .i64 c.kind, sv, .int .i64 c.min, .int .i64 c.max, .bool c.lazy, .int .i64 c.num, kv] 142 (0, 0))
namespace Pv
variable {w w' : World} {P : Nat} {c : Pc} {sv kv : Value}
theorem keeps {E : Nat → Prop} (h : Pv w P c sv kv) (k : Keeps E w w') (hE : ¬ E P) : Pv w' P c sv kv := by
  unfold Pv at h ⊢; rw [k.block P (lt_of_block h) hE]; exact h
theorem c0 (h : Pv w P c sv kv) : w.cell? ⟨P, 0, none⟩ = some (.int .i64 c.kind) := by rw [cell_of h]; rfl
theorem c1 (h : Pv w P c sv kv) : w.cell? ⟨P, 1, none⟩ = some sv := by rw [cell_of h]; rfl
theorem c2 (h : Pv w P c sv kv) : w.cell? ⟨P, 2, none⟩ = some (.int .i64 c.min) := by rw [cell_of h]; rfl
theorem c3 (h : Pv w P c sv kv) : w.cell? ⟨P, 3, none⟩ = some (.int .i64 c.max) := by rw [cell_of h]; rfl
theorem c4 (h : Pv w P c sv kv) : w.cell? ⟨P, 4, none⟩ = some (.bool c.lazy) := by rw [cell_of h]; rfl
theorem c5 (h : Pv w P c sv kv) : w.cell? ⟨P, 5, none⟩ = some (.int .i64 c.num) := by rw [cell_of h]; rfl
theorem c6 (h : Pv w P c sv kv) : w.cell? ⟨P, 6, none⟩ = some kv := by rw [cell_of h]; rfl
end Pv

/-- What becomes of a piece. -/
def NodePostW (r : Option Tx) (D : Nat → Prop) (w : World) (e : Ending) (w' : World) : Prop :=
  ∃ v, e = .returned v ∧ (match r with | none => v = .nilIface | some t => Wd w' D v t) ∧ Keeps (fun _ => False) w w'
theorem nodePostW_none {r : Option Tx} {D : Nat → Prop} {w w' : World} (hr : r = none) (hk : Keeps (fun _ => False) w w') : NodePostW r D w (.returned .nilIface) w' := by
  subst hr; exact ⟨_, rfl, rfl, hk⟩
theorem nodePostW_some {r : Option Tx} {t : Tx} {D : Nat → Prop} {w w' : World} {v : Value} (hr : r = some t) (hv : Wd w' D v t) (hk : Keeps (fun _ => False) w w') : NodePostW r D w (.returned v) w' := by
  subst hr; exact ⟨_, rfl, hv, hk⟩

set_option maxHeartbeats 2000000 in
set_option maxRecDepth 100000 in
theorem nodeOf_any {w : World} {p : Pc} {sv kv kids : Value} {vs : List Value} {ts : List Tx} {D : Nat → Prop} (hO : Owned w (p, sv, kv)) (h1 : B64 p.min) (h2 : B64 p.max) (hset : p.set.length ≤ 10000000)
    (hk : w.ownsRow 0 94 1 kids vs.length vs) (hD : ∀ k, kids.ownBlock = some k → D k) (hl : ts.length = vs.length) (hn : vs.length ≤ 1000) (hV : ∀ (i : Nat) (x : Value) (t : Tx), vs[i]? = some x → ts[i]? = some t → Wd w D x t) :
    Calls Tryz.prog 113 #[.agg #[.int .i64 p.kind, sv, .int .i64 p.min, .int .i64 p.max, .bool p.lazy, .int .i64 p.num, kv], kids] w (NodePostW (nodeTxt p ts) D w) := by
  have hA := hO.1
  have hB := hO.2
  simp only at hA hB
  obtain ⟨ao1, cp1, rfl⟩ := own_form hA
  obtain ⟨ao2, cp2, rfl⟩ := own_form hB
  obtain ⟨ao3, cp3, rfl⟩ := own_form hk
  have kA : ∀ o, Keeps (fun _ => False) w (w.alloc o) := fun o => (Keeps.refl _ _).alloc _
  have hV2 : ∀ o, ∀ (i : Nat) (x : Value) (t : Tx), vs[i]? = some x → ts[i]? = some t → Wd (w.alloc o) D x t := fun o i x t hx ht => (hV i x t hx ht).same (kA o)
  have hk2 : ∀ o, (w.alloc o).ownsRow 0 94 1 (.slice ao3 vs.length cp3) vs.length vs := fun o => hk.alloc o
  have HL : Hid (ts.length = vs.length) := hl
  clear hl
  obtain ⟨kind, set, mn, mx, lz, num, kd⟩ := p
  simp only at h1 h2 hset hA hB ⊢
  rcases (show kind = 1 ∨ kind = 2 ∨ kind = 3 ∨ kind = 4 ∨ kind = 5 ∨ kind = 6 ∨ kind = 7 ∨ ¬ (1 ≤ kind ∧ kind ≤ 7) from by omega) with h | h | h | h | h | h | h | h
  · subst h
    go_enter Tryz.func113, Tryz.ntmps113
    cases hok : okR set with
    | false =>
      have HO : Hid (okR set = false) := hok
      clear hok
      go_wp2_with (first
        | (go_at_call 146; refine (setOf_any (hA.alloc _) hset).mono ?_; rintro e w2 ⟨⟨f, b, hb, hf, rfl⟩, hk3⟩; rw [HO.out] at hb; subst hb))
      go_ret
      exact nodePostW_none (by have := HO.out; simp [nodeTxt, this]) (((kA _).trans hk3).alloc _)
    | true =>
      have HO : Hid (okR set = true) := hok
      clear hok
      go_wp2_with (first
        | (go_at_call 146; refine (setOf_any (hA.alloc _) hset).mono ?_; rintro e w2 ⟨⟨f, b, hb, hf, rfl⟩, hk3⟩; rw [HO.out] at hb; subst hb; replace hf := hf rfl))
      go_ret
      exact nodePostW_some (by have := HO.out; simp [nodeTxt, this]) (Wd.cl.set _ f hf) (((kA _).trans hk3).alloc _)
  · subst h
    go_enter Tryz.func113, Tryz.ntmps113
    go_wp2
    go_ret
    exact nodePostW_some (by simp [nodeTxt]) (Wd.cl.seq _ vs ts (hk2 _) hD HL.out hn (hV2 _)) (kA _)
  · subst h
    go_enter Tryz.func113, Tryz.ntmps113
    go_wp2
    go_ret
    exact nodePostW_some (by simp [nodeTxt]) (Wd.cl.alt _ vs ts (hk2 _) hD HL.out hn (hV2 _)) (kA _)
  · subst h
    by_cases hone : vs.length = 1
    · obtain ⟨v, rfl⟩ := List.length_eq_one_iff.1 hone
      obtain ⟨t, rfl⟩ := List.length_eq_one_iff.1 (HL.out.trans hone)
      have hv := hV 0 v t rfl rfl
      obtain ⟨ty, y, rfl⟩ := hv.iface
      obtain ⟨g, rfl⟩ := row_fm hk (by simp)
      have cv : ∀ o, (w.alloc o).cell? ⟨g, 0, none⟩ = some (.iface ty y) := fun o => by rw [(hk.alloc o).cellAt 0 (by simp)]; rfl
      have hv2 := fun o => hv.same (kA o)
      clear hone hV2 hk2 hV
      go_enter Tryz.func113, Tryz.ntmps113
      go_wp2
      go_region
      all_goals go_wp2
      all_goals go_ret
      all_goals exact nodePostW_some (by simp [nodeTxt]) (Wd.cl.rep _ t mn mx lz h1 h2 ((hv2 _).same ((Keeps.refl _ _).drew))) ((kA _).drew)
    · have hne : ¬ (vs.length : Int) = 1 := by omega
      have hneb : ((vs.length : Int) == 1) = false := by simpa using hne
      have HN : Hid (ts.length ≠ 1) := (by show _ ≠ _; rw [HL.out]; exact hone)
      clear hone
      go_enter Tryz.func113, Tryz.ntmps113
      go_wp2
      go_ret
      refine nodePostW_none ?_ (kA _)
      have := HN.out
      match ts, this with
      | [], _ => simp [nodeTxt]
      | [t], h => exact absurd rfl h
      | _ :: _ :: _, _ => simp [nodeTxt]
  · subst h
    by_cases hone : vs.length = 1
    · obtain ⟨v, rfl⟩ := List.length_eq_one_iff.1 hone
      obtain ⟨t, rfl⟩ := List.length_eq_one_iff.1 (HL.out.trans hone)
      have hv := hV 0 v t rfl rfl
      obtain ⟨ty, y, rfl⟩ := hv.iface
      obtain ⟨g, rfl⟩ := row_fm hk (by simp)
      have cv : ∀ o, (w.alloc o).cell? ⟨g, 0, none⟩ = some (.iface ty y) := fun o => by rw [(hk.alloc o).cellAt 0 (by simp)]; rfl
      have hv2 := fun o => hv.same (kA o)
      clear hone hV2 hk2 hV
      go_enter Tryz.func113, Tryz.ntmps113
      go_wp2
      go_region
      all_goals go_wp2
      all_goals go_ret
      all_goals exact nodePostW_some (by simp [nodeTxt]) (Wd.cl.grp _ t num ((hv2 _).same ((Keeps.refl _ _).drew))) ((kA _).drew)
    · have hne : ¬ (vs.length : Int) = 1 := by omega
      have hneb : ((vs.length : Int) == 1) = false := by simpa using hne
      have HN : Hid (ts.length ≠ 1) := (by show _ ≠ _; rw [HL.out]; exact hone)
      clear hone
      go_enter Tryz.func113, Tryz.ntmps113
      go_wp2
      go_ret
      refine nodePostW_none ?_ (kA _)
      have := HN.out
      match ts, this with
      | [], _ => simp [nodeTxt]
      | [t], h => exact absurd rfl h
      | _ :: _ :: _, _ => simp [nodeTxt]
  · subst h
    go_enter Tryz.func113, Tryz.ntmps113
    go_wp2
    go_ret
    exact nodePostW_some (by simp [nodeTxt]) Wd.cl.start (kA _)
  · subst h
    go_enter Tryz.func113, Tryz.ntmps113
    go_wp2
    go_ret
    exact nodePostW_some (by simp [nodeTxt]) Wd.cl.fin (kA _)
  · have n1 : (kind == 1) = false := by simp; omega
    have n2 : (kind == 2) = false := by simp; omega
    have n3 : (kind == 3) = false := by simp; omega
    have n4 : (kind == 4) = false := by simp; omega
    have n5 : (kind == 5) = false := by simp; omega
    have n6 : (kind == 6) = false := by simp; omega
    have n7 : (kind == 7) = false := by simp; omega
    go_enter Tryz.func113, Tryz.ntmps113
    go_wp2
    go_ret
    refine nodePostW_none ?_ (kA _)
    simp only [nodeTxt]
    rw [if_neg (by omega), if_neg (by omega), if_neg (by omega), if_neg (by omega), if_neg (by omega), if_neg (by omega), if_neg (by omega)]

end Go.Proofs.YtmlgmhnplicflaaGreatDoor
