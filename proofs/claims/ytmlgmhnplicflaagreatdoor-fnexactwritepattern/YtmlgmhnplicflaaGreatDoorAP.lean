import Derived.Test.YtmlgmhnplicflaaGreatDoorAN

/-
  Copies of pieces.
-/
namespace Go.Proofs.YtmlgmhnplicflaaGreatDoor
open Go.RowKit
set_option linter.unusedVariables false

/-- A piece of one's own, as a value. -/
def ToP (c : Pc) (w : World) (e : Ending) (w' : World) : Prop := ∃ sv kv, e = .returned (szVal (c, sv, kv)) ∧ Owned w' (c, sv, kv) ∧ Keeps (fun _ => False) w w'

theorem five {w2 : World} {U : Nat} {t : TypeId} {a b c d e f g : Value} (h : w2.heap[U]? = some (.cells #[a, b, c, d, e, f, g] t (0, 0))) (b' c' d' e' f' : Value) :
    (((((w2.setCell ⟨U, 1, none⟩ b').setCell ⟨U, 2, none⟩ c').setCell ⟨U, 3, none⟩ d').setCell ⟨U, 4, none⟩ e').setCell ⟨U, 5, none⟩ f').heap[U]? = some (.cells #[a, b', c', d', e', f', g] t (0, 0)) ∧
    Keeps (fun j => j = U) w2 (((((w2.setCell ⟨U, 1, none⟩ b').setCell ⟨U, 2, none⟩ c').setCell ⟨U, 3, none⟩ d').setCell ⟨U, 4, none⟩ e').setCell ⟨U, 5, none⟩ f') := by
  refine ⟨?_, ?_⟩
  · exact heap_setCell_same _ U 5 _ t f' (heap_setCell_same _ U 4 _ t e' (heap_setCell_same _ U 3 _ t d' (heap_setCell_same _ U 2 _ t c' (heap_setCell_same _ U 1 _ t b' h))))
  · exact ((((keepsP w2 U 1 b').trans (keepsP _ U 2 c')).trans (keepsP _ U 3 d')).trans (keepsP _ U 4 e')).trans (keepsP _ U 5 f')
theorem eight {w4 : World} {U Q : Nat} (x a b c d e f g : Value) :
    Keeps (fun j => j = U ∨ j = Q) w4 ((((((((w4.setCell ⟨U, 6, none⟩ x).setCell ⟨Q, 0, none⟩ a).setCell ⟨Q, 1, none⟩ b).setCell ⟨Q, 2, none⟩ c).setCell ⟨Q, 3, none⟩ d).setCell ⟨Q, 4, none⟩ e).setCell ⟨Q, 5, none⟩ f).setCell ⟨Q, 6, none⟩ g) := by
  have h1 := (keepsP w4 U 6 x).mono (E' := fun j => j = U ∨ j = Q) (fun k _ h => Or.inl h)
  have h2 := fun (w : World) (i : Nat) (y : Value) => (keepsP w Q i y).mono (E' := fun j => j = U ∨ j = Q) (fun k _ h => Or.inr h)
  exact ((((((h1.trans (h2 _ 0 a)).trans (h2 _ 1 b)).trans (h2 _ 2 c)).trans (h2 _ 3 d)).trans (h2 _ 4 e)).trans (h2 _ 5 f)).trans (h2 _ 6 g)
theorem eightQ {w4 : World} {U Q : Nat} {t : TypeId} {z0 z1 z2 z3 z4 z5 z6 : Value} (h : w4.heap[Q]? = some (.cells #[z0, z1, z2, z3, z4, z5, z6] t (0, 0))) (hne : Q ≠ U) (x a b c d e f g : Value) :
    ((((((((w4.setCell ⟨U, 6, none⟩ x).setCell ⟨Q, 0, none⟩ a).setCell ⟨Q, 1, none⟩ b).setCell ⟨Q, 2, none⟩ c).setCell ⟨Q, 3, none⟩ d).setCell ⟨Q, 4, none⟩ e).setCell ⟨Q, 5, none⟩ f).setCell ⟨Q, 6, none⟩ g).heap[Q]? = some (.cells #[a, b, c, d, e, f, g] t (0, 0)) := by
  have h0 : (w4.setCell ⟨U, 6, none⟩ x).heap[Q]? = some (.cells #[z0, z1, z2, z3, z4, z5, z6] t (0, 0)) := by
    rw [Below.heap_setCell _ _ _ _ hne]; exact h
  have k0 : ((w4.setCell ⟨U, 6, none⟩ x).setCell ⟨Q, 0, none⟩ a).heap[Q]? = some (.cells #[a, z1, z2, z3, z4, z5, z6] t (0, 0)) := heap_setCell_same _ Q 0 _ t a h0
  have k1 : (((w4.setCell ⟨U, 6, none⟩ x).setCell ⟨Q, 0, none⟩ a).setCell ⟨Q, 1, none⟩ b).heap[Q]? = some (.cells #[a, b, z2, z3, z4, z5, z6] t (0, 0)) := heap_setCell_same _ Q 1 _ t b k0
  have k2 : ((((w4.setCell ⟨U, 6, none⟩ x).setCell ⟨Q, 0, none⟩ a).setCell ⟨Q, 1, none⟩ b).setCell ⟨Q, 2, none⟩ c).heap[Q]? = some (.cells #[a, b, c, z3, z4, z5, z6] t (0, 0)) := heap_setCell_same _ Q 2 _ t c k1
  have k3 : (((((w4.setCell ⟨U, 6, none⟩ x).setCell ⟨Q, 0, none⟩ a).setCell ⟨Q, 1, none⟩ b).setCell ⟨Q, 2, none⟩ c).setCell ⟨Q, 3, none⟩ d).heap[Q]? = some (.cells #[a, b, c, d, z4, z5, z6] t (0, 0)) := heap_setCell_same _ Q 3 _ t d k2
  have k4 : ((((((w4.setCell ⟨U, 6, none⟩ x).setCell ⟨Q, 0, none⟩ a).setCell ⟨Q, 1, none⟩ b).setCell ⟨Q, 2, none⟩ c).setCell ⟨Q, 3, none⟩ d).setCell ⟨Q, 4, none⟩ e).heap[Q]? = some (.cells #[a, b, c, d, e, z5, z6] t (0, 0)) := heap_setCell_same _ Q 4 _ t e k3
  have k5 : (((((((w4.setCell ⟨U, 6, none⟩ x).setCell ⟨Q, 0, none⟩ a).setCell ⟨Q, 1, none⟩ b).setCell ⟨Q, 2, none⟩ c).setCell ⟨Q, 3, none⟩ d).setCell ⟨Q, 4, none⟩ e).setCell ⟨Q, 5, none⟩ f).heap[Q]? = some (.cells #[a, b, c, d, e, f, z6] t (0, 0)) := heap_setCell_same _ Q 5 _ t f k4
  have k6 : ((((((((w4.setCell ⟨U, 6, none⟩ x).setCell ⟨Q, 0, none⟩ a).setCell ⟨Q, 1, none⟩ b).setCell ⟨Q, 2, none⟩ c).setCell ⟨Q, 3, none⟩ d).setCell ⟨Q, 4, none⟩ e).setCell ⟨Q, 5, none⟩ f).setCell ⟨Q, 6, none⟩ g).heap[Q]? = some (.cells #[a, b, c, d, e, f, g] t (0, 0)) := heap_setCell_same _ Q 6 _ t g k5
  exact k6
theorem blkE {w w' : World} {E : Nat → Prop} {b : Nat} {o : Obj} (h : w.heap[b]? = some o) (k : Keeps E w w') (he : ¬ E b) : w'.heap[b]? = some o := by
  rw [k.block b (lt_of_block h) he]; exact h

set_option maxHeartbeats 1000000 in
set_option maxRecDepth 100000 in
theorem toPiece_any {w : World} {x : Pm} (hx : Gp w x) (h1 : x.1.set.length ≤ 1048576) (h2 : x.1.kids.length ≤ 1048576) :
    Calls Tryz.prog 90 #[szVal x] w (ToP x.1 w) := by
  obtain ⟨⟨ao, cap, e1, hr1⟩, ⟨ao2, cap2, e2, hr2⟩, _, _, _, _⟩ := hx
  obtain ⟨c, s1, k1⟩ := x
  simp only at e1 e2 h1 h2 hr1 hr2
  subst e1 e2
  obtain ⟨ck, cset, cm, cx, cl, cn, ckd⟩ := c
  simp only [szVal] at *
  have kA : ∀ o1 o2 o3, Keeps (fun _ => False) w (((w.alloc o1).alloc o2).alloc o3) := fun o1 o2 o3 => (((Keeps.refl _ _).alloc _).alloc _).alloc _
  have hA : ∀ cs o2 o3, (((w.alloc (.cells cs 184)).alloc o2).alloc o3).heap[w.heap.size]? = some (.cells cs 184 (0, 0)) := fun cs o2 o3 => by
    rw [Below.heap_alloc _ _ _ (by simp; omega), Below.heap_alloc _ _ _ (by simp)]; exact heap_alloc_new _ _
  have hQ : ∀ o1 cs o3, (((w.alloc o1).alloc (.cells cs 142)).alloc o3).heap[w.heap.size + 1]? = some (.cells cs 142 (0, 0)) := fun o1 cs o3 => by
    rw [Below.heap_alloc _ _ _ (by simp)]
    have := heap_alloc_new (w.alloc o1) (.cells cs 142)
    simpa using this
  have hU : ∀ o1 o2 cs, (((w.alloc o1).alloc o2).alloc (.cells cs 142)).heap[w.heap.size + 1 + 1]? = some (.cells cs 142 (0, 0)) := fun o1 o2 cs => by
    have := heap_alloc_new ((w.alloc o1).alloc o2) (.cells cs 142)
    simpa using this
  go_enter Tryz.func90, Tryz.ntmps90
  go_wp2_with (first
    | (go_at_call 123; refine (toRangeS_any (hr1.keeps (kA _ _ _)) h1).mono ?_; rintro e w2 ⟨sv, rfl, hO, hk2⟩; obtain ⟨asv, csv, rfl⟩ := own_form hO; have hA2 := blkK (hA _ _ _) hk2; have hQ2 := blkK (hQ _ _ _) hk2; have hU2 := blkK (hU _ _ _) hk2; have hK := (kA _ _ _).trans hk2
       have a2 : w2.cell? ⟨w.heap.size, 2, none⟩ = some (.int .i64 cm) := (by rw [cell_of hA2]; rfl)
       have a3 : w2.cell? ⟨w.heap.size, 3, none⟩ = some (.int .i64 cx) := (by rw [cell_of hA2]; rfl)
       have a4 : w2.cell? ⟨w.heap.size, 4, none⟩ = some (.bool cl) := (by rw [cell_of hA2]; rfl)
       have a5 : w2.cell? ⟨w.heap.size, 5, none⟩ = some (.int .i64 cn) := (by rw [cell_of hA2]; rfl)
       have a6 : w2.cell? ⟨w.heap.size, 6, none⟩ = some (.slice ao2 ckd.length cap2) := (by rw [cell_of hA2]; rfl)
       have u1 : w2.cell? ⟨w.heap.size + 1 + 1, 1, none⟩ = some (.slice none 0 0) := (by rw [cell_of hU2]; rfl)
       have u2 : w2.cell? ⟨w.heap.size + 1 + 1, 2, none⟩ = some (.int .i64 0) := (by rw [cell_of hU2]; rfl)
       have u3 : w2.cell? ⟨w.heap.size + 1 + 1, 3, none⟩ = some (.int .i64 0) := (by rw [cell_of hU2]; rfl)
       have u4 : w2.cell? ⟨w.heap.size + 1 + 1, 4, none⟩ = some (.bool false) := (by rw [cell_of hU2]; rfl)
       have u5 : w2.cell? ⟨w.heap.size + 1 + 1, 5, none⟩ = some (.int .i64 0) := (by rw [cell_of hU2]; rfl)
       have uf := fun i => free_of (i := i) hU2
       have h5 := five hU2 (.slice asv cset.length csv) (.int .i64 cm) (.int .i64 cx) (.bool cl) (.int .i64 cn)
       have hKc := hK.trans' h5.2 (fun i hi e => by omega)
       have hQ3 := blkE hQ2 h5.2 (by omega)
       have hO3 := ownsRow_keeps hO h5.2 (fun k hk e => own_not_at hO hU2 (by decide) (e ▸ hk))
       have hcall2 := toIntS_any (cap := cap2) (hr2.keeps hKc) h2)
    | (go_at_call 124; refine hcall2.mono ?_; rintro e w4 ⟨kv, rfl, hO4, hk4⟩; obtain ⟨akv, ckv, rfl⟩ := own_form hO4
       have hU4 := blkK h5.1 hk4
       have hQ4 := blkK hQ3 hk4
       have hO5 := ownsRow_keeps hO3 hk4 (fun _ _ h => h)
       have hK4 := hKc.trans hk4
       have v0 : w4.cell? ⟨w.heap.size + 1 + 1, 0, none⟩ = some (.int .i64 ck) := (by rw [cell_of hU4]; rfl)
       have v1 : w4.cell? ⟨w.heap.size + 1 + 1, 1, none⟩ = some (.slice asv cset.length csv) := (by rw [cell_of hU4]; rfl)
       have v2 : w4.cell? ⟨w.heap.size + 1 + 1, 2, none⟩ = some (.int .i64 cm) := (by rw [cell_of hU4]; rfl)
       have v3 : w4.cell? ⟨w.heap.size + 1 + 1, 3, none⟩ = some (.int .i64 cx) := (by rw [cell_of hU4]; rfl)
       have v4 : w4.cell? ⟨w.heap.size + 1 + 1, 4, none⟩ = some (.bool cl) := (by rw [cell_of hU4]; rfl)
       have v5 : w4.cell? ⟨w.heap.size + 1 + 1, 5, none⟩ = some (.int .i64 cn) := (by rw [cell_of hU4]; rfl)
       have v6 : w4.cell? ⟨w.heap.size + 1 + 1, 6, none⟩ = some (.slice none 0 0) := (by rw [cell_of hU4]; rfl)
       have q0 : w4.cell? ⟨w.heap.size + 1, 0, none⟩ = some (.int .i64 0) := (by rw [cell_of hQ4]; rfl)
       have q1 : w4.cell? ⟨w.heap.size + 1, 1, none⟩ = some (.slice none 0 0) := (by rw [cell_of hQ4]; rfl)
       have q2 : w4.cell? ⟨w.heap.size + 1, 2, none⟩ = some (.int .i64 0) := (by rw [cell_of hQ4]; rfl)
       have q3 : w4.cell? ⟨w.heap.size + 1, 3, none⟩ = some (.int .i64 0) := (by rw [cell_of hQ4]; rfl)
       have q4 : w4.cell? ⟨w.heap.size + 1, 4, none⟩ = some (.bool false) := (by rw [cell_of hQ4]; rfl)
       have q5 : w4.cell? ⟨w.heap.size + 1, 5, none⟩ = some (.int .i64 0) := (by rw [cell_of hQ4]; rfl)
       have q6 : w4.cell? ⟨w.heap.size + 1, 6, none⟩ = some (.slice none 0 0) := (by rw [cell_of hQ4]; rfl)
       have vf := fun i => free_of (i := i) hU4
       have qf := fun i => free_of (i := i) hQ4))
  have h8 := eight (w4 := w4) (U := w.heap.size + 1 + 1) (Q := w.heap.size + 1) (.slice akv ckd.length ckv) (.int .i64 ck) (.slice asv cset.length csv) (.int .i64 cm) (.int .i64 cx) (.bool cl) (.int .i64 cn) (.slice akv ckd.length ckv)
  have hQf := eightQ (U := w.heap.size + 1 + 1) hQ4 (by omega) (.slice akv ckd.length ckv) (.int .i64 ck) (.slice asv cset.length csv) (.int .i64 cm) (.int .i64 cx) (.bool cl) (.int .i64 cn) (.slice akv ckd.length ckv)
  generalize (((((((w4.setCell ⟨w.heap.size + 1 + 1, 6, none⟩ (.slice akv ckd.length ckv)).setCell ⟨w.heap.size + 1, 0, none⟩ (.int .i64 ck)).setCell ⟨w.heap.size + 1, 1, none⟩ (.slice asv cset.length csv)).setCell ⟨w.heap.size + 1, 2, none⟩ (.int .i64 cm)).setCell ⟨w.heap.size + 1, 3, none⟩ (.int .i64 cx)).setCell ⟨w.heap.size + 1, 4, none⟩ (.bool cl)).setCell ⟨w.heap.size + 1, 5, none⟩ (.int .i64 cn)).setCell ⟨w.heap.size + 1, 6, none⟩ (.slice akv ckd.length ckv) = wf at h8 hQf ⊢
  have y0 : wf.cell? ⟨w.heap.size + 1, 0, none⟩ = some (.int .i64 ck) := by rw [cell_of hQf]; rfl
  have y1 : wf.cell? ⟨w.heap.size + 1, 1, none⟩ = some (.slice asv cset.length csv) := by rw [cell_of hQf]; rfl
  have y2 : wf.cell? ⟨w.heap.size + 1, 2, none⟩ = some (.int .i64 cm) := by rw [cell_of hQf]; rfl
  have y3 : wf.cell? ⟨w.heap.size + 1, 3, none⟩ = some (.int .i64 cx) := by rw [cell_of hQf]; rfl
  have y4 : wf.cell? ⟨w.heap.size + 1, 4, none⟩ = some (.bool cl) := by rw [cell_of hQf]; rfl
  have y5 : wf.cell? ⟨w.heap.size + 1, 5, none⟩ = some (.int .i64 cn) := by rw [cell_of hQf]; rfl
  have y6 : wf.cell? ⟨w.heap.size + 1, 6, none⟩ = some (.slice akv ckd.length ckv) := by rw [cell_of hQf]; rfl
  refine bodyPost_ret (v := .agg #[.int .i64 ck, .slice asv cset.length csv, .int .i64 cm, .int .i64 cx, .bool cl, .int .i64 cn, .slice akv ckd.length ckv]) (by simp [results, Tryz.results90, go_sem, y0, y1, y2, y3, y4, y5, y6]) rfl ?_
  refine ⟨.slice asv cset.length csv, .slice akv ckd.length ckv, rfl, ⟨ownsRow_keeps hO5 h8 ?_, ownsRow_keeps hO4 h8 ?_⟩, hK4.trans' h8 (fun i hi e => by omega)⟩
  · rintro k hk (e | e)
    · exact own_not_at hO5 hU4 (by decide) (e ▸ hk)
    · exact own_not_at hO5 hQ4 (by decide) (e ▸ hk)
  · rintro k hk (e | e)
    · exact own_not_at hO4 hU4 (by decide) (e ▸ hk)
    · exact own_not_at hO4 hQ4 (by decide) (e ▸ hk)

end Go.Proofs.YtmlgmhnplicflaaGreatDoor

/-
  Copies of patterns.
-/
namespace Go.Proofs.YtmlgmhnplicflaaGreatDoor
open Go.RowKit
set_option linter.unusedVariables false

theorem Tryz.infoPiece2 : (Tryz.prog.info? 142).map (fun i => (i.zero, i.size, i.bytes)) = some (some (.agg #[.int .i64 0, .slice none 0 0, .int .i64 0, .int .i64 0, .bool false, .int .i64 0, .slice none 0 0]), 7, 88) := by kernel_rfl

theorem set_seven (A : List Value) (r0 r1 r2 r3 r4 r5 r6 a b c d e f g : Value) (r : List Value) :
    (((((((A ++ r0 :: r1 :: r2 :: r3 :: r4 :: r5 :: r6 :: r).set A.length a).set (A.length + 1) b).set (A.length + 2) c).set (A.length + 3) d).set (A.length + 4) e).set (A.length + 5) f).set (A.length + 6) g = (A ++ [a, b, c, d, e, f, g]) ++ r := by
  rw [List.set_append_right _ _ (Nat.le_refl _), List.set_append_right _ _ (by omega), List.set_append_right _ _ (by omega), List.set_append_right _ _ (by omega), List.set_append_right _ _ (by omega), List.set_append_right _ _ (by omega), List.set_append_right _ _ (by omega)]
  simp only [Nat.sub_self, Nat.add_sub_cancel_left, List.set_cons_zero, List.set_cons_succ]
  simp
theorem long7 {r : List Value} (h : 7 ≤ r.length) : ∃ r0 r1 r2 r3 r4 r5 r6 r', r = r0 :: r1 :: r2 :: r3 :: r4 :: r5 :: r6 :: r' := by
  match r, h with
  | a :: b :: c :: d :: e :: f :: g :: r, _ => exact ⟨a, b, c, d, e, f, g, r, rfl⟩

theorem store7 {w9 : World} {G n : Nat} {A r' : List Value} {r0 r1 r2 r3 r4 r5 r6 : Value} (h : w9.ownsRow 0 142 7 (.slice (some ⟨G, 0, none⟩) n n) n (A ++ r0 :: r1 :: r2 :: r3 :: r4 :: r5 :: r6 :: r')) {o : Nat} (ho : A.length = o) (a b c d e f g : Value) :
    (((((((w9.setCell ⟨G, o, none⟩ a).setCell ⟨G, o + 1, none⟩ b).setCell ⟨G, o + 2, none⟩ c).setCell ⟨G, o + 3, none⟩ d).setCell ⟨G, o + 4, none⟩ e).setCell ⟨G, o + 5, none⟩ f).setCell ⟨G, o + 6, none⟩ g).ownsRow 0 142 7 (.slice (some ⟨G, 0, none⟩) n n) n (A ++ [a, b, c, d, e, f, g] ++ r') ∧
    Keeps (fun j => j = G) w9 (((((((w9.setCell ⟨G, o, none⟩ a).setCell ⟨G, o + 1, none⟩ b).setCell ⟨G, o + 2, none⟩ c).setCell ⟨G, o + 3, none⟩ d).setCell ⟨G, o + 4, none⟩ e).setCell ⟨G, o + 5, none⟩ f).setCell ⟨G, o + 6, none⟩ g) := by
  subst ho
  have h7 := (((((((h.stored A.length a).1.stored (A.length + 1) b).1.stored (A.length + 2) c).1.stored (A.length + 3) d).1.stored (A.length + 4) e).1.stored (A.length + 5) f).1.stored (A.length + 6) g).1
  rw [set_seven] at h7
  exact ⟨h7, ((((((keepsP w9 G _ a).trans (keepsP _ G _ b)).trans (keepsP _ G _ c)).trans (keepsP _ G _ d)).trans (keepsP _ G _ e)).trans (keepsP _ G _ f)).trans (keepsP _ G _ g)⟩

theorem Owned.keepsG {w w' : World} {x : Pm} {G : Nat} {cur : Array Value} (h : Owned w x) (hG : w.heap[G]? = some (.cells cur 142 (0, 0))) (k : Keeps (fun j => j = G) w w') : Owned w' x :=
  ⟨ownsRow_keeps h.1 k (fun j hj e => own_not_at h.1 hG (by decide) (e ▸ hj)), ownsRow_keeps h.2 k (fun j hj e => own_not_at h.2 hG (by decide) (e ▸ hj))⟩
theorem Owned.keeps0 {w w' : World} {x : Pm} (h : Owned w x) (k : Keeps (fun _ => False) w w') : Owned w' x :=
  ⟨ownsRow_keeps h.1 k (fun _ _ h => h), ownsRow_keeps h.2 k (fun _ _ h => h)⟩

def PcsPost (ps : List Pc) (w : World) (e : Ending) (w' : World) : Prop := ∃ v L, e = .returned v ∧ Pcs w' v L ∧ L.map (·.1) = ps ∧ Keeps (fun _ => False) w w'

set_option maxHeartbeats 2000000 in
set_option maxRecDepth 100000 in
theorem toPieceS_any {w : World} {v : Value} {L : List Pm} (hv : Gv w v L) (hn : L.length ≤ 1048576) (hs : ∀ x ∈ L, x.1.set.length ≤ 1048576 ∧ x.1.kids.length ≤ 1048576) :
    Calls Tryz.prog 58 #[v] w (PcsPost (L.map (·.1)) w) := by
  obtain ⟨⟨ao, cap, rfl, hr⟩, he, _⟩ := hv
  obtain ⟨i0, hi, hz0, hz1, hz2⟩ := info_parts Tryz.infoPiece2
  obtain ⟨w1, hmk, hrow, hgrow⟩ := run_make_full (P := Tryz.prog) w 0 31 142 i0 (.agg #[.int .i64 0, .slice none 0 0, .int .i64 0, .int .i64 0, .bool false, .int .i64 0, .slice none 0 0]) 7 Tryz.underlying31 hi hz0 hz1 .i64 .i64 L.length (by rw [hz2]; omega) (by unfold maxLen; omega) (Nat.zero_le _)
  have hk0 : Keeps (fun _ => False) w w1 := (Keeps.refl _ _).grown hgrow (by simp)
  generalize (madeCells (Value.cells (.agg #[.int .i64 0, .slice none 0 0, .int .i64 0, .int .i64 0, .bool false, .int .i64 0, .slice none 0 0])) (L.length * 7)).toList = zs at hrow
  clear hgrow
  go_enter Tryz.func58, Tryz.ntmps58
  go_wp2
  go_loopw [4] (fun ix wq => ∃ (k : Nat) (M : List Pm) (r : List Value), k ≤ L.length ∧ ix = .int .i64 k ∧ Hid (M.map (·.1) = (L.take k).map (·.1)) ∧ wq.ownsRow 0 142 7 (.slice (some ⟨w.heap.size, 0, none⟩) L.length L.length) L.length (M.flatMap cell7 ++ r) ∧ (∀ x ∈ M, Owned wq x) ∧ Keeps (fun _ => False) w wq) (fun ix _ => L.length - (intOf ix).toNat)
  case atStart => exact ⟨0, [], zs, Nat.zero_le _, rfl, rfl, hrow, by simp, hk0⟩
  case round =>
    clear hrow hk0 hmk
    obtain ⟨k, M, r, hk, rfl, HM, hrow, hM, hkp⟩ := hrel
    have hMl : M.length = k := by
      have := congrArg List.length HM.out
      simp at this
      omega
    by_cases hlt : k < L.length
    · have hne : L.flatMap cell7 ≠ [] := by
        intro h
        have := congrArg List.length h
        rw [cell7_len, List.length_nil] at this
        omega
      obtain ⟨b, off, rfl, hc⟩ := (hr.keeps hkp) hne
      have hcc := gc7_of hc (List.getElem?_eq_getElem hlt)
      have hg := (he _ (List.getElem_mem hlt)).keeps hkp
      have hsx := hs _ (List.getElem_mem hlt)
      have hT2 : (L.take (k + 1)).map (·.1) = (L.take k).map (·.1) ++ [L[k].1] := by
        rw [List.take_succ_eq_append_getElem hlt, List.map_append]; rfl
      generalize L[k] = x at hcc hg hT2 hsx
      have hcall := toPiece_any hg hsx.1 hsx.2
      obtain ⟨⟨a1, cp1, q1, _⟩, ⟨a2, cp2, q2, _⟩, _, _, _, _⟩ := hg
      obtain ⟨c, s1, k1⟩ := x
      simp only at q1 q2
      subst q1 q2
      obtain ⟨ck, cset, cm, cx, cl, cn, ckd⟩ := c
      obtain ⟨y0, y1, y2, y3, y4, y5, y6⟩ := hcc
      simp only [szVal] at y0 y1 y2 y3 y4 y5 y6 hcall hT2
      have hkz : (k : Int) < (L.length : Int) := by omega
      have HT2 : Hid ((L.take (k + 1)).map (·.1) = (L.take k).map (·.1) ++ [({ kind := ck, set := cset, min := cm, max := cx, lazy := cl, num := cn, kids := ckd } : Pc)]) := hT2
      have hrl : 7 ≤ r.length := by
        have := hrow.1
        rw [List.length_append, cell7_len] at this
        omega
      obtain ⟨r0, r1, r2, r3, r4, r5, r6, r', rfl⟩ := long7 hrl
      have hAl : (M.flatMap cell7).length = k * 7 := by rw [cell7_len, hMl]
      have HA : Hid ((M.flatMap cell7).length = k * 7) := hAl
      have hcell : ∀ (w9 : World), w9.ownsRow 0 142 7 (.slice (some ⟨w.heap.size, 0, none⟩) L.length L.length) L.length (M.flatMap cell7 ++ r0 :: r1 :: r2 :: r3 :: r4 :: r5 :: r6 :: r') → ∀ j u, (r0 :: r1 :: r2 :: r3 :: r4 :: r5 :: r6 :: r')[j]? = some u → j < 7 → w9.cell? ⟨w.heap.size, k * 7 + j, none⟩ = some u := by
        intro w9 h9 j u hu hj
        rw [h9.cellAt (k * 7 + j) (by omega), List.getElem?_append_right (by omega), hAl, Nat.add_sub_cancel_left]
        exact hu
      have HC : Hid _ := hcell
      have HML : Hid (M.length = k) := hMl
      clear hcell hc hne hT2 hAl hrl hsx hMl
      go_wp2_with (go_at_call 90; refine hcall.mono ?_; rintro e w3 ⟨sv, kv, rfl, hO3, hk3⟩; replace hrow := ownsRow_keeps hrow hk3 (fun _ _ h => h); obtain ⟨asv, csv, e1⟩ := own_form hO3.1; obtain ⟨akv, ckv, e2⟩ := own_form hO3.2; simp only at e1 e2; subst e1 e2; simp only [szVal]; have hf := fun j => hrow.frozenAt j; have x0 : w3.cell? ⟨w.heap.size, k * 7, none⟩ = some r0 := (HC.out _ hrow 0 r0 rfl (by omega)); have x1 := HC.out _ hrow 1 r1 rfl (by omega); have x2 := HC.out _ hrow 2 r2 rfl (by omega); have x3 := HC.out _ hrow 3 r3 rfl (by omega); have x4 := HC.out _ hrow 4 r4 rfl (by omega); have x5 := HC.out _ hrow 5 r5 rfl (by omega); have x6 := HC.out _ hrow 6 r6 rfl (by omega))
      obtain ⟨h7, hk7⟩ := store7 hrow HA.out (.int .i64 ck) (.slice asv cset.length csv) (.int .i64 cm) (.int .i64 cx) (.bool cl) (.int .i64 cn) (.slice akv ckd.length ckv)
      obtain ⟨cur, hG⟩ := own_block hrow rfl
      refine ⟨⟨k + 1, M ++ [({ kind := ck, set := cset, min := cm, max := cx, lazy := cl, num := cn, kids := ckd }, .slice asv cset.length csv, .slice akv ckd.length ckv)], r', by omega, by go_num, ?_, ?_, ?_, (hkp.trans hk3).trans' hk7 (fun i hi e => by omega)⟩, by simp [intOf]; omega⟩
      · show _ = _
        rw [HT2.out, List.map_append, HM.out]; rfl
      · rw [List.flatMap_append]; exact h7
      · intro x hx
        rcases List.mem_append.1 hx with h | h
        · exact ((hM x h).keeps0 hk3).keepsG hG hk7
        · rw [List.mem_singleton.1 h]; exact hO3.keepsG hG hk7
    · have hkk : k = L.length := by omega
      subst hkk
      have hz : ¬ (L.length : Int) < (L.length : Int) := by omega
      have hr0 : r = [] := by
        have := hrow.1
        rw [List.length_append, cell7_len] at this
        exact List.eq_nil_of_length_eq_zero (by omega)
      subst hr0
      rw [List.append_nil] at hrow
      have HMM := HM.out
      rw [List.take_length] at HMM
      have HQ : Hid (M.map (·.1) = L.map (·.1)) := HMM
      clear HMM
      have HLM : Hid (M.length = L.length) := hMl
      clear hMl
      go_wp2
      go_ret
      exact ⟨_, M, rfl, ⟨by rw [HLM.out]; exact hrow, hM⟩, HQ.out, hkp⟩

theorem fiveP {w4 : World} {U Q : Nat} (x a b c d : Value) :
    Keeps (fun j => j = U ∨ j = Q) w4 (((((w4.setCell ⟨U, 3, none⟩ x).setCell ⟨Q, 0, none⟩ a).setCell ⟨Q, 1, none⟩ b).setCell ⟨Q, 2, none⟩ c).setCell ⟨Q, 3, none⟩ d) := by
  have h1 := (keepsP w4 U 3 x).mono (E' := fun j => j = U ∨ j = Q) (fun k _ h => Or.inl h)
  have h2 := fun (w : World) (i : Nat) (y : Value) => (keepsP w Q i y).mono (E' := fun j => j = U ∨ j = Q) (fun k _ h => Or.inr h)
  exact (((h1.trans (h2 _ 0 a)).trans (h2 _ 1 b)).trans (h2 _ 2 c)).trans (h2 _ 3 d)
theorem fivePQ {w4 : World} {U Q : Nat} {t : TypeId} {z0 z1 z2 z3 : Value} (h : w4.heap[Q]? = some (.cells #[z0, z1, z2, z3] t (0, 0))) (hne : Q ≠ U) (x a b c d : Value) :
    (((((w4.setCell ⟨U, 3, none⟩ x).setCell ⟨Q, 0, none⟩ a).setCell ⟨Q, 1, none⟩ b).setCell ⟨Q, 2, none⟩ c).setCell ⟨Q, 3, none⟩ d).heap[Q]? = some (.cells #[a, b, c, d] t (0, 0)) := by
  have h0 : (w4.setCell ⟨U, 3, none⟩ x).heap[Q]? = some (.cells #[z0, z1, z2, z3] t (0, 0)) := by
    rw [Below.heap_setCell _ _ _ _ hne]; exact h
  have k0 : ((w4.setCell ⟨U, 3, none⟩ x).setCell ⟨Q, 0, none⟩ a).heap[Q]? = some (.cells #[a, z1, z2, z3] t (0, 0)) := heap_setCell_same _ Q 0 _ t a h0
  have k1 : (((w4.setCell ⟨U, 3, none⟩ x).setCell ⟨Q, 0, none⟩ a).setCell ⟨Q, 1, none⟩ b).heap[Q]? = some (.cells #[a, b, z2, z3] t (0, 0)) := heap_setCell_same _ Q 1 _ t b k0
  have k2 : ((((w4.setCell ⟨U, 3, none⟩ x).setCell ⟨Q, 0, none⟩ a).setCell ⟨Q, 1, none⟩ b).setCell ⟨Q, 2, none⟩ c).heap[Q]? = some (.cells #[a, b, c, z3] t (0, 0)) := heap_setCell_same _ Q 2 _ t c k1
  exact heap_setCell_same _ Q 3 _ t d k2

def PatPost (ok : Bool) (at_ gr : Int) (ps : List Pc) (w : World) (e : Ending) (w' : World) : Prop := ∃ v L, e = .returned (.agg #[.bool ok, .int .i64 at_, .int .i64 gr, v]) ∧ Pcs w' v L ∧ L.map (·.1) = ps ∧ Keeps (fun _ => False) w w'

set_option maxHeartbeats 2000000 in
set_option maxRecDepth 100000 in
theorem toPattern_any {w : World} {v : Value} {L : List Pm} {ok : Bool} {at_ gr : Int} (hv : Gv w v L) (hn : L.length ≤ 1048576) (hs : ∀ x ∈ L, x.1.set.length ≤ 1048576 ∧ x.1.kids.length ≤ 1048576) :
    Calls Tryz.prog 23 #[.agg #[.bool ok, .int .i64 at_, .int .i64 gr, v]] w (PatPost ok at_ gr (L.map (·.1)) w) := by
  obtain ⟨⟨ao, cap, rfl, _⟩, _, _⟩ := id hv
  have kA : ∀ o1 o2 o3, Keeps (fun _ => False) w (((w.alloc o1).alloc o2).alloc o3) := fun o1 o2 o3 => (((Keeps.refl _ _).alloc _).alloc _).alloc _
  have hQ : ∀ o1 cs o3, (((w.alloc o1).alloc (.cells cs 33)).alloc o3).heap[w.heap.size + 1]? = some (.cells cs 33 (0, 0)) := fun o1 cs o3 => by
    rw [Below.heap_alloc _ _ _ (by simp)]
    have := heap_alloc_new (w.alloc o1) (.cells cs 33)
    simpa using this
  have hU : ∀ o1 o2 cs, (((w.alloc o1).alloc o2).alloc (.cells cs 33)).heap[w.heap.size + 1 + 1]? = some (.cells cs 33 (0, 0)) := fun o1 o2 cs => by
    have := heap_alloc_new ((w.alloc o1).alloc o2) (.cells cs 33)
    simpa using this
  go_enter Tryz.func23, Tryz.ntmps23
  go_wp2_with (first
    | (go_at_call 58; refine (toPieceS_any (hv.keeps (kA _ _ _)) hn hs).mono ?_; rintro e w2 ⟨u, M, rfl, hPc, hMM, hk2⟩; obtain ⟨av, cv, rfl⟩ := own_form hPc.row; have hQ2 := blkK (hQ _ _ _) hk2; have hU2 := blkK (hU _ _ _) hk2; have hK := (kA _ _ _).trans hk2
       have u0 : w2.cell? ⟨w.heap.size + 1 + 1, 0, none⟩ = some (.bool ok) := (by rw [cell_of hU2]; rfl)
       have u1 : w2.cell? ⟨w.heap.size + 1 + 1, 1, none⟩ = some (.int .i64 at_) := (by rw [cell_of hU2]; rfl)
       have u2 : w2.cell? ⟨w.heap.size + 1 + 1, 2, none⟩ = some (.int .i64 gr) := (by rw [cell_of hU2]; rfl)
       have u3 : w2.cell? ⟨w.heap.size + 1 + 1, 3, none⟩ = some (.slice none 0 0) := (by rw [cell_of hU2]; rfl)
       have q0 : w2.cell? ⟨w.heap.size + 1, 0, none⟩ = some (.bool false) := (by rw [cell_of hQ2]; rfl)
       have q1 : w2.cell? ⟨w.heap.size + 1, 1, none⟩ = some (.int .i64 0) := (by rw [cell_of hQ2]; rfl)
       have q2 : w2.cell? ⟨w.heap.size + 1, 2, none⟩ = some (.int .i64 0) := (by rw [cell_of hQ2]; rfl)
       have q3 : w2.cell? ⟨w.heap.size + 1, 3, none⟩ = some (.slice none 0 0) := (by rw [cell_of hQ2]; rfl)
       have HMM : Hid (M.map (·.1) = L.map (·.1)) := hMM
       clear hMM
       have uf := fun i => free_of (i := i) hU2
       have qf := fun i => free_of (i := i) hQ2))
  have h5 := fiveP (w4 := w2) (U := w.heap.size + 1 + 1) (Q := w.heap.size + 1) (.slice av M.length cv) (.bool ok) (.int .i64 at_) (.int .i64 gr) (.slice av M.length cv)
  have hQf := fivePQ (U := w.heap.size + 1 + 1) hQ2 (by omega) (.slice av M.length cv) (.bool ok) (.int .i64 at_) (.int .i64 gr) (.slice av M.length cv)
  generalize ((((w2.setCell ⟨w.heap.size + 1 + 1, 3, none⟩ (.slice av M.length cv)).setCell ⟨w.heap.size + 1, 0, none⟩ (.bool ok)).setCell ⟨w.heap.size + 1, 1, none⟩ (.int .i64 at_)).setCell ⟨w.heap.size + 1, 2, none⟩ (.int .i64 gr)).setCell ⟨w.heap.size + 1, 3, none⟩ (.slice av M.length cv) = wf at h5 hQf ⊢
  have y0 : wf.cell? ⟨w.heap.size + 1, 0, none⟩ = some (.bool ok) := by rw [cell_of hQf]; rfl
  have y1 : wf.cell? ⟨w.heap.size + 1, 1, none⟩ = some (.int .i64 at_) := by rw [cell_of hQf]; rfl
  have y2 : wf.cell? ⟨w.heap.size + 1, 2, none⟩ = some (.int .i64 gr) := by rw [cell_of hQf]; rfl
  have y3 : wf.cell? ⟨w.heap.size + 1, 3, none⟩ = some (.slice av M.length cv) := by rw [cell_of hQf]; rfl
  refine bodyPost_ret (v := .agg #[.bool ok, .int .i64 at_, .int .i64 gr, .slice av M.length cv]) (by simp [results, Tryz.results23, go_sem, y0, y1, y2, y3]) rfl ?_
  refine ⟨.slice av M.length cv, M, rfl, ⟨ownsRow_keeps hPc.row h5 ?_, fun x hx => ⟨ownsRow_keeps (hPc.rows x hx).1 h5 ?_, ownsRow_keeps (hPc.rows x hx).2 h5 ?_⟩⟩, HMM.out, hK.trans' h5 (fun i hi e => by omega)⟩
  · rintro k hk (e | e)
    · exact own_not_at hPc.row hU2 (by decide) (e ▸ hk)
    · exact own_not_at hPc.row hQ2 (by decide) (e ▸ hk)
  · rintro k hk (e | e)
    · exact own_not_at (hPc.rows x hx).1 hU2 (by decide) (e ▸ hk)
    · exact own_not_at (hPc.rows x hx).1 hQ2 (by decide) (e ▸ hk)
  · rintro k hk (e | e)
    · exact own_not_at (hPc.rows x hx).2 hU2 (by decide) (e ▸ hk)
    · exact own_not_at (hPc.rows x hx).2 hQ2 (by decide) (e ▸ hk)

end Go.Proofs.YtmlgmhnplicflaaGreatDoor

/-
  The law on WritePattern: its walk.
-/
namespace Go.Proofs.YtmlgmhnplicflaaGreatDoor
open Go.RowKit
set_option linter.unusedVariables false

theorem wr_same {ok : Bool} {at_ gr : Int} {ps : List Pc} {t t' : Tx} (h1 : Gs ok at_ gr ps t ∨ (t = [] ∧ ∀ x, ¬ Gs ok at_ gr ps x)) (h2 : Gi ok at_ gr ps t' ∨ (t' = [] ∧ ∀ x, ¬ Gi ok at_ gr ps x)) : t' = t := by
  rcases h1 with h1 | ⟨rfl, h1⟩
  · rcases h2 with h2 | ⟨rfl, h2⟩
    · have := (gi_gs ok at_ gr ps t').1 h2
      rw [h1.2.1, this.2.1]
    · exact absurd ((gi_gs ok at_ gr ps t).2 h1) (h2 t)
  · rcases h2 with h2 | ⟨rfl, h2⟩
    · exact absurd ((gi_gs ok at_ gr ps t').1 h2) (h1 t')
    · rfl

set_option maxHeartbeats 2000000 in
set_option maxRecDepth 100000 in
theorem law_write {w : World} {v : Value} {L : List Pm} {ok : Bool} {at_ gr : Int} (hv : Gv w v L) (htab : TabAll w) :
    Calls Tryz.prog 5 #[.agg #[.bool ok, .int .i64 at_, .int .i64 gr, v]] w fun e w' => e = .returned (.bool true) ∧ Keeps (fun _ => False) w w' := by
  obtain ⟨⟨ao, cap, rfl, _⟩, _, _⟩ := id hv
  have hK : Keeps (fun _ => False) w (w.alloc (.cells #[.bool ok, .int .i64 at_, .int .i64 gr, .slice ao L.length cap] 50)) := (Keeps.refl _ _).alloc _
  have hB : (w.alloc (.cells #[.bool ok, .int .i64 at_, .int .i64 gr, .slice ao L.length cap] 50)).heap[w.heap.size]? = some (.cells #[.bool ok, .int .i64 at_, .int .i64 gr, .slice ao L.length cap] 50 (0, 0)) := heap_alloc_new w _
  have hsz := szPattern_any (ok := ok) (at_ := at_) (gr := gr) (hv.keeps hK)
  go_enter Tryz.func5, Tryz.ntmps5
  go_upto_region 3 with (go_at_call 22; refine hsz.mono ?_; rintro e w1 ⟨r, rfl, hq, hk1⟩; replace hK := hK.trans hk1; replace hB := blkK hB hk1)
  clear hsz
  by_cases hr0 : r < 0
  · go_wp2
    go_ret
    exact ⟨rfl, hK⟩
  · obtain ⟨hn, hs⟩ : L.length ≤ 1048576 ∧ ∀ x ∈ L, x.1.set.length ≤ 1048576 ∧ x.1.kids.length ≤ 1048576 := by
      rcases hq with h | ⟨_, _, h1, h2⟩
      · omega
      · exact ⟨h1, h2⟩
    clear hq
    have hto := fun w9 (k : Keeps (fun _ => False) w w9) => toPattern_any (ok := ok) (at_ := at_) (gr := gr) (hv.keeps k) hn hs
    have hsm : SmallP (L.map (·.1)) := ⟨by simp; omega, fun x hx => by obtain ⟨y, hy, rfl⟩ := List.mem_map.1 hx; have := hs y hy; omega⟩
    have h64 : ∀ x ∈ L.map (·.1), B64 x.min ∧ B64 x.max := fun x hx => by
      obtain ⟨y, hy, rfl⟩ := List.mem_map.1 hx
      exact ⟨(hv.each y hy).min64, (hv.each y hy).max64⟩
    have b0 : w1.cell? ⟨w.heap.size, 0, none⟩ = some (.bool ok) := by rw [cell_of hB]; rfl
    have b1 : w1.cell? ⟨w.heap.size, 1, none⟩ = some (.int .i64 at_) := by rw [cell_of hB]; rfl
    have b2 : w1.cell? ⟨w.heap.size, 2, none⟩ = some (.int .i64 gr) := by rw [cell_of hB]; rfl
    have b3 : w1.cell? ⟨w.heap.size, 3, none⟩ = some (.slice ao L.length cap) := by rw [cell_of hB]; rfl
    clear hv
    go_upto_region 6 with (first
      | (go_at_call 23; refine (hto _ hK).mono ?_; rintro e w2 ⟨v2, L2, rfl, hP2, hL2, hk2⟩; replace hK := hK.trans hk2; replace hB := blkK hB hk2; obtain ⟨ao2, cap2, rfl⟩ := own_form hP2.row)
      | (go_at_call 18; refine (specWrite_any hP2 hL2 hsm).mono ?_; rintro e w3 ⟨t3, rfl, hG3, hk3⟩; replace hK := hK.trans hk3; replace hB := blkK hB hk3))
    clear b0 b1 b2 b3 hP2 hL2 hk2 hk3
    have b0 : w3.cell? ⟨w.heap.size, 0, none⟩ = some (.bool ok) := by rw [cell_of hB]; rfl
    have b1 : w3.cell? ⟨w.heap.size, 1, none⟩ = some (.int .i64 at_) := by rw [cell_of hB]; rfl
    have b2 : w3.cell? ⟨w.heap.size, 2, none⟩ = some (.int .i64 gr) := by rw [cell_of hB]; rfl
    have b3 : w3.cell? ⟨w.heap.size, 3, none⟩ = some (.slice ao L.length cap) := by rw [cell_of hB]; rfl
    go_upto_region 7 with (first
      | (go_at_call 23; refine (hto _ hK).mono ?_; rintro e w4 ⟨v4, L4, rfl, hP4, hL4, hk4⟩; replace hK := hK.trans hk4; replace hB := blkK hB hk4; obtain ⟨ao4, cap4, rfl⟩ := own_form hP4.row))
    have kZ : Keeps (fun _ => False) w4 (w4.alloc (.cells #[.bool ok, .int .i64 at_, .int .i64 gr, .slice ao4 L4.length cap4] 33)) := (Keeps.refl _ _).alloc _
    have hX : Pt (w4.alloc (.cells #[.bool ok, .int .i64 at_, .int .i64 gr, .slice ao4 L4.length cap4] 33)) w4.heap.size ok at_ gr (.slice ao4 L4.length cap4) := heap_alloc_new w4 _
    replace hK := hK.trans kZ
    replace hB := blkK hB kZ
    replace hP4 := hP4.sameW kZ
    clear b0 b1 b2 b3 hk4
    generalize w4.alloc (.cells #[.bool ok, .int .i64 at_, .int .i64 gr, .slice ao4 L4.length cap4] 33) = w5 at kZ hX hK hB hP4 ⊢
    generalize w4.heap.size = P5 at hX ⊢
    have d0 := hX.c0; have d1 := hX.c1; have d2 := hX.c2; have d3 := hX.c3
    clear kZ
    go_upto_region 8 with (first
      | (go_at_call 17; refine (implWrite_any hP4 hL4 hsm h64 (htab.on hK)).mono ?_; rintro e w6 ⟨t6, rfl, hG6, hk6⟩; obtain rfl := wr_same hG3 hG6; replace hK := hK.trans hk6; replace hB := blkK hB hk6; replace hP4 := hP4.sameW hk6; replace hX := hX.same hk6))
    clear d0 d1 d2 d3 hG3 hG6
    have d0 := hX.c0; have d1 := hX.c1; have d2 := hX.c2; have d3 := hX.c3
    have b0 : w6.cell? ⟨w.heap.size, 0, none⟩ = some (.bool ok) := by rw [cell_of hB]; rfl
    have b1 : w6.cell? ⟨w.heap.size, 1, none⟩ = some (.int .i64 at_) := by rw [cell_of hB]; rfl
    have b2 : w6.cell? ⟨w.heap.size, 2, none⟩ = some (.int .i64 gr) := by rw [cell_of hB]; rfl
    have b3 : w6.cell? ⟨w.heap.size, 3, none⟩ = some (.slice ao L.length cap) := by rw [cell_of hB]; rfl
    have hS4 : Small L4 := ⟨by have := congrArg List.length hL4; simp at this; omega, fun x hx => by
      have h1 : x.1 ∈ L.map (·.1) := by rw [← hL4]; exact List.mem_map_of_mem hx
      obtain ⟨y, hy, e⟩ := List.mem_map.1 h1
      have := hs y hy
      rw [← e]; omega⟩
    go_wp2
    go_region_with (first
      | (go_at_call 23; refine (hto _ (by first | exact hK | exact hK.drew)).mono ?_; rintro e w7 ⟨v7, L7, rfl, hP7, hL7, hk7⟩; (try replace hk7 := hkd hk7); replace hK := hK.trans hk7; replace hP4 := hP4.sameW hk7; replace hX := hX.same hk7; obtain ⟨ao7, cap7, rfl⟩ := own_form hP7.row; have f0 := hX.c0; have f1 := hX.c1; have f2 := hX.c2; have f3 := hX.c3)
      | (go_at_call 24; refine (eqPattern_same hP4 hP7 (by rw [hL4, hL7]) hS4).mono ?_; rintro e w8 ⟨rfl, hk8⟩))
    all_goals go_wp2
    all_goals go_ret
    all_goals exact ⟨rfl, hK.trans hk8⟩

end Go.Proofs.YtmlgmhnplicflaaGreatDoor
