import Derived.Test.YtmlgmhnplicflaaK

/-
  The laws' marks: pieces.
-/
namespace Go.Proofs.Ytmlgmhnplicflaa
open Go.RowKit
set_option linter.unusedVariables false

/-- A piece, marked from k on. -/
def markPc (c : Pc) (k : Int) : Pc :=
  { kind := k, set := marksR (k + 1) c.set.length, min := k + 1 + 2 * (c.set.length : Int), max := k + 1 + 2 * (c.set.length : Int) + 1, lazy := ((k + 1 + 2 * (c.set.length : Int) + 1 + 1) % 3 == 0),
    num := k + 1 + 2 * (c.set.length : Int) + 1 + 1 + 1, kids := marksI (k + 1 + 2 * (c.set.length : Int) + 1 + 1 + 1 + 1) c.kids.length }
def markK (c : Pc) (k : Int) : Int := k + 1 + 2 * (c.set.length : Int) + 1 + 1 + 1 + 1 + (c.kids.length : Int)
def markL : List Pm → Int → List Pm
  | [], _ => []
  | x :: L, k => (markPc x.1 k, x.2) :: markL L (markK x.1 k)
def markN : List Pm → Int → Int
  | [], k => k
  | x :: L, k => markN L (markK x.1 k)
theorem markL_len (L : List Pm) (k : Int) : (markL L k).length = L.length := by
  induction L generalizing k with
  | nil => rfl
  | cons x L ih => simp [markL, ih]
theorem markL_snoc (L : List Pm) (x : Pm) (k : Int) : markL (L ++ [x]) k = markL L k ++ [(markPc x.1 (markN L k), x.2)] := by
  induction L generalizing k with
  | nil => rfl
  | cons y L ih => simp [markL, markN, ih]
theorem markN_snoc (L : List Pm) (x : Pm) (k : Int) : markN (L ++ [x]) k = markK x.1 (markN L k) := by
  induction L generalizing k with
  | nil => rfl
  | cons y L ih => simp [markN, ih]
theorem markN_ge (L : List Pm) (k : Int) : k ≤ markN L k := by
  induction L generalizing k with
  | nil => simp [markN]
  | cons x L ih => have := ih (markK x.1 k); simp only [markN]; unfold markK at this ⊢; omega

/-- No two rows are one. -/
def Sep (L : List Pm) : Prop := L.Pairwise fun x y => (∀ k, x.2.1.ownBlock = some k → ¬ y.2.1.ownBlock = some k) ∧ (∀ k, x.2.2.ownBlock = some k → ¬ y.2.2.ownBlock = some k)
theorem sep_mark (L : List Pm) (k : Int) (h : Sep L) : Sep (markL L k) := by
  induction L generalizing k with
  | nil => exact h
  | cons x L ih =>
    unfold Sep at h ⊢
    rw [List.pairwise_cons] at h
    simp only [markL]
    rw [List.pairwise_cons]
    refine ⟨?_, ih _ h.2⟩
    intro y hy
    have hm : ∀ (L : List Pm) (k : Int) (y : Pm), y ∈ markL L k → ∃ z ∈ L, z.2 = y.2 := by
      intro L
      induction L with
      | nil => intro k y hy; simp [markL] at hy
      | cons z L ih2 =>
        intro k y hy
        simp only [markL, List.mem_cons] at hy
        rcases hy with rfl | hy
        · exact ⟨z, by simp, rfl⟩
        · obtain ⟨u, hu, he⟩ := ih2 _ y hy
          exact ⟨u, by simp [hu], he⟩
    obtain ⟨z, hz, he⟩ := hm _ _ _ hy
    have := h.1 z hz
    rw [he] at this
    exact this

theorem set_mid (A : List Pm) (ys C : List Value) (hy : ys.length = 7) (i : Nat) (hi : i < 7) (u : Value) : (A.flatMap cell7 ++ (ys ++ C)).set (A.length * 7 + i) u = A.flatMap cell7 ++ (ys.set i u ++ C) := by
  have hl := cell7_len A
  rw [List.set_append_right _ _ (by omega), hl]
  have e : A.length * 7 + i - A.length * 7 = i := by omega
  rw [e, List.set_append_left _ _ (by omega)]

/-- All that a piece's own marking turns. -/
theorem mark_step {w : World} {g cap : Nat} {A C : List Pm} {x : Pm} {n : Nat} {k : Int} (hn : n = (A ++ x :: C).length) (h : Pcs w (.slice (some ⟨g, 0, none⟩) n cap) (A ++ x :: C)) (hs : Sep (A ++ x :: C))
    {w2 w4 : World} (hk2 : Keeps (fun j => x.2.1.ownBlock = some j) (w.setCell ⟨g, A.length * 7, none⟩ (.int .i64 k)) w2) (hr2 : w2.ownsRow 0 102 2 x.2.1 x.1.set.length (flatR (markPc x.1 k).set))
    (hk4 : Keeps (fun j => x.2.2.ownBlock = some j) ((((w2.setCell ⟨g, A.length * 7 + 2, none⟩ (.int .i64 (markPc x.1 k).min)).setCell ⟨g, A.length * 7 + 3, none⟩ (.int .i64 (markPc x.1 k).max)).setCell ⟨g, A.length * 7 + 4, none⟩ (.bool (markPc x.1 k).lazy)).setCell ⟨g, A.length * 7 + 5, none⟩ (.int .i64 (markPc x.1 k).num)) w4)
    (hr4 : w4.ownsRow 0 3 1 x.2.2 x.1.kids.length (ints (markPc x.1 k).kids)) :
    Pcs w4 (.slice (some ⟨g, 0, none⟩) n cap) (A ++ (markPc x.1 k, x.2) :: C) := by
  subst hn
  have hsx : ∀ y, y ∈ A ∨ y ∈ C → (∀ j, y.2.1.ownBlock = some j → ¬ x.2.1.ownBlock = some j) ∧ (∀ j, y.2.2.ownBlock = some j → ¬ x.2.2.ownBlock = some j) := by
    unfold Sep at hs
    rw [List.pairwise_append] at hs
    obtain ⟨_, h2, h3⟩ := hs
    rw [List.pairwise_cons] at h2
    rintro y (hy | hy)
    · exact h3 y hy x (by simp)
    · have := h2.1 y hy
      exact ⟨fun j h1 h2 => this.1 j h2 h1, fun j h1 h2 => this.2 j h2 h1⟩
  have tg : ∀ {w w' : World} {xs : List Value}, w.ownsRow 0 73 7 (.slice (some ⟨g, 0, none⟩) (A ++ x :: C).length cap) (A ++ x :: C).length xs → Keeps (fun j => j = g) w w' → ∀ y, Owned w y → Owned w' y := by
    intro w w' xs hr hk y hy
    obtain ⟨cur, hh⟩ := own_block hr (k := g) rfl
    exact hy.byTypes hk (by rintro j rfl _; exact ⟨cur, _, hh, by decide, by decide⟩)
  have kc : ∀ (w : World) (i : Nat) (u : Value), Keeps (fun j => j = g) w (w.setCell ⟨g, i, none⟩ u) := fun w i u => keepsP w g i u
  have e0 : (A ++ x :: C).flatMap cell7 = A.flatMap cell7 ++ (cell7 x ++ C.flatMap cell7) := by simp
  have r0 := h.row
  rw [e0] at r0
  have r1 := (r0.stored (A.length * 7 + 0) (.int .i64 k)).1
  rw [set_mid A _ _ rfl 0 (by omega)] at r1
  simp only [Nat.add_zero] at r1
  have o1 : ∀ y ∈ A ++ x :: C, Owned _ y := fun y hy => tg r0 (kc w (A.length * 7) (.int .i64 k)) y (h.rows y hy)
  have ox1 := o1 x (by simp)
  have r2 := ownsRow_keeps r1 hk2 (fun j hj hj' => own_apart r1 ox1.1 (by decide) hj hj')
  have o2 : ∀ y, y ∈ A ∨ y ∈ C → Owned w2 y := fun y hy => by
    have hy1 := o1 y (by simp; rcases hy with hy | hy; exact Or.inl hy; exact Or.inr (Or.inr hy))
    exact ⟨ownsRow_keeps hy1.1 hk2 (fun j hj hj' => (hsx y hy).1 j hj hj'), ownsRow_keeps hy1.2 hk2 (fun j hj hj' => own_apart hy1.2 ox1.1 (by decide) hj hj')⟩
  have kx2 := ownsRow_keeps ox1.2 hk2 (fun j hj hj' => own_apart ox1.2 ox1.1 (by decide) hj hj')
  have ox2 : Owned w2 ({ (markPc x.1 k) with kids := x.1.kids }, x.2) := ⟨by simpa [markPc, marksR_len] using hr2, kx2⟩
  have r3a := (r2.stored (A.length * 7 + 2) (.int .i64 (markPc x.1 k).min)).1
  rw [set_mid A _ _ (by simp [cell7]) 2 (by omega)] at r3a
  have r3b := (r3a.stored (A.length * 7 + 3) (.int .i64 (markPc x.1 k).max)).1
  rw [set_mid A _ _ (by simp [cell7]) 3 (by omega)] at r3b
  have r3c := (r3b.stored (A.length * 7 + 4) (.bool (markPc x.1 k).lazy)).1
  rw [set_mid A _ _ (by simp [cell7]) 4 (by omega)] at r3c
  have r3 := (r3c.stored (A.length * 7 + 5) (.int .i64 (markPc x.1 k).num)).1
  rw [set_mid A _ _ (by simp [cell7]) 5 (by omega)] at r3
  have o3 : ∀ y, Owned w2 y → Owned _ y := fun y hy => tg r3c (kc _ (A.length * 7 + 5) (.int .i64 (markPc x.1 k).num)) y (tg r3b (kc _ (A.length * 7 + 4) (.bool (markPc x.1 k).lazy)) y (tg r3a (kc _ (A.length * 7 + 3) (.int .i64 (markPc x.1 k).max)) y (tg r2 (kc _ (A.length * 7 + 2) (.int .i64 (markPc x.1 k).min)) y hy)))
  have ox3 := o3 _ ox2
  have r4 := ownsRow_keeps r3 hk4 (fun j hj hj' => own_apart r3 ox3.2 (by decide) hj hj')
  refine ⟨?_, ?_⟩
  · have el : (A ++ (markPc x.1 k, x.2) :: C).length = (A ++ x :: C).length := by simp
    rw [el]
    have e4 : (A ++ (markPc x.1 k, x.2) :: C).flatMap cell7 = A.flatMap cell7 ++ ((((((cell7 x).set 0 (.int .i64 k)).set 2 (.int .i64 (markPc x.1 k).min)).set 3 (.int .i64 (markPc x.1 k).max)).set 4 (.bool (markPc x.1 k).lazy)).set 5 (.int .i64 (markPc x.1 k).num) ++ C.flatMap cell7) := by
      simp [cell7, markPc]
    rw [e4]
    exact r4
  · intro y hy
    rw [List.mem_append, List.mem_cons] at hy
    have hoth : ∀ y, y ∈ A ∨ y ∈ C → Owned w4 y := fun y hy => by
      have hy3 := o3 y (o2 y hy)
      exact ⟨ownsRow_keeps hy3.1 hk4 (fun j hj hj' => own_apart hy3.1 ox3.2 (by decide) hj hj'), ownsRow_keeps hy3.2 hk4 (fun j hj hj' => (hsx y hy).2 j hj hj')⟩
    rcases hy with hy | rfl | hy
    · exact hoth y (Or.inl hy)
    · refine ⟨ownsRow_keeps ox3.1 hk4 (fun j hj hj' => own_apart ox3.1 ox3.2 (by decide) hj hj'), ?_⟩
      simpa [markPc, marksI_len] using hr4
    · exact hoth y (Or.inr hy)

end Go.Proofs.Ytmlgmhnplicflaa

/-
  The laws' marks: the walks over pieces.
-/
namespace Go.Proofs.Ytmlgmhnplicflaa
open Go.RowKit
set_option linter.unusedVariables false

/-- What a value of pieces leads to. -/
def Foot (v : Value) (L : List Pm) : Nat → Prop := fun j => v.ownBlock = some j ∨ ∃ x ∈ L, x.2.1.ownBlock = some j ∨ x.2.2.ownBlock = some j

theorem markN_append (A B : List Pm) (k : Int) : markN (A ++ B) k = markN B (markN A k) := by
  induction A generalizing k with
  | nil => rfl
  | cons x A ih => simp [markN, ih]
theorem markL_append (A B : List Pm) (k : Int) : markL (A ++ B) k = markL A k ++ markL B (markN A k) := by
  induction A generalizing k with
  | nil => rfl
  | cons x A ih => simp [markL, markN, ih]
theorem sep_part (A B : List Pm) (k : Int) (h : Sep (A ++ B)) : Sep (markL A k ++ B) := by
  have hm : ∀ (L : List Pm) (k : Int) (y : Pm), y ∈ markL L k → ∃ z ∈ L, z.2 = y.2 := by
    intro L
    induction L with
    | nil => intro k y hy; simp [markL] at hy
    | cons z L ih2 =>
      intro k y hy
      simp only [markL, List.mem_cons] at hy
      rcases hy with rfl | hy
      · exact ⟨z, by simp, rfl⟩
      · obtain ⟨u, hu, he⟩ := ih2 _ y hy
        exact ⟨u, by simp [hu], he⟩
  unfold Sep at h ⊢
  rw [List.pairwise_append] at h ⊢
  refine ⟨sep_mark A k h.1, h.2.1, ?_⟩
  intro y hy b hb
  obtain ⟨z, hz, he⟩ := hm _ _ _ hy
  have := h.2.2 z hz b hb
  rw [he] at this
  exact this

theorem mark_mid {wr w2 : World} {g N cap n : Nat} {xs : List Value} {u sv : Value} (hrow : wr.ownsRow 0 73 7 (.slice (some ⟨g, 0, none⟩) N cap) N xs) (hk2 : Keeps (fun j => sv.ownBlock = some j) (wr.setCell ⟨g, n, none⟩ u) w2) (hnb : ¬ sv.ownBlock = some g) :
    (∀ i, i ≠ n → w2.cell? ⟨g, i, none⟩ = wr.cell? ⟨g, i, none⟩) ∧ (∀ i, w2.frozen? ⟨g, i, none⟩ = false) ∧ ∃ cur, w2.heap[g]? = some (.cells cur 73 (0, 0)) := by
  obtain ⟨cur, hh⟩ := own_block hrow (k := g) rfl
  have h1 := heap_setCell_same wr g n cur _ u hh
  have h2 : w2.heap[g]? = some (.cells (cur.setIfInBounds n u) 73 (0, 0)) := by rw [hk2.block g (lt_of_block h1) hnb]; exact h1
  refine ⟨fun i hi => ?_, fun i => free_of h2, _, h2⟩
  rw [cell_of h2, cell_of hh]
  simp [Ne.symm hi]

theorem owned_mid {w w' : World} {y : Pm} {g : Nat} {cur : Array Value} (hh : w.heap[g]? = some (.cells cur 73 (0, 0))) (hk : Keeps (fun j => j = g) w w') (hy : Owned w y) : Owned w' y :=
  hy.byTypes hk (by rintro j rfl _; exact ⟨cur, _, hh, by decide, by decide⟩)

set_option maxHeartbeats 2000000 in
theorem markPieceS_any {w : World} {v : Value} {L : List Pm} {k : Int} (h : Pcs w v L) (hs : Sep L) (hS : Small L) (hk0 : 0 ≤ k) (hkb : markN L k ≤ 1000000000000) :
    Calls Try.prog 23 #[v, .int .i64 k] w fun e w' => e = .returned (.int .i64 (markN L k)) ∧ Pcs w' v (markL L k) ∧ Keeps (Foot v L) w w' := by
  by_cases hn : 0 < L.length
  · obtain ⟨g, cap, rfl, _, _, _, _⟩ := row_at h.row hn
    obtain ⟨hS1, hS2⟩ := hS
    go_enter Try.func23, Try.ntmps23
    go_wp2
    go_loopg [1, 5] L.length (fun gz x i wr => ∃ A B : List Pm, Aside (L = A ++ B) ∧ B.length ≤ gz ∧ i = .int .i64 (A.length : Nat) ∧ x = .int .i64 (markN A k) ∧ Pcs wr (.slice (some ⟨g, 0, none⟩) L.length cap) (markL A k ++ B) ∧ Keeps (Foot (.slice (some ⟨g, 0, none⟩) L.length cap) L) w wr)
    case atStart => exact ⟨[], L, rfl, Nat.le_refl _, rfl, rfl, h, Keeps.refl _ _⟩
    case round =>
      obtain ⟨A, B, hL, hgz, rfl, rfl, hP, hkp⟩ := hrel
      have hlen : L.length = A.length + B.length := by rw [hL.out]; simp
      have hnk : markN A k ≤ markN L k := by rw [hL.out, markN_append]; exact markN_ge _ _
      have hn0 : k ≤ markN A k := markN_ge _ _
      cases B with
      | nil =>
        have hA : L = A := by have := hL.out; simpa using this
        have HA : Hid (L = A) := hA
        clear hA
        have hz : ¬ (A.length : Int) < (L.length : Int) := by simp at hlen; omega
        clear hlen
        go_wp2
        go_ret
        refine ⟨ret_int (by rw [HA.out]), ?_, hkp⟩
        have e : markL A k ++ [] = markL L k := by rw [HA.out]; simp
        rw [← e]; exact hP
      | cons x C =>
        have hmem : x ∈ L := by rw [hL.out]; simp
        have hnx : markN A k + 1 + 2 * (x.1.set.length : Int) + 1 + 1 + 1 + 1 + (x.1.kids.length : Int) ≤ 1000000000000 := by
          have h1 : markN L k = markN C (markK x.1 (markN A k)) := by rw [hL.out, markN_append]; rfl
          have h2 := markN_ge C (markK x.1 (markN A k))
          unfold markK at h1 h2
          omega
        have hsm := hS2 x hmem
        have hsep : Sep (markL A k ++ x :: C) := sep_part A (x :: C) k (by rw [← hL.out]; exact hs)
        have hll : L.length = (markL A k ++ x :: C).length := by rw [hlen]; simp [markL_len]
        have hal : (markL A k).length = A.length := markL_len A k
        have hP' : Pcs wr (.slice (some ⟨g, 0, none⟩) (markL A k ++ x :: C).length cap) (markL A k ++ x :: C) := by rw [← hll]; exact hP
        have hlt : A.length < (markL A k ++ x :: C).length := by simp [hal]
        have hx : (markL A k ++ x :: C)[A.length]'hlt = x := by
          rw [List.getElem_append_right (by omega)]; simp [hal]
        have hc := hP'.cells hlt
        rw [hx] at hc
        obtain ⟨a0, a1, a2, a3, a4, a5, a6⟩ := hc
        have hf := hP'.row.frozenAt
        have ox := hP.rows x (by simp)
        have HLL : Hid (L.length = (markL A k ++ x :: C).length) := hll
        have hjz : (A.length : Int) < (L.length : Int) := by simp at hlen; omega
        obtain ⟨c, sv, kv⟩ := x
        simp only at a0 a1 a2 a3 a4 a5 a6 hsm ox hnx
        have ox1 := ox.1
        have ox2 := ox.2
        simp only at ox1 ox2
        obtain ⟨ao1, cp1, rfl⟩ := own_form ox1
        obtain ⟨ao2, cp2, rfl⟩ := own_form ox2
        clear hlen hx hP' ox1 ox2
        have hblk : ∃ cur, wr.heap[g]? = some (.cells cur 73 (0, 0)) := own_block hP.row rfl
        obtain ⟨cur, hcur⟩ := hblk
        have o1 := owned_mid hcur (keepsP wr g (A.length * 7) (.int .i64 (markN A k))) ox
        have hnb : ¬ (Value.slice ao1 c.set.length cp1).ownBlock = some g := fun hh => own_apart ox.1 hP.row (by decide) hh rfl
        have hrow := hP.row
        rw [← hll] at hrow
        clear hll
        go_wp2_with (first
          | (go_at_call 35; refine (markRangeS_any o1.1 hsm.1 (by omega) (by omega)).mono ?_; rintro e w2 ⟨rfl, hr2, hk2⟩; obtain ⟨hm1, hm2, cur2, hcur2⟩ := mark_mid hrow hk2 hnb; have q2 := (hm1 (A.length * 7 + 2) (by omega)).trans a2; have q3 := (hm1 (A.length * 7 + 3) (by omega)).trans a3; have q4 := (hm1 (A.length * 7 + 4) (by omega)).trans a4; have q5 := (hm1 (A.length * 7 + 5) (by omega)).trans a5; have q6 := (hm1 (A.length * 7 + 6) (by omega)).trans a6; have kx2 := ownsRow_keeps o1.2 hk2 (fun j hj hj' => own_apart o1.2 o1.1 (by decide) hj hj'))
          | (go_at_call 36; refine (markIntS_any (ownsRow_keeps kx2 ((((keepsP w2 g _ _).trans (keepsP _ g _ _)).trans (keepsP _ g _ _)).trans (keepsP _ g _ _)) (fun j hj hj' => own_not_at kx2 hcur2 (by decide) (hj' ▸ hj))) hsm.2 (by omega) (by omega)).mono ?_; rintro e w4 ⟨rfl, hr4, hk4⟩))
        go_roundg (gk - 1)
        case measure => simp at hgz; omega
        case rel =>
          have hms := mark_step (A := markL A k) (x := (c, .slice ao1 c.set.length cp1, .slice ao2 c.kids.length cp2)) (C := C) (n := L.length) (k := markN A k) HLL.out hP hsep (by rw [hal]; exact hk2) hr2 (by rw [hal]; exact hk4) hr4
          refine ⟨A ++ [(c, .slice ao1 c.set.length cp1, .slice ao2 c.kids.length cp2)], C, ?_, by simp at hgz; omega, by simp, ?_, ?_, ?_⟩
          · show L = _
            rw [hL.out]; simp
          · rw [markN_snoc]; rfl
          · rw [markL_snoc, List.append_assoc]; exact hms
          · have ka : Keeps (fun j => j = g ∨ (Value.slice ao1 c.set.length cp1).ownBlock = some j ∨ (Value.slice ao2 c.kids.length cp2).ownBlock = some j) wr w4 := by
              refine (((keepsP wr g (A.length * 7) (.int .i64 (markN A k))).mono fun _ _ h => Or.inl h).trans (hk2.mono fun _ _ h => Or.inr (Or.inl h))).trans ?_
              exact (((((keepsP w2 g _ _).trans (keepsP _ g _ _)).trans (keepsP _ g _ _)).trans (keepsP _ g _ _)).mono fun _ _ h => Or.inl h).trans (hk4.mono fun _ _ h => Or.inr (Or.inr h))
            exact hkp.trans (ka.mono fun j _ hj => by
              rcases hj with rfl | hj | hj
              · exact Or.inl rfl
              · exact Or.inr ⟨_, hmem, Or.inl hj⟩
              · exact Or.inr ⟨_, hmem, Or.inr hj⟩)
  · have hl0 : L = [] := List.eq_nil_of_length_eq_zero (by omega)
    subst hl0
    have h' := h
    obtain ⟨a1, c1, rfl⟩ := own_form h.row
    clear h
    go_enter Try.func23, Try.ntmps23
    go_wp2
    refine wp_loop_rounds 1 ?_
    rw [rounds_succ]
    go_wp2
    go_ret
    exact ⟨rfl, h', Keeps.refl _ _⟩

end Go.Proofs.Ytmlgmhnplicflaa

/-
  The laws' marks: pieces hold what was marked; patterns.
-/
namespace Go.Proofs.Ytmlgmhnplicflaa
open Go.RowKit
set_option linter.unusedVariables false

set_option maxHeartbeats 2000000 in
theorem heldPieceS_any {w : World} {v : Value} {L : List Pm} {k : Int} (h : Pcs w v (markL L k)) (hS : Small L) (hk0 : 0 ≤ k) (hkb : markN L k ≤ 1000000000000) :
    Calls Try.prog 24 #[v, .int .i64 k] w fun e w' => e = .returned (.int .i64 (markN L k)) ∧ w' = w := by
  have hml := markL_len L k
  by_cases hn : 0 < L.length
  · obtain ⟨g, cap, rfl, -, -, -, -⟩ := row_at h.row (by omega)
    obtain ⟨hS1, hS2⟩ := hS
    obtain ⟨N, hN⟩ : ∃ N, (markL L k).length = N := ⟨_, rfl⟩
    have HN : Hid ((markL L k).length = N) := hN
    have HNL : Hid (N = L.length) := hN.symm.trans hml
    rw [hN]
    clear hN hml
    have hNb : N ≤ 10000000 := by rw [HNL.out]; exact hS1
    go_enter Try.func24, Try.ntmps24
    go_wp2
    go_loopg [1, 5] N (fun gz x i wr => ∃ A B : List Pm, Aside (L = A ++ B) ∧ B.length ≤ gz ∧ i = .int .i64 (A.length : Nat) ∧ x = .int .i64 (markN A k) ∧ wr = w)
    case atStart => exact ⟨[], L, rfl, by have := HNL.out; omega, rfl, rfl, rfl⟩
    case round =>
      obtain ⟨A, B, hL, hgz, rfl, rfl, rfl⟩ := hrel
      have HLen : Hid (N = A.length + B.length) := by have := HNL.out; show _ = _; rw [this, hL.out]; simp
      have hnk : markN A k ≤ markN L k := by rw [hL.out, markN_append]; exact markN_ge _ _
      have hn0 : k ≤ markN A k := markN_ge _ _
      cases B with
      | nil =>
        have hA : L = A := by have := hL.out; simpa using this
        have HA : Hid (L = A) := hA
        have hz : ¬ (A.length : Int) < (N : Int) := by have := HLen.out; simp at this; omega
        clear hA
        go_wp2
        go_ret
        exact ⟨ret_int (by rw [HA.out]), rfl⟩
      | cons x C =>
        have hmem : x ∈ L := by rw [hL.out]; simp
        have hsm := hS2 x hmem
        have hnx : markN A k + 1 + 2 * (x.1.set.length : Int) + 1 + 1 + 1 + 1 + (x.1.kids.length : Int) ≤ 1000000000000 := by
          have h1 : markN L k = markN C (markK x.1 (markN A k)) := by rw [hL.out, markN_append]; rfl
          have h2 := markN_ge C (markK x.1 (markN A k))
          unfold markK at h1 h2
          omega
        have hlt : A.length < (markL L k).length := by rw [HN.out]; have := HLen.out; simp at this; omega
        have hx : (markL L k)[A.length]'hlt = (markPc x.1 (markN A k), x.2) := by
          have e1 : markL L k = markL A k ++ (markPc x.1 (markN A k), x.2) :: markL C (markK x.1 (markN A k)) := by rw [hL.out, markL_append]; rfl
          simp only [e1]
          rw [List.getElem_append_right (by rw [markL_len]; omega)]
          simp [markL_len]
        have hP' : Pcs wr (.slice (some ⟨g, 0, none⟩) (markL L k).length cap) (markL L k) := h
        have hc := hP'.cells hlt
        have ox := h.rows _ (List.getElem_mem hlt)
        rw [hx] at hc ox
        obtain ⟨a0, a1, a2, a3, a4, a5, a6⟩ := hc
        have hjz : (A.length : Int) < (N : Int) := by have := HLen.out; simp at this; omega
        obtain ⟨c, sv, kv⟩ := x
        simp only [markPc] at a0 a1 a2 a3 a4 a5 a6
        simp only at hsm hnx
        have ox1 := ox.1
        have ox2 := ox.2
        simp only [markPc, marksR_len, marksI_len] at ox1 ox2
        obtain ⟨ao1, cp1, rfl⟩ := own_form ox1
        obtain ⟨ao2, cp2, rfl⟩ := own_form ox2
        clear hx hP' ox h
        go_wp2_with (first
          | (go_at_call 37; refine (heldRangeS_any (n := c.set.length) rfl (by simpa [marksR_len] using ox1) (by simpa [marksR_len] using hsm.1) (by omega) (by omega)).mono ?_; rintro e w2 ⟨rfl, hw2⟩; subst w2)
          | (go_at_call 38; refine (heldIntS_any (n := c.kids.length) rfl (by simpa [marksI_len] using ox2) (by simpa [marksI_len] using hsm.2) (by omega) (by omega)).mono ?_; rintro e w2 ⟨rfl, hw2⟩; subst w2))
        go_roundg (gk - 1)
        case measure => simp at hgz; omega
        case rel =>
          refine ⟨A ++ [(c, .slice ao1 c.set.length cp1, .slice ao2 c.kids.length cp2)], C, ?_, by simp at hgz; omega, by simp, ?_, rfl⟩
          · show L = _
            rw [hL.out]; simp
          · rw [markN_snoc]; rfl
  · have hl0 : L = [] := List.eq_nil_of_length_eq_zero (by omega)
    subst hl0
    obtain ⟨a1, c1, rfl⟩ := own_form h.row
    clear h hml
    go_enter Try.func24, Try.ntmps24
    go_wp2
    refine wp_loop_rounds 1 ?_
    rw [rounds_succ]
    go_wp2
    go_ret
    exact ⟨rfl, rfl⟩

set_option maxHeartbeats 400000 in
theorem markPattern_any {w : World} {ok : Bool} {at_ gr : Int} {v : Value} {L : List Pm} {k : Int} (h : Pcs w v L) (hs : Sep L) (hS : Small L) (hk0 : 0 ≤ k) (hkb : markN L k ≤ 1000000000000) :
    Calls Try.prog 12 #[.agg #[.bool ok, .int .i64 at_, .int .i64 gr, v], .int .i64 k] w fun e w' => e = .returned (.int .i64 (markN L k)) ∧ Pcs w' v (markL L k) ∧ Keeps (Foot v L) w w' := by
  obtain ⟨ao1, cp1, rfl⟩ := own_form h.row
  go_enter Try.func12, Try.ntmps12
  go_wp2_with (first
    | (go_at_call 23; refine (markPieceS_any (h.same ((Keeps.refl _ _).alloc _)) hs hS hk0 hkb).mono ?_; rintro e w2 ⟨rfl, hP2, hk2⟩))
  go_ret
  exact ⟨rfl, hP2, ((Keeps.refl _ _).alloc _).trans hk2⟩

set_option maxHeartbeats 400000 in
theorem heldPattern_any {w : World} {ok : Bool} {at_ gr : Int} {v : Value} {L : List Pm} {k : Int} (h : Pcs w v (markL L k)) (hS : Small L) (hk0 : 0 ≤ k) (hkb : markN L k ≤ 1000000000000) :
    Calls Try.prog 13 #[.agg #[.bool ok, .int .i64 at_, .int .i64 gr, v], .int .i64 k] w fun e w' => e = .returned (.int .i64 (markN L k)) ∧ Keeps (fun _ => False) w w' := by
  obtain ⟨ao1, cp1, rfl⟩ := own_form h.row
  have hn0 : k ≤ markN L k := markN_ge _ _
  go_enter Try.func13, Try.ntmps13
  go_wp2_with (first
    | (go_at_call 24; refine (heldPieceS_any (h.same ((Keeps.refl _ _).alloc _)) hS hk0 hkb).mono ?_; rintro e w2 ⟨rfl, hw2⟩; subst w2))
  go_ret
  exact ⟨rfl, (Keeps.refl _ _).alloc _⟩

end Go.Proofs.Ytmlgmhnplicflaa
