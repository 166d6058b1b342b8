import Derived.Test.YtmlgmhnplicflaaGreatDoorAC
import Derived.Test.YtmlgmhnplicflaaGreatDoorJ
import Derived.Deep.OwnRows
import Derived.Test.YtmlgmhnplicflaaGreatDoorK

/-
  The program's nodes out of pieces: the grower.
-/
namespace Go.Proofs.YtmlgmhnplicflaaGreatDoor
open Go.RowKit
set_option linter.unusedVariables false

/-- The grower's cells. -/
def Gw (w : World) (G : Nat) (v : Value) (l : Int) : Prop := w.heap[G]? = some (.cells #[v, .int .i64 l] 160 (0, 0))
namespace Gw
variable {w w' : World} {G : Nat} {v : Value} {l : Int}
theorem lt (h : Gw w G v l) : G < w.heap.size := lt_of_block h
theorem c0 (h : Gw w G v l) : w.cell? ⟨G, 0, none⟩ = some v := by rw [cell_of h]; rfl
theorem c1 (h : Gw w G v l) : w.cell? ⟨G, 1, none⟩ = some (.int .i64 l) := by rw [cell_of h]; rfl
theorem fz (h : Gw w G v l) (i : Nat) : w.frozen? ⟨G, i, none⟩ = false := free_of h
theorem keeps {E : Nat → Prop} (h : Gw w G v l) (k : Keeps E w w') (hE : ¬ E G) : Gw w' G v l := by
  unfold Gw at h ⊢; rw [k.block G (lt_of_block h) hE]; exact h
theorem set1 (h : Gw w G v l) (x : Int) : Gw (w.setCell ⟨G, 1, none⟩ (.int .i64 x)) G v x := by unfold Gw; rw [heap_setCell_same _ _ _ _ _ _ h]; rfl
end Gw

theorem Pcs.keepsG {w w' : World} {v u : Value} {L : List Pm} {G : Nat} {l : Int} (h : Pcs w v L) (hG : Gw w G u l) (k : Keeps (fun k => k = G) w w') : Pcs w' v L :=
  ⟨ownsRow_keeps h.row k (fun i hi he => own_not_at h.row hG (by decide) (he ▸ hi)), fun x hx =>
    ⟨ownsRow_keeps (h.rows x hx).1 k (fun i hi he => own_not_at (h.rows x hx).1 hG (by decide) (he ▸ hi)), ownsRow_keeps (h.rows x hx).2 k (fun i hi he => own_not_at (h.rows x hx).2 hG (by decide) (he ▸ hi))⟩⟩
theorem Pcs.sameW {w w' : World} {v : Value} {L : List Pm} (h : Pcs w v L) (hk : Keeps (fun _ => False) w w') : Pcs w' v L :=
  ⟨ownsRow_keeps h.row hk (fun _ _ h => h), fun x hx => (h.rows x hx).same hk⟩

/-- What a call that makes a node does. -/
def GrowPost (G : Nat) (v : Value) (B : Nat) (r : Option (Tx × Nat)) (w : World) (e : Ending) (w' : World) : Prop :=
  match r with
  | none => ∃ l', e = .returned .nilIface ∧ Gw w' G v l' ∧ Keeps (fun k => k = G) w w'
  | some (t, l2) => ∃ x, e = .returned x ∧ Wd w' (fun k => B ≤ k) x t ∧ Gw w' G v l2 ∧ Keeps (fun k => k = G) w w'
/-- What a call that makes the kids does. -/
def GrowKidsPost (G : Nat) (v : Value) (B n : Nat) (r : Option (List Tx × Nat)) (w : World) (e : Ending) (w' : World) : Prop :=
  match r with
  | none => ∃ l', e = .returned (.tuple #[.slice none 0 0, .bool false]) ∧ Gw w' G v l' ∧ Keeps (fun k => k = G) w w'
  | some (ts, l2) => ∃ g vs, e = .returned (.tuple #[.slice (some ⟨g, 0, none⟩) n n, .bool true]) ∧ w'.ownsRow B 94 1 (.slice (some ⟨g, 0, none⟩) n n) n vs ∧ vs.length = n ∧ ts.length = n ∧
      (∀ (i : Nat) (x : Value) (t : Tx), vs[i]? = some x → ts[i]? = some t → Wd w' (fun k => B ≤ k) x t) ∧ Gw w' G v l2 ∧ Keeps (fun k => k = G) w w'

def GrowC (ps : List Pc) (fu : Nat) : Prop :=
  ∀ (w : World) (G : Nat) (v : Value) (L : List Pm) (l B : Nat), Pcs w v L → L.map (·.1) = ps → Gw w G v l → 1 ≤ l → l ≤ fu → l ≤ ps.length → G < B → B ≤ w.heap.size →
    Calls Tryz.prog 80 #[.pointer (some ⟨G, 0, none⟩)] w (GrowPost G v B (growRef ps fu l) w)
def KidsRow (w : World) (G : Nat) (ks : List Int) (kv : Value) : Prop := w.ownsRow 0 3 1 kv ks.length (ints ks)

theorem Tryz.infoNode2 : (Tryz.prog.info? 94).map (fun i => (i.zero, i.size, i.bytes)) = some (some .nilIface, 1, 16) := by kernel_rfl

theorem growKidsPost_none {G : Nat} {v : Value} {B n : Nat} {R : Option (List Tx × Nat)} {w w' : World} (hR : R = none) {l' : Int} (hG : Gw w' G v l') (hk : Keeps (fun k => k = G) w w') : GrowKidsPost G v B n R w (.returned (.tuple #[.slice none 0 0, .bool false])) w' := by
  subst hR; exact ⟨l', rfl, hG, hk⟩
theorem grow_le {ps : List Pc} {fu l l2 : Nat} {t : Tx} (h : growRef ps fu l = some (t, l2)) (hl : 1 ≤ l) : l2 ≤ l := by
  have gk : ∀ (grow : Nat → Option (Tx × Nat)), (∀ l t l2, grow l = some (t, l2) → 1 ≤ l → l2 ≤ l) → ∀ (ks : List Int) (l : Nat) (acc ts : List Tx) (l2 : Nat), growKidsRef grow ks l acc = some (ts, l2) → l2 ≤ l := by
    intro grow hg ks
    induction ks with
    | nil => intro l acc ts l2 h; simp [growKidsRef] at h; omega
    | cons k ks ih =>
      intro l acc ts l2 h
      simp only [growKidsRef] at h
      split at h
      · simp at h
      · rename_i hc
        split at h
        · simp at h
        · rename_i t l1 hgr
          have a := hg l t l1 hgr (by omega)
          have b := ih l1 (t :: acc) ts l2 h
          omega
  induction fu generalizing l l2 t with
  | zero => simp [growRef] at h
  | succ fu ih =>
    simp only [growRef] at h
    split at h
    · simp at h
    · split at h
      · simp at h
      · split at h
        · simp at h
        · rename_i ts l1 hk
          split at h
          · simp at h
          · simp only [Option.some.injEq, Prod.mk.injEq] at h
            have := gk _ (fun l t l2 h1 h2 => ih h1 h2) _ _ _ _ _ hk
            omega
/-- A store into a row of nodes leaves the pieces alone. -/
theorem Pcs.sameS {w : World} {v u : Value} {L : List Pm} {n r P : Nat} {xs : List Value} {B : Nat} {l : Int} {G : Nat} (h : Pcs w v L) (hd : True) (hG : Gw w G v l) (hrow : w.ownsRow B 94 1 (.slice (some ⟨P, 0, none⟩) n n) n xs) : Pcs (w.setCell ⟨P, r, none⟩ u) v L :=
  ⟨ownsRow_keeps h.row (keepsS w P r u) (fun i hi he => own_apart h.row hrow (by decide) hi (by rw [he]; rfl)), fun x hx =>
    ⟨ownsRow_keeps (h.rows x hx).1 (keepsS w P r u) (fun i hi he => own_apart (h.rows x hx).1 hrow (by decide) hi (by rw [he]; rfl)), ownsRow_keeps (h.rows x hx).2 (keepsS w P r u) (fun i hi he => own_apart (h.rows x hx).2 hrow (by decide) hi (by rw [he]; rfl))⟩⟩
theorem take_rev {α : Type} (l : List α) (r : Nat) (h : r < l.length) : (l.take (r + 1)).reverse = l[r] :: (l.take r).reverse := by
  rw [take_one l r h]; simp
theorem gk_no {grow : Nat → Option (Tx × Nat)} {k : Int} {ks : List Int} {l : Nat} {acc : List Tx} (h : l = 0 ∨ k ≠ (l : Int) - 1) : growKidsRef grow (k :: ks) l acc = none := by simp only [growKidsRef]; rw [if_pos h]
theorem gk_bad {grow : Nat → Option (Tx × Nat)} {k : Int} {ks : List Int} {l : Nat} {acc : List Tx} (h : ¬ (l = 0 ∨ k ≠ (l : Int) - 1)) (hg : grow l = none) : growKidsRef grow (k :: ks) l acc = none := by simp only [growKidsRef]; rw [if_neg h, hg]
theorem gk_yes {grow : Nat → Option (Tx × Nat)} {k : Int} {ks : List Int} {l l2 : Nat} {t : Tx} {acc : List Tx} (h : ¬ (l = 0 ∨ k ≠ (l : Int) - 1)) (hg : grow l = some (t, l2)) : growKidsRef grow (k :: ks) l acc = growKidsRef grow ks l2 (t :: acc) := by
  rw [growKidsRef]; rw [if_neg h, hg]
theorem rep_get (r : Nat) (z : Value) (us : List Value) : (List.replicate (r + 1) z ++ us)[r]? = some z := by
  rw [List.getElem?_append_left (by simp)]; simp
theorem rep_set (r : Nat) (z x : Value) (us : List Value) : (List.replicate (r + 1) z ++ us).set r x = List.replicate r z ++ (x :: us) := by
  have e : List.replicate (r + 1) z = List.replicate r z ++ [z] := by rw [List.replicate_succ']
  rw [e, List.append_assoc, List.set_append_right _ _ (by simp)]
  simp

/-- At the head of the loop over kids. -/
def GkAt (ps : List Pc) (fu : Nat) (G : Nat) (v : Value) (L : List Pm) (l0 B : Nat) (ks : List Int) (kv : Value) (R : Option (List Tx × Nat)) (w : World) (i : Value) (wr : World) : Prop :=
  ∃ (r l : Nat) (x : Int) (acc : List Tx) (us : List Value), i = .int .i64 x ∧ x = (r : Int) - 1 ∧ r + us.length = ks.length ∧ acc.length = us.length ∧ Hid (growKidsRef (growRef ps fu) (ks.take r).reverse l acc = R) ∧ l ≤ l0 ∧
    wr.ownsRow B 94 1 (.slice (some ⟨w.heap.size, 0, none⟩) ks.length ks.length) ks.length (List.replicate r .nilIface ++ us) ∧
    (∀ (i : Nat) (x : Value) (t : Tx), us[i]? = some x → acc[i]? = some t → Wd wr (fun k => w.heap.size < k) x t) ∧ Gw wr G v l ∧ Pcs wr v L ∧ wr.ownsRow 0 3 1 kv ks.length (ints ks) ∧ Keeps (fun k => k = G) w wr

set_option maxHeartbeats 2000000 in
set_option maxRecDepth 100000 in
theorem growKids_any {ps : List Pc} {fu : Nat} (hg : GrowC ps fu) {w : World} {G : Nat} {v : Value} {L : List Pm} {l0 B : Nat} {ks : List Int} {kv : Value} (hP : Pcs w v L) (hL : L.map (·.1) = ps) (hps : ps.length ≤ 240) (hG : Gw w G v l0) (hlf : l0 ≤ fu) (hlp : l0 ≤ ps.length) (hGB : G < B) (hB : B ≤ w.heap.size)
    (hk : w.ownsRow 0 3 1 kv ks.length (ints ks)) (hks : ks.length ≤ 10000000) :
    Calls Tryz.prog 112 #[.pointer (some ⟨G, 0, none⟩), kv] w (GrowKidsPost G v B ks.length (if l0 < ks.length then none else growKidsRef (growRef ps fu) ks.reverse l0 []) w) := by
  obtain ⟨ao, cap, rfl⟩ := own_form hk
  by_cases hlen : l0 < ks.length
  · have hlz : (l0 : Int) < (ks.length : Int) := by omega
    have c1 := hG.c1
    rw [if_pos hlen]
    go_enter Tryz.func112, Tryz.ntmps112
    go_wp2
    refine bodyPost_ret (v := .tuple #[.slice none 0 0, .bool false]) (by simp [results, Tryz.results112, go_sem]) rfl ?_
    exact growKidsPost_none rfl hG (Keeps.refl _ _)
  · have hlz : ¬ (l0 : Int) < (ks.length : Int) := by omega
    have c1 := hG.c1
    rw [if_neg hlen]
    have hnil : ∀ w : World, (binOp BinOp.eql 94 .nilIface .nilIface).run Tryz.prog w = .ok (.bool true) w := fun _ => by kernel_rfl
    have hnn : ∀ (t : TypeId) (y : Value) (w : World), (binOp BinOp.eql 94 (.iface t y) .nilIface).run Tryz.prog w = .ok (.bool false) w := fun _ _ _ => by kernel_rfl
    obtain ⟨i0, hi, hz0, hz1, hz2⟩ := info_parts Tryz.infoNode2
    obtain ⟨w1, hmk, hrow, hgrow⟩ := run_make_full (P := Tryz.prog) w B 154 94 i0 .nilIface 1 Tryz.underlying154 hi hz0 hz1 .i64 .i64 ks.length (by rw [hz2]; omega) (by unfold maxLen; omega) hB
    have hk0 : Keeps (fun _ => False) w w1 := (Keeps.refl _ _).grown hgrow (by simp)
    have hk1 : Keeps (fun k => k = G) w w1 := hk0.none
    have hrep : (madeCells (Value.cells .nilIface) (ks.length * 1)).toList = List.replicate ks.length .nilIface ++ [] := by rw [Nat.mul_one, List.append_nil]; exact toList_madeCells_one _ _
    rw [hrep] at hrow
    clear hrep hgrow
    obtain ⟨R, hR⟩ : ∃ R, growKidsRef (growRef ps fu) ks.reverse l0 [] = R := ⟨_, rfl⟩
    rw [hR]
    have HR : Hid (growKidsRef (growRef ps fu) ks.reverse l0 [] = R) := hR
    clear hR
    go_enter Tryz.func112, Tryz.ntmps112
    go_wp2
    go_loopw [7] (fun i wr => GkAt ps fu G v L l0 B ks (.slice ao ks.length cap) R w i wr) (fun i _ => (intOf i + 1).toNat)
    case atStart => exact ⟨ks.length, l0, (ks.length : Int) - 1, [], [], by go_num, rfl, by simp, rfl, by have := HR.out; rw [List.take_length]; exact this, Nat.le_refl _, hrow, by simp, hG.keeps hk0 (fun h => h), hP.sameW hk0, ownsRow_keeps hk hk0 (fun _ _ h => h), hk1⟩
    case round =>
      clear hG hP hk1 hk0 hrow hk hlz c1 HR hmk
      obtain ⟨r, l, x, acc, us, rfl, hx, hru, hal, HGK, hl, hrow, hW, hG, hP, hk, hkp⟩ := hrel
      have hgl : w.heap.size < wr.heap.size := (hrow.lt _ rfl).2
      have hGlt : G < w.heap.size := by omega
      have HAL : Hid (acc.length = us.length) := hal
      have HRU : Hid (r + us.length = ks.length) := hru
      clear hal
      cases r with
      | zero =>
        obtain rfl : x = -1 := by omega
        have HR2 : Hid (R = some (acc, l)) := (by have := HGK.out; simp [growKidsRef] at this; exact this.symm)
        clear hx hru
        go_wp2
        refine bodyPost_ret (v := .tuple #[.slice (some ⟨w.heap.size, 0, none⟩) ks.length ks.length, .bool true]) (by simp [results, Tryz.results112, go_sem]) rfl ?_
        unfold GrowKidsPost
        rw [HR2.out]
        have := HAL.out
        have := HRU.out
        exact ⟨w.heap.size, us, rfl, by simpa using hrow, by omega, by omega, fun i x t hx ht => (hW i x t hx ht).mono (fun k hk _ => by omega), hG, hkp⟩
      | succ r =>
        obtain rfl : x = (r : Int) := by omega
        have hr : r < ks.length := by omega
        have hge : (0 : Int) ≤ (r : Int) := by omega
        have hrz : (r : Int) < (ks.length : Int) := by omega
        obtain ⟨g, rfl⟩ := row_fm hk (by omega)
        have cK : wr.cell? ⟨g, r, none⟩ = some (.int .i64 ks[r]) := by rw [hk.cellAt r (by omega)]; exact by simp [ints, hr]
        have hGK : growKidsRef (growRef ps fu) (ks[r] :: (ks.take r).reverse) l acc = R := by rw [← take_rev ks r hr]; exact HGK.out
        generalize ks[r] = kk at cK hGK
        have c1 := hG.c1
        have e1 : IntKind.i64.wrap ((l : Int) - 1) = (l : Int) - 1 := IntWalk.i64_in _ (by omega)
        clear hx hru
        by_cases hc : l = 0 ∨ kk ≠ (l : Int) - 1
        · have HN : Hid (R = none) := hGK.symm.trans (gk_no hc)
          clear hGK
          rcases (show l = 0 ∨ (l ≠ 0 ∧ kk ≠ (l : Int) - 1) from by omega) with hz | ⟨hz, hq⟩
          · subst hz
            go_wp2
            go_region
            all_goals go_wp2
            all_goals refine bodyPost_ret (v := .tuple #[.slice none 0 0, .bool false]) (by simp [results, Tryz.results112, go_sem]) rfl ?_
            all_goals exact growKidsPost_none HN.out (hG.keeps ((Keeps.refl (fun _ => False) _).drew) (fun h => h)) hkp.drew
          · have hzb : ((l : Int) == 0) = false := by simp; omega
            have hqb : (kk != (l : Int) - 1) = true := by simpa using hq
            go_wp2
            go_region
            all_goals go_wp2
            all_goals refine bodyPost_ret (v := .tuple #[.slice none 0 0, .bool false]) (by simp [results, Tryz.results112, go_sem]) rfl ?_
            all_goals exact growKidsPost_none HN.out (hG.keeps ((Keeps.refl (fun _ => False) _).drew) (fun h => h)) hkp.drew
        · have hz : l ≠ 0 := fun h => hc (Or.inl h)
          obtain rfl : kk = (l : Int) - 1 := Decidable.byContradiction fun h => hc (Or.inr h)
          have hzb : ((l : Int) == 0) = false := by simp; omega
          have hrk : ∀ w2, Keeps (fun k => k = G) wr w2 → w2.ownsRow B 94 1 (.slice (some ⟨w.heap.size, 0, none⟩) ks.length ks.length) ks.length (List.replicate (r + 1) .nilIface ++ us) ∧ w2.cell? ⟨w.heap.size, r, none⟩ = some .nilIface ∧ w2.frozen? ⟨w.heap.size, r, none⟩ = false := fun w2 k2 => by
            have h := ownsRow_keeps hrow k2 (fun i hi h => by simp [Value.ownBlock] at hi; omega)
            exact ⟨h, by rw [h.cellAt r (by omega)]; exact rep_get _ _ _, h.frozenAt r⟩
          have hcall := fun w9 (hk9 : Keeps (fun _ => False) wr w9) => hg w9 G v L l (w.heap.size + 1) (hP.sameW hk9) hL (hG.keeps hk9 (fun h => h)) (by omega) (by omega) (by omega) (by omega) (by have := hk9.size; omega)
          cases hgr : growRef ps fu l with
          | none =>
            have HN : Hid (R = none) := hGK.symm.trans (gk_bad hc hgr)
            have hcall2 := hcall wr.drew ((Keeps.refl _ _).drew)
            rw [hgr] at hcall2
            clear hGK hc hcall hgr
            go_wp2
            go_region
            all_goals go_wp2_with (first
              | (go_at_call 80; refine hcall2.mono ?_; rintro e w2 ⟨l', rfl, hG2, hk2⟩; replace hk2 := hkd hk2; obtain ⟨hrow2, cR, fR⟩ := hrk w2 hk2))
            all_goals refine bodyPost_ret (v := .tuple #[.slice none 0 0, .bool false]) (by simp [results, Tryz.results112, go_sem]) rfl ?_
            all_goals exact growKidsPost_none HN.out (hG2.keeps (keepsS w2 w.heap.size r _) (by omega)) ((hkp.trans hk2).trans' (keepsS w2 w.heap.size r _) (fun i hi h => by omega))
          | some tl =>
            obtain ⟨t, l2⟩ := tl
            have HN : Hid (growKidsRef (growRef ps fu) (ks.take r).reverse l2 (t :: acc) = R) := (gk_yes hc hgr).symm.trans hGK
            have hcall2 := hcall wr.drew ((Keeps.refl _ _).drew)
            rw [hgr] at hcall2
            have hl2 : l2 ≤ l0 := by have := (grow_le hgr (by omega)); omega
            clear hGK hc hcall hgr
            go_wp2
            go_region
            all_goals go_wp2_with (first
              | (go_at_call 80; refine hcall2.mono ?_; rintro e w2 ⟨x, rfl, hWx, hG2, hk2⟩; obtain ⟨ty, y, rfl⟩ := hWx.iface; replace hk2 := hkd hk2; obtain ⟨hrow2, cR, fR⟩ := hrk w2 hk2))
            all_goals go_roundw
            all_goals (first
              | (refine ⟨r, l2, (r : Int) - 1, t :: acc, .iface ty y :: us, by go_num, rfl, by have := HRU.out; simp; omega, by have := HAL.out; simp; omega, HN, hl2, ?_, ?_, hG2.keeps (keepsS w2 w.heap.size r _) (by omega), (hP.keepsG hG hk2).sameS trivial hG2 hrow2, ?_, (hkp.trans hk2).trans' (keepsS w2 w.heap.size r _) (fun i hi h => by omega)⟩)
              | (simp [intOf] <;> omega))
            all_goals (first
              | (have hst := (hrow2.stored r (.iface ty y)).1
                 rw [rep_set] at hst
                 exact hst)
              | (intro i x t' hx ht
                 cases i with
                 | zero =>
                   simp only [List.getElem?_cons_zero, Option.some.injEq] at hx ht
                   subst hx ht
                   exact (hWx.mono (D' := fun k => w.heap.size < k) (fun k hk _ => by omega)).keeps (keepsS w2 w.heap.size r _) (fun i hi _ h => by omega)
                 | succ i =>
                   simp only [List.getElem?_cons_succ] at hx ht
                   exact ((hW i x t' hx ht).keeps hk2 (fun i hi _ h => by omega)).keeps (keepsS w2 w.heap.size r _) (fun i hi _ h => by omega))
              | exact ownsRow_keeps (ownsRow_keeps hk hk2 (fun i hi he => own_not_at hk hG (by decide) (he ▸ hi))) (keepsS w2 w.heap.size r _) (fun i hi he => own_apart (ownsRow_keeps hk hk2 (fun i hi he => own_not_at hk hG (by decide) (he ▸ hi))) hrow2 (by decide) hi (by rw [he]; rfl)))

end Go.Proofs.YtmlgmhnplicflaaGreatDoor

/-
  The program's nodes out of pieces: a node, and the tree.
-/
namespace Go.Proofs.YtmlgmhnplicflaaGreatDoor
open Go.RowKit
set_option linter.unusedVariables false

theorem growRef_none {ps : List Pc} {fu m : Nat} {c : Pc} (hc : ps[m]? = some c) (hR : (if m < c.kids.length then none else growKidsRef (growRef ps fu) c.kids.reverse m []) = none) : growRef ps (fu + 1) (m + 1) = none := by
  simp only [growRef, Nat.add_sub_cancel]
  rw [hc]
  simp only
  by_cases h : m < c.kids.length
  · rw [if_pos h]
  · rw [if_neg h] at hR ⊢; rw [hR]
theorem growRef_node {ps : List Pc} {fu m : Nat} {c : Pc} {ts : List Tx} {l2 : Nat} (hc : ps[m]? = some c) (hR : (if m < c.kids.length then none else growKidsRef (growRef ps fu) c.kids.reverse m []) = some (ts, l2)) : growRef ps (fu + 1) (m + 1) = (match nodeTxt c ts with | none => none | some t => some (t, l2)) := by
  simp only [growRef, Nat.add_sub_cancel]
  rw [hc]
  simp only
  by_cases h : m < c.kids.length
  · rw [if_pos h] at hR; simp at hR
  · rw [if_neg h] at hR ⊢; rw [hR]; rfl

set_option maxHeartbeats 2000000 in
set_option maxRecDepth 100000 in
theorem grow_step {ps : List Pc} {fu : Nat} (hg : GrowC ps fu) (hps : ps.length ≤ 240) (hp64 : ∀ x ∈ ps, B64 x.min ∧ B64 x.max) (hsz : ∀ x ∈ ps, x.set.length ≤ 10000000 ∧ x.kids.length ≤ 10000000) : GrowC ps (fu + 1) := by
  intro w G v L l B hP hL hG hl1 hlf hlp hGB hB
  have hLlen : L.length = ps.length := by rw [← hL, List.length_map]
  obtain ⟨m, rfl⟩ : ∃ m, l = m + 1 := ⟨l - 1, by omega⟩
  have hlt : m < L.length := by omega
  have hrow := hP.row
  obtain ⟨ao, cap, rfl⟩ := own_form hrow
  obtain ⟨g, rfl⟩ := row_fm hrow (by omega)
  have c0 := hG.c0
  have c1 := hG.c1
  have cf := hG.fz
  have e1 : IntKind.i64.wrap (((m + 1 : Nat) : Int) - 1) = (m : Int) := by rw [IntWalk.i64_in _ (by omega)]; omega
  have HLlen : Hid (L.length = ps.length) := hLlen
  clear hLlen
  go_enter Tryz.func80, Tryz.ntmps80
  go_upto_region 2 with fail
  have hP1 := hP.keepsG hG (keepsS w G 1 (.int .i64 m))
  have hG1 := hG.set1 (m : Int)
  have hk1 := keepsS w G 1 (.int .i64 (m : Int))
  clear c0 c1 cf hP hG hrow
  generalize w.setCell ⟨G, 1, none⟩ (.int .i64 (m : Int)) = w1 at hP1 hG1 hk1 ⊢
  have c0 := hG1.c0
  have c1 := hG1.c1
  have hcells := hP1.cells hlt
  have kA : ∀ o, Keeps (fun _ => False) w1 (w1.alloc o) := fun o => (Keeps.refl _ _).alloc _
  have C0 := fun o => (hG1.keeps (kA o) (fun h => h)).c0
  have C1 := fun o => (hG1.keeps (kA o) (fun h => h)).c1
  have hcellsA := fun o => (hP1.sameW (kA o)).cells hlt
  have hO := hP1.rows _ (List.getElem_mem hlt)
  have hpc : ps[m]? = some (L[m]'hlt).1 := by rw [← hL, List.getElem?_map, List.getElem?_eq_getElem hlt]; rfl
  generalize L[m]'hlt = x at hcells hcellsA hO hpc
  obtain ⟨c, sv, kv⟩ := x
  simp only at hcells hcellsA hpc
  obtain ⟨d0, d1, d2, d3, d4, d5, d6⟩ := hcells
  have D0 := fun o => (hcellsA o).1
  have D1 := fun o => (hcellsA o).2.1
  have D2 := fun o => (hcellsA o).2.2.1
  have D3 := fun o => (hcellsA o).2.2.2.1
  have D4 := fun o => (hcellsA o).2.2.2.2.1
  have D5 := fun o => (hcellsA o).2.2.2.2.2.1
  have D6 := fun o => (hcellsA o).2.2.2.2.2.2
  clear hcellsA
  have hmz : (m : Int) < (L.length : Int) := by omega
  obtain ⟨a5, c5, e5⟩ := own_form hO.1
  obtain ⟨a6, c6, e6⟩ := own_form hO.2
  simp only at e5 e6
  subst e5 e6
  have hmem := List.mem_of_getElem? hpc
  have h64 := hp64 c hmem
  have hsm := hsz c hmem
  go_region
  have kB : Keeps (fun _ => False) w1 (w1.alloc (.cells #[.int .i64 c.kind, .slice a5 c.set.length c5, .int .i64 c.min, .int .i64 c.max, .bool c.lazy, .int .i64 c.num, .slice a6 c.kids.length c6] 142)).drew := (kA _).drew
  have hv : Pv (w1.alloc (.cells #[.int .i64 c.kind, .slice a5 c.set.length c5, .int .i64 c.min, .int .i64 c.max, .bool c.lazy, .int .i64 c.num, .slice a6 c.kids.length c6] 142)).drew w1.heap.size c (.slice a5 c.set.length c5) (.slice a6 c.kids.length c6) := heap_alloc_new w1 _
  have hGP : G < w1.heap.size := hG1.lt
  have hs1 := hk1.size
  clear c0 c1 C0 C1 d0 d1 d2 d3 d4 d5 d6 D0 D1 D2 D3 D4 D5 D6 kA e1
  generalize (w1.alloc (.cells #[.int .i64 c.kind, .slice a5 c.set.length c5, .int .i64 c.min, .int .i64 c.max, .bool c.lazy, .int .i64 c.num, .slice a6 c.kids.length c6] 142)).drew = w2 at kB hv ⊢
  have hP2 := hP1.sameW kB
  have hG2 := hG1.keeps kB (fun h => h)
  have hO2 := hO.same kB
  have hk2 := hk1.trans kB.none
  clear hP1 hG1 hO hk1
  generalize w1.heap.size = P at hv hGP ⊢
  have hs2 := hk2.size
  have hcall := growKids_any hg hP2 hL hps hG2 (by omega) (by omega) hGB (by omega : B ≤ w2.heap.size) hO2.2 hsm.2
  have q6 := hv.c6
  simp only at hcall
  cases hR : (if m < c.kids.length then none else growKidsRef (growRef ps fu) c.kids.reverse m []) with
  | none =>
    have HR : Hid (growRef ps (fu + 1) (m + 1) = none) := growRef_none hpc hR
    rw [hR] at hcall
    clear hR
    go_wp2_with (first
      | (go_at_call 112; refine hcall.mono ?_; rintro e w3 ⟨l', rfl, hG3, hk3⟩))
    go_ret
    unfold GrowPost
    rw [HR.out]
    exact ⟨l', rfl, hG3, hk2.trans hk3⟩
  | some r =>
    obtain ⟨ts, l2⟩ := r
    have hkl : c.kids.length ≤ m := by
      apply Decidable.byContradiction; intro hn; rw [if_pos (by omega)] at hR; simp at hR
    have HR : Hid (growRef ps (fu + 1) (m + 1) = (match nodeTxt c ts with | none => none | some t => some (t, l2))) := growRef_node hpc hR
    rw [hR] at hcall
    clear hR
    go_wp2_with (first
      | (go_at_call 112; refine hcall.mono ?_; rintro e w3 ⟨gk, vs, rfl, hrow3, hvl, htl, hW3, hG3, hk3⟩; have hv3 := hv.keeps hk3 (by omega); have q0 := hv3.c0; have q1 := hv3.c1; have q2 := hv3.c2; have q3 := hv3.c3; have q4 := hv3.c4; have q5 := hv3.c5; have q7 := hv3.c6; have HVL : Hid (vs.length = c.kids.length) := hvl; have HTL : Hid (ts.length = c.kids.length) := htl; clear hvl htl)
      | (go_at_call 113; refine (nodeOf_any (p := c) (vs := vs) (ts := ts) (D := fun k => B ≤ k) ⟨ownsRow_keeps hO2.1 hk3 (fun i hi he => own_not_at hO2.1 hG2 (by decide) (he ▸ hi)), ownsRow_keeps hO2.2 hk3 (fun i hi he => own_not_at hO2.2 hG2 (by decide) (he ▸ hi))⟩ h64.1 h64.2 hsm.1 (by rw [HVL.out]; exact ownsRow_base hrow3 (fun _ _ => Nat.zero_le _)) (fun k hk => (hrow3.lt k hk).1) (HTL.out.trans HVL.out.symm) (by rw [HVL.out]; omega) hW3).mono ?_; rintro e w4 ⟨x, rfl, hx, hk4⟩))
    go_ret
    unfold GrowPost
    rw [HR.out]
    cases hn : nodeTxt c ts with
    | none => rw [hn] at hx; subst hx; exact ⟨l2, rfl, hG3.keeps hk4 (fun h => h), (hk2.trans hk3).trans hk4.none⟩
    | some t => rw [hn] at hx; exact ⟨x, rfl, hx, hG3.keeps hk4 (fun h => h), (hk2.trans hk3).trans hk4.none⟩

theorem grow_all {ps : List Pc} (hps : ps.length ≤ 240) (hp64 : ∀ x ∈ ps, B64 x.min ∧ B64 x.max) (hsz : ∀ x ∈ ps, x.set.length ≤ 10000000 ∧ x.kids.length ≤ 10000000) (fu : Nat) : GrowC ps fu := by
  induction fu with
  | zero => intro w G v L l B _ _ _ h1 h2; omega
  | succ fu ih => exact grow_step ih hps hp64 hsz

end Go.Proofs.YtmlgmhnplicflaaGreatDoor

/-
  The program's nodes out of pieces: the tree.
-/
namespace Go.Proofs.YtmlgmhnplicflaaGreatDoor
open Go.RowKit
set_option linter.unusedVariables false

def TreePostW (ps : List Pc) (w : World) (e : Ending) (w' : World) : Prop :=
  ∃ x, e = .returned x ∧ (match treeTxt ps with | none => x = .nilIface | some t => Wd w' (fun k => w.heap.size ≤ k) x t) ∧ Keeps (fun _ => False) w w'
theorem treePostW_none {ps : List Pc} {w w' : World} (h : treeTxt ps = none) (hk : Keeps (fun _ => False) w w') : TreePostW ps w (.returned .nilIface) w' := by
  unfold TreePostW; rw [h]; exact ⟨_, rfl, rfl, hk⟩
theorem treePostW_some {ps : List Pc} {t : Tx} {x : Value} {w w' : World} (h : treeTxt ps = some t) (hx : Wd w' (fun k => w.heap.size ≤ k) x t) (hk : Keeps (fun _ => False) w w') : TreePostW ps w (.returned x) w' := by
  unfold TreePostW; rw [h]; exact ⟨_, rfl, hx, hk⟩

set_option maxHeartbeats 1000000 in
set_option maxRecDepth 100000 in
theorem treeOf_any {w : World} {v : Value} {L : List Pm} {ps : List Pc} (hP : Pcs w v L) (hL : L.map (·.1) = ps) (hbig : ps.length ≤ 10000000) (hp64 : ∀ x ∈ ps, B64 x.min ∧ B64 x.max) (hsz : ∀ x ∈ ps, x.set.length ≤ 10000000 ∧ x.kids.length ≤ 10000000) :
    Calls Tryz.prog 47 #[v] w (TreePostW ps w) := by
  have hLlen : L.length = ps.length := by rw [← hL, List.length_map]
  obtain ⟨ao, cap, rfl⟩ := own_form hP.row
  by_cases h0 : ps.length = 0
  · have HT : Hid (treeTxt ps = none) := (by show _ = _; unfold treeTxt; rw [if_pos (Or.inl h0)])
    have hz : ((L.length : Int) == 0) = true := beq_iff_eq.2 (by omega)
    have hz0 : L.length = 0 := by omega
    clear hLlen h0
    go_enter Tryz.func47, Tryz.ntmps47
    go_wp2
    go_ret
    exact treePostW_none HT.out (Keeps.refl _ _)
  · have hzb : ((L.length : Int) == 0) = false := beq_eq_false_iff_ne.2 (by omega)
    by_cases h1 : 240 < ps.length
    · have HT : Hid (treeTxt ps = none) := (by show _ = _; unfold treeTxt; rw [if_pos (Or.inr h1)])
      have hg : (240 : Int) < (L.length : Int) := by omega
      clear hLlen h0
      go_enter Tryz.func47, Tryz.ntmps47
      go_wp2
      go_ret
      exact treePostW_none HT.out (Keeps.refl _ _)
    · have hg : ¬ (240 : Int) < (L.length : Int) := by omega
      have HL2 : Hid (L.length = ps.length) := hLlen
      have kA : Keeps (fun _ => False) w (w.alloc (.cells #[.slice ao L.length cap, .int .i64 L.length] 160)) := (Keeps.refl _ _).alloc _
      have hG : Gw (w.alloc (.cells #[.slice ao L.length cap, .int .i64 L.length] 160)) w.heap.size (.slice ao L.length cap) (L.length : Nat) := heap_alloc_new w _
      have hcall := grow_all (by omega) hp64 hsz ps.length _ w.heap.size _ L L.length (w.heap.size + 1) (hP.sameW kA) hL hG (by omega) (by omega) (by omega) (by omega) (by simp)
      have HT : Hid (treeTxt ps = match growRef ps ps.length L.length with | some (t, l2) => if l2 = 0 then some t else none | none => none) := (by show _ = _; unfold treeTxt; rw [if_neg (by omega), hLlen]; rfl)
      clear hLlen
      cases hgr : growRef ps ps.length L.length with
      | none =>
        rw [hgr] at hcall HT
        clear hgr
        go_enter Tryz.func47, Tryz.ntmps47
        go_wp2_with (first
          | (go_at_call 80; refine hcall.mono ?_; rintro e w2 ⟨l', rfl, hG2, hk2⟩; have c1 := hG2.c1))
        all_goals go_ret
        all_goals exact treePostW_none HT.out (kA.trans' hk2 (fun i hi h => by omega))
      | some r =>
        obtain ⟨t, l2⟩ := r
        rw [hgr] at hcall HT
        clear hgr
        by_cases hz : l2 = 0
        · have HT2 : Hid (treeTxt ps = some t) := (by show _ = _; have := HT.out; simp only at this; rw [if_pos hz] at this; exact this)
          subst hz
          go_enter Tryz.func47, Tryz.ntmps47
          go_wp2_with (first
            | (go_at_call 80; refine hcall.mono ?_; rintro e w2 ⟨x, rfl, hW, hG2, hk2⟩; obtain ⟨ty, y, rfl⟩ := hW.iface; have c1 := hG2.c1))
          go_ret
          exact treePostW_some HT2.out (hW.mono (fun k hk _ => by omega)) (kA.trans' hk2 (fun i hi h => by omega))
        · have HT2 : Hid (treeTxt ps = none) := (by show _ = _; have := HT.out; simp only at this; rw [if_neg hz] at this; exact this)
          have hlz : (0 : Int) < (l2 : Int) := by omega
          go_enter Tryz.func47, Tryz.ntmps47
          go_wp2_with (first
            | (go_at_call 80; refine hcall.mono ?_; rintro e w2 ⟨x, rfl, hW, hG2, hk2⟩; obtain ⟨ty, y, rfl⟩ := hW.iface; have c1 := hG2.c1))
          go_ret
          exact treePostW_none HT2.out (kA.trans' hk2 (fun i hi h => by omega))

end Go.Proofs.YtmlgmhnplicflaaGreatDoor
