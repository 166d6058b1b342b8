import Derived.Test.YtmlgmhnplicflaaGreatDoorAF
import Derived.Test.YtmlgmhnplicflaaGreatDoorAJ

/-
  The specification writes a pattern: what a call is asked for; the two marks.
-/
namespace Go.Proofs.YtmlgmhnplicflaaGreatDoor
open Go.RowKit
set_option linter.unusedVariables false

theorem l1b {w : World} {n : Int} (h0 : 0 ≤ n) (h1 : n ≤ 255) : Calls Tryz.prog 85 #[.int .i64 n] w fun e w' => e = .returned (.string (tb (Esc.esc n))) ∧ Keeps (fun _ => False) w w' :=
  (Esc.l1byte_any n w h0 h1).mono fun e w' h => ⟨by rw [h.1, esc_tb], Keeps.ofBelow h.2 (fun k hk hlt => by omega)⟩

/-- The pieces of a sound list, in a variable of the call's own. -/
structure Src (w : World) (v : Value) (L : List Pm) (ps : List Pc) : Prop where
  pcs : Pcs w v L
  map : L.map (·.1) = ps
  sane : Sane ps

def WriteC (ps : List Pc) (n : Nat) : Prop :=
  ∀ (w : World) (v : Value) (L : List Pm) (ok : Bool) (at_ gr : Int) (i : Nat), Src w v L ps → i < n → i < ps.length →
    Calls Tryz.prog 51 #[.agg #[.bool ok, .int .i64 at_, .int .i64 gr, v], .int .i64 i] w fun e w' => e = .returned (.string (tb (wr ps i))) ∧ Keeps (fun _ => False) w w'

set_option maxHeartbeats 4000000 in
set_option maxRecDepth 100000 in
theorem write_6 {ps : List Pc} {n : Nat} (ih : WriteC ps n) {c : Pc} : ∀ (w : World) (v : Value) (L : List Pm) (ok : Bool) (at_ gr : Int) (i : Nat), Src w v L ps → i < n + 1 → i < ps.length → ps[i]? = some c → c.kind = 6 →
    Calls Tryz.prog 51 #[.agg #[.bool ok, .int .i64 at_, .int .i64 gr, v], .int .i64 i] w fun e w' => e = .returned (.string (tb (wr ps i))) ∧ Keeps (fun _ => False) w w' := by
  intro w v L ok at_ gr i hS hin hip hpx hkind
  obtain ⟨hP, hL, hs⟩ := hS
  obtain ⟨ao, cap, rfl⟩ := own_form hP.row
  have hLl : L.length = ps.length := by rw [← hL, List.length_map]
  have hlt : i < L.length := by omega
  have hle := hs.len i hip
  have hi480 := hs.few
  have hkids := hs.kids i c hpx
  obtain ⟨g, rfl⟩ := row_fm hP.row (by omega)
  have kA : ∀ o, Keeps (fun _ => False) w (w.alloc o) := fun o => (Keeps.refl _ _).alloc _
  have hA := fun o => (hP.sameW (kA o)).cells hlt
  have o1 := hP.rows _ (List.getElem_mem hlt)
  have hpy : ps[i]? = some (L[i]'hlt).1 := by rw [← hL, List.getElem?_map, List.getElem?_eq_getElem hlt]; rfl
  have hiz : (i : Int) < (L.length : Int) := by omega
  generalize L[i]'hlt = x at hA o1 hpy
  obtain ⟨c', s1, k1⟩ := x
  rw [hpx] at hpy
  simp only [Option.some.injEq] at hpy
  subst hpy
  obtain ⟨as1, cs1, e1⟩ := own_form o1.1
  obtain ⟨as2, cs2, e2⟩ := own_form o1.2
  simp only at e1 e2 hA
  subst e1 e2
  have q0 := fun o => (hA o).1
  have q1 := fun o => (hA o).2.1
  have q2 := fun o => (hA o).2.2.1
  have q3 := fun o => (hA o).2.2.2.1
  have q4 := fun o => (hA o).2.2.2.2.1
  have q5 := fun o => (hA o).2.2.2.2.2.1
  have q6 := fun o => (hA o).2.2.2.2.2.2
  rw [hkind] at q0
  clear hA
  have HW : Hid (wr ps i = body c (wrs ps i)) := wr_body hpx
  have HLL : Hid (L.length = ps.length) := hLl
  clear hLl
  go_enter Tryz.func51, Tryz.ntmps51
  go_upto_region 3 with fail
  have kB : Keeps (fun _ => False) w ((w.alloc (.cells #[.bool ok, .int .i64 at_, .int .i64 gr, .slice (some ⟨g, 0, none⟩) L.length cap] 33)).alloc (.cells #[.int .i64 6, .slice as1 c.set.length cs1, .int .i64 c.min, .int .i64 c.max, .bool c.lazy, .int .i64 c.num, .slice as2 c.kids.length cs2] 142)) := (kA _).alloc _
  have p0 : Pt ((w.alloc (.cells #[.bool ok, .int .i64 at_, .int .i64 gr, .slice (some ⟨g, 0, none⟩) L.length cap] 33)).alloc (.cells #[.int .i64 6, .slice as1 c.set.length cs1, .int .i64 c.min, .int .i64 c.max, .bool c.lazy, .int .i64 c.num, .slice as2 c.kids.length cs2] 142)) w.heap.size ok at_ gr (.slice (some ⟨g, 0, none⟩) L.length cap) := box1 w _ _
  have p1 : ((w.alloc (.cells #[.bool ok, .int .i64 at_, .int .i64 gr, .slice (some ⟨g, 0, none⟩) L.length cap] 33)).alloc (.cells #[.int .i64 6, .slice as1 c.set.length cs1, .int .i64 c.min, .int .i64 c.max, .bool c.lazy, .int .i64 c.num, .slice as2 c.kids.length cs2] 142)).heap[w.heap.size + 1]? = some (.cells #[.int .i64 6, .slice as1 c.set.length cs1, .int .i64 c.min, .int .i64 c.max, .bool c.lazy, .int .i64 c.num, .slice as2 c.kids.length cs2] 142 (0, 0)) := box2 w _ _
  generalize ((w.alloc (.cells #[.bool ok, .int .i64 at_, .int .i64 gr, .slice (some ⟨g, 0, none⟩) L.length cap] 33)).alloc (.cells #[.int .i64 6, .slice as1 c.set.length cs1, .int .i64 c.min, .int .i64 c.max, .bool c.lazy, .int .i64 c.num, .slice as2 c.kids.length cs2] 142)) = w2 at kB p0 p1 ⊢
  clear q0 q1 q2 q3 q4 q5 q6
  have o2 := o1.same kB
  have hP2 := hP.sameW kB
  generalize w.heap.size = P0 at p0 p1 ⊢
  have r0 : w2.cell? ⟨P0 + 1, 0, none⟩ = some (.int .i64 6) := by rw [cell_of p1]; rfl
  have HE : Hid (wr ps i = [94]) := (by show _ = _; rw [HW.out]; simp [body, hkind])
  clear hkind
  go_wp2
  go_ret
  exact ⟨by rw [HE.out]; rfl, kB⟩

set_option maxHeartbeats 4000000 in
set_option maxRecDepth 100000 in
theorem write_7 {ps : List Pc} {n : Nat} (ih : WriteC ps n) {c : Pc} : ∀ (w : World) (v : Value) (L : List Pm) (ok : Bool) (at_ gr : Int) (i : Nat), Src w v L ps → i < n + 1 → i < ps.length → ps[i]? = some c → c.kind = 7 →
    Calls Tryz.prog 51 #[.agg #[.bool ok, .int .i64 at_, .int .i64 gr, v], .int .i64 i] w fun e w' => e = .returned (.string (tb (wr ps i))) ∧ Keeps (fun _ => False) w w' := by
  intro w v L ok at_ gr i hS hin hip hpx hkind
  obtain ⟨hP, hL, hs⟩ := hS
  obtain ⟨ao, cap, rfl⟩ := own_form hP.row
  have hLl : L.length = ps.length := by rw [← hL, List.length_map]
  have hlt : i < L.length := by omega
  have hle := hs.len i hip
  have hi480 := hs.few
  have hkids := hs.kids i c hpx
  obtain ⟨g, rfl⟩ := row_fm hP.row (by omega)
  have kA : ∀ o, Keeps (fun _ => False) w (w.alloc o) := fun o => (Keeps.refl _ _).alloc _
  have hA := fun o => (hP.sameW (kA o)).cells hlt
  have o1 := hP.rows _ (List.getElem_mem hlt)
  have hpy : ps[i]? = some (L[i]'hlt).1 := by rw [← hL, List.getElem?_map, List.getElem?_eq_getElem hlt]; rfl
  have hiz : (i : Int) < (L.length : Int) := by omega
  generalize L[i]'hlt = x at hA o1 hpy
  obtain ⟨c', s1, k1⟩ := x
  rw [hpx] at hpy
  simp only [Option.some.injEq] at hpy
  subst hpy
  obtain ⟨as1, cs1, e1⟩ := own_form o1.1
  obtain ⟨as2, cs2, e2⟩ := own_form o1.2
  simp only at e1 e2 hA
  subst e1 e2
  have q0 := fun o => (hA o).1
  have q1 := fun o => (hA o).2.1
  have q2 := fun o => (hA o).2.2.1
  have q3 := fun o => (hA o).2.2.2.1
  have q4 := fun o => (hA o).2.2.2.2.1
  have q5 := fun o => (hA o).2.2.2.2.2.1
  have q6 := fun o => (hA o).2.2.2.2.2.2
  rw [hkind] at q0
  clear hA
  have HW : Hid (wr ps i = body c (wrs ps i)) := wr_body hpx
  have HLL : Hid (L.length = ps.length) := hLl
  clear hLl
  go_enter Tryz.func51, Tryz.ntmps51
  go_upto_region 3 with fail
  have kB : Keeps (fun _ => False) w ((w.alloc (.cells #[.bool ok, .int .i64 at_, .int .i64 gr, .slice (some ⟨g, 0, none⟩) L.length cap] 33)).alloc (.cells #[.int .i64 7, .slice as1 c.set.length cs1, .int .i64 c.min, .int .i64 c.max, .bool c.lazy, .int .i64 c.num, .slice as2 c.kids.length cs2] 142)) := (kA _).alloc _
  have p0 : Pt ((w.alloc (.cells #[.bool ok, .int .i64 at_, .int .i64 gr, .slice (some ⟨g, 0, none⟩) L.length cap] 33)).alloc (.cells #[.int .i64 7, .slice as1 c.set.length cs1, .int .i64 c.min, .int .i64 c.max, .bool c.lazy, .int .i64 c.num, .slice as2 c.kids.length cs2] 142)) w.heap.size ok at_ gr (.slice (some ⟨g, 0, none⟩) L.length cap) := box1 w _ _
  have p1 : ((w.alloc (.cells #[.bool ok, .int .i64 at_, .int .i64 gr, .slice (some ⟨g, 0, none⟩) L.length cap] 33)).alloc (.cells #[.int .i64 7, .slice as1 c.set.length cs1, .int .i64 c.min, .int .i64 c.max, .bool c.lazy, .int .i64 c.num, .slice as2 c.kids.length cs2] 142)).heap[w.heap.size + 1]? = some (.cells #[.int .i64 7, .slice as1 c.set.length cs1, .int .i64 c.min, .int .i64 c.max, .bool c.lazy, .int .i64 c.num, .slice as2 c.kids.length cs2] 142 (0, 0)) := box2 w _ _
  generalize ((w.alloc (.cells #[.bool ok, .int .i64 at_, .int .i64 gr, .slice (some ⟨g, 0, none⟩) L.length cap] 33)).alloc (.cells #[.int .i64 7, .slice as1 c.set.length cs1, .int .i64 c.min, .int .i64 c.max, .bool c.lazy, .int .i64 c.num, .slice as2 c.kids.length cs2] 142)) = w2 at kB p0 p1 ⊢
  clear q0 q1 q2 q3 q4 q5 q6
  have o2 := o1.same kB
  have hP2 := hP.sameW kB
  generalize w.heap.size = P0 at p0 p1 ⊢
  have r0 : w2.cell? ⟨P0 + 1, 0, none⟩ = some (.int .i64 7) := by rw [cell_of p1]; rfl
  have HE : Hid (wr ps i = [36]) := (by show _ = _; rw [HW.out]; simp [body, hkind])
  clear hkind
  go_wp2
  go_ret
  exact ⟨by rw [HE.out]; rfl, kB⟩

end Go.Proofs.YtmlgmhnplicflaaGreatDoor

/-
  The specification writes a pattern: groups.
-/
namespace Go.Proofs.YtmlgmhnplicflaaGreatDoor
open Go.RowKit
set_option linter.unusedVariables false

set_option maxHeartbeats 4000000 in
set_option maxRecDepth 100000 in
theorem write_5 {ps : List Pc} {n : Nat} (ih : WriteC ps n) {c : Pc} : ∀ (w : World) (v : Value) (L : List Pm) (ok : Bool) (at_ gr : Int) (i : Nat), Src w v L ps → i < n + 1 → i < ps.length → ps[i]? = some c → c.kind = 5 →
    Calls Tryz.prog 51 #[.agg #[.bool ok, .int .i64 at_, .int .i64 gr, v], .int .i64 i] w fun e w' => e = .returned (.string (tb (wr ps i))) ∧ Keeps (fun _ => False) w w' := by
  intro w v L ok at_ gr i hS hin hip hpx hkind
  obtain ⟨hP, hL, hs⟩ := hS
  obtain ⟨ao, cap, rfl⟩ := own_form hP.row
  have hLl : L.length = ps.length := by rw [← hL, List.length_map]
  have hlt : i < L.length := by omega
  have hle := hs.len i hip
  have hi480 := hs.few
  have hkids := hs.kids i c hpx
  obtain ⟨g, rfl⟩ := row_fm hP.row (by omega)
  have kA : ∀ o, Keeps (fun _ => False) w (w.alloc o) := fun o => (Keeps.refl _ _).alloc _
  have hA := fun o => (hP.sameW (kA o)).cells hlt
  have o1 := hP.rows _ (List.getElem_mem hlt)
  have hpy : ps[i]? = some (L[i]'hlt).1 := by rw [← hL, List.getElem?_map, List.getElem?_eq_getElem hlt]; rfl
  have hiz : (i : Int) < (L.length : Int) := by omega
  generalize L[i]'hlt = x at hA o1 hpy
  obtain ⟨c', s1, k1⟩ := x
  rw [hpx] at hpy
  simp only [Option.some.injEq] at hpy
  subst hpy
  obtain ⟨as1, cs1, e1⟩ := own_form o1.1
  obtain ⟨as2, cs2, e2⟩ := own_form o1.2
  simp only at e1 e2 hA
  subst e1 e2
  have q0 := fun o => (hA o).1
  have q1 := fun o => (hA o).2.1
  have q2 := fun o => (hA o).2.2.1
  have q3 := fun o => (hA o).2.2.2.1
  have q4 := fun o => (hA o).2.2.2.2.1
  have q5 := fun o => (hA o).2.2.2.2.2.1
  have q6 := fun o => (hA o).2.2.2.2.2.2
  rw [hkind] at q0
  clear hA
  have HW : Hid (wr ps i = body c (wrs ps i)) := wr_body hpx
  have HLL : Hid (L.length = ps.length) := hLl
  clear hLl
  go_enter Tryz.func51, Tryz.ntmps51
  go_upto_region 3 with fail
  have kB : Keeps (fun _ => False) w ((w.alloc (.cells #[.bool ok, .int .i64 at_, .int .i64 gr, .slice (some ⟨g, 0, none⟩) L.length cap] 33)).alloc (.cells #[.int .i64 5, .slice as1 c.set.length cs1, .int .i64 c.min, .int .i64 c.max, .bool c.lazy, .int .i64 c.num, .slice as2 c.kids.length cs2] 142)) := (kA _).alloc _
  have p0 : Pt ((w.alloc (.cells #[.bool ok, .int .i64 at_, .int .i64 gr, .slice (some ⟨g, 0, none⟩) L.length cap] 33)).alloc (.cells #[.int .i64 5, .slice as1 c.set.length cs1, .int .i64 c.min, .int .i64 c.max, .bool c.lazy, .int .i64 c.num, .slice as2 c.kids.length cs2] 142)) w.heap.size ok at_ gr (.slice (some ⟨g, 0, none⟩) L.length cap) := box1 w _ _
  have p1 : ((w.alloc (.cells #[.bool ok, .int .i64 at_, .int .i64 gr, .slice (some ⟨g, 0, none⟩) L.length cap] 33)).alloc (.cells #[.int .i64 5, .slice as1 c.set.length cs1, .int .i64 c.min, .int .i64 c.max, .bool c.lazy, .int .i64 c.num, .slice as2 c.kids.length cs2] 142)).heap[w.heap.size + 1]? = some (.cells #[.int .i64 5, .slice as1 c.set.length cs1, .int .i64 c.min, .int .i64 c.max, .bool c.lazy, .int .i64 c.num, .slice as2 c.kids.length cs2] 142 (0, 0)) := box2 w _ _
  generalize ((w.alloc (.cells #[.bool ok, .int .i64 at_, .int .i64 gr, .slice (some ⟨g, 0, none⟩) L.length cap] 33)).alloc (.cells #[.int .i64 5, .slice as1 c.set.length cs1, .int .i64 c.min, .int .i64 c.max, .bool c.lazy, .int .i64 c.num, .slice as2 c.kids.length cs2] 142)) = w2 at kB p0 p1 ⊢
  clear q0 q1 q2 q3 q4 q5 q6
  have o2 := o1.same kB
  have hP2 := hP.sameW kB
  generalize w.heap.size = P0 at p0 p1 ⊢
  have hk1 : c.kids.length = 1 := by
    have := hs.head i c hpx
    unfold headBad at this
    omega
  obtain ⟨kk, hkk⟩ := List.length_eq_one_iff.1 hk1
  have hkr := hkids kk (by rw [hkk]; simp)
  obtain ⟨m, rfl⟩ := Int.eq_ofNat_of_zero_le hkr.1
  have hmi : m < i := by omega
  have hK2 := o2.2
  simp only at hK2
  rw [hkk] at hK2
  obtain ⟨g2, rfl⟩ := row_fm hK2 (by simp)
  have z1 : w2.cell? ⟨g2, 0, none⟩ = some (.int .i64 m) := by rw [hK2.cellAt 0 (by simp)]; rfl
  have HE : Hid (wr ps i = 40 :: (wr ps m ++ [41])) := (by show _ = _; rw [HW.out]; simp only [body, hkind]; rw [hkk]; simp [wrs_below ps hmi])
  have hlm := hs.len m (by omega)
  have r0 : w2.cell? ⟨P0 + 1, 0, none⟩ = some (.int .i64 5) := by rw [cell_of p1]; rfl
  have r6 : w2.cell? ⟨P0 + 1, 6, none⟩ = some (.slice (some ⟨g2, 0, none⟩) c.kids.length cs2) := by rw [cell_of p1]; rfl
  have a0 := p0.c0; have a1 := p0.c1; have a2 := p0.c2; have a3 := p0.c3
  have hcall := fun w9 (k9 : Keeps (fun _ => False) w2 w9) => ih w9 _ L ok at_ gr m ⟨hP2.sameW k9, hL, hs⟩ (by omega) (by omega)
  have hsz : (tb (wr ps m)).size ≤ 700000 := by rw [tb_size]; omega
  rw [hk1] at r6
  clear hkind hkids
  have hsz1 : ¬ 9223372036854775807 < 1 + (tb (wr ps m)).size := by omega
  have hsz2 : ¬ 9223372036854775807 < 1 + (tb (wr ps m)).size + 1 := by omega
  have HS : Hid ((⟨#[40]⟩ : ByteArray) ++ tb (wr ps m) ++ ⟨#[41]⟩ = tb (40 :: (wr ps m ++ [41]))) := (by
    show _ = _
    rw [show (⟨#[40]⟩ : ByteArray) = tb [40] from rfl, show (⟨#[41]⟩ : ByteArray) = tb [41] from rfl, tb_append, tb_append]
    simp)
  have hc2 := hcall w2.drew ((Keeps.refl _ _).drew)
  clear hcall
  generalize tb (wr ps m) = T at hc2 hsz hsz1 hsz2 HS
  clear hkk hk1 hL hs hkr hmi hK2 hlm hle hi480 hP hP2 o1 o2 p0 p1 hsz ih hpx kA hlt hiz hip hin
  go_wp2
  go_region_with (first
    | (go_at_call 51; refine hc2.mono ?_; rintro e w3 ⟨rfl, hk3⟩))
  all_goals go_wp2
  all_goals go_ret
  all_goals exact ⟨by rw [HE.out, ← HS.out]; rfl, kB.trans (hkd hk3)⟩

end Go.Proofs.YtmlgmhnplicflaaGreatDoor
