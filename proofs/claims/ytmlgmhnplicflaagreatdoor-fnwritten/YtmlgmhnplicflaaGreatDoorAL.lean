import Derived.Test.YtmlgmhnplicflaaGreatDoorAK
import Derived.Deep.DeepCutAuto

/-
  The specification writes a pattern: counts.
-/
namespace Go.Proofs.YtmlgmhnplicflaaGreatDoor
open Go.RowKit
set_option linter.unusedVariables false

theorem app_tb0 (x : ByteArray) : x ++ tb [] = x := by
  rw [show tb [] = ByteArray.empty from rfl]; simp
theorem blkK {w w' : World} {b : Nat} {o : Obj} (h : w.heap[b]? = some o) (k : Keeps (fun _ => False) w w') : w'.heap[b]? = some o := by
  rw [k.block b (lt_of_block h) (fun h => h)]; exact h

set_option maxHeartbeats 4000000 in
set_option maxRecDepth 100000 in
theorem write_4 {ps : List Pc} {n : Nat} (ih : WriteC ps n) {c : Pc} : ∀ (w : World) (v : Value) (L : List Pm) (ok : Bool) (at_ gr : Int) (i : Nat), Src w v L ps → i < n + 1 → i < ps.length → ps[i]? = some c → c.kind = 4 →
    Calls Tryz.prog 51 #[.agg #[.bool ok, .int .i64 at_, .int .i64 gr, v], .int .i64 i] w fun e w' => e = .returned (.string (tb (wr ps i))) ∧ Keeps (fun _ => False) w w' := by
  intro w v L ok at_ gr i hS hin hip hpx hkind
  obtain ⟨hP, hL, hs⟩ := hS
  obtain ⟨ao, cap, rfl⟩ := own_form hP.row
  have hLl : L.length = ps.length := by rw [← hL, List.length_map]
  have hlt : i < L.length := by omega
  have hle := hs.len i hip
  have hi480 := hs.few
  have hkids := hs.kids i c hpx
  obtain ⟨g, rfl⟩ := row_fm hP.row (by omega)
  have kA : ∀ o, Keeps (fun _ => False) w (w.alloc o) := fun o => (Keeps.refl _ _).alloc _
  have hA := fun o => (hP.sameW (kA o)).cells hlt
  have o1 := hP.rows _ (List.getElem_mem hlt)
  have hpy : ps[i]? = some (L[i]'hlt).1 := by rw [← hL, List.getElem?_map, List.getElem?_eq_getElem hlt]; rfl
  have hiz : (i : Int) < (L.length : Int) := by omega
  generalize L[i]'hlt = x at hA o1 hpy
  obtain ⟨c', s1, k1⟩ := x
  rw [hpx] at hpy
  simp only [Option.some.injEq] at hpy
  subst hpy
  obtain ⟨as1, cs1, e1⟩ := own_form o1.1
  obtain ⟨as2, cs2, e2⟩ := own_form o1.2
  simp only at e1 e2 hA
  subst e1 e2
  have q0 := fun o => (hA o).1
  have q1 := fun o => (hA o).2.1
  have q2 := fun o => (hA o).2.2.1
  have q3 := fun o => (hA o).2.2.2.1
  have q4 := fun o => (hA o).2.2.2.2.1
  have q5 := fun o => (hA o).2.2.2.2.2.1
  have q6 := fun o => (hA o).2.2.2.2.2.2
  rw [hkind] at q0
  clear hA
  have HW : Hid (wr ps i = body c (wrs ps i)) := wr_body hpx
  have HLL : Hid (L.length = ps.length) := hLl
  clear hLl
  go_enter Tryz.func51, Tryz.ntmps51
  go_upto_region 3 with fail
  have kB : Keeps (fun _ => False) w ((w.alloc (.cells #[.bool ok, .int .i64 at_, .int .i64 gr, .slice (some ⟨g, 0, none⟩) L.length cap] 33)).alloc (.cells #[.int .i64 4, .slice as1 c.set.length cs1, .int .i64 c.min, .int .i64 c.max, .bool c.lazy, .int .i64 c.num, .slice as2 c.kids.length cs2] 142)) := (kA _).alloc _
  have p0 : Pt ((w.alloc (.cells #[.bool ok, .int .i64 at_, .int .i64 gr, .slice (some ⟨g, 0, none⟩) L.length cap] 33)).alloc (.cells #[.int .i64 4, .slice as1 c.set.length cs1, .int .i64 c.min, .int .i64 c.max, .bool c.lazy, .int .i64 c.num, .slice as2 c.kids.length cs2] 142)) w.heap.size ok at_ gr (.slice (some ⟨g, 0, none⟩) L.length cap) := box1 w _ _
  have p1 : ((w.alloc (.cells #[.bool ok, .int .i64 at_, .int .i64 gr, .slice (some ⟨g, 0, none⟩) L.length cap] 33)).alloc (.cells #[.int .i64 4, .slice as1 c.set.length cs1, .int .i64 c.min, .int .i64 c.max, .bool c.lazy, .int .i64 c.num, .slice as2 c.kids.length cs2] 142)).heap[w.heap.size + 1]? = some (.cells #[.int .i64 4, .slice as1 c.set.length cs1, .int .i64 c.min, .int .i64 c.max, .bool c.lazy, .int .i64 c.num, .slice as2 c.kids.length cs2] 142 (0, 0)) := box2 w _ _
  generalize ((w.alloc (.cells #[.bool ok, .int .i64 at_, .int .i64 gr, .slice (some ⟨g, 0, none⟩) L.length cap] 33)).alloc (.cells #[.int .i64 4, .slice as1 c.set.length cs1, .int .i64 c.min, .int .i64 c.max, .bool c.lazy, .int .i64 c.num, .slice as2 c.kids.length cs2] 142)) = w2 at kB p0 p1 ⊢
  clear q0 q1 q2 q3 q4 q5 q6
  have o2 := o1.same kB
  have hP2 := hP.sameW kB
  generalize w.heap.size = P0 at p0 p1 ⊢
  have hh := hs.head i c hpx
  unfold headBad at hh
  have hk1 : c.kids.length = 1 := by omega
  obtain ⟨kk, hkk⟩ := List.length_eq_one_iff.1 hk1
  have hkr := hkids kk (by rw [hkk]; simp)
  obtain ⟨m, rfl⟩ := Int.eq_ofNat_of_zero_le hkr.1
  have hmi : m < i := by omega
  have hK2 := o2.2
  simp only at hK2
  rw [hkk] at hK2
  obtain ⟨g2, rfl⟩ := row_fm hK2 (by simp)
  have z1 : w2.cell? ⟨g2, 0, none⟩ = some (.int .i64 m) := by rw [hK2.cellAt 0 (by simp)]; rfl
  have HE : Hid (wr ps i = wr ps m ++ cntTxtS c.min c.max c.lazy) := (by show _ = _; rw [HW.out]; simp only [body, hkind]; rw [hkk]; simp [wrs_below ps hmi])
  have hlm := hs.len m (by omega)
  have r0 : w2.cell? ⟨P0 + 1, 0, none⟩ = some (.int .i64 4) := by rw [cell_of p1]; rfl
  have r2 : w2.cell? ⟨P0 + 1, 2, none⟩ = some (.int .i64 c.min) := by rw [cell_of p1]; rfl
  have r3 : w2.cell? ⟨P0 + 1, 3, none⟩ = some (.int .i64 c.max) := by rw [cell_of p1]; rfl
  have r4 : w2.cell? ⟨P0 + 1, 4, none⟩ = some (.bool c.lazy) := by rw [cell_of p1]; rfl
  have r6 : w2.cell? ⟨P0 + 1, 6, none⟩ = some (.slice (some ⟨g2, 0, none⟩) c.kids.length cs2) := by rw [cell_of p1]; rfl
  have a0 := p0.c0; have a1 := p0.c1; have a2 := p0.c2; have a3 := p0.c3
  have hcall := fun w9 (k9 : Keeps (fun _ => False) w2 w9) => ih w9 _ L ok at_ gr m ⟨hP2.sameW k9, hL, hs⟩ (by omega) (by omega)
  have hsz : (tb (wr ps m)).size ≤ 700000 := by rw [tb_size]; omega
  rw [hk1] at r6
  have hmin0 : 0 ≤ c.min := by omega
  have hmin1 : c.min ≤ 50 := by omega
  have hmax1 : c.max ≤ 50 := by omega
  have hd1 := fun w9 => l1decimal_any (w := w9) hmin0 hmin1
  have hd1s : (tb (Lib.itoa c.min)).size ≤ 21 := by rw [tb_size]; have := Lib.itoa_length_le c.min (by omega) (by omega); omega
  clear hkind hkids hh
  have hc2 := hcall w2.drew ((Keeps.refl _ _).drew)
  clear hcall
  clear hkk hk1 hL hs hkr hmi hK2 hlm hle hi480 hP hP2 o1 o2 p0 ih hpx kA hlt hiz hip hin
  generalize hT : tb (wr ps m) = T at hc2 hsz
  generalize hD : tb (Lib.itoa c.min) = D at hd1 hd1s
  have HT : Hid (tb (wr ps m) = T) := hT
  have HD : Hid (tb (Lib.itoa c.min) = D) := hD
  clear hT hD
  have s1 : ¬ 9223372036854775807 < T.size + 1 := by omega
  have s2 : ¬ 9223372036854775807 < T.size + 1 + D.size := by omega
  have s3 : ¬ 9223372036854775807 < T.size + 1 + D.size + 1 := by omega
  have s4 : ¬ 9223372036854775807 < T.size + 1 + D.size + 1 + 1 := by omega
  have s5 : ¬ 9223372036854775807 < T.size + 1 + D.size + 1 + 1 + 1 := by omega
  have fi : Hid (∀ (wc : World), Keeps (fun _ => False) w2 wc → wc.cell? ⟨P0 + 1, 3, none⟩ = some (.int .i64 c.max) ∧ wc.cell? ⟨P0 + 1, 4, none⟩ = some (.bool c.lazy) ∧ wc.cell? ⟨P0 + 1, 2, none⟩ = some (.int .i64 c.min)) := fun wc hk => ⟨by rw [cell_of (blkK p1 hk)]; rfl, by rw [cell_of (blkK p1 hk)]; rfl, by rw [cell_of (blkK p1 hk)]; rfl⟩
  go_upto_region 34 with fail
  go_cut [6] (fun t6 wc => t6 = .string (T ++ ⟨#[123]⟩ ++ D) ∧ Keeps (fun _ => False) w2 wc)
  case first =>
    go_region_with (first
        | (go_at_call 51; refine hc2.mono ?_; rintro e w3 ⟨rfl, hk3⟩; replace hk3 := hkd hk3; have p3 := blkK p1 hk3; have t2 : w3.cell? ⟨P0 + 1, 2, none⟩ = some (.int .i64 c.min) := (by rw [cell_of p3]; rfl))
        | (go_at_call 36; refine (hd1 _).mono ?_; rintro e w4 ⟨rfl, hk4⟩; (try replace hk4 := hkd hk4)))
    all_goals (go_wp2_with fail; go_meet; exact ⟨rfl, hk3.trans hk4⟩)
  case rest =>
    obtain ⟨rfl, hkc⟩ := hcut
    obtain ⟨t3, t4, t2⟩ := fi.out _ hkc
    have hkz := kB.trans hkc
    have fj : Hid (∀ (wd : World), Keeps (fun _ => False) wc wd → wd.cell? ⟨P0 + 1, 4, none⟩ = some (.bool c.lazy)) := fun wd hk => (fi.out wd (hkc.trans hk)).2.1
    clear r0 r2 r3 r4 r6 a0 a1 a2 a3 p1 z1 hc2 hd1 fi kB hkc
    have elits : Hid ((⟨#[123]⟩ : ByteArray) = tb [123] ∧ (⟨#[44]⟩ : ByteArray) = tb [44] ∧ (⟨#[125]⟩ : ByteArray) = tb [125] ∧ (⟨#[63]⟩ : ByteArray) = tb [63]) := ⟨rfl, rfl, rfl, rfl⟩
    rcases (show c.max < 0 ∨ (¬ c.max < 0 ∧ ¬ c.min < c.max) ∨ (¬ c.max < 0 ∧ c.min < c.max) from by omega) with hneg | ⟨hneg, hgt⟩ | ⟨hneg, hgt⟩
    · have HF : Hid (∀ q : Bool, q = c.lazy → tb (wr ps i) = T ++ ⟨#[123]⟩ ++ D ++ ⟨#[44]⟩ ++ ⟨#[125]⟩ ++ tb (lzTxt q)) := (by
        intro q hq
        rw [HE.out, ← HT.out, ← HD.out, elits.out.1, elits.out.2.1, elits.out.2.2.1, hq]
        unfold cntTxtS
        rw [if_pos hneg]
        simp [tb_append])
      clear HT HD HE HW HLL
      generalize c.lazy = lz at *
      cases lz
      · go_wp2
        go_ret
        exact ⟨by rw [HF.out false rfl, show tb (lzTxt false) = tb [] from rfl, app_tb0]; rfl, hkz⟩
      · go_wp2
        go_ret
        exact ⟨by rw [HF.out true rfl, elits.out.2.2.2]; rfl, hkz⟩
    · have HF : Hid (∀ q : Bool, q = c.lazy → tb (wr ps i) = T ++ ⟨#[123]⟩ ++ D ++ ⟨#[125]⟩ ++ tb (lzTxt q)) := (by
        intro q hq
        rw [HE.out, ← HT.out, ← HD.out, elits.out.1, elits.out.2.2.1, hq]
        unfold cntTxtS
        rw [if_neg hneg, if_neg hgt]
        simp [tb_append])
      clear HT HD HE HW HLL
      generalize c.lazy = lz at *
      cases lz
      · go_wp2
        go_ret
        exact ⟨by rw [HF.out false rfl, show tb (lzTxt false) = tb [] from rfl, app_tb0]; rfl, hkz⟩
      · go_wp2
        go_ret
        exact ⟨by rw [HF.out true rfl, elits.out.2.2.2]; rfl, hkz⟩
    · have hd2 := fun w9 => l1decimal_any (w := w9) (n := c.max) (by omega) hmax1
      have hd2s : (tb (Lib.itoa c.max)).size ≤ 21 := by rw [tb_size]; have := Lib.itoa_length_le c.max (by omega) (by omega); omega
      have HF : Hid (∀ q : Bool, q = c.lazy → tb (wr ps i) = T ++ ⟨#[123]⟩ ++ D ++ (⟨#[44]⟩ ++ tb (Lib.itoa c.max)) ++ ⟨#[125]⟩ ++ tb (lzTxt q)) := (by
        intro q hq
        rw [HE.out, ← HT.out, ← HD.out, elits.out.1, elits.out.2.1, elits.out.2.2.1, hq]
        unfold cntTxtS
        rw [if_neg hneg, if_pos hgt]
        simp [tb_append])
      generalize tb (Lib.itoa c.max) = D2 at hd2 hd2s HF
      have u1 : ¬ 9223372036854775807 < 1 + D2.size := by omega
      have u2 : ¬ 9223372036854775807 < T.size + 1 + D.size + (1 + D2.size) := by omega
      have u3 : ¬ 9223372036854775807 < T.size + 1 + D.size + (1 + D2.size) + 1 := by omega
      have u4 : ¬ 9223372036854775807 < T.size + 1 + D.size + (1 + D2.size) + 1 + 1 := by omega
      clear HT HD HE HW HLL
      generalize c.lazy = lz at *
      cases lz
      all_goals go_wp2_with (go_at_call 36; refine (hd2 _).mono ?_; rintro e w4 ⟨rfl, hk4⟩; (try replace hk4 := hkd hk4); have v4 := fj.out _ hk4)
      · go_ret
        exact ⟨by rw [HF.out false rfl, show tb (lzTxt false) = tb [] from rfl, app_tb0]; rfl, hkz.trans hk4⟩
      · go_ret
        exact ⟨by rw [HF.out true rfl, elits.out.2.2.2]; rfl, hkz.trans hk4⟩

end Go.Proofs.YtmlgmhnplicflaaGreatDoor
