import Derived.Test.YtmlgmhnplicflaaGreatDoorAE
import Derived.Test.YtmlgmhnplicflaaGreatDoorAD
import Derived.Test.YtmlgmhnplicflaaGreatDoorAI
import Derived.Test.YtmlgmhnplicflaaGreatDoorZ
import Derived.Deep.OwnRows
import Derived.Deep.DeepCutAuto

/-
  The specification's comparison of pieces.
-/
namespace Go.Proofs.YtmlgmhnplicflaaGreatDoor
open Go.RowKit
set_option linter.unusedVariables false

set_option maxHeartbeats 2000000 in
set_option maxRecDepth 100000 in
theorem l1pieces_any {w : World} {v1 v2 : Value} {L1 L2 : List Pm} (h1 : Pcs w v1 L1) (h2 : Pcs w v2 L2) (hs1 : SmallP (L1.map (·.1))) (hs2 : SmallP (L2.map (·.1))) :
    Calls Tryz.prog 52 #[v1, v2] w (EqPost (L1.map (·.1) = L2.map (·.1)) w) := by
  obtain ⟨a1, c1, rfl⟩ := own_form h1.row
  obtain ⟨a2, c2, rfl⟩ := own_form h2.row
  by_cases hz : L1.length = L2.length
  · have HZ : Hid (L1.length = L2.length) := hz
    have hz2 : ((L1.length : Int) != (L2.length : Int)) = false := by simp [hz]
    clear hz
    have hlen1 : L1.length ≤ 10000000 := by have := hs1.1; simpa using this
    go_enter Tryz.func52, Tryz.ntmps52
    go_wp2
    go_loopw [17] (fun i wr => ∃ k : Nat, k ≤ L1.length ∧ i = .int .i64 k ∧ (L1.map (·.1)).take k = (L2.map (·.1)).take k ∧ Keeps (fun _ => False) w wr) (fun i _ => L1.length - (intOf i).toNat)
    case atStart => exact ⟨0, by omega, rfl, rfl, Keeps.refl _ _⟩
    case round =>
      obtain ⟨k, hk, rfl, ht, hkp⟩ := hrel
      have HT : Hid ((L1.map (·.1)).take k = (L2.map (·.1)).take k) := ht
      clear ht
      by_cases hlt : k < L1.length
      · have hlt2 : k < L2.length := by rw [← HZ.out]; exact hlt
        obtain ⟨g1, rfl⟩ := row_fm h1.row (by omega)
        obtain ⟨g2, rfl⟩ := row_fm h2.row (by omega)
        have hA := (h1.sameW hkp).cells hlt
        have hB := fun o => ((h2.sameW hkp).sameW ((Keeps.refl _ _).alloc o)).cells hlt2
        have o1 := (h1.sameW hkp).rows _ (List.getElem_mem hlt)
        have o2 := (h2.sameW hkp).rows _ (List.getElem_mem hlt2)
        have m1 := hs1.2 _ (List.mem_map_of_mem (f := (·.1)) (List.getElem_mem hlt))
        have m2 := hs2.2 _ (List.mem_map_of_mem (f := (·.1)) (List.getElem_mem hlt2))
        have t1 : (L1.map (·.1))[k]'(by simpa using hlt) = (L1[k]'hlt).1 := by simp
        have t2 : (L2.map (·.1))[k]'(by simpa using hlt2) = (L2[k]'hlt2).1 := by simp
        have HY : Hid ((L1[k]'hlt).1 = (L2[k]'hlt2).1 → (L1.map (·.1)).take (k + 1) = (L2.map (·.1)).take (k + 1)) := (by show _ → _; intro he; exact take_next HT.out (by simpa using hlt) (by simpa using hlt2) (by rw [t1, t2, he]))
        have HN : Hid ((L1[k]'hlt).1 ≠ (L2[k]'hlt2).1 → ¬ L1.map (·.1) = L2.map (·.1)) := (by show _ → _; intro he; exact ne_at (k := k) (by simpa using hlt) (by simpa using hlt2) (by rw [t1, t2]; exact he))
        clear t1 t2
        have hkz : (k : Int) < (L1.length : Int) := by omega
        have hkz2 : (k : Int) < (L2.length : Int) := by omega
        generalize L1[k]'hlt = x at hA o1 m1 HY HN
        generalize L2[k]'hlt2 = y at hB o2 m2 HY HN
        obtain ⟨c, s1, k1⟩ := x
        obtain ⟨d, s2, k2⟩ := y
        obtain ⟨as1, cs1, e1⟩ := own_form o1.1
        obtain ⟨as2, cs2, e2⟩ := own_form o1.2
        obtain ⟨as3, cs3, e3⟩ := own_form o2.1
        obtain ⟨as4, cs4, e4⟩ := own_form o2.2
        simp only at e1 e2 e3 e4 hA hB m1 m2
        subst e1 e2 e3 e4
        obtain ⟨q0, q1, q2, q3, q4, q5, q6⟩ := hA
        have r0 := fun o => (hB o).1
        have r1 := fun o => (hB o).2.1
        have r2 := fun o => (hB o).2.2.1
        have r3 := fun o => (hB o).2.2.2.1
        have r4 := fun o => (hB o).2.2.2.2.1
        have r5 := fun o => (hB o).2.2.2.2.2.1
        have r6 := fun o => (hB o).2.2.2.2.2.2
        clear hB
        obtain ⟨ck, cset, cm, cx, cl, cn, ckd⟩ := c
        obtain ⟨dk, dset, dm, dx, dl, dn, dkd⟩ := d
        simp only at q0 q1 q2 q3 q4 q5 q6 r0 r1 r2 r3 r4 r5 r6 m1 m2 o1 o2 HY HN
        by_cases hall : ck = dk ∧ cm = dm ∧ cx = dx ∧ cl = dl ∧ cn = dn ∧ cset.length = dset.length ∧ ckd.length = dkd.length
        · obtain ⟨rfl, rfl, rfl, rfl, rfl, hl1, hl2⟩ := hall
          have HL1 : Hid (cset.length = dset.length) := hl1
          have HL2 : Hid (ckd.length = dkd.length) := hl2
          have b1 : ((cset.length : Int) != (dset.length : Int)) = false := by simp [hl1]
          have b2 : ((ckd.length : Int) != (dkd.length : Int)) = false := by simp [hl2]
          clear hl1 hl2
          go_wp2
          have kA : Keeps (fun _ => False) wr ((wr.alloc (.cells #[.int .i64 ck, .slice as1 cset.length cs1, .int .i64 cm, .int .i64 cx, .bool cl, .int .i64 cn, .slice as2 ckd.length cs2] 142)).alloc (.cells #[.int .i64 ck, .slice as3 dset.length cs3, .int .i64 cm, .int .i64 cx, .bool cl, .int .i64 cn, .slice as4 dkd.length cs4] 142)) := ((Keeps.refl _ _).alloc _).alloc _
          have p1 : Pv ((wr.alloc (.cells #[.int .i64 ck, .slice as1 cset.length cs1, .int .i64 cm, .int .i64 cx, .bool cl, .int .i64 cn, .slice as2 ckd.length cs2] 142)).alloc (.cells #[.int .i64 ck, .slice as3 dset.length cs3, .int .i64 cm, .int .i64 cx, .bool cl, .int .i64 cn, .slice as4 dkd.length cs4] 142)) wr.heap.size { kind := ck, set := cset, min := cm, max := cx, lazy := cl, num := cn, kids := ckd } (.slice as1 cset.length cs1) (.slice as2 ckd.length cs2) := box1 wr _ _
          have p2 : Pv ((wr.alloc (.cells #[.int .i64 ck, .slice as1 cset.length cs1, .int .i64 cm, .int .i64 cx, .bool cl, .int .i64 cn, .slice as2 ckd.length cs2] 142)).alloc (.cells #[.int .i64 ck, .slice as3 dset.length cs3, .int .i64 cm, .int .i64 cx, .bool cl, .int .i64 cn, .slice as4 dkd.length cs4] 142)) (wr.heap.size + 1) { kind := ck, set := dset, min := cm, max := cx, lazy := cl, num := cn, kids := dkd } (.slice as3 dset.length cs3) (.slice as4 dkd.length cs4) := box2 wr _ _
          replace o1 := o1.same kA
          replace o2 := o2.same kA
          have hk2 := hkp.trans kA
          generalize ((wr.alloc (.cells #[.int .i64 ck, .slice as1 cset.length cs1, .int .i64 cm, .int .i64 cx, .bool cl, .int .i64 cn, .slice as2 ckd.length cs2] 142)).alloc (.cells #[.int .i64 ck, .slice as3 dset.length cs3, .int .i64 cm, .int .i64 cx, .bool cl, .int .i64 cn, .slice as4 dkd.length cs4] 142)) = w2 at p1 p2 o1 o2 hk2 ⊢
          clear kA q0 q1 q2 q3 q4 q5 q6 r0 r1 r2 r3 r4 r5 r6 b1 b2
          have hA1 := o1.1
          have hA2 := o1.2
          have hB1 := o2.1
          have hB2 := o2.2
          simp only at hA1 hA2 hB1 hB2
          generalize wr.heap.size = P1 at p1 p2 ⊢
          obtain ⟨wo, rfl⟩ : ∃ wo : World, wo = wr := ⟨_, rfl⟩
          go_loopw [82] (fun i wi => ∃ j : Nat, j ≤ cset.length ∧ i = .int .i64 j ∧ cset.take j = dset.take j ∧ Keeps (fun _ => False) w2 wi) (fun i _ => cset.length - (intOf i).toNat)
          case atStart => exact ⟨0, by omega, rfl, rfl, Keeps.refl _ _⟩
          case round =>
            obtain ⟨j, hj, rfl, hjt, hkj⟩ := hrel
            have HJ : Hid (cset.take j = dset.take j) := hjt
            clear hjt
            have y1 := (p1.keeps hkj (fun h => h)).c1
            have y2 := (p2.keeps hkj (fun h => h)).c1
            by_cases hjl : j < cset.length
            · have hjl2 : j < dset.length := by rw [← HL1.out]; exact hjl
              obtain ⟨g3, rfl⟩ := row_fm hA1 (by omega)
              obtain ⟨g4, rfl⟩ := row_fm hB1 (by omega)
              have z1 : wr.cell? ⟨g3, j * 2, none⟩ = some (.int .i64 cset[j].1) := by rw [(ownsRow_keeps hA1 hkj (fun _ _ h => h)).cellAt (j * 2) (by omega)]; exact (flatR_get cset j hjl).1
              have z2 : wr.cell? ⟨g4, j * 2, none⟩ = some (.int .i64 dset[j].1) := by rw [(ownsRow_keeps hB1 hkj (fun _ _ h => h)).cellAt (j * 2) (by omega)]; exact (flatR_get dset j hjl2).1
              have z3 : wr.cell? ⟨g3, j * 2 + 1, none⟩ = some (.int .i64 cset[j].2) := by rw [(ownsRow_keeps hA1 hkj (fun _ _ h => h)).cellAt (j * 2 + 1) (by omega)]; exact (flatR_get cset j hjl).2
              have z4 : wr.cell? ⟨g4, j * 2 + 1, none⟩ = some (.int .i64 dset[j].2) := by rw [(ownsRow_keeps hB1 hkj (fun _ _ h => h)).cellAt (j * 2 + 1) (by omega)]; exact (flatR_get dset j hjl2).2
              have hjz : (j : Int) < (cset.length : Int) := by omega
              have hjz2 : (j : Int) < (dset.length : Int) := by omega
              by_cases he : cset[j] = dset[j]
              · have HX : Hid (cset.take (j + 1) = dset.take (j + 1)) := take_next HJ.out hjl hjl2 he
                rw [← he] at z2 z4
                generalize cset[j] = x at z1 z2 z3 z4
                clear he
                go_wp2
                go_region
                all_goals go_wp2
                all_goals go_roundw
                all_goals (first
                  | exact ⟨j + 1, by omega, by go_num, HX.out, hkj.drew⟩
                  | (simp [intOf]; omega))
              · have HX : Hid (¬ L1.map (·.1) = L2.map (·.1)) := HN.out (by intro h; simp only [Pc.mk.injEq] at h; exact ne_at hjl hjl2 he h.2.1)
                generalize cset[j] = x at z1 z3 he
                generalize dset[j] = y at z2 z4 he
                obtain ⟨x1, x2⟩ := x
                obtain ⟨y1', y2'⟩ := y
                simp only at z1 z2 z3 z4
                have hb : ¬ (x1 = y1' ∧ x2 = y2') := by simpa using he
                clear he
                by_cases hx : x1 = y1'
                · subst hx
                  have hy : ¬ x2 = y2' := fun h => hb ⟨rfl, h⟩
                  clear hb
                  go_wp2
                  go_region
                  all_goals go_wp2
                  all_goals go_ret
                  all_goals exact eqPost_no HX.out (hk2.trans hkj).drew
                · clear hb
                  go_wp2
                  go_region
                  all_goals go_wp2
                  all_goals go_ret
                  all_goals exact eqPost_no HX.out (hk2.trans hkj).drew
            · obtain rfl : j = cset.length := by omega
              have HS : Hid (cset = dset) := take_all HJ.out HL1.out
              have y3 := (p1.keeps hkj (fun h => h)).c6
              go_wp2
              have hk3 := hk2.trans hkj
              replace p1 := p1.keeps hkj (fun h => h)
              replace p2 := p2.keeps hkj (fun h => h)
              replace hA2 := ownsRow_keeps hA2 hkj (fun _ _ h => h)
              replace hB2 := ownsRow_keeps hB2 hkj (fun _ _ h => h)
              clear y1 y2 y3 hA1 hB1 o1 o2
              obtain ⟨w3, rfl⟩ : ∃ w3 : World, w3 = wr := ⟨_, rfl⟩
              go_loopw [100] (fun i wi => ∃ j : Nat, j ≤ ckd.length ∧ i = .int .i64 j ∧ ckd.take j = dkd.take j ∧ Keeps (fun _ => False) w3 wi) (fun i _ => ckd.length - (intOf i).toNat)
              case atStart => exact ⟨0, by omega, rfl, rfl, Keeps.refl _ _⟩
              case round =>
                obtain ⟨j, hj, rfl, hjt, hkj⟩ := hrel
                have HJ : Hid (ckd.take j = dkd.take j) := hjt
                clear hjt
                have y1 := (p1.keeps hkj (fun h => h)).c6
                have y2 := (p2.keeps hkj (fun h => h)).c6
                by_cases hjl : j < ckd.length
                · have hjl2 : j < dkd.length := by rw [← HL2.out]; exact hjl
                  obtain ⟨g3, rfl⟩ := row_fm hA2 (by omega)
                  obtain ⟨g4, rfl⟩ := row_fm hB2 (by omega)
                  have z1 : wr.cell? ⟨g3, j, none⟩ = some (.int .i64 ckd[j]) := by rw [(ownsRow_keeps hA2 hkj (fun _ _ h => h)).cellAt j (by omega)]; exact ints_get ckd j hjl
                  have z2 : wr.cell? ⟨g4, j, none⟩ = some (.int .i64 dkd[j]) := by rw [(ownsRow_keeps hB2 hkj (fun _ _ h => h)).cellAt j (by omega)]; exact ints_get dkd j hjl2
                  have hjz : (j : Int) < (ckd.length : Int) := by omega
                  have hjz2 : (j : Int) < (dkd.length : Int) := by omega
                  by_cases he : ckd[j] = dkd[j]
                  · have HX : Hid (ckd.take (j + 1) = dkd.take (j + 1)) := take_next HJ.out hjl hjl2 he
                    rw [← he] at z2
                    generalize ckd[j] = x at z1 z2
                    clear he
                    go_wp2
                    go_region
                    all_goals go_wp2
                    all_goals go_roundw
                    all_goals (first
                      | exact ⟨j + 1, by omega, by go_num, HX.out, hkj.drew⟩
                      | (simp [intOf]; omega))
                  · have HX : Hid (¬ L1.map (·.1) = L2.map (·.1)) := HN.out (by intro h; simp only [Pc.mk.injEq] at h; exact ne_at hjl hjl2 he h.2.2.2.2.2.2)
                    generalize ckd[j] = x at z1 he
                    generalize dkd[j] = y at z2 he
                    have hb : (x != y) = true := by simpa using he
                    clear he
                    go_wp2
                    go_region
                    all_goals go_wp2
                    all_goals go_ret
                    all_goals exact eqPost_no HX.out (hk3.trans hkj).drew
                · obtain rfl : j = ckd.length := by omega
                  have HK : Hid (ckd = dkd) := take_all HJ.out HL2.out
                  have HY2 : Hid ((L1.map (·.1)).take (k + 1) = (L2.map (·.1)).take (k + 1)) := HY.out (by rw [HS.out, HK.out])
                  go_wp2
                  go_roundw
                  case rel => exact ⟨k + 1, by omega, by go_num, HY2.out, hk3.trans hkj⟩
                  case measure => simp [intOf]; omega
        · have HX : Hid (¬ L1.map (·.1) = L2.map (·.1)) := HN.out (by
            intro h
            simp only [Pc.mk.injEq] at h
            exact hall ⟨h.1, h.2.2.1, h.2.2.2.1, h.2.2.2.2.1, h.2.2.2.2.2.1, by rw [h.2.1], by rw [h.2.2.2.2.2.2]⟩)
          have HH : Hid (¬ (ck = dk ∧ cm = dm ∧ cx = dx ∧ cl = dl ∧ cn = dn ∧ cset.length = dset.length ∧ ckd.length = dkd.length)) := hall
          clear hall HY HN
          go_wp2
          all_goals (first
            | (go_ret; exact eqPost_no HX.out ((hkp.alloc _).alloc _))
            | (exfalso; have hh := HH.out; simp_all; done)
            | (exfalso; have hh := HH.out; simp_all; omega))
      · obtain rfl : k = L1.length := by omega
        have HN : Hid (L1.map (·.1) = L2.map (·.1)) := take_all (by have := HT.out; simpa using this) (by have := HZ.out; simpa using this)
        go_wp2
        go_ret
        exact eqPost_yes HN.out hkp
  · have hz2 : ((L1.length : Int) != (L2.length : Int)) = true := by simp; omega
    have HN : Hid (¬ L1.map (·.1) = L2.map (·.1)) := (by show ¬ _; intro h; have := congrArg List.length h; simp at this; exact hz this)
    clear hz
    go_enter Tryz.func52, Tryz.ntmps52
    go_wp2
    go_ret
    exact eqPost_no HN.out (Keeps.refl _ _)

end Go.Proofs.YtmlgmhnplicflaaGreatDoor

/-
  The program's WritePattern.
-/
namespace Go.Proofs.YtmlgmhnplicflaaGreatDoor
open Go.RowKit
set_option linter.unusedVariables false

theorem wr_node {w0 : World} {D : Nat → Prop} {v : Value} {t : Tx} (h : Wd w0 D v t) : WrC w0 D v t := by
  refine h.ind (M := fun v t => WrC w0 D v t) ⟨fun S f h => ⟨Wd.cl.set S f h, wr_set h⟩, ⟨Wd.cl.start, wr_start⟩, ⟨Wd.cl.fin, wr_end⟩, ?_, ?_, ?_, ?_⟩
  · intro v vs fs ho hD hl hn hk
    refine ⟨Wd.cl.seq v vs fs ho hD hl hn (fun i x f hx hf => (hk i x f hx hf).1), wr_seq ho hD hl hn (fun x hx => ?_) (fun i x f hx hf => (hk i x f hx hf).2)⟩
    obtain ⟨i, hi, rfl⟩ := List.getElem_of_mem hx
    exact (hk i _ _ (List.getElem?_eq_getElem hi) (List.getElem?_eq_getElem (by omega))).1.iface
  · intro v vs fs ho hD hl hn hk
    refine ⟨Wd.cl.alt v vs fs ho hD hl hn (fun i x f hx hf => (hk i x f hx hf).1), wr_alt ho hD hl hn (fun x hx => ?_) (fun i x f hx hf => (hk i x f hx hf).2)⟩
    obtain ⟨i, hi, rfl⟩ := List.getElem_of_mem hx
    exact (hk i _ _ (List.getElem?_eq_getElem hi) (List.getElem?_eq_getElem (by omega))).1.iface
  · intro a f lo hi lz h1 h2 h
    exact ⟨Wd.cl.rep a f lo hi lz h1 h2 h.1, wr_rep h1 h2 h.1.iface h.2⟩
  · intro a f num h
    exact ⟨Wd.cl.grp a f num h.1, wr_grp h.1.iface h.2⟩

/-- strconv's table, whatever is new. -/
def TabAll (w : World) : Prop := ∀ w', Keeps (fun _ => False) w w' → Lib.TabIs Tryz.prog w' "internal/strconv.uint64pow10" .u64 Lib.pow10Tab
theorem TabAll.on {w w1 : World} (h : TabAll w) (k : Keeps (fun _ => False) w w1) : TabAll w1 := fun w' h' => h w' (k.trans h')
theorem TabAll.ok {w : World} (h : TabAll w) : TabOk (fun k => k < w.heap.size) w := fun w' h' => h w' (h'.keeps.mono (fun k hk h => h hk))

/-- The text that comes back, or none. -/
def WrPost (G : Tx → Prop) (w : World) (e : Ending) (w' : World) : Prop := ∃ t : Tx, e = .returned (.string (tb t)) ∧ (G t ∨ (t = [] ∧ ∀ t', ¬ G t')) ∧ Keeps (fun _ => False) w w'
theorem wrPost_no {G : Tx → Prop} {w w' : World} (h : ∀ t', ¬ G t') (hk : Keeps (fun _ => False) w w') : WrPost G w (.returned (.string (tb []))) w' := ⟨[], rfl, Or.inr ⟨rfl, h⟩, hk⟩
theorem wrPost_yes {G : Tx → Prop} {w w' : World} {t : Tx} (h : G t) (hk : Keeps (fun _ => False) w w') : WrPost G w (.returned (.string (tb t))) w' := ⟨t, rfl, Or.inl h, hk⟩

/-- A pattern in a variable. -/
def Pt (w : World) (P : Nat) (ok : Bool) (at_ gr : Int) (v : Value) : Prop := w.heap[P]? = some (.cells #[.bool ok, .int .i64 at_, .int .i64 gr, v] 33 (0, 0))
namespace Pt
variable {w w' : World} {P : Nat} {ok : Bool} {at_ gr : Int} {v : Value}
theorem same (h : Pt w P ok at_ gr v) (k : Keeps (fun _ => False) w w') : Pt w' P ok at_ gr v := by
  unfold Pt at h ⊢; rw [k.block P (lt_of_block h) (fun h => h)]; exact h
theorem c0 (h : Pt w P ok at_ gr v) : w.cell? ⟨P, 0, none⟩ = some (.bool ok) := by rw [cell_of h]; rfl
theorem c1 (h : Pt w P ok at_ gr v) : w.cell? ⟨P, 1, none⟩ = some (.int .i64 at_) := by rw [cell_of h]; rfl
theorem c2 (h : Pt w P ok at_ gr v) : w.cell? ⟨P, 2, none⟩ = some (.int .i64 gr) := by rw [cell_of h]; rfl
theorem c3 (h : Pt w P ok at_ gr v) : w.cell? ⟨P, 3, none⟩ = some v := by rw [cell_of h]; rfl
end Pt

theorem gi_of {ok : Bool} {at_ gr : Int} {ps : List Pc} {t : Tx} {r : Rres} (ht : treeTxt ps = some t) (hr : readRef (tb t) = r) (h : rOk r = ok ∧ rAt r = at_ ∧ rGr r = gr ∧ rPs r = ps) : Gi ok at_ gr ps t := by
  obtain ⟨h1, h2, h3, h4⟩ := h
  cases r with
  | error x =>
    simp only [rPs] at h4
    subst h4
    simp [treeTxt] at ht
  | ok v =>
    obtain ⟨g, ps'⟩ := v
    simp only [rOk, rAt, rGr, rPs] at h1 h2 h3 h4
    subst h4
    exact ⟨ht, ⟨g, hr, h3.symm⟩, h1.symm, h2.symm⟩
theorem gi_not {ok : Bool} {at_ gr : Int} {ps : List Pc} {t : Tx} {r : Rres} (ht : treeTxt ps = some t) (hr : readRef (tb t) = r) (h : ¬ (rOk r = ok ∧ rAt r = at_ ∧ rGr r = gr ∧ rPs r = ps)) : ∀ t', ¬ Gi ok at_ gr ps t' := by
  rintro t' ⟨a, ⟨g, b, c⟩, d, e⟩
  rw [ht] at a
  simp at a
  subst a
  rw [hr] at b
  subst b d e c
  exact h ⟨rfl, rfl, rfl, rfl⟩
theorem gi_none {ok : Bool} {at_ gr : Int} {ps : List Pc} (ht : treeTxt ps = none) : ∀ t', ¬ Gi ok at_ gr ps t' := by
  rintro t' ⟨a, _⟩
  rw [ht] at a
  simp at a

set_option maxHeartbeats 2000000 in
set_option maxRecDepth 100000 in
theorem implWrite_any {w : World} {v : Value} {L : List Pm} {ps : List Pc} {ok : Bool} {at_ gr : Int} (hP : Pcs w v L) (hL : L.map (·.1) = ps) (hs : SmallP ps) (h64 : ∀ x ∈ ps, B64 x.min ∧ B64 x.max) (htab : TabAll w) :
    Calls Tryz.prog 17 #[.agg #[.bool ok, .int .i64 at_, .int .i64 gr, v]] w (WrPost (Gi ok at_ gr ps) w) := by
  have hnil : ∀ w : World, (binOp BinOp.eql 94 .nilIface .nilIface).run Tryz.prog w = .ok (.bool true) w := fun _ => by kernel_rfl
  have hnn : ∀ (t : TypeId) (y : Value) (w : World), (binOp BinOp.eql 94 (.iface t y) .nilIface).run Tryz.prog w = .ok (.bool false) w := fun _ _ _ => by kernel_rfl
  have hfst : ∀ (a b c : Value), ([a, b, c][0]?).getD undef = a := fun _ _ _ => rfl
  obtain ⟨ao, cap, rfl⟩ := own_form hP.row
  have kA : Keeps (fun _ => False) w (w.alloc (.cells #[.bool ok, .int .i64 at_, .int .i64 gr, .slice ao L.length cap] 33)) := (Keeps.refl _ _).alloc _
  have hB : Pt (w.alloc (.cells #[.bool ok, .int .i64 at_, .int .i64 gr, .slice ao L.length cap] 33)) w.heap.size ok at_ gr (.slice ao L.length cap) := heap_alloc_new w _
  have hcall := treeOf_any (w := w.alloc (.cells #[.bool ok, .int .i64 at_, .int .i64 gr, .slice ao L.length cap] 33)) (hP.sameW kA) hL hs.1 h64 hs.2
  unfold TreePostW at hcall
  cases ht : treeTxt ps with
  | none =>
    rw [ht] at hcall
    have HG : Hid (∀ t', ¬ Gi ok at_ gr ps t') := gi_none ht
    clear ht
    go_enter Tryz.func17, Tryz.ntmps17
    go_wp2_with (first
      | (go_at_call 47; refine hcall.mono ?_; rintro e w2 ⟨x, rfl, rfl, hk2⟩))
    go_ret
    exact wrPost_no HG.out (kA.trans hk2)
  | some t =>
    rw [ht] at hcall
    have hlen := treeTxt_len h64 ht
    obtain ⟨r, hr⟩ : ∃ r, readRef (tb t) = r := ⟨_, rfl⟩
    have HY : Hid (rOk r = ok ∧ rAt r = at_ ∧ rGr r = gr ∧ rPs r = ps → Gi ok at_ gr ps t) := gi_of ht hr
    have HN : Hid (¬ (rOk r = ok ∧ rAt r = at_ ∧ rGr r = gr ∧ rPs r = ps) → ∀ t', ¬ Gi ok at_ gr ps t') := gi_not ht hr
    have hread := fun w => impl_all (w := w) hr
    clear ht
    go_enter Tryz.func17, Tryz.ntmps17
    go_upto_region 4 with (first
      | (go_at_call 47; refine hcall.mono ?_; rintro e w2 ⟨x, rfl, hW, hk2⟩; obtain ⟨ty, y, rfl⟩ := hW.iface; have hk3 := kA.trans hk2; have hB2 := hB.same hk2; have hP2 := hP.sameW hk3; have happ := wr_node (hW.mono (D' := fun k => k < w2.heap.size) (fun k _ h => h)) w2 (Keeps.refl _ _) (fun k => k < w2.heap.size) (.slice none 0 0) [] (fun k h => h) (fun k h => h) ⟨World.ownsRow_nil _ _ _ _, fun k hk => by simp [Value.ownBlock] at hk⟩ (by simp; omega) ((htab.on hk3).ok)))
    clear hB hP hcall
    go_upto_region 5 with (go_at_call 48; refine happ.mono ?_; rintro e w3 ⟨ao3, m3, cap3, H3, rfl, hT3, hW3⟩; have hT4 : Tr w3 (fun k => k < w2.heap.size) (.slice ao3 m3 cap3) t := hT3; have hcv := conv_tb hT4.row; have hkW : Keeps (fun _ => False) w2 w3 := hW3.keeps.mono (fun k hk h => h hk); have hk4 := hk3.trans hkW; have hB3 := hB2.same hkW; have hP3 := hP2.sameW hkW; clear hT3 happ)
    clear hB2 hP2 hcv
    have c0 := hB3.c0; have c1 := hB3.c1; have c2 := hB3.c2; have c3 := hB3.c3
    by_cases hq : rOk r = ok ∧ rAt r = at_ ∧ rGr r = gr ∧ rPs r = ps
    · have HG : Hid (Gi ok at_ gr ps t) := HY.out hq
      have HQ : Hid (rOk r = ok ∧ rAt r = at_ ∧ rGr r = gr ∧ rPs r = ps) := hq
      clear hq HY HN
      go_region_with (first
        | (go_at_call 15; refine (hread _).mono ?_; rintro e w5 ⟨v5, L5, rfl, hO5, hL5, hs5, hk5⟩; replace hk5 := hkd hk5; obtain ⟨a5, cp5, rfl⟩ := own_form hO5.row; have hB5 := hB3.same hk5; have d0 := hB5.c0; have d1 := hB5.c1; have d2 := hB5.c2; have d3 := hB5.c3)
        | (go_at_call 49; refine (samePattern_any hO5.pcs (hP3.sameW hk5) ⟨by simp; omega, fun x hx => by obtain ⟨c, hc, rfl⟩ := List.mem_map.1 hx; have := hs5.2 c hc; omega⟩ (by rw [hL]; exact hs)).mono ?_; rintro e w6 ⟨b, rfl, hb, hk6⟩; obtain rfl : b = true := hb.2 (by rw [hL5, hL]; exact HQ.out)))
      all_goals go_wp2
      all_goals go_ret
      all_goals exact wrPost_yes HG.out ((hk4.trans hk5).trans hk6)
    · have HG : Hid (∀ t', ¬ Gi ok at_ gr ps t') := HN.out hq
      have HQ : Hid (¬ (rOk r = ok ∧ rAt r = at_ ∧ rGr r = gr ∧ rPs r = ps)) := hq
      clear hq HY HN
      go_region_with (first
        | (go_at_call 15; refine (hread _).mono ?_; rintro e w5 ⟨v5, L5, rfl, hO5, hL5, hs5, hk5⟩; replace hk5 := hkd hk5; obtain ⟨a5, cp5, rfl⟩ := own_form hO5.row; have hB5 := hB3.same hk5; have d0 := hB5.c0; have d1 := hB5.c1; have d2 := hB5.c2; have d3 := hB5.c3)
        | (go_at_call 49; refine (samePattern_any hO5.pcs (hP3.sameW hk5) ⟨by simp; omega, fun x hx => by obtain ⟨c, hc, rfl⟩ := List.mem_map.1 hx; have := hs5.2 c hc; omega⟩ (by rw [hL]; exact hs)).mono ?_; rintro e w6 ⟨b, rfl, hb, hk6⟩; obtain rfl : b = false := (by cases b; rfl; exact absurd (by have := hb.1 rfl; rw [hL5, hL] at this; exact this) HQ.out)))
      all_goals go_wp2
      all_goals go_ret
      all_goals exact wrPost_no HG.out ((hk4.trans hk5).trans hk6)

end Go.Proofs.YtmlgmhnplicflaaGreatDoor

/-
  The specification: which lists of pieces are sound.
-/
namespace Go.Proofs.YtmlgmhnplicflaaGreatDoor
open Go.RowKit
set_option linter.unusedVariables false

/-- A row of flags. -/
def flArr (n : Nat) (mk : Nat → Bool) : Array Value := ((List.range n).map fun y => Value.bool (mk y)).toArray
def Fl (w : World) (P n : Nat) (mk : Nat → Bool) : Prop := w.heap[P]? = some (.cells (flArr n mk) 4 (0, 0))
namespace Fl
variable {w w' : World} {P n : Nat} {mk : Nat → Bool}
theorem start (w : World) (n : Nat) : Fl (w.alloc (.cells (madeCells #[.bool false] n) 4)) w.heap.size n (fun _ => false) := by
  have e : madeCells #[Value.bool false] n = flArr n (fun _ => false) := by
    apply Array.ext'
    rw [toList_madeCells_one]
    simp [flArr, List.map_const']
  rw [e]; exact heap_alloc_new w _
theorem cell (h : Fl w P n mk) {y : Nat} (hy : y < n) : w.cell? ⟨P, y, none⟩ = some (.bool (mk y)) := by rw [cell_of h]; simp [flArr, hy]
theorem fz (h : Fl w P n mk) (y : Nat) : w.frozen? ⟨P, y, none⟩ = false := free_of h
theorem keeps {E : Nat → Prop} (h : Fl w P n mk) (k : Keeps E w w') (hE : ¬ E P) : Fl w' P n mk := by
  unfold Fl at h ⊢; rw [k.block P (lt_of_block h) hE]; exact h
theorem set (h : Fl w P n mk) (y : Nat) : Fl (w.setCell ⟨P, y, none⟩ (.bool true)) P n (mark mk y) := by
  unfold Fl; rw [heap_setCell_same _ _ _ _ _ _ h]
  congr 2
  apply Array.ext'
  simp only [flArr, Array.toList_setIfInBounds, List.toList_toArray]
  apply List.ext_getElem?
  intro j
  rw [List.getElem?_set]
  simp only [List.getElem?_map, List.length_map, List.length_range]
  by_cases hj : y = j
  · subst hj
    by_cases hl : y < n
    · simp [hl, mark]
    · simp [hl]
  · rw [if_neg hj]
    by_cases hl : j < n
    · simp [hl, mark]; omega
    · simp [hl]
end Fl

theorem saneLoop_bad {x : Pc} {xs : List Pc} {i : Nat} {mk : Nat → Bool} (h : headBad x) : saneLoop (x :: xs) i mk = false := by simp only [saneLoop]; rw [if_pos h]
theorem saneLoop_kids {x : Pc} {xs : List Pc} {i : Nat} {mk : Nat → Bool} (h : ¬ headBad x) (hm : markKids i x.kids mk = none) : saneLoop (x :: xs) i mk = false := by simp only [saneLoop]; rw [if_neg h, hm]
theorem saneLoop_set {x : Pc} {xs : List Pc} {i : Nat} {mk mk' : Nat → Bool} (h : ¬ headBad x) (hm : markKids i x.kids mk = some mk') (hr : okR x.set = false) : saneLoop (x :: xs) i mk = false := by
  simp only [saneLoop]; rw [if_neg h, hm]; simp [hr]
theorem saneLoop_next {x : Pc} {xs : List Pc} {i : Nat} {mk mk' : Nat → Bool} (h : ¬ headBad x) (hm : markKids i x.kids mk = some mk') (hr : okR x.set = true) : saneLoop (x :: xs) i mk = saneLoop xs (i + 1) mk' := by
  simp only [saneLoop]; rw [if_neg h, hm]; simp [hr]
theorem drop_one {α : Type} (l : List α) (k : Nat) (h : k < l.length) : l.drop k = l[k] :: l.drop (k + 1) := by rw [List.drop_eq_getElem_cons h]
theorem okR_at {rs : List (Int × Int)} {j : Nat} (h : j < rs.length) (hb : ¬ (0 ≤ rs[j].1 ∧ rs[j].2 ≤ 255 ∧ rs[j].1 ≤ rs[j].2)) : okR rs = false := by
  rw [← Bool.not_eq_true]
  intro ha
  unfold okR at ha
  rw [List.all_eq_true] at ha
  have := ha rs[j] (List.getElem_mem h)
  simp at this
  omega

/-- A row, or a variable, of another kind is no row of flags. -/
theorem Pv_ne {w w' : World} {P F n : Nat} {c : Pc} {sv kv : Value} {mk : Nat → Bool} {E : Nat → Prop} (h : Pv w P c sv kv) (hF : Fl w F n mk) : P ≠ F := by
  intro e
  subst e
  unfold Pv at h
  unfold Fl at hF
  rw [h] at hF
  simp at hF
theorem own_fl {w : World} {F n m : Nat} {mk : Nat → Bool} {base : Nat} {e : TypeId} {size : Nat} {v : Value} {xs : List Value} (h : w.ownsRow base e size v m xs) (hF : Fl w F n mk) (he : e ≠ 4) {i : Nat} (hi : v.ownBlock = some i) : i ≠ F := fun h' => own_not_at h hF he (h' ▸ hi)

set_option maxHeartbeats 4000000 in
set_option maxRecDepth 100000 in
theorem l1sane_any {w : World} {v : Value} {L : List Pm} {ps : List Pc} {ok : Bool} {at_ gr : Int} (hP : Pcs w v L) (hL : L.map (·.1) = ps) (hs : SmallP ps) :
    Calls Tryz.prog 50 #[.agg #[.bool ok, .int .i64 at_, .int .i64 gr, v]] w fun e w' => e = .returned (.bool (sane ok ps)) ∧ Keeps (fun _ => False) w w' := by
  obtain ⟨ao, cap, rfl⟩ := own_form hP.row
  have hLl : L.length = ps.length := by rw [← hL, List.length_map]
  have kA : Keeps (fun _ => False) w (w.alloc (.cells #[.bool ok, .int .i64 at_, .int .i64 gr, .slice ao L.length cap] 33)) := (Keeps.refl _ _).alloc _
  by_cases hc : ok = true ∧ ps.length ≠ 0 ∧ ps.length ≤ 480
  · obtain ⟨rfl, h1, h2⟩ := hc
    have b1 : ((L.length : Int) == 0) = false := beq_eq_false_iff_ne.2 (by omega)
    have b2 : ¬ (480 : Int) < (L.length : Int) := by omega
    have hmk := run_make_row' (P := Tryz.prog) 86 4 (.bool false) 1 Tryz.underlying86 (by kernel_rfl) rfl .i64 .i64 L.length (by omega) (by omega)
    obtain ⟨R, hR⟩ : ∃ R, saneLoop ps 0 (fun _ => false) = R := ⟨_, rfl⟩
    have HR : Hid (sane true ps = R) := (by show _ = _; unfold sane; rw [hR, decide_eq_true h1, decide_eq_true h2]; simp)
    have HR0 : Hid (saneLoop (ps.drop 0) 0 (fun _ => false) = R) := hR
    have HLL : Hid (L.length = ps.length) := hLl
    have hL480 : L.length ≤ 480 := by omega
    have hLne : 0 < L.length := by omega
    clear hLl hR h1 h2
    rw [HR.out]
    obtain ⟨g, rfl⟩ := row_fm hP.row hLne
    go_enter Tryz.func50, Tryz.ntmps50
    go_wp2
    have kB : Keeps (fun _ => False) w ((w.alloc (.cells #[.bool true, .int .i64 at_, .int .i64 gr, .slice (some ⟨g, 0, none⟩) L.length cap] 33)).alloc (.cells (madeCells #[.bool false] L.length) 4)) := kA.alloc _
    have hF0 : Fl ((w.alloc (.cells #[.bool true, .int .i64 at_, .int .i64 gr, .slice (some ⟨g, 0, none⟩) L.length cap] 33)).alloc (.cells (madeCells #[.bool false] L.length) 4)) (w.heap.size + 1) L.length (fun _ => false) := by
      have := Fl.start (w.alloc (.cells #[.bool true, .int .i64 at_, .int .i64 gr, .slice (some ⟨g, 0, none⟩) L.length cap] 33)) L.length
      simpa using this
    go_loopg [33] (L.length + 1) (fun gl i wr => ∃ (k : Nat) (mk : Nat → Bool), k ≤ L.length ∧ k + gl = L.length + 1 ∧ i = .int .i64 k ∧ Hid (saneLoop (ps.drop k) k mk = R) ∧ Fl wr (w.heap.size + 1) L.length mk ∧ Keeps (fun _ => False) w wr)
    case atStart => exact ⟨0, _, by omega, by omega, rfl, HR0, hF0, kB⟩
    case round =>
      clear hF0 kB HR0 hmk kA
      obtain ⟨k, mk, hk, hgl, rfl, HK, hF, hkp⟩ := hrel
      have HGL : Hid (k + gk = L.length + 1) := hgl
      clear hgl
      by_cases hlt : k < L.length
      · have hA := (hP.sameW hkp).cells hlt
        have o1 := (hP.sameW hkp).rows _ (List.getElem_mem hlt)
        have hpk : k < ps.length := by rw [← HLL.out]; exact hlt
        have hpx : ps[k] = (L[k]'hlt).1 := by simp [← hL]
        have hdr := drop_one ps k hpk
        rw [hpx] at hdr
        have hsm := hs.2 _ (List.getElem_mem hpk)
        rw [hpx] at hsm
        have hkz : (k : Int) < (L.length : Int) := by omega
        generalize L[k]'hlt = x at hA o1 hdr hsm
        obtain ⟨c, s1, k1⟩ := x
        obtain ⟨as1, cs1, e1⟩ := own_form o1.1
        obtain ⟨as2, cs2, e2⟩ := own_form o1.2
        simp only at e1 e2 hA hdr hsm
        subst e1 e2
        obtain ⟨q0, q1, q2, q3, q4, q5, q6⟩ := hA
        have HD : Hid (ps.drop k = c :: ps.drop (k + 1)) := hdr
        clear hdr hpx
        obtain ⟨ck, cset, cm, cx, cl, cn, ckd⟩ := c
        simp only at q0 q1 q2 q3 q4 q5 q6 hsm
        go_upto_region 7 with fail
        have kC : Keeps (fun _ => False) wr (wr.alloc (.cells #[.int .i64 ck, .slice as1 cset.length cs1, .int .i64 cm, .int .i64 cx, .bool cl, .int .i64 cn, .slice as2 ckd.length cs2] 142)) := (Keeps.refl _ _).alloc _
        have p1 : Pv (wr.alloc (.cells #[.int .i64 ck, .slice as1 cset.length cs1, .int .i64 cm, .int .i64 cx, .bool cl, .int .i64 cn, .slice as2 ckd.length cs2] 142)) wr.heap.size { kind := ck, set := cset, min := cm, max := cx, lazy := cl, num := cn, kids := ckd } (.slice as1 cset.length cs1) (.slice as2 ckd.length cs2) := heap_alloc_new wr _
        have hF2 := hF.keeps kC (fun h => h)
        have hk2 := hkp.trans kC
        have hO2 := o1.same kC
        clear q0 q1 q2 q3 q4 q5 q6
        generalize wr.alloc (.cells #[.int .i64 ck, .slice as1 cset.length cs1, .int .i64 cm, .int .i64 cx, .bool cl, .int .i64 cn, .slice as2 ckd.length cs2] 142) = w2 at p1 hF2 hk2 hO2 ⊢
        generalize wr.heap.size = P1 at p1 ⊢
        clear kC hF o1
        have q0 := p1.c0; have q1 := p1.c1; have q2 := p1.c2; have q3 := p1.c3; have q6 := p1.c6
        simp only at q0 q1 q2 q3 q6
        go_upto_region 8 with fail
        go_cut [45] (fun b45 wc => b45 = .bool (decide (ck = 4 ∨ ck = 5)) ∧ w2 = wc)
        case first =>
          rcases (show ck = 4 ∨ (ck ≠ 4 ∧ ck = 5) ∨ (ck ≠ 4 ∧ ck ≠ 5) from by omega) with h | ⟨h, h'⟩ | ⟨h, h'⟩
          · subst h
            go_wp2
            go_meet
            exact ⟨rfl, rfl⟩
          · subst h'
            go_wp2
            go_meet
            exact ⟨rfl, rfl⟩
          · have e1 : (ck == 4) = false := beq_eq_false_iff_ne.2 h
            have e2 : (ck == 5) = false := beq_eq_false_iff_ne.2 h'
            go_wp2
            go_meet
            refine ⟨?_, rfl⟩
            simp [h, h']
        case rest =>
          obtain ⟨rfl, rfl⟩ := hcut
          go_upto_if 45 with fail
          go_cut [6] (fun n6 wc => n6 = .int .i64 (if ck = 4 ∨ ck = 5 then 1 else -1) ∧ w2 = wc)
          case first =>
            by_cases h45 : ck = 4 ∨ ck = 5
            · have e45 : decide (ck = 4 ∨ ck = 5) = true := decide_eq_true h45
              have HI : Hid ((if ck = 4 ∨ ck = 5 then (1 : Int) else -1) = 1) := if_pos h45
              clear h45
              rw [e45]
              go_wp2
              go_meet
              exact ⟨by rw [HI.out], rfl⟩
            · have e45 : decide (ck = 4 ∨ ck = 5) = false := decide_eq_false h45
              have HI : Hid ((if ck = 4 ∨ ck = 5 then (1 : Int) else -1) = -1) := if_neg h45
              clear h45
              rw [e45]
              go_wp2
              go_meet
              exact ⟨by rw [HI.out], rfl⟩
          case rest =>
            obtain ⟨rfl, rfl⟩ := hcut
            obtain ⟨wv, hwv⟩ : ∃ wv : Int, (if ck = 4 ∨ ck = 5 then (1 : Int) else -1) = wv := ⟨_, rfl⟩
            rw [hwv]
            have hw1 : (ck = 4 ∨ ck = 5) → wv = 1 := fun h => by rw [← hwv, if_pos h]
            have hw2 : ¬ (ck = 4 ∨ ck = 5) → wv = -1 := fun h => by rw [← hwv, if_neg h]
            clear hwv
            go_upto_region 10 with fail
            by_cases hb : headBad { kind := ck, set := cset, min := cm, max := cx, lazy := cl, num := cn, kids := ckd }
            · have HX : Hid (R = false) := HK.out.symm.trans (by rw [HD.out]; exact saneLoop_bad hb)
              unfold headBad at hb
              simp only at hb
              go_cut [85] (fun b wc => b = .bool true ∧ w2 = wc)
              case first =>
                by_cases hwn : 0 ≤ wv
                · by_cases hle : (ckd.length : Int) = wv
                  · have g8 : ((ckd.length : Int) != wv) = false := by simp [hle]
                    go_wp2
                    all_goals (first
                      | (go_meet; refine ⟨?_, rfl⟩; first | rfl | (simp; omega))
                      | (exfalso; omega))
                  · have g8 : ((ckd.length : Int) != wv) = true := by simpa using hle
                    go_wp2
                    all_goals (first
                      | (go_meet; refine ⟨?_, rfl⟩; first | rfl | (simp; omega))
                      | (exfalso; omega))
                · go_wp2
                  all_goals (first
                    | (go_meet; refine ⟨?_, rfl⟩; first | rfl | (simp; omega))
                    | (exfalso; omega))
              case rest =>
                obtain ⟨rfl, rfl⟩ := hcut
                go_wp2
                go_ret
                exact ⟨by rw [HX.out]; rfl, hk2⟩
            · have HB : Hid (¬ headBad { kind := ck, set := cset, min := cm, max := cx, lazy := cl, num := cn, kids := ckd }) := hb
              unfold headBad at hb
              simp only at hb
              have g1 : ¬ ck < 1 := by omega
              have g2 : ¬ 7 < ck := by omega
              have g3 : ¬ cm < 0 := by omega
              have g4 : ¬ 50 < cm := by omega
              have g5 : ¬ 50 < cx := by omega
              have g6 : ¬ (128 : Int) < (cset.length : Int) := by omega
              have g7 : 0 ≤ wv → (ckd.length : Int) = wv := by omega
              clear hw1 hw2 hb
              go_cut [85] (fun b wc => b = .bool false ∧ w2 = wc)
              case first =>
                by_cases hwn : 0 ≤ wv
                · have g8 : ((ckd.length : Int) != wv) = false := by have := g7 hwn; simp [this]
                  clear g7
                  go_wp2
                  go_meet
                  exact ⟨rfl, rfl⟩
                · clear g7
                  go_wp2
                  go_meet
                  exact ⟨rfl, rfl⟩
              case rest =>
                obtain ⟨rfl, rfl⟩ := hcut
                clear g1 g2 g3 g4 g5 g6 g7
                have hPF : P1 ≠ w.heap.size + 1 := Pv_ne (w' := w2) (E := fun _ => False) p1 hF2
                have hK2 := hO2.2
                have hS2 := hO2.1
                simp only at hK2 hS2
                have hKF : ∀ i, (Value.slice as2 ckd.length cs2).ownBlock = some i → i ≠ w.heap.size + 1 := fun i hi => own_fl hK2 hF2 (by decide) hi
                have hSF : ∀ i, (Value.slice as1 cset.length cs1).ownBlock = some i → i ≠ w.heap.size + 1 := fun i hi => own_fl hS2 hF2 (by decide) hi
                obtain ⟨M, hM⟩ : ∃ M, markKids k ckd mk = M := ⟨_, rfl⟩
                have HM0 : Hid (markKids k ckd mk = M) := hM
                have HM : Hid (markKids k (ckd.drop 0) mk = M) := hM
                clear hM
                go_wp2
                obtain ⟨wo, rfl⟩ : ∃ wo : World, wo = wr := ⟨_, rfl⟩
                go_loopg [89] (ckd.length + 1) (fun gl i wi => ∃ (j : Nat) (mj : Nat → Bool), j ≤ ckd.length ∧ j + gl = ckd.length + 1 ∧ i = .int .i64 j ∧ Hid (markKids k (ckd.drop j) mj = M) ∧ Fl wi (w.heap.size + 1) L.length mj ∧ Keeps (fun q => q = w.heap.size + 1) w2 wi)
                case atStart => exact ⟨0, mk, by omega, by omega, rfl, HM, hF2, Keeps.refl _ _⟩
                case round =>
                  clear HM hF2
                  obtain ⟨j, mj, hj, hgj, rfl, HJ, hFj, hkj⟩ := hrel
                  have HGJ := Lib.hid hgj
                  clear hgj
                  have hk3 : Keeps (fun _ => False) w wr := hk2.trans' hkj (fun i hi h => by omega)
                  have p3 := p1.keeps hkj hPF
                  have hK3 := ownsRow_keeps hK2 hkj (fun i hi => hKF i hi)
                  by_cases hjl : j < ckd.length
                  · obtain ⟨g3, rfl⟩ := row_fm hK2 (by omega)
                    have z1 : wr.cell? ⟨g3, j, none⟩ = some (.int .i64 ckd[j]) := by rw [hK3.cellAt j (by omega)]; exact ints_get ckd j hjl
                    have hjd := drop_one ckd j hjl
                    have hjz : (j : Int) < (ckd.length : Int) := by omega
                    generalize ckd[j] = kk at z1 hjd
                    have HJ2 : Hid (markKids k (kk :: ckd.drop (j + 1)) mj = M) := (by show _ = _; rw [← hjd]; exact HJ.out)
                    clear hjd HJ
                    by_cases hbad : kk < 0 ∨ (k : Int) ≤ kk ∨ mj kk.toNat = true
                    · have HX : Hid (R = false) := HK.out.symm.trans (by
                        rw [HD.out]
                        refine saneLoop_kids HB.out ?_
                        rw [HM0.out, ← HJ2.out]
                        simp only [markKids]
                        rw [if_pos hbad])
                      rcases (show kk < 0 ∨ (0 ≤ kk ∧ (k : Int) ≤ kk) ∨ (0 ≤ kk ∧ kk < (k : Int)) from by omega) with h | ⟨h, h'⟩ | ⟨h, h'⟩
                      · clear hbad
                        go_wp2
                        go_ret
                        exact ⟨by rw [HX.out]; rfl, hk3⟩
                      · clear hbad
                        go_wp2
                        go_ret
                        exact ⟨by rw [HX.out]; rfl, hk3⟩
                      · have hmt : mj kk.toNat = true := by
                          rcases hbad with h1 | h1 | h1
                          · omega
                          · omega
                          · exact h1
                        obtain ⟨m, rfl⟩ := Int.eq_ofNat_of_zero_le h
                        have z2 := hFj.cell (y := m) (by omega)
                        simp only [Int.toNat_natCast] at hmt
                        rw [hmt] at z2
                        clear hbad
                        go_wp2
                        go_ret
                        exact ⟨by rw [HX.out]; rfl, hk3⟩
                    · have h0 : 0 ≤ kk := by omega
                      obtain ⟨m, rfl⟩ := Int.eq_ofNat_of_zero_le h0
                      simp only [Int.toNat_natCast] at hbad
                      have hmf : mj m = false := by
                        cases hm : mj m
                        · rfl
                        · exact absurd (Or.inr (Or.inr hm)) hbad
                      have hmk2 : (m : Int) < (k : Int) := by
                        apply Decidable.byContradiction; intro hn; exact hbad (Or.inr (Or.inl (by omega)))
                      have HJ3 : Hid (markKids k (ckd.drop (j + 1)) (mark mj m) = M) := (by
                        show _ = _
                        have := HJ2.out
                        simp only [markKids, Int.toNat_natCast] at this
                        rw [if_neg hbad] at this
                        exact this)
                      have z2 := hFj.cell (y := m) (by omega)
                      have zf := hFj.fz m
                      rw [hmf] at z2
                      clear hbad HJ2 h0
                      go_wp2
                      go_roundg (gk - 1)
                      case measure => have := HGJ.out; omega
                      case rel =>
                        have := HGJ.out
                        exact ⟨j + 1, mark mj m, by omega, by omega, congrArg (Value.int .i64) (by omega), HJ3, hFj.set m, hkj.setCell (fun _ => rfl) _⟩
                  · obtain rfl : j = ckd.length := by omega
                    have HMs : Hid (markKids k ckd mk = some mj) := (by
                      show _ = _
                      rw [HM0.out, ← HJ.out, List.drop_length]
                      rfl)
                    have y1 := p3.c1
                    have hS3 := ownsRow_keeps hS2 hkj (fun i hi => hSF i hi)
                    clear HJ HGJ hK3
                    go_wp2
                    obtain ⟨w3, rfl⟩ : ∃ w3 : World, w3 = wr := ⟨_, rfl⟩
                    go_loopg [113] (cset.length + 1) (fun gl i wi => ∃ n : Nat, n ≤ cset.length ∧ n + gl = cset.length + 1 ∧ i = .int .i64 n ∧ Hid (okR (cset.take n) = true) ∧ Keeps (fun _ => False) w3 wi)
                    case atStart => exact ⟨0, by omega, by omega, rfl, (by show _ = _; simp [okR]), Keeps.refl _ _⟩
                    case round =>
                      obtain ⟨n, hn, hgn, rfl, HO, hkn⟩ := hrel
                      have HGN := Lib.hid hgn
                      clear hgn
                      have hS4 := ownsRow_keeps hS3 hkn (fun _ _ h => h)
                      by_cases hnl : n < cset.length
                      · obtain ⟨g4, rfl⟩ := row_fm hS2 (by omega)
                        have z1 : wr.cell? ⟨g4, n * 2, none⟩ = some (.int .i64 cset[n].1) := by rw [hS4.cellAt (n * 2) (by omega)]; exact (flatR_get cset n hnl).1
                        have z2 : wr.cell? ⟨g4, n * 2 + 1, none⟩ = some (.int .i64 cset[n].2) := by rw [hS4.cellAt (n * 2 + 1) (by omega)]; exact (flatR_get cset n hnl).2
                        have hnz : (n : Int) < (cset.length : Int) := by omega
                        by_cases hbad : ¬ (0 ≤ cset[n].1 ∧ cset[n].2 ≤ 255 ∧ cset[n].1 ≤ cset[n].2)
                        · have HX : Hid (R = false) := HK.out.symm.trans (by rw [HD.out]; exact saneLoop_set HB.out HMs.out (okR_at hnl hbad))
                          generalize cset[n] = r at z1 z2 hbad
                          obtain ⟨lo, hi⟩ := r
                          simp only at z1 z2 hbad
                          rcases (show lo < 0 ∨ (0 ≤ lo ∧ 255 < hi) ∨ (0 ≤ lo ∧ hi ≤ 255 ∧ hi < lo) from by omega) with h | ⟨h, h'⟩ | ⟨h, h', h''⟩ <;>
                          · clear hbad
                            go_wp2
                            go_ret
                            exact ⟨by rw [HX.out]; rfl, (hk3.trans hkn).alloc _⟩
                        · have hok : 0 ≤ cset[n].1 ∧ cset[n].2 ≤ 255 ∧ cset[n].1 ≤ cset[n].2 := Classical.not_not.1 hbad
                          have HO2 : Hid (okR (cset.take (n + 1)) = true) := (by
                            show _ = _
                            rw [take_one cset n hnl, okR_snoc, HO.out]
                            simp
                            omega)
                          generalize cset[n] = r at z1 z2 hok
                          obtain ⟨lo, hi⟩ := r
                          simp only at z1 z2 hok
                          obtain ⟨h, h', h''⟩ := hok
                          clear hbad HO
                          go_wp2
                          go_roundg (gk - 1)
                          case measure => have := HGN.out; omega
                          case rel =>
                            have := HGN.out
                            exact ⟨n + 1, by omega, by omega, congrArg (Value.int .i64) (by omega), HO2, hkn.alloc _⟩
                      · obtain rfl : n = cset.length := by omega
                        have HKn : Hid (saneLoop (ps.drop (k + 1)) (k + 1) mj = R) := (by
                          show _ = _
                          rw [← HK.out, HD.out]
                          refine (saneLoop_next HB.out HMs.out ?_).symm
                          have := HO.out
                          rw [List.take_length] at this
                          exact this)
                        go_wp2
                        go_roundg (L.length - k)
                        case measure => have := HGL.out; omega
                        case rel => exact ⟨k + 1, mj, by omega, by omega, congrArg (Value.int .i64) (by omega), HKn, hFj.keeps hkn (fun h => h), hk3.trans hkn⟩
      · obtain rfl : k = L.length := by omega
        have HT : Hid (R = true) := (by show _ = _; have := HK.out; rw [HLL.out, List.drop_length] at this; simp [saneLoop] at this; exact this)
        go_wp2
        go_ret
        exact ⟨by rw [HT.out]; rfl, hkp⟩
  · have HF : Hid (sane ok ps = false) := (by
      show _ = _
      unfold sane
      rw [← Bool.not_eq_true]
      intro h
      simp only [Bool.and_eq_true, decide_eq_true_eq] at h
      exact hc ⟨h.1.1.1, h.1.1.2, h.1.2⟩)
    rw [HF.out]
    rcases (show ok = false ∨ (ok = true ∧ L.length = 0) ∨ (ok = true ∧ L.length ≠ 0 ∧ 480 < L.length) from by
      cases ok
      · exact Or.inl rfl
      · have hh : ¬ (ps.length ≠ 0 ∧ ps.length ≤ 480) := fun h => hc ⟨rfl, h⟩
        by_cases hz : L.length = 0
        · exact Or.inr (Or.inl ⟨rfl, hz⟩)
        · exact Or.inr (Or.inr ⟨rfl, hz, by omega⟩)) with h | ⟨h, h0⟩ | ⟨h, h0, h1⟩
    · subst h
      clear hc hLl
      go_enter Tryz.func50, Tryz.ntmps50
      go_wp2
      go_ret
      exact ⟨rfl, (Keeps.refl _ _).alloc _⟩
    · subst h
      have b1 : ((L.length : Int) == 0) = true := beq_iff_eq.2 (by omega)
      clear hc hLl
      go_enter Tryz.func50, Tryz.ntmps50
      go_wp2
      go_ret
      exact ⟨rfl, (Keeps.refl _ _).alloc _⟩
    · subst h
      have b1 : ((L.length : Int) == 0) = false := beq_eq_false_iff_ne.2 (by omega)
      have b2 : (480 : Int) < (L.length : Int) := by omega
      clear hc hLl
      go_enter Tryz.func50, Tryz.ntmps50
      go_wp2
      go_ret
      exact ⟨rfl, (Keeps.refl _ _).alloc _⟩

end Go.Proofs.YtmlgmhnplicflaaGreatDoor
