import Derived.Test.YtmlgmhnplicflaaGreatDoorAE

/-
  The laws' comparison of pieces, of patterns.
-/
namespace Go.Proofs.YtmlgmhnplicflaaGreatDoor
open Go.RowKit
set_option linter.unusedVariables false

theorem eqPost_true {p : Prop} {w w' : World} {e : Ending} (h : EqPost p w e w') (hp : p) : e = .returned (.bool true) ∧ Keeps (fun _ => False) w w' := by
  obtain ⟨b, rfl, hb, hk⟩ := h
  rw [hb.2 hp]
  exact ⟨rfl, hk⟩

set_option maxHeartbeats 2000000 in
set_option maxRecDepth 100000 in
theorem wPieces_any {w : World} {v1 v2 : Value} {L1 L2 : List Pm} (h1 : Pcs w v1 L1) (h2 : Pcs w v2 L2) (hs1 : SmallP (L1.map (·.1))) (hs2 : SmallP (L2.map (·.1))) :
    Calls Tryz.prog 46 #[v1, v2] w (EqPost (L1.map (·.1) = L2.map (·.1)) w) := by
  obtain ⟨a1, c1, rfl⟩ := own_form h1.row
  obtain ⟨a2, c2, rfl⟩ := own_form h2.row
  by_cases hz : L1.length = L2.length
  · have HZ : Hid (L1.length = L2.length) := hz
    have hz2 : ((L1.length : Int) != (L2.length : Int)) = false := by simp [hz]
    clear hz
    have hlen1 : L1.length ≤ 10000000 := by have := hs1.1; simpa using this
    go_enter Tryz.func46, Tryz.ntmps46
    go_wp2
    go_loopw [17] (fun i wr => ∃ k : Nat, k ≤ L1.length ∧ i = .int .i64 k ∧ (L1.map (·.1)).take k = (L2.map (·.1)).take k ∧ Keeps (fun _ => False) w wr) (fun i _ => L1.length - (intOf i).toNat)
    case atStart => exact ⟨0, by omega, rfl, rfl, Keeps.refl _ _⟩
    case round =>
      obtain ⟨k, hk, rfl, ht, hkp⟩ := hrel
      have HT : Hid ((L1.map (·.1)).take k = (L2.map (·.1)).take k) := ht
      clear ht
      by_cases hlt : k < L1.length
      · have hlt2 : k < L2.length := by rw [← HZ.out]; exact hlt
        obtain ⟨g1, rfl⟩ := row_fm h1.row (by omega)
        obtain ⟨g2, rfl⟩ := row_fm h2.row (by omega)
        have hA := (h1.sameW hkp).cells hlt
        have hB := fun o => ((h2.sameW hkp).sameW ((Keeps.refl _ _).alloc o)).cells hlt2
        have o1 := (h1.sameW hkp).rows _ (List.getElem_mem hlt)
        have o2 := (h2.sameW hkp).rows _ (List.getElem_mem hlt2)
        have m1 := hs1.2 _ (List.mem_map_of_mem (f := (·.1)) (List.getElem_mem hlt))
        have m2 := hs2.2 _ (List.mem_map_of_mem (f := (·.1)) (List.getElem_mem hlt2))
        have t1 : (L1.map (·.1))[k]'(by simpa using hlt) = (L1[k]'hlt).1 := by simp
        have t2 : (L2.map (·.1))[k]'(by simpa using hlt2) = (L2[k]'hlt2).1 := by simp
        have HY : Hid ((L1[k]'hlt).1 = (L2[k]'hlt2).1 → (L1.map (·.1)).take (k + 1) = (L2.map (·.1)).take (k + 1)) := (by show _ → _; intro he; exact take_next HT.out (by simpa using hlt) (by simpa using hlt2) (by rw [t1, t2, he]))
        have HN : Hid ((L1[k]'hlt).1 ≠ (L2[k]'hlt2).1 → ¬ L1.map (·.1) = L2.map (·.1)) := (by show _ → _; intro he; exact ne_at (k := k) (by simpa using hlt) (by simpa using hlt2) (by rw [t1, t2]; exact he))
        clear t1 t2
        have hkz : (k : Int) < (L1.length : Int) := by omega
        have hkz2 : (k : Int) < (L2.length : Int) := by omega
        generalize L1[k]'hlt = x at hA o1 m1 HY HN
        generalize L2[k]'hlt2 = y at hB o2 m2 HY HN
        obtain ⟨c, s1, k1⟩ := x
        obtain ⟨d, s2, k2⟩ := y
        obtain ⟨as1, cs1, e1⟩ := own_form o1.1
        obtain ⟨as2, cs2, e2⟩ := own_form o1.2
        obtain ⟨as3, cs3, e3⟩ := own_form o2.1
        obtain ⟨as4, cs4, e4⟩ := own_form o2.2
        simp only at e1 e2 e3 e4 hA hB m1 m2
        subst e1 e2 e3 e4
        obtain ⟨q0, q1, q2, q3, q4, q5, q6⟩ := hA
        have r0 := fun o => (hB o).1
        have r1 := fun o => (hB o).2.1
        have r2 := fun o => (hB o).2.2.1
        have r3 := fun o => (hB o).2.2.2.1
        have r4 := fun o => (hB o).2.2.2.2.1
        have r5 := fun o => (hB o).2.2.2.2.2.1
        have r6 := fun o => (hB o).2.2.2.2.2.2
        clear hB
        obtain ⟨ck, cset, cm, cx, cl, cn, ckd⟩ := c
        obtain ⟨dk, dset, dm, dx, dl, dn, dkd⟩ := d
        simp only at q0 q1 q2 q3 q4 q5 q6 r0 r1 r2 r3 r4 r5 r6 m1 m2 o1 o2 HY HN
        by_cases hall : ck = dk ∧ cm = dm ∧ cx = dx ∧ cl = dl ∧ cn = dn ∧ cset.length = dset.length ∧ ckd.length = dkd.length
        · obtain ⟨rfl, rfl, rfl, rfl, rfl, hl1, hl2⟩ := hall
          have HL1 : Hid (cset.length = dset.length) := hl1
          have HL2 : Hid (ckd.length = dkd.length) := hl2
          have b1 : ((cset.length : Int) != (dset.length : Int)) = false := by simp [hl1]
          have b2 : ((ckd.length : Int) != (dkd.length : Int)) = false := by simp [hl2]
          clear hl1 hl2
          go_wp2
          have kA : Keeps (fun _ => False) wr ((wr.alloc (.cells #[.int .i64 ck, .slice as1 cset.length cs1, .int .i64 cm, .int .i64 cx, .bool cl, .int .i64 cn, .slice as2 ckd.length cs2] 142)).alloc (.cells #[.int .i64 ck, .slice as3 dset.length cs3, .int .i64 cm, .int .i64 cx, .bool cl, .int .i64 cn, .slice as4 dkd.length cs4] 142)) := ((Keeps.refl _ _).alloc _).alloc _
          have p1 : Pv ((wr.alloc (.cells #[.int .i64 ck, .slice as1 cset.length cs1, .int .i64 cm, .int .i64 cx, .bool cl, .int .i64 cn, .slice as2 ckd.length cs2] 142)).alloc (.cells #[.int .i64 ck, .slice as3 dset.length cs3, .int .i64 cm, .int .i64 cx, .bool cl, .int .i64 cn, .slice as4 dkd.length cs4] 142)) wr.heap.size { kind := ck, set := cset, min := cm, max := cx, lazy := cl, num := cn, kids := ckd } (.slice as1 cset.length cs1) (.slice as2 ckd.length cs2) := box1 wr _ _
          have p2 : Pv ((wr.alloc (.cells #[.int .i64 ck, .slice as1 cset.length cs1, .int .i64 cm, .int .i64 cx, .bool cl, .int .i64 cn, .slice as2 ckd.length cs2] 142)).alloc (.cells #[.int .i64 ck, .slice as3 dset.length cs3, .int .i64 cm, .int .i64 cx, .bool cl, .int .i64 cn, .slice as4 dkd.length cs4] 142)) (wr.heap.size + 1) { kind := ck, set := dset, min := cm, max := cx, lazy := cl, num := cn, kids := dkd } (.slice as3 dset.length cs3) (.slice as4 dkd.length cs4) := box2 wr _ _
          replace o1 := o1.same kA
          replace o2 := o2.same kA
          have hk2 := hkp.trans kA
          generalize ((wr.alloc (.cells #[.int .i64 ck, .slice as1 cset.length cs1, .int .i64 cm, .int .i64 cx, .bool cl, .int .i64 cn, .slice as2 ckd.length cs2] 142)).alloc (.cells #[.int .i64 ck, .slice as3 dset.length cs3, .int .i64 cm, .int .i64 cx, .bool cl, .int .i64 cn, .slice as4 dkd.length cs4] 142)) = w2 at p1 p2 o1 o2 hk2 ⊢
          clear kA q0 q1 q2 q3 q4 q5 q6 r0 r1 r2 r3 r4 r5 r6 b1 b2
          have hA1 := o1.1
          have hA2 := o1.2
          have hB1 := o2.1
          have hB2 := o2.2
          simp only at hA1 hA2 hB1 hB2
          generalize wr.heap.size = P1 at p1 p2 ⊢
          obtain ⟨wo, rfl⟩ : ∃ wo : World, wo = wr := ⟨_, rfl⟩
          go_loopw [82] (fun i wi => ∃ j : Nat, j ≤ cset.length ∧ i = .int .i64 j ∧ cset.take j = dset.take j ∧ Keeps (fun _ => False) w2 wi) (fun i _ => cset.length - (intOf i).toNat)
          case atStart => exact ⟨0, by omega, rfl, rfl, Keeps.refl _ _⟩
          case round =>
            obtain ⟨j, hj, rfl, hjt, hkj⟩ := hrel
            have HJ : Hid (cset.take j = dset.take j) := hjt
            clear hjt
            have y1 := (p1.keeps hkj (fun h => h)).c1
            have y2 := (p2.keeps hkj (fun h => h)).c1
            by_cases hjl : j < cset.length
            · have hjl2 : j < dset.length := by rw [← HL1.out]; exact hjl
              obtain ⟨g3, rfl⟩ := row_fm hA1 (by omega)
              obtain ⟨g4, rfl⟩ := row_fm hB1 (by omega)
              have z1 : wr.cell? ⟨g3, j * 2, none⟩ = some (.int .i64 cset[j].1) := by rw [(ownsRow_keeps hA1 hkj (fun _ _ h => h)).cellAt (j * 2) (by omega)]; exact (flatR_get cset j hjl).1
              have z2 : wr.cell? ⟨g4, j * 2, none⟩ = some (.int .i64 dset[j].1) := by rw [(ownsRow_keeps hB1 hkj (fun _ _ h => h)).cellAt (j * 2) (by omega)]; exact (flatR_get dset j hjl2).1
              have z3 : wr.cell? ⟨g3, j * 2 + 1, none⟩ = some (.int .i64 cset[j].2) := by rw [(ownsRow_keeps hA1 hkj (fun _ _ h => h)).cellAt (j * 2 + 1) (by omega)]; exact (flatR_get cset j hjl).2
              have z4 : wr.cell? ⟨g4, j * 2 + 1, none⟩ = some (.int .i64 dset[j].2) := by rw [(ownsRow_keeps hB1 hkj (fun _ _ h => h)).cellAt (j * 2 + 1) (by omega)]; exact (flatR_get dset j hjl2).2
              have hjz : (j : Int) < (cset.length : Int) := by omega
              have hjz2 : (j : Int) < (dset.length : Int) := by omega
              by_cases he : cset[j] = dset[j]
              · have HX : Hid (cset.take (j + 1) = dset.take (j + 1)) := take_next HJ.out hjl hjl2 he
                rw [← he] at z2 z4
                generalize cset[j] = x at z1 z2 z3 z4
                clear he
                go_wp2
                go_region
                all_goals go_wp2
                all_goals go_roundw
                all_goals (first
                  | exact ⟨j + 1, by omega, by go_num, HX.out, hkj.drew⟩
                  | (simp [intOf]; omega))
              · have HX : Hid (¬ L1.map (·.1) = L2.map (·.1)) := HN.out (by intro h; simp only [Pc.mk.injEq] at h; exact ne_at hjl hjl2 he h.2.1)
                generalize cset[j] = x at z1 z3 he
                generalize dset[j] = y at z2 z4 he
                obtain ⟨x1, x2⟩ := x
                obtain ⟨y1', y2'⟩ := y
                simp only at z1 z2 z3 z4
                have hb : ¬ (x1 = y1' ∧ x2 = y2') := by simpa using he
                clear he
                by_cases hx : x1 = y1'
                · subst hx
                  have hy : ¬ x2 = y2' := fun h => hb ⟨rfl, h⟩
                  clear hb
                  go_wp2
                  go_region
                  all_goals go_wp2
                  all_goals go_ret
                  all_goals exact eqPost_no HX.out (hk2.trans hkj).drew
                · clear hb
                  go_wp2
                  go_region
                  all_goals go_wp2
                  all_goals go_ret
                  all_goals exact eqPost_no HX.out (hk2.trans hkj).drew
            · obtain rfl : j = cset.length := by omega
              have HS : Hid (cset = dset) := take_all HJ.out HL1.out
              have y3 := (p1.keeps hkj (fun h => h)).c6
              go_wp2
              have hk3 := hk2.trans hkj
              replace p1 := p1.keeps hkj (fun h => h)
              replace p2 := p2.keeps hkj (fun h => h)
              replace hA2 := ownsRow_keeps hA2 hkj (fun _ _ h => h)
              replace hB2 := ownsRow_keeps hB2 hkj (fun _ _ h => h)
              clear y1 y2 y3 hA1 hB1 o1 o2
              obtain ⟨w3, rfl⟩ : ∃ w3 : World, w3 = wr := ⟨_, rfl⟩
              go_loopw [100] (fun i wi => ∃ j : Nat, j ≤ ckd.length ∧ i = .int .i64 j ∧ ckd.take j = dkd.take j ∧ Keeps (fun _ => False) w3 wi) (fun i _ => ckd.length - (intOf i).toNat)
              case atStart => exact ⟨0, by omega, rfl, rfl, Keeps.refl _ _⟩
              case round =>
                obtain ⟨j, hj, rfl, hjt, hkj⟩ := hrel
                have HJ : Hid (ckd.take j = dkd.take j) := hjt
                clear hjt
                have y1 := (p1.keeps hkj (fun h => h)).c6
                have y2 := (p2.keeps hkj (fun h => h)).c6
                by_cases hjl : j < ckd.length
                · have hjl2 : j < dkd.length := by rw [← HL2.out]; exact hjl
                  obtain ⟨g3, rfl⟩ := row_fm hA2 (by omega)
                  obtain ⟨g4, rfl⟩ := row_fm hB2 (by omega)
                  have z1 : wr.cell? ⟨g3, j, none⟩ = some (.int .i64 ckd[j]) := by rw [(ownsRow_keeps hA2 hkj (fun _ _ h => h)).cellAt j (by omega)]; exact ints_get ckd j hjl
                  have z2 : wr.cell? ⟨g4, j, none⟩ = some (.int .i64 dkd[j]) := by rw [(ownsRow_keeps hB2 hkj (fun _ _ h => h)).cellAt j (by omega)]; exact ints_get dkd j hjl2
                  have hjz : (j : Int) < (ckd.length : Int) := by omega
                  have hjz2 : (j : Int) < (dkd.length : Int) := by omega
                  by_cases he : ckd[j] = dkd[j]
                  · have HX : Hid (ckd.take (j + 1) = dkd.take (j + 1)) := take_next HJ.out hjl hjl2 he
                    rw [← he] at z2
                    generalize ckd[j] = x at z1 z2
                    clear he
                    go_wp2
                    go_region
                    all_goals go_wp2
                    all_goals go_roundw
                    all_goals (first
                      | exact ⟨j + 1, by omega, by go_num, HX.out, hkj.drew⟩
                      | (simp [intOf]; omega))
                  · have HX : Hid (¬ L1.map (·.1) = L2.map (·.1)) := HN.out (by intro h; simp only [Pc.mk.injEq] at h; exact ne_at hjl hjl2 he h.2.2.2.2.2.2)
                    generalize ckd[j] = x at z1 he
                    generalize dkd[j] = y at z2 he
                    have hb : (x != y) = true := by simpa using he
                    clear he
                    go_wp2
                    go_region
                    all_goals go_wp2
                    all_goals go_ret
                    all_goals exact eqPost_no HX.out (hk3.trans hkj).drew
                · obtain rfl : j = ckd.length := by omega
                  have HK : Hid (ckd = dkd) := take_all HJ.out HL2.out
                  have HY2 : Hid ((L1.map (·.1)).take (k + 1) = (L2.map (·.1)).take (k + 1)) := HY.out (by rw [HS.out, HK.out])
                  go_wp2
                  go_roundw
                  case rel => exact ⟨k + 1, by omega, by go_num, HY2.out, hk3.trans hkj⟩
                  case measure => simp [intOf]; omega
        · have HX : Hid (¬ L1.map (·.1) = L2.map (·.1)) := HN.out (by
            intro h
            simp only [Pc.mk.injEq] at h
            exact hall ⟨h.1, h.2.2.1, h.2.2.2.1, h.2.2.2.2.1, h.2.2.2.2.2.1, by rw [h.2.1], by rw [h.2.2.2.2.2.2]⟩)
          have HH : Hid (¬ (ck = dk ∧ cm = dm ∧ cx = dx ∧ cl = dl ∧ cn = dn ∧ cset.length = dset.length ∧ ckd.length = dkd.length)) := hall
          clear hall HY HN
          go_wp2
          all_goals (first
            | (go_ret; exact eqPost_no HX.out ((hkp.alloc _).alloc _))
            | (exfalso; have hh := HH.out; simp_all; done)
            | (exfalso; have hh := HH.out; simp_all; omega))
      · obtain rfl : k = L1.length := by omega
        have HN : Hid (L1.map (·.1) = L2.map (·.1)) := take_all (by have := HT.out; simpa using this) (by have := HZ.out; simpa using this)
        go_wp2
        go_ret
        exact eqPost_yes HN.out hkp
  · have hz2 : ((L1.length : Int) != (L2.length : Int)) = true := by simp; omega
    have HN : Hid (¬ L1.map (·.1) = L2.map (·.1)) := (by show ¬ _; intro h; have := congrArg List.length h; simp at this; exact hz this)
    clear hz
    go_enter Tryz.func46, Tryz.ntmps46
    go_wp2
    go_ret
    exact eqPost_no HN.out (Keeps.refl _ _)

set_option maxHeartbeats 400000 in
theorem wPattern_same {w : World} {ok : Bool} {at_ gr : Int} {v1 v2 : Value} {L1 L2 : List Pm} (h1 : Pcs w v1 L1) (h2 : Pcs w v2 L2) (he : L1.map (·.1) = L2.map (·.1)) (hs1 : SmallP (L1.map (·.1))) (hs2 : SmallP (L2.map (·.1))) :
    Calls Tryz.prog 16 #[.agg #[.bool ok, .int .i64 at_, .int .i64 gr, v1], .agg #[.bool ok, .int .i64 at_, .int .i64 gr, v2]] w fun e w' => e = .returned (.bool true) ∧ Keeps (fun _ => False) w w' := by
  obtain ⟨ao1, cp1, rfl⟩ := own_form h1.row
  obtain ⟨ao2, cp2, rfl⟩ := own_form h2.row
  have HE : Hid (L1.map (·.1) = L2.map (·.1)) := he
  clear he
  go_enter Tryz.func16, Tryz.ntmps16
  go_wp2_with (first
    | (go_at_call 46; refine (wPieces_any (h1.same (((Keeps.refl _ _).alloc _).alloc _)) (h2.same (((Keeps.refl _ _).alloc _).alloc _)) hs1 hs2).mono ?_; rintro e w2 hq; obtain ⟨rfl, hk2⟩ := eqPost_true hq HE.out))
  go_ret
  exact ⟨rfl, (((Keeps.refl _ _).alloc _).alloc _).trans hk2⟩

end Go.Proofs.YtmlgmhnplicflaaGreatDoor
