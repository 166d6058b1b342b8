import Derived.Test.YtmlgmhnplicflaaGreatDoorDE
import Derived.Test.YtmlgmhnplicflaaGreatDoorDC

/-
  The law on what is written: its walk.
-/
namespace Go.Proofs.YtmlgmhnplicflaaGreatDoor
open Go.RowKit
set_option linter.unusedVariables false

theorem wr_one {ok : Bool} {at_ gr : Int} {ps : List Pc} {t t' : Tx} (h1 : Gs ok at_ gr ps t ∨ (t = [] ∧ ∀ x, ¬ Gs ok at_ gr ps x)) (h2 : Gi ok at_ gr ps t' ∨ (t' = [] ∧ ∀ x, ¬ Gi ok at_ gr ps x)) : t = t' := by
  rcases h1 with h1 | ⟨rfl, h1⟩
  · rcases h2 with h2 | ⟨rfl, h2⟩
    · have := (gi_gs ok at_ gr ps t').1 h2
      rw [h1.2.1, this.2.1]
    · exact absurd ((gi_gs ok at_ gr ps t).2 h1) (h2 t)
  · rcases h2 with h2 | ⟨rfl, h2⟩
    · exact absurd ((gi_gs ok at_ gr ps t').1 h2) (h1 t')
    · rfl
theorem gi_empty {at_ gr : Int} {ps : List Pc} {t : Tx} (h : Gi false at_ gr ps t ∨ (t = [] ∧ ∀ x, ¬ Gi false at_ gr ps x)) : t = [] := by
  rcases h with h | h
  · exact absurd h.2.2.1 (by simp)
  · exact h.1
theorem smallp_of {L : List Pm} (h : L.length ≤ 1000 ∧ ∀ c ∈ L, c.1.set.length ≤ 1000 ∧ c.1.kids.length ≤ 1000) : SmallP (L.map (·.1)) :=
  ⟨by simp; omega, fun x hx => by obtain ⟨y, hy, rfl⟩ := List.mem_map.1 hx; have := h.2 y hy; omega⟩
theorem tb_nil : tb [] = { data := #[] } := rfl

set_option maxHeartbeats 4000000 in
set_option maxRecDepth 100000 in
theorem law_written {W : World} {cs : List Nat} {ao : Option Addr} {cap : Nat} (hl : cs.length ≤ 1048576) (hc : Dc W ao cs) (ha : ∀ a, ao = some a → a.block < W.heap.size) (htab : TabAll W) :
    Calls Tryz.prog 4 #[.slice ao cs.length cap] W fun e w' => e = .returned (.bool true) ∧ Keeps (fun _ => False) W w' := by
  have hz1 : ¬ (1048576 : Int) < (cs.length : Int) := by omega
  have hfd : ∀ w : World, (Instr.field 38 (.agg #[.bool false, .int .i64 0, .int .i64 0, .slice none 0 0]) 0).run Tryz.prog w = .ok (.bool false) w := fun _ => by kernel_rfl
  have hdraw := drawRead_any (cap := cap) hl hc ha
  clear hc ha
  go_enter Tryz.func4, Tryz.ntmps4
  go_upto_region 4 with (first
    | (go_at_call 14; refine hdraw.mono ?_; rintro e w1 ⟨s, rfl, hs, hK⟩))
  clear hdraw
  obtain ⟨r, hr⟩ : ∃ r, readRef s = r := ⟨_, rfl⟩
  have HR : Hid (readRef s = r) := hr
  have h64 := rps_b64 hr
  have HN : Hid (rOk r = false → ∃ x, treeRef s = .error x) := (by show _ → _; exact tree_none hr)
  have hsz : s.size ≤ 1048576 := by omega
  clear hr
  go_upto_region 5 with (first
    | (go_at_call 15; refine (impl_all HR.out).mono ?_; rintro e w2 ⟨v, L, rfl, hO, hL, hsm, hk2⟩; replace hK := hK.trans hk2; obtain ⟨ap, cp, rfl⟩ := own_form hO.pcs.row))
  have hP := hO.pcs
  have hS := smallp_of hsm
  rw [hL] at hS
  have hX : Pt (w2.alloc (.cells #[.bool (rOk r), .int .i64 (rAt r), .int .i64 (rGr r), .slice ap L.length cp] 33)) w2.heap.size (rOk r) (rAt r) (rGr r) (.slice ap L.length cp) := heap_alloc_new w2 _
  have kZ : Keeps (fun _ => False) w2 (w2.alloc (.cells #[.bool (rOk r), .int .i64 (rAt r), .int .i64 (rGr r), .slice ap L.length cp] 33)) := (Keeps.refl _ _).alloc _
  replace hP := hP.sameW kZ
  replace hK := hK.trans kZ
  clear hO hk2 hsm
  generalize w2.alloc (.cells #[.bool (rOk r), .int .i64 (rAt r), .int .i64 (rGr r), .slice ap L.length cp] 33) = w3 at kZ hX hK hP ⊢
  generalize w2.heap.size = P at hX ⊢
  clear kZ
  have HL : Hid (L.map (·.1) = rPs r) := hL
  clear hL
  have HS1 : Hid (SmallP (L.map (·.1))) := (by show SmallP _; rw [HL.out]; exact hS)
  have d0 := hX.c0; have d1 := hX.c1; have d2 := hX.c2; have d3 := hX.c3
  go_cut [17] (fun b wc => b = .bool false ∧ Pt wc P (rOk r) (rAt r) (rGr r) (.slice ap L.length cp) ∧ Pcs wc (.slice ap L.length cp) L ∧ Keeps (fun _ => False) W wc)
  case first =>
    go_region_with (first
      | (go_at_call 10; refine (spec_all HR.out hsz).mono ?_; rintro e w4 ⟨v4, L4, rfl, hP4, hL4, hk4⟩; (try replace hk4 := hkd hk4); replace hK := hK.trans hk4; replace hP := hP.sameW hk4; replace hX := hX.same hk4; obtain ⟨a4, c4, rfl⟩ := own_form hP4.row; have HL4 : Hid (L4.map (·.1) = rPs r) := hL4; clear hL4; have f0 := hX.c0; have f1 := hX.c1; have f2 := hX.c2; have f3 := hX.c3)
      | (go_at_call 16; refine (wPattern_same hP hP4 (HL.out.trans HL4.out.symm) HS1.out (by rw [HL4.out]; exact hS)).mono ?_; rintro e w5 ⟨rfl, hk5⟩; (try replace hk5 := hkd hk5); replace hK := hK.trans hk5; replace hP := hP.sameW hk5; replace hX := hX.same hk5))
    all_goals (go_wp2_with fail; go_meet; exact ⟨rfl, hX, hP, hK⟩)
  case rest =>
    obtain ⟨rfl, hX, hP, hK⟩ := hcut
    clear d0 d1 d2 d3
    have d0 := hX.c0; have d1 := hX.c1; have d2 := hX.c2; have d3 := hX.c3
    go_upto_region 8 with (first
      | (go_at_call 17; refine (implWrite_any hP HL.out hS h64 (htab.on hK)).mono ?_; rintro e w6 ⟨t, rfl, hG, hk6⟩; replace hK := hK.trans hk6; replace hP := hP.sameW hk6; replace hX := hX.same hk6; clear hk6))
    clear d0 d1 d2 d3
    have d0 := hX.c0; have d1 := hX.c1; have d2 := hX.c2; have d3 := hX.c3
    go_upto_region 10 with (first
      | (go_at_call 18; refine (specWrite_any hP HL.out hS).mono ?_; rintro e w7 ⟨t7, rfl, hG7, hk7⟩; obtain rfl := wr_one hG7 hG; replace hK := hK.trans hk7; replace hP := hP.sameW hk7; replace hX := hX.same hk7; clear hk7 hG7))
    clear d0 d1 d2 d3
    have HG : Hid (Gi (rOk r) (rAt r) (rGr r) (rPs r) t7 ∨ (t7 = [] ∧ ∀ x, ¬ Gi (rOk r) (rAt r) (rGr r) (rPs r) x)) := hG
    clear hG
    cases hro : rOk r with
    | false =>
      rw [hro] at hX
      have ht7 : t7 = [] := gi_empty (by have := HG.out; rw [hro] at this; exact this)
      subst ht7
      obtain ⟨x, hx⟩ := HN.out hro
      have HX : Hid (treeRef s = .error x) := hx
      clear hro hx HN
      have d0 := hX.c0
      rw [tb_nil]
      go_wp2_with (first
        | (go_at_call 19; refine (ways_none HX.out).mono ?_; rintro e w8 ⟨rfl, hk8⟩; replace hK := hK.trans hk8)
        | (go_at_call 20; refine (find_none HX.out).mono ?_; rintro e w8 ⟨rfl, hk8⟩; replace hK := hK.trans hk8)
        | (go_at_call 21; refine (split_none HX.out).mono ?_; rintro e w8 ⟨rfl, hk8⟩; replace hK := hK.trans hk8))
      go_ret
      exact ⟨rfl, hK⟩
    | true =>
      rw [hro] at hX
      by_cases ht0 : t7 = []
      · subst ht0
        have d0 := hX.c0; have d1 := hX.c1; have d2 := hX.c2; have d3 := hX.c3
        rw [tb_nil]
        clear hro HN
        go_wp2_with fail
        go_quiet (fail)
        go_wp2_with fail
        go_ret
        exact ⟨rfl, hK.drewN _⟩
      · have hGi : Gi true (rAt r) (rGr r) (rPs r) t7 := by
          rcases HG.out with h | h
          · rw [hro] at h; exact h
          · exact absurd h.1 ht0
        obtain ⟨r2, hr2, e1, e2, e3, e4⟩ := gi_again hGi
        have HR2 : Hid (readRef (tb t7) = r2) := hr2
        have HP2 : Hid (rPs r2 = rPs r) := e4
        have HGi : Hid (Gi true (rAt r) (rGr r) (rPs r) t7) := hGi
        have HRO : Hid (rOk r = true) := hro
        have E1 : Hid (rOk r2 = true) := e1
        have E2 : Hid (rAt r2 = rAt r) := e2
        have E3 : Hid (rGr r2 = rGr r) := e3
        have hemp : (tb t7).toList.isEmpty = false := by
          cases t7 with
          | nil => exact absurd rfl ht0
          | cons a l => simp [tb]
        clear hr2 e1 e2 e3 e4 hGi hro HN ht0
        have d0 := hX.c0; have d1 := hX.c1; have d2 := hX.c2; have d3 := hX.c3
        go_wp2_with fail
        go_region_with (first
          | (go_at_call 15; refine (impl_all HR2.out).mono ?_; rintro e w8 ⟨v8, L8, rfl, hO8, hL8, hsm8, hk8⟩; rw [E1.out, E2.out, E3.out]; (try replace hk8 := hkd hk8); replace hK := hK.trans hk8; replace hP := hP.sameW hk8; replace hX := hX.same hk8; obtain ⟨a8, c8, rfl⟩ := own_form hO8.pcs.row; have hP8 := hO8.pcs; have HL8 : Hid (L8.map (·.1) = rPs r) := (by show _ = _; rw [hL8, HP2.out]); have HS8 : Hid (SmallP (L8.map (·.1))) := smallp_of hsm8; clear hL8 hO8 hsm8 hk8; have f0 := hX.c0; have f1 := hX.c1; have f2 := hX.c2; have f3 := hX.c3)
          | (go_at_call 16; refine (wPattern_same hP8 hP (HL8.out.trans HL.out.symm) HS8.out HS1.out).mono ?_; rintro e w9 ⟨rfl, hk9⟩; (try replace hk9 := hkd hk9); replace hK := hK.trans hk9; replace hP := hP.sameW hk9; replace hX := hX.same hk9)
          | (go_at_call 17; refine (implWrite_any hP8 HL8.out hS h64 (htab.on hK)).mono ?_; rintro e w10 ⟨t9, rfl, hG9, hk9⟩; obtain rfl := gi_one HGi.out hG9; (try replace hk9 := hkd hk9); replace hK := hK.trans hk9))
        all_goals (try go_wp2_with fail)
        all_goals go_ret
        all_goals exact ⟨rfl, hK⟩

end Go.Proofs.YtmlgmhnplicflaaGreatDoor
