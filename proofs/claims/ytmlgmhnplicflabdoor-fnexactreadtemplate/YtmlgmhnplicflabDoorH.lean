import Derived.Test.YtmlgmhnplicflabDoorF
import Derived.Test.YtmlgmhnplicflabDoorG
import Derived.Test.YtmlgmhnplicflabDoorTie
import Derived.Test.YtmlgmhnplicflabDoorCards
import Derived.ProofKit
import Derived.OpenShut
import Derived.ShutString
import Derived.Handy
import Derived.ChangeVars
import Derived.JoinedOf
import Derived.LaidLaws
import Derived.LaidHandle
import Derived.Stop.Joined
import Derived.SevenTiedAt

/-
  The law on ReadTemplate: the walk.
-/
namespace Go.Proofs.YtmlgmhnplicflabDoor
open Go.RowKit
set_option linter.unusedVariables false

theorem Bk.br_ne {w : World} {P : Nat} {xs : List Value} {base : Nat} {v : Value} {L : List Bt} (hP : Bk w P 24 xs) (h : BR w base v L) : ¬ v.ownBlock = some P := by
  intro hk
  obtain ⟨c2, h2⟩ := own_blk h hk
  unfold Bk at hP
  rw [hP] at h2; simp at h2

set_option maxHeartbeats 4000000 in
set_option maxRecDepth 100000 in
theorem law_tpl (s : ByteArray) (h0 : s.size ≤ maxLen) (w : World) (hh : Hdl w) :
    Calls Tryd.prog 3 #[.string s] w fun e w' => e = .returned (.bool true) ∧ Below w.heap.size w w' := by
  unfold maxLen at h0
  by_cases hs : s.size ≤ 1048576
  · have hSpec := fun w => specTpl_any s w hs
    have hImpl := fun w hh => implTpl_any s w hs hh
    unfold TplPost at hSpec hImpl
    have hLf := tL_few s
    generalize tOk (tplRef s) = ok at hSpec hImpl
    generalize tAt (tplRef s) = at_ at hSpec hImpl
    generalize tL (tplRef s) = L at hSpec hImpl hLf
    have hLl : L.length ≤ 100 := hLf.1
    have hw0 := hh.lt
    clear hLf
    go_enter Tryd.func3, Tryd.ntmps3
    go_upto_region 4 with (go_at_call 6; refine (hSpec _).mono ?_; rintro e w1 ⟨vS, rfl, hS, hk⟩; obtain ⟨aS, cS, rfl⟩ := own_form hS)
    have kA := (Keeps.refl (fun _ => False) w1).alloc (.cells #[.bool ok, .int .i64 at_, .slice aS L.length cS] 24)
    have hK : Keeps (fun k => w.heap.size ≤ k) w (w1.alloc (.cells #[.bool ok, .int .i64 at_, .slice aS L.length cS] 24)) := (hk.trans kA).mono (fun _ _ h => h.elim)
    have hS2 := hS.same kA
    have bS : Bk (w1.alloc (.cells #[.bool ok, .int .i64 at_, .slice aS L.length cS] 24)) w1.heap.size 24 [.bool ok, .int .i64 at_, .slice aS L.length cS] := bk_new w1 _ _
    have hh2 := hh.keeps (hk.trans kA) (fun h => h)
    have hPS : w.heap.size ≤ w1.heap.size := hk.size
    clear hS hk kA
    generalize w1.alloc (.cells #[.bool ok, .int .i64 at_, .slice aS L.length cS] 24) = w2 at hK hS2 bS hh2 ⊢
    generalize w1.heap.size = PS at bS hPS ⊢
    have hw2 := hK.size
    go_upto_region 5 with (go_at_call 7; refine (hImpl _ hh2).mono ?_; rintro e w3 ⟨vG, rfl, hG, hk⟩; obtain ⟨aG, cG, rfl⟩ := own_form hG)
    have kA := (Keeps.refl (fun _ => False) w3).alloc (.cells #[.bool ok, .int .i64 at_, .slice aG L.length cG] 24)
    replace hK : Keeps (fun k => w.heap.size ≤ k) w (w3.alloc (.cells #[.bool ok, .int .i64 at_, .slice aG L.length cG] 24)) := hK.trans ((hk.trans kA).mono (fun _ _ h => h.elim))
    have hltS : ∀ k, (Value.slice aS L.length cS).ownBlock = some k → k < w2.heap.size := fun k hk => (hS2.lt k hk).2
    have hloG : ∀ k, (Value.slice aG L.length cG).ownBlock = some k → w2.heap.size ≤ k := fun k hk => (hG.lt k hk).1
    replace hS2 := hS2.same (hk.trans kA)
    replace bS := bS.keeps (hk.trans kA) (fun h => h)
    replace hG := hG.same kA
    replace hh2 := hh2.keeps (hk.trans kA) (fun h => h)
    have bG : Bk (w3.alloc (.cells #[.bool ok, .int .i64 at_, .slice aG L.length cG] 24)) w3.heap.size 24 [.bool ok, .int .i64 at_, .slice aG L.length cG] := bk_new w3 _ _
    clear hk kA
    generalize w3.alloc (.cells #[.bool ok, .int .i64 at_, .slice aG L.length cG] 24) = w4 at hK hS2 hG bS bG hh2 ⊢
    generalize w3.heap.size = PG at bG ⊢
    have c0 : w4.cell? ⟨PS, 0, none⟩ = some (.bool ok) := by rw [bS.cell]; rfl
    have c1 : w4.cell? ⟨PS, 1, none⟩ = some (.int .i64 at_) := by rw [bS.cell]; rfl
    have c2 : w4.cell? ⟨PS, 2, none⟩ = some (.slice aS L.length cS) := by rw [bS.cell]; rfl
    have d0 : w4.cell? ⟨PG, 0, none⟩ = some (.bool ok) := by rw [bG.cell]; rfl
    have d1 : w4.cell? ⟨PG, 1, none⟩ = some (.int .i64 at_) := by rw [bG.cell]; rfl
    have d2 : w4.cell? ⟨PG, 2, none⟩ = some (.slice aG L.length cG) := by rw [bG.cell]; rfl
    go_upto_region 7 with (first
      | (go_at_call 8; refine (eqTemplate_same hG hS2 (by omega)).mono ?_; rintro e w5 ⟨rfl, hk⟩; replace hK := hK.trans (hk.mono (fun _ _ h => h.elim)); replace hS2 := hS2.same hk; replace hG := hG.same hk; replace bS := bS.keeps hk (fun h => h); replace bG := bG.keeps hk (fun h => h); replace hh2 := hh2.keeps hk (fun h => h); clear hk))
    clear c0 c1 c2 d0 d1 d2
    have d0 : w5.cell? ⟨PG, 0, none⟩ = some (.bool ok) := by rw [bG.cell]; rfl
    have d1 : w5.cell? ⟨PG, 1, none⟩ = some (.int .i64 at_) := by rw [bG.cell]; rfl
    have d2 : w5.cell? ⟨PG, 2, none⟩ = some (.slice aG L.length cG) := by rw [bG.cell]; rfl
    have hmk := markTemplate_any (ok := ok) (at_ := at_) hG (by omega)
    generalize hme : ((1 + 2 * L.length : Nat) : Int) = m at hmk
    have HM : Hid (((1 + 2 * L.length : Nat) : Int) = m) := hme
    have hm0 : 0 ≤ m := by omega
    clear hme
    go_upto_region 9 with (first
      | (go_at_call 9; refine hmk.mono ?_; rintro e w6 ⟨rfl, hPm, hk⟩; replace hK := hK.trans' hk (fun i hi h => by have := hloG i h; omega); replace hS2 : BR w6 w.heap.size (.slice aS L.length cS) L := ownsRow_keeps hS2 hk (fun i hi h => by have h1 := hloG i h; have h2 := hltS i hi; omega); replace bS := bS.keeps hk (bS.br_ne hG); replace bG := bG.keeps hk (bG.br_ne hG); replace hh2 := hh2.keeps hk (fun h => by have := hloG 0 h; omega); clear hk hG))
    clear d0 d1 d2 hmk
    have d0 : w6.cell? ⟨PG, 0, none⟩ = some (.bool ok) := by rw [bG.cell]; rfl
    have d1 : w6.cell? ⟨PG, 1, none⟩ = some (.int .i64 at_) := by rw [bG.cell]; rfl
    have d2 : w6.cell? ⟨PG, 2, none⟩ = some (.slice aG L.length cG) := by rw [bG.cell]; rfl
    go_upto_region 15 with (first
      | (go_at_call 10; refine (heldTemplate_any (ok := ok) (at_ := at_) hPm (by omega)).mono ?_; rw [HM.out]; rintro e w7 ⟨rfl, hk⟩; replace hK := hK.trans (hk.mono (fun _ _ h => h.elim)); replace hS2 := hS2.same hk; replace hPm := hPm.same hk; replace bS := bS.keeps hk (fun h => h); replace bG := bG.keeps hk (fun h => h); replace hh2 := hh2.keeps hk (fun h => h); clear hk))
    clear d0 d1 d2
    go_upto_region 16 with (go_at_call 7; refine (hImpl _ hh2).mono ?_; rintro e w8 ⟨vH, rfl, hH, hk⟩; obtain ⟨aH, cH, rfl⟩ := own_form hH)
    have kA := (Keeps.refl (fun _ => False) w8).alloc (.cells #[.bool ok, .int .i64 at_, .slice aH L.length cH] 24)
    replace hK : Keeps (fun k => w.heap.size ≤ k) w (w8.alloc (.cells #[.bool ok, .int .i64 at_, .slice aH L.length cH] 24)) := hK.trans ((hk.trans kA).mono (fun _ _ h => h.elim))
    replace hS2 := hS2.same (hk.trans kA)
    replace hPm := hPm.same (hk.trans kA)
    replace bS := bS.keeps (hk.trans kA) (fun h => h)
    replace bG := bG.keeps (hk.trans kA) (fun h => h)
    replace hH := hH.same kA
    have bH : Bk (w8.alloc (.cells #[.bool ok, .int .i64 at_, .slice aH L.length cH] 24)) w8.heap.size 24 [.bool ok, .int .i64 at_, .slice aH L.length cH] := bk_new w8 _ _
    clear hk kA hh2
    generalize w8.alloc (.cells #[.bool ok, .int .i64 at_, .slice aH L.length cH] 24) = w9 at hK hS2 hPm hH bS bG bH ⊢
    generalize w8.heap.size = PH at bH ⊢
    have c0 : w9.cell? ⟨PS, 0, none⟩ = some (.bool ok) := by rw [bS.cell]; rfl
    have c1 : w9.cell? ⟨PS, 1, none⟩ = some (.int .i64 at_) := by rw [bS.cell]; rfl
    have c2 : w9.cell? ⟨PS, 2, none⟩ = some (.slice aS L.length cS) := by rw [bS.cell]; rfl
    have d0 : w9.cell? ⟨PH, 0, none⟩ = some (.bool ok) := by rw [bH.cell]; rfl
    have d1 : w9.cell? ⟨PH, 1, none⟩ = some (.int .i64 at_) := by rw [bH.cell]; rfl
    have d2 : w9.cell? ⟨PH, 2, none⟩ = some (.slice aH L.length cH) := by rw [bH.cell]; rfl
    go_wp2_with (first
      | (go_at_call 8; refine (eqTemplate_same hH hS2 (by omega)).mono ?_; rintro e wA ⟨rfl, hk⟩; replace hK := hK.trans (hk.mono (fun _ _ h => h.elim)); replace hPm := hPm.same hk; replace bG := bG.keeps hk (fun h => h); clear hk; have e0 : wA.cell? ⟨PG, 0, none⟩ = some (.bool ok) := (by rw [bG.cell]; rfl); have e1 : wA.cell? ⟨PG, 1, none⟩ = some (.int .i64 at_) := (by rw [bG.cell]; rfl); have e2 : wA.cell? ⟨PG, 2, none⟩ = some (.slice aG L.length cG) := (by rw [bG.cell]; rfl))
      | (go_at_call 10; refine (heldTemplate_any (ok := ok) (at_ := at_) hPm (by omega)).mono ?_; rw [HM.out]; rintro e wB ⟨rfl, hk⟩; replace hK := hK.trans (hk.mono (fun _ _ h => h.elim)); clear hk))
    go_ret
    exact ⟨rfl, hK.below _ (fun k hk h => by omega) (Nat.le_refl _)⟩
  · go_enter Tryd.func3, Tryd.ntmps3
    go_wp2
    go_ret
    exact ⟨rfl, (Keeps.refl (fun _ => False) w).below _ (fun _ _ h => h) (Nat.le_refl _)⟩

end Go.Proofs.YtmlgmhnplicflabDoor

/-
  The law on ReadTemplate, for every text that may be given; its card.
-/
namespace Go.Proofs.YtmlgmhnplicflabDoor.fnExactReadTemplate
open Go.ChangeShapes Go.WideShapes Go.ChangeAt Go.RowKit
open Go.ChangeMaps (open_string shut_string)
set_option linter.unusedVariables false

theorem own : ownKnob Tryd.prog.godebug = none := by kernel_rfl
theorem et : Tryd.prog.globalNamed "errors.errorType" = some 0 := by kernel_rfl
theorem rt : (Tryd.prog.cutTypes.find? (·.1 == "internal/reflectlite.rtype")).map (·.2) = some 78 := by kernel_rfl
theorem oneRow : ((List.range 123).filter fun t => Tryd.prog.rowNamed t [101, 114, 114, 111, 114]) = [37] := by kernel_rfl
theorem size : Tryd.prog.types.size = 123 := by kernel_rfl

/-- What the row's premise gives: the handle. -/
theorem handle_of {W : World} (h : laidMetH Tryd.prog Rows.fnExactReadTemplateRow.laid W) : Hdl W := by
  have h' : laidMet Tryd.prog [] W ∧ handlesMet Tryd.prog Rows.fnExactReadTemplateRow.laid W := h
  obtain ⟨name, u, ty, e1, e2, e3, e4, e5⟩ := h'.2 _ (List.mem_singleton.2 rfl)
  have en : name = [101, 114, 114, 111, 114] := (Option.some.inj e1).symm
  subst en
  obtain rfl := Option.some.inj (rt.symm.trans e2)
  have hm : ty ∈ (List.range 123).filter fun t => Tryd.prog.rowNamed t [101, 114, 114, 111, 114] := List.mem_filter.2 ⟨List.mem_range.2 (by rw [← size]; exact e3), e4⟩
  rw [oneRow] at hm
  obtain rfl := List.mem_singleton.1 hm
  have hh : typeHandle Tryd.prog 37 = .pointer (some ⟨2, 37, none⟩) := by kernel_rfl
  rw [hh] at e5
  unfold Hdl
  simpa using World.var?_cell et e5 0
/-- A world that has it. -/
noncomputable def laidWorld (os : Os) : World :=
  let w0 := World.holding Tryd.prog os ⟨#[], #[], []⟩
  { w0 with heap := w0.heap.modify 0 fun
      | .cells _ t frozen => .cells #[.iface 78 (.agg #[.pointer (some ⟨2, 37, none⟩)])] t frozen
      | o => o }
theorem laidWorld_met (os : Os) (args : Array Value) : laidMetH Tryd.prog Rows.fnExactReadTemplateRow.laid ((laidWorld os).forCall (fun _ _ => 0) ⟨#[], args, []⟩).memory :=
  laidMetH_of_parts (laidMet_nil _ _) (by kernel_rfl)

set_option maxRecDepth 100000 in
theorem lifted (os : Os) (started : os.Started) (H : Type) (enc : TypeId × Value → H) :
    ReturnsInHanded {} Tryd.checked os 3 .any (fun w args => (Rows.fnExactReadTemplateSpec.pre enc Tryd.prog Tryd.f3 [] false w args ∧ laidMetH Tryd.prog Rows.fnExactReadTemplateRow.laid w) ∧ sizedMet enc Tryd.prog Tryd.f3 (OpenSpec.ofChange Rows.fnExactReadTemplateSpec) false w args)
      (Rows.fnExactReadTemplateSpec.post enc Tryd.prog Tryd.f3 false true false false) := by
  refine returnsInHanded_of_change_and (C := Tryd.checked) (X := fun w _ => laidMetH Tryd.prog Rows.fnExactReadTemplateRow.laid w) (fun _ _ _ hh h => h.of_heap hh) own started (by kernel_rfl) Tryd.func3
    (ChangeSpec.witness_at (enc := enc) (C := Tryd.checked) (os := os) (X := fun w _ => laidMetH Tryd.prog Rows.fnExactReadTemplateRow.laid w) false (laidWorld os) #[.string ByteArray.empty] 8 rfl (by kernel_rfl) (by kernel_rfl) (by kernel_rfl) (by kernel_rfl) (by kernel_rfl) (laidWorld_met os _)) ?_
  intro W base args ds gs before hval0 hW _ _ hL _
  have hval : ∀ (j : Nat) t v, Tryd.f3.params[j]? = some t → args[j]? = some v → Value.okWide Tryd.prog W .any base t v := hval0
  have hW' := hW
  obtain ⟨p, q, hA0, hV, rfl, hfz, hnd⟩ := hW
  have hA : DataW.TrodAll enc Tryd.prog W 0 (fun _ => true) true Tryd.f3.params.toList args.toList ds p := hA0
  rw [Tryd.params3] at hA hval
  obtain ⟨v0, vs0, d0, ds0, p0, q0, hargs, rfl, rfl, h0, r0⟩ := trodAll_cons hA
  obtain ⟨rfl, rfl, rfl⟩ := trodAll_nil r0
  obtain rfl : args = #[v0] := by cases args; simp_all
  obtain ⟨rfl, rfl⟩ := trodVars_none hV
  obtain ⟨a0, rfl, rfl, rfl, w0⟩ := open_string Tryd.underlying9 (hval 0 9 v0 rfl rfl) h0
  clear hA0 hval0
  simp only [List.append_nil] at hW'
  refine (law_tpl a0 w0 W (handle_of hL)).mono fun e W' ⟨he, hg⟩ => ?_
  subst he
  exact ⟨_, rfl, _, _, _, [], [], [], hW', trodAll_mk1 (shut_bool Tryd.underlying4 _), trodAll_cons_mk (shut_string Tryd.underlying9 w0) trodAll_mk0, rfl, hg.frame _, fun h => by cases h⟩

theorem over : Rows.fnExactReadTemplateRow.holds Tryd.pinned (OpenSpec.ofChange Rows.fnExactReadTemplateSpec) :=
  OpenClaim.holds_of_wide 3 Tryd.f3 rfl rfl rfl rfl rfl rfl rfl ⟨rfl, rfl, rfl, rfl, rfl⟩ rfl rfl rfl rfl rfl (by kernel_rfl) Tryd.func3 (by kernel_rfl)
    (of_decide_eq_true (by kernel_rfl)) (by unfold Func.isWrapper; first | (rw [if_pos (by decide +kernel)]; kernel_rfl) | (rw [if_neg (by decide +kernel)]; exact ⟨rfl, rfl⟩))
    (fun os started H enc _ => lifted os started H enc)

end Go.Proofs.YtmlgmhnplicflabDoor.fnExactReadTemplate
namespace Go.Proofs.YtmlgmhnplicflabDoor
open Go

theorem readTemplate_holds : Rows.FnExactReadTemplateCardSaid :=
  Claim7.holds_tied_plain_at .later [] [.handle] true Rows.fnExactReadTemplateCard.stood.harness true fnExactReadTemplate.over (fun _ h => by cases h) (by kernel_rfl) (fun _ h => by cases h) fnExactReadTemplate_row_tie rfl ⟨rfl, rfl⟩ (by kernel_rfl) rfl
    (fun f fn hf hfn => by
      obtain rfl : f = 3 := Option.some.inj ((show Tryd.prog.funcNamed Rows.fnExactReadTemplateRow.func = some 3 by kernel_rfl).symm.trans hf) |>.symm
      obtain rfl : fn = Tryd.f3 := (Option.some.inj (Tryd.func3.symm.trans hfn)).symm
      exact ⟨by kernel_rfl, fun j t ht => by
        rw [Tryd.params3] at ht
        have hm : t ∈ [9] := by simpa using Array.mem_of_getElem? ht
        have hall : ([9].all fun u => !Tryd.prog.wantsStandIn u) = true := by kernel_rfl
        exact (show Tryd.prog.wantsStandIn t = false by simpa using List.all_eq_true.1 hall t hm)⟩)
    (by kernel_rfl)
#print axioms readTemplate_holds
end Go.Proofs.YtmlgmhnplicflabDoor
