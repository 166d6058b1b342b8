import Derived.Test.YtmlgmhnplicflabDoorD
import Derived.Handy
import Derived.Lay
import Derived.Stop.LaidErr
import Derived.Lib.LaidTab
import Derived.ChangeVars
import Derived.Test.YtmlgmhnplicflabDoorTie
import Derived.Test.YtmlgmhnplicflabDoorCards
import Derived.ProofKit
import Derived.OpenShut
import Derived.ShutString
import Derived.JoinedOf
import Derived.SevenTiedAt

/-
  Quoting: the table of signs, as it is laid.
-/
namespace Go.Proofs.YtmlgmhnplicflabDoor.Quo
open Go.RowKit Go.ChangeShapes
set_option linter.unusedVariables false
set_option maxRecDepth 100000

def sgTab : List Int := (List.range 93).map fun i => ((sg i : Nat) : Int)
theorem sg_data {H : Type} : (Rows.laid_loop_example_twist_impl_signs : DataW H) = Lib.tabData .u8 sgTab := rfl
theorem sg_of {W : World} (h : laidMet Tryd.prog [("loop.example/twist/impl.signs", Rows.laid_loop_example_twist_impl_signs)] W) : Sg W := by
  have h1 : laidMet Tryd.prog [("loop.example/twist/impl.signs", Lib.tabData .u8 sgTab)] W := h
  have h2 : Lib.TabIs Tryd.prog W "loop.example/twist/impl.signs" .u8 sgTab := Lib.tabIs_of_head (g := 1) (t := 91) (e := 5) (n := 93) (by kernel_rfl) (by kernel_rfl) Tryd.underlying91 Tryd.underlying5 (by kernel_rfl) (by kernel_rfl) h1
  have hg : Tryd.prog.globalNamed "loop.example/twist/impl.signs" = some 1 := by kernel_rfl
  have hc : ∀ i, i < 93 → W.cell? ⟨1, i, none⟩ = some (.int .u8 (sg i : Int)) := fun i hi => by
    unfold Lib.TabIs at h2
    rw [World.var?_cell hg h2 i]
    simp [sgTab, hi]
  refine ⟨?_, hc⟩
  have h0 := hc 0 (by omega)
  apply Decidable.byContradiction
  intro hn
  simp only [World.cell?] at h0
  rw [Array.getElem?_eq_none (by omega)] at h0
  simp at h0

theorem sg_tab {W : World} (h : laidMet Tryd.prog [("loop.example/twist/impl.signs", Rows.laid_loop_example_twist_impl_signs)] W) : W.var? Tryd.prog "loop.example/twist/impl.signs" = some (sgTab.map fun z => Value.int .u8 z).toArray := by
  have h1 : laidMet Tryd.prog [("loop.example/twist/impl.signs", Lib.tabData .u8 sgTab)] W := h
  exact Lib.tabIs_of_head (g := 1) (t := 91) (e := 5) (n := 93) (by kernel_rfl) (by kernel_rfl) Tryd.underlying91 Tryd.underlying5 (by kernel_rfl) (by kernel_rfl) h1
theorem sg_reads {H : Type} (enc : TypeId × Value → H) (W : World) (sp : Nat → Bool) : DataW.trod enc Tryd.prog W 0 sp true 3 91 (sgTab.map fun z => Value.int .u8 z).toArray.toList = some (Lib.tabData .u8 sgTab, []) := by kernel_rfl
/-- The variable stays. -/
theorem signs_stays {H : Type} {enc : TypeId × Value → H} {W : World} {gs : List (DataW H)} {q : List MemPlace} (hL : laidMet Tryd.prog [("loop.example/twist/impl.signs", Rows.laid_loop_example_twist_impl_signs)] W) (hV : DataW.TrodVars enc Tryd.prog W (fun _ => true) ["loop.example/twist/impl.signs"] gs q) :
    ∃ d, gs = [d] ∧ ∀ (W' : World) (sp : Nat → Bool), Below W.heap.size W W' → DataW.TrodVars enc Tryd.prog W' sp ["loop.example/twist/impl.signs"] [d] q := by
  obtain ⟨g, t, cs, fuel, d, p', rfl, hg, ht, hvar, hd, rfl⟩ := trodVars_one hV
  have hg0 : Tryd.prog.globalNamed "loop.example/twist/impl.signs" = some 1 := by kernel_rfl
  obtain rfl := Option.some.inj (hg0.symm.trans hg)
  obtain rfl := Option.some.inj ((show (Tryd.prog.globals[1]?).map (·.type) = some 91 by kernel_rfl).symm.trans ht)
  obtain rfl := Option.some.inj (hvar.symm.trans (sg_tab hL))
  obtain ⟨rfl, rfl⟩ := DataW.Trod.unique (v := .agg (sgTab.map fun z => Value.int .u8 z).toArray) ⟨fuel, hd⟩ ⟨3, sg_reads enc W _⟩
  refine ⟨_, rfl, fun W' sp hb => ?_⟩
  have hlt := (sg_of hL).lt
  have hv' : W'.var? Tryd.prog "loop.example/twist/impl.signs" = some (sgTab.map fun z => Value.int .u8 z).toArray := by
    unfold World.var? at hvar ⊢
    rw [hg0] at hvar ⊢
    simp only [Option.bind_some] at hvar ⊢
    rw [hb.block _ hlt]
    exact hvar
  exact trodVars_mk1 hg0 ht hv' (sg_reads enc W' sp)

end Go.Proofs.YtmlgmhnplicflabDoor.Quo

/-
  The law on Quote; its card.
-/
namespace Go.Proofs.YtmlgmhnplicflabDoor.fnExactQuote
open Quo Go.ChangeShapes Go.WideShapes Go.ChangeAt Go.RowKit
open Go.ChangeMaps (open_string shut_string)
set_option linter.unusedVariables false

theorem own : ownKnob Tryd.prog.godebug = none := by kernel_rfl

theorem walk (a0 : ByteArray) (w0 : a0.size ≤ maxLen) (w : World) (hS : Sg w) :
    Calls Tryd.prog 4 #[.string a0] w fun e w' => e = .returned (.bool true) ∧ Below w.heap.size w w' := by
  unfold maxLen at w0
  by_cases h : a0.size ≤ 1048576
  · go_enter Tryd.func4, Tryd.ntmps4
    go_wp2_with (first
      | (go_at_call 11; refine (specQuote_any h).mono ?_; rintro e w1 ⟨rfl, hb1⟩)
      | (go_at_call 12; refine (implQuote_any (hS.below hS.lt hb1) h).mono ?_; rintro e w2 ⟨rfl, hb2⟩))
    go_ret
    exact ⟨rfl, hb1.trans (hb2.mono hb1.size)⟩
  · go_enter Tryd.func4, Tryd.ntmps4
    go_wp2
    go_ret
    exact ⟨rfl, Below.refl _ _⟩

set_option maxRecDepth 100000 in
theorem lifted (os : Os) (started : os.Started) (H : Type) (enc : TypeId × Value → H) :
    ReturnsInHanded {} Tryd.checked os 4 .any (fun w args => (Rows.fnExactQuoteSpec.pre enc Tryd.prog Tryd.f4 [] false w args ∧ laidMetH Tryd.prog Rows.fnExactQuoteRow.laid w) ∧ sizedMet enc Tryd.prog Tryd.f4 (OpenSpec.ofChange Rows.fnExactQuoteSpec) false w args)
      (Rows.fnExactQuoteSpec.post enc Tryd.prog Tryd.f4 false true false false) := by
  refine returnsInHanded_of_change_and (C := Tryd.checked) (X := fun w _ => laidMetH Tryd.prog Rows.fnExactQuoteRow.laid w) (fun _ _ _ hh h => h.of_heap hh) own started (by kernel_rfl) Tryd.func4
    (ChangeSpec.witness_shaped (enc := enc) (C := Tryd.checked) (os := os) (X := fun w _ => laidMetH Tryd.prog Rows.fnExactQuoteRow.laid w) false (World.laidAll Tryd.prog os Rows.fnExactQuoteRow.laid) #[.string ByteArray.empty] 8 (World.laidAll_os _ _ _)
      (World.shaped_of_ZipB (by kernel_rfl) (by kernel_rfl)) (by kernel_rfl) (by kernel_rfl) (by kernel_rfl)
      (by rw [MakeChecks.laidMetH_plain _ _ _ (by kernel_rfl)]; exact laidMet_laidAll _ (by kernel_rfl) (by kernel_rfl))) ?_
  intro W base args ds gs before hval0 hW _ _ hL _
  rw [MakeChecks.laidMetH_plain _ _ _ (by kernel_rfl)] at hL
  have hval : ∀ (j : Nat) t v, Tryd.f4.params[j]? = some t → args[j]? = some v → Value.okWide Tryd.prog W .any base t v := hval0
  have hW' := hW
  obtain ⟨p, q, hA0, hV0, rfl, hfz, hnd⟩ := hW
  have hA : DataW.TrodAll enc Tryd.prog W 0 (fun _ => true) true Tryd.f4.params.toList args.toList ds p := hA0
  have hV : DataW.TrodVars enc Tryd.prog W (fun _ => true) ["loop.example/twist/impl.signs"] gs q := hV0
  rw [Tryd.params4] at hA hval
  obtain ⟨v0, vs0, d0, ds0, p0, q0, hargs, rfl, rfl, h0, r0⟩ := trodAll_cons hA
  obtain ⟨rfl, rfl, rfl⟩ := trodAll_nil r0
  obtain rfl : args = #[v0] := by cases args; simp_all
  obtain ⟨a0, rfl, rfl, rfl, w0⟩ := open_string Tryd.underlying9 (hval 0 9 v0 rfl rfl) h0
  obtain ⟨d, rfl, hvars⟩ := signs_stays hL hV
  clear hA0 hV0 hval0
  refine (walk a0 w0 W (sg_of hL)).mono fun e W' ⟨he, hg⟩ => ?_
  subst he
  exact ⟨_, rfl, _, _, _, [], [], _, hW', trodAll_mk1 (shut_bool Tryd.underlying4 _), trodAll_cons_mk (shut_string Tryd.underlying9 w0) trodAll_mk0, hvars W' _ hg, hg.frame _, fun h => by cases h⟩

theorem over : Rows.fnExactQuoteRow.holds Tryd.pinned (OpenSpec.ofChange Rows.fnExactQuoteSpec) :=
  OpenClaim.holds_of_wide 4 Tryd.f4 rfl rfl rfl rfl rfl rfl rfl ⟨rfl, rfl, rfl, rfl, rfl⟩ rfl rfl rfl rfl rfl (by kernel_rfl) Tryd.func4 (by kernel_rfl)
    (of_decide_eq_true (by kernel_rfl)) (by unfold Func.isWrapper; first | (rw [if_pos (by decide +kernel)]; kernel_rfl) | (rw [if_neg (by decide +kernel)]; exact ⟨rfl, rfl⟩))
    (fun os started H enc _ => lifted os started H enc)

end Go.Proofs.YtmlgmhnplicflabDoor.fnExactQuote
namespace Go.Proofs.YtmlgmhnplicflabDoor
open Go

theorem quote_holds : Rows.FnExactQuoteCardSaid :=
  Claim7.holds_tied_plain_at .later [] [.data] true Rows.fnExactQuoteCard.stood.harness true fnExactQuote.over (fun _ h => by cases h) (by kernel_rfl) (fun _ h => by cases h) fnExactQuote_row_tie rfl ⟨rfl, rfl⟩ (by kernel_rfl) rfl
    (fun f fn hf hfn => by
      obtain rfl : f = 4 := Option.some.inj ((show Tryd.prog.funcNamed Rows.fnExactQuoteRow.func = some 4 by kernel_rfl).symm.trans hf) |>.symm
      obtain rfl : fn = Tryd.f4 := (Option.some.inj (Tryd.func4.symm.trans hfn)).symm
      exact ⟨by kernel_rfl, fun j t ht => by
        rw [Tryd.params4] at ht
        have hm : t ∈ [9] := by simpa using Array.mem_of_getElem? ht
        have hall : ([9].all fun u => !Tryd.prog.wantsStandIn u) = true := by kernel_rfl
        exact (show Tryd.prog.wantsStandIn t = false by simpa using List.all_eq_true.1 hall t hm)⟩)
    (by kernel_rfl)
#print axioms quote_holds
end Go.Proofs.YtmlgmhnplicflabDoor
