import Derived.Test.YtmlgmhnplicflaaDoorD
import Derived.Handy
import Derived.Lay
import Derived.Stop.LaidErr
import Derived.Lib.LaidTab
import Derived.ChangeVars

/-
  Quoting: the table of signs, as it is laid.
-/
namespace Go.Proofs.YtmlgmhnplicflaaDoor.Quo
open Go.RowKit Go.ChangeShapes
set_option linter.unusedVariables false
set_option maxRecDepth 100000

def sgTab : List Int := (List.range 93).map fun i => ((sg i : Nat) : Int)
theorem sg_data {H : Type} : (Rows.laid_loop_example_twist_impl_signs : DataW H) = Lib.tabData .u8 sgTab := rfl
theorem sg_of {W : World} (h : laidMet Tryd.prog [("loop.example/twist/impl.signs", Rows.laid_loop_example_twist_impl_signs)] W) : Sg W := by
  have h1 : laidMet Tryd.prog [("loop.example/twist/impl.signs", Lib.tabData .u8 sgTab)] W := h
  have h2 : Lib.TabIs Tryd.prog W "loop.example/twist/impl.signs" .u8 sgTab := Lib.tabIs_of_head (g := 1) (t := 80) (e := 5) (n := 93) (by kernel_rfl) (by kernel_rfl) Tryd.underlying80 Tryd.underlying5 (by kernel_rfl) (by kernel_rfl) h1
  have hg : Tryd.prog.globalNamed "loop.example/twist/impl.signs" = some 1 := by kernel_rfl
  have hc : ∀ i, i < 93 → W.cell? ⟨1, i, none⟩ = some (.int .u8 (sg i : Int)) := fun i hi => by
    unfold Lib.TabIs at h2
    rw [World.var?_cell hg h2 i]
    simp [sgTab, hi]
  refine ⟨?_, hc⟩
  have h0 := hc 0 (by omega)
  apply Decidable.byContradiction
  intro hn
  simp only [World.cell?] at h0
  rw [Array.getElem?_eq_none (by omega)] at h0
  simp at h0

theorem sg_tab {W : World} (h : laidMet Tryd.prog [("loop.example/twist/impl.signs", Rows.laid_loop_example_twist_impl_signs)] W) : W.var? Tryd.prog "loop.example/twist/impl.signs" = some (sgTab.map fun z => Value.int .u8 z).toArray := by
  have h1 : laidMet Tryd.prog [("loop.example/twist/impl.signs", Lib.tabData .u8 sgTab)] W := h
  exact Lib.tabIs_of_head (g := 1) (t := 80) (e := 5) (n := 93) (by kernel_rfl) (by kernel_rfl) Tryd.underlying80 Tryd.underlying5 (by kernel_rfl) (by kernel_rfl) h1
theorem sg_reads {H : Type} (enc : TypeId × Value → H) (W : World) (sp : Nat → Bool) : DataW.trod enc Tryd.prog W 0 sp true 3 80 (sgTab.map fun z => Value.int .u8 z).toArray.toList = some (Lib.tabData .u8 sgTab, []) := by kernel_rfl
/-- The variable stays. -/
theorem signs_stays {H : Type} {enc : TypeId × Value → H} {W : World} {gs : List (DataW H)} {q : List MemPlace} (hL : laidMet Tryd.prog [("loop.example/twist/impl.signs", Rows.laid_loop_example_twist_impl_signs)] W) (hV : DataW.TrodVars enc Tryd.prog W (fun _ => true) ["loop.example/twist/impl.signs"] gs q) :
    ∃ d, gs = [d] ∧ ∀ (W' : World) (sp : Nat → Bool), Below W.heap.size W W' → DataW.TrodVars enc Tryd.prog W' sp ["loop.example/twist/impl.signs"] [d] q := by
  obtain ⟨g, t, cs, fuel, d, p', rfl, hg, ht, hvar, hd, rfl⟩ := trodVars_one hV
  have hg0 : Tryd.prog.globalNamed "loop.example/twist/impl.signs" = some 1 := by kernel_rfl
  obtain rfl := Option.some.inj (hg0.symm.trans hg)
  obtain rfl := Option.some.inj ((show (Tryd.prog.globals[1]?).map (·.type) = some 80 by kernel_rfl).symm.trans ht)
  obtain rfl := Option.some.inj (hvar.symm.trans (sg_tab hL))
  obtain ⟨rfl, rfl⟩ := DataW.Trod.unique (v := .agg (sgTab.map fun z => Value.int .u8 z).toArray) ⟨fuel, hd⟩ ⟨3, sg_reads enc W _⟩
  refine ⟨_, rfl, fun W' sp hb => ?_⟩
  have hlt := (sg_of hL).lt
  have hv' : W'.var? Tryd.prog "loop.example/twist/impl.signs" = some (sgTab.map fun z => Value.int .u8 z).toArray := by
    unfold World.var? at hvar ⊢
    rw [hg0] at hvar ⊢
    simp only [Option.bind_some] at hvar ⊢
    rw [hb.block _ hlt]
    exact hvar
  exact trodVars_mk1 hg0 ht hv' (sg_reads enc W' sp)

end Go.Proofs.YtmlgmhnplicflaaDoor.Quo
