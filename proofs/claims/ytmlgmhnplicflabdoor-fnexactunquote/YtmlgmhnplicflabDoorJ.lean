import Derived.Test.YtmlgmhnplicflabDoorI
import Derived.Deep.RegionWith
import Derived.Test.YtmlgmhnplicflabDoorE
import Derived.Test.YtmlgmhnplicflabDoorTie
import Derived.Test.YtmlgmhnplicflabDoorCards
import Derived.ProofKit
import Derived.OpenShut
import Derived.ShutString
import Derived.Handy
import Derived.Lay
import Derived.ChangeVars
import Derived.JoinedOf
import Derived.SevenTiedAt
import Derived.Stop.LaidErr
import Derived.Lib.LaidTab

/-
  The law on Unquote: the walk.
-/
namespace Go.Proofs.YtmlgmhnplicflabDoor.Quo
open Go.RowKit
set_option linter.unusedVariables false
set_option maxRecDepth 100000

theorem eqUnquoted_same {w : World} {ok : Bool} {at_ : Int} {tx : ByteArray} :
    Calls Tryd.prog 15 #[.agg #[.bool ok, .int .i64 at_, .string tx], .agg #[.bool ok, .int .i64 at_, .string tx]] w fun e w' => e = .returned (.bool true) ∧ Keeps (fun _ => False) w w' := by
  go_enter Tryd.func15, Tryd.ntmps15
  go_wp2
  go_ret
  exact ⟨rfl, ((Keeps.refl _ _).alloc _).alloc _⟩

set_option maxHeartbeats 2000000 in
theorem law_unq (s : ByteArray) (h0 : s.size ≤ maxLen) (w : World) (hS : Sg w) :
    Calls Tryd.prog 5 #[.string s] w fun e w' => e = .returned (.bool true) ∧ Below w.heap.size w w' := by
  unfold maxLen at h0
  by_cases hs : s.size ≤ 1048576
  · have hSpec := fun w => specUnquote_any (w := w) hs
    have hImpl := fun w (h : Sg w) => implUnquote_any h hs
    unfold UqP at hSpec hImpl
    generalize uOk (unqRef s) = ok at hSpec hImpl
    generalize (uAt (unqRef s) : Int) = at_ at hSpec hImpl
    generalize uTx (unqRef s) = tx at hSpec hImpl
    have hsz : ¬ (1048576 : Int) < (s.size : Int) := by omega
    go_enter Tryd.func5, Tryd.ntmps5
    go_upto_region 4 with (go_at_call 13; refine (hSpec _).mono ?_; rintro e w1 ⟨rfl, hk⟩)
    have kA := hk.alloc (.cells #[.bool ok, .int .i64 at_, .string tx] 31)
    have bS : Bk (w1.alloc (.cells #[.bool ok, .int .i64 at_, .string tx] 31)) w1.heap.size 31 [.bool ok, .int .i64 at_, .string tx] := bk_new w1 _ _
    have hS2 := hS.keeps kA (fun h => h)
    generalize w1.alloc (.cells #[.bool ok, .int .i64 at_, .string tx] 31) = w2 at kA bS hS2 ⊢
    generalize w1.heap.size = PS at bS ⊢
    go_upto_region 5 with (go_at_call 14; refine (hImpl _ hS2).mono ?_; rintro e w3 ⟨rfl, hk3⟩)
    have k3A := (Keeps.refl (fun _ => False) w3).alloc (.cells #[.bool ok, .int .i64 at_, .string tx] 31)
    have bG : Bk (w3.alloc (.cells #[.bool ok, .int .i64 at_, .string tx] 31)) w3.heap.size 31 [.bool ok, .int .i64 at_, .string tx] := bk_new w3 _ _
    replace bS := bS.keeps (hk3.trans k3A) (fun h => h)
    replace kA := kA.trans (hk3.trans k3A)
    generalize w3.alloc (.cells #[.bool ok, .int .i64 at_, .string tx] 31) = w4 at kA bS bG ⊢
    generalize w3.heap.size = PG at bG ⊢
    have c0 : w4.cell? ⟨PS, 0, none⟩ = some (.bool ok) := by rw [cell_of bS]; rfl
    have c1 : w4.cell? ⟨PS, 1, none⟩ = some (.int .i64 at_) := by rw [cell_of bS]; rfl
    have c2 : w4.cell? ⟨PS, 2, none⟩ = some (.string tx) := by rw [cell_of bS]; rfl
    have d0 : w4.cell? ⟨PG, 0, none⟩ = some (.bool ok) := by rw [cell_of bG]; rfl
    have d1 : w4.cell? ⟨PG, 1, none⟩ = some (.int .i64 at_) := by rw [cell_of bG]; rfl
    have d2 : w4.cell? ⟨PG, 2, none⟩ = some (.string tx) := by rw [cell_of bG]; rfl
    clear bS bG hS2 hSpec hImpl
    go_wp2_with (go_at_call 15; refine eqUnquoted_same.mono ?_; rintro e w5 ⟨rfl, hk5⟩)
    go_ret
    exact ⟨rfl, (kA.trans hk5).below _ (fun _ _ h => h) (Nat.le_refl _)⟩
  · have hsz : (1048576 : Int) < (s.size : Int) := by omega
    go_enter Tryd.func5, Tryd.ntmps5
    go_wp2
    go_ret
    exact ⟨rfl, Below.refl _ _⟩

end Go.Proofs.YtmlgmhnplicflabDoor.Quo

/-
  The law on Unquote; its card.
-/
namespace Go.Proofs.YtmlgmhnplicflabDoor.fnExactUnquote
open Quo Go.ChangeShapes Go.WideShapes Go.ChangeAt Go.RowKit
open Go.ChangeMaps (open_string shut_string)
set_option linter.unusedVariables false

theorem own : ownKnob Tryd.prog.godebug = none := by kernel_rfl

set_option maxRecDepth 100000 in
theorem lifted (os : Os) (started : os.Started) (H : Type) (enc : TypeId × Value → H) :
    ReturnsInHanded {} Tryd.checked os 5 .any (fun w args => (Rows.fnExactUnquoteSpec.pre enc Tryd.prog Tryd.f5 [] false w args ∧ laidMetH Tryd.prog Rows.fnExactUnquoteRow.laid w) ∧ sizedMet enc Tryd.prog Tryd.f5 (OpenSpec.ofChange Rows.fnExactUnquoteSpec) false w args)
      (Rows.fnExactUnquoteSpec.post enc Tryd.prog Tryd.f5 false true false false) := by
  refine returnsInHanded_of_change_and (C := Tryd.checked) (X := fun w _ => laidMetH Tryd.prog Rows.fnExactUnquoteRow.laid w) (fun _ _ _ hh h => h.of_heap hh) own started (by kernel_rfl) Tryd.func5
    (ChangeSpec.witness_shaped (enc := enc) (C := Tryd.checked) (os := os) (X := fun w _ => laidMetH Tryd.prog Rows.fnExactUnquoteRow.laid w) false (World.laidAll Tryd.prog os Rows.fnExactUnquoteRow.laid) #[.string ByteArray.empty] 8 (World.laidAll_os _ _ _)
      (World.shaped_of_ZipB (by kernel_rfl) (by kernel_rfl)) (by kernel_rfl) (by kernel_rfl) (by kernel_rfl)
      (by rw [MakeChecks.laidMetH_plain _ _ _ (by kernel_rfl)]; exact laidMet_laidAll _ (by kernel_rfl) (by kernel_rfl))) ?_
  intro W base args ds gs before hval0 hW _ _ hL _
  rw [MakeChecks.laidMetH_plain _ _ _ (by kernel_rfl)] at hL
  have hval : ∀ (j : Nat) t v, Tryd.f5.params[j]? = some t → args[j]? = some v → Value.okWide Tryd.prog W .any base t v := hval0
  have hW' := hW
  obtain ⟨p, q, hA0, hV0, rfl, hfz, hnd⟩ := hW
  have hA : DataW.TrodAll enc Tryd.prog W 0 (fun _ => true) true Tryd.f5.params.toList args.toList ds p := hA0
  have hV : DataW.TrodVars enc Tryd.prog W (fun _ => true) ["loop.example/twist/impl.signs"] gs q := hV0
  rw [Tryd.params5] at hA hval
  obtain ⟨v0, vs0, d0, ds0, p0, q0, hargs, rfl, rfl, h0, r0⟩ := trodAll_cons hA
  obtain ⟨rfl, rfl, rfl⟩ := trodAll_nil r0
  obtain rfl : args = #[v0] := by cases args; simp_all
  obtain ⟨a0, rfl, rfl, rfl, w0⟩ := open_string Tryd.underlying9 (hval 0 9 v0 rfl rfl) h0
  obtain ⟨d, rfl, hvars⟩ := signs_stays hL hV
  clear hA0 hV0 hval0
  refine (law_unq a0 w0 W (sg_of hL)).mono fun e W' ⟨he, hg⟩ => ?_
  subst he
  exact ⟨_, rfl, _, _, _, [], [], _, hW', trodAll_mk1 (shut_bool Tryd.underlying4 _), trodAll_cons_mk (shut_string Tryd.underlying9 w0) trodAll_mk0, hvars W' _ hg, hg.frame _, fun h => by cases h⟩

theorem over : Rows.fnExactUnquoteRow.holds Tryd.pinned (OpenSpec.ofChange Rows.fnExactUnquoteSpec) :=
  OpenClaim.holds_of_wide 5 Tryd.f5 rfl rfl rfl rfl rfl rfl rfl ⟨rfl, rfl, rfl, rfl, rfl⟩ rfl rfl rfl rfl rfl (by kernel_rfl) Tryd.func5 (by kernel_rfl)
    (of_decide_eq_true (by kernel_rfl)) (by unfold Func.isWrapper; first | (rw [if_pos (by decide +kernel)]; kernel_rfl) | (rw [if_neg (by decide +kernel)]; exact ⟨rfl, rfl⟩))
    (fun os started H enc _ => lifted os started H enc)

end Go.Proofs.YtmlgmhnplicflabDoor.fnExactUnquote
namespace Go.Proofs.YtmlgmhnplicflabDoor
open Go

theorem unquote_holds : Rows.FnExactUnquoteCardSaid :=
  Claim7.holds_tied_plain_at .later [] [.data] true Rows.fnExactUnquoteCard.stood.harness true fnExactUnquote.over (fun _ h => by cases h) (by kernel_rfl) (fun _ h => by cases h) fnExactUnquote_row_tie rfl ⟨rfl, rfl⟩ (by kernel_rfl) rfl
    (fun f fn hf hfn => by
      obtain rfl : f = 5 := Option.some.inj ((show Tryd.prog.funcNamed Rows.fnExactUnquoteRow.func = some 5 by kernel_rfl).symm.trans hf) |>.symm
      obtain rfl : fn = Tryd.f5 := (Option.some.inj (Tryd.func5.symm.trans hfn)).symm
      exact ⟨by kernel_rfl, fun j t ht => by
        rw [Tryd.params5] at ht
        have hm : t ∈ [9] := by simpa using Array.mem_of_getElem? ht
        have hall : ([9].all fun u => !Tryd.prog.wantsStandIn u) = true := by kernel_rfl
        exact (show Tryd.prog.wantsStandIn t = false by simpa using List.all_eq_true.1 hall t hm)⟩)
    (by kernel_rfl)
#print axioms unquote_holds
end Go.Proofs.YtmlgmhnplicflabDoor
