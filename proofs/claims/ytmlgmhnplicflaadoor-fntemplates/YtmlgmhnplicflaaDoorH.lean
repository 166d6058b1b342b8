import Derived.Test.YtmlgmhnplicflaaDoorF
import Derived.Test.YtmlgmhnplicflaaDoorG
import Derived.Laws.StructEq
import Derived.Test.YtmlgmhnplicflaaDoorTie
import Derived.Test.YtmlgmhnplicflaaDoorCards
import Derived.ProofKit
import Derived.OpenShut
import Derived.ShutString
import Derived.Lay
import Derived.Carry
import Derived.Handy
import Derived.ChangeVars
import Derived.JoinedOf
import Derived.LaidLaws
import Derived.LaidHandle
import Derived.Stop.Joined
import Derived.SevenTiedAt

/-
  The law on drawn templates: the walk.
-/
namespace Go.Proofs.YtmlgmhnplicflaaDoor
open Go.RowKit
set_option linter.unusedVariables false

theorem bit_neq (x : Bt) (w : World) : (binOp BinOp.neq 34 (.agg #[.int .i64 x.1, .string x.2]) (.agg #[.int .i64 x.1, .string x.2])).run Tryd.prog w = .ok (.bool false) w := by
  have hs : Tryd.prog.stoodInHeld 34 = false := by kernel_rfl
  simp [go_sem, hs]

theorem br_at2 {w : World} {base : Nat} {v : Value} {L : List Bt} (h : BR w base v L) (hn : 0 < L.length) : ∃ g cap, v = .slice (some ⟨g, 0, none⟩) L.length cap ∧ base ≤ g := by
  unfold BR at h
  obtain ⟨m, hm⟩ : ∃ m, L.length = m + 1 := ⟨L.length - 1, by omega⟩
  rw [hm] at h ⊢
  obtain ⟨g, cap, rfl, h1, h2⟩ := own_some h
  exact ⟨g, cap, rfl, h1⟩

set_option maxHeartbeats 4000000 in
set_option maxRecDepth 100000 in
theorem law_tpls {w : World} {ao : Option Addr} {cap : Nat} {cs : List Nat} (hc : Dc w ao cs) (ha : ∀ a, ao = some a → a.block < w.heap.size) (hlm : cs.length ≤ 9223372036854775807) (hh : Hdl w) :
    Calls Tryd.prog 4 #[.slice ao cs.length cap] w fun e w' => e = .returned (.bool true) ∧ Keeps (fun _ => False) w w' := by
  by_cases hl : cs.length ≤ 1048576
  · have hz : ¬ (1048576 : Int) < (cs.length : Int) := by omega
    have hdraw := drawTpl_any (cap := cap) hl hc ha
    go_enter Tryd.func4, Tryd.ntmps4
    go_upto_region 4 with (go_at_call 11; refine hdraw.mono ?_; rintro e w1 ⟨s, rfl, hs, hk1⟩)
    have hh1 := hh.keeps hk1 (fun h => h)
    have hSpec := fun w => specTpl_any s w (by omega)
    have hImpl := fun w hh => implTpl_any s w (by omega) hh
    unfold TplPost at hSpec hImpl
    have hLf := tL_few s
    generalize tOk (tplRef s) = ok at hSpec hImpl
    generalize tAt (tplRef s) = at_ at hSpec hImpl
    generalize tL (tplRef s) = L at hSpec hImpl hLf
    have hLl : L.length ≤ 100 := hLf.1
    clear hLf hdraw hh
    go_upto_region 5 with (go_at_call 12; refine (hImpl _ hh1).mono ?_; rintro e w3 ⟨vG, rfl, hG, hk⟩; obtain ⟨aG, cG, rfl⟩ := own_form hG)
    have kA := (Keeps.refl (fun _ => False) w3).alloc (.cells #[.bool ok, .int .i64 at_, .slice aG L.length cG] 31)
    have hK := (hk1.trans hk).trans kA
    replace hG : BR (w3.alloc (.cells #[.bool ok, .int .i64 at_, .slice aG L.length cG] 31)) w1.heap.size (.slice aG L.length cG) L := ownsRow_keeps hG kA (fun _ _ h => h)
    have bG : Bk (w3.alloc (.cells #[.bool ok, .int .i64 at_, .slice aG L.length cG] 31)) w3.heap.size 31 [.bool ok, .int .i64 at_, .slice aG L.length cG] := bk_new w3 _ _
    clear hk kA hh1 hk1
    generalize w3.alloc (.cells #[.bool ok, .int .i64 at_, .slice aG L.length cG] 31) = w4 at hK hG bG ⊢
    generalize w3.heap.size = PG at bG ⊢
    go_upto_region 6 with (go_at_call 13; refine (hSpec _).mono ?_; rintro e w5 ⟨vS, rfl, hS, hk⟩; obtain ⟨aS, cS, rfl⟩ := own_form hS)
    have kA := (Keeps.refl (fun _ => False) w5).alloc (.cells #[.bool ok, .int .i64 at_, .slice aS L.length cS] 31)
    replace hK := (hK.trans hk).trans kA
    replace hG : BR (w5.alloc (.cells #[.bool ok, .int .i64 at_, .slice aS L.length cS] 31)) w1.heap.size (.slice aG L.length cG) L := ownsRow_keeps hG (hk.trans kA) (fun _ _ h => h)
    replace hS : BR (w5.alloc (.cells #[.bool ok, .int .i64 at_, .slice aS L.length cS] 31)) w4.heap.size (.slice aS L.length cS) L := ownsRow_keeps hS kA (fun _ _ h => h)
    replace bG := bG.keeps (hk.trans kA) (fun h => h)
    have bS : Bk (w5.alloc (.cells #[.bool ok, .int .i64 at_, .slice aS L.length cS] 31)) w5.heap.size 31 [.bool ok, .int .i64 at_, .slice aS L.length cS] := bk_new w5 _ _
    clear hk kA
    generalize w5.alloc (.cells #[.bool ok, .int .i64 at_, .slice aS L.length cS] 31) = w6 at hK hG hS bG bS ⊢
    generalize w5.heap.size = PS at bS ⊢
    have c0 : w6.cell? ⟨PS, 0, none⟩ = some (.bool ok) := by rw [bS.cell]; rfl
    have c1 : w6.cell? ⟨PS, 1, none⟩ = some (.int .i64 at_) := by rw [bS.cell]; rfl
    have c2 : w6.cell? ⟨PS, 2, none⟩ = some (.slice aS L.length cS) := by rw [bS.cell]; rfl
    have d0 : w6.cell? ⟨PG, 0, none⟩ = some (.bool ok) := by rw [bG.cell]; rfl
    have d1 : w6.cell? ⟨PG, 1, none⟩ = some (.int .i64 at_) := by rw [bG.cell]; rfl
    have d2 : w6.cell? ⟨PG, 2, none⟩ = some (.slice aG L.length cG) := by rw [bG.cell]; rfl
    clear bS bG hSpec hImpl
    go_wp2_with fail
    go_loopg [40, 6] (L.length + 1) (fun gl s40 _ wr => ∃ k n : Nat, k + gl = L.length + 1 ∧ k ≤ L.length ∧ s40 = .int .i64 (k : Int) ∧ wr = w6.drewN n)
    case atStart => exact ⟨0, 0, by omega, by omega, rfl, rfl⟩
    case round =>
      obtain ⟨k, n, hgl, hk, rfl, rfl⟩ := hrel
      by_cases hlt : k < L.length
      · have hkz : (k : Int) < (L.length : Int) := by omega
        have hx : L[k]? = some L[k] := List.getElem?_eq_getElem hlt
        obtain ⟨g1, p1, hv1, -⟩ := br_at2 hG (by omega)
        obtain ⟨g2, p2, hv2, -⟩ := br_at2 hS (by omega)
        simp only [Value.slice.injEq] at hv1 hv2
        obtain ⟨rfl, _, rfl⟩ := hv1
        obtain ⟨rfl, _, rfl⟩ := hv2
        have a1 := hG.cellAt (k * 2) (by omega)
        have a2 := hG.cellAt (k * 2 + 1) (by omega)
        have a3 := hS.cellAt (k * 2) (by omega)
        have a4 := hS.cellAt (k * 2 + 1) (by omega)
        rw [(cell2_get L k _ hx).1] at a1 a3
        rw [(cell2_get L k _ hx).2] at a2 a4
        generalize L[k] = x at a1 a2 a3 a4
        have hq := bit_neq x
        have HG : Hid (k + gk = L.length + 1) := hgl
        clear hgl hx
        go_wp2_with fail
        go_quiet (fail)
        go_wp2_with fail
        go_roundg (gk - 1)
        case measure => have := HG.out; omega
        case rel => exact ⟨k + 1, _, by have := HG.out; omega, by omega, congrArg (Value.int .i64) (by omega), rfl⟩
      · go_wp2_with fail
        go_ret
        exact ⟨rfl, hK.drewN _⟩
  · have hz : (1048576 : Int) < (cs.length : Int) := by omega
    go_enter Tryd.func4, Tryd.ntmps4
    go_wp2_with fail
    go_ret
    exact ⟨rfl, Keeps.refl _ _⟩

end Go.Proofs.YtmlgmhnplicflaaDoor

/-
  The law on drawn templates, whatever bytes are given; its card.
-/
namespace Go.Proofs.YtmlgmhnplicflaaDoor.fnTemplates
open Go.ChangeShapes Go.WideShapes Go.ChangeAt Go.RowKit
open Go.ChangeMaps (open_string shut_string)
set_option linter.unusedVariables false

theorem own : ownKnob Tryd.prog.godebug = none := by kernel_rfl
theorem laidOut : laidOutB Tryd.prog = true := by kernel_rfl
theorem cells1 : Tryd.prog.cellsOf 5 = 1 := by kernel_rfl

/-- A list of bytes as it is given. -/
def Ar (W : World) (v : Value) : Prop := ∃ (ao : Option Addr) (cap : Nat) (cs : List Nat), v = .slice ao cs.length cap ∧ cs.length ≤ 9223372036854775807 ∧ Dc W ao cs ∧ ∀ a, ao = some a → a.block < W.heap.size

theorem has_lt {W : World} {base : Nat} {a : Addr} {e : TypeId} {n : Nat} (h : W.has Tryd.prog .any base a e n) : a.block < W.heap.size := by
  unfold World.has at h
  apply Decidable.byContradiction
  intro hn
  have : W.heap[a.block]? = none := Array.getElem?_eq_none (by omega)
  simp [World.shape?, this] at h

set_option maxRecDepth 100000 in
theorem open_arg {H : Type} {enc : TypeId × Value → H} {W : World} {base : Nat} {v : Value} {d : DataW H} {p : List MemPlace} (hv : Value.okWide Tryd.prog W .any base 22 v) (h : DataW.Trod enc Tryd.prog W 0 (fun _ => true) true 22 v d p) : Ar W v := by
  obtain ⟨fuel, hf⟩ := h
  obtain ⟨a0, len, cap, rfl⟩ := okWide_slice Tryd.underlying22 hv
  rcases open_ints Tryd.underlying22 Tryd.underlying5 cells1 hf with ⟨hcs, hx⟩ | ⟨a, len', cap', zs, hcs, _, hl, hm, hz, hx, hcell, hwz⟩
  · simp [Value.cells] at hcs
    obtain ⟨rfl, rfl, rfl⟩ := hcs
    exact ⟨none, 0, [], rfl, by simp, ⟨by simp, by simp⟩, fun a h => by cases h⟩
  · simp [Value.cells] at hcs
    obtain ⟨rfl, rfl, rfl⟩ := hcs
    simp only [if_true] at hz
    have hw : ∀ n ∈ zs, 0 ≤ n ∧ n < 256 := fun n hn => by
      have := hwz n hn
      simp only [Lit.wf, Bool.and_eq_true, decide_eq_true_eq] at this
      have h1 : IntKind.u8.min = 0 := rfl
      have h2 : IntKind.u8.max = 255 := rfl
      omega
    have hlen : ((zs.take len).map Int.toNat).length = len := by simp; omega
    refine ⟨some a, cap, (zs.take len).map Int.toNat, by rw [hlen], ?_, ⟨?_, fun _ => ⟨a, rfl, fun i c hc => ?_⟩⟩, ?_⟩
    · rw [hlen]; unfold maxLen at hm; omega
    · intro c hc
      obtain ⟨n, hn, rfl⟩ := List.mem_map.1 hc
      have := hw n (List.mem_of_mem_take hn)
      omega
    · obtain ⟨hi, _⟩ := List.getElem?_eq_some_iff.1 hc
      have hi' : i < len := by rw [hlen] at hi; exact hi
      have hiz : i < zs.length := by omega
      rw [hcell i hiz]
      have hm2 := hw _ (List.getElem_mem hiz)
      simp [hi', hiz] at hc
      subst hc
      simp [hiz]
      omega
    · intro a' ha
      cases ha
      have h0 : Cell.okWide Tryd.prog W .any base 22 (.slice (some a) len cap) := by
        simpa [Value.okWide, Tryd.underlying22] using hv
      have h1 : Cell.ok Tryd.prog W .any base 22 (.slice (some a) len cap) := by
        simpa [Cell.okWide, Tryd.underlying22] using h0
      simp only [Cell.ok, Tryd.underlying22] at h1
      exact has_lt h1.2.2

theorem et : Tryd.prog.globalNamed "errors.errorType" = some 0 := by kernel_rfl
theorem rt : (Tryd.prog.cutTypes.find? (·.1 == "internal/reflectlite.rtype")).map (·.2) = some 83 := by kernel_rfl
theorem oneRow : ((List.range 125).filter fun t => Tryd.prog.rowNamed t [101, 114, 114, 111, 114]) = [50] := by kernel_rfl
theorem size : Tryd.prog.types.size = 125 := by kernel_rfl

/-- What the row's premise gives: the handle. -/
theorem handle_of {W : World} (h : laidMetH Tryd.prog Rows.fnTemplatesRow.laid W) : Hdl W := by
  have h' : laidMet Tryd.prog [] W ∧ handlesMet Tryd.prog Rows.fnTemplatesRow.laid W := h
  obtain ⟨name, u, ty, e1, e2, e3, e4, e5⟩ := h'.2 _ (List.mem_singleton.2 rfl)
  have en : name = [101, 114, 114, 111, 114] := (Option.some.inj e1).symm
  subst en
  obtain rfl := Option.some.inj (rt.symm.trans e2)
  have hm : ty ∈ (List.range 125).filter fun t => Tryd.prog.rowNamed t [101, 114, 114, 111, 114] := List.mem_filter.2 ⟨List.mem_range.2 (by rw [← size]; exact e3), e4⟩
  rw [oneRow] at hm
  obtain rfl := List.mem_singleton.1 hm
  have hh : typeHandle Tryd.prog 50 = .pointer (some ⟨2, 50, none⟩) := by kernel_rfl
  rw [hh] at e5
  unfold Hdl
  simpa using World.var?_cell et e5 0
/-- A world that has it. -/
noncomputable def laidWorld (os : Os) : World :=
  let w0 := World.holding Tryd.prog os ⟨#[], #[], []⟩
  { w0 with heap := w0.heap.modify 0 fun
      | .cells _ t frozen => .cells #[.iface 83 (.agg #[.pointer (some ⟨2, 50, none⟩)])] t frozen
      | o => o }
theorem laidWorld_met (os : Os) (args : Array Value) : laidMetH Tryd.prog Rows.fnTemplatesRow.laid ((laidWorld os).forCall (fun _ _ => 0) ⟨#[], args, []⟩).memory :=
  laidMetH_of_parts (laidMet_nil _ _) (by kernel_rfl)

set_option maxRecDepth 100000 in
theorem lifted (os : Os) (started : os.Started) (H : Type) (enc : TypeId × Value → H) :
    ReturnsInHanded {} Tryd.checked os 4 .any (fun w args => (Rows.fnTemplatesSpec.pre enc Tryd.prog Tryd.f4 [] false w args ∧ laidMetH Tryd.prog Rows.fnTemplatesRow.laid w) ∧ sizedMet enc Tryd.prog Tryd.f4 (OpenSpec.ofChange Rows.fnTemplatesSpec) false w args)
      (Rows.fnTemplatesSpec.post enc Tryd.prog Tryd.f4 false true false false) := by
  refine returnsInHanded_of_change_and (C := Tryd.checked) (X := fun w _ => laidMetH Tryd.prog Rows.fnTemplatesRow.laid w) (fun _ _ _ hh h => h.of_heap hh) own started (by kernel_rfl) Tryd.func4
    (ChangeSpec.witness_at (enc := enc) (C := Tryd.checked) (os := os) (X := fun w _ => laidMetH Tryd.prog Rows.fnTemplatesRow.laid w) false (laidWorld os) #[.slice none 0 0] 8 rfl (by kernel_rfl) (by kernel_rfl) (by kernel_rfl) (by kernel_rfl) (by kernel_rfl) (laidWorld_met os _)) ?_
  intro W base args ds gs before hval0 hW _ _ hL _
  have hval : ∀ (j : Nat) t v, Tryd.f4.params[j]? = some t → args[j]? = some v → Value.okWide Tryd.prog W .any base t v := hval0
  have hW' := hW
  obtain ⟨p, q, hA0, hV, rfl, hfz, hnd⟩ := hW
  have hA : DataW.TrodAll enc Tryd.prog W 0 (fun _ => true) true Tryd.f4.params.toList args.toList ds p := hA0
  rw [Tryd.params4] at hA hval
  obtain ⟨v0, d0, rfl, rfl, h0⟩ := trodAll_one hA
  obtain ⟨rfl, rfl⟩ := trodVars_none hV
  clear hA0 hval0
  simp only [List.append_nil] at hW'
  have hlt : ∀ x ∈ p, x.block < W.heap.size := fun x hx => by simpa using hW'.lt x hx
  obtain ⟨ao, cap, cs, rfl, hlm, hc, hb⟩ := open_arg (hval 0 22 v0 rfl rfl) h0
  refine (law_tpls hc hb hlm (handle_of hL)).mono fun e W' ⟨he, hk⟩ => ?_
  subst he
  have hn : Below W.heap.size W W' := hk.below _ (fun _ _ h => h) (Nat.le_refl _)
  have t0 := Below.trod laidOut (by kernel_rfl) (of_decide_eq_true (by kernel_rfl)) h0 hn (fun x hx => hlt x hx)
  exact ⟨_, rfl, _, _, _, [], _, [], hW', trodAll_mk1 (shut_bool Tryd.underlying4 _), trodAll_mk1 t0, rfl, hn.frame _, fun h => by cases h⟩

theorem over : Rows.fnTemplatesRow.holds Tryd.pinned (OpenSpec.ofChange Rows.fnTemplatesSpec) :=
  OpenClaim.holds_of_wide 4 Tryd.f4 rfl rfl rfl rfl rfl rfl rfl ⟨rfl, rfl, rfl, rfl, rfl⟩ rfl rfl rfl rfl rfl (by kernel_rfl) Tryd.func4 (by kernel_rfl)
    (of_decide_eq_true (by kernel_rfl)) (by unfold Func.isWrapper; first | (rw [if_pos (by decide +kernel)]; kernel_rfl) | (rw [if_neg (by decide +kernel)]; exact ⟨rfl, rfl⟩))
    (fun os started H enc _ => lifted os started H enc)

end Go.Proofs.YtmlgmhnplicflaaDoor.fnTemplates
namespace Go.Proofs.YtmlgmhnplicflaaDoor
open Go

theorem templates_holds : Rows.FnTemplatesCardSaid :=
  Claim7.holds_tied_plain_at .later [] [.handle] true Rows.fnTemplatesCard.stood.harness true fnTemplates.over (fun _ h => by cases h) (by kernel_rfl) (fun _ h => by cases h) fnTemplates_row_tie rfl ⟨rfl, rfl⟩ (by kernel_rfl) rfl
    (fun f fn hf hfn => by
      obtain rfl : f = 4 := Option.some.inj ((show Tryd.prog.funcNamed Rows.fnTemplatesRow.func = some 4 by kernel_rfl).symm.trans hf) |>.symm
      obtain rfl : fn = Tryd.f4 := (Option.some.inj (Tryd.func4.symm.trans hfn)).symm
      exact ⟨by kernel_rfl, fun j t ht => by
        rw [Tryd.params4] at ht
        have hm : t ∈ [22] := by simpa using Array.mem_of_getElem? ht
        have hall : ([22].all fun u => !Tryd.prog.wantsStandIn u) = true := by kernel_rfl
        exact (show Tryd.prog.wantsStandIn t = false by simpa using List.all_eq_true.1 hall t hm)⟩)
    (by kernel_rfl)
#print axioms templates_holds
end Go.Proofs.YtmlgmhnplicflaaDoor
