import Derived.Test.YtmlgmhnplicflaaJ
import Derived.Test.YtmlgmhnplicflaaY
import Derived.Test.YtmlgmhnplicflaaM
import Derived.ProofKit
import Derived.OpenShut
import Derived.ShutString

/-
  What both readers give.
-/
namespace Go.Proofs.Ytmlgmhnplicflaa
open Go.RowKit
set_option linter.unusedVariables false

abbrev Rres := Except Nat (Nat × List Pc)
def rOk : Rres → Bool
  | .ok _ => true
  | .error _ => false
def rAt : Rres → Int
  | .ok _ => 0
  | .error x => x
def rGr : Rres → Int
  | .ok (g, _) => g
  | .error _ => 0
def rPs : Rres → List Pc
  | .ok (_, ps) => ps
  | .error _ => []

theorem spec_all {s : ByteArray} {w : World} {r : Rres} (hr : readRef s = r) (hs : s.size ≤ 1048576) : Calls Try.prog 9 #[.string s] w fun e w' => ∃ v L, e = .returned (.agg #[.bool (rOk r), .int .i64 (rAt r), .int .i64 (rGr r), v]) ∧ Pcs w' v L ∧ L.map (·.1) = rPs r ∧ Keeps (fun _ => False) w w' :=
  (specRead_any s w hs).mono fun e w' h => by
    unfold ReadPost at h
    rw [hr] at h
    cases r with
    | error x => exact ⟨_, [], h.1, ⟨World.ownsRow_nil _ _ _ _, by simp⟩, rfl, h.2⟩
    | ok v =>
      obtain ⟨g, ps⟩ := v
      obtain ⟨v, L, h1, h2, h3, _, h5⟩ := h
      exact ⟨v, L, h1, h2, h3, h5⟩

theorem impl_all {s : ByteArray} {w : World} {r : Rres} (hr : readRef s = r) : Calls Try.prog 10 #[.string s] w fun e w' => ∃ v L, e = .returned (.agg #[.bool (rOk r), .int .i64 (rAt r), .int .i64 (rGr r), v]) ∧ Out w' w.heap.size v L ∧ L.map (·.1) = rPs r ∧ (L.length ≤ 1000 ∧ ∀ c ∈ L, c.1.set.length ≤ 1000 ∧ c.1.kids.length ≤ 1000) ∧ Keeps (fun _ => False) w w' :=
  (iread_any s w).mono fun e w' h => by
    unfold IRead at h
    rw [hr] at h
    cases r with
    | error x => exact ⟨_, [], h.1, Out.nil _ _, rfl, ⟨by simp, by simp⟩, h.2⟩
    | ok v =>
      obtain ⟨g, ps⟩ := v
      obtain ⟨v, L, h1, h2, h3, h4, h5, h6⟩ := h
      refine ⟨v, L, h1, h2, h3, ⟨h4, fun c hc => h5 c.1 ?_⟩, h6⟩
      rw [← h3]
      exact List.mem_map_of_mem hc


theorem Out.pcs {w : World} {B : Nat} {x : Value} {L : List Pm} (h : Out w B x L) : Pcs w x L := ⟨ownsRow_base h.row (fun _ _ => Nat.zero_le _), h.rows⟩

end Go.Proofs.Ytmlgmhnplicflaa

/-
  The law on ReadPattern: what both readers give.
-/
namespace Go.Proofs.Ytmlgmhnplicflaa
open Go.RowKit
set_option linter.unusedVariables false

theorem markN_le (L : List Pm) (k : Int) (h : ∀ c ∈ L, c.1.set.length ≤ 1000 ∧ c.1.kids.length ≤ 1000) : markN L k ≤ k + 3005 * (L.length : Int) := by
  induction L generalizing k with
  | nil => simp [markN]
  | cons x L ih =>
    have h1 := h x (by simp)
    have h2 := ih (markK x.1 k) (fun c hc => h c (by simp [hc]))
    simp only [markN, List.length_cons]
    unfold markK at h2 ⊢
    push_cast
    omega

theorem Pcs.keepsE {w w' : World} {v : Value} {L : List Pm} {E : Nat → Prop} (h : Pcs w v L) (k : Keeps E w w') (hx : ∀ i, v.ownBlock = some i → ¬ E i) (hE : ∀ y ∈ L, (∀ i, y.2.1.ownBlock = some i → ¬ E i) ∧ (∀ i, y.2.2.ownBlock = some i → ¬ E i)) : Pcs w' v L :=
  ⟨ownsRow_keeps h.row k hx, fun y hy => ⟨ownsRow_keeps (h.rows y hy).1 k (hE y hy).1, ownsRow_keeps (h.rows y hy).2 k (hE y hy).2⟩⟩

/-- A pattern in a variable. -/
def Bx (w : World) (P : Nat) (ok : Bool) (at_ gr : Int) (v : Value) : Prop := w.heap[P]? = some (.cells #[.bool ok, .int .i64 at_, .int .i64 gr, v] 35 (0, 0))
namespace Bx
variable {w w' : World} {P : Nat} {ok : Bool} {at_ gr : Int} {v : Value}
theorem lt (h : Bx w P ok at_ gr v) : P < w.heap.size := lt_of_block h
theorem c0 (h : Bx w P ok at_ gr v) : w.cell? ⟨P, 0, none⟩ = some (.bool ok) := by rw [cell_of h]; rfl
theorem c1 (h : Bx w P ok at_ gr v) : w.cell? ⟨P, 1, none⟩ = some (.int .i64 at_) := by rw [cell_of h]; rfl
theorem c2 (h : Bx w P ok at_ gr v) : w.cell? ⟨P, 2, none⟩ = some (.int .i64 gr) := by rw [cell_of h]; rfl
theorem c3 (h : Bx w P ok at_ gr v) : w.cell? ⟨P, 3, none⟩ = some v := by rw [cell_of h]; rfl
theorem keeps {E : Nat → Prop} (h : Bx w P ok at_ gr v) (k : Keeps E w w') (hE : ¬ E P) : Bx w' P ok at_ gr v := by
  unfold Bx at h ⊢; rw [k.block P (lt_of_block h) hE]; exact h
theorem notFoot {u : Value} {L : List Pm} (h : Bx w P ok at_ gr v) (hp : Pcs w u L) : ¬ Foot u L P := by
  rintro (h1 | ⟨x, hx, h1 | h1⟩)
  · exact own_not_at hp.row h (by decide) h1
  · exact own_not_at (hp.rows x hx).1 h (by decide) h1
  · exact own_not_at (hp.rows x hx).2 h (by decide) h1
end Bx

end Go.Proofs.Ytmlgmhnplicflaa

/-
  The law on ReadPattern: the walk.
-/
namespace Go.Proofs.Ytmlgmhnplicflaa
open Go.RowKit
set_option linter.unusedVariables false

set_option maxHeartbeats 2000000 in
set_option maxRecDepth 100000 in
theorem law_read (s : ByteArray) (h0 : s.size ≤ maxLen) (w : World) :
    Calls Try.prog 4 #[.string s] w fun e w' => e = .returned (.bool true) ∧ Below w.heap.size w w' := by
  unfold maxLen at h0
  by_cases hs : s.size ≤ 1048576
  · obtain ⟨r, hr⟩ : ∃ r, readRef s = r := ⟨_, rfl⟩
    have hSpec := fun w => spec_all (w := w) hr hs
    have hImpl := fun w => impl_all (w := w) hr
    generalize rOk r = ok at hSpec hImpl
    generalize rAt r = at_ at hSpec hImpl
    generalize rGr r = gr at hSpec hImpl
    generalize rPs r = ps at hSpec hImpl
    clear hr
    go_enter Try.func4, Try.ntmps4
    go_upto_region 4 with (go_at_call 9; refine (hSpec _).mono ?_; rintro e w1 ⟨vS, LS, rfl, hS, hSm, hk⟩; obtain ⟨aS, cS, rfl⟩ := own_form hS.row)
    -- the model's answer lies in its variable
    have hK : Keeps (fun k => w.heap.size ≤ k) w (w1.alloc (.cells #[.bool ok, .int .i64 at_, .int .i64 gr, .slice aS LS.length cS] 35)) := hk.none.alloc _
    have hS2 := hS.same ((Keeps.refl (fun _ => False) w1).alloc (.cells #[.bool ok, .int .i64 at_, .int .i64 gr, .slice aS LS.length cS] 35))
    have bS : Bx (w1.alloc (.cells #[.bool ok, .int .i64 at_, .int .i64 gr, .slice aS LS.length cS] 35)) w1.heap.size ok at_ gr (.slice aS LS.length cS) := heap_alloc_new w1 _
    have HSm : Hid (LS.map (·.1) = ps) := hSm
    clear hS hk hSm
    generalize w1.alloc (.cells #[.bool ok, .int .i64 at_, .int .i64 gr, .slice aS LS.length cS] 35) = w2 at hK hS2 bS ⊢
    generalize w1.heap.size = PS at bS ⊢
    have hw2 := hK.size
    go_upto_region 5 with (go_at_call 10; refine (hImpl _).mono ?_; rintro e w3 ⟨vG, LG, rfl, hG, hGm, hGs, hk⟩; obtain ⟨aG, cG, rfl⟩ := own_form hG.row)
    replace hK := hK.trans hk.none
    replace bS := bS.keeps hk (fun h => h)
    have hltS : (∀ k, (Value.slice aS LS.length cS).ownBlock = some k → k < w2.heap.size) ∧ ∀ y ∈ LS, (∀ k, y.2.1.ownBlock = some k → k < w2.heap.size) ∧ (∀ k, y.2.2.ownBlock = some k → k < w2.heap.size) :=
      ⟨fun k hk => (hS2.row.lt k hk).2, fun y hy => ⟨fun k hk => ((hS2.rows y hy).1.lt k hk).2, fun k hk => ((hS2.rows y hy).2.lt k hk).2⟩⟩
    replace hS2 := hS2.same hk
    have hSepG : Sep LG := hG.sep
    have hFoot : ∀ k, Foot (.slice aG LG.length cG) LG k → w2.heap.size ≤ k := by
      rintro k (h1 | ⟨x, hx, h1 | h1⟩)
      · exact (hG.row.lt k h1).1
      · exact (hG.lo x hx).1 k h1
      · exact (hG.lo x hx).2 k h1
    have hPG := hG.pcs
    have hSmall : Small LG := ⟨by have := hGs.1; omega, fun x hx => by have := hGs.2 x hx; omega⟩
    have hN0 := markN_ge LG 1
    have hN1 : markN LG 1 ≤ 1000000000000 := by have := markN_le LG 1 hGs.2; have := hGs.1; omega
    have HGm : Hid (LG.map (·.1) = ps) := hGm
    clear hGm hGs hG
    replace hK := hK.alloc (.cells #[.bool ok, .int .i64 at_, .int .i64 gr, .slice aG LG.length cG] 35)
    have kA := (Keeps.refl (fun _ => False) w3).alloc (.cells #[.bool ok, .int .i64 at_, .int .i64 gr, .slice aG LG.length cG] 35)
    replace hS2 := hS2.same kA
    replace hPG := hPG.same kA
    replace bS := bS.keeps kA (fun h => h)
    have bG : Bx (w3.alloc (.cells #[.bool ok, .int .i64 at_, .int .i64 gr, .slice aG LG.length cG] 35)) w3.heap.size ok at_ gr (.slice aG LG.length cG) := heap_alloc_new w3 _
    clear kA hk
    generalize w3.alloc (.cells #[.bool ok, .int .i64 at_, .int .i64 gr, .slice aG LG.length cG] 35) = w4 at hK hS2 hPG bS bG ⊢
    generalize w3.heap.size = PG at bG ⊢
    have c0 := bS.c0; have c1 := bS.c1; have c2 := bS.c2; have c3 := bS.c3
    have d0 := bG.c0; have d1 := bG.c1; have d2 := bG.c2; have d3 := bG.c3
    generalize hM : markN LG 1 = m at hN0 hN1
    have HM : Hid (markN LG 1 = m) := hM
    clear hM
    go_upto_region 15 with (first
      | (go_at_call 11; refine (eqPattern_same hPG hS2 (by rw [HGm.out, HSm.out]) hSmall).mono ?_; rintro e w5 ⟨rfl, hk⟩; replace hK := hK.trans hk.none; replace hS2 := hS2.same hk; replace hPG := hPG.same hk; replace bS := bS.keeps hk (fun h => h); replace bG := bG.keeps hk (fun h => h); clear hk; have d0 := bG.c0; have d1 := bG.c1; have d2 := bG.c2; have d3 := bG.c3)
      | (go_at_call 12; refine (markPattern_any hPG hSepG hSmall (by omega) (by rw [HM.out]; exact hN1)).mono ?_; rw [HM.out]; rintro e w6 ⟨rfl, hPm, hk⟩; replace hK := hK.trans' hk (fun i hi h => by have := hFoot i h; omega); replace hS2 := hS2.keepsE hk (fun i hi h => by have h1 := hFoot i h; have h2 := hltS.1 i hi; omega) (fun y hy => ⟨fun i hi h => by have h1 := hFoot i h; have h2 := (hltS.2 y hy).1 i hi; omega, fun i hi h => by have h1 := hFoot i h; have h2 := (hltS.2 y hy).2 i hi; omega⟩); replace bS := bS.keeps hk (bS.notFoot hPG); replace bG := bG.keeps hk (bG.notFoot hPG); clear hk hPG; have d0 := bG.c0; have d1 := bG.c1; have d2 := bG.c2; have d3 := bG.c3)
      | (go_at_call 13; refine (heldPattern_any hPm hSmall (by omega) (by rw [HM.out]; exact hN1)).mono ?_; rw [HM.out]; rintro e w7 ⟨rfl, hk⟩; replace hK := hK.trans hk.none; replace hS2 := hS2.same hk; replace hPm := hPm.same hk; replace bS := bS.keeps hk (fun h => h); replace bG := bG.keeps hk (fun h => h); clear hk))
    clear c0 c1 c2 c3 d0 d1 d2 d3
    go_upto_region 16 with (go_at_call 10; refine (hImpl _).mono ?_; rintro e w8 ⟨vH, LH, rfl, hH, hHm, hHs, hk⟩; obtain ⟨aH, cH, rfl⟩ := own_form hH.row)
    replace hK := (hK.trans hk.none).alloc (.cells #[.bool ok, .int .i64 at_, .int .i64 gr, .slice aH LH.length cH] 35)
    have kA := hk.trans ((Keeps.refl (fun _ => False) w8).alloc (.cells #[.bool ok, .int .i64 at_, .int .i64 gr, .slice aH LH.length cH] 35))
    replace hS2 := hS2.same kA
    replace hPm := hPm.same kA
    replace bS := bS.keeps kA (fun h => h)
    replace bG := bG.keeps kA (fun h => h)
    have hPH := hH.pcs.same ((Keeps.refl (fun _ => False) w8).alloc (.cells #[.bool ok, .int .i64 at_, .int .i64 gr, .slice aH LH.length cH] 35))
    have hSmH : Small LH := ⟨by have := hHs.1; omega, fun x hx => by have := hHs.2 x hx; omega⟩
    have bH : Bx (w8.alloc (.cells #[.bool ok, .int .i64 at_, .int .i64 gr, .slice aH LH.length cH] 35)) w8.heap.size ok at_ gr (.slice aH LH.length cH) := heap_alloc_new w8 _
    have HHm : Hid (LH.map (·.1) = ps) := hHm
    clear hHm hHs hH kA hk
    generalize w8.alloc (.cells #[.bool ok, .int .i64 at_, .int .i64 gr, .slice aH LH.length cH] 35) = w9 at hK hS2 hPm hPH bS bG bH ⊢
    generalize w8.heap.size = PH at bH ⊢
    have c0 := bS.c0; have c1 := bS.c1; have c2 := bS.c2; have c3 := bS.c3
    have d0 := bH.c0; have d1 := bH.c1; have d2 := bH.c2; have d3 := bH.c3
    go_wp2_with (first
      | (go_at_call 11; refine (eqPattern_same hPH hS2 (by rw [HHm.out, HSm.out]) hSmH).mono ?_; rintro e wA ⟨rfl, hk⟩; replace hK := hK.trans hk.none; replace hPm := hPm.same hk; replace bG := bG.keeps hk (fun h => h); clear hk; have e0 := bG.c0; have e1 := bG.c1; have e2 := bG.c2; have e3 := bG.c3)
      | (go_at_call 13; refine (heldPattern_any hPm hSmall (by omega) (by rw [HM.out]; exact hN1)).mono ?_; rw [HM.out]; rintro e wB ⟨rfl, hk⟩; replace hK := hK.trans hk.none; clear hk))
    go_ret
    exact ⟨rfl, hK.below _ (fun k hk h => by omega) (Nat.le_refl _)⟩
  · go_enter Try.func4, Try.ntmps4
    go_wp2
    go_ret
    exact ⟨rfl, Below.refl _ _⟩

end Go.Proofs.Ytmlgmhnplicflaa

/-
  The law on ReadPattern.
-/
namespace Go.Proofs.Ytmlgmhnplicflaa.fnExactReadPattern
open Go.ChangeShapes Go.WideShapes Go.ChangeAt Go.RowKit
open Go.ChangeMaps (open_string shut_string)
set_option linter.unusedVariables false

theorem own : ownKnob Try.prog.godebug = none := by kernel_rfl

set_option maxRecDepth 100000 in
theorem lifted (os : Os) (started : os.Started) (H : Type) (enc : TypeId × Value → H) :
    ReturnsInHanded {} Try.checked os 4 .any (Rows.fnExactReadPatternSpec.pre6 enc Try.prog Try.f4 Rows.fnExactReadPatternRow.domain false) (Rows.fnExactReadPatternSpec.post enc Try.prog Try.f4 false true false false) := by
  refine returnsInHanded_of_change (C := Try.checked) own started (by kernel_rfl) Try.func4
    (ChangeSpec.witness6 (enc := enc) (C := Try.checked) false ⟨#[], #[.string ByteArray.empty], []⟩ 8 (by kernel_rfl) (by kernel_rfl) (by kernel_rfl) (by kernel_rfl)) ?_
  intro W base args ds gs before hval0 hW hcnd _
  have hval : ∀ (j : Nat) t v, Try.f4.params[j]? = some t → args[j]? = some v → Value.okWide Try.prog W .any base t v := hval0
  have hW' := hW
  obtain ⟨p, q, hA0, hV, rfl, hfz, hnd⟩ := hW
  have hA : DataW.TrodAll enc Try.prog W 0 (fun _ => true) true Try.f4.params.toList args.toList ds p := hA0
  rw [Try.params4] at hA hval
  obtain ⟨v0, vs0, d0, ds0, p0, q0, hargs, rfl, rfl, h0, r0⟩ := trodAll_cons hA
  obtain ⟨rfl, rfl, rfl⟩ := trodAll_nil r0
  obtain rfl : args = #[v0] := by cases args; simp_all
  obtain ⟨rfl, rfl⟩ := trodVars_none hV
  obtain ⟨a0, rfl, rfl, rfl, w0⟩ := open_string Try.underlying9 (hval 0 9 v0 rfl rfl) h0
  clear hA0 hval0
  simp only [List.append_nil] at hW'
  refine (law_read a0 w0 W).mono fun e W' ⟨he, hg⟩ => ?_
  subst he
  exact ⟨_, rfl, _, _, _, [], [], [], hW', trodAll_mk1 (shut_bool Try.underlying4 _), trodAll_cons_mk (shut_string Try.underlying9 w0) trodAll_mk0, rfl, hg.frame _, fun h => by cases h⟩

theorem over : Rows.fnExactReadPatternRow.holds Try.pinned (OpenSpec.ofChange Rows.fnExactReadPatternSpec) :=
  OpenClaim.holds_of_wide 4 Try.f4 rfl rfl rfl rfl rfl rfl rfl ⟨rfl, rfl, rfl, rfl, rfl⟩ rfl rfl rfl rfl rfl (by kernel_rfl) Try.func4 (by kernel_rfl)
    (of_decide_eq_true (by kernel_rfl)) (by unfold Func.isWrapper; first | (rw [if_pos (by decide +kernel)]; kernel_rfl) | (rw [if_neg (by decide +kernel)]; exact ⟨rfl, rfl⟩))
    (fun os started H enc _ => lifted os started H enc)

theorem proved : Rows.FnExactReadPatternSaid :=
  over
end Go.Proofs.Ytmlgmhnplicflaa.fnExactReadPattern
namespace Go.Proofs.Ytmlgmhnplicflaa
theorem readPattern_holds : Rows.FnExactReadPatternSaid := fnExactReadPattern.proved
#print axioms readPattern_holds
end Go.Proofs.Ytmlgmhnplicflaa
