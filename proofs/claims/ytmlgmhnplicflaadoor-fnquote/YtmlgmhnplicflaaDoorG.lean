import Derived.Test.YtmlgmhnplicflaaDoorF
import Derived.Deep.MidRow

/-
  Quoting: what stands behind a \.
-/
namespace Go.Proofs.YtmlgmhnplicflaaDoor.Quo
open Go.RowKit
set_option linter.unusedVariables false
set_option maxRecDepth 100000

theorem escQ_sign {s : ByteArray} {p k : Nat} (h0 : sg k ≠ 0) (h : bt s p = sg k) : escQ s p = .ok (k, p + 1) := by
  unfold escQ
  rcases sg_pos h0 with rfl | rfl | rfl | rfl
  · rw [show sg 9 = 116 from rfl] at h
    simp [h]
  · rw [show sg 10 = 110 from rfl] at h
    simp [h]
  · rw [show sg 34 = 34 from rfl] at h
    simp [h]
  · rw [show sg 92 = 92 from rfl] at h
    simp [h]
theorem escQ_none {s : ByteArray} {p : Nat} (hx : bt s p ≠ 120) (h : ∀ j, j < 93 → sg j ≠ 0 → bt s p ≠ sg j) : escQ s p = .error p := by
  have h1 : bt s p ≠ 116 := h 9 (by omega) (by decide)
  have h2 : bt s p ≠ 110 := h 10 (by omega) (by decide)
  have h3 : bt s p ≠ 34 := h 34 (by omega) (by decide)
  have h4 : bt s p ≠ 92 := h 92 (by omega) (by decide)
  unfold escQ
  rw [if_neg hx, if_neg h2, if_neg h1, if_neg (by omega)]
def sgL : List Value := (List.range 93).map fun i => Value.int .u8 (sg i : Int)
theorem sgL_get {k : Nat} (hk : k < 93) : sgL[k]? = some (.int .u8 (sg k : Int)) := by simp [sgL, hk]
theorem load_signs {w : World} (hS : Sg w) : (Instr.loadAt 80 (.pointer (some ⟨1, 0, none⟩))).run Tryd.prog w = .ok (.agg sgL.toArray) w := by
  refine run_loadAt_mid w _ 0 _ sgL _ ?_ Tryd.underlying80 rfl (by kernel_rfl)
  intro j v hj
  have hlt : j < 93 := by
    have := (List.getElem?_eq_some_iff.1 hj).1
    simpa [sgL] using this
  rw [sgL_get hlt] at hj
  cases hj
  rw [Nat.zero_add]
  exact hS.cell j hlt
theorem index_signs {k : Nat} (hk : k < 93) (w : World) : (Instr.index 80 (.agg sgL.toArray) (.int .i64 (k : Int))).run Tryd.prog w = .ok (.int .u8 (sg k : Int)) w := by
  have hget : sgL.toArray[k]? = some (.int .u8 (sg k : Int)) := by
    rw [List.getElem?_toArray]
    exact sgL_get hk
  generalize sgL.toArray = A at hget ⊢
  have hn : 0 ≤ (k : Int) ∧ (k : Int) < ((93 : Nat) : Int) := by omega
  have hu8 : (Tryd.prog.info? 5).map (fun i => (i.zero, i.size, i.bytes)) = some (some (.int .u8 0), 1, 1) := by kernel_rfl
  obtain ⟨i0, hi, hz0, hz1, hz2⟩ := info_parts hu8
  have ht : ((k : Int)).toNat = k := by omega
  simp [Instr.index, run_underlying Tryd.underlying80, asIntOf, hn, part, sizeOf, typeInfo, hi, hz1, ht, hget, hk]

set_option maxHeartbeats 1000000 in
theorem escaped_any {w : World} {R : Nat} {s : ByteArray} {p : Nat} (hS : Sg w) (hSR : R ≠ 1) (h : Cu w R s p) (hs : s.size ≤ 2000) (hp : p ≤ s.size) :
    Calls Tryd.prog 37 #[.pointer (some ⟨R, 0, none⟩)] w (RdP R s (escQ s p) w) := by
  by_cases hx : bt s p = 120
  · have hcall := take_yes h hs hp (by omega) hx
    have hpl := bt_lt hx (by omega)
    have e : escQ s p = numQ s (p + 1) := by simp only [escQ, numQ, if_pos hx]
    rw [e]
    have HN : Hid (∀ w2, Cu w2 R s ((p + 1 : Nat) : Int) → Keeps (fun k => k = R) w w2 → Calls Tryd.prog 43 #[.pointer (some ⟨R, 0, none⟩)] w2 (fun e w' => ∃ z b, e = .returned (.tuple #[.int .u8 z, .bool b]) ∧ Hid (RdP R s (numQ s (p + 1)) w (.returned (.tuple #[.int .u8 z, .bool b])) w'))) := by
      intro w2 h2 hk
      refine (takeNumber_any h2 hs (by omega)).mono ?_
      rintro e w' ⟨r1, r2, r3⟩
      cases hq : numQ s (p + 1) with
      | error x =>
        obtain ⟨⟨z, rfl⟩, hc⟩ := r2 x hq
        exact ⟨z, false, rfl, ⟨(fun b q e => by cases e), (fun x e => by cases e; exact ⟨⟨_, rfl⟩, hc⟩), hk.trans r3⟩⟩
      | ok bq =>
        obtain ⟨b, q⟩ := bq
        obtain ⟨rfl, hc⟩ := r1 b q hq
        exact ⟨_, true, rfl, ⟨(fun b q e => by cases e; exact ⟨rfl, hc⟩), (fun x e => by cases e), hk.trans r3⟩⟩
    clear h hx e hS
    go_enter Tryd.func37, Tryd.ntmps37
    go_wp2_with (first
      | (go_at_call 26; refine hcall.mono ?_; rintro e w2 ⟨rfl, hR2, hk2⟩; have hcall2 := HN.out _ hR2 hk2)
      | (go_at_call 43; refine hcall2.mono ?_; rintro e w3 ⟨z, b, rfl, HF⟩))
    go_ret2
    exact HF.out
  · have hcall := take_no h hs hp (by omega) hx
    have HS : Hid (Sg w) := hS
    have HIx : Hid (∀ k : Nat, k < 93 → ∀ w : World, (Instr.index 80 (.agg sgL.toArray) (.int .i64 (k : Int))).run Tryd.prog w = .ok (.int .u8 (sg k : Int)) w) := fun k hk w => index_signs hk w
    have HX : Hid (bt s p ≠ 120) := hx
    have HR : Hid (Cu w R s p) := h
    clear hx hS h
    go_enter Tryd.func37, Tryd.ntmps37
    go_wp2_with (first
      | (go_at_call 26; refine hcall.mono ?_; rintro e w2 ⟨rfl, n, rfl⟩))
    have hrange : (w.drewN n).rangeAt 1 0 sgL := by
      intro j v hj
      have hlt : j < 93 := by
        have := (List.getElem?_eq_some_iff.1 hj).1
        simpa [sgL] using this
      rw [sgL_get hlt] at hj
      cases hj
      rw [Nat.zero_add]
      exact HS.out.cell j hlt
    refine wp_load_mid _ _ rfl 1 0 rfl sgL _ hrange Tryd.underlying80 rfl (by kernel_rfl) ?_
    clear hrange
    generalize sgL.toArray = A at HIx ⊢
    go_wp2
    go_loopg [4, 5, 13] 94 (fun gl _ _ s13 wr => ∃ k : Nat, k + gl = 94 ∧ k ≤ 93 ∧ s13 = .int .i64 (k : Int) ∧ Hid (∀ j, j < k → sg j ≠ 0 → bt s p ≠ sg j) ∧ ∃ n, wr = w.drewN n)
    case atStart => exact ⟨0, by omega, by omega, rfl, fun j hj => by omega, n, rfl⟩
    case round =>
      obtain ⟨k, hgl, hk, rfl, HJ, n2, rfl⟩ := hrel
      have HG : Hid (k + gk = 94) := hgl
      clear hgl
      by_cases hlt : k < 93
      · have hz : (k : Int) < 93 := by omega
        have hix := HIx.out k hlt
        have hxl := sg_lt k
        by_cases c0 : sg k = 0
        · have HJ2 : Hid (∀ j, j < k + 1 → sg j ≠ 0 → bt s p ≠ sg j) := by
            intro j hj h0
            by_cases e : j = k
            · subst e; exact absurd c0 h0
            · exact HJ.out j (by omega) h0
          rw [c0] at hix
          clear HIx c0 hxl HJ
          go_wp2
          go_roundg (gk - 1)
          case measure => have := HG.out; omega
          case rel => exact ⟨k + 1, by have := HG.out; omega, by omega, congrArg (Value.int .i64) (by omega), HJ2, n2, rfl⟩
        · have hne : ((sg k : Int) != 0) = true := by simp; omega
          by_cases cb : bt s p = sg k
          · have e := escQ_sign c0 cb
            have hc := take_yes (HR.out.drewN n2) hs hp hxl cb
            have HE : Hid (escQ s p = .ok (k, p + 1)) := e
            have hwr : IntKind.u8.wrap (k : Int) = (k : Int) := IntWalk.u8_in _ ⟨by omega, by omega⟩
            clear HIx c0 HJ e cb
            generalize sg k = x at hix hne hc hxl
            go_wp2_with (go_at_call 26; refine hc.mono ?_; rintro e w2 ⟨rfl, hR2, hk2⟩)
            go_ret2
            exact ⟨(fun b q e => by rw [HE.out] at e; cases e; exact ⟨(by first | rfl | (rw [hwr]) | (simp only [hwr]; rfl)), hR2⟩), (fun x e => by rw [HE.out] at e; cases e), ((Keeps.refl _ _).drewN n2).trans hk2⟩
          · have hc := take_no (HR.out.drewN n2) hs hp hxl cb
            have HJ2 : Hid (∀ j, j < k + 1 → sg j ≠ 0 → bt s p ≠ sg j) := by
              intro j hj h0
              by_cases e : j = k
              · subst e; exact cb
              · exact HJ.out j (by omega) h0
            clear HIx c0 HJ cb
            generalize sg k = x at hix hne hc hxl
            go_wp2_with (go_at_call 26; refine hc.mono ?_; rintro e w2 ⟨rfl, m, rfl⟩)
            go_roundg (gk - 1)
            case measure => have := HG.out; omega
            case rel => exact ⟨k + 1, by have := HG.out; omega, by omega, congrArg (Value.int .i64) (by omega), HJ2, n2 + m, rfl⟩
      · have hz : ¬ (k : Int) < 93 := by omega
        have e := escQ_none HX.out (fun j hj h0 => HJ.out j (by omega) h0)
        have HE : Hid (escQ s p = .error p) := e
        clear HIx HJ e
        go_wp2
        go_ret2
        exact ⟨(fun b q e => by rw [HE.out] at e; cases e), (fun x e => by rw [HE.out] at e; cases e; exact ⟨⟨_, rfl⟩, HR.out.drewN n2⟩), (Keeps.refl _ _).drewN n2⟩

end Go.Proofs.YtmlgmhnplicflaaDoor.Quo
