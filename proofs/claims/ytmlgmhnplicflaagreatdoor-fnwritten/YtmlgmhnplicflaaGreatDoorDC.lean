import Derived.Test.YtmlgmhnplicflaaGreatDoorDB

/-
  The laws' draws: a good pattern, any, a text for the law.
-/
namespace Go.Proofs.YtmlgmhnplicflaaGreatDoor
open Go.RowKit
set_option linter.unusedVariables false

theorem pattern_all {cs : List Nat} {K M : Nat} (hN : Kn cs K M) (g : Nat) : ∀ n, DPatC cs K M g n := by
  induction g using Nat.strongRecOn with
  | ind g ih1 =>
    intro n
    induction n using Nat.strongRecOn with
    | ind n ih2 => exact pattern_step hN ih1 ih2

def Pick1 (cs : List Nat) (R : Nat) (ao : Option Addr) (cap p : Nat) (z : Int) (w : World) (e : Ending) (w' : World) : Prop := ∃ k p' : Nat, (k : Int) < z ∧ p' ≤ p + 1 ∧ e = .returned (.int .i64 (k : Int)) ∧ Dw w' R ao cs cap p' ∧ Keeps (fun k => k = R) w w'
set_option maxHeartbeats 1000000 in
set_option maxRecDepth 100000 in
/-- A pick, of one too: which draws nothing. -/
theorem dpick1 {w : World} {R cap p : Nat} {ao : Option Addr} {cs : List Nat} {z : Int} (hD : Dw w R ao cs cap p) (hl : cs.length ≤ 1048576) (hp2 : p ≤ 1152921504606846976) (h1 : 1 ≤ z) (h2 : z ≤ 200) :
    Calls Tryz.prog 35 #[.pointer (some ⟨R, 0, none⟩), .int .i64 z] w (Pick1 cs R ao cap p z w) := by
  by_cases hz : 1 < z
  · refine (dpick hD hl hp2 hz h2).mono ?_
    rintro e w' ⟨k, _, hk, rfl, h3, h4⟩
    exact ⟨k, p + 1, hk, Nat.le_refl _, rfl, h3, h4⟩
  · obtain rfl : z = 1 := by omega
    go_enter Tryz.func35, Tryz.ntmps35
    go_wp2_with fail
    go_ret
    exact ⟨0, p, by omega, by omega, rfl, hD, Keeps.refl _ _⟩

set_option maxHeartbeats 1000000 in
set_option maxRecDepth 100000 in
theorem good_any {cs : List Nat} {w : World} {R cap : Nat} {ao : Option Addr} {plain : Bool} (hl : cs.length ≤ 1048576) (hD : Dw w R ao cs cap 0) :
    Calls Tryz.prog 25 #[.pointer (some ⟨R, 0, none⟩), .bool plain] w fun e w' => ∃ (s : ByteArray) (p : Nat), e = .returned (.string s) ∧ s.size ≤ 120 ∧ p ≤ 576460752303423488 ∧ Dw w' R ao cs cap p ∧ Keeps (fun k => k = R) w w' := by
  obtain ⟨K, M, hN⟩ := kn_is cs hl
  obtain ⟨q, hq0, hq, hw⟩ := hN.win 0
  have h2 := hN.two
  have h3 := hN.big
  have hcall := pattern_all hN 9 q w R cap 0 q ao 3 plain hD (by omega) (by omega) hw (by omega) (by omega) (by omega) (by omega)
  unfold DPatPost at hcall
  have HB : Hid (9 * K + q + 17 ≤ 576460752303423488) := (by show _ ≤ _; omega)
  clear h2 h3 hq hw hq0
  go_enter Tryz.func25, Tryz.ntmps25
  go_wp2_with (go_at_call 60; refine hcall.mono ?_; rintro e w2 ⟨t, g', p', rfl, hg', hp', hb, ht, hD2, hk⟩)
  all_goals go_ret
  · exact ⟨_, p', rfl, by decide, by have := HB.out; omega, hD2, hk⟩
  · exact ⟨t, p', rfl, by omega, by have := HB.out; omega, hD2, hk⟩

theorem ins_size (s x : ByteArray) (i : Nat) (hi : i ≤ s.size) (hx : x.size ≤ 6) : (s.extract 0 i ++ x ++ s.extract i s.size).size ≤ s.size + 6 := by
  rw [ByteArray.size_append, ByteArray.size_append, ByteArray.size_extract, ByteArray.size_extract]
  omega
/-- In between: a text, so many draws. -/
def AnyMid (cs : List Nat) (R : Nat) (ao : Option Addr) (cap m q : Nat) (w0 : World) (s3 : Value) (wc : World) : Prop :=
  ∃ (s : ByteArray) (p : Nat), s3 = .string s ∧ s.size ≤ m ∧ p ≤ q ∧ Dw wc R ao cs cap p ∧ Keeps (fun k => k = R) w0 wc

set_option maxHeartbeats 8000000 in
set_option maxRecDepth 100000 in
theorem any_any {cs : List Nat} {w : World} {R cap : Nat} {ao : Option Addr} (hl : cs.length ≤ 1048576) (hD : Dw w R ao cs cap 0) :
    Calls Tryz.prog 43 #[.pointer (some ⟨R, 0, none⟩)] w fun e w' => ∃ s : ByteArray, e = .returned (.string s) ∧ s.size ≤ 200 ∧ Keeps (fun k => k = R) w w' := by
  have hgood := good_any (plain := false) hl hD
  clear hD
  go_enter Tryz.func43, Tryz.ntmps43
  go_upto_block 0 with (first
    | (go_at_call 25; refine hgood.mono ?_; rintro e w2 ⟨s0, p0, rfl, hs0, hp0, hD0, hK0⟩)
    | (go_at_call 35; refine (dpick hD0 hl (by omega) (by omega) (by omega)).mono ?_; rintro e w3 ⟨k0, hk0, hk0l, rfl, hD1, hk1⟩; clear hk0))
  have hK1 := hK0.trans hk1
  clear hK0 hk1 hD0 hgood
  go_cut [3, 4, 5, 6] (fun s3 _ _ _ wc => AnyMid cs R ao cap 140 576460752303423500 w s3 wc)
  case first =>
    go_wp2_with fail
    go_loopg [3, 4, 5, 6] (k0 + 1) (fun gl s3 s4 _ _ wr => ∃ (k p1 : Nat) (s : ByteArray), k + 1 = gl ∧ k ≤ 2 ∧ s3 = .string s ∧ s4 = .int .i64 (k : Int) ∧ s.size + 6 * k ≤ 132 ∧ p1 + 3 * k ≤ 576460752303423496 ∧ Dw wr R ao cs cap p1 ∧ Keeps (fun k => k = R) w wr)
    case atStart => exact ⟨k0, p0 + 1, s0, rfl, by omega, rfl, rfl, by omega, by omega, hD1, hK1⟩
    case round =>
      clear hD1 hK1
      obtain ⟨k, p1, s, hgl, hk2, rfl, rfl, hs, hp1, hD, hK⟩ := hrel
      have HG : Hid (k + 1 = gk) := hgl
      clear hgl
      cases k with
      | zero =>
        go_wp2_with fail
        go_meet
        exact ⟨s, p1, rfl, by omega, by omega, hD, hK⟩
      | succ k =>
        have hkz : (0 : Int) < ((k + 1 : Nat) : Int) := by omega
        go_upto_block 1 with (first
          | (go_at_call 35; refine (dpick hD hl (by omega) (by omega) (by omega)).mono ?_; rintro e w4 ⟨k1, hk1, hk1l, rfl, hD2, hk2⟩; clear hk1))
        all_goals first | (go_meet; exact ⟨s, p1 + 1, rfl, by omega, by omega, hD2, hK.trans hk2⟩) | skip
        have hK2 := hK.trans hk2
        clear hD hK hk2 hk1l
        go_cut [3, 5, 6] (fun s3 _ _ wc => AnyMid cs R ao cap (s.size + 6) (p1 + 3) w s3 wc)
        case first =>
          go_upto_region 7 with (first
            | (go_at_call 35; refine (dpick1 hD2 hl (by omega) (by omega) (by omega)).mono ?_; rintro e w5 ⟨i, p2, hil, hp2, rfl, hD3, hk3⟩))
          have hK3 := hK2.trans hk3
          have hG : w5.heap.size ≠ R := by have := hD3.cur.lt; omega
          have hL : Ls (w5.alloc (.cells #[.string ⟨#[40]⟩, .string ⟨#[41]⟩, .string ⟨#[91]⟩, .string ⟨#[93]⟩, .string ⟨#[123]⟩, .string ⟨#[125]⟩, .string ⟨#[42]⟩, .string ⟨#[63]⟩, .string ⟨#[124]⟩, .string ⟨#[92]⟩, .string ⟨#[92, 120, 52]⟩, .string ⟨#[92, 113]⟩, .string ⟨#[123, 51, 44, 50, 125]⟩, .string ⟨#[123, 53, 49, 125]⟩, .string ⟨#[123, 53, 48, 125]⟩, .string ⟨#[91, 98, 45, 97, 93]⟩, .string ⟨#[91, 97, 45, 92, 100, 93]⟩, .string ⟨#[123, 44, 51, 125]⟩, .string ⟨#[123, 50]⟩, .string ⟨#[45]⟩, .string ⟨#[94]⟩, .string ⟨#[91, 94]⟩, .string ⟨#[92, 32]⟩] 9)) w5.heap.size 23 6 := ls_new w5 [⟨#[40]⟩, ⟨#[41]⟩, ⟨#[91]⟩, ⟨#[93]⟩, ⟨#[123]⟩, ⟨#[125]⟩, ⟨#[42]⟩, ⟨#[63]⟩, ⟨#[124]⟩, ⟨#[92]⟩, ⟨#[92, 120, 52]⟩, ⟨#[92, 113]⟩, ⟨#[123, 51, 44, 50, 125]⟩, ⟨#[123, 53, 49, 125]⟩, ⟨#[123, 53, 48, 125]⟩, ⟨#[91, 98, 45, 97, 93]⟩, ⟨#[91, 97, 45, 92, 100, 93]⟩, ⟨#[123, 44, 51, 125]⟩, ⟨#[123, 50]⟩, ⟨#[45]⟩, ⟨#[94]⟩, ⟨#[91, 94]⟩, ⟨#[92, 32]⟩] 9 6 (by decide)
          have kL : Keeps (fun _ => False) w5 (w5.alloc (.cells #[.string ⟨#[40]⟩, .string ⟨#[41]⟩, .string ⟨#[91]⟩, .string ⟨#[93]⟩, .string ⟨#[123]⟩, .string ⟨#[125]⟩, .string ⟨#[42]⟩, .string ⟨#[63]⟩, .string ⟨#[124]⟩, .string ⟨#[92]⟩, .string ⟨#[92, 120, 52]⟩, .string ⟨#[92, 113]⟩, .string ⟨#[123, 51, 44, 50, 125]⟩, .string ⟨#[123, 53, 49, 125]⟩, .string ⟨#[123, 53, 48, 125]⟩, .string ⟨#[91, 98, 45, 97, 93]⟩, .string ⟨#[91, 97, 45, 92, 100, 93]⟩, .string ⟨#[123, 44, 51, 125]⟩, .string ⟨#[123, 50]⟩, .string ⟨#[45]⟩, .string ⟨#[94]⟩, .string ⟨#[91, 94]⟩, .string ⟨#[92, 32]⟩] 9)) := (Keeps.refl _ _).alloc _
          have hD4 := hD3.same kL
          have hK4 : Keeps (fun k => k = R) w (w5.alloc (.cells #[.string ⟨#[40]⟩, .string ⟨#[41]⟩, .string ⟨#[91]⟩, .string ⟨#[93]⟩, .string ⟨#[123]⟩, .string ⟨#[125]⟩, .string ⟨#[42]⟩, .string ⟨#[63]⟩, .string ⟨#[124]⟩, .string ⟨#[92]⟩, .string ⟨#[92, 120, 52]⟩, .string ⟨#[92, 113]⟩, .string ⟨#[123, 51, 44, 50, 125]⟩, .string ⟨#[123, 53, 49, 125]⟩, .string ⟨#[123, 53, 48, 125]⟩, .string ⟨#[91, 98, 45, 97, 93]⟩, .string ⟨#[91, 97, 45, 92, 100, 93]⟩, .string ⟨#[123, 44, 51, 125]⟩, .string ⟨#[123, 50]⟩, .string ⟨#[45]⟩, .string ⟨#[94]⟩, .string ⟨#[91, 94]⟩, .string ⟨#[92, 32]⟩] 9)) := hK3.alloc _
          generalize (w5.alloc (.cells #[.string ⟨#[40]⟩, .string ⟨#[41]⟩, .string ⟨#[91]⟩, .string ⟨#[93]⟩, .string ⟨#[123]⟩, .string ⟨#[125]⟩, .string ⟨#[42]⟩, .string ⟨#[63]⟩, .string ⟨#[124]⟩, .string ⟨#[92]⟩, .string ⟨#[92, 120, 52]⟩, .string ⟨#[92, 113]⟩, .string ⟨#[123, 51, 44, 50, 125]⟩, .string ⟨#[123, 53, 49, 125]⟩, .string ⟨#[123, 53, 48, 125]⟩, .string ⟨#[91, 98, 45, 97, 93]⟩, .string ⟨#[91, 97, 45, 92, 100, 93]⟩, .string ⟨#[123, 44, 51, 125]⟩, .string ⟨#[123, 50]⟩, .string ⟨#[45]⟩, .string ⟨#[94]⟩, .string ⟨#[91, 94]⟩, .string ⟨#[92, 32]⟩] 9)) = w6 at hL hD4 hK4 ⊢
          generalize w5.heap.size = G at hL hG ⊢
          clear kL hD3 hK3 hk3 hD2 hK2
          have hiz : (i : Int) ≤ (s.size : Int) := by omega
          have hin : i ≤ s.size := by omega
          have kd : Keeps (fun _ => False) w6 w6.drew := (Keeps.refl _ _).drew
          have hDd := hD4.same kd
          have hLd := hL.keeps kd (fun h => h)
          have hKd := hK4.drew
          clear hD4 hL hK4 kd
          go_region_with (first
            | (go_at_call 35; refine (dpick hDd hl (by omega) (by omega) (by omega)).mono ?_; rintro e w7 ⟨k2, hk2, hk2l, rfl, hD5, hk5⟩; clear hk2; obtain ⟨x, cx, hx0, hx1⟩ := (hLd.keeps hk5 hG).2 k2 (by omega)))
          all_goals (try go_wp2_with fail)
          all_goals go_meet
          all_goals exact ⟨_, p2 + 1, rfl, ins_size s x i hin hx1, by omega, hD5, hKd.trans hk5⟩
        case rest =>
          obtain ⟨y, p3, rfl, hy, hp3, hD5, hK5⟩ := hcut
          go_wp2_with fail
          go_roundg (gk - 1)
          case measure => have := HG.out; omega
          case rel => exact ⟨k, p3, y, by have := HG.out; omega, by omega, rfl, congrArg (Value.int .i64) (by omega), by omega, by omega, hD5, hK5⟩
  case rest =>
    obtain ⟨s, p1, rfl, hs, hp1, hD, hK⟩ := hcut
    clear hD1 hK1 hk0l hs0 hp0
    go_upto_if 44 with (first
      | (go_at_call 35; refine (dpick hD hl (by omega) (by omega) (by omega)).mono ?_; rintro e w3 ⟨k1, hk1, hk1l, rfl, hD3, hk3⟩; clear hk1))
    have hK3 := hK.trans hk3
    clear hD hK hk3
    have hG : w3.heap.size ≠ R := by have := hD3.cur.lt; omega
    go_cut [3, 7] (fun s3 _ wc => AnyMid cs R ao cap 140 576460752303423502 w s3 wc)
    case first =>
      by_cases hk10 : k1 = 0
      · subst hk10
        go_upto_region 10 with fail
        have hL : Ls (w3.alloc (.cells #[.string ⟨#[40, 40, 40, 40, 40, 40, 40, 97, 41, 41, 41, 41, 41, 41, 41]⟩, .string ⟨#[40, 40, 40, 40, 40, 40, 97, 41, 41, 41, 41, 41, 41]⟩, .string ⟨#[40, 97, 41, 40, 97, 41, 40, 97, 41, 40, 97, 41, 40, 97, 41, 40, 97, 41, 40, 97, 41, 40, 97, 41, 40, 97, 41, 40, 97, 41]⟩, .string ⟨#[40, 97, 41, 40, 97, 41, 40, 97, 41, 40, 97, 41, 40, 97, 41, 40, 97, 41, 40, 97, 41, 40, 97, 41, 40, 97, 41]⟩] 9)) w3.heap.size 4 30 := ls_new w3 [⟨#[40, 40, 40, 40, 40, 40, 40, 97, 41, 41, 41, 41, 41, 41, 41]⟩, ⟨#[40, 40, 40, 40, 40, 40, 97, 41, 41, 41, 41, 41, 41]⟩, ⟨#[40, 97, 41, 40, 97, 41, 40, 97, 41, 40, 97, 41, 40, 97, 41, 40, 97, 41, 40, 97, 41, 40, 97, 41, 40, 97, 41, 40, 97, 41]⟩, ⟨#[40, 97, 41, 40, 97, 41, 40, 97, 41, 40, 97, 41, 40, 97, 41, 40, 97, 41, 40, 97, 41, 40, 97, 41, 40, 97, 41]⟩] 9 30 (by decide)
        have kL : Keeps (fun _ => False) w3 (w3.alloc (.cells #[.string ⟨#[40, 40, 40, 40, 40, 40, 40, 97, 41, 41, 41, 41, 41, 41, 41]⟩, .string ⟨#[40, 40, 40, 40, 40, 40, 97, 41, 41, 41, 41, 41, 41]⟩, .string ⟨#[40, 97, 41, 40, 97, 41, 40, 97, 41, 40, 97, 41, 40, 97, 41, 40, 97, 41, 40, 97, 41, 40, 97, 41, 40, 97, 41, 40, 97, 41]⟩, .string ⟨#[40, 97, 41, 40, 97, 41, 40, 97, 41, 40, 97, 41, 40, 97, 41, 40, 97, 41, 40, 97, 41, 40, 97, 41, 40, 97, 41]⟩] 9)) := (Keeps.refl _ _).alloc _
        have hD4 := hD3.same kL
        have hK4 : Keeps (fun k => k = R) w (w3.alloc (.cells #[.string ⟨#[40, 40, 40, 40, 40, 40, 40, 97, 41, 41, 41, 41, 41, 41, 41]⟩, .string ⟨#[40, 40, 40, 40, 40, 40, 97, 41, 41, 41, 41, 41, 41]⟩, .string ⟨#[40, 97, 41, 40, 97, 41, 40, 97, 41, 40, 97, 41, 40, 97, 41, 40, 97, 41, 40, 97, 41, 40, 97, 41, 40, 97, 41, 40, 97, 41]⟩, .string ⟨#[40, 97, 41, 40, 97, 41, 40, 97, 41, 40, 97, 41, 40, 97, 41, 40, 97, 41, 40, 97, 41, 40, 97, 41, 40, 97, 41]⟩] 9)) := hK3.alloc _
        generalize (w3.alloc (.cells #[.string ⟨#[40, 40, 40, 40, 40, 40, 40, 97, 41, 41, 41, 41, 41, 41, 41]⟩, .string ⟨#[40, 40, 40, 40, 40, 40, 97, 41, 41, 41, 41, 41, 41]⟩, .string ⟨#[40, 97, 41, 40, 97, 41, 40, 97, 41, 40, 97, 41, 40, 97, 41, 40, 97, 41, 40, 97, 41, 40, 97, 41, 40, 97, 41, 40, 97, 41]⟩, .string ⟨#[40, 97, 41, 40, 97, 41, 40, 97, 41, 40, 97, 41, 40, 97, 41, 40, 97, 41, 40, 97, 41, 40, 97, 41, 40, 97, 41]⟩] 9)) = w4 at hL hD4 hK4 ⊢
        generalize w3.heap.size = G at hL hG ⊢
        clear kL hD3 hK3
        go_wp2_with (first
          | (go_at_call 35; refine (dpick hD4 hl (by omega) (by omega) (by omega)).mono ?_; rintro e w5 ⟨k2, hk2, hk2l, rfl, hD5, hk5⟩; clear hk2; obtain ⟨x, cx, hx0, hx1⟩ := (hL.keeps hk5 hG).2 k2 (by omega)))
        go_meet
        exact ⟨x, p1 + 2, rfl, by omega, by omega, hD5, hK4.trans hk5⟩
      · have e0 : ((k1 : Int) == 0) = false := by simp; omega
        go_wp2_with fail
        go_meet
        exact ⟨s, p1 + 1, rfl, by omega, by omega, hD3, hK3⟩
    case rest =>
      obtain ⟨t, p2, rfl, ht, hp2, hD, hK⟩ := hcut
      clear hD3 hK3 hG hk1l hs hp1
      go_upto_if 53 with (first
        | (go_at_call 35; refine (dpick hD hl (by omega) (by omega) (by omega)).mono ?_; rintro e w6 ⟨k2, hk2, hk2l, rfl, hD3, hk3⟩; clear hk2))
      have hK3 := hK.trans hk3
      clear hD hK hk3
      by_cases hk20 : k2 = 0
      · subst hk20
        go_wp2_with fail
        go_loopg [3] 122 (fun gl s3 wr => ∃ (p3 : Nat) (y : ByteArray), y.size + gl = 122 ∧ s3 = .string y ∧ p3 ≤ 576460752303423503 + y.size ∧ Dw wr R ao cs cap p3 ∧ Keeps (fun k => k = R) w wr)
        case atStart => exact ⟨p2 + 1, ByteArray.empty, rfl, rfl, by omega, hD3, hK3⟩
        case round =>
          clear hD3 hK3
          obtain ⟨p3, y, hgl, rfl, hp3, hD, hK⟩ := hrel
          have HG : Hid (y.size + gk = 122) := hgl
          have hyb : y.size ≤ 122 := by omega
          clear hgl
          have z1 : ¬ 9223372036854775807 < y.size + 1 := by omega
          go_wp2_with (first
            | (go_at_call 35; refine (dpick hD hl (by omega) (by omega) (by omega)).mono ?_; rintro e w7 ⟨k3, hk3, hk3l, rfl, hD4, hk4⟩; clear hk3))
          · go_roundg (gk - 1)
            case measure => have := HG.out; omega
            case rel => exact ⟨p3 + 1, _, by have := HG.out; rw [ByteArray.size_append]; show y.size + 1 + (gk - 1) = 122; omega, rfl, by rw [ByteArray.size_append]; show p3 + 1 ≤ 576460752303423503 + (y.size + 1); omega, hD4, hK.trans hk4⟩
          · go_ret
            exact ⟨y, rfl, by omega, hK.trans hk4⟩
      · have e0 : ((k2 : Int) == 0) = false := by simp; omega
        go_wp2_with fail
        go_ret
        exact ⟨t, rfl, by omega, hK3⟩

set_option maxHeartbeats 1000000 in
set_option maxRecDepth 100000 in
theorem drawRead_any {cs : List Nat} {w : World} {cap : Nat} {ao : Option Addr} (hl : cs.length ≤ 1048576) (hc : Dc w ao cs) (ha : ∀ a, ao = some a → a.block < w.heap.size) :
    Calls Tryz.prog 14 #[.slice ao cs.length cap] w fun e w' => ∃ s : ByteArray, e = .returned (.string s) ∧ s.size ≤ 200 ∧ Keeps (fun _ => False) w w' := by
  have kA : Keeps (fun _ => False) w (w.alloc (.cells #[.slice ao cs.length cap, .int .i64 0, .int .u64 0] 57)) := (Keeps.refl _ w).alloc _
  have hD : Dw (w.alloc (.cells #[.slice ao cs.length cap, .int .i64 0, .int .u64 0] 57)) w.heap.size ao cs cap 0 :=
    ⟨heap_alloc_new w _, hc.keeps kA (fun a h => ⟨ha a h, fun h => h⟩), fun a h => ⟨Nat.lt_of_lt_of_le (ha a h) kA.size, by have := ha a h; omega⟩⟩
  have hcall := any_any hl hD
  go_enter Tryz.func14, Tryz.ntmps14
  go_wp2_with (go_at_call 43; refine hcall.mono ?_; rintro e w2 ⟨s, rfl, hs, hk⟩)
  go_ret
  exact ⟨s, rfl, hs, kA.trans' hk (fun i hi h => by omega)⟩

end Go.Proofs.YtmlgmhnplicflaaGreatDoor
