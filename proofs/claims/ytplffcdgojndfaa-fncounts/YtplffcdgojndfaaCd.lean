import Derived.Test.YtplffcdgojndfaaCa
import Derived.Laws.StructEq
import Derived.Deep.Cut
import Derived.Deep.CutRange
import Derived.Deep.DeepCutAuto
import Derived.Deep.CutBlock
import Derived.Deep.RegionWith
import Derived.BigQuiet
import Derived.Test.YtplffcdgojndfaaCc
import Derived.ProofKit
import Derived.OpenShut
import Derived.Carry

/-
  The law on counts: the walk.
-/
namespace Go.Proofs.Ytplffcdgojndfaa
open Go.RowKit
set_option linter.unusedVariables false
set_option maxRecDepth 100000

theorem tmod_nat (x z : Nat) : (x : Int).tmod (z : Int) = ((x % z : Nat) : Int) := by rw [Int.tmod_eq_emod_of_nonneg (by omega)]; simp
theorem spanNeq (a b : Int) (w : World) : (binOp BinOp.neq 31 (.agg #[.int .i64 a, .int .i64 b]) (.agg #[.int .i64 a, .int .i64 b])).run Try.prog w = .ok (.bool false) w := by
  have hs : Try.prog.stoodInHeld 31 = false := by kernel_rfl
  simp [go_sem, hs]
theorem cell_keep {w w' : World} (k : Keeps (fun _ => False) w w') {a : Addr} {v : Value} (h : w.cell? a = some v) : w'.cell? a = some v := by
  have hb : a.block < w.heap.size := by
    apply Decidable.byContradiction
    intro hn
    have : w.heap[a.block]? = none := Array.getElem?_eq_none (by omega)
    simp [World.cell?, this] at h
  rw [d_cell_same (k.block a.block hb (fun h => h))]
  exact h
theorem c_cell_lt {w : World} {b j : Nat} {v : Value} (h : w.cell? ⟨b, j, none⟩ = some v) : b < w.heap.size := by
  apply Decidable.byContradiction
  intro hn
  have : w.heap[b]? = none := Array.getElem?_eq_none (by omega)
  simp [World.cell?, this] at h
/-- The text of counts, as it is put together. -/
def patB (m k : Nat) : ByteArray := ((({ data := #[40, 97, 41, 123] } ++ cba (numL m)) ++ { data := #[44] }) ++ cba (numL k)) ++ { data := #[125] }

set_option maxHeartbeats 1000000 in
theorem law_counts {w : World} {ao : Option Addr} {cap : Nat} {cs : List Nat} (hc : Dc w ao cs) (hb : ∀ a, ao = some a → a.block < w.heap.size) (hn : cs.length ≤ 1048576)
    (hU : ∀ m k n w, m ≤ k → k ≤ m + 20 → m ≤ 20 → n ≤ 60 → Calls Try.prog 7 #[.string (patB m k ++ { data := #[63] }), .string (cba (List.replicate n 97)), .int .i64 0] w (RowM (cntM m (cntC m k n)) w))
    (hD : ∀ m k n w, m ≤ k → k ≤ m + 20 → m ≤ 20 → n ≤ 60 → Calls Try.prog 7 #[.string (patB m k), .string (cba (List.replicate n 97)), .int .i64 0] w (RowM (cntM m (cntC m k n)).reverse w)) :
    Calls Try.prog 3 #[.slice ao cs.length cap] w fun e w' => e = .returned (.bool true) ∧ Keeps (fun _ => False) w w' := by
  have hnz : (cs.length : Int) ≤ 1048576 := by omega
  have HU : Hid _ := hU
  have HD : Hid _ := hD
  have hb0 := wByteD (cap := cap) (i := 0) hc hn (by omega)
  have hb1 := wByteD (cap := cap) (i := 1) hc hn (by omega)
  have hb2 := wByteD (cap := cap) (i := 2) hc hn (by omega)
  clear hU hD hc hb
  go_enter Try.func3, Try.ntmps3
  go_upto_region 6 with (first
    | (go_at_call 5; refine hb0.mono ?_; clear hb0; rintro e w1 ⟨x, rfl, hx, rfl⟩)
    | (go_at_call 5; refine hb1.mono ?_; clear hb1; rintro e w1 ⟨y, rfl, hy, rfl⟩)
    | (go_at_call 5; refine hb2.mono ?_; clear hb2; rintro e w1 ⟨z, rfl, hz, rfl⟩))
  obtain ⟨m, hm, hm1⟩ : ∃ m : Nat, (x : Int) % 21 = (m : Int) ∧ m < 21 := ⟨x % 21, by omega, by omega⟩
  obtain ⟨d, hd, hd1⟩ : ∃ d : Nat, (y : Int) % 21 = (d : Int) ∧ d < 21 := ⟨y % 21, by omega, by omega⟩
  obtain ⟨n, hnn, hn1⟩ : ∃ n : Nat, (z : Int) % 61 = (n : Int) ∧ n < 61 := ⟨z % 61, by omega, by omega⟩
  simp only [hm, hd, hnn]
  obtain ⟨k, hk, hk1, hk2⟩ : ∃ k : Nat, (m : Int) + (d : Int) = (k : Int) ∧ m ≤ k ∧ k ≤ m + 20 := ⟨m + d, by omega, by omega, by omega⟩
  simp only [hk]
  have HUP := HU.out m k n
  have HDN := HD.out m k n
  clear hm hd hnn hk hx hy hz hd1 HU HD
  have HUP : Hid (∀ w, Calls Try.prog 7 #[.string (patB m k ++ { data := #[63] }), .string (cba (List.replicate n 97)), .int .i64 0] w (RowM (cntM m (cntC m k n)) w)) := fun w => HUP w hk1 hk2 (by omega) (by omega)
  have HDN : Hid (∀ w, Calls Try.prog 7 #[.string (patB m k), .string (cba (List.replicate n 97)), .int .i64 0] w (RowM (cntM m (cntC m k n)).reverse w)) := fun w => HDN w hk1 hk2 (by omega) (by omega)
  have hlm := numL_len m
  have hlk := numL_len k
  have hsm : (cba (numL m)).size ≤ 2 := by rw [cba_size]; omega
  have hsk : (cba (numL k)).size ≤ 2 := by rw [cba_size]; omega
  have g1 : ¬ 9223372036854775807 < 4 + (cba (numL m)).size := by omega
  have g2 : ¬ 9223372036854775807 < 4 + (cba (numL m)).size + 1 := by omega
  have g3 : ¬ 9223372036854775807 < 4 + (cba (numL m)).size + 1 + (cba (numL k)).size := by omega
  have g4 : ¬ 9223372036854775807 < 4 + (cba (numL m)).size + 1 + (cba (numL k)).size + 1 := by omega
  have g5 : ¬ 9223372036854775807 < 4 + (cba (numL m)).size + 1 + (cba (numL k)).size + 1 + 1 := by omega
  clear hlm hlk hsm hsk
  have hK : Keeps (fun _ => False) w1 w1 := Keeps.refl _ _
  go_upto_region 7 with (go_at_call 6; refine (wNumber_any (by omega)).mono ?_; rintro e w2 ⟨rfl, hk3⟩; replace hK := hK.trans hk3; clear hk3)
  have hpb : ({ data := #[40, 97, 41, 123] } ++ cba (numL m) ++ { data := #[44] } ++ cba (numL k) ++ { data := #[125] } : ByteArray) = patB m k := rfl
  have g6 : ¬ 9223372036854775807 < (patB m k).size + 1 := by
    unfold patB
    simp only [ByteArray.size_append]
    exact g5
  simp only [hpb]
  clear hpb g1 g2 g3 g4 g5
  generalize hap : patB m k ++ { data := #[63] } = pu at HUP
  generalize patB m k = pb at HDN hap g6 ⊢
  have HA : Hid (∀ w, Calls Try.prog 8 #[.int .i64 (n : Int)] w fun e w' => e = .returned (.string (cba (List.replicate n 97))) ∧ Keeps (fun _ => False) w w') := fun w => wA_any (by omega)
  generalize cba (List.replicate n 97) = ua at HUP HDN HA
  generalize hC : cntC m k n = C at HUP HDN
  have HC : Hid (cntC m k n = C) := hC
  clear hC
  go_upto_region 8 with (first
    | (go_at_call 8; refine (HA.out _).mono ?_; rintro e w3 ⟨rfl, hk3⟩; replace hK := hK.trans hk3; clear hk3)
    | (go_at_call 7; refine (HUP.out _).mono ?_; rintro e w4 ⟨a4, n4, c4, L4, rfl, hL4, hM4, hk4⟩; replace hK := hK.trans hk4))
  clear HUP hap g6
  go_upto_region 9 with (first
    | (go_at_call 8; refine (HA.out _).mono ?_; rintro e w3 ⟨rfl, hk3⟩; replace hK := hK.trans hk3)
    | (go_at_call 7; refine (HDN.out _).mono ?_; rintro e w5 ⟨a5, n5, c5, L5, rfl, hL5, hM5, hk5⟩; replace hK := hK.trans hk5))
  replace hM4 := (hM4.same hk3).same hk5
  have hl4 : n4 = C := by
    obtain ⟨a', c', hv⟩ := own_form hM4.row
    cases hv
    have := congrArg List.length hL4
    simpa [cntM] using this
  have hl5 : n5 = C := by
    obtain ⟨a', c', hv⟩ := own_form hM5.row
    cases hv
    have := congrArg List.length hL5
    simpa [cntM] using this
  subst hl4
  subst hl5
  have HK : Hid (Keeps (fun _ => False) w1 w5) := hK
  have HM4 : Hid (Mts w5 (.slice a4 n5 c4) L4) := hM4
  have HM5 : Hid (Mts w5 (.slice a5 n5 c5) L5) := hM5
  have HL4 : Hid (L4.map (·.1) = cntM m n5) := hL4
  have HL5 : Hid (L5.map (·.1) = (cntM m n5).reverse) := hL5
  clear hK hk3 hk4 hk5 hM4 hM5 hL4 hL5 HA HDN
  go_upto_if 47 with fail
  go_cut [9] (fun tp wx => tp = .int .i64 ((min k n : Nat) : Int) ∧ wx = w5)
  case first =>
    by_cases hkn : k < n
    · have hz : (k : Int) < (n : Int) := by omega
      go_wp2_with fail
      go_meet
      exact ⟨congrArg (Value.int .i64) (by omega), rfl⟩
    · have hz : ¬ (k : Int) < (n : Int) := by omega
      go_wp2_with fail
      go_meet
      exact ⟨congrArg (Value.int .i64) (by omega), rfl⟩
  case rest =>
    obtain ⟨rfl, rfl⟩ := hcut
    obtain ⟨tp, htp⟩ : ∃ tp, min k n = tp := ⟨_, rfl⟩
    rw [htp]
    have htp2 : tp ≤ 60 := by omega
    go_upto_if 55 with fail
    go_cut [10] (fun ct wx => ct = .int .i64 (n5 : Int) ∧ wx = wc)
    case first =>
      have hcc := HC.out
      unfold cntC at hcc
      by_cases hnm : n < m
      · have hz : (n : Int) < (m : Int) := by omega
        rw [if_neg (by omega)] at hcc
        go_wp2_with fail
        go_meet
        exact ⟨congrArg (Value.int .i64) (by omega), rfl⟩
      · have hz : ¬ (n : Int) < (m : Int) := by omega
        rw [if_pos (by omega)] at hcc
        go_wp2_with fail
        go_meet
        exact ⟨congrArg (Value.int .i64) (by omega), rfl⟩
    case rest =>
      obtain ⟨rfl, rfl⟩ := hcut
      have hne : ((n5 : Int) != (n5 : Int)) = false := by simp
      go_wp2_with fail
      have HN5 : Hid (n5 ≤ 100) := by
        show n5 ≤ 100
        have hcc := HC.out
        unfold cntC at hcc
        split at hcc <;> omega
      go_loopg [11] (n5 + 1) (fun gl s11 wr => ∃ i : Nat, i + gl = n5 + 1 ∧ i ≤ n5 ∧ s11 = .int .i64 (i : Int) ∧ Hid (Keeps (fun _ => False) wc wr))
      case atStart => exact ⟨0, by omega, by omega, rfl, Keeps.refl _ _⟩
      case round =>
        obtain ⟨i, hgl, hi, rfl, HKr⟩ := hrel
        have HG : Hid (i + gk = n5 + 1) := hgl
        clear hgl
        by_cases hlt : i < n5
        · have hiz : (i : Int) < (n5 : Int) := by omega
          have hi9 : (i : Int) < 100 := by have := HN5.out; omega
          obtain ⟨g4, gv, cv, rfl, y2, y3, x0, x1⟩ := cnt_at (HM4.out.same HKr.out) HL4.out hlt
          obtain ⟨g5, rfl, z2⟩ := cnt_rev (HM5.out.same HKr.out) HL5.out hlt
          have htpi : (m : Int) + ((n5 - 1 - i : Nat) : Int) = (tp : Int) - (i : Int) := by
            have hcc := HC.out
            unfold cntC at hcc
            split at hcc <;> omega
          have y2' : wr.cell? ⟨g4, i * 4 + 2, none⟩ = some (.int .i64 ((m : Int) + (i : Int))) := by rw [y2]; simp
          have z2' : wr.cell? ⟨g5, i * 4 + 2, none⟩ = some (.int .i64 ((tp : Int) - (i : Int))) := by rw [z2, ← htpi]; simp
          have hti : (i : Int) ≤ (tp : Int) := by omega
          have htp3 : (tp : Int) ≤ 60 := by omega
          have hm3 : (m : Int) < 21 := by omega
          clear y2 z2 htpi htp
          by_cases h0 : m + i = 0
          · have hz0 : ((m : Int) + (i : Int) == 0) = true := by simp; omega
            rw [if_pos h0] at x0 x1
            have hq := spanNeq (-1) (-1)
            have hb0 : ((m : Int) + (i : Int)) = 0 := by omega
            have hm0 : m = 0 := by omega
            have hi0 : i = 0 := by omega
            subst hm0
            subst hi0
            have y2' : wr.cell? ⟨g4, 0 * 4 + 2, none⟩ = some (.int .i64 0) := by rw [y2']; simp
            have z2' : wr.cell? ⟨g5, 0 * 4 + 2, none⟩ = some (.int .i64 (tp : Int)) := by rw [z2']; simp
            simp only [Nat.zero_mul, Nat.zero_add] at y2' z2' y3
            go_upto_region 22 with fail
            have hy3 := cell_keep (w' := wr.alloc (.cells #[.int .i64 0, .int .i64 0] 31)) ((Keeps.refl _ _).alloc _) y2'
            go_cut [12] (fun v wx => ∃ B, v = .pointer (some ⟨B, 0, none⟩) ∧ wx.heap[B]? = some (.cells #[.int .i64 (-1), .int .i64 0] 31 (0, 0)) ∧ Keeps (fun _ => False) wr wx ∧ wr.heap.size ≤ B)
            case first =>
              go_region
              all_goals (try go_wp2_with fail)
              all_goals go_meet
              all_goals exact ⟨wr.heap.size, rfl, heap_alloc_new _ _, ((Keeps.refl _ _).drew).alloc _, Nat.le_refl _⟩
            case rest =>
              obtain ⟨B, rfl, hB, hkB, hBn⟩ := hcut
              have bf := fun j => free_of (i := j) hB
              have b0 : wc.cell? ⟨B, 0, none⟩ = some (.int .i64 (-1)) := by rw [cell_of hB]; rfl
              have b1 : wc.cell? ⟨B, 1, none⟩ = some (.int .i64 0) := by rw [cell_of hB]; rfl
              have t2 := cell_keep hkB y2'
              have t3 := cell_keep hkB y3
              have s0 := cell_keep hkB x0
              have s1 := cell_keep hkB x1
              have HKB := HKr.out.trans hkB
              have HKB : Hid _ := HKB
              have hgB : gv < wr.heap.size := c_cell_lt x0
              have hne : gv ≠ B := by omega
              have hg4 : g4 < wr.heap.size := c_cell_lt y2'
              have hsz := HKr.out.size
              have hne4 : g4 ≠ B := by omega
              clear hkB hy3 y2' y3 x0 x1 z2' HKr
              go_upto_region 25 with fail
              have hB2 : ((wc.setCell ⟨B, 0, none⟩ (.int .i64 (-1))).setCell ⟨B, 1, none⟩ (.int .i64 (-1))).heap[B]? = some (.cells #[.int .i64 (-1), .int .i64 (-1)] 31 (0, 0)) := by
                have e1 := heap_setCell_same wc B 0 _ _ (.int .i64 (-1)) hB
                rw [heap_setCell_same _ _ _ _ _ _ e1]
                rfl
              have kS : Keeps (fun k => k = B) wc ((wc.setCell ⟨B, 0, none⟩ (.int .i64 (-1))).setCell ⟨B, 1, none⟩ (.int .i64 (-1))) := ((Keeps.refl (fun k => k = B) wc).setCell (a := ⟨B, 0, none⟩) (fun _ => rfl) _).setCell (a := ⟨B, 1, none⟩) (fun _ => rfl) _
              have HKC := HKB.out.trans' kS (fun i hi e => by omega)
              generalize ((wc.setCell ⟨B, 0, none⟩ (.int .i64 (-1))).setCell ⟨B, 1, none⟩ (.int .i64 (-1))) = wd at hB2 kS HKC ⊢
              have d0 : wd.cell? ⟨B, 0, none⟩ = some (.int .i64 (-1)) := by rw [cell_of hB2]; rfl
              have d1 : wd.cell? ⟨B, 1, none⟩ = some (.int .i64 (-1)) := by rw [cell_of hB2]; rfl
              have kc : ∀ (b j : Nat) (v : Value), b ≠ B → wc.cell? ⟨b, j, none⟩ = some v → wd.cell? ⟨b, j, none⟩ = some v := fun b j v hb h => by
                rw [d_cell_same (kS.block b (c_cell_lt h) hb)]
                exact h
              replace t3 := kc _ _ _ hne4 t3
              replace s0 := kc _ _ _ hne s0
              replace s1 := kc _ _ _ hne s1
              have HKD : Hid _ := HKC
              clear t2 kc kS HKC hB2 hB bf b0 b1 HKB
              go_quiet (fail)
              go_wp2_with fail
              go_roundg (gk - 1)
              case measure => have := HG.out; omega
              case rel => exact ⟨0 + 1, by have := HG.out; omega, by omega, congrArg (Value.int .i64) (by omega), HKD.out.drewN _⟩
          · have hz0 : ((m : Int) + (i : Int) == 0) = false := by simp; omega
            rw [if_neg h0] at x0 x1
            have x0' : wr.cell? ⟨gv, 0, none⟩ = some (.int .i64 ((m : Int) + (i : Int) - 1)) := by rw [x0]; congr 2; omega
            have x1' : wr.cell? ⟨gv, 1, none⟩ = some (.int .i64 ((m : Int) + (i : Int))) := by rw [x1]; simp
            have hq := spanNeq ((m : Int) + (i : Int) - 1) ((m : Int) + (i : Int))
            have hpos : (1 : Int) ≤ (m : Int) + (i : Int) := by omega
            clear x0 x1 h0
            go_upto_region 22 with fail
            have hy3 := cell_keep (w' := wr.alloc (.cells #[.int .i64 0, .int .i64 0] 31)) ((Keeps.refl _ _).alloc _) y2'
            go_cut [12] (fun v wx => ∃ B, v = .pointer (some ⟨B, 0, none⟩) ∧ wx.heap[B]? = some (.cells #[.int .i64 ((m : Int) + (i : Int) - 1), .int .i64 ((m : Int) + (i : Int))] 31 (0, 0)) ∧ Keeps (fun _ => False) wr wx)
            case first =>
              go_region
              all_goals (try go_wp2_with fail)
              all_goals go_meet
              all_goals exact ⟨wr.heap.size, rfl, heap_alloc_new _ _, ((Keeps.refl _ _).drew).alloc _⟩
            case rest =>
              obtain ⟨B, rfl, hB, hkB⟩ := hcut
              have b0 : wc.cell? ⟨B, 0, none⟩ = some (.int .i64 ((m : Int) + (i : Int) - 1)) := by rw [cell_of hB]; rfl
              have b1 : wc.cell? ⟨B, 1, none⟩ = some (.int .i64 ((m : Int) + (i : Int))) := by rw [cell_of hB]; rfl
              have t2 := cell_keep hkB y2'
              have t3 := cell_keep hkB y3
              have s0 := cell_keep hkB x0'
              have s1 := cell_keep hkB x1'
              have HKB := HKr.out.trans hkB
              have HKB : Hid _ := HKB
              clear hB hkB hy3 y2' y3 x0' x1' z2' HKr
              go_wp2_with fail
              go_quiet (fail)
              go_wp2_with fail
              go_roundg (gk - 1)
              case measure => have := HG.out; omega
              case rel => exact ⟨i + 1, by have := HG.out; omega, by omega, congrArg (Value.int .i64) (by omega), HKB.out.drewN _⟩
        · have hiz : ¬ (i : Int) < (n5 : Int) := by omega
          go_wp2_with fail
          go_ret
          exact ⟨rfl, HK.out.trans HKr.out⟩

end Go.Proofs.Ytplffcdgojndfaa

/-
  The law on counts: what Ways answers there.
-/
namespace Go.Proofs.Ytplffcdgojndfaa
open Go.RowKit
set_option linter.unusedVariables false

theorem cba_app (a b : List UInt8) : cba a ++ cba b = cba (a ++ b) := by
  apply ByteArray.ext
  simp [cba]
theorem patB_up (m k : Nat) : patB m k ++ { data := #[63] } = cba (patL m k true) := by
  show ((((cba [40, 97, 41, 123] ++ cba (numL m)) ++ cba [44]) ++ cba (numL k)) ++ cba [125]) ++ cba [63] = _
  simp only [cba_app]
  congr 1
  simp [patL]
theorem patB_down (m k : Nat) : patB m k = cba (patL m k false) := by
  show (((cba [40, 97, 41, 123] ++ cba (numL m)) ++ cba [44]) ++ cba (numL k)) ++ cba [125] = _
  simp only [cba_app]
  congr 1
  simp [patL]
theorem ways_m {w : World} {s u : ByteArray} {p : Int} {l : List Mt} (hl : waysRef s u p = l) : Calls Try.prog 7 #[.string s, .string u, .int .i64 p] w (RowM l w) := by
  refine ways_val.mono ?_
  rintro e w' ⟨ao, n, c, L, rfl, h1, h2, h3, h4⟩
  exact ⟨ao, n, c, L, rfl, h1.trans hl, ⟨ownsRow_base h2 (fun _ _ => Nat.zero_le _), fun x hx => ownsRow_base (h3.rows x hx).1 (fun _ _ => Nat.zero_le _)⟩, h4⟩
theorem ways_up {m k n : Nat} {w : World} (h1 : m ≤ k) (h2 : k ≤ m + 20) (h3 : m ≤ 20) (h4 : n ≤ 60) : Calls Try.prog 7 #[.string (patB m k ++ { data := #[63] }), .string (cba (List.replicate n 97)), .int .i64 0] w (RowM (cntM m (cntC m k n)) w) := by
  rw [patB_up]
  exact ways_m (ways_cnt (cnt_pat true h1 (by omega)) (all_A n) (by omega) (by omega))
theorem ways_down {m k n : Nat} {w : World} (h1 : m ≤ k) (h2 : k ≤ m + 20) (h3 : m ≤ 20) (h4 : n ≤ 60) : Calls Try.prog 7 #[.string (patB m k), .string (cba (List.replicate n 97)), .int .i64 0] w (RowM (cntM m (cntC m k n)).reverse w) := by
  rw [patB_down]
  exact ways_m (ways_cnt (cnt_pat false h1 (by omega)) (all_A n) (by omega) (by omega))

end Go.Proofs.Ytplffcdgojndfaa

/-
  The law on counts: whatever list of bytes is given.
-/
namespace Go.Proofs.Ytplffcdgojndfaa.fnCounts
open Go.ChangeShapes Go.WideShapes Go.ChangeAt Go.RowKit
set_option linter.unusedVariables false

theorem own : ownKnob Try.prog.godebug = none := by kernel_rfl
theorem laidOut : laidOutB Try.prog = true := by kernel_rfl
theorem cells1 : Try.prog.cellsOf 5 = 1 := by kernel_rfl

/-- A list of bytes as it is given. -/
def Ar (W : World) (v : Value) : Prop := ∃ (ao : Option Addr) (cap : Nat) (cs : List Nat), v = .slice ao cs.length cap ∧ cs.length ≤ 9223372036854775807 ∧ Dc W ao cs ∧ ∀ a, ao = some a → a.block < W.heap.size

theorem has_lt {W : World} {base : Nat} {a : Addr} {e : TypeId} {n : Nat} (h : W.has Try.prog .any base a e n) : a.block < W.heap.size := by
  unfold World.has at h
  apply Decidable.byContradiction
  intro hn
  have : W.heap[a.block]? = none := Array.getElem?_eq_none (by omega)
  simp [World.shape?, this] at h

set_option maxRecDepth 100000 in
theorem open_arg {H : Type} {enc : TypeId × Value → H} {W : World} {base : Nat} {v : Value} {d : DataW H} {p : List MemPlace} (hv : Value.okWide Try.prog W .any base 22 v) (h : DataW.Trod enc Try.prog W 0 (fun _ => true) true 22 v d p) : Ar W v := by
  obtain ⟨fuel, hf⟩ := h
  obtain ⟨a0, len, cap, rfl⟩ := okWide_slice Try.underlying22 hv
  rcases open_ints Try.underlying22 Try.underlying5 cells1 hf with ⟨hcs, hx⟩ | ⟨a, len', cap', zs, hcs, _, hl, hm, hz, hx, hcell, hwz⟩
  · simp [Value.cells] at hcs
    obtain ⟨rfl, rfl, rfl⟩ := hcs
    exact ⟨none, 0, [], rfl, by simp, ⟨by simp, by simp⟩, fun a h => by cases h⟩
  · simp [Value.cells] at hcs
    obtain ⟨rfl, rfl, rfl⟩ := hcs
    simp only [if_true] at hz
    have hw : ∀ n ∈ zs, 0 ≤ n ∧ n < 256 := fun n hn => by
      have := hwz n hn
      simp only [Lit.wf, Bool.and_eq_true, decide_eq_true_eq] at this
      have h1 : IntKind.u8.min = 0 := rfl
      have h2 : IntKind.u8.max = 255 := rfl
      omega
    have hlen : ((zs.take len).map Int.toNat).length = len := by simp; omega
    refine ⟨some a, cap, (zs.take len).map Int.toNat, by rw [hlen], ?_, ⟨?_, fun _ => ⟨a, rfl, fun i c hc => ?_⟩⟩, ?_⟩
    · rw [hlen]; unfold maxLen at hm; omega
    · intro c hc
      obtain ⟨n, hn, rfl⟩ := List.mem_map.1 hc
      have := hw n (List.mem_of_mem_take hn)
      omega
    · obtain ⟨hi, _⟩ := List.getElem?_eq_some_iff.1 hc
      have hi' : i < len := by rw [hlen] at hi; exact hi
      have hiz : i < zs.length := by omega
      rw [hcell i hiz]
      have hm2 := hw _ (List.getElem_mem hiz)
      simp [hi', hiz] at hc
      subst hc
      simp [hiz]
      omega
    · intro a' ha
      cases ha
      have h0 : Cell.okWide Try.prog W .any base 22 (.slice (some a) len cap) := by
        simpa [Value.okWide, Try.underlying22] using hv
      have h1 : Cell.ok Try.prog W .any base 22 (.slice (some a) len cap) := by
        simpa [Cell.okWide, Try.underlying22] using h0
      simp only [Cell.ok, Try.underlying22] at h1
      exact has_lt h1.2.2

set_option maxHeartbeats 2000000 in
set_option maxRecDepth 100000 in
theorem law_any {W : World} {v : Value} (h : Ar W v) :
    Calls Try.prog 3 #[v] W fun e w' => e = .returned (.bool true) ∧ Keeps (fun _ => False) W w' := by
  obtain ⟨ao, cap, cs, rfl, hL, hc, hb⟩ := h
  by_cases h1 : cs.length ≤ 1048576
  · exact law_counts hc hb h1 (fun _ _ _ _ a b c d => ways_up a b c d) (fun _ _ _ _ a b c d => ways_down a b c d)
  · have hz1 : (1048576 : Int) < (cs.length : Int) := by omega
    have hz3 : ¬ (cs.length : Int) ≤ 1048576 := by omega
    clear hc hb h1 hL
    go_enter Try.func3, Try.ntmps3
    go_wp2_with fail
    go_ret
    exact ⟨rfl, Keeps.refl _ _⟩

set_option maxRecDepth 100000 in
theorem lifted (os : Os) (started : os.Started) (H : Type) (enc : TypeId × Value → H) :
    ReturnsInHanded {} Try.checked os 3 .any (Rows.fnCountsSpec.pre6 enc Try.prog Try.f3 Rows.fnCountsRow.domain false) (Rows.fnCountsSpec.post enc Try.prog Try.f3 false true false false) := by
  refine returnsInHanded_of_change (C := Try.checked) own started (by kernel_rfl) Try.func3
    (ChangeSpec.witness6 (enc := enc) (C := Try.checked) false ⟨#[], #[.slice none 0 0], []⟩ 8 (by kernel_rfl) (by kernel_rfl) (by kernel_rfl) (by kernel_rfl)) ?_
  intro W base args ds gs before hval0 hW hcnd _
  have hval : ∀ (j : Nat) t v, Try.f3.params[j]? = some t → args[j]? = some v → Value.okWide Try.prog W .any base t v := hval0
  have hW' := hW
  obtain ⟨p, q, hA0, hV, rfl, hfz, hnd⟩ := hW
  have hA : DataW.TrodAll enc Try.prog W 0 (fun _ => true) true Try.f3.params.toList args.toList ds p := hA0
  rw [Try.params3] at hA hval
  obtain ⟨v0, d0, rfl, rfl, h0⟩ := trodAll_one hA
  obtain ⟨rfl, rfl⟩ := trodVars_none hV
  clear hA0 hval0
  simp only [List.append_nil] at hW'
  have hlt : ∀ x ∈ p, x.block < W.heap.size := fun x hx => by simpa using hW'.lt x hx
  have a0 := open_arg (hval 0 22 v0 rfl rfl) h0
  refine (law_any a0).mono fun e W' ⟨he, hk⟩ => ?_
  subst he
  have hn : Below W.heap.size W W' := hk.below _ (fun _ _ h => h) (Nat.le_refl _)
  have t0 := Below.trod laidOut (by kernel_rfl) (of_decide_eq_true (by kernel_rfl)) h0 hn hlt
  exact ⟨_, rfl, _, _, _, [], _, [], hW', trodAll_mk1 (shut_bool Try.underlying4 _), trodAll_mk1 t0, rfl, hn.frame _, fun h => by cases h⟩

theorem over : Rows.fnCountsRow.holds Try.pinned (OpenSpec.ofChange Rows.fnCountsSpec) :=
  OpenClaim.holds_of_wide 3 Try.f3 rfl rfl rfl rfl rfl rfl rfl ⟨rfl, rfl, rfl, rfl, rfl⟩ rfl rfl rfl rfl rfl (by kernel_rfl) Try.func3 (by kernel_rfl)
    (of_decide_eq_true (by kernel_rfl)) (by unfold Func.isWrapper; first | (rw [if_pos (by decide +kernel)]; kernel_rfl) | (rw [if_neg (by decide +kernel)]; exact ⟨rfl, rfl⟩))
    (fun os started H enc _ => lifted os started H enc)

theorem proved : Rows.FnCountsSaid :=
  over
end Go.Proofs.Ytplffcdgojndfaa.fnCounts
namespace Go.Proofs.Ytplffcdgojndfaa
theorem counts_holds : Rows.FnCountsSaid := fnCounts.proved
#print axioms counts_holds
end Go.Proofs.Ytplffcdgojndfaa
