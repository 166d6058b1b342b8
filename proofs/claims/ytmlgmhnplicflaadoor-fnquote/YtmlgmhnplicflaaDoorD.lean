import Derived.Test.YtmlgmhnplicflaaDoorC

/-
  Quoting: the model's side.
-/
namespace Go.Proofs.YtmlgmhnplicflaaDoor.Quo
open Go.RowKit
set_option linter.unusedVariables false
set_option maxRecDepth 100000

set_option maxHeartbeats 2000000 in
theorem specQuote_any {s : ByteArray} {w : World} (hs : s.size ≤ 1048576) :
    Calls Tryd.prog 8 #[.string s] w fun e w' => e = .returned (.string (ba (quoteRef s.data.toList))) ∧ Below w.heap.size w w' := by
  have hsl : s.data.toList.length = s.size := by rw [Array.length_toList]; rfl
  by_cases hl : 200 < s.size
  · have e : quoteRef s.data.toList = [] := by rw [quoteRef, if_pos (by omega)]
    rw [e]
    have hz : (200 : Int) < (s.size : Int) := by omega
    clear e
    go_enter Tryd.func8, Tryd.ntmps8
    go_wp2
    go_ret
    exact ⟨rfl, Below.refl _ _⟩
  · have HR : Hid (quoteRef s.data.toList = 34 :: qls s.data.toList ++ [34]) := (by show _ = _; rw [quoteRef, if_neg (by omega)])
    have hz : ¬ (200 : Int) < (s.size : Int) := by omega
    have hw1 : Ob (w.alloc (.cells #[.int .u8 34] 5)) w.heap.size (.slice (some ⟨w.heap.size, 0, none⟩) 1 1) [34] := ob_new w [34] (by decide) (by decide)
    have hbl : Below w.heap.size w (w.alloc (.cells #[.int .u8 34] 5)) := (Below.refl _ _).alloc (Nat.le_refl _) _
    go_enter Tryd.func8, Tryd.ntmps8
    go_wp2
    go_loopw [4, 5] (fun o i wr => ∃ k : Nat, k ≤ s.size ∧ i = .int .i64 k ∧ Ob wr w.heap.size o (34 :: qls (s.data.toList.take k)) ∧ Below w.heap.size w wr) (fun _ i _ => s.size - (intOf i).toNat)
    case atStart => exact ⟨0, Nat.zero_le _, rfl, hw1, hbl⟩
    case round =>
      obtain ⟨k, hk, rfl, hown, hbel⟩ := hrel
      have hlen : (34 :: qls (s.data.toList.take k)).length ≤ 1000 := by
        have h1 := qls_le (s.data.toList.take k)
        have h2 : (s.data.toList.take k).length ≤ 200 := by rw [List.length_take]; omega
        simp only [List.length_cons]
        omega
      by_cases hlt : k < s.size
      · have hc1 : s[k].toNat < 256 := s[k].toNat_lt
        have HE : Hid ((34 :: qls (s.data.toList.take k)) ++ qel s[k].toNat = 34 :: qls (s.data.toList.take (k + 1))) := (by show _ = _; rw [take_snoc s k hlt, qls_snoc]; rfl)
        have hkz : (k : Int) < (s.size : Int) := by omega
        obtain ⟨ao0, cp0, hof⟩ := own_form hown
        subst hof
        have HC : Hid (∀ (ns : List UInt8) (kd : Nat), ns.length ≤ 4 → qel s[k].toNat = ns → ∃ ao n cp w1, Sem.run Tryd.prog (Builtin.append_ #[22, 22] 22 #[.slice ao0 (34 :: qls (s.data.toList.take k)).length cp0, .slice (some ⟨wr.heap.size, 0, none⟩) ns.length ns.length]) ((wr.drewN kd).alloc (.cells (cellsOf ns).toArray 5)) = .ok (.slice ao n cp) w1 ∧ Hid (Ob w1 w.heap.size (.slice ao n cp) (34 :: qls (s.data.toList.take (k + 1)))) ∧ Below w.heap.size w w1) := by
          intro ns kd hns hq
          obtain ⟨v', w1, hrun0, ho, hb1⟩ := app_run (wr.drewN kd) w.heap.size 22 _ (34 :: qls (s.data.toList.take k)) ns (by omega) hbel.size (ownsRow_heap hown rfl)
          rw [← hq, HE.out] at ho
          obtain ⟨ao, cp, rfl⟩ := own_form ho
          exact ⟨ao, _, cp, w1, hrun0, ho, (below_drewN hbel kd).trans hb1⟩
        clear hown hw1 hbl HE
        generalize (34 :: qls (s.data.toList.take k)).length = N at *
        have hcell : ∀ x, x < 256 → Value.int .u8 ((UInt8.ofNat x).toNat : Int) = Value.int .u8 (x : Int) := fun x hx => by
          have : (UInt8.ofNat x).toNat = x := by simp; omega
          rw [this]
        by_cases c1 : s[k].toNat = 10
        · obtain ⟨ao, n, cp, w1, hrun, HO, hb1⟩ := HC.out [92, 110] 0 (by decide) (by rw [c1]; rfl)
          have hrun2 : Sem.run Tryd.prog (Builtin.append_ #[22, 22] 22 #[.slice ao0 N cp0, .slice (some ⟨wr.heap.size, 0, none⟩) 2 2]) (wr.alloc (.cells #[.int .u8 92, .int .u8 110] 5)) = .ok (.slice ao n cp) w1 := hrun
          have z1 : ((s[k].toNat : Int) == 10) = true := by simp [c1]
          clear hrun HC hcell hc1
          go_wp2_with (at_builtin; refine wpList_append_run rfl _ _ _ _ rfl rfl _ _ _ _ rfl rfl hrun2 ?_)
          go_roundw
          case rel => exact ⟨k + 1, by omega, by go_num, HO.out, hb1⟩
          case measure => simp [intOf]; omega
        · have z1 : ((s[k].toNat : Int) == 10) = false := by simp; omega
          by_cases c2 : s[k].toNat = 9
          · obtain ⟨ao, n, cp, w1, hrun, HO, hb1⟩ := HC.out [92, 116] 0 (by decide) (by rw [c2]; rfl)
            have hrun2 : Sem.run Tryd.prog (Builtin.append_ #[22, 22] 22 #[.slice ao0 N cp0, .slice (some ⟨wr.heap.size, 0, none⟩) 2 2]) (wr.alloc (.cells #[.int .u8 92, .int .u8 116] 5)) = .ok (.slice ao n cp) w1 := hrun
            have z2 : ((s[k].toNat : Int) == 9) = true := by simp [c2]
            clear hrun HC hcell hc1 c1 c2
            go_wp2_with (at_builtin; refine wpList_append_run rfl _ _ _ _ rfl rfl _ _ _ _ rfl rfl hrun2 ?_)
            go_roundw
            case rel => exact ⟨k + 1, by omega, by go_num, HO.out, hb1⟩
            case measure => simp [intOf]; omega
          · have z2 : ((s[k].toNat : Int) == 9) = false := by simp; omega
            by_cases c3 : s[k].toNat = 34
            · obtain ⟨ao, n, cp, w1, hrun, HO, hb1⟩ := HC.out [92, 34] 0 (by decide) (by rw [c3]; rfl)
              have hrun2 : Sem.run Tryd.prog (Builtin.append_ #[22, 22] 22 #[.slice ao0 N cp0, .slice (some ⟨wr.heap.size, 0, none⟩) 2 2]) (wr.alloc (.cells #[.int .u8 92, .int .u8 (s[k].toNat : Int)] 5)) = .ok (.slice ao n cp) w1 := by rw [c3]; exact hrun
              have z3 : ((s[k].toNat : Int) == 34) = true := by simp [c3]
              clear hrun HC hcell hc1 c1 c2 c3
              go_wp2_with (at_builtin; refine wpList_append_run rfl _ _ _ _ rfl rfl _ _ _ _ rfl rfl hrun2 ?_)
              go_roundw
              case rel => exact ⟨k + 1, by omega, by go_num, HO.out, hb1⟩
              case measure => simp [intOf]; omega
            · have z3 : ((s[k].toNat : Int) == 34) = false := by simp; omega
              by_cases c4 : s[k].toNat = 92
              · obtain ⟨ao, n, cp, w1, hrun, HO, hb1⟩ := HC.out [92, 92] 0 (by decide) (by rw [c4]; rfl)
                have hrun2 : Sem.run Tryd.prog (Builtin.append_ #[22, 22] 22 #[.slice ao0 N cp0, .slice (some ⟨wr.heap.size, 0, none⟩) 2 2]) (wr.alloc (.cells #[.int .u8 92, .int .u8 (s[k].toNat : Int)] 5)) = .ok (.slice ao n cp) w1 := by rw [c4]; exact hrun
                have z4 : ((s[k].toNat : Int) == 92) = true := by simp [c4]
                clear hrun HC hcell hc1 c1 c2 c3 c4
                go_wp2_with (at_builtin; refine wpList_append_run rfl _ _ _ _ rfl rfl _ _ _ _ rfl rfl hrun2 ?_)
                go_roundw
                case rel => exact ⟨k + 1, by omega, by go_num, HO.out, hb1⟩
                case measure => simp [intOf]; omega
              · have z4 : ((s[k].toNat : Int) == 92) = false := by simp; omega
                by_cases c5 : s[k].toNat < 32 ∨ 126 < s[k].toNat
                · obtain ⟨a, ha⟩ : ∃ a : Nat, s[k].toNat / 16 = a := ⟨_, rfl⟩
                  obtain ⟨b, hb'⟩ : ∃ b : Nat, s[k].toNat % 16 = b := ⟨_, rfl⟩
                  have e1 : IntKind.u8.wrap ((s[k].toNat : Int).tdiv 16) = (a : Int) := by rw [Int.tdiv_eq_ediv_of_nonneg (by omega)]; rw [show (s[k].toNat : Int) / 16 = (a : Int) by omega]; exact IntWalk.u8_in _ (by omega)
                  have e1b : IntKind.u8.wrap ((s[k].toNat : Int) / 16) = (a : Int) := by rw [show (s[k].toNat : Int) / 16 = (a : Int) by omega]; exact IntWalk.u8_in _ (by omega)
                  have e2b : (s[k].toNat : Int) % 16 = (b : Int) := by omega
                  have e2 : (s[k].toNat : Int).tmod 16 = (b : Int) := by rw [Int.tmod_eq_emod_of_nonneg (by omega)]; omega
                  have s1 := index_hex a (by omega)
                  have s2 := index_hex b (by omega)
                  obtain ⟨ao, n, cp, w1, hrun, HO, hb1⟩ := HC.out [92, 120, hexd a, hexd b] 1 (Nat.le_refl 4) (by unfold qel; rw [if_neg c1, if_neg c2, if_neg (by omega), if_pos c5, ha, hb'])
                  have hrun2 : Sem.run Tryd.prog (Builtin.append_ #[22, 22] 22 #[.slice ao0 N cp0, .slice (some ⟨wr.heap.size, 0, none⟩) 4 4]) (wr.alloc (.cells #[.int .u8 92, .int .u8 120, .int .u8 (hexd a).toNat, .int .u8 (hexd b).toNat] 5)).drew = .ok (.slice ao n cp) w1 := hrun
                  clear hrun HC hcell c1 c2 c3 c4 ha hb'
                  rcases c5 with c5 | c5
                  · have z5 : (s[k].toNat : Int) < 32 := by omega
                    clear c5
                    go_wp2
                    go_region_law (refine step_append_run rfl _ _ _ _ rfl rfl _ _ _ _ rfl rfl hrun2 ?_)
                    all_goals go_wp2
                    all_goals go_roundw
                    all_goals (first
                      | exact ⟨k + 1, by omega, by go_num, HO.out, hb1⟩
                      | (simp [intOf]; omega))
                  · have z5 : ¬ (s[k].toNat : Int) < 32 := by omega
                    have z6 : (126 : Int) < (s[k].toNat : Int) := by omega
                    clear c5
                    go_wp2
                    go_region_law (refine step_append_run rfl _ _ _ _ rfl rfl _ _ _ _ rfl rfl hrun2 ?_)
                    all_goals go_wp2
                    all_goals go_roundw
                    all_goals (first
                      | exact ⟨k + 1, by omega, by go_num, HO.out, hb1⟩
                      | (simp [intOf]; omega))
                · obtain ⟨ao, n, cp, w1, hrun, HO, hb1⟩ := HC.out [UInt8.ofNat s[k].toNat] 0 (Nat.le_of_ble_eq_true rfl) (by unfold qel; rw [if_neg c1, if_neg c2, if_neg (by omega), if_neg c5])
                  have hrun2 : Sem.run Tryd.prog (Builtin.append_ #[22, 22] 22 #[.slice ao0 N cp0, .slice (some ⟨wr.heap.size, 0, none⟩) 1 1]) (wr.alloc (.cells #[.int .u8 (s[k].toNat : Int)] 5)) = .ok (.slice ao n cp) w1 := by
                    have e : (cellsOf [UInt8.ofNat s[k].toNat]).toArray = #[.int .u8 (s[k].toNat : Int)] := by simp only [cellsOf, List.map_cons, List.map_nil, hcell _ hc1]
                    rw [e] at hrun
                    exact hrun
                  have z5 : ¬ (s[k].toNat : Int) < 32 := by omega
                  have z6 : ¬ (126 : Int) < (s[k].toNat : Int) := by omega
                  clear hrun HC hcell c1 c2 c3 c4 c5
                  go_wp2_with (at_builtin; refine wpList_append_run rfl _ _ _ _ rfl rfl _ _ _ _ rfl rfl hrun2 ?_)
                  go_roundw
                  case rel => exact ⟨k + 1, by omega, by go_num, HO.out, hb1⟩
                  case measure => simp [intOf]; omega
      · have hT : s.data.toList.take k = s.data.toList := List.take_of_length_le (by rw [hsl]; omega)
        obtain ⟨v2, w2, hrun, ho, hb2⟩ := app_run wr w.heap.size 22 _ (34 :: qls (s.data.toList.take k)) [34] (by simp only [List.length_cons, List.length_nil] at *; omega) hbel.size hown
        have hcv := conv_own ho
        have HE : Hid (quoteRef s.data.toList = (34 :: qls (s.data.toList.take k)) ++ [34]) := (by show _ = _; rw [HR.out, hT])
        obtain ⟨ao, cp, hof⟩ := own_form hown
        subst hof
        have hrun2 : Sem.run Tryd.prog (Builtin.append_ #[22, 22] 22 #[.slice ao (34 :: qls (s.data.toList.take k)).length cp, .slice (some ⟨wr.heap.size, 0, none⟩) 1 1]) (wr.alloc (.cells #[.int .u8 34] 5)) = .ok v2 w2 := hrun
        have hkz : ¬ (k : Int) < (s.size : Int) := by omega
        clear hT hrun hown hw1 hbl ho
        generalize (34 :: qls (s.data.toList.take k)).length = N at *
        go_wp2_with (at_builtin; refine wpList_append_run rfl _ _ _ _ rfl rfl _ _ _ _ rfl rfl hrun2 ?_)
        go_ret
        exact ⟨ret_str (by rw [HE.out]; first | rfl | simp), hbel.trans hb2⟩

end Go.Proofs.YtmlgmhnplicflaaDoor.Quo
