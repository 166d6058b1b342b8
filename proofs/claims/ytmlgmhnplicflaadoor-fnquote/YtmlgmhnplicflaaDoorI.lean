import Derived.Test.YtmlgmhnplicflaaDoorH

/-
  Quoting: the model reads back.
-/
namespace Go.Proofs.YtmlgmhnplicflaaDoor.Quo
open Go.RowKit
set_option linter.unusedVariables false
set_option maxRecDepth 100000

theorem l1hex_some {w : World} {b v : Nat} (h : hexv b = some v) : Calls Tryd.prog 18 #[.int .u8 (b : Int)] w fun e w' => e = .returned (.int .i64 (v : Int)) ∧ w' = w := by
  rcases hexv_cases h with ⟨-, h1, h2, h3⟩ | ⟨-, h1, h2, h3⟩
  · have z1 : (48 : Int) ≤ (b : Int) := by omega
    have z2 : (b : Int) ≤ 57 := by omega
    have z3 : IntKind.u8.wrap ((b : Int) - 48) = (v : Int) := by rw [show (b : Int) - 48 = (v : Int) by omega]; exact IntWalk.u8_in _ (by omega)
    have hvl : v < 16 := by omega
    clear h h1 h2 h3
    go_enter Tryd.func18, Tryd.ntmps18
    go_wp2
    go_ret
    exact ⟨by first | rfl | (rw [z3]), rfl⟩
  · have z1 : (97 : Int) ≤ (b : Int) := by omega
    have z2 : (b : Int) ≤ 102 := by omega
    have z0 : ¬ (b : Int) ≤ 57 := by omega
    have z4 : (48 : Int) ≤ (b : Int) := by omega
    obtain ⟨d, hd⟩ : ∃ d : Nat, b - 97 = d := ⟨_, rfl⟩
    have z3 : IntKind.u8.wrap ((b : Int) - 97) = (d : Int) := by rw [show (b : Int) - 97 = (d : Int) by omega]; exact IntWalk.u8_in _ (by omega)
    have hv : (v : Int) = (d : Int) + 10 := by omega
    rw [hv]
    have hdl : d < 6 := by omega
    clear h h1 h2 h3 hd hv
    go_enter Tryd.func18, Tryd.ntmps18
    go_wp2
    go_ret
    exact ⟨by first | rfl | (rw [z3]), rfl⟩
theorem l1hex_none {w : World} {b : Nat} (h : hexv b = none) (hb : b < 256) : Calls Tryd.prog 18 #[.int .u8 (b : Int)] w fun e w' => e = .returned (.int .i64 (-1)) ∧ w' = w := by
  obtain ⟨h1, h2⟩ := hexv_none h
  have h3 : ¬ (48 ≤ b ∧ b ≤ 57) := by simp [digit] at h1; omega
  rcases (show b < 48 ∨ (57 < b ∧ b < 97) ∨ 102 < b by omega) with c | c | c
  · have z1 : ¬ (48 : Int) ≤ (b : Int) := by omega
    have z2 : ¬ (97 : Int) ≤ (b : Int) := by omega
    clear h h1 h2 h3 c
    go_enter Tryd.func18, Tryd.ntmps18
    go_wp2
    go_ret
    exact ⟨rfl, rfl⟩
  · have z1 : (48 : Int) ≤ (b : Int) := by omega
    have z3 : ¬ (b : Int) ≤ 57 := by omega
    have z2 : ¬ (97 : Int) ≤ (b : Int) := by omega
    clear h h1 h2 h3 c
    go_enter Tryd.func18, Tryd.ntmps18
    go_wp2
    go_ret
    exact ⟨rfl, rfl⟩
  · have z1 : (48 : Int) ≤ (b : Int) := by omega
    have z3 : ¬ (b : Int) ≤ 57 := by omega
    have z2 : (97 : Int) ≤ (b : Int) := by omega
    have z4 : ¬ (b : Int) ≤ 102 := by omega
    clear h h1 h2 h3 c
    go_enter Tryd.func18, Tryd.ntmps18
    go_wp2
    go_ret
    exact ⟨rfl, rfl⟩

/-- What is stored as the answer. -/
theorem unq_ret {w w2 wr : World} {P : Nat} (ok : Bool) (at_ : Int) (tx : ByteArray) (HP : w.heap.size = P) (kA : Keeps (fun _ => False) w w2) (hb : Below w2.heap.size w2 wr) (hP : Bk w2 P 26 [.bool false, .int .i64 0, .string ⟨#[]⟩]) :
    wr.cell? ⟨P, 0, none⟩ = some (.bool false) ∧ wr.cell? ⟨P, 1, none⟩ = some (.int .i64 0) ∧ wr.cell? ⟨P, 2, none⟩ = some (.string ⟨#[]⟩) ∧ wr.frozen? ⟨P, 0, none⟩ = false ∧ wr.frozen? ⟨P, 1, none⟩ = false ∧ wr.frozen? ⟨P, 2, none⟩ = false ∧
    (((wr.setCell ⟨P, 0, none⟩ (.bool ok)).setCell ⟨P, 1, none⟩ (.int .i64 at_)).setCell ⟨P, 2, none⟩ (.string tx)).cell? ⟨P, 0, none⟩ = some (.bool ok) ∧ (((wr.setCell ⟨P, 0, none⟩ (.bool ok)).setCell ⟨P, 1, none⟩ (.int .i64 at_)).setCell ⟨P, 2, none⟩ (.string tx)).cell? ⟨P, 1, none⟩ = some (.int .i64 at_) ∧ (((wr.setCell ⟨P, 0, none⟩ (.bool ok)).setCell ⟨P, 1, none⟩ (.int .i64 at_)).setCell ⟨P, 2, none⟩ (.string tx)).cell? ⟨P, 2, none⟩ = some (.string tx) ∧
    Keeps (fun _ => False) w (((wr.setCell ⟨P, 0, none⟩ (.bool ok)).setCell ⟨P, 1, none⟩ (.int .i64 at_)).setCell ⟨P, 2, none⟩ (.string tx)) := by
  have hP3 : Bk wr P 26 [.bool false, .int .i64 0, .string ⟨#[]⟩] := by
    have hl := hP.lt
    unfold Bk at hP ⊢
    rw [hb.block P hl]
    exact hP
  have hP5 := ((hP3.set 0 (.bool ok)).set 1 (.int .i64 at_)).set 2 (.string tx)
  have g0 := hP5.cell 0
  have g1 := hP5.cell 1
  have g2 := hP5.cell 2
  simp only [List.set, List.getElem?_cons_zero, List.getElem?_cons_succ] at g0 g1 g2
  have kr : Keeps (fun _ => False) w wr := kA.trans' (Keeps.ofBelow (E := fun k => w2.heap.size ≤ k) hb (fun k h _ => h)) (fun i hi h => by have := kA.size; omega)
  refine ⟨by rw [hP3.cell]; rfl, by rw [hP3.cell]; rfl, by rw [hP3.cell]; rfl, hP3.fz 0, hP3.fz 1, hP3.fz 2, g0, g1, g2, ?_⟩
  exact ((kr.setCell (fun h => by simp at h; omega) _).setCell (fun h => by simp at h; omega) _).setCell (fun h => by simp at h; omega) _

theorem escQ_x {s : ByteArray} {q q1 : Nat} (h : bt s q = 120) (h1 : q + 1 = q1) : escQ s q = numQ s q1 := by
  subst h1
  simp only [escQ, numQ, if_pos h]
theorem numQ_e0 {s : ByteArray} {p : Nat} (h : hexv (bt s p) = none) : numQ s p = .error p := by simp only [numQ, h]
theorem numQ_e1 {s : ByteArray} {p p1 a : Nat} (h : hexv (bt s p) = some a) (h1 : p + 1 = p1) (h2 : hexv (bt s p1) = none) : numQ s p = .error p1 := by
  subst h1
  simp only [numQ, h, h2]
theorem numQ_ok {s : ByteArray} {p p1 p2 a b : Nat} (h : hexv (bt s p) = some a) (h1 : p + 1 = p1) (h2 : hexv (bt s p1) = some b) (h3 : p1 + 1 = p2) : numQ s p = .ok (a * 16 + b, p2) := by
  subst h1
  subst h3
  simp only [numQ, h, h2]

set_option maxHeartbeats 16000000 in
theorem specUnquote_any {s : ByteArray} {w : World} (hs : s.size ≤ 1048576) :
    Calls Tryd.prog 10 #[.string s] w (UqP s w) := by
  by_cases hl : 1300 < s.size
  · have e : unqRef s = .error 1300 := by rw [unqRef, if_pos hl]
    have HE : Hid (unqRef s = .error 1300) := e
    have hz : (1300 : Int) < (s.size : Int) := by omega
    have hP := bk_new w [.bool false, .int .i64 1300, .string ⟨#[]⟩] 26
    have g0 := hP.cell 0
    have g1 := hP.cell 1
    have g2 := hP.cell 2
    simp only [List.getElem?_cons_zero, List.getElem?_cons_succ] at g0 g1 g2
    clear e hP
    go_enter Tryd.func10, Tryd.ntmps10
    go_wp2
    refine bodyPost_ret (v := .agg #[.bool false, .int .i64 1300, .string ⟨#[]⟩]) (by simp [results, Tryd.results10, go_sem, g0, g1, g2]) rfl ?_
    refine ⟨by rw [HE.out]; rfl, (Keeps.refl _ _).alloc _⟩
  · have HE : Hid (unqRef s = qRef s) := (by show _ = _; rw [unqRef, if_neg hl]; rfl)
    have hz : ¬ (1300 : Int) < (s.size : Int) := by omega
    go_enter Tryd.func10, Tryd.ntmps10
    go_upto_region 1 with fail
    have kA : Keeps (fun _ => False) w (w.alloc (.cells #[.bool false, .int .i64 0, .string ⟨#[]⟩] 26)) := (Keeps.refl _ w).alloc _
    have hP : Bk (w.alloc (.cells #[.bool false, .int .i64 0, .string ⟨#[]⟩] 26)) w.heap.size 26 [.bool false, .int .i64 0, .string ⟨#[]⟩] := bk_new w _ _
    generalize (w.alloc (.cells #[.bool false, .int .i64 0, .string ⟨#[]⟩] 26)) = w2 at kA hP ⊢
    have hs2 := hP.lt
    obtain ⟨P, hPe⟩ : ∃ P, w.heap.size = P := ⟨_, rfl⟩
    have HP : Hid (w.heap.size = P) := hPe
    rw [hPe] at hP hs2 ⊢
    clear hPe
    by_cases hx : bt s 0 = 34
    · have hpl := bt_lt hx (by omega)
      have hb0 : s[0].toNat = 34 := by rw [← bt_in hpl]; exact hx
      have z1 : ((s[0].toNat : Int) != 34) = false := by rw [hb0]; rfl
      have z0 : ((s.size : Int) == 0) = false := by rw [beq_eq_false_iff_ne]; omega
      have HQ : Hid (qRef s = unqF s s.size 1 []) := (by show _ = _; rw [qRef, if_pos hx])
      have hpz : (0 : Int) < (s.size : Int) := by omega
      clear hx
      go_wp2
      clear z1 z0 hb0 hpz
      go_loopg [3, 4] s.size (fun gl o i wr => ∃ (p : Nat) (acc : List UInt8), i = .int .i64 (p : Int) ∧ Ob wr w2.heap.size o acc ∧ Below w2.heap.size w2 wr ∧ 1 ≤ p ∧ p ≤ s.size ∧ s.size + 1 ≤ gl + p ∧ acc.length ≤ p ∧ Hid (unqF s gl p acc = qRef s))
      case atStart => exact ⟨1, [], rfl, World.ownsRow_nil _ _ _ _, Below.refl _ _, by omega, by omega, by omega, by simp, HQ.out.symm⟩
      case round =>
        obtain ⟨p, acc, rfl, hO, hb, hp1, hp, hfu, hal, HU⟩ := hrel
        obtain ⟨f, rfl⟩ : ∃ f, gk = f + 1 := ⟨gk - 1, by omega⟩
        obtain ⟨ao, cp, hof⟩ := own_form hO
        subst hof
        have hacc : acc.length ≤ 1300 := by omega
        by_cases hlt : p < s.size
        · have hpz : (p : Int) < (s.size : Int) := by omega
          have HB : Hid (bt s p = s[p].toNat) := bt_in hlt
          have hb256 : s[p].toNat < 256 := s[p].toNat_lt
          obtain ⟨q, hq⟩ : ∃ q, p + 1 = q := ⟨_, rfl⟩
          have HQq : Hid (p + 1 = q) := hq
          have eq1 : (p : Int) + 1 = (q : Int) := by omega
          have hqs : q ≤ s.size := by omega
          have hqp : p < q := by omega
          clear hq
          by_cases c34 : s[p].toNat = 34
          · have z1 : ((s[p].toNat : Int) == 34) = true := by rw [c34]; rfl
            by_cases he : q = s.size
            · have HR : Hid (qRef s = .ok acc) := (by show _ = _; rw [← HU.out]; simp only [unqF, HB.out, c34, if_true, HQq.out, if_pos he])
              have zq : ¬ (q : Int) < (s.size : Int) := by omega
              have hcv := conv_own hO
              obtain ⟨d0, d1, d2, f0, f1, f2, g0, g1, g2, hKf⟩ := unq_ret (wr := wr) true (0) (ba acc) HP.out kA hb hP
              clear hO HU
              go_wp2
              refine bodyPost_ret (v := .agg #[.bool true, .int .i64 (0), .string (ba acc)]) (by simp [results, Tryd.results10, go_sem, g0, g1, g2]) rfl ?_
              exact ⟨by rw [HE.out, HR.out]; rfl, hKf⟩
            · have HR : Hid (qRef s = .error q) := (by show _ = _; rw [← HU.out]; simp only [unqF, HB.out, c34, if_true, HQq.out, if_neg he])
              have zq : (q : Int) < (s.size : Int) := by omega
              obtain ⟨d0, d1, d2, f0, f1, f2, g0, g1, g2, hKf⟩ := unq_ret (wr := wr) false ((q : Int)) ⟨#[]⟩ HP.out kA hb hP
              clear hO HU
              go_wp2
              refine bodyPost_ret (v := .agg #[.bool false, .int .i64 ((q : Int)), .string ⟨#[]⟩]) (by simp [results, Tryd.results10, go_sem, g0, g1, g2]) rfl ?_
              exact ⟨by rw [HE.out, HR.out]; rfl, hKf⟩
          · have z1 : ((s[p].toNat : Int) == 34) = false := by simp; omega
            by_cases cP : s[p].toNat < 32 ∨ 126 < s[p].toNat
            · have HR : Hid (qRef s = .error p) := (by
                show _ = _
                rw [← HU.out]
                have hnq : isQ s[p].toNat = false := by simp [isQ, isP]; omega
                have h92 : ¬ s[p].toNat = 92 := by omega
                simp only [unqF, HB.out, if_neg c34, elQ, if_neg h92, hnq]
                rfl)
              rcases cP with cP | cP
              · have z2 : (s[p].toNat : Int) < 32 := by omega
                clear cP
                obtain ⟨d0, d1, d2, f0, f1, f2, g0, g1, g2, hKf⟩ := unq_ret (wr := wr) false ((p : Int)) ⟨#[]⟩ HP.out kA hb hP
                clear hO HU
                go_wp2
                refine bodyPost_ret (v := .agg #[.bool false, .int .i64 ((p : Int)), .string ⟨#[]⟩]) (by simp [results, Tryd.results10, go_sem, g0, g1, g2]) rfl ?_
                exact ⟨by rw [HE.out, HR.out]; rfl, hKf⟩
              · have z2 : ¬ (s[p].toNat : Int) < 32 := by omega
                have z3 : (126 : Int) < (s[p].toNat : Int) := by omega
                clear cP
                obtain ⟨d0, d1, d2, f0, f1, f2, g0, g1, g2, hKf⟩ := unq_ret (wr := wr) false ((p : Int)) ⟨#[]⟩ HP.out kA hb hP
                clear hO HU
                go_wp2
                refine bodyPost_ret (v := .agg #[.bool false, .int .i64 ((p : Int)), .string ⟨#[]⟩]) (by simp [results, Tryd.results10, go_sem, g0, g1, g2]) rfl ?_
                exact ⟨by rw [HE.out, HR.out]; rfl, hKf⟩
            · have z2 : ¬ (s[p].toNat : Int) < 32 := by omega
              have z3 : ¬ (126 : Int) < (s[p].toNat : Int) := by omega
              by_cases c92 : s[p].toNat = 92
              · have z4 : ((s[p].toNat : Int) != 92) = false := by rw [c92]; rfl
                have HEq : Hid (elQ s p = escQ s q) := (by show _ = _; simp only [elQ, HB.out, c92, if_true, HQq.out])
                go_upto_region 18 with fail
                by_cases he : q = s.size
                · have zq : ((q : Int) == (s.size : Int)) = true := by rw [beq_iff_eq]; omega
                  have HR : Hid (qRef s = .error q) := (by
                    show _ = _
                    rw [← HU.out]
                    have hbo : bt s q = 256 := bt_out (by omega)
                    have hes : escQ s q = .error q := by simp [escQ, hbo]
                    simp only [unqF, HB.out, if_neg c34, HEq.out, hes])
                  clear c34 cP c92
                  rw [he] at HR
                  obtain ⟨d0, d1, d2, f0, f1, f2, g0, g1, g2, hKf⟩ := unq_ret (wr := wr) false ((s.size : Int)) ⟨#[]⟩ HP.out kA hb hP
                  clear hO HU
                  go_wp2
                  refine bodyPost_ret (v := .agg #[.bool false, .int .i64 ((s.size : Int)), .string ⟨#[]⟩]) (by simp [results, Tryd.results10, go_sem, g0, g1, g2]) rfl ?_
                  exact ⟨by rw [HE.out, HR.out]; rfl, hKf⟩
                · have zq : ((q : Int) == (s.size : Int)) = false := by rw [beq_eq_false_iff_ne]; omega
                  have hql : q < s.size := by omega
                  have hqz : (q : Int) < (s.size : Int) := by omega
                  have HC : Hid (bt s q = s[q].toNat) := bt_in hql
                  have hc256 : s[q].toNat < 256 := s[q].toNat_lt
                  obtain ⟨q1, hq1⟩ : ∃ q1, q + 1 = q1 := ⟨_, rfl⟩
                  have HQ1 : Hid (q + 1 = q1) := hq1
                  have eq2 : (q : Int) + 1 = (q1 : Int) := by omega
                  have hq1s : q1 ≤ s.size := by omega
                  have hq1p : q < q1 := by omega
                  clear hq1
                  have HEl : Hid (∀ b r, escQ s q = .ok (b, r) → unqF s f r (acc ++ [UInt8.ofNat b]) = qRef s) := by
                    intro b r hes
                    rw [← HU.out]
                    simp only [unqF, HB.out, if_neg c34, HEq.out, hes]
                  have HEe : Hid (∀ x, escQ s q = .error x → qRef s = .error x) := by
                    intro x hes
                    rw [← HU.out]
                    simp only [unqF, HB.out, if_neg c34, HEq.out, hes]
                  clear HEq cP
                  go_upto_region 22 with fail
                  by_cases c1 : s[q].toNat = 110
                  · have y1 : ((s[q].toNat : Int) == 110) = true := by rw [c1]; rfl
                    have HU2 : Hid (unqF s f q1 (acc ++ [UInt8.ofNat 10]) = qRef s) := HEl.out 10 q1 (by simp [escQ, HC.out, c1, HQ1.out])
                    obtain ⟨v2, w5, hrun0, ho5, hb5⟩ := app_run wr w2.heap.size 22 _ acc [UInt8.ofNat 10] (by simp only [List.length_cons, List.length_nil]; omega) hb.size hO
                    obtain ⟨ao2, cz, hv2⟩ := own_form ho5
                    subst hv2
                    have hrun : Sem.run Tryd.prog (Builtin.append_ #[22, 22] 22 #[.slice ao acc.length cp, .slice (some ⟨wr.heap.size, 0, none⟩) 1 1]) (wr.alloc (.cells #[.int .u8 10] 5)) = .ok (.slice ao2 (acc ++ [UInt8.ofNat 10]).length cz) w5 := by
                      have ec : (cellsOf [UInt8.ofNat 10]).toArray = #[.int .u8 10] := by simp only [cellsOf, List.map_cons, List.map_nil]; rfl
                      rw [ec] at hrun0
                      exact hrun0
                    have HF : Hid (Ob w5 w2.heap.size (.slice ao2 (acc ++ [UInt8.ofNat 10]).length cz) (acc ++ [UInt8.ofNat 10]) ∧ Below w2.heap.size w2 w5 ∧ (acc ++ [UInt8.ofNat 10]).length ≤ q1) := ⟨ho5, hb.trans hb5, by rw [List.length_append]; simp only [List.length_cons, List.length_nil]; omega⟩
                    clear hrun0 ho5 hb5 hO HU
                    generalize acc ++ [UInt8.ofNat 10] = acc2 at *
                    generalize acc.length = nA at *
                    clear c34 c92 c1 HEl HEe
                    go_wp2_with (at_builtin; refine wpList_append_run rfl _ _ _ _ rfl rfl _ _ _ _ rfl rfl hrun ?_)
                    go_roundg f
                    case measure => omega
                    case rel => exact ⟨q1, acc2, by first | rfl | (exact congrArg (Value.int .i64) (by omega)), HF.out.1, HF.out.2.1, by omega, by omega, by omega, HF.out.2.2, HU2⟩
                  · have y1 : ((s[q].toNat : Int) == 110) = false := by simp; omega
                    by_cases c2 : s[q].toNat = 116
                    · have y2 : ((s[q].toNat : Int) == 116) = true := by rw [c2]; rfl
                      have HU2 : Hid (unqF s f q1 (acc ++ [UInt8.ofNat 9]) = qRef s) := HEl.out 9 q1 (by simp [escQ, HC.out, c2, HQ1.out])
                      obtain ⟨v2, w5, hrun0, ho5, hb5⟩ := app_run wr w2.heap.size 22 _ acc [UInt8.ofNat 9] (by simp only [List.length_cons, List.length_nil]; omega) hb.size hO
                      obtain ⟨ao2, cz, hv2⟩ := own_form ho5
                      subst hv2
                      have hrun : Sem.run Tryd.prog (Builtin.append_ #[22, 22] 22 #[.slice ao acc.length cp, .slice (some ⟨wr.heap.size, 0, none⟩) 1 1]) (wr.alloc (.cells #[.int .u8 9] 5)) = .ok (.slice ao2 (acc ++ [UInt8.ofNat 9]).length cz) w5 := by
                        have ec : (cellsOf [UInt8.ofNat 9]).toArray = #[.int .u8 9] := by simp only [cellsOf, List.map_cons, List.map_nil]; rfl
                        rw [ec] at hrun0
                        exact hrun0
                      have HF : Hid (Ob w5 w2.heap.size (.slice ao2 (acc ++ [UInt8.ofNat 9]).length cz) (acc ++ [UInt8.ofNat 9]) ∧ Below w2.heap.size w2 w5 ∧ (acc ++ [UInt8.ofNat 9]).length ≤ q1) := ⟨ho5, hb.trans hb5, by rw [List.length_append]; simp only [List.length_cons, List.length_nil]; omega⟩
                      clear hrun0 ho5 hb5 hO HU
                      generalize acc ++ [UInt8.ofNat 9] = acc2 at *
                      generalize acc.length = nA at *
                      clear c34 c92 c1 c2 HEl HEe
                      go_wp2_with (at_builtin; refine wpList_append_run rfl _ _ _ _ rfl rfl _ _ _ _ rfl rfl hrun ?_)
                      go_roundg f
                      case measure => omega
                      case rel => exact ⟨q1, acc2, by first | rfl | (exact congrArg (Value.int .i64) (by omega)), HF.out.1, HF.out.2.1, by omega, by omega, by omega, HF.out.2.2, HU2⟩
                    · have y2 : ((s[q].toNat : Int) == 116) = false := by simp; omega
                      by_cases c3 : s[q].toNat = 34 ∨ s[q].toNat = 92
                      · have HU2 : Hid (unqF s f q1 (acc ++ [UInt8.ofNat s[q].toNat]) = qRef s) := HEl.out s[q].toNat q1 (by
                          unfold escQ
                          rw [HC.out, if_neg (by omega), if_neg c1, if_neg c2, if_pos c3, HQ1.out])
                        obtain ⟨v2, w5, hrun0, ho5, hb5⟩ := app_run wr w2.heap.size 22 _ acc [UInt8.ofNat s[q].toNat] (by simp only [List.length_cons, List.length_nil]; omega) hb.size hO
                        obtain ⟨ao2, cz, hv2⟩ := own_form ho5
                        subst hv2
                        have hrun : Sem.run Tryd.prog (Builtin.append_ #[22, 22] 22 #[.slice ao acc.length cp, .slice (some ⟨wr.heap.size, 0, none⟩) 1 1]) (wr.alloc (.cells #[.int .u8 (s[q].toNat : Int)] 5)) = .ok (.slice ao2 (acc ++ [UInt8.ofNat s[q].toNat]).length cz) w5 := by
                          have ec : (cellsOf [UInt8.ofNat s[q].toNat]).toArray = #[.int .u8 (s[q].toNat : Int)] := by simp only [cellsOf, List.map_cons, List.map_nil]; rw [show ((UInt8.ofNat s[q].toNat).toNat : Int) = (s[q].toNat : Int) by simp]
                          rw [ec] at hrun0
                          exact hrun0
                        have HF : Hid (Ob w5 w2.heap.size (.slice ao2 (acc ++ [UInt8.ofNat s[q].toNat]).length cz) (acc ++ [UInt8.ofNat s[q].toNat]) ∧ Below w2.heap.size w2 w5 ∧ (acc ++ [UInt8.ofNat s[q].toNat]).length ≤ q1) := ⟨ho5, hb.trans hb5, by rw [List.length_append]; simp only [List.length_cons, List.length_nil]; omega⟩
                        clear hrun0 ho5 hb5 hO HU
                        generalize acc ++ [UInt8.ofNat s[q].toNat] = acc2 at *
                        generalize acc.length = nA at *
                        clear c34 c92 c1 c2 HEl HEe
                        rcases c3 with c3 | c3
                        · have y3 : ((s[q].toNat : Int) == 34) = true := by rw [c3]; rfl
                          clear c3
                          go_wp2_with (at_builtin; refine wpList_append_run rfl _ _ _ _ rfl rfl _ _ _ _ rfl rfl hrun ?_)
                          go_roundg f
                          case measure => omega
                          case rel => exact ⟨q1, acc2, by first | rfl | (exact congrArg (Value.int .i64) (by omega)), HF.out.1, HF.out.2.1, by omega, by omega, by omega, HF.out.2.2, HU2⟩
                        · have y3 : ((s[q].toNat : Int) == 34) = false := by rw [c3]; rfl
                          have y4 : ((s[q].toNat : Int) == 92) = true := by rw [c3]; rfl
                          clear c3
                          go_wp2_with (at_builtin; refine wpList_append_run rfl _ _ _ _ rfl rfl _ _ _ _ rfl rfl hrun ?_)
                          go_roundg f
                          case measure => omega
                          case rel => exact ⟨q1, acc2, by first | rfl | (exact congrArg (Value.int .i64) (by omega)), HF.out.1, HF.out.2.1, by omega, by omega, by omega, HF.out.2.2, HU2⟩
                      · have y3 : ((s[q].toNat : Int) == 34) = false := by simp; omega
                        have y4 : ((s[q].toNat : Int) == 92) = false := by simp; omega
                        by_cases c5 : s[q].toNat = 120
                        · have y5 : ((s[q].toNat : Int) == 120) = true := by rw [c5]; rfl
                          obtain ⟨q2, hq2⟩ : ∃ q2, q1 + 1 = q2 := ⟨_, rfl⟩
                          have HQ2 : Hid (q1 + 1 = q2) := hq2
                          have eq3 : (q1 : Int) + 1 = (q2 : Int) := by omega
                          obtain ⟨q3, hq3⟩ : ∃ q3, q2 + 1 = q3 := ⟨_, rfl⟩
                          have HQ3 : Hid (q2 + 1 = q3) := hq3
                          have eq4 : (q2 : Int) + 1 = (q3 : Int) := by omega
                          have hq12 : q1 < q2 := by omega
                          have hq23 : q2 < q3 := by omega
                          clear hq2 hq3
                          have HXq : Hid (escQ s q = numQ s q1) := escQ_x (by rw [HC.out, c5]) HQ1.out
                          go_wp2_with fail
                          refine wp_loop_rounds 3 ?_
                          rw [rounds_succ]
                          go_upto_region 35 with fail
                          by_cases h1e : q1 = s.size
                          · have HR : Hid (qRef s = .error s.size) := HEe.out s.size (by rw [HXq.out, numQ_e0 (by rw [bt_out (by omega)]; decide), h1e])
                            have y6 : ((q1 : Int) == (s.size : Int)) = true := by rw [beq_iff_eq]; omega
                            clear c34 c92 c1 c2 c3 c5 HEl HEe
                            obtain ⟨d0, d1, d2, f0, f1, f2, g0, g1, g2, hKf⟩ := unq_ret (wr := wr) false ((s.size : Int)) ⟨#[]⟩ HP.out kA hb hP
                            clear hO HU
                            go_wp2_with fail
                            refine bodyPost_ret (v := .agg #[.bool false, .int .i64 ((s.size : Int)), .string ⟨#[]⟩]) (by simp [results, Tryd.results10, go_sem, g0, g1, g2]) rfl ?_
                            exact ⟨by rw [HE.out, HR.out]; rfl, hKf⟩
                          · have y6 : ((q1 : Int) == (s.size : Int)) = false := by rw [beq_eq_false_iff_ne]; omega
                            have h1l : q1 < s.size := by omega
                            have h1z : (q1 : Int) < (s.size : Int) := by omega
                            have HD : Hid (bt s q1 = s[q1].toNat) := bt_in h1l
                            cases ha : hexv s[q1].toNat with
                            | none =>
                              have hx1 := fun w => l1hex_none (w := w) ha s[q1].toNat_lt
                              have HR : Hid (qRef s = .error q1) := HEe.out q1 (by rw [HXq.out, numQ_e0 (by rw [HD.out]; exact ha)])
                              clear c34 c92 c1 c2 c3 c5 HEl HEe ha
                              obtain ⟨d0, d1, d2, f0, f1, f2, g0, g1, g2, hKf⟩ := unq_ret (wr := wr) false ((q1 : Int)) ⟨#[]⟩ HP.out kA hb hP
                              clear hO HU
                              go_wp2_with (go_at_call 18; refine (hx1 _).mono ?_; rintro e wx ⟨rfl, hwx⟩; subst wx)
                              refine bodyPost_ret (v := .agg #[.bool false, .int .i64 ((q1 : Int)), .string ⟨#[]⟩]) (by simp [results, Tryd.results10, go_sem, g0, g1, g2]) rfl ?_
                              exact ⟨by rw [HE.out, HR.out]; rfl, hKf⟩
                            | some a =>
                              have hx1 := fun w => l1hex_some (w := w) ha
                              have ha16 := hexv_lt ha
                              go_wp2_with (go_at_call 18; refine (hx1 _).mono ?_; rintro e wx ⟨rfl, hwx⟩; subst wx)
                              rw [rounds_succ]
                              go_upto_region 35 with fail
                              by_cases h2e : q2 = s.size
                              · have HR : Hid (qRef s = .error s.size) := HEe.out s.size (by rw [HXq.out, numQ_e1 (by rw [HD.out]; exact ha) HQ2.out (by rw [bt_out (by omega)]; decide), h2e])
                                have y7 : ((q2 : Int) == (s.size : Int)) = true := by rw [beq_iff_eq]; omega
                                clear c34 c92 c1 c2 c3 c5 HEl HEe ha
                                obtain ⟨d0, d1, d2, f0, f1, f2, g0, g1, g2, hKf⟩ := unq_ret (wr := wr) false ((s.size : Int)) ⟨#[]⟩ HP.out kA hb hP
                                clear hO HU
                                go_wp2_with fail
                                refine bodyPost_ret (v := .agg #[.bool false, .int .i64 ((s.size : Int)), .string ⟨#[]⟩]) (by simp [results, Tryd.results10, go_sem, g0, g1, g2]) rfl ?_
                                exact ⟨by rw [HE.out, HR.out]; rfl, hKf⟩
                              · have y7 : ((q2 : Int) == (s.size : Int)) = false := by rw [beq_eq_false_iff_ne]; omega
                                have h2l : q2 < s.size := by omega
                                have h2z : (q2 : Int) < (s.size : Int) := by omega
                                have HD2 : Hid (bt s q2 = s[q2].toNat) := bt_in h2l
                                cases hb2 : hexv s[q2].toNat with
                                | none =>
                                  have hx2 := fun w => l1hex_none (w := w) hb2 s[q2].toNat_lt
                                  have HR : Hid (qRef s = .error q2) := HEe.out q2 (by rw [HXq.out, numQ_e1 (by rw [HD.out]; exact ha) HQ2.out (by rw [HD2.out]; exact hb2)])
                                  clear c34 c92 c1 c2 c3 c5 HEl HEe ha hb2
                                  obtain ⟨d0, d1, d2, f0, f1, f2, g0, g1, g2, hKf⟩ := unq_ret (wr := wr) false ((q2 : Int)) ⟨#[]⟩ HP.out kA hb hP
                                  clear hO HU
                                  go_wp2_with (go_at_call 18; refine (hx2 _).mono ?_; rintro e wx ⟨rfl, hwx⟩; subst wx)
                                  refine bodyPost_ret (v := .agg #[.bool false, .int .i64 ((q2 : Int)), .string ⟨#[]⟩]) (by simp [results, Tryd.results10, go_sem, g0, g1, g2]) rfl ?_
                                  exact ⟨by rw [HE.out, HR.out]; rfl, hKf⟩
                                | some b =>
                                  have hx2 := fun w => l1hex_some (w := w) hb2
                                  have hb16 := hexv_lt hb2
                                  have HU2 : Hid (unqF s f q3 (acc ++ [UInt8.ofNat (a * 16 + b)]) = qRef s) := HEl.out (a * 16 + b) q3 (by rw [HXq.out, numQ_ok (by rw [HD.out]; exact ha) HQ2.out (by rw [HD2.out]; exact hb2) HQ3.out])
                                  obtain ⟨v2, w5, hrun0, ho5, hb5⟩ := app_run wr w2.heap.size 22 _ acc [UInt8.ofNat (a * 16 + b)] (by simp only [List.length_cons, List.length_nil]; omega) hb.size hO
                                  obtain ⟨ao2, cz, hv2⟩ := own_form ho5
                                  subst hv2
                                  have hrun : Sem.run Tryd.prog (Builtin.append_ #[22, 22] 22 #[.slice ao acc.length cp, .slice (some ⟨wr.heap.size, 0, none⟩) 1 1]) (wr.alloc (.cells #[.int .u8 ((a : Int) * 16 + (b : Int))] 5)) = .ok (.slice ao2 (acc ++ [UInt8.ofNat (a * 16 + b)]).length cz) w5 := by
                                    have ec : (cellsOf [UInt8.ofNat (a * 16 + b)]).toArray = #[.int .u8 ((a : Int) * 16 + (b : Int))] := by simp only [cellsOf, List.map_cons, List.map_nil]; rw [show ((UInt8.ofNat (a * 16 + b)).toNat : Int) = (a : Int) * 16 + (b : Int) by simp; omega]
                                    rw [ec] at hrun0
                                    exact hrun0
                                  have HF : Hid (Ob w5 w2.heap.size (.slice ao2 (acc ++ [UInt8.ofNat (a * 16 + b)]).length cz) (acc ++ [UInt8.ofNat (a * 16 + b)]) ∧ Below w2.heap.size w2 w5 ∧ (acc ++ [UInt8.ofNat (a * 16 + b)]).length ≤ q3) := ⟨ho5, hb.trans hb5, by rw [List.length_append]; simp only [List.length_cons, List.length_nil]; omega⟩
                                  clear hrun0 ho5 hb5 hO HU
                                  generalize acc ++ [UInt8.ofNat (a * 16 + b)] = acc2 at *
                                  generalize acc.length = nA at *
                                  have hw8 : IntKind.u8.wrap ((a : Int) * 16 + (b : Int)) = (a : Int) * 16 + (b : Int) := IntWalk.u8_in _ (by omega)
                                  clear c34 c92 c1 c2 c3 c5 HEl HEe ha hb2
                                  go_wp2_with (go_at_call 18; refine (hx2 _).mono ?_; rintro e wx ⟨rfl, hwx⟩; subst wx)
                                  rw [rounds_succ]
                                  go_wp2_with (at_builtin; refine wpList_append_run rfl _ _ _ _ rfl rfl _ _ _ _ rfl rfl hrun ?_)
                                  go_roundg f
                                  case measure => omega
                                  case rel => exact ⟨q3, acc2, by first | rfl | (exact congrArg (Value.int .i64) (by omega)), HF.out.1, HF.out.2.1, by omega, by omega, by omega, HF.out.2.2, HU2⟩
                        · have y5 : ((s[q].toNat : Int) == 120) = false := by simp; omega
                          have HR : Hid (qRef s = .error q) := HEe.out q (by
                            unfold escQ
                            rw [HC.out, if_neg c5, if_neg c1, if_neg c2, if_neg c3])
                          clear c34 c92 c1 c2 c3 c5 HEl HEe
                          obtain ⟨d0, d1, d2, f0, f1, f2, g0, g1, g2, hKf⟩ := unq_ret (wr := wr) false ((q : Int)) ⟨#[]⟩ HP.out kA hb hP
                          clear hO HU
                          go_wp2
                          refine bodyPost_ret (v := .agg #[.bool false, .int .i64 ((q : Int)), .string ⟨#[]⟩]) (by simp [results, Tryd.results10, go_sem, g0, g1, g2]) rfl ?_
                          exact ⟨by rw [HE.out, HR.out]; rfl, hKf⟩
              · have z4 : ((s[p].toNat : Int) != 92) = true := by simp; omega
                have HU2 : Hid (unqF s f q (acc ++ [UInt8.ofNat s[p].toNat]) = qRef s) := (by
                  show _ = _
                  rw [← HU.out]
                  have hnq : isQ s[p].toNat = true := by simp [isQ, isP]; omega
                  simp only [unqF, HB.out, if_neg c34, elQ, if_neg c92, hnq, if_true, HQq.out])
                obtain ⟨v2, w5, hrun0, ho5, hb5⟩ := app_run wr w2.heap.size 22 _ acc [UInt8.ofNat s[p].toNat] (by simp only [List.length_cons, List.length_nil]; omega) hb.size hO
                obtain ⟨ao2, cz, hv2⟩ := own_form ho5
                subst hv2
                have hrun : Sem.run Tryd.prog (Builtin.append_ #[22, 22] 22 #[.slice ao acc.length cp, .slice (some ⟨wr.heap.size, 0, none⟩) 1 1]) (wr.alloc (.cells #[.int .u8 (s[p].toNat : Int)] 5)) = .ok (.slice ao2 (acc ++ [UInt8.ofNat s[p].toNat]).length cz) w5 := by
                  have ec : (cellsOf [UInt8.ofNat s[p].toNat]).toArray = #[.int .u8 (s[p].toNat : Int)] := by simp only [cellsOf, List.map_cons, List.map_nil]; rw [show ((UInt8.ofNat s[p].toNat).toNat : Int) = (s[p].toNat : Int) by simp]
                  rw [ec] at hrun0
                  exact hrun0
                have HF : Hid (Ob w5 w2.heap.size (.slice ao2 (acc ++ [UInt8.ofNat s[p].toNat]).length cz) (acc ++ [UInt8.ofNat s[p].toNat]) ∧ Below w2.heap.size w2 w5 ∧ (acc ++ [UInt8.ofNat s[p].toNat]).length ≤ q) := ⟨ho5, hb.trans hb5, by rw [List.length_append]; simp only [List.length_cons, List.length_nil]; omega⟩
                clear hrun0 ho5 hb5 hO HU
                generalize acc ++ [UInt8.ofNat s[p].toNat] = acc2 at *
                generalize acc.length = nA at *
                clear c34 cP c92
                go_wp2_with (at_builtin; refine wpList_append_run rfl _ _ _ _ rfl rfl _ _ _ _ rfl rfl hrun ?_)
                go_roundg f
                case measure => omega
                case rel => exact ⟨q, acc2, by first | rfl | (exact congrArg (Value.int .i64) (by omega)), HF.out.1, HF.out.2.1, by omega, by omega, by omega, HF.out.2.2, HU2⟩
        · have hpz : ¬ (p : Int) < (s.size : Int) := by omega
          have HR : Hid (qRef s = .error p) := (by
            show _ = _
            rw [← HU.out]
            simp only [unqF, elQ, bt_out hlt]
            rfl)
          obtain ⟨d0, d1, d2, f0, f1, f2, g0, g1, g2, hKf⟩ := unq_ret (wr := wr) false ((p : Int)) ⟨#[]⟩ HP.out kA hb hP
          clear hO HU
          go_wp2
          refine bodyPost_ret (v := .agg #[.bool false, .int .i64 ((p : Int)), .string ⟨#[]⟩]) (by simp [results, Tryd.results10, go_sem, g0, g1, g2]) rfl ?_
          exact ⟨by rw [HE.out, HR.out]; rfl, hKf⟩
    · have HQ : Hid (qRef s = .error 0) := (by show _ = _; rw [qRef, if_neg hx])
      have hb : Below w2.heap.size w2 w2 := Below.refl _ _
      by_cases h0 : s.size = 0
      · have z0 : ((s.size : Int) == 0) = true := by rw [beq_iff_eq]; omega
        obtain ⟨d0, d1, d2, f0, f1, f2, g0, g1, g2, hKf⟩ := unq_ret (wr := w2) false 0 ⟨#[]⟩ HP.out kA hb hP
        clear hx
        go_wp2
        refine bodyPost_ret (v := .agg #[.bool false, .int .i64 0, .string ⟨#[]⟩]) (by simp [results, Tryd.results10, go_sem, g0, g1, g2]) rfl ?_
        exact ⟨by rw [HE.out, HQ.out]; rfl, hKf⟩
      · have hpl : 0 < s.size := by omega
        have z0 : ((s.size : Int) == 0) = false := by rw [beq_eq_false_iff_ne]; omega
        have hpz : (0 : Int) < (s.size : Int) := by omega
        have hb0 : ¬ s[0].toNat = 34 := by rw [← bt_in hpl]; exact hx
        have z1 : ((s[0].toNat : Int) != 34) = true := by simp; omega
        obtain ⟨d0, d1, d2, f0, f1, f2, g0, g1, g2, hKf⟩ := unq_ret (wr := w2) false 0 ⟨#[]⟩ HP.out kA hb hP
        clear hx hb0
        go_wp2
        refine bodyPost_ret (v := .agg #[.bool false, .int .i64 0, .string ⟨#[]⟩]) (by simp [results, Tryd.results10, go_sem, g0, g1, g2]) rfl ?_
        exact ⟨by rw [HE.out, HQ.out]; rfl, hKf⟩

end Go.Proofs.YtmlgmhnplicflaaDoor.Quo
