import Derived.Test.YtmlgmhnplicflaaDoorG
import Derived.Deep.Cut
import Derived.Deep.CutRange

/-
  Quoting: an element; the whole.
-/
namespace Go.Proofs.YtmlgmhnplicflaaDoor.Quo
open Go.RowKit
set_option linter.unusedVariables false
set_option maxRecDepth 100000

theorem Sg.keeps {w w' : World} {E : Nat → Prop} (h : Sg w) (k : Keeps E w w') (hE : ¬ E 1) : Sg w' := by
  have e := k.block 1 h.lt hE
  refine ⟨Nat.lt_of_lt_of_le h.lt k.size, fun i hi => ?_⟩
  have h2 := h.cell i hi
  simp only [World.cell?] at h2 ⊢
  rw [e]
  exact h2
theorem keeps_below {E : Nat → Prop} {w wr w1 : World} (h : Keeps E w wr) (b : Below w.heap.size wr w1) : Keeps E w w1 :=
  ⟨b.os.trans h.os, b.tape.trans h.tape, b.output.trans h.output, Nat.le_trans h.size b.size, fun k hk he => (b.block k hk).trans (h.block k hk he)⟩
theorem RdP.form {R : Nat} {s : ByteArray} {r : Except Nat (Nat × Nat)} {w w' : World} {e : Ending} (h : RdP R s r w e w') : ∃ z b, e = .returned (.tuple #[.int .u8 z, .bool b]) := by
  obtain ⟨r1, r2, r3⟩ := h
  cases hq : r with
  | error x => obtain ⟨⟨z, h⟩, -⟩ := r2 x hq; exact ⟨z, false, h⟩
  | ok bq => obtain ⟨b, q⟩ := bq; obtain ⟨h, -⟩ := r1 b q hq; exact ⟨_, true, h⟩

set_option maxHeartbeats 1000000 in
theorem element_read {w : World} {R : Nat} {s : ByteArray} {p : Nat} (hS : Sg w) (hSR : R ≠ 1) (h : Cu w R s p) (hs : s.size ≤ 2000) (hp : p ≤ s.size) :
    Calls Tryd.prog 27 #[.pointer (some ⟨R, 0, none⟩)] w (RdP R s (elQ s p) w) := by
  by_cases hx : bt s p = 92
  · have hcall := take_yes h hs hp (by omega) hx
    have hpl := bt_lt hx (by omega)
    have HE : Hid (elQ s p = escQ s (p + 1)) := (by show _ = _; simp only [elQ, if_pos hx])
    have HN : Hid (∀ w2, Cu w2 R s ((p + 1 : Nat) : Int) → Keeps (fun k => k = R) w w2 → Calls Tryd.prog 37 #[.pointer (some ⟨R, 0, none⟩)] w2 (fun e w' => ∃ z b, e = .returned (.tuple #[.int .u8 z, .bool b]) ∧ Hid (RdP R s (elQ s p) w (.returned (.tuple #[.int .u8 z, .bool b])) w'))) := by
      intro w2 h2 hk
      refine (escaped_any (hS.keeps hk (Ne.symm hSR)) hSR h2 hs (by omega)).mono ?_
      intro e w' hP
      obtain ⟨z, b, rfl⟩ := hP.form
      refine ⟨z, b, rfl, ?_⟩
      show RdP _ _ _ _ _ _
      rw [HE.out]
      exact ⟨hP.1, hP.2.1, hk.trans hP.2.2⟩
    clear h hx hS
    go_enter Tryd.func27, Tryd.ntmps27
    go_wp2_with (first
      | (go_at_call 26; refine hcall.mono ?_; rintro e w2 ⟨rfl, hR2, hk2⟩; have hcall2 := HN.out _ hR2 hk2)
      | (go_at_call 37; refine hcall2.mono ?_; rintro e w3 ⟨z, b, rfl, HF⟩))
    go_ret2
    exact HF.out
  · have hcall := take_no h hs hp (by omega) hx
    have HR : Hid (Cu w R s p) := h
    by_cases hlt : p < s.size
    · have HB : Hid (bt s p = s[p].toNat) := bt_in hlt
      have hpz : (p : Int) < (s.size : Int) := by omega
      cases hq : isQ (bt s p) with
      | true =>
        have HE : Hid (elQ s p = .ok (bt s p, p + 1)) := (by show _ = _; simp only [elQ, if_neg hx, hq]; rfl)
        rw [HB.out] at hq
        have hpl : ∀ w, Calls Tryd.prog 24 #[.int .u8 (s[p].toNat : Int)] w fun e w' => e = .returned (.bool true) ∧ ∃ n, w' = w.drewN n := fun w => (isPlain_any s[p].toNat w).mono (fun e w' h => ⟨by rw [h.1, hq], 0, h.2⟩)
        clear h hx hq hS
        go_enter Tryd.func27, Tryd.ntmps27
        go_wp2_with (first
          | (go_at_call 26; refine hcall.mono ?_; rintro e w2 ⟨rfl, n, hn⟩; have hR2 : Cu w2 R s p := (by rw [hn]; exact HR.out.drewN n); have hk2 : Keeps (fun k => k = R) w w2 := (by rw [hn]; exact (Keeps.refl _ _).drewN _); clear hn; have c0 := hR2.c0; have c1 := hR2.c1))
        go_quiet (first | (go_at_call 28; exact Calls.quiet_of (ended_no (hR2.drewN _) hlt)) | (go_at_call 24; exact Calls.quiet_of (hpl _)))
        go_wp2_with (first
          | (go_at_call 38; refine (next_yes (hR2.drewN _) hs hlt).mono ?_; rintro e w3 ⟨rfl, hR3, hk3⟩))
        go_ret2
        exact ⟨(fun b q e => by rw [HE.out] at e; cases e; exact ⟨rfl, hR3⟩), (fun x e => by rw [HE.out] at e; cases e), (hk2.drewN _).trans hk3⟩
      | false =>
        have HE : Hid (elQ s p = .error p) := (by show _ = _; simp only [elQ, if_neg hx, hq]; rfl)
        rw [HB.out] at hq
        have hpl : ∀ w, Calls Tryd.prog 24 #[.int .u8 (s[p].toNat : Int)] w fun e w' => e = .returned (.bool false) ∧ ∃ n, w' = w.drewN n := fun w => (isPlain_any s[p].toNat w).mono (fun e w' h => ⟨by rw [h.1, hq], 0, h.2⟩)
        clear h hx hq hS
        go_enter Tryd.func27, Tryd.ntmps27
        go_wp2_with (first
          | (go_at_call 26; refine hcall.mono ?_; rintro e w2 ⟨rfl, n, hn⟩; have hR2 : Cu w2 R s p := (by rw [hn]; exact HR.out.drewN n); have hk2 : Keeps (fun k => k = R) w w2 := (by rw [hn]; exact (Keeps.refl _ _).drewN _); clear hn; have c0 := hR2.c0; have c1 := hR2.c1))
        go_quiet (first | (go_at_call 28; exact Calls.quiet_of (ended_no (hR2.drewN _) hlt)) | (go_at_call 24; exact Calls.quiet_of (hpl _)))
        go_wp2
        go_ret2
        exact ⟨(fun b q e => by rw [HE.out] at e; cases e), (fun x e => by rw [HE.out] at e; cases e; exact ⟨⟨_, rfl⟩, hR2.drewN _⟩), hk2.drewN _⟩
    · have hpe : p = s.size := by omega
      have hb : bt s p = 256 := bt_out hlt
      have HE : Hid (elQ s p = .error p) := (by show _ = _; simp only [elQ, hb]; rfl)
      clear h hx hS hb
      go_enter Tryd.func27, Tryd.ntmps27
      go_wp2_with (first
        | (go_at_call 26; refine hcall.mono ?_; rintro e w2 ⟨rfl, n, hn⟩; have hR2 : Cu w2 R s p := (by rw [hn]; exact HR.out.drewN n); have hk2 : Keeps (fun k => k = R) w w2 := (by rw [hn]; exact (Keeps.refl _ _).drewN _); clear hn; have c0 := hR2.c0; have c1 := hR2.c1))
      go_quiet ((go_at_call 28; exact Calls.quiet_of (ended_yes (hR2.drewN _) hpe)))
      go_wp2
      go_ret2
      exact ⟨(fun b q e => by rw [HE.out] at e; cases e), (fun x e => by rw [HE.out] at e; cases e; exact ⟨⟨_, rfl⟩, hR2.drewN _⟩), hk2.drewN _⟩

/-- What the whole is read as. -/
def qRef (s : ByteArray) : Except Nat (List UInt8) := if bt s 0 = 34 then unqF s s.size 1 [] else .error 0
def QdP (R : Nat) (s : ByteArray) (w : World) (e : Ending) (w' : World) : Prop :=
  (∀ l, qRef s = .ok l → ∃ ao n c, e = .returned (.tuple #[.slice ao n c, .bool true]) ∧ Ob w' w.heap.size (.slice ao n c) l ∧ l.length ≤ s.size) ∧ (∀ x, qRef s = .error x → (∃ ao n c, e = .returned (.tuple #[.slice ao n c, .bool false])) ∧ Cu w' R s (x : Int)) ∧ Keeps (fun k => k = R) w w'

set_option maxHeartbeats 1000000 in
theorem quoted_any {w : World} {R : Nat} {s : ByteArray} (hS : Sg w) (hSR : R ≠ 1) (h : Cu w R s (0 : Nat)) (hs : s.size ≤ 1300) :
    Calls Tryd.prog 17 #[.pointer (some ⟨R, 0, none⟩)] w (QdP R s w) := by
  have hRl := h.lt
  by_cases hx : bt s 0 = 34
  · have hcall := take_yes h (by omega) (Nat.zero_le _) (by omega) hx
    have hpl := bt_lt hx (by omega)
    have HQ : Hid (qRef s = unqF s s.size 1 []) := (by show _ = _; rw [qRef, if_pos hx])
    have HS : Hid (Sg w) := hS
    clear h hx hS
    go_enter Tryd.func17, Tryd.ntmps17
    go_wp2_with (first
      | (go_at_call 26; refine hcall.mono ?_; clear hcall; rintro e w2 ⟨rfl, hR2, hk2⟩))
    go_loopg [4] s.size (fun gl o wr => ∃ (p : Nat) (acc : List UInt8), Cu wr R s (p : Int) ∧ Ob wr w.heap.size o acc ∧ Keeps (fun k => k = R) w wr ∧ p ≤ s.size ∧ s.size + 1 ≤ gl + p ∧ acc.length ≤ p ∧ Hid (unqF s gl p acc = qRef s))
    case atStart => exact ⟨1, [], hR2, World.ownsRow_nil _ _ _ _, hk2, by omega, by omega, by simp, HQ.out.symm⟩
    case round =>
      obtain ⟨p, acc, hR, hO, hK, hp, hfu, hal, HU⟩ := hrel
      obtain ⟨f, rfl⟩ : ∃ f, gk = f + 1 := ⟨gk - 1, by omega⟩
      have hwr := hK.size
      obtain ⟨ao, cp, hof⟩ := own_form hO
      subst hof
      by_cases hx : bt s p = 34
      · have hc := take_yes hR (by omega) hp (by omega) hx
        have hpl := bt_lt hx (by omega)
        have HN : Hid (∀ w3, Cu w3 R s ((p + 1 : Nat) : Int) → Keeps (fun k => k = R) wr w3 → Calls Tryd.prog 28 #[.pointer (some ⟨R, 0, none⟩)] w3 (fun e w' => e = .returned (.bool (decide (p + 1 = s.size))) ∧ Hid (QdP R s w (.returned (.tuple #[.slice ao acc.length cp, .bool (decide (p + 1 = s.size))])) w'))) := by
          intro w3 h3 hk3
          refine (ended_any h3).mono ?_
          rintro e w' ⟨rfl, n, rfl⟩
          have hO3 : Ob (w3.drewN n) w.heap.size (.slice ao acc.length cp) acc := ownsRow_keeps hO (hk3.drewN n) (fun k hk e => by have := (hO.lt k hk).1; omega)
          have hu := HU.out
          simp only [unqF, if_pos hx] at hu
          refine ⟨rfl, ?_, ?_, hK.trans (hk3.drewN n)⟩
          · intro l hl
            rw [← hu] at hl
            by_cases he : p + 1 = s.size
            · rw [if_pos he] at hl
              cases hl
              exact ⟨ao, acc.length, cp, by simp [he], hO3, by omega⟩
            · rw [if_neg he] at hl
              cases hl
          · intro x hl
            rw [← hu] at hl
            by_cases he : p + 1 = s.size
            · rw [if_pos he] at hl
              cases hl
            · rw [if_neg he] at hl
              cases hl
              exact ⟨⟨ao, acc.length, cp, by simp [he]⟩, h3.drewN n⟩
        generalize decide (p + 1 = s.size) = bb at HN
        clear hR hO hx HU
        generalize acc.length = nA at *
        go_wp2_with (first
          | (go_at_call 26; refine hc.mono ?_; clear hc; rintro e w3 ⟨rfl, hR3, hk3⟩; have hce := HN.out _ hR3 hk3)
          | (go_at_call 28; refine hce.mono ?_; rintro e w4 ⟨rfl, HF⟩))
        go_ret2
        exact HF.out
      · have hc := take_no hR (by omega) hp (by omega) hx
        cases hq : elQ s p with
        | error x =>
          have HE : Hid (qRef s = .error x) := (by show _ = _; rw [← HU.out]; simp only [unqF, if_neg hx, hq])
          have HN : Hid (∀ n, Calls Tryd.prog 27 #[.pointer (some ⟨R, 0, none⟩)] (wr.drewN n) (fun e w' => ∃ z, e = .returned (.tuple #[.int .u8 z, .bool false]) ∧ Hid (Cu w' R s (x : Int) ∧ Keeps (fun k => k = R) w w'))) := by
            intro n
            refine (element_read ((HS.out.keeps hK (Ne.symm hSR)).keeps ((Keeps.refl (fun k => k = R) wr).drewN n) (Ne.symm hSR)) hSR (hR.drewN n) (by omega) hp).mono ?_
            rintro e w' ⟨r1, r2, r3⟩
            obtain ⟨⟨z, rfl⟩, hcu⟩ := r2 x hq
            exact ⟨z, rfl, hcu, hK.trans (((Keeps.refl (fun k => k = R) wr).drewN n).trans r3)⟩
          clear hR hO hx HU hq
          generalize acc.length = nA at *
          go_wp2_with (first
            | (go_at_call 26; refine hc.mono ?_; clear hc; rintro e w3 ⟨rfl, n, rfl⟩; have hce := HN.out n)
            | (go_at_call 27; refine hce.mono ?_; rintro e w4 ⟨z, rfl, HF⟩))
          go_ret2
          exact ⟨(fun l e => by rw [HE.out] at e; cases e), (fun x e => by rw [HE.out] at e; cases e; exact ⟨⟨_, _, _, rfl⟩, HF.out.1⟩), HF.out.2⟩
        | ok bq =>
          obtain ⟨b, q⟩ := bq
          obtain ⟨hb256, hpq, hqs⟩ := elQ_ok hq
          have HU2 : Hid (unqF s f q (acc ++ [UInt8.ofNat b]) = qRef s) := (by show _ = _; rw [← HU.out]; simp only [unqF, if_neg hx, hq])
          have HN : Hid (∀ n, Calls Tryd.prog 27 #[.pointer (some ⟨R, 0, none⟩)] (wr.drewN n) (fun e w' => e = .returned (.tuple #[.int .u8 (b : Int), .bool true]) ∧ ∃ ao2 n2 c2 w5, Sem.run Tryd.prog (Builtin.append_ #[22, 22] 22 #[.slice ao acc.length cp, .slice (some ⟨w'.heap.size, 0, none⟩) 1 1]) (w'.alloc (.cells #[.int .u8 (b : Int)] 5)) = .ok (.slice ao2 n2 c2) w5 ∧ Hid (Cu w5 R s (q : Int) ∧ Ob w5 w.heap.size (.slice ao2 n2 c2) (acc ++ [UInt8.ofNat b]) ∧ Keeps (fun k => k = R) w w5))) := by
            intro n
            refine (element_read ((HS.out.keeps hK (Ne.symm hSR)).keeps ((Keeps.refl (fun k => k = R) wr).drewN n) (Ne.symm hSR)) hSR (hR.drewN n) (by omega) hp).mono ?_
            rintro e w' ⟨r1, r2, r3⟩
            obtain ⟨rfl, hcu⟩ := r1 b q hq
            have hkr : Keeps (fun k => k = R) wr w' := ((Keeps.refl (fun k => k = R) wr).drewN n).trans r3
            have hO4 : Ob w' w.heap.size (.slice ao acc.length cp) acc := ownsRow_keeps hO hkr (fun k hk e => by have := (hO.lt k hk).1; omega)
            have hkw := hK.trans hkr
            obtain ⟨v2, w5, hrun, ho5, hb5⟩ := app_run w' w.heap.size 22 _ acc [UInt8.ofNat b] (by simp only [List.length_cons, List.length_nil]; omega) hkw.size hO4
            obtain ⟨ao2, c2, rfl⟩ := own_form ho5
            have hen : ((UInt8.ofNat b).toNat : Int) = (b : Int) := by simp; omega
            have ec : (cellsOf [UInt8.ofNat b]).toArray = #[.int .u8 (b : Int)] := by simp only [cellsOf, List.map_cons, List.map_nil, hen]
            rw [ec] at hrun
            refine ⟨rfl, ao2, _, c2, w5, hrun, ?_, ho5, keeps_below hkw hb5⟩
            unfold Cu at hcu ⊢
            rw [hb5.block R hRl]
            exact hcu
          have hal2 : (acc ++ [UInt8.ofNat b]).length ≤ q := by rw [List.length_append]; simp only [List.length_cons, List.length_nil]; omega
          clear hR hO hx HU hq
          generalize hAc : acc ++ [UInt8.ofNat b] = acc2 at *
          clear hAc
          generalize acc.length = nA at *
          go_wp2_with (first
            | (go_at_call 26; refine hc.mono ?_; clear hc; rintro e w3 ⟨rfl, n, rfl⟩; have hce := HN.out n)
            | (go_at_call 27; refine hce.mono ?_; rintro e w4 ⟨rfl, ao2, n2, c2, w5, hrun, HF⟩)
            | (at_builtin; refine wpList_append_run rfl _ _ _ _ rfl rfl _ _ _ _ rfl rfl hrun ?_))
          go_roundg f
          case measure => omega
          case rel => exact ⟨q, acc2, HF.out.1, HF.out.2.1, HF.out.2.2, hqs, by omega, hal2, HU2⟩
  · have hcall := take_no h (by omega) (Nat.zero_le _) (by omega) hx
    have HQ : Hid (qRef s = .error 0) := (by show _ = _; rw [qRef, if_neg hx])
    have HR : Hid (Cu w R s (0 : Nat)) := h
    clear h hx hS
    go_enter Tryd.func17, Tryd.ntmps17
    go_wp2_with (first
      | (go_at_call 26; refine hcall.mono ?_; clear hcall; rintro e w2 ⟨rfl, n, rfl⟩))
    go_ret2
    exact ⟨(fun l e => by rw [HQ.out] at e; cases e), (fun x e => by rw [HQ.out] at e; cases e; exact ⟨⟨_, _, _, rfl⟩, HR.out.drewN _⟩), (Keeps.refl _ _).drewN _⟩

end Go.Proofs.YtmlgmhnplicflaaDoor.Quo

/-
  Quoting: the program reads back.
-/
namespace Go.Proofs.YtmlgmhnplicflaaDoor.Quo
open Go.RowKit
set_option linter.unusedVariables false
set_option maxRecDepth 100000

def uOk : Except Nat (List UInt8) → Bool
  | .ok _ => true
  | .error _ => false
def uAt : Except Nat (List UInt8) → Nat
  | .ok _ => 0
  | .error x => x
def uTx : Except Nat (List UInt8) → ByteArray
  | .ok l => ba l
  | .error _ => ⟨#[]⟩
def UqP (s : ByteArray) (w : World) (e : Ending) (w' : World) : Prop := e = .returned (.agg #[.bool (uOk (unqRef s)), .int .i64 (uAt (unqRef s) : Int), .string (uTx (unqRef s))]) ∧ Keeps (fun _ => False) w w'

set_option maxHeartbeats 1000000 in
theorem implUnquote_any {s : ByteArray} {w : World} (hS : Sg w) (hs : s.size ≤ 1048576) :
    Calls Tryd.prog 7 #[.string s] w (UqP s w) := by
  by_cases hl : 1300 < s.size
  · have e : unqRef s = .error 1300 := by rw [unqRef, if_pos hl]
    have HE : Hid (unqRef s = .error 1300) := e
    have hz : (1300 : Int) < (s.size : Int) := by omega
    have hP := bk_new w [.bool false, .int .i64 1300, .string ⟨#[]⟩] 26
    have g0 := hP.cell 0
    have g1 := hP.cell 1
    have g2 := hP.cell 2
    simp only [List.getElem?_cons_zero, List.getElem?_cons_succ] at g0 g1 g2
    clear hS e hP
    go_enter Tryd.func7, Tryd.ntmps7
    go_wp2
    refine bodyPost_ret (v := .agg #[.bool false, .int .i64 1300, .string ⟨#[]⟩]) (by simp [results, Tryd.results7, go_sem, g0, g1, g2]) rfl ?_
    refine ⟨by rw [HE.out]; rfl, (Keeps.refl _ _).alloc _⟩
  · have HE : Hid (unqRef s = qRef s) := (by show _ = _; rw [unqRef, if_neg hl]; rfl)
    have hz : ¬ (1300 : Int) < (s.size : Int) := by omega
    have hGl := hS.lt
    go_enter Tryd.func7, Tryd.ntmps7
    go_upto_region 4 with fail
    have kA : Keeps (fun _ => False) w ((w.alloc (.cells #[.bool false, .int .i64 0, .string ⟨#[]⟩] 26)).alloc (.cells #[.string s, .int .i64 0] 43)) := ((Keeps.refl _ w).alloc _).alloc _
    have hP : Bk ((w.alloc (.cells #[.bool false, .int .i64 0, .string ⟨#[]⟩] 26)).alloc (.cells #[.string s, .int .i64 0] 43)) w.heap.size 26 [.bool false, .int .i64 0, .string ⟨#[]⟩] := (bk_new w _ _).keeps ((Keeps.refl (fun _ => False) _).alloc _) (fun h => h)
    have hR : Cu ((w.alloc (.cells #[.bool false, .int .i64 0, .string ⟨#[]⟩] 26)).alloc (.cells #[.string s, .int .i64 0] 43)) (w.heap.size + 1) s ((0 : Nat) : Int) := box2 w _ _
    have hS1 := hS.keeps kA (fun h => h)
    generalize ((w.alloc (.cells #[.bool false, .int .i64 0, .string ⟨#[]⟩] 26)).alloc (.cells #[.string s, .int .i64 0] 43)) = w2 at kA hP hR hS1 ⊢
    have hs2 := hP.lt
    obtain ⟨P, hPe⟩ : ∃ P, w.heap.size = P := ⟨_, rfl⟩
    have HP : Hid (w.heap.size = P) := hPe
    rw [hPe] at hP hR hs2 hGl ⊢
    have hcall := quoted_any hS1 (by omega) hR (by omega)
    clear hPe hS hS1
    cases hq : qRef s with
    | error x =>
      have HQ : Hid (qRef s = .error x) := hq
      have hc2 : Calls Tryd.prog 17 #[.pointer (some ⟨P + 1, 0, none⟩)] w2 (fun e w' => (∃ ao n c, e = .returned (.tuple #[.slice ao n c, .bool false])) ∧ Cu w' (P + 1) s (x : Int) ∧ Keeps (fun k => k = P + 1) w2 w') := by
        refine hcall.mono ?_
        rintro e w' ⟨r1, r2, r3⟩
        obtain ⟨h1, h2⟩ := r2 x hq
        exact ⟨h1, h2, r3⟩
      clear hcall hq hR
      go_upto_region 5 with (go_at_call 17; refine hc2.mono ?_; clear hc2; rintro e w3 ⟨⟨ao, n, c, rfl⟩, hR3, hk3⟩)
      have hP3 := hP.keeps hk3 (by omega)
      have c1 := hR3.c1
      have d0 : w3.cell? ⟨P, 0, none⟩ = some (.bool false) := by rw [hP3.cell]; rfl
      have d1 : w3.cell? ⟨P, 1, none⟩ = some (.int .i64 0) := by rw [hP3.cell]; rfl
      have d2 : w3.cell? ⟨P, 2, none⟩ = some (.string ⟨#[]⟩) := by rw [hP3.cell]; rfl
      have f0 := hP3.fz 0
      have f1 := hP3.fz 1
      have f2 := hP3.fz 2
      have hP5 := ((hP3.set 0 (.bool false)).set 1 (.int .i64 (x : Int))).set 2 (.string ⟨#[]⟩)
      have g0 := hP5.cell 0
      have g1 := hP5.cell 1
      have g2 := hP5.cell 2
      simp only [List.set, List.getElem?_cons_zero, List.getElem?_cons_succ] at g0 g1 g2
      have hK : Keeps (fun _ => False) w (((w3.setCell ⟨P, 0, none⟩ (.bool false)).setCell ⟨P, 1, none⟩ (.int .i64 (x : Int))).setCell ⟨P, 2, none⟩ (.string ⟨#[]⟩)) :=
        (((kA.trans' hk3 (fun i hi h => by have := HP.out; omega)).setCell (fun h => by have := HP.out; simp at h; omega) _).setCell (fun h => by have := HP.out; simp at h; omega) _).setCell (fun h => by have := HP.out; simp at h; omega) _
      clear hP hP3 hP5 hk3 kA hR3
      go_wp2
      refine bodyPost_ret (v := .agg #[.bool false, .int .i64 (x : Int), .string ⟨#[]⟩]) (by simp [results, Tryd.results7, go_sem, g0, g1, g2]) rfl ?_
      exact ⟨by rw [HE.out, HQ.out]; rfl, hK⟩
    | ok l =>
      have HQ : Hid (qRef s = .ok l) := hq
      have hc2 : Calls Tryd.prog 17 #[.pointer (some ⟨P + 1, 0, none⟩)] w2 (fun e w' => ∃ ao n c, e = .returned (.tuple #[.slice ao n c, .bool true]) ∧ Hid (Ob w' w2.heap.size (.slice ao n c) l) ∧ Keeps (fun k => k = P + 1) w2 w') := by
        refine hcall.mono ?_
        rintro e w' ⟨r1, r2, r3⟩
        obtain ⟨ao, n, c, h1, h2, h3⟩ := r1 l hq
        exact ⟨ao, n, c, h1, h2, r3⟩
      clear hcall hq hR
      go_upto_region 5 with (go_at_call 17; refine hc2.mono ?_; clear hc2; rintro e w3 ⟨ao, n, c, rfl, HO, hk3⟩)
      have hP3 := hP.keeps hk3 (by omega)
      have hcv := conv_own HO.out
      have d0 : w3.cell? ⟨P, 0, none⟩ = some (.bool false) := by rw [hP3.cell]; rfl
      have d1 : w3.cell? ⟨P, 1, none⟩ = some (.int .i64 0) := by rw [hP3.cell]; rfl
      have d2 : w3.cell? ⟨P, 2, none⟩ = some (.string ⟨#[]⟩) := by rw [hP3.cell]; rfl
      have f0 := hP3.fz 0
      have f1 := hP3.fz 1
      have f2 := hP3.fz 2
      have hP5 := ((hP3.set 0 (.bool true)).set 1 (.int .i64 0)).set 2 (.string (ba l))
      have g0 := hP5.cell 0
      have g1 := hP5.cell 1
      have g2 := hP5.cell 2
      simp only [List.set, List.getElem?_cons_zero, List.getElem?_cons_succ] at g0 g1 g2
      have hK : Keeps (fun _ => False) w (((w3.setCell ⟨P, 0, none⟩ (.bool true)).setCell ⟨P, 1, none⟩ (.int .i64 0)).setCell ⟨P, 2, none⟩ (.string (ba l))) :=
        (((kA.trans' hk3 (fun i hi h => by have := HP.out; omega)).setCell (fun h => by have := HP.out; simp at h; omega) _).setCell (fun h => by have := HP.out; simp at h; omega) _).setCell (fun h => by have := HP.out; simp at h; omega) _
      clear hP hP3 hP5 hk3 kA
      go_wp2
      refine bodyPost_ret (v := .agg #[.bool true, .int .i64 0, .string (ba l)]) (by simp [results, Tryd.results7, go_sem, g0, g1, g2]) rfl ?_
      exact ⟨by rw [HE.out, HQ.out]; rfl, hK⟩

end Go.Proofs.YtmlgmhnplicflaaDoor.Quo
