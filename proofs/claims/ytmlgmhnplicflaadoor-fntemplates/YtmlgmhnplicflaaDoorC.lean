import Derived.Test.YtmlgmhnplicflaaDoorB
import Derived.Deep.RegionLaw
import Derived.Deep.Cut
import Derived.Deep.CutRange
import Derived.Deep.RegionWith
import Derived.Deep.DeepCutAuto

/-
  Templates: a bit; bits joined.
-/
namespace Go.Proofs.YtmlgmhnplicflaaDoor
open Go.RowKit
set_option linter.unusedVariables false

theorem one_byte {s : ByteArray} {p : Nat} (h : p < s.size) : byteAt s p = ⟨#[s[p]]⟩ := by
  unfold byteAt
  apply ByteArray.ext
  apply Array.ext
  · simp [ByteArray.extract, ByteArray.copySlice]; omega
  · intro i h1 h2
    simp at h2
    subst h2
    simp [ByteArray.data_extract]
    rfl

theorem conv_one (n : Int) (w : World) : Sem.run Tryd.prog (convert 22 9 (Value.slice (some { block := w.heap.size, off := 0 }) 1 1)) (w.alloc (Obj.cells #[Value.int IntKind.u8 n] 5)) = .ok (.string ⟨#[UInt8.ofNat n.toNat]⟩) (w.alloc (Obj.cells #[Value.int IntKind.u8 n] 5)) := by
  rw [run_convert_bytes_string _ 22 9 5 _ _ _ Tryd.underlying22 Tryd.underlying5 Tryd.underlying9]
  rw [run_bytesToString _ _ _ _ [n]]
  · rfl
  · exact run_loadCells_list _ _ [Value.int IntKind.u8 n] (by
      intro j v hj
      match j, hj with
      | 0, hj => simp at hj; subst hj; simp [Addr.add])
/-- What reading a bit gives. -/
def BitPost (R : Nat) (s : ByteArray) (p : Nat) (w : World) (e : Ending) (w' : World) : Prop :=
  Keeps (fun k => k = R) w w' ∧
  if bt s p = 36 then
    if bt s (p + 1) = 36 then e = .returned (.tuple #[.agg #[.int .i64 (-1), .string ⟨#[36]⟩], .nilIface]) ∧ Cu w' R s ((p + 2 : Nat) : Int)
    else if digit (bt s (p + 1)) then e = .returned (.tuple #[.agg #[.int .i64 (((bt s (p + 1) : Nat) : Int) - 48), .string ⟨#[]⟩], .nilIface]) ∧ Cu w' R s ((p + 2 : Nat) : Int)
    else e = .returned (.tuple #[.agg #[.int .i64 0, .string ⟨#[]⟩], .iface 54 (.agg #[.int .i64 ((p + 1 : Nat) : Int)])]) ∧ Cu w' R s ((p + 1 : Nat) : Int)
  else e = .returned (.tuple #[.agg #[.int .i64 (-1), .string (byteAt s p)], .nilIface]) ∧ Cu w' R s ((p + 1 : Nat) : Int)

set_option maxHeartbeats 1000000 in
set_option maxRecDepth 100000 in
theorem bit_plain {w : World} {R : Nat} {s : ByteArray} {p : Nat} (h : Cu w R s p) (hs : s.size ≤ 100) (hp : p < s.size) (hb : bt s p ≠ 36) :
    Calls Tryd.prog 29 #[.pointer (some ⟨R, 0, none⟩)] w fun e w' => e = .returned (.tuple #[.agg #[.int .i64 (-1), .string (byteAt s p)], .nilIface]) ∧ Cu w' R s ((p + 1 : Nat) : Int) ∧ Keeps (fun k => k = R) w w' := by
  have HB : Hid (byteAt s p = ⟨#[s[p]]⟩) := one_byte hp
  go_enter Tryd.func29, Tryd.ntmps29
  go_upto_region 1 with fail
  have kA : Keeps (fun _ => False) w (w.alloc (.cells #[.int .i64 0, .string ⟨#[]⟩] 34)) := (Keeps.refl _ w).alloc _
  have hP : Bk (w.alloc (.cells #[.int .i64 0, .string ⟨#[]⟩] 34)) w.heap.size 34 [.int .i64 0, .string ⟨#[]⟩] := bk_new w _ _
  have h1 := h.keeps kA (fun h => h)
  have hne : w.heap.size ≠ R := by have := h.lt; omega
  generalize w.alloc (.cells #[.int .i64 0, .string ⟨#[]⟩] 34) = w1 at kA hP h1 ⊢
  generalize hPe : w.heap.size = P at hP hne ⊢
  have HP : Hid (w.heap.size = P) := hPe
  clear hPe h
  have hlt := bt_lt hp
  have HX : Hid (bt s p = s[p].toNat) := bt_in hp
  have hcall := next_yes h1 (by omega) hp
  generalize bt s p = x at hcall hb hlt HX
  have hbz : ((x : Int) != 36) = true := by simp; omega
  go_upto_region 3 with (first
    | (go_at_call 38; refine hcall.mono ?_; rintro e w2 ⟨rfl, h2, hk2⟩))
  have hP2 := hP.keeps hk2 hne
  have kB : Keeps (fun _ => False) w2 (w2.alloc (.cells #[.int .u8 (x : Int)] 5)) := (Keeps.refl _ w2).alloc _
  have hP3 := hP2.keeps kB (fun h => h)
  have d0 : (w2.alloc (.cells #[.int .u8 (x : Int)] 5)).cell? ⟨P, 0, none⟩ = some (.int .i64 0) := by rw [hP3.cell]; rfl
  have d1 : (w2.alloc (.cells #[.int .u8 (x : Int)] 5)).cell? ⟨P, 1, none⟩ = some (.string ⟨#[]⟩) := by rw [hP3.cell]; rfl
  have df0 := hP3.fz 0
  have df1 := hP3.fz 1
  have hcv := conv_one (x : Int)
  have hP4 := (hP3.set 0 (.int .i64 (-1))).set 1 (.string ⟨#[UInt8.ofNat x]⟩)
  have g0 := hP4.cell 0
  have g1 := hP4.cell 1
  simp only [List.set, List.getElem?_cons_zero, List.getElem?_cons_succ] at g0 g1
  have hK4 : Keeps (fun k => k = R) w (((w2.alloc (.cells #[.int .u8 (x : Int)] 5)).setCell ⟨P, 0, none⟩ (.int .i64 (-1))).setCell ⟨P, 1, none⟩ (.string ⟨#[UInt8.ofNat x]⟩)) :=
    (((((kA.mono (fun _ _ h => h.elim)).trans hk2).trans (kB.mono (fun _ _ h => h.elim))).setCell (fun h => by have := HP.out; simp at h; omega) _).setCell (fun h => by have := HP.out; simp at h; omega) _)
  have h4 : Cu (((w2.alloc (.cells #[.int .u8 (x : Int)] 5)).setCell ⟨P, 0, none⟩ (.int .i64 (-1))).setCell ⟨P, 1, none⟩ (.string ⟨#[UInt8.ofNat x]⟩)) R s ((p + 1 : Nat) : Int) :=
    (h2.keeps kB (fun h => h)).keeps (((Keeps.refl (fun k => k = P) _).setCell (fun _ => rfl) _).setCell (fun _ => rfl) _) (Ne.symm hne)
  have HS : Hid (byteAt s p = ⟨#[UInt8.ofNat x]⟩) := (by show _ = _; rw [HB.out, HX.out]; simp)
  clear hP hP2 hP3 hP4 h2 kB hk2 kA h1 hcall
  go_wp2_with fail
  refine bodyPost_ret (v := .tuple #[.agg #[.int .i64 (-1), .string ⟨#[UInt8.ofNat x]⟩], .nilIface]) (by simp [results, Tryd.results29, go_sem, g0, g1]) rfl ?_
  exact ⟨by rw [HS.out], h4, hK4⟩

end Go.Proofs.YtmlgmhnplicflaaDoor

/-
  Templates: a bit behind a dollar.
-/
namespace Go.Proofs.YtmlgmhnplicflaaDoor
open Go.RowKit
set_option linter.unusedVariables false

set_option maxHeartbeats 1000000 in
set_option maxRecDepth 100000 in
theorem bit_dollar {w : World} {R : Nat} {s : ByteArray} {p : Nat} (h : Cu w R s p) (hs : s.size ≤ 100) (hp : p < s.size) (hb : bt s p = 36) (hb2 : bt s (p + 1) = 36) :
    Calls Tryd.prog 29 #[.pointer (some ⟨R, 0, none⟩)] w fun e w' => e = .returned (.tuple #[.agg #[.int .i64 (-1), .string ⟨#[36]⟩], .nilIface]) ∧ Cu w' R s ((p + 2 : Nat) : Int) ∧ Keeps (fun k => k = R) w w' := by
  go_enter Tryd.func29, Tryd.ntmps29
  go_upto_region 1 with fail
  have kA : Keeps (fun _ => False) w (w.alloc (.cells #[.int .i64 0, .string ⟨#[]⟩] 34)) := (Keeps.refl _ w).alloc _
  have hP : Bk (w.alloc (.cells #[.int .i64 0, .string ⟨#[]⟩] 34)) w.heap.size 34 [.int .i64 0, .string ⟨#[]⟩] := bk_new w _ _
  have h1 := h.keeps kA (fun h => h)
  have hne : w.heap.size ≠ R := by have := h.lt; omega
  generalize w.alloc (.cells #[.int .i64 0, .string ⟨#[]⟩] 34) = w1 at kA hP h1 ⊢
  generalize hPe : w.heap.size = P at hP hne ⊢
  have HP : Hid (w.heap.size = P) := hPe
  clear hPe h
  have hcall := next_yes h1 (by omega) hp
  rw [hb] at hcall
  have HB2 : Hid (bt s (p + 1) = 36) := hb2
  clear hb hb2
  go_upto_region 3 with (first
    | (go_at_call 38; refine hcall.mono ?_; rintro e w2 ⟨rfl, h2, hk2⟩)
    | (go_at_call 26; refine (take_yes (b := 36) h2 (by omega) (by omega) (by omega) HB2.out).mono ?_; rintro e w3 ⟨rfl, h3, hk3⟩))
  have hk23 := hk2.trans hk3
  have hP2 := hP.keeps hk23 hne
  have kB : Keeps (fun _ => False) w3 (w3.alloc (.cells #[.int .u8 36] 5)) := (Keeps.refl _ w3).alloc _
  have hP3 := hP2.keeps kB (fun h => h)
  have d0 : (w3.alloc (.cells #[.int .u8 36] 5)).cell? ⟨P, 0, none⟩ = some (.int .i64 0) := by rw [hP3.cell]; rfl
  have d1 : (w3.alloc (.cells #[.int .u8 36] 5)).cell? ⟨P, 1, none⟩ = some (.string ⟨#[]⟩) := by rw [hP3.cell]; rfl
  have df0 := hP3.fz 0
  have df1 := hP3.fz 1
  have hcv := conv_one 36
  have hP4 := (hP3.set 0 (.int .i64 (-1))).set 1 (.string ⟨#[36]⟩)
  have g0 := hP4.cell 0
  have g1 := hP4.cell 1
  simp only [List.set, List.getElem?_cons_zero, List.getElem?_cons_succ] at g0 g1
  have hK4 : Keeps (fun k => k = R) w (((w3.alloc (.cells #[.int .u8 36] 5)).setCell ⟨P, 0, none⟩ (.int .i64 (-1))).setCell ⟨P, 1, none⟩ (.string ⟨#[36]⟩)) :=
    (((((kA.mono (fun _ _ h => h.elim)).trans hk23).trans (kB.mono (fun _ _ h => h.elim))).setCell (fun h => by have := HP.out; simp at h; omega) _).setCell (fun h => by have := HP.out; simp at h; omega) _)
  have h4 : Cu (((w3.alloc (.cells #[.int .u8 36] 5)).setCell ⟨P, 0, none⟩ (.int .i64 (-1))).setCell ⟨P, 1, none⟩ (.string ⟨#[36]⟩)) R s ((p + 2 : Nat) : Int) :=
    (h3.keeps kB (fun h => h)).keeps (((Keeps.refl (fun k => k = P) _).setCell (fun _ => rfl) _).setCell (fun _ => rfl) _) (Ne.symm hne)
  clear hP hP2 hP3 hP4 h2 h3 kB hk2 hk3 hk23 kA h1 hcall
  go_wp2_with fail
  refine bodyPost_ret (v := .tuple #[.agg #[.int .i64 (-1), .string ⟨#[36]⟩], .nilIface]) (by simp [results, Tryd.results29, go_sem, g0, g1]) rfl ?_
  exact ⟨rfl, h4, hK4⟩

set_option maxHeartbeats 1000000 in
set_option maxRecDepth 100000 in
theorem bit_digit {w : World} {R : Nat} {s : ByteArray} {p : Nat} (h : Cu w R s p) (hs : s.size ≤ 100) (hp : p < s.size) (hb : bt s p = 36) (hb2 : bt s (p + 1) ≠ 36) (hd : digit (bt s (p + 1)) = true) :
    Calls Tryd.prog 29 #[.pointer (some ⟨R, 0, none⟩)] w fun e w' => e = .returned (.tuple #[.agg #[.int .i64 (((bt s (p + 1) : Nat) : Int) - 48), .string ⟨#[]⟩], .nilIface]) ∧ Cu w' R s ((p + 2 : Nat) : Int) ∧ Keeps (fun k => k = R) w w' := by
  have hp1 : p + 1 < s.size := Decidable.byContradiction fun hn => by rw [bt_out hn] at hd; simp [digit] at hd
  go_enter Tryd.func29, Tryd.ntmps29
  go_upto_region 1 with fail
  have kA : Keeps (fun _ => False) w (w.alloc (.cells #[.int .i64 0, .string ⟨#[]⟩] 34)) := (Keeps.refl _ w).alloc _
  have hP : Bk (w.alloc (.cells #[.int .i64 0, .string ⟨#[]⟩] 34)) w.heap.size 34 [.int .i64 0, .string ⟨#[]⟩] := bk_new w _ _
  have h1 := h.keeps kA (fun h => h)
  have hne : w.heap.size ≠ R := by have := h.lt; omega
  generalize w.alloc (.cells #[.int .i64 0, .string ⟨#[]⟩] 34) = w1 at kA hP h1 ⊢
  generalize hPe : w.heap.size = P at hP hne ⊢
  have HP : Hid (w.heap.size = P) := hPe
  clear hPe h
  have hcall := next_yes h1 (by omega) hp
  rw [hb] at hcall
  have HB2 : Hid (bt s (p + 1) ≠ 36) := hb2
  have HD : Hid (digit (bt s (p + 1)) = true) := hd
  have HX : Hid (bt s (p + 1) = s[p + 1].toNat) := bt_in hp1
  have hxz : s[p + 1].toNat = bt s (p + 1) := (bt_in hp1).symm
  have hdb : 48 ≤ bt s (p + 1) ∧ bt s (p + 1) ≤ 57 := by simpa [digit] using hd
  clear hb hb2 hd
  go_upto_region 4 with (first
    | (go_at_call 38; refine hcall.mono ?_; rintro e w2 ⟨rfl, h2, hk2⟩)
    | (go_at_call 26; refine (take_no (b := 36) h2 (by omega) (by omega) (by omega) HB2.out).mono ?_; rintro e w3 ⟨rfl, n3, hn3⟩; have kC : Keeps (fun _ => False) w2 w3 := (by rw [hn3]; exact (Keeps.refl _ _).drewN _); clear hn3))
  have h3 := h2.keeps kC (fun h => h)
  have hk3 := hk2.trans (kC.mono (fun _ _ h => h.elim))
  have c0 := h3.c0; have c1 := h3.c1
  have hpz : ((p + 1 : Nat) : Int) < (s.size : Int) := by omega
  clear kC hk2 h2 hcall h1
  go_quiet (first
    | (go_at_call 28; exact Calls.quiet_of (ended_no (h3.drewN _) hp1))
    | (go_at_call 39; exact Calls.quiet_of digit_any))
  rw [HD.out]
  have kD : Keeps (fun _ => False) w3 (w3.drewN nq) := (Keeps.refl _ _).drewN _
  have h4 := h3.keeps kD (fun h => h)
  have hk4 := hk3.trans (kD.mono (fun _ _ h => h.elim))
  clear c0 c1 h3 hk3 kD HD HX hxz HB2
  generalize w3.drewN nq = w4 at h4 hk4 ⊢
  have hcall := next_yes h4 (by omega) hp1
  generalize hxe : bt s (p + 1) = x at hcall hdb
  have HXX : Hid (bt s (p + 1) = x) := hxe
  clear hxe
  have hw : IntKind.u8.wrap ((x : Int) - 48) = (x : Int) - 48 := by unfold IntKind.wrap; simp [IntKind.bits, IntKind.signed]; omega
  have hw2 : IntKind.i64.wrap ((x : Int) - 48) = (x : Int) - 48 := IntWalk.i64_in _ ⟨by omega, by omega⟩
  have hd1 := hdb.1
  have hd2 := hdb.2
  clear hdb
  go_wp2_with (first
    | (go_at_call 38; refine hcall.mono ?_; rintro e w5 ⟨rfl, h5, hk5⟩; have hP5 := hP.keeps (hk4.trans hk5) hne; have d0 : w5.cell? ⟨P, 0, none⟩ = some (.int .i64 0) := (by rw [hP5.cell]; rfl); have d1 : w5.cell? ⟨P, 1, none⟩ = some (.string ⟨#[]⟩) := (by rw [hP5.cell]; rfl); have df0 := hP5.fz 0; have df1 := hP5.fz 1))
  have hP6 := (hP5.set 0 (.int .i64 ((x : Int) - 48))).set 1 (.string ⟨#[]⟩)
  have g0 := hP6.cell 0
  have g1 := hP6.cell 1
  simp only [List.set, List.getElem?_cons_zero, List.getElem?_cons_succ] at g0 g1
  refine bodyPost_ret (v := .tuple #[.agg #[.int .i64 ((x : Int) - 48), .string ⟨#[]⟩], .nilIface]) (by simp [results, Tryd.results29, go_sem, g0, g1]) rfl ?_
  refine ⟨by rw [HXX.out], h5.keeps (((Keeps.refl (fun k => k = P) _).setCell (fun _ => rfl) _).setCell (fun _ => rfl) _) (Ne.symm hne), ?_⟩
  exact ((((kA.mono (fun _ _ h => h.elim)).trans hk4).trans hk5).setCell (fun h => by have := HP.out; simp at h; omega) _).setCell (fun h => by have := HP.out; simp at h; omega) _

set_option maxHeartbeats 2000000 in
set_option maxRecDepth 100000 in
/-- Where neither stands behind a dollar. -/
theorem bit_bad {w : World} {R : Nat} {s : ByteArray} {p : Nat} (h : Cu w R s p) (hs : s.size ≤ 100) (hp : p < s.size) (hb : bt s p = 36) (hb2 : bt s (p + 1) ≠ 36) (hd : digit (bt s (p + 1)) = false) :
    Calls Tryd.prog 29 #[.pointer (some ⟨R, 0, none⟩)] w fun e w' => e = .returned (.tuple #[.agg #[.int .i64 0, .string ⟨#[]⟩], .iface 54 (.agg #[.int .i64 ((p + 1 : Nat) : Int)])]) ∧ Cu w' R s ((p + 1 : Nat) : Int) ∧ Keeps (fun k => k = R) w w' := by
  go_enter Tryd.func29, Tryd.ntmps29
  go_upto_region 1 with fail
  have kA : Keeps (fun _ => False) w (w.alloc (.cells #[.int .i64 0, .string ⟨#[]⟩] 34)) := (Keeps.refl _ w).alloc _
  have hP : Bk (w.alloc (.cells #[.int .i64 0, .string ⟨#[]⟩] 34)) w.heap.size 34 [.int .i64 0, .string ⟨#[]⟩] := bk_new w _ _
  have h1 := h.keeps kA (fun h => h)
  have hne : w.heap.size ≠ R := by have := h.lt; omega
  generalize w.alloc (.cells #[.int .i64 0, .string ⟨#[]⟩] 34) = w1 at kA hP h1 ⊢
  generalize hPe : w.heap.size = P at hP hne ⊢
  have HP : Hid (w.heap.size = P) := hPe
  clear hPe h
  have hcall := next_yes h1 (by omega) hp
  rw [hb] at hcall
  have HB2 : Hid (bt s (p + 1) ≠ 36) := hb2
  have HD : Hid (digit (bt s (p + 1)) = false) := hd
  clear hb hb2 hd
  go_upto_region 4 with (first
    | (go_at_call 38; refine hcall.mono ?_; rintro e w2 ⟨rfl, h2, hk2⟩)
    | (go_at_call 26; refine (take_no (b := 36) h2 (by omega) (by omega) (by omega) HB2.out).mono ?_; rintro e w3 ⟨rfl, n3, hn3⟩; have kC : Keeps (fun _ => False) w2 w3 := (by rw [hn3]; exact (Keeps.refl _ _).drewN _); clear hn3))
  have h3 := h2.keeps kC (fun h => h)
  have hk3 := hk2.trans (kC.mono (fun _ _ h => h.elim))
  have c0 := h3.c0; have c1 := h3.c1
  clear kC hk2 h2 hcall h1
  have hfin : ∀ w4, Keeps (fun _ => False) w3 w4 → Cu w4 R s ((p + 1 : Nat) : Int) ∧ Keeps (fun k => k = R) w1 w4 ∧ Bk w4 P 34 [.int .i64 0, .string ⟨#[]⟩] := fun w4 k => ⟨h3.keeps k (fun h => h), hk3.trans (k.mono (fun _ _ h => h.elim)), hP.keeps (hk3.trans (k.mono (fun _ _ h => h.elim))) hne⟩
  by_cases hp1 : p + 1 < s.size
  · have hpz : ((p + 1 : Nat) : Int) < (s.size : Int) := by omega
    have hxz : s[p + 1].toNat = bt s (p + 1) := (bt_in hp1).symm
    go_quiet (first
      | (go_at_call 28; exact Calls.quiet_of (ended_no (h3.drewN _) hp1))
      | (go_at_call 39; exact Calls.quiet_of digit_any))
    rw [HD.out]
    obtain ⟨h4, hk4, hP4⟩ := hfin (w3.drewN nq) ((Keeps.refl _ _).drewN _)
    clear c0 c1 h3 hk3 HD hxz HB2 hfin hP
    generalize w3.drewN nq = w4 at h4 hk4 hP4 ⊢
    have d0 : w4.cell? ⟨P, 0, none⟩ = some (.int .i64 0) := (by rw [hP4.cell]; rfl)
    have d1 : w4.cell? ⟨P, 1, none⟩ = some (.string ⟨#[]⟩) := (by rw [hP4.cell]; rfl)
    have df0 := hP4.fz 0
    have df1 := hP4.fz 1
    have c1 := h4.c1
    go_wp2_with fail
    go_region_with fail
    all_goals (try go_wp2_with fail)
    all_goals (
      have hP5 := (hP4.set 0 (.int .i64 0)).set 1 (.string ⟨#[]⟩)
      have g0 : (((w4.setCell ⟨P, 0, none⟩ (.int .i64 0)).setCell ⟨P, 1, none⟩ (.string ⟨#[]⟩)).drew).cell? ⟨P, 0, none⟩ = some (.int .i64 0) := hP5.cell 0
      have g1 : (((w4.setCell ⟨P, 0, none⟩ (.int .i64 0)).setCell ⟨P, 1, none⟩ (.string ⟨#[]⟩)).drew).cell? ⟨P, 1, none⟩ = some (.string ⟨#[]⟩) := hP5.cell 1
      refine bodyPost_ret (v := .tuple #[.agg #[.int .i64 0, .string ⟨#[]⟩], .iface 54 (.agg #[.int .i64 ((p + 1 : Nat) : Int)])]) (by simp [results, Tryd.results29, Act.put, go_sem, g0, g1]) rfl ?_
      refine ⟨rfl, Cu.drew (h4.keeps (((Keeps.refl (fun k => k = P) _).setCell (fun _ => rfl) _).setCell (fun _ => rfl) _) (Ne.symm hne)), ?_⟩
      exact Keeps.drew (((((kA.mono (fun _ _ h => h.elim)).trans hk4)).setCell (fun h => by have := HP.out; simp at h; omega) _).setCell (fun h => by have := HP.out; simp at h; omega) _))
  · have hpe : p + 1 = s.size := by omega
    have HPE : Hid (p + 1 = s.size) := hpe
    clear hpe
    go_quiet (first
      | (go_at_call 28; exact Calls.quiet_of (ended_yes (h3.drewN _) HPE.out)))
    obtain ⟨h4, hk4, hP4⟩ := hfin (w3.drewN nq) ((Keeps.refl _ _).drewN _)
    clear c0 c1 h3 hk3 HD HB2 hfin hP
    generalize w3.drewN nq = w4 at h4 hk4 hP4 ⊢
    have d0 : w4.cell? ⟨P, 0, none⟩ = some (.int .i64 0) := (by rw [hP4.cell]; rfl)
    have d1 : w4.cell? ⟨P, 1, none⟩ = some (.string ⟨#[]⟩) := (by rw [hP4.cell]; rfl)
    have df0 := hP4.fz 0
    have df1 := hP4.fz 1
    have c1 := h4.c1
    go_wp2_with fail
    go_region_with fail
    all_goals (try go_wp2_with fail)
    all_goals (
      have hP5 := (hP4.set 0 (.int .i64 0)).set 1 (.string ⟨#[]⟩)
      have g0 : (((w4.setCell ⟨P, 0, none⟩ (.int .i64 0)).setCell ⟨P, 1, none⟩ (.string ⟨#[]⟩)).drew).cell? ⟨P, 0, none⟩ = some (.int .i64 0) := hP5.cell 0
      have g1 : (((w4.setCell ⟨P, 0, none⟩ (.int .i64 0)).setCell ⟨P, 1, none⟩ (.string ⟨#[]⟩)).drew).cell? ⟨P, 1, none⟩ = some (.string ⟨#[]⟩) := hP5.cell 1
      refine bodyPost_ret (v := .tuple #[.agg #[.int .i64 0, .string ⟨#[]⟩], .iface 54 (.agg #[.int .i64 ((p + 1 : Nat) : Int)])]) (by simp [results, Tryd.results29, Act.put, go_sem, g0, g1]) rfl ?_
      refine ⟨rfl, Cu.drew (h4.keeps (((Keeps.refl (fun k => k = P) _).setCell (fun _ => rfl) _).setCell (fun _ => rfl) _) (Ne.symm hne)), ?_⟩
      exact Keeps.drew (((((kA.mono (fun _ _ h => h.elim)).trans hk4)).setCell (fun h => by have := HP.out; simp at h; omega) _).setCell (fun h => by have := HP.out; simp at h; omega) _))

theorem bit_any {w : World} {R : Nat} {s : ByteArray} {p : Nat} (h : Cu w R s p) (hs : s.size ≤ 100) (hp : p < s.size) : Calls Tryd.prog 29 #[.pointer (some ⟨R, 0, none⟩)] w (BitPost R s p w) := by
  unfold BitPost
  by_cases hb : bt s p = 36
  · by_cases hb2 : bt s (p + 1) = 36
    · refine (bit_dollar h hs hp hb hb2).mono ?_
      rintro e w' ⟨h1, h2, h3⟩
      rw [if_pos hb, if_pos hb2]
      exact ⟨h3, h1, h2⟩
    · cases hd : digit (bt s (p + 1)) with
      | true =>
        refine (bit_digit h hs hp hb hb2 hd).mono ?_
        rintro e w' ⟨h1, h2, h3⟩
        rw [if_pos hb, if_neg hb2, if_pos rfl]
        exact ⟨h3, h1, h2⟩
      | false =>
        refine (bit_bad h hs hp hb hb2 hd).mono ?_
        rintro e w' ⟨h1, h2, h3⟩
        rw [if_pos hb, if_neg hb2, if_neg (by simp)]
        exact ⟨h3, h1, h2⟩
  · refine (bit_plain h hs hp hb).mono ?_
    rintro e w' ⟨h1, h2, h3⟩
    rw [if_neg hb]
    exact ⟨h3, h1, h2⟩

end Go.Proofs.YtmlgmhnplicflaaDoor
