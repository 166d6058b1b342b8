import Derived.Test.YtmlgmhnplicflaaDoorJ
import Derived.Test.YtmlgmhnplicflaaDoorK
import Derived.Deep.Cut
import Derived.Deep.CutRange
import Derived.Deep.DeepCutAuto
import Derived.Deep.CutBlock
import Derived.Deep.RegionWith

/-
  Quoting: the laws' draws.
-/
namespace Go.Proofs.YtmlgmhnplicflaaDoor.Quo
open Go.RowKit
set_option linter.unusedVariables false
set_option maxRecDepth 100000

set_option maxHeartbeats 1000000 in
theorem bytes_any {cs : List Nat} {w : World} {R cap p n : Nat} {ao : Option Addr} (hl : cs.length ≤ 1048576) (hD : Dw w R ao cs cap p) (hp : p ≤ 1000) (hn : n ≤ 1000) :
    Calls Tryd.prog 14 #[.pointer (some ⟨R, 0, none⟩), .int .i64 (n : Int)] w fun e w' => ∃ t : ByteArray, e = .returned (.string t) ∧ t.size = n ∧ Dw w' R ao cs cap (p + n) ∧ Keeps (fun k => k = R) w w' := by
  have hRl := hD.cur.lt
  have hap0 : ∀ a, ao = some a → a.block < w.heap.size := fun a ha => (hD.apart a ha).1
  go_enter Tryd.func14, Tryd.ntmps14
  go_wp2
  go_loopg [1, 5] (n + 1) (fun gl s1 o wr => ∃ (k : Nat) (acc : List UInt8), k + 1 = gl ∧ k ≤ n ∧ acc.length + k = n ∧ s1 = .int .i64 (k : Int) ∧ Ob wr w.heap.size o acc ∧ Dw wr R ao cs cap (p + acc.length) ∧ Keeps (fun k => k = R) w wr)
  case atStart => exact ⟨n, [], rfl, Nat.le_refl _, by simp, rfl, World.ownsRow_nil _ _ _ _, hD, Keeps.refl _ _⟩
  case round =>
    obtain ⟨k, acc, hgl, hk, hal, rfl, hO, hDr, hK⟩ := hrel
    clear hD
    have HG : Hid (k + 1 = gk) := hgl
    clear hgl
    obtain ⟨a1, c1, hof⟩ := own_form hO
    subst hof
    cases k with
    | zero =>
      have hcv := conv_own hO
      have HF : Hid ((ba acc).size = n ∧ p + acc.length = p + n) := ⟨(by simp [ba, ByteArray.size]; omega), by omega⟩
      clear hO
      generalize acc.length = nA at *
      go_wp2
      go_ret
      exact ⟨_, rfl, HF.out.1, by rw [← HF.out.2]; exact hDr, hK⟩
    | succ k =>
      have hkz : (0 : Int) < ((k + 1 : Nat) : Int) := by omega
      have hdr : dr cs (p + acc.length) < 256 := dr_lt hDr.code.1 _
      have hnx := dnext hDr hl (by omega)
      unfold DrawPost at hnx
      generalize dr cs (p + acc.length) = b at hnx hdr
      have HN : Hid (∀ w2, Dw w2 R ao cs cap (p + acc.length + 1) → Keeps (fun k => k = R) wr w2 → ∃ a2 n2 c2 w5, Sem.run Tryd.prog (Builtin.append_ #[22, 22] 22 #[.slice a1 acc.length c1, .slice (some ⟨w2.heap.size, 0, none⟩) 1 1]) (w2.alloc (.cells #[.int .u8 (b : Int)] 5)) = .ok (.slice a2 n2 c2) w5 ∧ Hid (Ob w5 w.heap.size (.slice a2 n2 c2) (acc ++ [UInt8.ofNat b]) ∧ Dw w5 R ao cs cap (p + (acc ++ [UInt8.ofNat b]).length) ∧ Keeps (fun k => k = R) w w5)) := by
        intro w2 hD2 hk2
        have hkw := hK.trans hk2
        have hO2 : Ob w2 w.heap.size (.slice a1 acc.length c1) acc := ownsRow_keeps hO hk2 (fun k hk e => by have := (hO.lt k hk).1; omega)
        obtain ⟨v2, w5, hrun, ho5, hb5⟩ := app_run w2 w.heap.size 22 _ acc [UInt8.ofNat b] (by simp only [List.length_cons, List.length_nil]; omega) hkw.size hO2
        obtain ⟨a2, c2, rfl⟩ := own_form ho5
        have hen : ((UInt8.ofNat b).toNat : Int) = (b : Int) := by simp; omega
        have ec : (cellsOf [UInt8.ofNat b]).toArray = #[.int .u8 (b : Int)] := by simp only [cellsOf, List.map_cons, List.map_nil, hen]
        rw [ec] at hrun
        refine ⟨a2, _, c2, w5, hrun, ho5, ?_, keeps_below hkw hb5⟩
        have k5 : Keeps (fun k => w.heap.size ≤ k) w2 w5 := Keeps.ofBelow hb5 (fun k h _ => h)
        have hap := hD2.apart
        rw [List.length_append]
        refine ⟨hD2.cur.keeps k5 (by omega), hD2.code.keeps k5 (fun a ha => ⟨(hap a ha).1, ?_⟩), fun a ha => ⟨Nat.lt_of_lt_of_le (hap a ha).1 k5.size, (hap a ha).2⟩⟩
        have := hap0 a ha
        omega
      clear hO hDr hK
      have hw8 : IntKind.u8.wrap (b : Int) = (b : Int) := IntWalk.u8_in _ (by omega)
      have hlen : (acc ++ [UInt8.ofNat b]).length = acc.length + 1 := by simp
      have HL : Hid ((acc ++ [UInt8.ofNat b]).length + k = n) := (by show _ = _; rw [hlen]; omega)
      clear hlen
      generalize acc ++ [UInt8.ofNat b] = acc2 at *
      generalize acc.length = nA at *
      go_wp2_with (first
        | (go_at_call 22; refine hnx.mono ?_; clear hnx; rintro e w2 ⟨rfl, hD2, hk2⟩; obtain ⟨a2, n2, c2, w5, hrun, HF⟩ := HN.out _ hD2 hk2)
        | (at_builtin; refine wpList_append_run rfl _ _ _ _ rfl rfl _ _ _ _ rfl rfl hrun ?_))
      go_roundg (gk - 1)
      case measure => have := HG.out; omega
      case rel => exact ⟨k, acc2, by have := HG.out; omega, by omega, HL.out, congrArg (Value.int .i64) (by omega), HF.out.1, HF.out.2.1, HF.out.2.2⟩

theorem dw_new {cs : List Nat} {w : World} {cap : Nat} {ao : Option Addr} (hc : Dc w ao cs) (ha : ∀ a, ao = some a → a.block < w.heap.size) : Dw (w.alloc (.cells #[.slice ao cs.length cap, .int .i64 0, .int .u64 0] 38)) w.heap.size ao cs cap 0 := by
  have kA : Keeps (fun _ => False) w (w.alloc (.cells #[.slice ao cs.length cap, .int .i64 0, .int .u64 0] 38)) := (Keeps.refl _ w).alloc _
  exact ⟨heap_alloc_new w _, hc.keeps kA (fun a h => ⟨ha a h, fun h => h⟩), fun a h => ⟨Nat.lt_of_lt_of_le (ha a h) kA.size, by have := ha a h; omega⟩⟩

set_option maxHeartbeats 1000000 in
theorem texts_any {cs : List Nat} {w : World} {cap : Nat} {ao : Option Addr} (hl : cs.length ≤ 1048576) (hc : Dc w ao cs) (ha : ∀ a, ao = some a → a.block < w.heap.size) :
    Calls Tryd.prog 5 #[.slice ao cs.length cap] w fun e w' => ∃ t : ByteArray, e = .returned (.string t) ∧ t.size ≤ 28 ∧ Keeps (fun _ => False) w w' := by
  have kA : Keeps (fun _ => False) w (w.alloc (.cells #[.slice ao cs.length cap, .int .i64 0, .int .u64 0] 38)) := (Keeps.refl _ w).alloc _
  have hD := dw_new (cap := cap) hc ha
  have hpk := dpick (z := 28) hD hl (by omega) (by omega) (by omega)
  go_enter Tryd.func5, Tryd.ntmps5
  go_wp2_with (first
    | (go_at_call 15; refine hpk.mono ?_; clear hpk; rintro e w2 ⟨k, hk0, hkl, rfl, hD2, hk2⟩; clear hk0; have hby := bytes_any (n := k) hl hD2 (by omega) (by omega))
    | (go_at_call 14; refine hby.mono ?_; rintro e w3 ⟨t, rfl, ht, hD3, hk3⟩))
  go_ret
  exact ⟨t, rfl, by omega, kA.trans' (hk2.trans hk3) (fun i hi h => by omega)⟩

end Go.Proofs.YtmlgmhnplicflaaDoor.Quo

/-
  Quoting: a text that is a quoting, or nearly.
-/
namespace Go.Proofs.YtmlgmhnplicflaaDoor.Quo
open Go.RowKit
set_option linter.unusedVariables false
set_option maxRecDepth 100000

/-- A list of short texts. -/
def Lq (w : World) (G n m : Nat) : Prop := G < w.heap.size ∧ ∀ i, i < n → ∃ s : ByteArray, w.cell? ⟨G, i, none⟩ = some (.string s) ∧ s.size ≤ m
theorem Lq.keeps {w w' : World} {G n m : Nat} {E : Nat → Prop} (h : Lq w G n m) (k : Keeps E w w') (hE : ¬ E G) : Lq w' G n m :=
  ⟨Nat.lt_of_lt_of_le h.1 k.size, fun i hi => by obtain ⟨s, h1, h2⟩ := h.2 i hi; exact ⟨s, by rw [d_cell_same (k.block G h.1 hE)]; exact h1, h2⟩⟩
theorem lq_new (w : World) (cs : List ByteArray) (t : TypeId) (m : Nat) (h : ∀ s ∈ cs, s.size ≤ m) : Lq (w.alloc (.cells (cs.map Value.string).toArray t)) w.heap.size cs.length m := by
  refine ⟨by simp, fun i hi => ⟨cs[i], ?_, h _ (List.getElem_mem hi)⟩⟩
  rw [World.cell?_alloc_at _ _ _ _ rfl]
  simp [List.getElem?_eq_getElem hi]

set_option maxHeartbeats 4000000 in
theorem drawUnq_any {cs : List Nat} {w : World} {cap : Nat} {ao : Option Addr} (hl : cs.length ≤ 1048576) (hc : Dc w ao cs) (ha : ∀ a, ao = some a → a.block < w.heap.size) :
    Calls Tryd.prog 9 #[.slice ao cs.length cap] w fun e w' => ∃ t : ByteArray, e = .returned (.string t) ∧ t.size ≤ 200 ∧ Keeps (fun _ => False) w w' := by
  have kA : Keeps (fun _ => False) w (w.alloc (.cells #[.slice ao cs.length cap, .int .i64 0, .int .u64 0] 38)) := (Keeps.refl _ w).alloc _
  have hD := dw_new (cap := cap) hc ha
  have hpk := dpick (z := 9) hD hl (by omega) (by omega) (by omega)
  obtain ⟨R, hRe⟩ : ∃ R, w.heap.size = R := ⟨_, rfl⟩
  have HRe : Hid (w.heap.size = R) := hRe
  clear hRe ha
  have hRe : Hid (w.heap.size = R) := HRe
  have hq0 : Hid (∀ l : List UInt8, l.length ≤ 9 → (ba (quoteRef l)).size = (qls l).length + 2 ∧ (qls l).length ≤ 36) := fun l h => by
    have h1 := qls_le l
    have hq : quoteRef l = 34 :: qls l ++ [34] := by rw [quoteRef, if_neg (by omega)]
    exact ⟨by rw [hq]; simp [ba, ByteArray.size], by omega⟩
  go_enter Tryd.func9, Tryd.ntmps9
  go_upto_region 3 with (first
    | (go_at_call 15; refine hpk.mono ?_; clear hpk; rintro e w2 ⟨k, hk0, hkl, rfl, hD2, hk2⟩; clear hk0; have hby := bytes_any (n := k) hl hD2 (by omega) (by omega))
    | (go_at_call 14; refine hby.mono ?_; rintro e w3 ⟨t, rfl, ht, hD3, hk3⟩; have hqu := specQuote_any (w := w3) (s := t) (by omega))
    | (go_at_call 8; refine hqu.mono ?_; rintro e w4 ⟨rfl, hb4⟩))
  obtain ⟨hsz, hszl⟩ := hq0.out t.data.toList (by rw [Array.length_toList]; show t.size ≤ 9; omega)
  have k4 : Keeps (fun _ => False) w3 w4 := Keeps.ofBelow hb4 (fun k h1 h2 => absurd h2 (by omega))
  have hD4 := hD3.same k4
  have hK4 : Keeps (fun _ => False) w w4 := (kA.trans' (hk2.trans hk3) (fun i hi h => by omega)).trans k4
  rw [HRe.out] at hD4 ⊢
  have hR4 := hD4.cur.lt
  clear hby hqu hD hD2 hD3 hk2 hk3 hb4 k4 kA hc
  generalize ba (quoteRef t.data.toList) = y at hsz ⊢
  have hy1 : 2 ≤ y.size := by omega
  have hy2 : y.size ≤ 38 := by omega
  clear hsz hszl
  generalize hpe : 0 + 1 + k = p at hD4
  have hp : p ≤ 20 := by omega
  clear hpe ht
  have hpk2 : Calls Tryd.prog 15 #[.pointer (some ⟨R, 0, none⟩), .int .i64 2] w4 fun e w' => e = .returned (.int .i64 ((dr cs p % 2 : Nat) : Int)) ∧ Dw w' R ao cs cap (p + 1) ∧ Keeps (fun k => k = R) w4 w' := by
    refine (dpick (z := 2) hD4 hl (by omega) (by omega) (by omega)).mono ?_
    rintro e w' ⟨k, hk, hkl, rfl, h1, h2⟩
    exact ⟨by rw [hk]; rfl, h1, h2⟩
  have hd2 : dr cs p % 2 < 2 := Nat.mod_lt _ (by omega)
  generalize dr cs p % 2 = k2 at hpk2 hd2
  have hlz : (0 : Int) < (y.size : Int) := by omega
  by_cases hk20 : k2 = 0
  · subst hk20
    go_upto_region 4 with (go_at_call 15; refine hpk2.mono ?_; clear hpk2; rintro e w5 ⟨rfl, hD5, hk5⟩)
    have hK5 : Keeps (fun _ => False) w w5 := hK4.trans' hk5 (fun i hi h => by have := HRe.out; omega)
    clear hD4 hK4 hk5
    have hpk3 := dpick (z := (y.size : Int)) hD5 hl (by omega) (by omega) (by omega)
    go_upto_region 5 with (go_at_call 15; refine hpk3.mono ?_; clear hpk3; rintro e w6 ⟨ii, hi0, hil, rfl, hD6, hk6⟩; clear hi0)
    have hK6 : Keeps (fun _ => False) w w6 := hK5.trans' hk6 (fun i hi h => by have := HRe.out; omega)
    clear hD5 hK5 hk6
    go_upto_region 6 with fail
    have hG : w6.heap.size ≠ R := by have := hD6.cur.lt; omega
    have hL : Lq (w6.alloc (.cells #[.string ⟨#[34]⟩, .string ⟨#[92]⟩, .string ⟨#[92, 113]⟩, .string ⟨#[92, 120]⟩, .string ⟨#[92, 120, 52]⟩, .string ⟨#[92, 120, 52, 49]⟩, .string ⟨#[10]⟩, .string ⟨#[128]⟩, .string ⟨#[97]⟩] 9)) w6.heap.size 9 4 := lq_new w6 [⟨#[34]⟩, ⟨#[92]⟩, ⟨#[92, 113]⟩, ⟨#[92, 120]⟩, ⟨#[92, 120, 52]⟩, ⟨#[92, 120, 52, 49]⟩, ⟨#[10]⟩, ⟨#[128]⟩, ⟨#[97]⟩] 9 4 (by decide)
    have kL : Keeps (fun _ => False) w6 (w6.alloc (.cells #[.string ⟨#[34]⟩, .string ⟨#[92]⟩, .string ⟨#[92, 113]⟩, .string ⟨#[92, 120]⟩, .string ⟨#[92, 120, 52]⟩, .string ⟨#[92, 120, 52, 49]⟩, .string ⟨#[10]⟩, .string ⟨#[128]⟩, .string ⟨#[97]⟩] 9)) := (Keeps.refl _ _).alloc _
    have hD7 := hD6.same kL
    have hK7 := hK6.trans kL
    generalize w6.alloc (.cells #[.string ⟨#[34]⟩, .string ⟨#[92]⟩, .string ⟨#[92, 113]⟩, .string ⟨#[92, 120]⟩, .string ⟨#[92, 120, 52]⟩, .string ⟨#[92, 120, 52, 49]⟩, .string ⟨#[10]⟩, .string ⟨#[128]⟩, .string ⟨#[97]⟩] 9) = w7 at hL hD7 hK7 kL ⊢
    generalize w6.heap.size = G at hL hG ⊢
    clear kL hD6 hK6
    have hpk3 := dpick (z := 2) hD7 hl (by omega) (by omega) (by omega)
    go_upto_region 7 with (go_at_call 15; refine hpk3.mono ?_; clear hpk3; rintro e w8 ⟨k3, h30, h3l, rfl, hD8, hk8⟩; clear h30)
    have hK8 : Keeps (fun _ => False) w w8 := hK7.trans' hk8 (fun i hi h => by have := HRe.out; omega)
    have hL8 := hL.keeps hk8 hG
    clear hL hD7 hK7 hk8
    obtain ⟨kk, hkk⟩ : ∃ kk, ii + k3 = kk := ⟨_, rfl⟩
    have eqk : (ii : Int) + (k3 : Int) = (kk : Int) := by omega
    have hkl : kk ≤ y.size := by omega
    have zk : ¬ (y.size : Int) < (kk : Int) := by omega
    clear hkk
    go_upto_region 9 with fail
    have hil2 : ii ≤ y.size := by omega
    obtain ⟨ya, hya⟩ : ∃ ya, y.extract 0 ii = ya := ⟨_, rfl⟩
    obtain ⟨yb, hyb⟩ : ∃ yb, y.extract kk y.size = yb := ⟨_, rfl⟩
    have hsa : ya.size ≤ 38 := by rw [← hya, ByteArray.size_extract]; omega
    have hsb : yb.size ≤ 38 := by rw [← hyb, ByteArray.size_extract]; omega
    have hs1 : ∀ w : World, (Instr.slice 9 (.string y) none (some (.int .i64 (ii : Int))) none).run Tryd.prog w = .ok (.string ya) w := fun w => by
      rw [run_slice_string_h (P := Tryd.prog) (w := w) (t := 9) (s := y) Tryd.underlying9 .i64 (ii : Int) (by omega) (by omega), ← hya]
      rfl
    have hs2 : ∀ w : World, (Instr.slice 9 (.string y) (some (.int .i64 (kk : Int))) none none).run Tryd.prog w = .ok (.string yb) w := fun w => by
      rw [run_slice_string_l (P := Tryd.prog) (w := w) (t := 9) (s := y) Tryd.underlying9 .i64 (kk : Int) (by omega) (by omega), ← hyb]
      rfl
    have HZ : Hid (∀ x : ByteArray, x.size ≤ 4 → ¬ 9223372036854775807 < ya.size + x.size ∧ ¬ 9223372036854775807 < (ya ++ x).size + yb.size ∧ ((ya ++ x) ++ yb).size ≤ 200) := fun x hx => by
      simp only [ByteArray.size_append]
      omega
    have hpk5 := dpick (z := 9) (w := w8.drew) (hD8.same ((Keeps.refl _ _).drew)) hl (by omega) (by omega) (by omega)
    have HL8 : Hid (Lq w8.drew G 9 4) := hL8.keeps ((Keeps.refl (fun _ => False) _).drew) (fun h => h)
    have hGn : Hid (G ≠ R) := hG
    clear hya hyb hL8 hG eqk zk
    go_region_with (go_at_call 15; refine hpk5.mono ?_; clear hpk5; rintro e w9 ⟨k9, h90, h9l, rfl, hD9, hk9⟩; clear h90; obtain ⟨x, cx, hx4⟩ := (HL8.out.keeps hk9 hGn.out).2 k9 (by omega); obtain ⟨u1, u2, u3⟩ := HZ.out x hx4)
    all_goals (have hK9 : Keeps (fun _ => False) w w9 := (hK8.drew).trans' hk9 (fun i hi h => by have := HRe.out; omega))
    all_goals (have hpk4 := dpick (z := 40) hD9 hl (by omega) (by omega) (by omega))
    all_goals (go_wp2_with (go_at_call 15; refine hpk4.mono ?_; clear hpk4; rintro e wz ⟨kz, hkz0, hkzl, rfl, hDz, hkz⟩; clear hkz0))
    all_goals go_ret
    all_goals exact ⟨_, rfl, by first | exact u3 | decide | (simp only [ByteArray.size_append, ByteArray.size_extract]; omega) | (show (0 : Nat) ≤ 200; omega), hK9.trans' hkz (fun i hi h => by have := HRe.out; omega)⟩
  · have z0 : ((k2 : Int) == 0) = false := by rw [beq_eq_false_iff_ne]; omega
    go_upto_region 10 with (go_at_call 15; refine hpk2.mono ?_; clear hpk2; rintro e w5 ⟨rfl, hD5, hk5⟩)
    have hK5 : Keeps (fun _ => False) w w5 := hK4.trans' hk5 (fun i hi h => by have := HRe.out; omega)
    clear hD4 hK4 hk5
    have hpk4 := dpick (z := 40) hD5 hl (by omega) (by omega) (by omega)
    go_wp2_with (go_at_call 15; refine hpk4.mono ?_; clear hpk4; rintro e wz ⟨kz, hkz0, hkzl, rfl, hDz, hkz⟩; clear hkz0)
    · go_ret
      exact ⟨_, rfl, by first | omega | decide | (show (0 : Nat) ≤ 200; omega), hK5.trans' hkz (fun i hi h => by have := HRe.out; omega)⟩
    · go_ret
      exact ⟨_, rfl, by first | omega | decide | (show (0 : Nat) ≤ 200; omega), hK5.trans' hkz (fun i hi h => by have := HRe.out; omega)⟩

end Go.Proofs.YtmlgmhnplicflaaDoor.Quo
