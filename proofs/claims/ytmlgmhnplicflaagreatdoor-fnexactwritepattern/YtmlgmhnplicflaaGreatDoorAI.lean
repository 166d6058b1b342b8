import Derived.Test.YtmlgmhnplicflaaGreatDoorAH

/-
  The program's nodes as texts: all kinds of nodes but groups.
-/
namespace Go.Proofs.YtmlgmhnplicflaaGreatDoor
open Go.RowKit
set_option linter.unusedVariables false

/-- A node that can be written on, in every world that has kept the blocks of D. -/
def WrC (w0 : World) (D : Nat → Prop) (v : Value) (t : Tx) : Prop :=
  ∀ (w : World), Keeps (fun k => ¬ D k) w0 w → ∀ (A : Nat → Prop) (x : Value) (l : Tx), (∀ k, D k → A k) → There A w → Tr w A x l → l.length + t.length ≤ 800000 → TabOk A w →
    Calls Tryz.prog 48 #[x, v] w (TrP A (l ++ t) w)
theorem keeps_wrt {w0 w w' : World} {D A : Nat → Prop} (h : Keeps (fun k => ¬ D k) w0 w) (k : Wrt A w w') (hD : ∀ k, D k → A k) : Keeps (fun k => ¬ D k) w0 w' :=
  h.trans' k.keeps (fun i _ hA hDi => hA (hD i hDi))

set_option maxHeartbeats 2000000 in
set_option maxRecDepth 100000 in
theorem wr_set {w0 : World} {D : Nat → Prop} {S : Bs} {f : Nat → Nat} (hS : Bv S f) : WrC w0 D (.iface 164 (.agg #[.int .u64 (f 0), .int .u64 (f 1), .int .u64 (f 2), .int .u64 (f 3)])) (rsTxt (ranges S)) := by
  intro w hw0 A x l hDA hA hT hlen htab
  obtain ⟨ao, cap, rfl⟩ := hT.form
  have kA : ∀ o, Wrt A w (w.alloc o) := fun o => (Wrt.refl _ _).alloc _
  have hcall := fun o => appendSet_any (w := w.alloc o) hS (hT.alloc o) ((kA o).there hA) (by omega)
  have ta0 : ∀ (x : Value) (w : World), (Instr.typeAssert (.iface 164 x) 94 164 true).run Tryz.prog w = .ok (.tuple #[x, .bool true]) w := fun _ _ => by kernel_rfl
  go_enter Tryz.func48, Tryz.ntmps48
  go_wp2_with (first
    | (go_at_call 81; refine (hcall _).mono ?_; rintro e w2 ⟨ao2, m2, cap2, H2, rfl, hT2, hW2⟩))
  go_ret
  exact trP_mk rfl H2 hT2 ((kA _).trans hW2)

set_option maxHeartbeats 2000000 in
set_option maxRecDepth 100000 in
theorem wr_start {w0 : World} {D : Nat → Prop} : WrC w0 D (.iface 176 (.agg #[])) [94] := by
  intro w hw0 A x l hDA hA hT hlen htab
  obtain ⟨ao, cap, rfl⟩ := hT.form
  have kA : Wrt A w (w.alloc (.cells #[] 176)) := (Wrt.refl _ _).alloc _
  obtain ⟨ao2, m2, cap2, w2, H2, hr2, hT2, hW2⟩ := tr1 (hT.alloc (.cells #[] 176)) (kA.there hA) 94 94 rfl (by omega)
  rw [show (w.alloc (.cells #[] 176)).heap.size = w.heap.size + 1 from by simp] at hr2
  have ta0 : ∀ (x : Value) (w : World), (Instr.typeAssert (.iface 176 x) 94 164 true).run Tryz.prog w = .ok (.tuple #[.agg #[.int .u64 0, .int .u64 0, .int .u64 0, .int .u64 0], .bool false]) w := fun _ _ => by kernel_rfl
  have ta1 : ∀ (x : Value) (w : World), (Instr.typeAssert (.iface 176 x) 94 167 true).run Tryz.prog w = .ok (.tuple #[.agg #[.slice none 0 0], .bool false]) w := fun _ _ => by kernel_rfl
  have ta2 : ∀ (x : Value) (w : World), (Instr.typeAssert (.iface 176 x) 94 169 true).run Tryz.prog w = .ok (.tuple #[.agg #[.slice none 0 0], .bool false]) w := fun _ _ => by kernel_rfl
  have ta3 : ∀ (x : Value) (w : World), (Instr.typeAssert (.iface 176 x) 94 171 true).run Tryz.prog w = .ok (.tuple #[.agg #[.int .i64 0, .int .i64 0, .bool false, .nilIface], .bool false]) w := fun _ _ => by kernel_rfl
  have ta4 : ∀ (x : Value) (w : World), (Instr.typeAssert (.iface 176 x) 94 174 true).run Tryz.prog w = .ok (.tuple #[.agg #[.int .i64 0, .nilIface], .bool false]) w := fun _ _ => by kernel_rfl
  have ta5 : ∀ (x : Value) (w : World), (Instr.typeAssert (.iface 176 x) 94 176 true).run Tryz.prog w = .ok (.tuple #[x, .bool true]) w := fun _ _ => by kernel_rfl
  go_enter Tryz.func48, Tryz.ntmps48
  go_wp2_with (at_builtin; refine wpList_append_run rfl _ _ _ _ rfl rfl (.slice ao l.length cap) _ _ _ rfl rfl hr2 ?_)
  go_ret
  exact trP_mk rfl H2 hT2 (kA.trans hW2)

set_option maxHeartbeats 2000000 in
set_option maxRecDepth 100000 in
theorem wr_end {w0 : World} {D : Nat → Prop} : WrC w0 D (.iface 177 (.agg #[])) [36] := by
  intro w hw0 A x l hDA hA hT hlen htab
  obtain ⟨ao, cap, rfl⟩ := hT.form
  have kA : Wrt A w (w.alloc (.cells #[] 177)) := (Wrt.refl _ _).alloc _
  obtain ⟨ao2, m2, cap2, w2, H2, hr2, hT2, hW2⟩ := tr1 (hT.alloc (.cells #[] 177)) (kA.there hA) 36 36 rfl (by omega)
  rw [show (w.alloc (.cells #[] 177)).heap.size = w.heap.size + 1 from by simp] at hr2
  have ta0 : ∀ (x : Value) (w : World), (Instr.typeAssert (.iface 177 x) 94 164 true).run Tryz.prog w = .ok (.tuple #[.agg #[.int .u64 0, .int .u64 0, .int .u64 0, .int .u64 0], .bool false]) w := fun _ _ => by kernel_rfl
  have ta1 : ∀ (x : Value) (w : World), (Instr.typeAssert (.iface 177 x) 94 167 true).run Tryz.prog w = .ok (.tuple #[.agg #[.slice none 0 0], .bool false]) w := fun _ _ => by kernel_rfl
  have ta2 : ∀ (x : Value) (w : World), (Instr.typeAssert (.iface 177 x) 94 169 true).run Tryz.prog w = .ok (.tuple #[.agg #[.slice none 0 0], .bool false]) w := fun _ _ => by kernel_rfl
  have ta3 : ∀ (x : Value) (w : World), (Instr.typeAssert (.iface 177 x) 94 171 true).run Tryz.prog w = .ok (.tuple #[.agg #[.int .i64 0, .int .i64 0, .bool false, .nilIface], .bool false]) w := fun _ _ => by kernel_rfl
  have ta4 : ∀ (x : Value) (w : World), (Instr.typeAssert (.iface 177 x) 94 174 true).run Tryz.prog w = .ok (.tuple #[.agg #[.int .i64 0, .nilIface], .bool false]) w := fun _ _ => by kernel_rfl
  have ta5 : ∀ (x : Value) (w : World), (Instr.typeAssert (.iface 177 x) 94 176 true).run Tryz.prog w = .ok (.tuple #[.agg #[], .bool false]) w := fun _ _ => by kernel_rfl
  have ta6 : ∀ (x : Value) (w : World), (Instr.typeAssert (.iface 177 x) 94 177 true).run Tryz.prog w = .ok (.tuple #[x, .bool true]) w := fun _ _ => by kernel_rfl
  go_enter Tryz.func48, Tryz.ntmps48
  go_wp2_with (at_builtin; refine wpList_append_run rfl _ _ _ _ rfl rfl (.slice ao l.length cap) _ _ _ rfl rfl hr2 ?_)
  go_ret
  exact trP_mk rfl H2 hT2 (kA.trans hW2)

set_option maxHeartbeats 2000000 in
set_option maxRecDepth 100000 in
theorem wr_rep {w0 : World} {D : Nat → Prop} {a : Value} {t : Tx} {lo hi : Int} {lz : Bool} (h1 : B64 lo) (h2 : B64 hi) (ha : ∃ ty y, a = .iface ty y) (ih : WrC w0 D a t) : WrC w0 D (.iface 171 (.agg #[.int .i64 lo, .int .i64 hi, .bool lz, a])) (t ++ cntTxt lo hi lz) := by
  intro w hw0 A x l hDA hA hT hlen htab
  obtain ⟨ao, cap, rfl⟩ := hT.form
  obtain ⟨ty, y, rfl⟩ := ha
  rw [List.length_append] at hlen
  have kA : Wrt A w (w.alloc (.cells #[.int .i64 lo, .int .i64 hi, .bool lz, .iface ty y] 171)) := (Wrt.refl _ _).alloc _
  have hR : Rn (w.alloc (.cells #[.int .i64 lo, .int .i64 hi, .bool lz, .iface ty y] 171)) w.heap.size lo hi lz (.iface ty y) := heap_alloc_new w _
  have hT1 : Tr (w.alloc (.cells #[.int .i64 lo, .int .i64 hi, .bool lz, .iface ty y] 171)) A (.slice ao l.length cap) l := hT.alloc _
  have ta0 : ∀ (x : Value) (w : World), (Instr.typeAssert (.iface 171 x) 94 164 true).run Tryz.prog w = .ok (.tuple #[.agg #[.int .u64 0, .int .u64 0, .int .u64 0, .int .u64 0], .bool false]) w := fun _ _ => by kernel_rfl
  have ta1 : ∀ (x : Value) (w : World), (Instr.typeAssert (.iface 171 x) 94 167 true).run Tryz.prog w = .ok (.tuple #[.agg #[.slice none 0 0], .bool false]) w := fun _ _ => by kernel_rfl
  have ta2 : ∀ (x : Value) (w : World), (Instr.typeAssert (.iface 171 x) 94 169 true).run Tryz.prog w = .ok (.tuple #[.agg #[.slice none 0 0], .bool false]) w := fun _ _ => by kernel_rfl
  have ta3 : ∀ (x : Value) (w : World), (Instr.typeAssert (.iface 171 x) 94 171 true).run Tryz.prog w = .ok (.tuple #[x, .bool true]) w := fun _ _ => by kernel_rfl
  go_enter Tryz.func48, Tryz.ntmps48
  go_upto_region 23 with fail
  clear hT
  generalize w.alloc (.cells #[.int .i64 lo, .int .i64 hi, .bool lz, .iface ty y] 171) = w1 at kA hR hT1 ⊢
  generalize w.heap.size = P at hR ⊢
  have hcall := ih w1.drew (keeps_wrt hw0 kA.drew hDA) A _ l hDA (kA.drew.there hA) hT1.drew (by omega) (htab.on kA.drew)
  have c0 := hR.c0; have c1 := hR.c1; have c2 := hR.c2; have c3 := hR.c3
  clear ta0 ta1 ta2 ta3
  go_region_with (first
    | (go_at_call 48; refine hcall.mono ?_; rintro e w2 ⟨ao2, m2, cap2, H2, rfl, hT2, hW2⟩; have hR2 := hR.wrt hW2.ofDrew; have d0 := hR2.c0; have d1 := hR2.c1; have d2 := hR2.c2; have d3 := hR2.c3)
    | (go_at_call 82; refine (appendCounts_any hT2 ((kA.trans hW2.ofDrew).there hA) (by rw [List.length_append]; omega) h1 h2 (htab.on (kA.trans hW2.ofDrew))).mono ?_; rintro e w3 ⟨ao3, m3, cap3, H3, rfl, hT3, hW3⟩))
  all_goals go_wp2
  all_goals go_ret
  all_goals exact trP_mk (List.append_assoc _ _ _) H3 hT3 ((kA.trans hW2.ofDrew).trans hW3)

theorem flat_take {ts : List Tx} {k : Nat} {t : Tx} (h : ts[k]? = some t) : (ts.take (k + 1)).flatten = (ts.take k).flatten ++ t := by
  rw [List.take_add_one, h]; simp
theorem flat_take_le (ts : List Tx) (k : Nat) : (ts.take k).flatten.length ≤ ts.flatten.length := by
  conv => rhs; rw [← List.take_append_drop k ts]
  rw [List.flatten_append, List.length_append]; omega

set_option maxHeartbeats 2000000 in
set_option maxRecDepth 100000 in
theorem wr_seq {w0 : World} {D : Nat → Prop} {v : Value} {vs : List Value} {ts : List Tx} (ho : w0.ownsRow 0 94 1 v vs.length vs) (hD : ∀ k, v.ownBlock = some k → D k) (hl : ts.length = vs.length) (hn : vs.length ≤ 1000)
    (hf : ∀ x ∈ vs, ∃ ty y, x = .iface ty y) (ih : ∀ (i : Nat) (x : Value) (t : Tx), vs[i]? = some x → ts[i]? = some t → WrC w0 D x t) : WrC w0 D (.iface 167 (.agg #[v])) ts.flatten := by
  intro w hw0 A x l hDA hA hT hlen htab
  obtain ⟨ao, cap, rfl⟩ := hT.form
  obtain ⟨ao9, cap9, rfl⟩ := own_form ho
  have kA : Wrt A w (w.alloc (.cells #[.slice ao9 vs.length cap9] 167)) := (Wrt.refl _ _).alloc _
  have HL : Hid (ts.length = vs.length) := hl
  clear hl
  have ta0 : ∀ (x : Value) (w : World), (Instr.typeAssert (.iface 167 x) 94 164 true).run Tryz.prog w = .ok (.tuple #[.agg #[.int .u64 0, .int .u64 0, .int .u64 0, .int .u64 0], .bool false]) w := fun _ _ => by kernel_rfl
  have ta1 : ∀ (x : Value) (w : World), (Instr.typeAssert (.iface 167 x) 94 167 true).run Tryz.prog w = .ok (.tuple #[x, .bool true]) w := fun _ _ => by kernel_rfl
  go_enter Tryz.func48, Tryz.ntmps48
  go_wp2
  clear ta0 ta1
  go_loopw [0, 30] (fun o i wr => ∃ (k : Nat) (ao4 : Option Addr) (m4 cap4 : Nat), k ≤ vs.length ∧ i = .int .i64 k ∧ o = .slice ao4 m4 cap4 ∧ Hid (m4 = (l ++ (ts.take k).flatten).length) ∧ Tr wr A (.slice ao4 m4 cap4) (l ++ (ts.take k).flatten) ∧ Wrt A w wr) (fun _ i _ => vs.length - (intOf i).toNat)
  case atStart => exact ⟨0, ao, l.length, cap, Nat.zero_le _, rfl, rfl, (by show _ = _; simp), by simpa using hT.alloc _, kA⟩
  case round =>
    obtain ⟨k, ao4, m4, cap4, hk, rfl, rfl, H4, hT4, hW4⟩ := hrel
    have hw4 := keeps_wrt hw0 hW4 hDA
    have hA4 := hW4.there hA
    by_cases hlt : k < vs.length
    · obtain ⟨g, rfl⟩ := row_fm ho (by omega)
      have hv : vs[k]? = some vs[k] := List.getElem?_eq_getElem hlt
      have htk : ts[k]? = some (ts[k]'(by rw [HL.out]; exact hlt)) := List.getElem?_eq_getElem _
      generalize ts[k]'(by rw [HL.out]; exact hlt) = t at htk
      have hcv : wr.cell? ⟨g, k, none⟩ = some vs[k] := by
        rw [(ownsRow_keeps ho hw4 (fun i hi h => h (hD i hi))).cellAt k (by omega)]; exact hv
      obtain ⟨ty, y, hxy⟩ := hf vs[k] (List.getElem_mem hlt)
      rw [hxy] at hcv hv
      have hft := flat_take htk
      have hfl := flat_take_le ts (k + 1)
      rw [hft, List.length_append] at hfl
      have hcall := ih k _ t hv htk wr hw4 A _ (l ++ (ts.take k).flatten) hDA hA4 hT4 (by rw [List.length_append]; omega) (htab.on hW4)
      have HX : Hid (l ++ (ts.take k).flatten ++ t = l ++ (ts.take (k + 1)).flatten) := (by show _ = _; rw [hft, List.append_assoc])
      have hkz : (k : Int) < (vs.length : Int) := by omega
      clear hft hxy hv htk
      go_wp2_with (first
        | (go_at_call 48; refine hcall.mono ?_; rintro e w5 ⟨ao5, m5, cap5, H5, rfl, hT5, hW5⟩))
      go_roundw
      case rel =>
        refine ⟨k + 1, ao5, m5, cap5, by omega, by go_num, rfl, ?_, ?_, hW4.trans hW5⟩
        · show _ = _; rw [← HX.out]; exact H5.out
        · rw [← HX.out]; exact hT5
      case measure => simp [intOf]; omega
    · obtain rfl : k = vs.length := by omega
      have e : ts.take vs.length = ts := by rw [← HL.out]; exact List.take_length
      rw [e] at H4 hT4
      clear e
      go_wp2
      go_ret
      exact trP_mk rfl H4 hT4 hW4

theorem bar_take {ts : List Tx} {k : Nat} {t : Tx} (h : ts[k]? = some t) (hk : 0 < k) : barTxt (ts.take (k + 1)) = barTxt (ts.take k) ++ [124] ++ t := by
  obtain ⟨m, rfl⟩ : ∃ m, k = m + 1 := ⟨k - 1, by omega⟩
  cases ts with
  | nil => simp at h
  | cons a ts =>
    simp only [List.getElem?_cons_succ] at h
    simp only [List.take_succ_cons, barTxt]
    rw [List.take_add_one, h]
    simp
theorem bar_one {ts : List Tx} {t : Tx} (h : ts[0]? = some t) : barTxt (ts.take 1) = t := by
  cases ts with
  | nil => simp at h
  | cons a ts => simp at h; subst h; simp [barTxt]
theorem bar_take_le (ts : List Tx) (k : Nat) : (barTxt (ts.take k)).length ≤ (barTxt ts).length := by
  cases ts with
  | nil => simp
  | cons a ts =>
    cases k with
    | zero => simp [barTxt]
    | succ k =>
      simp only [List.take_succ_cons, barTxt, List.length_append]
      have : ((ts.take k).flatMap (124 :: ·)).length ≤ (ts.flatMap (124 :: ·)).length := by
        conv => rhs; rw [← List.take_append_drop k ts]
        rw [List.flatMap_append, List.length_append]; omega
      omega

set_option maxHeartbeats 2000000 in
set_option maxRecDepth 100000 in
theorem wr_alt {w0 : World} {D : Nat → Prop} {v : Value} {vs : List Value} {ts : List Tx} (ho : w0.ownsRow 0 94 1 v vs.length vs) (hD : ∀ k, v.ownBlock = some k → D k) (hl : ts.length = vs.length) (hn : vs.length ≤ 1000)
    (hf : ∀ x ∈ vs, ∃ ty y, x = .iface ty y) (ih : ∀ (i : Nat) (x : Value) (t : Tx), vs[i]? = some x → ts[i]? = some t → WrC w0 D x t) : WrC w0 D (.iface 169 (.agg #[v])) (barTxt ts) := by
  intro w hw0 A x l hDA hA hT hlen htab
  obtain ⟨ao, cap, rfl⟩ := hT.form
  obtain ⟨ao9, cap9, rfl⟩ := own_form ho
  have kA : Wrt A w (w.alloc (.cells #[.slice ao9 vs.length cap9] 169)) := (Wrt.refl _ _).alloc _
  have HL : Hid (ts.length = vs.length) := hl
  clear hl
  have ta0 : ∀ (x : Value) (w : World), (Instr.typeAssert (.iface 169 x) 94 164 true).run Tryz.prog w = .ok (.tuple #[.agg #[.int .u64 0, .int .u64 0, .int .u64 0, .int .u64 0], .bool false]) w := fun _ _ => by kernel_rfl
  have ta1 : ∀ (x : Value) (w : World), (Instr.typeAssert (.iface 169 x) 94 167 true).run Tryz.prog w = .ok (.tuple #[.agg #[.slice none 0 0], .bool false]) w := fun _ _ => by kernel_rfl
  have ta2 : ∀ (x : Value) (w : World), (Instr.typeAssert (.iface 169 x) 94 169 true).run Tryz.prog w = .ok (.tuple #[x, .bool true]) w := fun _ _ => by kernel_rfl
  go_enter Tryz.func48, Tryz.ntmps48
  go_wp2
  clear ta0 ta1 ta2
  go_loopw [0, 44] (fun o i wr => ∃ (k : Nat) (ao4 : Option Addr) (m4 cap4 : Nat), k ≤ vs.length ∧ i = .int .i64 k ∧ o = .slice ao4 m4 cap4 ∧ Hid (m4 = (l ++ barTxt (ts.take k)).length) ∧ Tr wr A (.slice ao4 m4 cap4) (l ++ barTxt (ts.take k)) ∧ Wrt A w wr) (fun _ i _ => vs.length - (intOf i).toNat)
  case atStart => exact ⟨0, ao, l.length, cap, Nat.zero_le _, rfl, rfl, (by show _ = _; simp [barTxt]), by simpa [barTxt] using hT.alloc _, kA⟩
  case round =>
    obtain ⟨k, ao4, m4, cap4, hk, rfl, rfl, H4, hT4, hW4⟩ := hrel
    have hw4 := keeps_wrt hw0 hW4 hDA
    have hA4 := hW4.there hA
    by_cases hlt : k < vs.length
    · obtain ⟨g, rfl⟩ := row_fm ho (by omega)
      have hv : vs[k]? = some vs[k] := List.getElem?_eq_getElem hlt
      have htk : ts[k]? = some (ts[k]'(by rw [HL.out]; exact hlt)) := List.getElem?_eq_getElem _
      generalize ts[k]'(by rw [HL.out]; exact hlt) = t at htk
      have hcv : wr.cell? ⟨g, k, none⟩ = some vs[k] := by
        rw [(ownsRow_keeps ho hw4 (fun i hi h => h (hD i hi))).cellAt k (by omega)]; exact hv
      obtain ⟨ty, y, hxy⟩ := hf vs[k] (List.getElem_mem hlt)
      rw [hxy] at hcv hv
      have hfl := bar_take_le ts (k + 1)
      have hkz : (k : Int) < (vs.length : Int) := by omega
      by_cases hk0 : k = 0
      · subst hk0
        have hft := bar_one htk
        rw [hft] at hfl
        have hcall := ih 0 _ t hv htk wr hw4 A _ (l ++ barTxt (ts.take 0)) hDA hA4 hT4 (by simp [barTxt]; omega) (htab.on hW4)
        have HX : Hid (l ++ barTxt (ts.take 0) ++ t = l ++ barTxt (ts.take (0 + 1))) := (by show _ = _; rw [hft]; simp [barTxt])
        clear hft hxy hv htk
        go_wp2_with (first
          | (go_at_call 48; refine hcall.mono ?_; rintro e w5 ⟨ao5, m5, cap5, H5, rfl, hT5, hW5⟩))
        go_roundw
        case rel =>
          refine ⟨0 + 1, ao5, m5, cap5, by omega, by go_num, rfl, ?_, ?_, hW4.trans hW5⟩
          · show _ = _; rw [← HX.out]; exact H5.out
          · rw [← HX.out]; exact hT5
        case measure => simp [intOf]; omega
      · have hft := bar_take htk (by omega)
        rw [hft, List.length_append, List.length_append] at hfl
        simp only [List.length_cons, List.length_nil] at hfl
        have hkp : (0 : Int) < (k : Int) := by omega
        obtain ⟨ao6, m6, cap6, w6, H6, hr6, hT6, hW6⟩ := tr1 hT4 hA4 124 124 rfl (by rw [List.length_append]; omega)
        have hcall := ih k _ t hv htk w6 (keeps_wrt hw4 hW6 hDA) A _ (l ++ barTxt (ts.take k) ++ [124]) hDA (hW6.there hA4) hT6 (by simp only [List.length_append, List.length_cons, List.length_nil]; omega) (htab.on (hW4.trans hW6))
        have HX : Hid (l ++ barTxt (ts.take k) ++ [124] ++ t = l ++ barTxt (ts.take (k + 1))) := (by show _ = _; rw [hft]; simp)
        clear hft hxy hv htk
        go_upto_region 19 with (at_builtin; refine wpList_append_run rfl _ _ _ _ rfl rfl (.slice ao4 m4 cap4) _ _ _ rfl rfl hr6 ?_)
        go_wp2_with (first
          | (go_at_call 48; refine hcall.mono ?_; rintro e w5 ⟨ao5, m5, cap5, H5, rfl, hT5, hW5⟩))
        go_roundw
        case rel =>
          refine ⟨k + 1, ao5, m5, cap5, by omega, by go_num, rfl, ?_, ?_, (hW4.trans hW6).trans hW5⟩
          · show _ = _; rw [← HX.out]; exact H5.out
          · rw [← HX.out]; exact hT5
        case measure => simp [intOf]; omega
    · obtain rfl : k = vs.length := by omega
      have e : ts.take vs.length = ts := by rw [← HL.out]; exact List.take_length
      rw [e] at H4 hT4
      clear e
      go_wp2
      go_ret
      exact trP_mk rfl H4 hT4 hW4

end Go.Proofs.YtmlgmhnplicflaaGreatDoor

/-
  The program's nodes as texts: groups, and every node.
-/
namespace Go.Proofs.YtmlgmhnplicflaaGreatDoor
open Go.RowKit
set_option linter.unusedVariables false

/-- A group in a variable. -/
def Gn (w : World) (P : Nat) (num : Int) (a : Value) : Prop := w.heap[P]? = some (.cells #[.int .i64 num, a] 174 (0, 0))
theorem Gn.wrt {w w' : World} {P : Nat} {num : Int} {a : Value} {A : Nat → Prop} (h : Gn w P num a) (k : Wrt A w w') : Gn w' P num a := k.block h (by decide)
theorem Gn.c1 {w : World} {P : Nat} {num : Int} {a : Value} (h : Gn w P num a) : w.cell? ⟨P, 1, none⟩ = some a := by rw [cell_of h]; rfl

theorem trAt {w : World} {A : Nat → Prop} {v : Value} {l : Tx} (h : Tr w A v l) (hA : There A w) (c : UInt8) (n : Int) (hc : (c.toNat : Int) = n) (b : Nat) (hb : w.heap[b]? = some (.cells #[.int .u8 n] 5 (0, 0))) (hn : l.length + 1 ≤ 2000000) :
    ∃ ao m cap w1, Hid (m = (l ++ [c]).length) ∧ Sem.run Tryz.prog (Builtin.append_ #[22, 22] 22 #[v, .slice (some ⟨b, 0, none⟩) 1 1]) w = .ok (.slice ao m cap) w1 ∧ Tr w1 A (.slice ao m cap) (l ++ [c]) ∧ Wrt A w w1 := by
  obtain ⟨ao, cap, w1, h1, h2, h3⟩ := tr_append_at h hA [c] ⟨b, 0, none⟩ 1 1 rfl (by
    intro j u hj
    match j, hj with
    | 0, hj =>
      simp [Esc.cellsOf] at hj
      subst hj
      have e : Addr.add ⟨b, 0, none⟩ 0 = ⟨b, 0, none⟩ := by simp [Addr.add]
      rw [e, cell_of hb, ← hc]; rfl) hn
  exact ⟨ao, _, cap, w1, rfl, h1, h2, h3⟩

set_option maxHeartbeats 4000000 in
set_option maxRecDepth 100000 in
theorem wr_grp {w0 : World} {D : Nat → Prop} {a : Value} {t : Tx} {num : Int} (ha : ∃ ty y, a = .iface ty y) (ih : WrC w0 D a t) : WrC w0 D (.iface 174 (.agg #[.int .i64 num, a])) (40 :: (t ++ [41])) := by
  intro w hw0 A x l hDA hA hT hlen htab
  obtain ⟨ao, cap, rfl⟩ := hT.form
  obtain ⟨ty, y, rfl⟩ := ha
  simp only [List.length_cons, List.length_append, List.length_nil] at hlen
  have kA : Wrt A w (w.alloc (.cells #[.int .i64 num, .iface ty y] 174)) := (Wrt.refl _ _).alloc _
  have hG : Gn (w.alloc (.cells #[.int .i64 num, .iface ty y] 174)) w.heap.size num (.iface ty y) := heap_alloc_new w _
  have hT1 : Tr (w.alloc (.cells #[.int .i64 num, .iface ty y] 174)) A (.slice ao l.length cap) l := hT.alloc _
  have ta0 : ∀ (x : Value) (w : World), (Instr.typeAssert (.iface 174 x) 94 164 true).run Tryz.prog w = .ok (.tuple #[.agg #[.int .u64 0, .int .u64 0, .int .u64 0, .int .u64 0], .bool false]) w := fun _ _ => by kernel_rfl
  have ta1 : ∀ (x : Value) (w : World), (Instr.typeAssert (.iface 174 x) 94 167 true).run Tryz.prog w = .ok (.tuple #[.agg #[.slice none 0 0], .bool false]) w := fun _ _ => by kernel_rfl
  have ta2 : ∀ (x : Value) (w : World), (Instr.typeAssert (.iface 174 x) 94 169 true).run Tryz.prog w = .ok (.tuple #[.agg #[.slice none 0 0], .bool false]) w := fun _ _ => by kernel_rfl
  have ta3 : ∀ (x : Value) (w : World), (Instr.typeAssert (.iface 174 x) 94 171 true).run Tryz.prog w = .ok (.tuple #[.agg #[.int .i64 0, .int .i64 0, .bool false, .nilIface], .bool false]) w := fun _ _ => by kernel_rfl
  have ta4 : ∀ (x : Value) (w : World), (Instr.typeAssert (.iface 174 x) 94 174 true).run Tryz.prog w = .ok (.tuple #[x, .bool true]) w := fun _ _ => by kernel_rfl
  go_enter Tryz.func48, Tryz.ntmps48
  go_upto_region 26 with fail
  clear hT ta0 ta1 ta2 ta3 ta4
  generalize w.alloc (.cells #[.int .i64 num, .iface ty y] 174) = w1 at kA hG hT1 ⊢
  generalize w.heap.size = P at hG ⊢
  have hw1 := keeps_wrt hw0 kA hDA
  have hA1 := kA.there hA
  have ht1 := htab.on kA
  have c1 := hG.c1
  have C1 := fun o => (hG.wrt ((Wrt.refl A w1).alloc o)).c1
  have C2 := fun o o' => (hG.wrt (((Wrt.refl A w1).alloc o).alloc o')).c1
  have HE : Hid (l ++ [40] ++ t ++ [41] = l ++ 40 :: (t ++ [41])) := (by show _ = _; simp)
  -- the first bracket's row alone is there
  obtain ⟨aoA, mA, capA, wA, HA, rA0, hTA, hWA⟩ := tr1 hT1.drew hA1 40 40 rfl (by omega)
  have rA : Sem.run Tryz.prog (Builtin.append_ #[22, 22] 22 #[.slice ao l.length cap, .slice (some ⟨w1.heap.size, 0, none⟩) 1 1]) (w1.alloc (.cells #[.int .u8 40] 5)).drew = .ok (.slice aoA mA capA) wA := rA0
  replace hWA := hWA.ofDrew
  have dA := (hG.wrt hWA).c1
  have DA := fun o => (hG.wrt (hWA.alloc o)).c1
  have callA := ih wA (keeps_wrt hw1 hWA hDA) A _ (l ++ [40]) hDA (hWA.there hA1) hTA (by simp; omega) (ht1.on hWA)
  have kA4 : Wrt A w1 (wA.alloc (.cells #[.int .u8 41] 5)) := hWA.alloc _
  have b4 : (wA.alloc (.cells #[.int .u8 41] 5)).heap[wA.heap.size]? = some (.cells #[.int .u8 41] 5 (0, 0)) := heap_alloc_new wA _
  have hAD : There (fun k => A k ∨ k = wA.heap.size) (wA.alloc (.cells #[.int .u8 41] 5)) := fun k hk => by
    rcases hk with hk | hk
    · exact kA4.there hA1 k hk
    · subst hk; simp
  have hTD : Tr (wA.alloc (.cells #[.int .u8 41] 5)) (fun k => A k ∨ k = wA.heap.size) (.slice aoA mA capA) (l ++ [40]) := ⟨hTA.row.alloc _, fun k hk h => by
    rcases h with h | h
    · exact hTA.out k hk h
    · have := (hTA.row.lt k hk).2; omega⟩
  have callD := ih (wA.alloc (.cells #[.int .u8 41] 5)) (keeps_wrt hw1 kA4 hDA) (fun k => A k ∨ k = wA.heap.size) _ (l ++ [40]) (fun k hk => Or.inl (hDA k hk)) hAD hTD (by simp; omega) ((ht1.on kA4).mono (fun k hk => Or.inl hk))
  -- the last bracket's row came first
  have kB : Wrt A w1 (w1.alloc (.cells #[.int .u8 41] 5)) := (Wrt.refl _ _).alloc _
  have bB : (w1.alloc (.cells #[.int .u8 41] 5)).heap[w1.heap.size]? = some (.cells #[.int .u8 41] 5 (0, 0)) := heap_alloc_new w1 _
  have hAB : There (fun k => A k ∨ k = w1.heap.size) (w1.alloc (.cells #[.int .u8 41] 5)) := fun k hk => by
    rcases hk with hk | hk
    · exact kB.there hA1 k hk
    · subst hk; simp
  have hTB0 : Tr (w1.alloc (.cells #[.int .u8 41] 5)) (fun k => A k ∨ k = w1.heap.size) (.slice ao l.length cap) l := ⟨hT1.row.alloc _, fun k hk h => by
    rcases h with h | h
    · exact hT1.out k hk h
    · have := (hT1.row.lt k hk).2; omega⟩
  obtain ⟨aoB, mB, capB, wB, HB, rB0, hTB, hWB⟩ := tr1 hTB0.drew hAB 40 40 rfl (by omega)
  have rB : Sem.run Tryz.prog (Builtin.append_ #[22, 22] 22 #[.slice ao l.length cap, .slice (some ⟨(w1.alloc (.cells #[.int .u8 41] 5)).heap.size, 0, none⟩) 1 1]) ((w1.alloc (.cells #[.int .u8 41] 5)).alloc (.cells #[.int .u8 40] 5)).drew = .ok (.slice aoB mB capB) wB := rB0
  rw [show (w1.alloc (.cells #[.int .u8 41] 5)).heap.size = w1.heap.size + 1 from by simp] at rB
  replace hWB := hWB.ofDrew
  have bB2 := hWB.keeps.block w1.heap.size (by simp) (by simp)
  rw [bB] at bB2
  have kB2 := kB.trans (hWB.mono (A' := A) (fun k hk => Or.inl hk))
  have dB := (hG.wrt kB2).c1
  have callB := ih wB (keeps_wrt hw1 kB2 hDA) (fun k => A k ∨ k = w1.heap.size) _ (l ++ [40]) (fun k hk => Or.inl (hDA k hk)) (hWB.there hAB) hTB (by simp; omega) ((ht1.on kB2).mono (fun k hk => Or.inl hk))
  -- both rows are there ahead of the first append
  have kC : Wrt A w1 ((w1.alloc (.cells #[.int .u8 40] 5)).alloc (.cells #[.int .u8 41] 5)).drew := (((Wrt.refl _ _).alloc _).alloc _).drew
  have bC0 : ((w1.alloc (.cells #[.int .u8 40] 5)).alloc (.cells #[.int .u8 41] 5)).drew.heap[w1.heap.size]? = some (.cells #[.int .u8 40] 5 (0, 0)) := box1 w1 _ _
  have bC1 : ((w1.alloc (.cells #[.int .u8 40] 5)).alloc (.cells #[.int .u8 41] 5)).drew.heap[w1.heap.size + 1]? = some (.cells #[.int .u8 41] 5 (0, 0)) := box2 w1 _ _
  have hAC : There (fun k => A k ∨ k = w1.heap.size + 1) ((w1.alloc (.cells #[.int .u8 40] 5)).alloc (.cells #[.int .u8 41] 5)).drew := fun k hk => by
    rcases hk with hk | hk
    · exact kC.there hA1 k hk
    · subst hk; exact lt_of_block bC1
  have hTC0 : Tr ((w1.alloc (.cells #[.int .u8 40] 5)).alloc (.cells #[.int .u8 41] 5)).drew (fun k => A k ∨ k = w1.heap.size + 1) (.slice ao l.length cap) l := ⟨(hT1.row.alloc _).alloc _, fun k hk h => by
    rcases h with h | h
    · exact hT1.out k hk h
    · have := (hT1.row.lt k hk).2; omega⟩
  obtain ⟨aoC, mC, capC, wC, HC, rC, hTC, hWC⟩ := trAt hTC0 hAC 40 40 rfl w1.heap.size bC0 (by omega)
  have bC2 := hWC.keeps.block (w1.heap.size + 1) (lt_of_block bC1) (by simp)
  rw [bC1] at bC2
  have kC2 := kC.trans (hWC.mono (A' := A) (fun k hk => Or.inl hk))
  have dC := (hG.wrt kC2).c1
  have callC := ih wC (keeps_wrt hw1 kC2 hDA) (fun k => A k ∨ k = w1.heap.size + 1) _ (l ++ [40]) (fun k hk => Or.inl (hDA k hk)) (hWC.there hAC) hTC (by simp; omega) ((ht1.on kC2).mono (fun k hk => Or.inl hk))
  clear rA0 rB0 hTB0 hTC0 bC0 bC1
  go_region_law (first
    | (refine step_append_run rfl _ _ _ _ rfl rfl (.slice ao l.length cap) (.slice (some ⟨w1.heap.size, 0, none⟩) 1 1) _ _ rfl rfl rA ?_)
    | (refine step_append_run rfl _ _ _ _ rfl rfl (.slice ao l.length cap) (.slice (some ⟨w1.heap.size + 1, 0, none⟩) 1 1) _ _ rfl rfl rB ?_)
    | (refine step_append_run rfl _ _ _ _ rfl rfl (.slice ao l.length cap) (.slice (some ⟨w1.heap.size, 0, none⟩) 1 1) _ _ rfl rfl rC ?_)
    | (refine step_append_run rfl _ _ _ _ rfl rfl (.slice ao3 m3 cap3) (.slice (some ⟨w3.heap.size, 0, none⟩) 1 1) _ _ rfl rfl r7A ?_)
    | (refine step_append_run rfl _ _ _ _ rfl rfl (.slice ao3 m3 cap3) _ _ _ rfl rfl r7 ?_)
    | (go_simp; go_wp2_with (first
      | (go_at_call 48; (with_reducible (refine callA.mono ?_)); rintro e w3 ⟨ao3, m3, cap3, H3, rfl, hT3, hW3⟩; have kE := hWA.trans hW3; obtain ⟨ao7, m7, cap7, w7, H7, r7A, hT7, hW7⟩ := tr1 hT3 (kE.there hA1) 41 41 rfl (by simp only [List.length_append, List.length_cons, List.length_nil]; omega))
      | (go_at_call 48; (with_reducible (refine callB.mono ?_)); rintro e w3 ⟨ao3, m3, cap3, H3, rfl, hT3, hW3⟩; have kE := kB2.trans (hW3.mono (A' := A) (fun k hk => Or.inl hk)); have b7 := hW3.keeps.block w1.heap.size (lt_of_block bB2) (by simp); rw [bB2] at b7; obtain ⟨ao7, m7, cap7, w7, H7, r7, hT7, hW7⟩ := trAt (A := A) ⟨hT3.row, fun k hk h => hT3.out k hk (Or.inl h)⟩ (kE.there hA1) 41 41 rfl w1.heap.size b7 (by simp only [List.length_append, List.length_cons, List.length_nil]; omega))
      | (go_at_call 48; (with_reducible (refine callC.mono ?_)); rintro e w3 ⟨ao3, m3, cap3, H3, rfl, hT3, hW3⟩; have kE := kC2.trans (hW3.mono (A' := A) (fun k hk => Or.inl hk)); have b7 := hW3.keeps.block (w1.heap.size + 1) (lt_of_block bC2) (by simp); rw [bC2] at b7; obtain ⟨ao7, m7, cap7, w7, H7, r7, hT7, hW7⟩ := trAt (A := A) ⟨hT3.row, fun k hk h => hT3.out k hk (Or.inl h)⟩ (kE.there hA1) 41 41 rfl (w1.heap.size + 1) b7 (by simp only [List.length_append, List.length_cons, List.length_nil]; omega))
      | (go_at_call 48; (with_reducible (refine callD.mono ?_)); rintro e w3 ⟨ao3, m3, cap3, H3, rfl, hT3, hW3⟩; have kE := kA4.trans (hW3.mono (A' := A) (fun k hk => Or.inl hk)); have b7 := hW3.keeps.block wA.heap.size (lt_of_block b4) (by simp); rw [b4] at b7; obtain ⟨ao7, m7, cap7, w7, H7, r7, hT7, hW7⟩ := trAt (A := A) ⟨hT3.row, fun k hk h => hT3.out k hk (Or.inl h)⟩ (kE.there hA1) 41 41 rfl wA.heap.size b7 (by simp only [List.length_append, List.length_cons, List.length_nil]; omega)))))
  all_goals go_wp2
  all_goals go_ret
  all_goals exact trP_mk HE.out H7 hT7 ((kA.trans kE).trans hW7)

end Go.Proofs.YtmlgmhnplicflaaGreatDoor
