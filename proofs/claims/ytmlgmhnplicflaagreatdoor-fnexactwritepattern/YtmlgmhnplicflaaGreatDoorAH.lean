import Derived.Test.YtmlgmhnplicflaaGreatDoorAC
import Derived.Test.YtmlgmhnplicflaaGreatDoorAG
import Derived.Test.YtmlgmhnplicflaaGreatDoorN

/-
  The program's nodes as texts: counts.
-/
namespace Go.Proofs.YtmlgmhnplicflaaGreatDoor
open Go.RowKit
set_option linter.unusedVariables false

theorem tr1 {w : World} {A : Nat → Prop} {v : Value} {l : Tx} (h : Tr w A v l) (hA : There A w) (c : UInt8) (n : Int) (hc : (c.toNat : Int) = n) (hn : l.length + 1 ≤ 2000000) :
    ∃ ao m cap w1, Hid (m = (l ++ [c]).length) ∧ Sem.run Tryz.prog (Builtin.append_ #[22, 22] 22 #[v, .slice (some ⟨w.heap.size, 0, none⟩) 1 1]) (w.alloc (.cells #[.int .u8 n] 5)) = .ok (.slice ao m cap) w1 ∧ Tr w1 A (.slice ao m cap) (l ++ [c]) ∧ Wrt A w w1 := by
  obtain ⟨ao, cap, w1, h1, h2, h3⟩ := tr_one h hA c n hc hn
  exact ⟨ao, _, cap, w1, rfl, h1, h2, h3⟩
theorem apB {w : World} {A : Nat → Prop} {v : Value} {l : Tx} (n : Int) (h0 : 0 ≤ n) (h1 : n ≤ 255) (hl : l.length ≤ 1000000) (hA : There A w) (h : Tr w A v l) :
    Calls Tryz.prog 115 #[v, .int .u8 n] w (TrP A (l ++ Esc.esc n) w) := (apByte_any n h0 h1 hl hA h).mono fun _ _ h => h.form
theorem apInt {w : World} {A : Nat → Prop} {v : Value} {l : Tx} (i : Int) (hi : B64 i) (hl : l.length ≤ 1800000) (hA : There A w) (ht : TabOk A w) (h : Tr w A v l) :
    Calls Tryz.prog 118 #[v, .int .i64 i, .int .i64 10] w (TrP A (l ++ Lib.itoa i) w) := apI_any i hi.1 hi.2 hl hA h ht

/-- A repeat in a variable. -/
def Rn (w : World) (P : Nat) (lo hi : Int) (lz : Bool) (a : Value) : Prop := w.heap[P]? = some (.cells #[.int .i64 lo, .int .i64 hi, .bool lz, a] 171 (0, 0))
namespace Rn
variable {w w' : World} {P : Nat} {lo hi : Int} {lz : Bool} {a : Value}
theorem wrt {A : Nat → Prop} (h : Rn w P lo hi lz a) (k : Wrt A w w') : Rn w' P lo hi lz a := k.block h (by decide)
theorem c0 (h : Rn w P lo hi lz a) : w.cell? ⟨P, 0, none⟩ = some (.int .i64 lo) := by rw [cell_of h]; rfl
theorem c1 (h : Rn w P lo hi lz a) : w.cell? ⟨P, 1, none⟩ = some (.int .i64 hi) := by rw [cell_of h]; rfl
theorem c2 (h : Rn w P lo hi lz a) : w.cell? ⟨P, 2, none⟩ = some (.bool lz) := by rw [cell_of h]; rfl
theorem c3 (h : Rn w P lo hi lz a) : w.cell? ⟨P, 3, none⟩ = some a := by rw [cell_of h]; rfl
end Rn

set_option maxHeartbeats 4000000 in
set_option maxRecDepth 100000 in
theorem appendCounts_any {w : World} {A : Nat → Prop} {v : Value} {l : Tx} {lo hi : Int} {lz : Bool} {t : TypeId} {y : Value} (h : Tr w A v l) (hA : There A w) (hl : l.length ≤ 1000000) (h1 : B64 lo) (h2 : B64 hi) (ht : TabOk A w) :
    Calls Tryz.prog 82 #[v, .agg #[.int .i64 lo, .int .i64 hi, .bool lz, .iface t y]] w (TrP A (l ++ cntTxt lo hi lz) w) := by
  obtain ⟨ao, cap, rfl⟩ := h.form
  have hlo := Lib.itoa_length_le lo h1.1 h1.2
  have hhi := Lib.itoa_length_le hi h2.1 h2.2
  have hR : Rn (w.alloc (.cells #[.int .i64 lo, .int .i64 hi, .bool lz, .iface t y] 171)) w.heap.size lo hi lz (.iface t y) := heap_alloc_new w _
  have hW0 : Wrt A w (w.alloc (.cells #[.int .i64 lo, .int .i64 hi, .bool lz, .iface t y] 171)) := (Wrt.refl _ _).alloc _
  have hT0 : Tr (w.alloc (.cells #[.int .i64 lo, .int .i64 hi, .bool lz, .iface t y] 171)) A (.slice ao l.length cap) l := h.alloc _
  go_enter Tryz.func82, Tryz.ntmps82
  go_upto_region 1 with fail
  clear h
  generalize w.alloc (.cells #[.int .i64 lo, .int .i64 hi, .bool lz, .iface t y] 171) = w0 at hR hW0 hT0 ⊢
  generalize w.heap.size = P at hR ⊢
  have hA0 : There A w0 := hW0.there hA
  obtain ⟨ao1, m1, cap1, w1, H1, hrun0, hT1, hW1⟩ := tr1 hT0.drew hA0 123 123 rfl (by omega)
  have hrun1 : Sem.run Tryz.prog (Builtin.append_ #[22, 22] 22 #[.slice ao l.length cap, .slice (some ⟨w0.heap.size, 0, none⟩) 1 1]) (w0.alloc (.cells #[.int .u8 123] 5)).drew = .ok (.slice ao1 m1 cap1) w1 := hrun0
  clear hrun0
  have hR1 := hR.wrt hW1.ofDrew
  replace hW1 := hW0.trans hW1.ofDrew
  have c0 := hR.c0
  have C0 := fun o => (hR.wrt ((Wrt.refl A w0).alloc o)).c0
  have c1 := hR1.c0
  have l1 := H1.out
  simp only [List.length_append, List.length_cons, List.length_nil] at l1
  have hA1 : There A w1 := hW1.there hA
  have hcall := apInt lo h1 (by simp; omega) hA1 (ht.on hW1) hT1
  have L1 : Hid (m1 = l.length + 1) := l1
  clear l1
  go_cut [0] from 5 (fun v0 wc => ∃ ao2 m2 cap2, v0 = .slice ao2 m2 cap2 ∧ Hid (m2 = (l ++ [123] ++ Lib.itoa lo).length) ∧ Tr wc A (.slice ao2 m2 cap2) (l ++ [123] ++ Lib.itoa lo) ∧ Rn wc P lo hi lz (.iface t y) ∧ Wrt A w wc)
  case first =>
    go_region_law (first
      | (refine step_append_run rfl _ _ _ _ rfl rfl _ _ _ _ rfl rfl hrun1 ?_)
      | (go_simp; go_wp2_with (first
        | (go_at_call 118; refine hcall.mono ?_; rintro e w2 ⟨ao2, m2, cap2, H2, rfl, hT2, hW2⟩))))
    all_goals go_wp2
    all_goals go_meet
    all_goals exact ⟨ao2, m2, cap2, rfl, H2, hT2, hR1.wrt hW2, hW1.trans hW2⟩
  case rest =>
    clear hrun1 hT1 hR1 hW1 c0 C0 c1 hcall hT0 hR hA0 hA1 L1 H1
    obtain ⟨ao2, m2, cap2, rfl, H2, hT2, hR2, hW2⟩ := hcut
    have hA2 : There A _ := hW2.there hA
    have hl2 := H2.out
    simp only [List.length_append, List.length_cons, List.length_nil] at hl2
    have hm2 : (l ++ [123] ++ Lib.itoa lo).length ≤ 1000100 := by simp only [List.length_append, List.length_cons, List.length_nil]; omega
    have c0 := hR2.c0
    have c1 := hR2.c1
    have HL2 : Hid (m2 = l.length + (0 + 1) + (Lib.itoa lo).length) := hl2
    clear hl2 H2
    by_cases he : hi = lo
    · subst he
      obtain ⟨ao3, m3, cap3, w3, H3, hr3, hT3, hW3⟩ := tr1 hT2 hA2 125 125 rfl (by omega)
      have hR3 := hR2.wrt hW3
      have hA3 : There A _ := hW3.there hA2
      have d2 := hR3.c2
      cases lz with
      | false =>
        have HE : Hid (l ++ [123] ++ Lib.itoa hi ++ [125] = l ++ cntTxt hi hi false) := (by show _ = _; simp [cntTxt, lzTxt])
        go_wp2_with (first
          | (at_builtin; refine wpList_append_run rfl _ _ _ _ rfl rfl (.slice ao2 m2 cap2) _ _ _ rfl rfl hr3 ?_))
        go_ret
        exact trP_mk HE.out H3 hT3 (hW2.trans hW3)
      | true =>
        have hm3 : (l ++ [123] ++ Lib.itoa hi ++ [125]).length ≤ 1000200 := by rw [List.length_append]; simp only [List.length_cons, List.length_nil]; omega
        obtain ⟨ao4, m4, cap4, w4, H4, hr4, hT4, hW4⟩ := tr1 hT3 hA3 63 63 rfl (by omega)
        have HE : Hid (l ++ [123] ++ Lib.itoa hi ++ [125] ++ [63] = l ++ cntTxt hi hi true) := (by show _ = _; simp [cntTxt, lzTxt])
        go_upto_region 8 with (at_builtin; refine wpList_append_run rfl _ _ _ _ rfl rfl (.slice ao2 m2 cap2) _ _ _ rfl rfl hr3 ?_)
        go_wp2_with (at_builtin; refine wpList_append_run rfl _ _ _ _ rfl rfl (.slice ao3 m3 cap3) _ _ _ rfl rfl hr4 ?_)
        go_ret
        exact trP_mk HE.out H4 hT4 ((hW2.trans hW3).trans hW4)
    · have hne : (hi != lo) = true := by simpa using he
      obtain ⟨ao3, m3, cap3, w3, H3, hr3, hT3, hW3⟩ := tr1 hT2 hA2 44 44 rfl (by omega)
      have hR3 := hR2.wrt hW3
      have hA3 : There A _ := hW3.there hA2
      have hm3 : (l ++ [123] ++ Lib.itoa lo ++ [44]).length ≤ 1000200 := by rw [List.length_append]; simp only [List.length_cons, List.length_nil]; omega
      have d1 := hR3.c1
      by_cases hb : hi = -1
      · subst hb
        obtain ⟨ao4, m4, cap4, w4, H4, hr4, hT4, hW4⟩ := tr1 hT3 hA3 125 125 rfl (by omega)
        have hR4 := hR3.wrt hW4
        have hA4 : There A _ := hW4.there hA3
        have d2 := hR4.c2
        cases lz with
        | false =>
          have HE : Hid (l ++ [123] ++ Lib.itoa lo ++ [44] ++ [125] = l ++ cntTxt lo (-1) false) := (by show _ = _; simp [cntTxt, lzTxt, he])
          clear he
          go_upto_region 6 with (at_builtin; refine wpList_append_run rfl _ _ _ _ rfl rfl (.slice ao2 m2 cap2) _ _ _ rfl rfl hr3 ?_)
          go_wp2_with (at_builtin; refine wpList_append_run rfl _ _ _ _ rfl rfl (.slice ao3 m3 cap3) _ _ _ rfl rfl hr4 ?_)
          go_ret
          exact trP_mk HE.out H4 hT4 ((hW2.trans hW3).trans hW4)
        | true =>
          have hm4 : (l ++ [123] ++ Lib.itoa lo ++ [44] ++ [125]).length ≤ 1000300 := by rw [List.length_append]; simp only [List.length_cons, List.length_nil]; omega
          obtain ⟨ao5, m5, cap5, w5, H5, hr5, hT5, hW5⟩ := tr1 hT4 hA4 63 63 rfl (by omega)
          have HE : Hid (l ++ [123] ++ Lib.itoa lo ++ [44] ++ [125] ++ [63] = l ++ cntTxt lo (-1) true) := (by show _ = _; simp [cntTxt, lzTxt, he])
          clear he
          go_upto_region 6 with (at_builtin; refine wpList_append_run rfl _ _ _ _ rfl rfl (.slice ao2 m2 cap2) _ _ _ rfl rfl hr3 ?_)
          go_upto_region 8 with (at_builtin; refine wpList_append_run rfl _ _ _ _ rfl rfl (.slice ao3 m3 cap3) _ _ _ rfl rfl hr4 ?_)
          go_wp2_with (at_builtin; refine wpList_append_run rfl _ _ _ _ rfl rfl (.slice ao4 m4 cap4) _ _ _ rfl rfl hr5 ?_)
          go_ret
          exact trP_mk HE.out H5 hT5 (((hW2.trans hW3).trans hW4).trans hW5)
      · have hnb : (hi != -1) = true := by simpa using hb
        have hcall := apInt hi h2 (by omega) hA3 (ht.on (hW2.trans hW3)) hT3
        cases lz with
        | false =>
          have HE : Hid (l ++ [123] ++ Lib.itoa lo ++ [44] ++ Lib.itoa hi ++ [125] = l ++ cntTxt lo hi false) := (by show _ = _; simp [cntTxt, lzTxt, he, hb])
          clear he hb
          go_upto_region 5 with (at_builtin; refine wpList_append_run rfl _ _ _ _ rfl rfl (.slice ao2 m2 cap2) _ _ _ rfl rfl hr3 ?_)
          go_upto_region 6 with (go_at_call 118; refine hcall.mono ?_; rintro e w4 ⟨ao4, m4, cap4, H4, rfl, hT4, hW4⟩; have hR4 := hR3.wrt hW4; have hA4 : There A _ := hW4.there hA3; have hm4 : (l ++ [123] ++ Lib.itoa lo ++ [44] ++ Lib.itoa hi).length ≤ 1000300 := (by rw [List.length_append]; omega); obtain ⟨ao5, m5, cap5, w5, H5, hr5, hT5, hW5⟩ := tr1 hT4 hA4 125 125 rfl (by omega); have d2 := (hR4.wrt hW5).c2)
          go_wp2_with (at_builtin; refine wpList_append_run rfl _ _ _ _ rfl rfl (.slice ao4 m4 cap4) _ _ _ rfl rfl hr5 ?_)
          go_ret
          exact trP_mk HE.out H5 hT5 (((hW2.trans hW3).trans hW4).trans hW5)
        | true =>
          have HE : Hid (l ++ [123] ++ Lib.itoa lo ++ [44] ++ Lib.itoa hi ++ [125] ++ [63] = l ++ cntTxt lo hi true) := (by show _ = _; simp [cntTxt, lzTxt, he, hb])
          clear he hb
          go_upto_region 5 with (at_builtin; refine wpList_append_run rfl _ _ _ _ rfl rfl (.slice ao2 m2 cap2) _ _ _ rfl rfl hr3 ?_)
          go_upto_region 6 with (go_at_call 118; refine hcall.mono ?_; rintro e w4 ⟨ao4, m4, cap4, H4, rfl, hT4, hW4⟩; have hR4 := hR3.wrt hW4; have hA4 : There A _ := hW4.there hA3; have hm4 : (l ++ [123] ++ Lib.itoa lo ++ [44] ++ Lib.itoa hi).length ≤ 1000300 := (by rw [List.length_append]; omega); obtain ⟨ao5, m5, cap5, w5, H5, hr5, hT5, hW5⟩ := tr1 hT4 hA4 125 125 rfl (by omega); have hR5 := hR4.wrt hW5; have d2 := hR5.c2; have hA5 : There A _ := hW5.there hA4; have hm5 : (l ++ [123] ++ Lib.itoa lo ++ [44] ++ Lib.itoa hi ++ [125]).length ≤ 1000400 := (by rw [List.length_append]; simp only [List.length_cons, List.length_nil]; omega); obtain ⟨ao6, m6, cap6, w6, H6, hr6, hT6, hW6⟩ := tr1 hT5 hA5 63 63 rfl (by omega))
          go_upto_region 8 with (at_builtin; refine wpList_append_run rfl _ _ _ _ rfl rfl (.slice ao4 m4 cap4) _ _ _ rfl rfl hr5 ?_)
          go_wp2_with (at_builtin; refine wpList_append_run rfl _ _ _ _ rfl rfl (.slice ao5 m5 cap5) _ _ _ rfl rfl hr6 ?_)
          go_ret
          exact trP_mk HE.out H6 hT6 ((((hW2.trans hW3).trans hW4).trans hW5).trans hW6)

end Go.Proofs.YtmlgmhnplicflaaGreatDoor

/-
  The program's nodes as texts: sets, over plain lists.
-/
namespace Go.Proofs.YtmlgmhnplicflaaGreatDoor
open Go.RowKit
set_option linter.unusedVariables false

theorem rangesTo_one (b n : Nat) : rangesTo (one b) n = if b < n then [((b : Int), (b : Int))] else [] := by
  induction n with
  | zero => simp [rangesTo]
  | succ n ih =>
    unfold rangesTo
    rw [ih]
    by_cases e : n = b
    · subst e
      have h1 : one n n = true := by simp [one]
      rw [if_pos h1, if_neg (by omega), if_pos (by omega)]
      simp
    · have h1 : ¬ one b n = true := by simp [one, e]
      rw [if_neg h1]
      by_cases h2 : b < n
      · rw [if_pos h2, if_pos (by omega)]
      · rw [if_neg h2, if_neg (by omega)]
theorem ranges_one {S : Bs} {b : Nat} (hb : b < 256) (h : ∀ x, x < 256 → S x = one b x) : ranges S = [((b : Int), (b : Int))] := by
  unfold ranges
  rw [rangesTo_congr 256 h, rangesTo_one, if_pos hb]
theorem rsTxt_one {S : Bs} (h : ∀ x, x < 256 → S x = one (lowS S) x) : rsTxt (ranges S) = Esc.esc (lowS S) := by
  rw [ranges_one (lowS_lt S) h]
  simp [rsTxt, oneOf]
theorem oneOf_none {S : Bs} (h : ¬ ∀ x, x < 256 → S x = one (lowS S) x) : oneOf (ranges S) = none := by
  cases ho : oneOf (ranges S) with
  | none => rfl
  | some a =>
    exfalso
    apply h
    match hr : ranges S, ho with
    | [], ho => simp [oneOf] at ho
    | [r], ho =>
      simp only [oneOf] at ho
      split at ho
      · rename_i he
        have hm := rgTo_mem S 256
        have h1 := hm.1 r (by have : r ∈ ranges S := by rw [hr]; simp
                              exact this)
        have h2 : ∀ x, x < 256 → (S x = true ↔ (x : Int) = r.1) := by
          intro x hx
          have := hm.2 x
          have e : rangesTo S 256 = [r] := hr
          rw [e] at this
          simp only [List.mem_singleton, exists_eq_left] at this
          constructor
          · intro hs
            have := this.2 ⟨hx, hs⟩
            omega
          · intro hs
            exact (this.1 (by omega)).2
        have hlow : lowS S = r.1.toNat := lowS_at (by omega) ((h2 _ (by omega)).2 (by omega)) (fun y hy => by
          cases hs : S y
          · rfl
          · have := (h2 y (by omega)).1 hs; omega)
        intro x hx
        rw [hlow]
        have := h2 x hx
        cases hs : S x
        · have : ¬ x = r.1.toNat := by
            intro e
            have := this.2 (by omega)
            rw [hs] at this; cases this
          simp [one, this]
        · have := this.1 hs
          have : x = r.1.toNat := by omega
          simp [one, this]
      · simp at ho
    | _ :: _ :: _, ho => simp [oneOf] at ho
theorem ranges_nil {S : Bs} (h : ∀ x, x < 256 → S x = none' x) : ranges S = [] := by
  unfold ranges
  rw [rangesTo_congr 256 h]
  have : ∀ n, rangesTo none' n = [] := by
    intro n
    induction n with
    | zero => rfl
    | succ n ih => unfold rangesTo; rw [if_neg (by simp [none']), ih]
  exact this 256
theorem ranges_some {S : Bs} (h : ¬ ∀ x, x < 256 → S x = none' x) : (ranges S).length ≠ 0 := by
  intro he
  apply h
  intro x hx
  have hm := (rgTo_mem S 256).2 x
  have e : rangesTo S 256 = [] := List.eq_nil_of_length_eq_zero he
  rw [e] at hm
  cases hs : S x
  · rfl
  · have := hm.2 ⟨hx, hs⟩
    simp at this
theorem rsTxt_nil {S : Bs} (h1 : ¬ ∀ x, x < 256 → S x = one (lowS S) x) (h : ∀ x, x < 256 → S x = none' x) : rsTxt (ranges S) = noTxt := by
  unfold rsTxt
  rw [oneOf_none h1, ranges_nil h]
  rfl
theorem rsTxt_many {S : Bs} (h1 : ¬ ∀ x, x < 256 → S x = one (lowS S) x) (h : ¬ ∀ x, x < 256 → S x = none' x) : rsTxt (ranges S) = 91 :: ((ranges S).flatMap rgTxt ++ [93]) := by
  unfold rsTxt
  rw [oneOf_none h1]
  simp only
  rw [if_neg (ranges_some h)]
theorem flat_next {rs : List (Int × Int)} {k : Nat} (h : k < rs.length) : (rs.take (k + 1)).flatMap rgTxt = (rs.take k).flatMap rgTxt ++ rgTxt rs[k] := by
  rw [take_one rs k h, List.flatMap_append, List.flatMap_cons, List.flatMap_nil, List.append_nil]

end Go.Proofs.YtmlgmhnplicflaaGreatDoor

/-
  The program's nodes as texts: sets.
-/
namespace Go.Proofs.YtmlgmhnplicflaaGreatDoor
open Go.RowKit
set_option linter.unusedVariables false

theorem trs {w : World} {A : Nat → Prop} {v : Value} {l : Tx} (h : Tr w A v l) (hA : There A w) (ns : Tx) (hn : l.length + ns.length ≤ 2000000) :
    ∃ ao m cap w1, Hid (m = (l ++ ns).length) ∧ Sem.run Tryz.prog (Builtin.append_ #[22, 9] 22 #[v, .string ⟨ns.toArray⟩]) w = .ok (.slice ao m cap) w1 ∧ Tr w1 A (.slice ao m cap) (l ++ ns) ∧ Wrt A w w1 := by
  obtain ⟨ao, cap, w1, h1, h2, h3⟩ := tr_str h hA ns hn
  exact ⟨ao, _, cap, w1, rfl, h1, h2, h3⟩
theorem ownsRow_wrt {A : Nat → Prop} {w w' : World} {base : Nat} {e : TypeId} {size : Nat} {v : Value} {n : Nat} {xs : List Value} (h : w.ownsRow base e size v n xs) (he : e ≠ 5) (k : Wrt A w w') : w'.ownsRow base e size v n xs := by
  obtain ⟨h1, h2⟩ := h
  refine ⟨h1, ?_⟩
  rcases h2 with h2 | ⟨g, cap, cur, hv, hg, hh, r⟩
  · exact Or.inl h2
  · exact Or.inr ⟨g, cap, cur, hv, hg, k.block hh he, r⟩
theorem Sb.wrt {A : Nat → Prop} {w w' : World} {P : Nat} {f : Nat → Nat} (h : Sb w P f) (k : Wrt A w w') : Sb w' P f := k.block h (by decide)

set_option maxHeartbeats 2000000 in
set_option maxRecDepth 100000 in
theorem appendSet_any {w : World} {A : Nat → Prop} {v : Value} {l : Tx} {S : Bs} {f : Nat → Nat} (hS : Bv S f) (h : Tr w A v l) (hA : There A w) (hl : l.length ≤ 900000) :
    Calls Tryz.prog 81 #[v, .agg #[.int .u64 (f 0), .int .u64 (f 1), .int .u64 (f 2), .int .u64 (f 3)]] w (TrP A (l ++ rsTxt (ranges S)) w) := by
  obtain ⟨ao, cap, rfl⟩ := h.form
  have hlow := lowS_lt S
  have hs0 : Sb (w.alloc (.cells #[.int .u64 (f 0), .int .u64 (f 1), .int .u64 (f 2), .int .u64 (f 3)] 162)) w.heap.size f := heap_alloc_new w _
  have hW0 : Wrt A w (w.alloc (.cells #[.int .u64 (f 0), .int .u64 (f 1), .int .u64 (f 2), .int .u64 (f 3)] 162)) := (Wrt.refl _ _).alloc _
  have hT0 : Tr (w.alloc (.cells #[.int .u64 (f 0), .int .u64 (f 1), .int .u64 (f 2), .int .u64 (f 3)] 162)) A (.slice ao l.length cap) l := h.alloc _
  go_enter Tryz.func81, Tryz.ntmps81
  go_upto_region 1 with fail
  clear h
  generalize w.alloc (.cells #[.int .u64 (f 0), .int .u64 (f 1), .int .u64 (f 2), .int .u64 (f 3)] 162) = w0 at hs0 hW0 hT0 ⊢
  generalize w.heap.size = P at hs0 ⊢
  have hA0 : There A w0 := hW0.there hA
  have c0 := hs0.cell (q := 0) (by omega); have c1 := hs0.cell (q := 1) (by omega); have c2 := hs0.cell (q := 2) (by omega); have c3 := hs0.cell (q := 3) (by omega)
  by_cases hq : ∀ x, x < 256 → S x = one (lowS S) x
  · have HQ : Hid (∀ x, x < 256 → S x = one (lowS S) x) := hq
    have HE : Hid (l ++ Esc.esc (lowS S) = l ++ rsTxt (ranges S)) := (by show _ = _; rw [rsTxt_one hq])
    clear hq
    go_upto_region 2 with (go_at_call 114; refine (isOne_any hS).mono ?_; rintro e w1 ⟨b, rfl, hb, hk1⟩; obtain rfl : b = true := hb.2 HQ.out; replace hs0 := hs0.keeps hk1 (fun h => h); have hW1 := hW0.trans (Wrt.ofKeeps hk1); have hT1 : Tr w1 A (.slice ao l.length cap) l := hT0.same hk1; have hA1 : There A w1 := hA0.le hk1.size; clear hT0 hW0 hk1 hb)
    have d0 := hs0.cell (q := 0) (by omega); have d1 := hs0.cell (q := 1) (by omega); have d2 := hs0.cell (q := 2) (by omega); have d3 := hs0.cell (q := 3) (by omega)
    clear c0 c1 c2 c3
    go_wp2_with (first
      | (go_at_call 116; refine (lowest_any hS).mono ?_; rintro e w2 ⟨rfl, hk2⟩; have hT2 : Tr w2 A (.slice ao l.length cap) l := hT1.same hk2; have hW2 := hW1.trans (Wrt.ofKeeps hk2))
      | (go_at_call 115; refine (apB (lowS S : Int) (by omega) (by omega) (by omega) (hA1.le hk2.size) hT2).mono ?_; rintro e w3 ⟨ao3, m3, cap3, H3, rfl, hT3, hW3⟩))
    go_ret
    exact trP_mk HE.out H3 hT3 (hW2.trans hW3)
  · have HQ : Hid (¬ ∀ x, x < 256 → S x = one (lowS S) x) := hq
    have hzw := fun w => eq_words w (f 0) (f 1) (f 2) (f 3) 0 0 0 0
    have hsame := bv_same hS bv_none
    go_upto_region 3 with (go_at_call 114; refine (isOne_any hS).mono ?_; rintro e w1 ⟨b, rfl, hb, hk1⟩; obtain rfl : b = false := (by cases b; rfl; exact absurd (hb.1 rfl) HQ.out); replace hs0 := hs0.keeps hk1 (fun h => h); have hW1 := hW0.trans (Wrt.ofKeeps hk1); have hT1 : Tr w1 A (.slice ao l.length cap) l := hT0.same hk1; have hA1 : There A w1 := hA0.le hk1.size; clear hT0 hW0 hk1 hb)
    have d0 := hs0.cell (q := 0) (by omega); have d1 := hs0.cell (q := 1) (by omega); have d2 := hs0.cell (q := 2) (by omega); have d3 := hs0.cell (q := 3) (by omega)
    clear c0 c1 c2 c3
    by_cases he : ∀ x, x < 256 → S x = none' x
    · have hz : ((f 0 : Int) == 0 && ((f 1 : Int) == 0 && ((f 2 : Int) == 0 && (f 3 : Int) == 0))) = true := hsame.2 he
      have HE : Hid (l ++ noTxt = l ++ rsTxt (ranges S)) := (by show _ = _; rw [rsTxt_nil hq he])
      clear hsame he hq
      obtain ⟨ao2, m2, cap2, w2, H2, hr2, hT2, hW2⟩ := trs hT1 hA1 noTxt (by simp [noTxt]; omega)
      go_wp2_with (at_builtin; refine wpList_append_run2 rfl _ _ _ _ _ rfl rfl (.slice ao l.length cap) _ _ _ rfl rfl hr2 ?_)
      go_ret
      exact trP_mk HE.out H2 hT2 (hW1.trans hW2)
    · have hz : ((f 0 : Int) == 0 && ((f 1 : Int) == 0 && ((f 2 : Int) == 0 && (f 3 : Int) == 0))) = false := by
        rw [← Bool.not_eq_true]; intro h; exact he (hsame.1 h)
      have HE : Hid (rsTxt (ranges S) = 91 :: ((ranges S).flatMap rgTxt ++ [93])) := rsTxt_many hq he
      clear hsame he hq
      obtain ⟨ao2, m2, cap2, w2, H2, hr2, hT2, hW2⟩ := tr1 hT1 hA1 91 91 rfl (by omega)
      have hs2 := hs0.wrt hW2
      go_upto_region 6 with (at_builtin; refine wpList_append_run rfl _ _ _ _ rfl rfl (.slice ao l.length cap) _ _ _ rfl rfl hr2 ?_)
      have e0 := hs2.cell (q := 0) (by omega); have e1 := hs2.cell (q := 1) (by omega); have e2 := hs2.cell (q := 2) (by omega); have e3 := hs2.cell (q := 3) (by omega)
      clear d0 d1 d2 d3 hr2 hzw hz
      go_wp2_with (first
        | (go_at_call 117; refine (ranges_any hS).mono ?_; rintro e w3 ⟨vr, rfl, hr3, hk3⟩; obtain ⟨ar, cr, rfl⟩ := own_form hr3))
      have hrs : ∀ r ∈ ranges S, 0 ≤ r.1 ∧ r.1 ≤ r.2 ∧ r.2 < 256 := fun r hr => by have := (rgTo_mem S 256).1 r hr; omega
      have hrl := ranges_len S
      have hT3 : Tr w3 A (.slice ao2 m2 cap2) (l ++ [91]) := hT2.same hk3
      have hW3 := (hW1.trans hW2).trans (Wrt.ofKeeps hk3)
      have hr3 := ownsRow_base hr3 (base' := 0) (fun _ _ => Nat.zero_le _)
      clear e0 e1 e2 e3 hs2 hs0 hT2 hW2 hT1 hW1
      obtain ⟨rs, hS0⟩ : ∃ rs, ranges S = rs := ⟨_, rfl⟩
      rw [hS0] at hrs hrl hr3 HE ⊢
      have HS : Hid (ranges S = rs) := hS0
      clear hS0
      go_loopw [0, 24] (fun o i wr => ∃ (k : Nat) (ao4 : Option Addr) (m4 cap4 : Nat), k ≤ rs.length ∧ i = .int .i64 k ∧ o = .slice ao4 m4 cap4 ∧ Hid (m4 = (l ++ [91] ++ (rs.take k).flatMap rgTxt).length) ∧ Tr wr A (.slice ao4 m4 cap4) (l ++ [91] ++ (rs.take k).flatMap rgTxt) ∧ wr.ownsRow 0 158 2 (.slice ar rs.length cr) rs.length (flatR rs) ∧ Wrt A w wr) (fun _ i _ => rs.length - (intOf i).toNat)
      case atStart => exact ⟨0, ao2, m2, cap2, Nat.zero_le _, rfl, rfl, by simpa using H2, by simpa using hT3, hr3, hW3⟩
      case round =>
        clear hT3 hr3 hW3 H2
        obtain ⟨k, ao4, m4, cap4, hk, rfl, rfl, H4, hT4, hr4, hW4⟩ := hrel
        have hlk : ((rs.take k).flatMap rgTxt).length ≤ 9 * k := by
          have := rgs_len (rs.take k); rw [List.length_take] at this; omega
        have hl4 : (l ++ [91] ++ (rs.take k).flatMap rgTxt).length ≤ 910000 := by
          simp only [List.length_append, List.length_cons, List.length_nil]; omega
        have hA4 : There A wr := hW4.there hA
        by_cases hlt : k < rs.length
        · obtain ⟨g, rfl⟩ := row_fm hr4 (by omega)
          obtain ⟨q1, q2⟩ := flatR_get rs k hlt
          have c1 : wr.cell? ⟨g, k * 2, none⟩ = some (.int .i64 rs[k].1) := by rw [hr4.cellAt _ (by omega)]; exact q1
          have c2 : wr.cell? ⟨g, k * 2 + 1, none⟩ = some (.int .i64 rs[k].2) := by rw [hr4.cellAt _ (by omega)]; exact q2
          have hkz : (k : Int) < (rs.length : Int) := by omega
          have hft := flat_next hlt
          have hrk := hrs rs[k] (List.getElem_mem hlt)
          clear q1 q2
          generalize rs[k] = r at c1 c2 hft hrk
          obtain ⟨lo, hi⟩ := r
          simp only at c1 c2 hrk
          have HF : Hid ((rs.take (k + 1)).flatMap rgTxt = (rs.take k).flatMap rgTxt ++ rgTxt (lo, hi)) := hft
          clear hft
          generalize hfl : (rs.take k).flatMap rgTxt = fl at H4 hT4 hl4 HF hlk
          have u1 : IntKind.u8.wrap lo = lo := IntWalk.u8_in _ (by omega)
          have u2 : IntKind.u8.wrap hi = hi := IntWalk.u8_in _ (by omega)
          clear hfl
          go_upto_region 9 with fail
          have hbx : (wr.alloc (.cells #[.int .i64 lo, .int .i64 hi] 158)).heap[wr.heap.size]? = some (.cells #[.int .i64 lo, .int .i64 hi] 158 (0, 0)) := heap_alloc_new wr _
          have hWA : Wrt A wr (wr.alloc (.cells #[.int .i64 lo, .int .i64 hi] 158)) := (Wrt.refl _ _).alloc _
          have hT5 : Tr (wr.alloc (.cells #[.int .i64 lo, .int .i64 hi] 158)) A (.slice ao4 m4 cap4) (l ++ [91] ++ fl) := hT4.alloc _
          have hr5 := ownsRow_wrt hr4 (by decide) hWA
          have hW5 := hW4.trans hWA
          clear c1 c2 hT4 hr4 hW4
          generalize wr.alloc (.cells #[.int .i64 lo, .int .i64 hi] 158) = w5 at hbx hT5 hr5 hW5 hWA ⊢
          generalize wr.heap.size = P5 at hbx ⊢
          have hA5 : There A w5 := hWA.there hA4
          have r0 : w5.cell? ⟨P5, 0, none⟩ = some (.int .i64 lo) := by rw [cell_of hbx]; rfl
          go_upto_region 10 with (go_at_call 115; refine (apB lo (by omega) (by omega) (by omega) hA5 hT5).mono ?_; rintro e w6 ⟨ao6, m6, cap6, H6, rfl, hT6, hW6⟩; replace hbx := hW6.block hbx (by decide); replace hr5 := ownsRow_wrt hr5 (by decide) hW6; have hW7 := hW5.trans hW6; have hA6 : There A w6 := hW6.there hA5)
          clear r0
          have r0 : w6.cell? ⟨P5, 0, none⟩ = some (.int .i64 lo) := by rw [cell_of hbx]; rfl
          have r1 : w6.cell? ⟨P5, 1, none⟩ = some (.int .i64 hi) := by rw [cell_of hbx]; rfl
          have hle := esc4 lo
          by_cases hgt : lo < hi
          · have HX : Hid (l ++ [91] ++ fl ++ Esc.esc lo ++ [45] ++ Esc.esc hi = l ++ [91] ++ (rs.take (k + 1)).flatMap rgTxt) := (by show _ = _; rw [HF.out]; simp [rgTxt, hgt])
            obtain ⟨ao7, m7, cap7, w7, H7, hrun0, hT7, hW8⟩ := tr1 hT6.drew hA6 45 45 rfl (by rw [List.length_append]; omega)
            have hrun7 : Sem.run Tryz.prog (Builtin.append_ #[22, 22] 22 #[.slice ao6 m6 cap6, .slice (some ⟨w6.heap.size, 0, none⟩) 1 1]) (w6.alloc (.cells #[.int .u8 45] 5)).drew = .ok (.slice ao7 m7 cap7) w7 := hrun0
            clear hrun0
            replace hW8 := hW8.ofDrew
            have R1 := fun o => (by rw [cell_of (((Wrt.refl A w6).alloc o).block hbx (by decide))]; rfl : (w6.alloc o).cell? ⟨P5, 1, none⟩ = some (.int .i64 hi))
            have r7 : w7.cell? ⟨P5, 1, none⟩ = some (.int .i64 hi) := by rw [cell_of (hW8.block hbx (by decide))]; rfl
            have hcall := apB hi (by omega) (by omega) (by rw [List.length_append, List.length_append]; simp only [List.length_cons, List.length_nil]; omega) (hW8.there hA6) hT7
            go_wp2
            go_region_law (first
              | (refine step_append_run rfl _ _ _ _ rfl rfl _ _ _ _ rfl rfl hrun7 ?_)
              | (go_simp; go_wp2_with (first
                | (go_at_call 115; refine hcall.mono ?_; rintro e w9 ⟨ao9, m9, cap9, H9, rfl, hT9, hW9⟩))))
            all_goals go_wp2
            all_goals go_roundw
            all_goals (first
              | (refine ⟨k + 1, ao9, m9, cap9, by omega, by go_num, rfl, ?_, ?_, ownsRow_wrt hr5 (by decide) (hW8.trans hW9), hW7.trans (hW8.trans hW9)⟩
                 · show _ = _; rw [← HX.out]; exact H9.out
                 · rw [← HX.out]; exact hT9)
              | (simp [intOf]; omega))
          · have HX : Hid (l ++ [91] ++ fl ++ Esc.esc lo = l ++ [91] ++ (rs.take (k + 1)).flatMap rgTxt) := (by show _ = _; rw [HF.out]; simp [rgTxt, hgt])
            have hgz : ¬ lo < hi := hgt
            go_wp2
            go_roundw
            case rel =>
              refine ⟨k + 1, ao6, m6, cap6, by omega, by go_num, rfl, ?_, ?_, hr5, hW7⟩
              · show _ = _; rw [← HX.out]; exact H6.out
              · rw [← HX.out]; exact hT6
            case measure => simp [intOf]; omega
        · obtain rfl : k = rs.length := by omega
          rw [List.take_length] at H4 hT4 hl4
          obtain ⟨ao7, m7, cap7, w7, H7, hr7, hT7, hW7⟩ := tr1 hT4 hA4 93 93 rfl (by omega)
          have HX : Hid (l ++ [91] ++ rs.flatMap rgTxt ++ [93] = l ++ rsTxt (ranges S)) := (by show _ = _; rw [HS.out, HE.out]; simp)
          go_wp2_with (at_builtin; refine wpList_append_run rfl _ _ _ _ rfl rfl (.slice ao4 m4 cap4) _ _ _ rfl rfl hr7 ?_)
          go_ret
          exact trP_mk HX.out H7 hT7 (hW4.trans hW7)

end Go.Proofs.YtmlgmhnplicflaaGreatDoor
