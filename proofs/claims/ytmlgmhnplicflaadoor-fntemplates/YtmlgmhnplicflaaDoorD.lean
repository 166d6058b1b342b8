import Derived.Test.YtmlgmhnplicflaaDoorC
import Derived.Deep.LoopGhost

/-
  Templates: bits joined.
-/
namespace Go.Proofs.YtmlgmhnplicflaaDoor
open Go.RowKit
set_option linter.unusedVariables false

def JoinPost (base : Nat) (v : Value) (L : List Bt) (w : World) (e : Ending) (w' : World) : Prop := ∃ v', e = .returned v' ∧ BR w' base v' L ∧ Keeps (fun k => v.ownBlock = some k) w w'

set_option maxHeartbeats 1000000 in
set_option maxRecDepth 100000 in
theorem joined_nil {w : World} {base : Nat} {v : Value} (x : Bt) (hr : BR w base v []) (hb : base ≤ w.heap.size) :
    Calls Tryd.prog 30 #[v, .agg #[.int .i64 x.1, .string x.2]] w (JoinPost base v [x] w) := by
  have kA : Keeps (fun _ => False) w (w.alloc (.cells #[.int .i64 x.1, .string x.2] 34)) := (Keeps.refl _ w).alloc _
  have hQ : Bk (w.alloc (.cells #[.int .i64 x.1, .string x.2] 34)) w.heap.size 34 [.int .i64 x.1, .string x.2] := bk_new w _ _
  have hr1 : BR (w.alloc (.cells #[.int .i64 x.1, .string x.2] 34)) base v [] := ownsRow_keeps hr kA (fun _ _ h => h)
  obtain ⟨v', w', hrun, hr', hk'⟩ := app_bit hr1 (Nat.le_trans hb kA.size) (by simp) x
  obtain ⟨ao, cap, hv⟩ := own_form hr
  subst hv
  have hfin : JoinPost base (.slice ao ([] : List Bt).length cap) [x] w (.returned v') w' := ⟨v', rfl, hr', (kA.mono (fun _ _ h => h.elim)).trans hk'⟩
  have q0 : (w.alloc (.cells #[.int .i64 x.1, .string x.2] 34)).cell? ⟨w.heap.size, 0, none⟩ = some (.int .i64 x.1) := by rw [hQ.cell]; rfl
  have q1 : (w.alloc (.cells #[.int .i64 x.1, .string x.2] 34)).cell? ⟨w.heap.size, 1, none⟩ = some (.string x.2) := by rw [hQ.cell]; rfl
  obtain ⟨a8, c8, hv8⟩ := own_form hr'
  subst hv8
  clear hr hr1 hr' hk' hQ
  go_enter Tryd.func30, Tryd.ntmps30
  go_upto_region 1 with fail
  generalize w.alloc (.cells #[.int .i64 x.1, .string x.2] 34) = w1 at kA hrun q0 q1 ⊢
  go_wp2_with (refine wpList_append_run rfl _ _ _ _ rfl rfl _ _ _ _ rfl rfl hrun ?_)
  go_ret
  exact hfin

set_option maxHeartbeats 1000000 in
set_option maxRecDepth 100000 in
theorem joined_app {w : World} {base : Nat} {v : Value} {A : List Bt} {y : Bt} (x : Bt) (hr : BR w base v (A ++ [y])) (hb : base ≤ w.heap.size) (hl : A.length ≤ 1000) (hc : x.1 ≠ -1 ∨ y.1 ≠ -1) {L : List Bt} (hL : L = A ++ [y] ++ [x]) :
    Calls Tryd.prog 30 #[v, .agg #[.int .i64 x.1, .string x.2]] w (JoinPost base v L w) := by
  have kA : Keeps (fun _ => False) w (w.alloc (.cells #[.int .i64 x.1, .string x.2] 34)) := (Keeps.refl _ w).alloc _
  have hQ : Bk (w.alloc (.cells #[.int .i64 x.1, .string x.2] 34)) w.heap.size 34 [.int .i64 x.1, .string x.2] := bk_new w _ _
  have hr1 : BR (w.alloc (.cells #[.int .i64 x.1, .string x.2] 34)) base v (A ++ [y]) := ownsRow_keeps hr kA (fun _ _ h => h)
  obtain ⟨v', w', hrun, hr', hk'⟩ := app_bit hr1 (Nat.le_trans hb kA.size) (by simp; omega) x
  rw [← hL] at hr'
  clear hL
  have hlen : (A ++ [y]).length = A.length + 1 := by simp
  have hr0 := hr
  unfold BR at hr0
  rw [hlen] at hr0
  obtain ⟨g, cap, hv, hg, -⟩ := own_some hr0
  subst hv
  have hfin : JoinPost base (.slice (some ⟨g, 0, none⟩) (A.length + 1) cap) L w (.returned v') w' := ⟨v', rfl, hr', (kA.mono (fun _ _ h => h.elim)).trans hk'⟩
  have q0 : (w.alloc (.cells #[.int .i64 x.1, .string x.2] 34)).cell? ⟨w.heap.size, 0, none⟩ = some (.int .i64 x.1) := by rw [hQ.cell]; rfl
  have q1 : (w.alloc (.cells #[.int .i64 x.1, .string x.2] 34)).cell? ⟨w.heap.size, 1, none⟩ = some (.string x.2) := by rw [hQ.cell]; rfl
  have hr2 := hr1
  unfold BR at hr2
  rw [hlen] at hr2
  have b0 := hr2.cellAt (A.length * 2) (by omega)
  rw [(cell2_get (A ++ [y]) A.length y (by simp)).1] at b0
  obtain ⟨a8, c8, hv8⟩ := own_form hr'
  subst hv8
  generalize A.length = n at *
  have hz : ¬ ((n + 1 : Nat) : Int) - 1 < 0 := by omega
  have hz2 : ((n + 1 : Nat) : Int) - 1 = (n : Int) := by omega
  clear hr hr1 hr' hk' hQ hr0 hr2
  go_enter Tryd.func30, Tryd.ntmps30
  go_upto_region 1 with fail
  generalize w.alloc (.cells #[.int .i64 x.1, .string x.2] 34) = w1 at kA hrun q0 q1 b0 ⊢
  by_cases hx : x.1 = -1
  · have hy : y.1 ≠ -1 := hc.resolve_left (fun h => h hx)
    have hxb : (x.1 != -1) = false := by simp [hx]
    have hyb : (y.1 != -1) = true := by simp [hy]
    clear hc hx hy
    go_wp2_with (refine wpList_append_run rfl _ _ _ _ rfl rfl _ _ _ _ rfl rfl hrun ?_)
    go_ret
    exact hfin
  · have hxb : (x.1 != -1) = true := by simp [hx]
    clear hc hx
    go_wp2_with (refine wpList_append_run rfl _ _ _ _ rfl rfl _ _ _ _ rfl rfl hrun ?_)
    go_ret
    exact hfin

set_option maxHeartbeats 2000000 in
set_option maxRecDepth 100000 in
theorem joined_text {w : World} {base : Nat} {v : Value} {A : List Bt} {y t : ByteArray} (hr : BR w base v (A ++ [(-1, y)])) (hb : base ≤ w.heap.size) (hl : A.length ≤ 1000) (hy : y.size ≤ 1000) (ht : t.size ≤ 1000) {L : List Bt} (hL : L = A ++ [(-1, y ++ t)]) :
    Calls Tryd.prog 30 #[v, .agg #[.int .i64 (-1), .string t]] w (JoinPost base v L w) := by
  have kA : Keeps (fun _ => False) w (w.alloc (.cells #[.int .i64 (-1), .string t] 34)) := (Keeps.refl _ w).alloc _
  have hQ : Bk (w.alloc (.cells #[.int .i64 (-1), .string t] 34)) w.heap.size 34 [.int .i64 (-1), .string t] := bk_new w _ _
  have hlen : (A ++ [((-1, y) : Bt)]).length = A.length + 1 := by simp
  have hr1 := ownsRow_keeps hr kA (fun _ _ h => h)
  rw [hlen] at hr1
  obtain ⟨g, cap, hv, hg, -⟩ := own_some hr1
  subst hv
  have hLl : L.length = A.length + 1 := by rw [hL]; simp
  have b0 := hr1.cellAt (A.length * 2) (by omega)
  have b1 := hr1.cellAt (A.length * 2 + 1) (by omega)
  rw [(cell2_get (A ++ [(-1, y)]) A.length (-1, y) (by simp)).1] at b0
  rw [(cell2_get (A ++ [(-1, y)]) A.length (-1, y) (by simp)).2] at b1
  simp only at b0 b1
  have hst := (hr1.stored (A.length * 2 + 1) (.string (y ++ t))).1
  rw [cell2_set] at hst
  have f1 := hr1.frozenAt (A.length * 2 + 1)
  have hfin : ∀ w5 w6, Keeps (fun _ => False) w w5 → w5 = w.alloc (.cells #[.int .i64 (-1), .string t] 34) → (∃ n, w6 = (w5.setCell ⟨g, A.length * 2 + 1, none⟩ (.string (y ++ t))).drewN n) → JoinPost base (.slice (some ⟨g, 0, none⟩) (A.length + 1) cap) L w (.returned (.slice (some ⟨g, 0, none⟩) (A.length + 1) cap)) w6 := by
    rintro w5 w6 k5 rfl ⟨n, rfl⟩
    refine ⟨_, rfl, ?_, ?_⟩
    · unfold BR
      rw [hLl, hL]
      exact ownsRow_heap hst rfl
    · exact ((k5.mono (fun _ _ h => h.elim)).setCell (fun _ => by simp [Value.ownBlock]) _).drewN _
  have HF : Hid (∀ w5 w6, Keeps (fun _ => False) w w5 → w5 = w.alloc (.cells #[.int .i64 (-1), .string t] 34) → (∃ n, w6 = (w5.setCell ⟨g, A.length * 2 + 1, none⟩ (.string (y ++ t))).drewN n) → JoinPost base (.slice (some ⟨g, 0, none⟩) (A.length + 1) cap) L w (.returned (.slice (some ⟨g, 0, none⟩) (A.length + 1) cap)) w6) := hfin
  have q0 : (w.alloc (.cells #[.int .i64 (-1), .string t] 34)).cell? ⟨w.heap.size, 0, none⟩ = some (.int .i64 (-1)) := by rw [hQ.cell]; rfl
  have q1 : (w.alloc (.cells #[.int .i64 (-1), .string t] 34)).cell? ⟨w.heap.size, 1, none⟩ = some (.string t) := by rw [hQ.cell]; rfl
  generalize A.length = n at *
  have hz : ¬ ((n + 1 : Nat) : Int) - 1 < 0 := by omega
  have hz2 : ((n + 1 : Nat) : Int) - 1 = (n : Int) := by omega
  have hsz : ¬ 9223372036854775807 < y.size + t.size := by omega
  clear hr hr1 hQ hst hfin hLl hL hlen
  go_enter Tryd.func30, Tryd.ntmps30
  go_upto_region 1 with fail
  generalize hw1 : w.alloc (.cells #[.int .i64 (-1), .string t] 34) = w1 at kA q0 q1 b0 b1 f1 ⊢
  have HW : Hid (w1 = w.alloc (.cells #[.int .i64 (-1), .string t] 34)) := hw1.symm
  clear hw1
  go_wp2_with fail
  go_region_with fail
  all_goals (try go_wp2_with fail)
  all_goals (try go_ret)
  all_goals first
    | exact HF.out w1 _ kA HW.out ⟨0, rfl⟩
    | exact HF.out w1 _ kA HW.out ⟨1, rfl⟩

/-- A bit put behind others. -/
def jnB (acc : List Bt) (x : Bt) : List Bt := if x.1 = -1 then jn acc x.2 else acc ++ [x]
theorem joined_any {w : World} {base : Nat} {v : Value} {acc : List Bt} (x : Bt) (hr : BR w base v acc) (hb : base ≤ w.heap.size) (hf : Few 1000 acc) (hx : x.2.size ≤ 1000) :
    Calls Tryd.prog 30 #[v, .agg #[.int .i64 x.1, .string x.2]] w (JoinPost base v (jnB acc x) w) := by
  rcases List.eq_nil_or_concat acc with rfl | ⟨A, y, rfl⟩
  · have e : jnB [] x = [x] := by
      unfold jnB
      split
      · rename_i h; rw [jn_nil]; rw [← h]
      · rfl
    rw [e]
    exact joined_nil x hr hb
  · rw [List.concat_eq_append] at hr hf ⊢
    have hl : A.length ≤ 1000 := by have := hf.1; simp at this; omega
    have hy := hf.2 y (by simp)
    obtain ⟨g, z⟩ := y
    obtain ⟨gx, t⟩ := x
    by_cases hgx : gx = -1
    · subst hgx
      by_cases hg : g = -1
      · subst hg
        exact joined_text hr hb hl hy hx (by unfold jnB; rw [if_pos rfl, jn_text])
      · exact joined_app (-1, t) hr hb hl (Or.inr hg) (by unfold jnB; rw [if_pos rfl, jn_group _ _ _ hg])
    · exact joined_app (gx, t) hr hb hl (Or.inl hgx) (by unfold jnB; rw [if_neg hgx])

end Go.Proofs.YtmlgmhnplicflaaDoor

/-
  Templates: all bits.
-/
namespace Go.Proofs.YtmlgmhnplicflaaDoor
open Go.RowKit
set_option linter.unusedVariables false

theorem own_blk {w : World} {base : Nat} {e : TypeId} {size : Nat} {v : Value} {n : Nat} {xs : List Value} {k : Nat} (h : w.ownsRow base e size v n xs) (hk : v.ownBlock = some k) : ∃ cs, w.heap[k]? = some (.cells cs e (0, 0)) := by
  obtain ⟨_, ⟨rfl, _⟩ | ⟨g, cap, cur, rfl, _, hh, _⟩⟩ := h
  · simp [Value.ownBlock] at hk
  · simp only [Value.ownBlock, Option.some.injEq] at hk
    subst hk
    exact ⟨_, hh⟩
def bitRef (s : ByteArray) (p : Nat) : Option (Bt × Nat) :=
  if bt s p = 36 then
    if bt s (p + 1) = 36 then some ((-1, ⟨#[36]⟩), p + 2)
    else if digit (bt s (p + 1)) then some ((((bt s (p + 1) : Nat) : Int) - 48, ⟨#[]⟩), p + 2)
    else none
  else some ((-1, byteAt s p), p + 1)
theorem bitRef_tpl (s : ByteArray) (p : Nat) (hp : p < s.size) (f : Nat) (acc : List Bt) : tplF s (f + 1) p acc = match bitRef s p with
    | some (x, q) => tplF s f q (jnB acc x)
    | none => .error (p + 1) := by
  rw [tplF, if_neg (by omega), bitRef]
  split
  · split
    · simp [jnB]
    · split
      · rename_i h1 h2 h3
        have : ¬ (((bt s (p + 1) : Nat) : Int) - 48 = -1) := by
          have : 48 ≤ bt s (p + 1) := by simp [digit] at h3; omega
          omega
        simp [jnB, this]
      · rfl
  · simp [jnB]
theorem bitRef_ok {s : ByteArray} {p q : Nat} {x : Bt} (hp : p < s.size) (h : bitRef s p = some (x, q)) : p < q ∧ q ≤ s.size ∧ x.2.size ≤ 1 := by
  unfold bitRef at h
  split at h
  · split at h
    · rename_i h1 h2
      have : p + 1 < s.size := Decidable.byContradiction fun hn => by rw [bt_out hn] at h2; simp at h2
      simp only [Option.some.injEq, Prod.mk.injEq] at h
      obtain ⟨rfl, rfl⟩ := h
      exact ⟨by omega, by omega, by decide⟩
    · split at h
      · rename_i h1 h2 h3
        have : p + 1 < s.size := Decidable.byContradiction fun hn => by rw [bt_out hn] at h3; simp [digit] at h3
        simp only [Option.some.injEq, Prod.mk.injEq] at h
        obtain ⟨rfl, rfl⟩ := h
        exact ⟨by omega, by omega, Nat.zero_le 1⟩
      · simp at h
  · simp only [Option.some.injEq, Prod.mk.injEq] at h
    obtain ⟨rfl, rfl⟩ := h
    exact ⟨by omega, by omega, by simp only; unfold byteAt; rw [ByteArray.size_extract]; omega⟩
theorem bit_some {w : World} {R : Nat} {s : ByteArray} {p q : Nat} {x : Bt} (h : Cu w R s p) (hs : s.size ≤ 100) (hp : p < s.size) (hb : bitRef s p = some (x, q)) :
    Calls Tryd.prog 29 #[.pointer (some ⟨R, 0, none⟩)] w fun e w' => e = .returned (.tuple #[.agg #[.int .i64 x.1, .string x.2], .nilIface]) ∧ Cu w' R s (q : Int) ∧ Keeps (fun k => k = R) w w' := by
  refine (bit_any h hs hp).mono ?_
  rintro e w' ⟨hk, h2⟩
  unfold bitRef at hb
  split at hb
  · rename_i h1
    rw [if_pos h1] at h2
    split at hb
    · rename_i h3
      rw [if_pos h3] at h2
      simp only [Option.some.injEq, Prod.mk.injEq] at hb
      obtain ⟨rfl, rfl⟩ := hb
      exact ⟨h2.1, h2.2, hk⟩
    · rename_i h3
      rw [if_neg h3] at h2
      split at hb
      · rename_i h4
        rw [if_pos h4] at h2
        simp only [Option.some.injEq, Prod.mk.injEq] at hb
        obtain ⟨rfl, rfl⟩ := hb
        exact ⟨h2.1, h2.2, hk⟩
      · simp at hb
  · rename_i h1
    rw [if_neg h1] at h2
    simp only [Option.some.injEq, Prod.mk.injEq] at hb
    obtain ⟨rfl, rfl⟩ := hb
    exact ⟨h2.1, h2.2, hk⟩
theorem bit_none {w : World} {R : Nat} {s : ByteArray} {p : Nat} (h : Cu w R s p) (hs : s.size ≤ 100) (hp : p < s.size) (hb : bitRef s p = none) :
    Calls Tryd.prog 29 #[.pointer (some ⟨R, 0, none⟩)] w fun e w' => e = .returned (.tuple #[.agg #[.int .i64 0, .string ⟨#[]⟩], .iface 54 (.agg #[.int .i64 ((p + 1 : Nat) : Int)])]) ∧ Cu w' R s ((p + 1 : Nat) : Int) ∧ Keeps (fun k => k = R) w w' := by
  refine (bit_any h hs hp).mono ?_
  rintro e w' ⟨hk, h2⟩
  unfold bitRef at hb
  split at hb
  · rename_i h1
    rw [if_pos h1] at h2
    split at hb
    · simp at hb
    · rename_i h3
      rw [if_neg h3] at h2
      split at hb
      · simp at hb
      · rename_i h4
        rw [if_neg h4] at h2
        exact ⟨h2.1, h2.2, hk⟩
  · simp at hb

def BitsPost (s : ByteArray) (w : World) (e : Ending) (w' : World) : Prop :=
  Keeps (fun _ => False) w w' ∧ match tplRef s with
  | .error x => e = .returned (.tuple #[.slice none 0 0, .iface 54 (.agg #[.int .i64 (x : Int)])])
  | .ok L => ∃ v, e = .returned (.tuple #[v, .nilIface]) ∧ BR w' w.heap.size v L

theorem bitsPost_err {s : ByteArray} {x : Nat} {w w' : World} (h : tplRef s = .error x) (k : Keeps (fun _ => False) w w') : BitsPost s w (.returned (.tuple #[.slice none 0 0, .iface 54 (.agg #[.int .i64 (x : Int)])])) w' := by
  unfold BitsPost
  rw [h]
  exact ⟨k, rfl⟩
theorem bitsPost_ok {s : ByteArray} {L : List Bt} {v : Value} {w w' : World} (h : tplRef s = .ok L) (k : Keeps (fun _ => False) w w') (hB : BR w' w.heap.size v L) : BitsPost s w (.returned (.tuple #[v, .nilIface])) w' := by
  unfold BitsPost
  rw [h]
  exact ⟨k, v, rfl, hB⟩

set_option maxHeartbeats 4000000 in
set_option maxRecDepth 100000 in
theorem readBits_any (s : ByteArray) (w : World) (hs63 : s.size ≤ 1048576) : Calls Tryd.prog 20 #[.string s] w (BitsPost s w) := by
  by_cases hs : 100 < s.size
  · have HE : Hid (tplRef s = .error 100) := (by show _ = _; unfold tplRef; rw [if_pos hs])
    have hz : (100 : Int) < (s.size : Int) := by omega
    go_enter Tryd.func20, Tryd.ntmps20
    go_wp2_with fail
    go_ret2
    exact bitsPost_err HE.out (Keeps.refl _ _)
  · have hz : ¬ (100 : Int) < (s.size : Int) := by omega
    have hn1 : ∀ (t : TypeId) (y : Value) (w : World), (binOp BinOp.neq 50 (.iface t y) .nilIface).run Tryd.prog w = .ok (.bool true) w := fun _ _ _ => by kernel_rfl
    have hn0 : ∀ (w : World), (binOp BinOp.neq 50 .nilIface .nilIface).run Tryd.prog w = .ok (.bool false) w := fun _ => by kernel_rfl
    obtain ⟨r, hr⟩ : ∃ r, tplF s (s.size + 1) 0 [] = r := ⟨_, rfl⟩
    have HR0 : Hid (tplF s (s.size + 1) 0 [] = r) := hr
    have HE : Hid (tplRef s = r) := (by show _ = _; unfold tplRef; rw [if_neg hs]; exact hr)
    clear hr
    go_enter Tryd.func20, Tryd.ntmps20
    go_upto_region 5 with fail
    have kA : Keeps (fun _ => False) w (w.alloc (.cells #[.string s, .int .i64 0] 43)) := (Keeps.refl _ w).alloc _
    have hC : Cu (w.alloc (.cells #[.string s, .int .i64 0] 43)) w.heap.size s ((0 : Nat) : Int) := heap_alloc_new w _
    have hRw : w.heap.size ≤ w.heap.size := Nat.le_refl _
    generalize w.alloc (.cells #[.string s, .int .i64 0] 43) = w1 at kA hC ⊢
    generalize hRe : w.heap.size = R at hC hRw ⊢
    have HRe : Hid (w.heap.size = R) := hRe
    clear hRe hRw
    go_wp2
    go_loopg [4, 6, 7] (s.size + 1) (fun gl s4 _ _ wr => ∃ (p : Nat) (acc : List Bt) (v : Value), s.size < p + gl ∧ p ≤ s.size ∧ s4 = v ∧ BR wr R v acc ∧ (∀ k, v.ownBlock = some k → k ≠ R) ∧ Few p acc ∧ Cu wr R s (p : Int) ∧ Hid (tplF s gl p acc = r) ∧ Keeps (fun _ => False) w wr)
    case atStart => exact ⟨0, [], _, by omega, by omega, rfl, World.ownsRow_nil _ _ _ _, fun k h => by simp [Value.ownBlock] at h, ⟨by simp, by simp⟩, hC, HR0, kA⟩
    case round =>
      clear hC kA HR0
      obtain ⟨p, acc, v, hgl, hp, rfl, hB, hvR, hf, hC, HR, hK⟩ := hrel
      obtain ⟨f, rfl⟩ : ∃ f, gk = f + 1 := ⟨gk - 1, by omega⟩
      obtain ⟨av, cv, hv⟩ := own_form hB
      by_cases hlt : p < s.size
      · have hRl : R < wr.heap.size := hC.lt
        have hKR : ∀ {wa wb : World}, Keeps (fun _ => False) w wa → Keeps (fun k => k = R) wa wb → Keeps (fun _ => False) w wb := fun h1 h2 => h1.trans' h2 (fun i hi h => by have := HRe.out; omega)
        cases hb : bitRef s p with
        | none =>
          have HX : Hid (r = .error (p + 1)) := (by show _ = _; rw [← HR.out, bitRef_tpl s p hlt, hb])
          subst hv
          go_wp2_with (first
            | (go_at_call 28; refine (ended_no hC hlt).mono ?_; rintro e w2 ⟨rfl, n, hn⟩; have hC2 : Cu w2 R s (p : Int) := (by rw [hn]; exact hC.drewN n); have hK2 : Keeps (fun _ => False) w w2 := (by rw [hn]; exact hK.drewN n); clear hn)
            | (go_at_call 29; refine (bit_none hC2 (by omega) hlt hb).mono ?_; rintro e w3 ⟨rfl, hC3, hk3⟩))
          go_ret2
          exact bitsPost_err (HE.out.trans HX.out) ((hKR hK2 hk3).alloc _)
        | some v =>
          obtain ⟨x, q⟩ := v
          obtain ⟨hpq, hq, hxs⟩ := bitRef_ok hlt hb
          have HX : Hid (tplF s f q (jnB acc x) = r) := (by show _ = _; rw [← HR.out, bitRef_tpl s p hlt, hb])
          have HF2 : Hid (Few q (jnB acc x)) := (by
            show Few _ _
            unfold jnB
            split
            · exact (few_jn hf hxs).mono (by omega)
            · exact (hf.snoc (by omega)).mono (by omega))
          have HB : Hid (bitRef s p = some (x, q)) := hb
          clear hb
          subst hv
          go_upto_region 9 with (first
            | (go_at_call 28; refine (ended_no hC hlt).mono ?_; rintro e w2 ⟨rfl, n, hn⟩; have hC2 : Cu w2 R s (p : Int) := (by rw [hn]; exact hC.drewN n); have hK2 : Keeps (fun _ => False) w w2 := (by rw [hn]; exact hK.drewN n); have hB2 : BR w2 R (.slice av acc.length cv) acc := (by rw [hn]; exact ownsRow_heap hB rfl); clear hn)
            | (go_at_call 29; refine (bit_some hC2 (by omega) hlt HB.out).mono ?_; rintro e w3 ⟨rfl, hC3, hk3⟩))
          have hB3 : BR w3 R (.slice av acc.length cv) acc := ownsRow_keeps hB2 hk3 hvR
          have kB : Keeps (fun _ => False) w3 (w3.alloc (.cells #[.int .i64 x.1, .string x.2] 34)) := (Keeps.refl _ _).alloc _
          have hQ : Bk (w3.alloc (.cells #[.int .i64 x.1, .string x.2] 34)) w3.heap.size 34 [.int .i64 x.1, .string x.2] := bk_new w3 _ _
          have hB4 : BR (w3.alloc (.cells #[.int .i64 x.1, .string x.2] 34)) R (.slice av acc.length cv) acc := ownsRow_keeps hB3 kB (fun _ _ h => h)
          have hC4 := hC3.keeps kB (fun h => h)
          have hK4 := (hKR hK2 hk3).trans kB
          clear hB hB2 hB3 hC hC2 hC3 hK hK2 hk3 kB
          generalize w3.alloc (.cells #[.int .i64 x.1, .string x.2] 34) = w4 at hQ hB4 hC4 hK4 ⊢
          generalize w3.heap.size = Q at hQ ⊢
          have q0 : w4.cell? ⟨Q, 0, none⟩ = some (.int .i64 x.1) := by rw [hQ.cell]; rfl
          have q1 : w4.cell? ⟨Q, 1, none⟩ = some (.string x.2) := by rw [hQ.cell]; rfl
          have hcall := joined_any x hB4 (by have := hC4.lt; omega) (hf.mono (by omega)) (by omega)
          clear hQ
          go_wp2_with (first
            | (go_at_call 30; refine hcall.mono ?_; rintro e w5 ⟨v', rfl, hB5, hk5⟩; obtain ⟨a5, c5, hv5⟩ := own_form hB5; subst hv5))
          go_roundg (f + 1 - 1)
          case measure => omega
          case rel =>
            refine ⟨q, jnB acc x, _, by omega, hq, rfl, hB5, ?_, HF2.out, hC4.keeps hk5 (fun h => hvR _ h rfl), HX, hK4.trans' hk5 (fun i hi h => by have := (hB4.lt i h).1; have := HRe.out; omega)⟩
            intro k hk he
            subst he
            obtain ⟨c2, h2⟩ := own_blk hB5 hk
            have h3 := hC4.keeps hk5 (fun h => hvR _ h rfl)
            unfold Cu at h3
            rw [h3] at h2; simp at h2
      · have hpe : p = s.size := by omega
        have HX : Hid (r = .ok acc) := (by show _ = _; rw [← HR.out, tplF, if_pos (by omega)])
        subst hv
        go_wp2_with (first
          | (go_at_call 28; refine (ended_yes hC hpe).mono ?_; rintro e w2 ⟨rfl, n, rfl⟩))
        go_ret2
        exact bitsPost_ok (HE.out.trans HX.out) (hK.drewN _) (by rw [HRe.out]; exact ownsRow_heap hB rfl)

end Go.Proofs.YtmlgmhnplicflaaDoor
