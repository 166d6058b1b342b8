import Derived.Test.YtfiljcbhmilldaaEe
import Derived.Test.YtfiljcbhmilldaaEb
import Derived.Test.YtfiljcbhmilldaaEf

/-
  What a node of a sequence of bytes is.
-/
namespace Go.Proofs.Ytfiljcbhmilldaa
open Go.RowKit
set_option linter.unusedVariables false

theorem rangesTo_mem (S : Bs) (n : Nat) : (∀ r ∈ rangesTo S n, r.1 ≤ r.2 ∧ r.2 < (n : Int)) ∧ ∀ x : Nat, (∃ r ∈ rangesTo S n, r.1 ≤ (x : Int) ∧ (x : Int) ≤ r.2) ↔ (x < n ∧ S x = true) := by
  induction n with
  | zero => simp [rangesTo]
  | succ b ih =>
    obtain ⟨h1, h2⟩ := ih
    cases hS : S b with
    | false =>
      have e : rangesTo S (b + 1) = rangesTo S b := by rw [rangesTo]; simp [hS]
      rw [e]
      refine ⟨fun r hr => by have := h1 r hr; omega, fun x => ?_⟩
      rw [h2 x]
      constructor
      · rintro ⟨a, c⟩; exact ⟨by omega, c⟩
      · rintro ⟨a, c⟩
        refine ⟨?_, c⟩
        rcases Nat.lt_succ_iff_lt_or_eq.mp a with h | h
        · exact h
        · subst h; rw [hS] at c; simp at c
    | true =>
      rcases List.eq_nil_or_concat (rangesTo S b) with hL | ⟨A, r, hL⟩
      · have e : rangesTo S (b + 1) = [((b : Int), (b : Int))] := by rw [rangesTo]; simp [hS, hL]
        rw [e]
        rw [hL] at h2
        refine ⟨by simp; omega, fun x => ?_⟩
        have h3 := h2 x
        simp at h3
        constructor
        · rintro ⟨r, hr, ha, hb⟩
          simp at hr; subst hr
          simp at ha hb
          have : x = b := by omega
          subst this; exact ⟨by omega, hS⟩
        · rintro ⟨ha, hb⟩
          refine ⟨_, List.mem_singleton.2 rfl, ?_⟩
          rcases Nat.lt_succ_iff_lt_or_eq.mp ha with h | h
          · exact absurd hb (by simp [h3 h])
          · subst h; simp
      · rw [List.concat_eq_append] at hL
        rw [hL] at h1 h2
        have hr := h1 r (by simp)
        have hlast : (rangesTo S b).getLast? = some r := by rw [hL]; simp
        by_cases hq : r.2 = (b : Int) - 1
        · have e : rangesTo S (b + 1) = A ++ [(r.1, (b : Int))] := by
            rw [rangesTo, if_pos hS, hlast]; simp only; rw [if_pos hq, hL]; simp
          rw [e]
          constructor
          · intro z hz
            rcases List.mem_append.1 hz with hz | hz
            · have := h1 z (by simp [hz]); omega
            · simp at hz; subst hz; simp; omega
          · intro x
            have h3 := h2 x
            constructor
            · rintro ⟨z, hz, ha, hb⟩
              rcases List.mem_append.1 hz with hz | hz
              · have := h3.1 ⟨z, by simp [hz], ha, hb⟩; exact ⟨by omega, this.2⟩
              · simp at hz; subst hz
                simp at ha hb
                by_cases hx : x = b
                · subst hx; exact ⟨by omega, hS⟩
                · have := h3.1 ⟨r, by simp, ha, by omega⟩; exact ⟨by omega, this.2⟩
            · rintro ⟨ha, hb⟩
              by_cases hx : x = b
              · subst hx; exact ⟨_, List.mem_append.2 (Or.inr (List.mem_singleton.2 rfl)), by simp; omega, by simp⟩
              · obtain ⟨z, hz, h4, h5⟩ := h3.2 ⟨by omega, hb⟩
                rcases List.mem_append.1 hz with hz | hz
                · exact ⟨z, List.mem_append.2 (Or.inl hz), h4, h5⟩
                · simp at hz; subst hz
                  exact ⟨_, List.mem_append.2 (Or.inr (List.mem_singleton.2 rfl)), h4, by simp; omega⟩
        · have e : rangesTo S (b + 1) = (A ++ [r]) ++ [((b : Int), (b : Int))] := by
            rw [rangesTo, if_pos hS, hlast]; simp only; rw [if_neg hq, hL]
          rw [e]
          constructor
          · intro z hz
            rcases List.mem_append.1 hz with hz | hz
            · have := h1 z hz; omega
            · simp at hz; subst hz; simp; omega
          · intro x
            have h3 := h2 x
            constructor
            · rintro ⟨z, hz, ha, hb⟩
              rcases List.mem_append.1 hz with hz | hz
              · have := h3.1 ⟨z, hz, ha, hb⟩; exact ⟨by omega, this.2⟩
              · simp at hz; subst hz
                simp at ha hb
                have : x = b := by omega
                subst this; exact ⟨by omega, hS⟩
            · rintro ⟨ha, hb⟩
              by_cases hx : x = b
              · subst hx; exact ⟨_, List.mem_append.2 (Or.inr (List.mem_singleton.2 rfl)), by simp⟩
              · obtain ⟨z, hz, h4, h5⟩ := h3.2 ⟨by omega, hb⟩
                exact ⟨z, List.mem_append.2 (Or.inl hz), h4, h5⟩

theorem ranges_inj {S T : Bs} (h : ranges S = ranges T) (x : Nat) (hx : x < 256) : S x = T x := by
  have h1 := (rangesTo_mem S 256).2 x
  have h2 := (rangesTo_mem T 256).2 x
  unfold ranges at h
  rw [h] at h1
  have h3 : S x = true ↔ T x = true := by
    constructor
    · intro hs; exact (h2.1 (h1.2 ⟨hx, hs⟩)).2
    · intro ht; exact (h1.1 (h2.2 ⟨hx, ht⟩)).2
  cases hs : S x <;> cases ht : T x <;> simp [hs, ht] at h3 ⊢

theorem last_eq {α : Type} {a b : List α} {x y : α} (h : a ++ [x] = b ++ [y]) : a = b ∧ x = y := by
  have := List.append_inj' h rfl
  exact ⟨this.1, by simpa using this.2⟩

/-- A node that is just one byte. -/
theorem nd_byte {w : World} {D : Nat → Prop} {v : Value} {f : Pf} (h : Nd w D v f) : ∀ (n b : Nat), f n = [setPc (one b)] → ∃ g : Nat → Nat, Bv (one b) g ∧ v = .iface 117 (.agg #[.int .u64 (g 0), .int .u64 (g 1), .int .u64 (g 2), .int .u64 (g 3)]) := by
  refine h.ind (M := fun v f => ∀ (n b : Nat), f n = [setPc (one b)] → ∃ g : Nat → Nat, Bv (one b) g ∧ v = .iface 117 (.agg #[.int .u64 (g 0), .int .u64 (g 1), .int .u64 (g 2), .int .u64 (g 3)])) ?_ ?_ ?_ ?_ ?_ ?_ ?_
  · intro S g hg n b e
    have e2 : ranges S = ranges (one b) := by
      simp only [setPf, List.cons.injEq, and_true] at e
      exact congrArg Pc.set e
    exact ⟨g, bv_congr hg (fun x hx => ranges_inj e2 x hx), rfl⟩
  · intro n b e; simp only [startPf, List.cons.injEq, and_true] at e; have := congrArg Pc.kind e; simp [setPc] at this
  · intro n b e; simp only [endPf, List.cons.injEq, and_true] at e; have := congrArg Pc.kind e; simp [setPc] at this
  · intro v vs fs _ _ _ _ _ n b e
    have := (last_eq (b := []) (show cat fs n ++ [kidsPc 2 (ends fs n)] = [] ++ [setPc (one b)] from e)).2
    have := congrArg Pc.kind this; simp [setPc, kidsPc] at this
  · intro v vs fs _ _ _ _ _ n b e
    have := (last_eq (b := []) (show cat fs n ++ [kidsPc 3 (ends fs n)] = [] ++ [setPc (one b)] from e)).2
    have := congrArg Pc.kind this; simp [setPc, kidsPc] at this
  · intro a f lo hi lz _ _ n b e
    have := (last_eq (b := []) (show f n ++ [_] = [] ++ [setPc (one b)] from e)).2
    have := congrArg Pc.kind this; simp [setPc] at this
  · intro a f num _ _ n b e
    have := (last_eq (b := []) (show f n ++ [_] = [] ++ [setPc (one b)] from e)).2
    have := congrArg Pc.kind this; simp [setPc] at this

theorem kids_bytes (fs : List Pf) (l : List Nat) (n : Nat) (h1 : cat fs n = cat (l.map fun b => setPf (one b)) n) (h2 : ends fs n = ends (l.map fun b => setPf (one b)) n) :
    fs.length = l.length ∧ ∀ (i : Nat) (f : Pf) (b : Nat), fs[i]? = some f → l[i]? = some b → ∃ m, f m = [setPc (one b)] := by
  induction fs generalizing l n with
  | nil =>
    cases l with
    | nil => simp
    | cons b l => simp [ends] at h2
  | cons f fs ih =>
    cases l with
    | nil => simp [ends] at h2
    | cons b l =>
      simp only [List.map_cons, cat, ends, List.cons.injEq] at h1 h2
      have hlen : (f n).length = (setPf (one b) n).length := by have := h2.1; omega
      have h3 := List.append_inj h1 hlen
      obtain ⟨a1, a2⟩ := ih l (n + (f n).length) (by rw [hlen]; rw [hlen] at h3; exact h3.2) (by rw [hlen]; rw [hlen] at h2; exact h2.2)
      refine ⟨by simp [a1], fun i g c hg hc => ?_⟩
      cases i with
      | zero => simp at hg hc; subst hg hc; exact ⟨n, h3.1⟩
      | succ i => simp at hg hc; exact a2 i g c hg hc

/-- A node that is a sequence of bytes. -/
theorem nd_bytes {w : World} {D : Nat → Prop} {v : Value} {f : Pf} (h : Nd w D v f) : ∀ (l : List Nat), f 0 = seqPf (l.map fun b => setPf (one b)) 0 → l.length ≤ 1000 ∧ ∃ ao cap, v = .iface 120 (.agg #[.slice ao l.length cap]) ∧ BytesRow w ao cap l := by
  have key : Nd w D v f ∧ ∀ (l : List Nat), f 0 = seqPf (l.map fun b => setPf (one b)) 0 → l.length ≤ 1000 ∧ ∃ ao cap, v = .iface 120 (.agg #[.slice ao l.length cap]) ∧ BytesRow w ao cap l := by
    refine h (fun v f => Nd w D v f ∧ ∀ (l : List Nat), f 0 = seqPf (l.map fun b => setPf (one b)) 0 → l.length ≤ 1000 ∧ ∃ ao cap, v = .iface 120 (.agg #[.slice ao l.length cap]) ∧ BytesRow w ao cap l) ⟨?_, ?_, ?_, ?_, ?_, ?_, ?_⟩
    · intro S g hg
      refine ⟨.set hg, fun l e => ?_⟩
      have := (last_eq (a := []) (show [] ++ [setPc S] = cat (l.map fun b => setPf (one b)) 0 ++ [kidsPc 2 (ends (l.map fun b => setPf (one b)) 0)] from e)).2
      have := congrArg Pc.kind this; simp [setPc, kidsPc] at this
    · refine ⟨.start, fun l e => ?_⟩
      have := (last_eq (a := []) (show [] ++ [_] = cat (l.map fun b => setPf (one b)) 0 ++ [kidsPc 2 (ends (l.map fun b => setPf (one b)) 0)] from e)).2
      have := congrArg Pc.kind this; simp [kidsPc] at this
    · refine ⟨.fin, fun l e => ?_⟩
      have := (last_eq (a := []) (show [] ++ [_] = cat (l.map fun b => setPf (one b)) 0 ++ [kidsPc 2 (ends (l.map fun b => setPf (one b)) 0)] from e)).2
      have := congrArg Pc.kind this; simp [kidsPc] at this
    · intro v vs fs ho hD hl hn hk
      refine ⟨.seq ho hD hl hn (fun i x f hx hf => (hk i x f hx hf).1), fun l e => ?_⟩
      obtain ⟨e1, e2⟩ := last_eq (show cat fs 0 ++ [kidsPc 2 (ends fs 0)] = cat (l.map fun b => setPf (one b)) 0 ++ [kidsPc 2 (ends (l.map fun b => setPf (one b)) 0)] from e)
      have e3 : ends fs 0 = ends (l.map fun b => setPf (one b)) 0 := congrArg Pc.kids e2
      obtain ⟨a1, a2⟩ := kids_bytes fs l 0 e1 e3
      have hvl : vs.length = l.length := by omega
      obtain ⟨ao, cap, rfl⟩ := own_form ho
      refine ⟨by omega, ao, cap, by rw [hvl], vs, hvl, by rw [← hvl]; exact ho, fun i x b hx hb => ?_⟩
      have hi : i < fs.length := by
        rw [a1]; apply Decidable.byContradiction; intro hn'; rw [List.getElem?_eq_none (by omega)] at hb; simp at hb
      obtain ⟨m, hm⟩ := a2 i fs[i] b (List.getElem?_eq_getElem hi) hb
      exact nd_byte (hk i x fs[i] hx (List.getElem?_eq_getElem hi)).1 m b hm
    · intro v vs fs ho hD hl hn hk
      refine ⟨.alt ho hD hl hn (fun i x f hx hf => (hk i x f hx hf).1), fun l e => ?_⟩
      have := (last_eq (show cat fs 0 ++ [kidsPc 3 (ends fs 0)] = cat (l.map fun b => setPf (one b)) 0 ++ [kidsPc 2 (ends (l.map fun b => setPf (one b)) 0)] from e)).2
      have := congrArg Pc.kind this; simp [kidsPc] at this
    · intro a f lo hi lz hk
      refine ⟨.rep lo hi lz hk.1, fun l e => ?_⟩
      have := (last_eq (show f 0 ++ [_] = cat (l.map fun b => setPf (one b)) 0 ++ [kidsPc 2 (ends (l.map fun b => setPf (one b)) 0)] from e)).2
      have := congrArg Pc.kind this; simp [kidsPc] at this
    · intro a f num hk
      refine ⟨.grp num hk.1, fun l e => ?_⟩
      have := (last_eq (show f 0 ++ [_] = cat (l.map fun b => setPf (one b)) 0 ++ [kidsPc 2 (ends (l.map fun b => setPf (one b)) 0)] from e)).2
      have := congrArg Pc.kind this; simp [kidsPc] at this
  exact key.2

end Go.Proofs.Ytfiljcbhmilldaa

/-
  The program's Ways and Whole over the pattern of a text.
-/
namespace Go.Proofs.Ytfiljcbhmilldaa
open Go.RowKit
set_option linter.unusedVariables false

/-- The bytes of a text. -/
def byteN (l : List UInt8) : List Nat := l.map UInt8.toNat

set_option maxHeartbeats 1000000 in
set_option maxRecDepth 100000 in
theorem searchFor_any {w : World} {l : List UInt8} {u : ByteArray} (hl : (Esc.encL l).length ≤ 120) (hu : u.size ≤ 200) :
    Calls Try.prog 23 #[.string (Esc.ba (Esc.encL l)), .string u, .int .i64 0] w fun e w' => ∃ X, e = .returned (.pointer (some ⟨X, 0, none⟩)) ∧ Ready w' X u (byteN l) ∧ w.heap.size ≤ X ∧ Keeps (fun _ => False) w w' := by
  have hnn : ∀ (t : TypeId) (y : Value) (w : World), (binOp BinOp.eql 69 (.iface t y) .nilIface).run Try.prog w = .ok (.bool false) w := fun _ _ _ => by kernel_rfl
  have huz : (u.size : Int) ≤ 200 := by omega
  have hu0 : (0 : Int) ≤ (u.size : Int) := by omega
  have hcall := tree_any (w := w) (Esc.ba (Esc.encL l))
  unfold TreePost at hcall
  rw [tree_esc l hl] at hcall
  have e0 : (l.map fun c => setPf (one c.toNat)) = (byteN l).map fun b => setPf (one b) := by simp [byteN]
  rw [e0] at hcall
  go_enter Try.func23, Try.ntmps23
  go_wp2_with (first
    | (go_at_call 29; refine hcall.mono ?_; rintro e w2 ⟨v, rfl, hN, hk⟩; obtain ⟨hn, ao, cap, rfl, hrow⟩ := nd_bytes hN (byteN l) rfl)
    | (go_at_call 38; refine (newSearch_any hn hrow).mono ?_; rintro e w3 ⟨X, rfl, hR, hX, hk2⟩))
  all_goals (try go_ret)
  all_goals exact ⟨X, rfl, hR, Nat.le_trans hk.size hX, hk.trans hk2⟩

end Go.Proofs.Ytfiljcbhmilldaa
