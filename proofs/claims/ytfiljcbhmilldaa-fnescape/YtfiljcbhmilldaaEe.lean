import Derived.Test.YtfiljcbhmilldaaEd

/-
  The program's search: how a chain is made.
-/
namespace Go.Proofs.Ytfiljcbhmilldaa
open Go.RowKit
set_option linter.unusedVariables false

/-- A step, made anew. -/
def StepMade (X V : Nat) (bs : List Nat) (w : World) (e : Ending) (w' : World) : Prop := ∃ fv, e = .returned fv ∧ Ch w' X V bs fv ∧ Keeps (fun _ => False) w w'

theorem box3 (w : World) (x y z : Obj) : (((w.alloc x).alloc y).alloc z).heap[w.heap.size]? = some x ∧ (((w.alloc x).alloc y).alloc z).heap[w.heap.size + 1]? = some y ∧ (((w.alloc x).alloc y).alloc z).heap[w.heap.size + 2]? = some z := by
  refine ⟨?_, ?_, ?_⟩
  · rw [Below.heap_alloc _ _ _ (by simp; omega)]; exact box1 w x y
  · rw [Below.heap_alloc _ _ _ (by simp)]; exact box2 w x y
  · have := heap_alloc_new ((w.alloc x).alloc y) z
    simpa using this

set_option maxHeartbeats 1000000 in
set_option maxRecDepth 100000 in
theorem byteOf_any {w : World} {X V b : Nat} {f : Nat → Nat} {nx : Value} {bs : List Nat} (hX : X < w.heap.size) (hf : Bv (one b) f) (hch : Ch w X V bs nx) :
    Calls Try.prog 62 #[.pointer (some ⟨X, 0, none⟩), .agg #[.int .u64 (f 0), .int .u64 (f 1), .int .u64 (f 2), .int .u64 (f 3)], nx] w (StepMade X V (b :: bs) w) := by
  have hmf : ∀ (fn : Fn) (first cap : Array Value) (w : World), (Instr.makeFunc fn first cap).run Try.prog w = .ok (.func fn first cap) w := fun _ _ _ _ => rfl
  obtain ⟨fn, cp, hnx, -⟩ := hch.form
  subst hnx
  have hk : Keeps (fun _ => False) w (((w.alloc (.cells #[.pointer (some ⟨X, 0, none⟩)] 50)).alloc (.cells #[.int .u64 (f 0), .int .u64 (f 1), .int .u64 (f 2), .int .u64 (f 3)] 115)).alloc (.cells #[.func (.func fn) #[] cp] 57)) := (((Keeps.refl _ w).alloc _).alloc _).alloc _
  obtain ⟨b1, b2, b3⟩ := box3 w (.cells #[.pointer (some ⟨X, 0, none⟩)] 50) (.cells #[.int .u64 (f 0), .int .u64 (f 1), .int .u64 (f 2), .int .u64 (f 3)] 115) (.cells #[.func (.func fn) #[] cp] 57)
  have hfin : StepMade X V (b :: bs) w (.returned (.func (.func 77) #[] #[.pointer (some ⟨w.heap.size, 0, none⟩), .pointer (some ⟨w.heap.size + 1, 0, none⟩), .pointer (some ⟨w.heap.size + 2, 0, none⟩)])) (((w.alloc (.cells #[.pointer (some ⟨X, 0, none⟩)] 50)).alloc (.cells #[.int .u64 (f 0), .int .u64 (f 1), .int .u64 (f 2), .int .u64 (f 3)] 115)).alloc (.cells #[.func (.func fn) #[] cp] 57)) :=
    ⟨_, rfl, ⟨_, _, _, f, _, rfl, by omega, by omega, by omega, b1, b2, hf, b3, hch.keeps hk (fun _ _ _ h => h)⟩, hk⟩
  clear hk b1 b2 b3 hch
  go_enter Try.func62, Try.ntmps62
  go_wp2_with fail
  go_ret
  exact hfin

set_option maxHeartbeats 1000000 in
set_option maxRecDepth 100000 in
theorem step_set {w : World} {X V b : Nat} {f : Nat → Nat} {nx : Value} {bs : List Nat} (hX : X < w.heap.size) (hf : Bv (one b) f) (hch : Ch w X V bs nx) :
    Calls Try.prog 54 #[.pointer (some ⟨X, 0, none⟩), .iface 117 (.agg #[.int .u64 (f 0), .int .u64 (f 1), .int .u64 (f 2), .int .u64 (f 3)]), nx] w (StepMade X V (b :: bs) w) := by
  have hta : ∀ w : World, (Instr.typeAssert (.iface 117 (.agg #[.int .u64 (f 0), .int .u64 (f 1), .int .u64 (f 2), .int .u64 (f 3)])) 69 117 true).run Try.prog w = .ok (.tuple #[.agg #[.int .u64 (f 0), .int .u64 (f 1), .int .u64 (f 2), .int .u64 (f 3)], .bool true]) w := fun _ => by kernel_rfl
  obtain ⟨fn, cp, hnx, -⟩ := hch.form
  subst hnx
  have hk : Keeps (fun _ => False) w (w.alloc (.cells #[.int .u64 (f 0), .int .u64 (f 1), .int .u64 (f 2), .int .u64 (f 3)] 117)) := (Keeps.refl _ w).alloc _
  have hch2 := hch.keeps hk (fun _ _ _ h => h)
  have hX2 : X < (w.alloc (.cells #[.int .u64 (f 0), .int .u64 (f 1), .int .u64 (f 2), .int .u64 (f 3)] 117)).heap.size := Nat.lt_of_lt_of_le hX hk.size
  have hcall := byteOf_any hX2 hf hch2
  clear hch hch2
  go_enter Try.func54, Try.ntmps54
  go_wp2_with (first
    | (go_at_call 62; refine hcall.mono ?_; rintro e w2 ⟨fv, rfl, hc2, hk2⟩))
  go_ret
  exact ⟨_, rfl, hc2, hk.trans hk2⟩

theorem row_form2 {w : World} {base : Nat} {e : TypeId} {size n cap : Nat} {ao : Option Addr} {xs : List Value} (h : w.ownsRow base e size (.slice ao n cap) n xs) (hn : 0 < n) : ∃ g, ao = some ⟨g, 0, none⟩ := by
  obtain ⟨_, ⟨_, h0⟩ | ⟨g, cap', cur, h1, _⟩⟩ := h
  · omega
  · simp only [Value.slice.injEq] at h1
    exact ⟨g, h1.1⟩

/-- The nodes of some bytes, in a row. -/
def BytesRow (w : World) (ao : Option Addr) (cap : Nat) (bs : List Nat) : Prop :=
  ∃ vs : List Value, vs.length = bs.length ∧ w.ownsRow 0 69 1 (.slice ao bs.length cap) bs.length vs ∧ ∀ (i : Nat) (v : Value) (b : Nat), vs[i]? = some v → bs[i]? = some b → ∃ f : Nat → Nat, Bv (one b) f ∧ v = .iface 117 (.agg #[.int .u64 (f 0), .int .u64 (f 1), .int .u64 (f 2), .int .u64 (f 3)])
theorem BytesRow.keeps {w w' : World} {ao : Option Addr} {cap : Nat} {bs : List Nat} (h : BytesRow w ao cap bs) (k : Keeps (fun _ => False) w w') : BytesRow w' ao cap bs := by
  obtain ⟨vs, h1, h2, h3⟩ := h
  exact ⟨vs, h1, ownsRow_keeps h2 k (fun _ _ h => h), h3⟩

set_option maxHeartbeats 1000000 in
set_option maxRecDepth 100000 in
theorem seqStep_any {w : World} {X V : Nat} {ao : Option Addr} {cap : Nat} {bs : List Nat} {nx : Value} (hX : X < w.heap.size) (hn : bs.length ≤ 1000) (hr : BytesRow w ao cap bs) (hch : Ch w X V [] nx) :
    Calls Try.prog 63 #[.pointer (some ⟨X, 0, none⟩), .slice ao bs.length cap, nx] w (StepMade X V bs w) := by
  obtain ⟨fn, cp, hnx, -⟩ := hch.form
  subst hnx
  go_enter Try.func63, Try.ntmps63
  go_wp2_with fail
  go_loopg [2, 7] (bs.length + 1) (fun gl x2 x7 wr => ∃ i : Nat, i + 1 = gl ∧ i ≤ bs.length ∧ x7 = .int .i64 ((i : Int) - 1) ∧ Ch wr X V (bs.drop i) x2 ∧ BytesRow wr ao cap bs ∧ Keeps (fun _ => False) w wr)
  case atStart => exact ⟨bs.length, rfl, Nat.le_refl _, rfl, by simpa using hch, hr, Keeps.refl _ _⟩
  case round =>
    clear hch hr
    obtain ⟨i, hgl, hi, rfl, hch, hr, hK⟩ := hrel
    have hXr : X < wr.heap.size := Nat.lt_of_lt_of_le hX hK.size
    cases i with
    | zero =>
      obtain ⟨fn2, cp2, hnx, -⟩ := hch.form
      subst hnx
      go_wp2_with fail
      go_ret
      exact ⟨_, rfl, by simpa using hch, hK⟩
    | succ i =>
      obtain ⟨vs, hvl, hrow, hvs⟩ := hr
      have hlt : i < bs.length := by omega
      have hv : vs[i]? = some vs[i] := List.getElem?_eq_getElem (by omega)
      have hb : bs[i]? = some bs[i] := List.getElem?_eq_getElem hlt
      have hdrop : bs.drop i = bs[i] :: bs.drop (i + 1) := List.drop_eq_getElem_cons hlt
      generalize vs[i] = v at hv
      generalize bs[i] = b at hb hdrop
      obtain ⟨f, hf, rfl⟩ := hvs i v b hv hb
      obtain ⟨g9, rfl⟩ := row_form2 hrow (by omega)
      have cv : wr.cell? ⟨g9, i, none⟩ = some (.iface 117 (.agg #[.int .u64 (f 0), .int .u64 (f 1), .int .u64 (f 2), .int .u64 (f 3)])) := by
        have := hrow.cells rfl i _ hv
        have e : Addr.add ⟨g9, 0, none⟩ i = ⟨g9, i, none⟩ := by by_cases h : i = 0 <;> simp [Addr.add, h]
        rw [e] at this; exact this
      have hcall := step_set hXr hf hch
      obtain ⟨fn2, cp2, hnx, -⟩ := hch.form
      subst hnx
      have hiz : (i : Int) < (bs.length : Int) := by omega
      have hi0 : (0 : Int) ≤ (i : Int) := by omega
      have hx1 : ((i + 1 : Nat) : Int) - 1 = (i : Int) := by omega
      have HD : Hid (bs.drop i = b :: bs.drop (i + 1)) := hdrop
      have HG : Hid (i + 1 + 1 = gk) := hgl
      have hrr : BytesRow wr (some ⟨g9, 0, none⟩) cap bs := ⟨vs, hvl, hrow, hvs⟩
      clear hdrop hgl hch hv hb hvs hvl
      rw [hx1]
      go_wp2_with (first
        | (go_at_call 54; refine hcall.mono ?_; rintro e w2 ⟨fv, rfl, hc2, hk2⟩; obtain ⟨fn3, cp3, hnx, -⟩ := hc2.form; subst hnx))
      go_roundg (gk - 1)
      case measure => have := HG.out; omega
      case rel =>
        refine ⟨i, by have := HG.out; omega, by omega, congrArg (Value.int .i64) (by omega), by rw [HD.out]; exact hc2, hrr.keeps hk2, hK.trans hk2⟩

end Go.Proofs.Ytfiljcbhmilldaa

/-
  The program's search: a new one.
-/
namespace Go.Proofs.Ytfiljcbhmilldaa
open Go.RowKit
set_option linter.unusedVariables false

set_option maxHeartbeats 1000000 in
set_option maxRecDepth 100000 in
theorem step_seq {w : World} {X V : Nat} {ao : Option Addr} {cap : Nat} {bs : List Nat} {nx : Value} (hX : X < w.heap.size) (hn : bs.length ≤ 1000) (hr : BytesRow w ao cap bs) (hch : Ch w X V [] nx) :
    Calls Try.prog 54 #[.pointer (some ⟨X, 0, none⟩), .iface 120 (.agg #[.slice ao bs.length cap]), nx] w (StepMade X V bs w) := by
  have hta : ∀ (v : Value) (w : World), (Instr.typeAssert (.iface 120 (.agg #[v])) 69 117 true).run Try.prog w = .ok (.tuple #[.agg #[.int .u64 0, .int .u64 0, .int .u64 0, .int .u64 0], .bool false]) w := fun _ _ => by kernel_rfl
  have htb : ∀ (v : Value) (w : World), (Instr.typeAssert (.iface 120 (.agg #[v])) 69 120 true).run Try.prog w = .ok (.tuple #[.agg #[v], .bool true]) w := fun _ _ => by kernel_rfl
  obtain ⟨fn, cp, hnx, -⟩ := hch.form
  subst hnx
  have hk : Keeps (fun _ => False) w (w.alloc (.cells #[.slice ao bs.length cap] 120)) := (Keeps.refl _ w).alloc _
  have hch2 := hch.keeps hk (fun _ _ _ h => h)
  have hX2 : X < (w.alloc (.cells #[.slice ao bs.length cap] 120)).heap.size := Nat.lt_of_lt_of_le hX hk.size
  have hcall := seqStep_any hX2 hn (hr.keeps hk) hch2
  clear hch hch2 hr
  go_enter Try.func54, Try.ntmps54
  go_wp2_with (first
    | (go_at_call 63; refine hcall.mono ?_; rintro e w2 ⟨fv, rfl, hc2, hk2⟩))
  go_ret
  exact ⟨_, rfl, hc2, hk.trans hk2⟩

theorem notPassed_any {w : World} : Calls Try.prog 52 #[] w fun e w' => e = .returned (.agg #[.int .i64 (-1), .int .i64 (-1)]) ∧ Keeps (fun _ => False) w w' := by
  go_enter Try.func52, Try.ntmps52
  go_wp2_with fail
  refine bodyPost_ret (v := .agg #[.int .i64 (-1), .int .i64 (-1)]) (by simp [results, Try.results52, go_sem]) rfl ?_
  exact ⟨rfl, (Keeps.refl _ _).alloc _⟩

theorem placeSet_any {w : World} : Calls Try.prog 53 #[] w fun e w' => ∃ m, e = .returned (.agg #[.map (some m)]) ∧ Keeps (fun _ => False) w w' := by
  have hmm : ∀ (t : TypeId) (w : World), (Instr.makeMap t none).run Try.prog w = .ok (.map (some w.heap.size)) (w.alloc (.map #[] 0)) := fun _ _ => rfl
  go_enter Try.func53, Try.ntmps53
  go_wp2
  refine bodyPost_ret (v := .agg #[.map (some (w.heap.size + 1))]) (by simp [results, Try.results53, go_sem]) rfl ?_
  exact ⟨_, rfl, ((Keeps.refl _ _).alloc _).alloc _⟩

set_option maxHeartbeats 1000000 in
set_option maxRecDepth 100000 in
theorem mul64_zero {w : World} : Calls Try.prog 76 #[.int .u64 1, .int .u64 0] w fun e w' => e = .returned (.tuple #[.int .u64 0, .int .u64 0]) ∧ w' = w := by
  have hb1 : bits BinOp.and IntKind.u64 1 4294967295 = 1 := by decide +kernel
  have hb0 : bits BinOp.and IntKind.u64 0 4294967295 = 0 := by decide +kernel
  go_enter Try.func76, Try.ntmps76
  go_wp2
  refine bodyPost_ret (v := .tuple #[.int .u64 0, .int .u64 0]) (by simp [results, Try.results76]) rfl ?_
  exact ⟨rfl, rfl⟩

set_option maxHeartbeats 1000000 in
set_option maxRecDepth 100000 in
theorem mul_zero {w : World} : Calls Try.prog 61 #[.int .u64 1, .int .u64 0] w fun e w' => e = .returned (.tuple #[.int .u64 0, .int .u64 0]) ∧ w' = w := by
  go_enter Try.func61, Try.ntmps61
  go_wp2_with (go_at_call 76; refine mul64_zero.mono ?_; rintro e w2 ⟨rfl, rfl⟩)
  refine bodyPost_ret (v := .tuple #[.int .u64 0, .int .u64 0]) (by simp [results, Try.results61]) rfl ?_
  exact ⟨rfl, rfl⟩

set_option maxHeartbeats 1000000 in
set_option maxRecDepth 100000 in
theorem repeat_zero {w : World} {G : Nat} : Calls Try.prog 51 #[.slice (some ⟨G, 0, none⟩) 1 1, .int .i64 0] w fun e w' => ∃ ao cap, e = .returned (.slice ao 0 cap) ∧ Keeps (fun _ => False) w w' := by
  have hms : ∀ w : World, (Instr.makeSlice 25 (.int .i64 0) (.int .i64 0)).run Try.prog w = .ok (.slice (some ⟨w.heap.size, 0, none⟩) 0 0) (w.alloc (.cells #[] 35)) := fun _ => by kernel_rfl
  have hcp : ∀ (a b : Addr) (w : World), (Builtin.copy_ #[25, 25] 3 #[.slice (some a) 0 0, .slice (some b) 1 1]).run Try.prog w = .ok (.int .i64 0) w := fun _ _ _ => by kernel_rfl
  go_enter Try.func51, Try.ntmps51
  go_wp2_with (go_at_call 61; refine mul_zero.mono ?_; rintro e w2 ⟨rfl, rfl⟩)
  have hk : Keeps (fun _ => False) w2 (w2.alloc (.cells #[] 35)) := (Keeps.refl _ w2).alloc _
  generalize w2.alloc (.cells #[] 35) = w3 at hk ⊢
  go_loopg [8] 1 (fun gl x8 wr => gl = 1 ∧ x8 = .int .i64 0 ∧ wr = w3)
  case atStart => exact ⟨rfl, rfl, rfl⟩
  case round =>
    obtain ⟨rfl, rfl, rfl⟩ := hrel
    go_wp2_with fail
    go_ret
    exact ⟨_, _, rfl, hk⟩

end Go.Proofs.Ytfiljcbhmilldaa
