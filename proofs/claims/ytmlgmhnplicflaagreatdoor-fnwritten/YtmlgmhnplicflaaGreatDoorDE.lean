import Derived.Test.YtmlgmhnplicflaaGreatDoorX
import Derived.WalkMore
import Derived.Test.YtmlgmhnplicflaaGreatDoorAM
import Derived.Test.YtmlgmhnplicflaaGreatDoorDD

/-
  What the program answers where the pattern is none.
-/
namespace Go.Proofs.YtmlgmhnplicflaaGreatDoor
open Go.RowKit
set_option linter.unusedVariables false

set_option maxHeartbeats 1000000 in
set_option maxRecDepth 100000 in
theorem searchFor_none {w : World} {s u : ByteArray} {x : Nat} (ht : treeRef s = .error x) :
    Calls Tryz.prog 29 #[.string s, .string u, .int .i64 0] w fun e w' => e = .returned (.pointer none) ∧ Keeps (fun _ => False) w w' := by
  have hnil : ∀ w : World, (binOp BinOp.eql 94 .nilIface .nilIface).run Tryz.prog w = .ok (.bool true) w := fun _ => by kernel_rfl
  have hcall := tree_any (w := w) s
  unfold TreePost at hcall
  rw [ht] at hcall
  clear ht
  go_enter Tryz.func29, Tryz.ntmps29
  go_wp2_with (first
    | (go_at_call 44; refine hcall.mono ?_; rintro e w2 ⟨rfl, hk⟩))
  all_goals (try go_ret)
  all_goals exact ⟨rfl, hk⟩

set_option maxHeartbeats 1000000 in
set_option maxRecDepth 100000 in
theorem ways_none {w : World} {s u : ByteArray} {x : Nat} (ht : treeRef s = .error x) :
    Calls Tryz.prog 19 #[.string s, .string u, .int .i64 0] w fun e w' => e = .returned (.slice none 0 0) ∧ Keeps (fun _ => False) w w' := by
  have hcall := fun w => searchFor_none (w := w) (u := u) ht
  clear ht
  go_enter Tryz.func19, Tryz.ntmps19
  go_wp2_with (first
    | (go_at_call 29; refine (hcall _).mono ?_; rintro e w2 ⟨rfl, hk⟩))
  go_ret
  exact ⟨rfl, ((Keeps.refl _ _).alloc _).trans hk⟩

/-- A match in a variable. -/
def AtM4 (w : World) (P : Nat) (a b c d : Value) : Prop := w.heap[P]? = some (.cells #[a, b, c, d] 38 (0, 0))
theorem AtM4.keeps {w w' : World} {P : Nat} {a b c d : Value} (h : AtM4 w P a b c d) (k : Keeps (fun _ => False) w w') : AtM4 w' P a b c d := by
  unfold AtM4 at h ⊢; rw [k.block P (lt_of_block h) (fun h => h)]; exact h
theorem AtM4.cells {w : World} {P : Nat} {a b c d : Value} (h : AtM4 w P a b c d) : w.cell? ⟨P, 0, none⟩ = some a ∧ w.cell? ⟨P, 1, none⟩ = some b ∧ w.cell? ⟨P, 2, none⟩ = some c ∧ w.cell? ⟨P, 3, none⟩ = some d ∧ ∀ i, w.frozen? ⟨P, i, none⟩ = false := by
  unfold AtM4 at h
  refine ⟨?_, ?_, ?_, ?_, fun i => free_of h⟩ <;> rw [cell_of h] <;> rfl

set_option maxHeartbeats 1000000 in
set_option maxRecDepth 100000 in
theorem find_none {w : World} {s u : ByteArray} {x : Nat} (ht : treeRef s = .error x) :
    Calls Tryz.prog 20 #[.string s, .string u, .int .i64 0] w fun e w' => e = .returned (.agg #[.bool false, .int .i64 0, .int .i64 0, .slice none 0 0]) ∧ Keeps (fun _ => False) w w' := by
  have hcall := fun w => searchFor_none (w := w) (u := u) ht
  have hK1 : Keeps (fun _ => False) w (w.alloc (.cells #[.bool false, .int .i64 0, .int .i64 0, .slice none 0 0] 38)) := (Keeps.refl _ w).alloc _
  have h4 : AtM4 (w.alloc (.cells #[.bool false, .int .i64 0, .int .i64 0, .slice none 0 0] 38)) w.heap.size (.bool false) (.int .i64 0) (.int .i64 0) (.slice none 0 0) := heap_alloc_new w _
  clear ht
  go_enter Tryz.func20, Tryz.ntmps20
  go_wp2_with (first
    | (go_at_call 29; refine (hcall _).mono ?_; rintro e w2 ⟨rfl, hk⟩; replace h4 := h4.keeps hk; obtain ⟨c0, c1, c2, c3, ef⟩ := h4.cells))
  refine bodyPost_ret (v := .agg #[.bool false, .int .i64 0, .int .i64 0, .slice none 0 0]) (by simp [results, Tryz.results20, go_sem, c0, c1, c2, c3]) rfl ?_
  exact ⟨rfl, (((((hK1.trans hk).setCell (fun h => absurd h (by simp)) _).setCell (fun h => absurd h (by simp)) _).setCell (fun h => absurd h (by simp)) _).setCell (fun h => absurd h (by simp)) _)⟩

set_option maxHeartbeats 1000000 in
set_option maxRecDepth 100000 in
theorem split_none {w : World} {s u : ByteArray} {x : Nat} (ht : treeRef s = .error x) :
    Calls Tryz.prog 21 #[.string s, .string u] w fun e w' => e = .returned (.slice none 0 0) ∧ Keeps (fun _ => False) w w' := by
  have hcall := fun w => searchFor_none (w := w) (u := u) ht
  clear ht
  go_enter Tryz.func21, Tryz.ntmps21
  go_wp2
  go_step3
  go_wp2_with (first
    | (go_at_call 29; refine (hcall _).mono ?_; rintro e w2 ⟨rfl, hk⟩))
  rw [Exit.noGoto_ret]
  go_ret
  exact ⟨rfl, ((Keeps.refl _ _).alloc _).trans hk⟩

end Go.Proofs.YtmlgmhnplicflaaGreatDoor

/-
  What is read is small; what is no pattern has no tree.
-/
namespace Go.Proofs.YtmlgmhnplicflaaGreatDoor
open Go.RowKit
set_option linter.unusedVariables false

def Bd (f : Pf) : Prop := ∀ n, ∀ c ∈ f n, B64 c.min ∧ B64 c.max
theorem bd_kids (K : Int) (fs : List Pf) (h : ∀ f ∈ fs, Bd f) : Bd (fun n => cat fs n ++ [kidsPc K (ends fs n)]) := by
  intro n c hc
  rcases List.mem_append.1 hc with hc | hc
  · obtain ⟨i, f, m, hf, hm⟩ := mem_cat hc
    exact h f (List.mem_of_getElem? hf) m c hm
  · rw [List.mem_singleton.1 hc]; simp [kidsPc, B64]
theorem bd_over (f : Pf) (X : Nat → Pc) (h : Bd f) (hX : ∀ n, B64 (X n).min ∧ B64 (X n).max) : Bd (fun n => f n ++ [X n]) := by
  intro n c hc
  rcases List.mem_append.1 hc with hc | hc
  · exact h n c hc
  · rw [List.mem_singleton.1 hc]; exact hX n
theorem bd_all {f : Pf} (h : Fm f) : Bd f :=
  h Bd ⟨fun S n c hc => by simp only [setPf, List.mem_singleton] at hc; subst hc; simp [setPc, B64],
    fun n c hc => by simp only [startPf, List.mem_singleton] at hc; subst hc; simp [B64],
    fun n c hc => by simp only [endPf, List.mem_singleton] at hc; subst hc; simp [B64],
    fun fs h => bd_kids 2 fs h, fun fs h => bd_kids 3 fs h,
    fun f lo hi lz a b c d h => bd_over f (fun n => { kind := 4, set := [], min := lo, max := hi, lazy := lz, num := 0, kids := [(n : Int) + (f n).length - 1] }) h (fun n => by simp only [B64]; omega),
    fun f num h => bd_over f (fun n => { kind := 5, set := [], min := 0, max := 0, lazy := false, num := num, kids := [(n : Int) + (f n).length - 1] }) h (fun n => by simp [B64])⟩
theorem rps_b64 {s : ByteArray} {r : Rres} (h : readRef s = r) : ∀ x ∈ rPs r, B64 x.min ∧ B64 x.max := by
  cases r with
  | error x => simp [rPs]
  | ok v =>
    obtain ⟨g, ps⟩ := v
    obtain ⟨f, hf, rfl, _, hl⟩ := readRef_fm h
    exact bd_all hf 0

theorem tree_none {s : ByteArray} {r : Rres} (h : readRef s = r) (ho : rOk r = false) : ∃ x, treeRef s = .error x := by
  cases ht : treeRef s with
  | error x => exact ⟨x, rfl⟩
  | ok v =>
    obtain ⟨g, f⟩ := v
    have := (readRef_ok ht).1
    rw [h] at this
    subst this
    simp [rOk] at ho

/-- What is written is read as what it was written from. -/
theorem gi_again {ok : Bool} {at_ gr : Int} {ps : List Pc} {t : Tx} (h : Gi ok at_ gr ps t) : ∃ r : Rres, readRef (tb t) = r ∧ rOk r = ok ∧ rAt r = at_ ∧ rGr r = gr ∧ rPs r = ps := by
  obtain ⟨_, ⟨g, h1, h2⟩, h3, h4⟩ := h
  exact ⟨_, h1, by simp [rOk, h3], by simp [rAt, h4], by simp [rGr, h2], by simp [rPs]⟩
theorem gi_one {ok : Bool} {at_ gr : Int} {ps : List Pc} {t t' : Tx} (h : Gi ok at_ gr ps t) (h' : Gi ok at_ gr ps t' ∨ (t' = [] ∧ ∀ x, ¬ Gi ok at_ gr ps x)) : t' = t := by
  rcases h' with h' | ⟨_, h'⟩
  · have := h.1.symm.trans h'.1
    simpa using this.symm
  · exact absurd h (h' t)

end Go.Proofs.YtmlgmhnplicflaaGreatDoor
