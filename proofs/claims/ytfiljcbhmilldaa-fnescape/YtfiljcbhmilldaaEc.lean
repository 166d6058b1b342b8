import Derived.Test.YtfiljcbhmilldaaX

/-
  The program's search: its memory; where a way ends.
-/
namespace Go.Proofs.Ytfiljcbhmilldaa
open Go.RowKit
set_option linter.unusedVariables false

/-- A search in memory. -/
def Se (w : World) (X : Nat) (u : ByteArray) (nn : Value) (j : Int) (mp bg en : Value) : Prop := w.heap[X]? = some (.cells #[.string u, nn, .int .i64 j, mp, bg, en] 60 (0, 0))
namespace Se
variable {w w' : World} {X : Nat} {u : ByteArray} {nn mp bg en : Value} {j : Int}
theorem lt (h : Se w X u nn j mp bg en) : X < w.heap.size := lt_of_block h
theorem c0 (h : Se w X u nn j mp bg en) : w.cell? ⟨X, 0, none⟩ = some (.string u) := by rw [cell_of h]; rfl
theorem c1 (h : Se w X u nn j mp bg en) : w.cell? ⟨X, 1, none⟩ = some nn := by rw [cell_of h]; rfl
theorem c4 (h : Se w X u nn j mp bg en) : w.cell? ⟨X, 4, none⟩ = some bg := by rw [cell_of h]; rfl
theorem c5 (h : Se w X u nn j mp bg en) : w.cell? ⟨X, 5, none⟩ = some en := by rw [cell_of h]; rfl
theorem fz (h : Se w X u nn j mp bg en) (i : Nat) : w.frozen? ⟨X, i, none⟩ = false := free_of h
theorem keeps {E : Nat → Prop} (h : Se w X u nn j mp bg en) (k : Keeps E w w') (hE : ¬ E X) : Se w' X u nn j mp bg en := by
  unfold Se at h ⊢; rw [k.block X (lt_of_block h) hE]; exact h
theorem set4 (h : Se w X u nn j mp bg en) (x : Value) : Se (w.setCell ⟨X, 4, none⟩ x) X u nn j mp x en := by unfold Se; rw [heap_setCell_same _ _ _ _ _ _ h]; rfl
theorem set5 (h : Se w X u nn j mp bg en) (x : Value) : Se (w.setCell ⟨X, 5, none⟩ x) X u nn j mp bg x := by unfold Se; rw [heap_setCell_same _ _ _ _ _ _ h]; rfl
end Se

theorem Try.infoEnd : (Try.prog.info? 62).map (fun i => (i.zero, i.size, i.bytes)) = some (some (.agg #[.int .i64 0, .slice none 0 0]), 2, 32) := by kernel_rfl

set_option maxHeartbeats 1000000 in
set_option maxRecDepth 100000 in
theorem end_any {w : World} {X V : Nat} {u : ByteArray} {nn mp bg : Value} {j at_ : Int} {ag : Option Addr} {ng cg : Nat} (h : Se w X u nn j mp bg (.slice none 0 0)) (hv : At1 w V 50 (.pointer (some ⟨X, 0, none⟩))) :
    Calls Try.prog 55 #[.int .i64 at_, .slice ag ng cg, .pointer (some ⟨V, 0, none⟩)] w fun e w' => e = .returned (.tuple #[]) ∧ (∃ en, Se w' X u nn j mp bg en ∧ w'.ownsRow w.heap.size 62 2 en 1 [.int .i64 at_, .slice ag ng cg]) ∧ Keeps (fun k => k = X) w w' := by
  obtain ⟨i0, hi, hz0, hz1, hz2⟩ := info_parts Try.infoEnd
  obtain ⟨en, w3, hrun0, ho, hgr, hbk⟩ := app_any (P := Try.prog) (w.drew.alloc (.cells #[.int .i64 at_, .slice ag ng cg] 62)) w.heap.size 58 58 62 i0 _ 2 32 Try.underlying58 hi hz0 hz1 hz2 rfl (by decide) (.slice none 0 0) 0 [] (World.ownsRow_nil _ _ _ _)
    ⟨w.heap.size, 0, none⟩ 1 1 [.int .i64 at_, .slice ag ng cg] rfl (cells_new w.drew _ _) (by intro x hx; simp at hx; rcases hx with rfl | rfl <;> rfl) (by unfold maxLen; omega) (by omega) (by simp)
  have hrun : Sem.run Try.prog (Builtin.append_ #[58, 58] 58 #[.slice none 0 0, .slice (some ⟨w.heap.size, 0, none⟩) 1 1]) (w.alloc (.cells #[.int .i64 at_, .slice ag ng cg] 62)).drew = .ok en w3 := hrun0
  have K3 : Keeps (fun _ => False) w w3 := ((Keeps.refl _ w).drew.alloc _).grown hgr (fun k hk _ => by simp [Value.ownBlock] at hk)
  have h3 := h.keeps K3 (fun h => h)
  have v3 := hv.keeps K3 (fun h => h)
  have hX := h.lt
  have c5 := h.c5; have cv := hv.cell
  have hA := (Keeps.refl (fun _ => False) w).alloc (.cells #[.int .i64 at_, .slice ag ng cg] 62)
  have a5 := (h.keeps hA (fun h => h)).c5; have av := (hv.keeps hA (fun h => h)).cell
  have d5 := h3.c5; have e5 := h3.fz 5; have dv := v3.cell
  have hfin : ∃ en', Se (w3.setCell ⟨X, 5, none⟩ en) X u nn j mp bg en' ∧ (w3.setCell ⟨X, 5, none⟩ en).ownsRow w.heap.size 62 2 en' 1 [.int .i64 at_, .slice ag ng cg] := by
    refine ⟨en, h3.set5 en, ?_⟩
    exact ownsRow_keeps (by simpa using ho) (keepsS w3 X 5 en) (fun k hk hx => by have := (ho.lt k hk).1; omega)
  have hkeep : Keeps (fun k => k = X) w (w3.setCell ⟨X, 5, none⟩ en) := (K3.none (E := fun k => k = X)).trans (keepsS w3 X 5 en)
  obtain ⟨ao, cap, rfl⟩ := own_form ho
  clear hrun0 hz0 hz1 hz2 hi hgr hbk ho h hv h3 v3 hA
  go_enter Try.func55, Try.ntmps55
  go_wp2
  go_region_law (refine step_append_run rfl _ _ _ _ rfl rfl _ _ _ _ rfl rfl hrun ?_)
  all_goals (try go_wp2)
  all_goals go_end0
  all_goals exact ⟨rfl, hfin, hkeep⟩

end Go.Proofs.Ytfiljcbhmilldaa
