import Derived.Test.YtmlgmhnplicflaaGreatDoorJ
import Derived.Test.YtmlgmhnplicflaaGreatDoorY

/-
  What both readers give.
-/
namespace Go.Proofs.YtmlgmhnplicflaaGreatDoor
open Go.RowKit
set_option linter.unusedVariables false

abbrev Rres := Except Nat (Nat × List Pc)
def rOk : Rres → Bool
  | .ok _ => true
  | .error _ => false
def rAt : Rres → Int
  | .ok _ => 0
  | .error x => x
def rGr : Rres → Int
  | .ok (g, _) => g
  | .error _ => 0
def rPs : Rres → List Pc
  | .ok (_, ps) => ps
  | .error _ => []

theorem spec_all {s : ByteArray} {w : World} {r : Rres} (hr : readRef s = r) (hs : s.size ≤ 1048576) : Calls Tryz.prog 10 #[.string s] w fun e w' => ∃ v L, e = .returned (.agg #[.bool (rOk r), .int .i64 (rAt r), .int .i64 (rGr r), v]) ∧ Pcs w' v L ∧ L.map (·.1) = rPs r ∧ Keeps (fun _ => False) w w' :=
  (specRead_any s w hs).mono fun e w' h => by
    unfold ReadPost at h
    rw [hr] at h
    cases r with
    | error x => exact ⟨_, [], h.1, ⟨World.ownsRow_nil _ _ _ _, by simp⟩, rfl, h.2⟩
    | ok v =>
      obtain ⟨g, ps⟩ := v
      obtain ⟨v, L, h1, h2, h3, _, h5⟩ := h
      exact ⟨v, L, h1, h2, h3, h5⟩

theorem impl_all {s : ByteArray} {w : World} {r : Rres} (hr : readRef s = r) : Calls Tryz.prog 15 #[.string s] w fun e w' => ∃ v L, e = .returned (.agg #[.bool (rOk r), .int .i64 (rAt r), .int .i64 (rGr r), v]) ∧ Out w' w.heap.size v L ∧ L.map (·.1) = rPs r ∧ (L.length ≤ 1000 ∧ ∀ c ∈ L, c.1.set.length ≤ 1000 ∧ c.1.kids.length ≤ 1000) ∧ Keeps (fun _ => False) w w' :=
  (iread_any s w).mono fun e w' h => by
    unfold IRead at h
    rw [hr] at h
    cases r with
    | error x => exact ⟨_, [], h.1, Out.nil _ _, rfl, ⟨by simp, by simp⟩, h.2⟩
    | ok v =>
      obtain ⟨g, ps⟩ := v
      obtain ⟨v, L, h1, h2, h3, h4, h5, h6⟩ := h
      refine ⟨v, L, h1, h2, h3, ⟨h4, fun c hc => h5 c.1 ?_⟩, h6⟩
      rw [← h3]
      exact List.mem_map_of_mem hc


theorem Out.pcs {w : World} {B : Nat} {x : Value} {L : List Pm} (h : Out w B x L) : Pcs w x L := ⟨ownsRow_base h.row (fun _ _ => Nat.zero_le _), h.rows⟩

end Go.Proofs.YtmlgmhnplicflaaGreatDoor
