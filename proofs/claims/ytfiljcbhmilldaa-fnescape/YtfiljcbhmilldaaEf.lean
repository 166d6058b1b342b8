import Derived.Test.YtfiljcbhmilldaaEe

/-
  The program's search: a new one over a sequence of bytes.
-/
namespace Go.Proofs.Ytfiljcbhmilldaa
open Go.RowKit
set_option linter.unusedVariables false

/-- A search that is ready to run over the bytes bs. -/
def Ready (w : World) (X : Nat) (u : ByteArray) (bs : List Nat) : Prop :=
  ∃ (V : Nat) (an : Option Addr) (cn : Nat) (mp bg : Value), V ≠ X ∧ Se w X u (.slice an 0 cn) 0 mp bg (.slice none 0 0) ∧ At1 w V 50 (.pointer (some ⟨X, 0, none⟩)) ∧ Ch w X V bs bg

set_option maxHeartbeats 1000000 in
set_option maxRecDepth 100000 in
theorem newSearch_any {w : World} {u : ByteArray} {ao : Option Addr} {cap : Nat} {bs : List Nat} (hn : bs.length ≤ 1000) (hr : BytesRow w ao cap bs) :
    Calls Try.prog 38 #[.string u, .int .i64 0, .iface 120 (.agg #[.slice ao bs.length cap])] w fun e w' => ∃ X, e = .returned (.pointer (some ⟨X, 0, none⟩)) ∧ Ready w' X u bs ∧ w.heap.size ≤ X ∧ Keeps (fun _ => False) w w' := by
  have hmf : ∀ (fn : Fn) (first cap : Array Value) (w : World), (Instr.makeFunc fn first cap).run Try.prog w = .ok (.func fn first cap) w := fun _ _ _ _ => rfl
  go_enter Try.func38, Try.ntmps38
  go_upto_region 2 with (first
    | (go_at_call 52; refine notPassed_any.mono ?_; rintro e w2 ⟨rfl, hk1⟩)
    | (go_at_call 51; refine repeat_zero.mono ?_; rintro e w3 ⟨an, cn, rfl, hk2⟩)
    | (go_at_call 53; refine placeSet_any.mono ?_; rintro e w4 ⟨m, rfl, hk3⟩))
  have hk4 : Keeps (fun _ => False) w w4 := ((hk1.trans ((Keeps.refl (fun _ => False) w2).alloc _)).trans hk2).trans hk3
  have hk5 : Keeps (fun _ => False) w4 ((w4.alloc (.cells #[.string u, .slice an 0 cn, .int .i64 0, .map (some m), .nilFunc, .slice none 0 0] 60)).alloc (.cells #[.pointer (some ⟨w4.heap.size, 0, none⟩)] 50)) := ((Keeps.refl _ w4).alloc _).alloc _
  have hSe : Se ((w4.alloc (.cells #[.string u, .slice an 0 cn, .int .i64 0, .map (some m), .nilFunc, .slice none 0 0] 60)).alloc (.cells #[.pointer (some ⟨w4.heap.size, 0, none⟩)] 50)) w4.heap.size u (.slice an 0 cn) 0 (.map (some m)) .nilFunc (.slice none 0 0) := box1 w4 _ _
  have hV : At1 ((w4.alloc (.cells #[.string u, .slice an 0 cn, .int .i64 0, .map (some m), .nilFunc, .slice none 0 0] 60)).alloc (.cells #[.pointer (some ⟨w4.heap.size, 0, none⟩)] 50)) (w4.heap.size + 1) 50 (.pointer (some ⟨w4.heap.size, 0, none⟩)) := box2 w4 _ _
  have hr5 := (hr.keeps hk4).keeps hk5
  have hXw : w.heap.size ≤ w4.heap.size := hk4.size
  have hK := hk4.trans hk5
  clear hk1 hk2 hk3 hk4 hk5 hr
  generalize ((w4.alloc (.cells #[.string u, .slice an 0 cn, .int .i64 0, .map (some m), .nilFunc, .slice none 0 0] 60)).alloc (.cells #[.pointer (some ⟨w4.heap.size, 0, none⟩)] 50)) = w5 at hSe hV hr5 hK ⊢
  generalize w4.heap.size = X at hSe hV hXw ⊢
  have hsf : ∀ (a : Addr) (fn : Fn) (f c : Array Value) (w : World), (store a (.func fn f c)).run Try.prog w = stored Try.prog w a (.func fn f c) .plain := fun _ _ _ _ _ => run_store _ _ _ _ _ rfl
  have hk6 : Keeps (fun _ => False) w5 w5.drew := (Keeps.refl _ w5).drew
  have hch : Ch w5.drew X (X + 1) [] (.func (.func 55) #[] #[.pointer (some ⟨X + 1, 0, none⟩)]) := rfl
  have hcall := step_seq (w := w5.drew) (hSe.keeps hk6 (fun h => h)).lt hn (hr5.keeps hk6) hch
  have cv := hV.cell
  clear hch hr5
  go_region_with (first
    | (go_at_call 54; refine hcall.mono ?_; rintro e w6 ⟨fv, rfl, hc2, hk7⟩; replace hk7 := hkd hk7; obtain ⟨fn3, cp3, hnx, -⟩ := hc2.form; subst hnx; replace hSe := hSe.keeps hk7 (fun h => h); replace hV := hV.keeps hk7 (fun h => h); replace hK := hK.trans hk7; clear hk7; have cv := hV.cell; have c4 := hSe.c4; have f4 := hSe.fz 4))
  all_goals (try go_wp2_with fail)
  all_goals go_ret
  all_goals exact ⟨X, rfl, ⟨X + 1, an, cn, _, _, by omega, hSe.set4 _, hV.keeps (keepsS w6 X 4 _) (by omega), hc2.keeps (keepsS w6 X 4 _) (fun i _ hne h => hne h)⟩, hXw, hK.setCell (fun h => absurd h (by simp; omega)) _⟩

end Go.Proofs.Ytfiljcbhmilldaa

/-
  The program's search: a run.
-/
namespace Go.Proofs.Ytfiljcbhmilldaa
open Go.RowKit
set_option linter.unusedVariables false

/-- What a run over bytes leaves: at most one end. -/
def RunPost (X : Nat) (u : ByteArray) (p : Nat) (bs : List Nat) (w : World) (e : Ending) (w' : World) : Prop :=
  e = .returned (.tuple #[]) ∧ (∃ (an : Option Addr) (cn : Nat) (mp bg en : Value), Se w' X u (.slice an 0 cn) 0 mp bg en ∧ (if has u p bs then w'.ownsRow w.heap.size 62 2 en 1 [.int .i64 ((p + bs.length : Nat) : Int), .slice an 0 cn] else en = .slice none 0 0)) ∧ Keeps (fun k => k = X) w w'

set_option maxHeartbeats 1000000 in
set_option maxRecDepth 100000 in
theorem run_any {w : World} {X p : Nat} {u : ByteArray} {bs : List Nat} (h : Ready w X u bs) (hlt9 : ∀ b ∈ bs, b < 256) (hu : u.size ≤ 200) (hp : p ≤ u.size) :
    Calls Try.prog 24 #[.pointer (some ⟨X, 0, none⟩), .int .i64 p] w (RunPost X u p bs w) := by
  obtain ⟨V, an, cn, mp, bg, hV, hS, hv, hch⟩ := h
  obtain ⟨fn, cp, hbg, hcf⟩ := hch.form
  subst hbg
  have hk : Keeps (fun _ => False) w w.drew := (Keeps.refl _ w).drew
  have hcall := chain_any (ag := an) (ng := 0) (cg := cn) hV hu bs hlt9 w.drew p fn cp hp (hS.keeps hk (fun h => h)) (hv.keeps hk (fun h => h)) (hch.keeps hk (fun _ _ _ h => h))
  have c1 := hS.c1; have c4 := hS.c4
  clear hS hv hch
  go_enter Try.func24, Try.ntmps24
  go_wp2_with fail
  go_region_with ((with_reducible (refine hcall.mono ?_)); rintro e w2 ⟨rfl, ⟨en, hSe, hen⟩, hk2⟩)
  all_goals (try go_wp2_with fail)
  all_goals go_end0
  all_goals exact ⟨rfl, ⟨an, cn, mp, _, en, hSe, hen⟩, hkd hk2⟩

end Go.Proofs.Ytfiljcbhmilldaa
