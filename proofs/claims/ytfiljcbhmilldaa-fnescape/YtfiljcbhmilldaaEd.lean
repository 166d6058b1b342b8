import Derived.Test.YtfiljcbhmilldaaEc

/-
  The program's search: a chain of steps, each over one byte.
-/
namespace Go.Proofs.Ytfiljcbhmilldaa
open Go.RowKit
set_option linter.unusedVariables false

/-- A step that goes over the bytes bs and then tells the end. -/
def Ch (w : World) (X V : Nat) : List Nat → Value → Prop
  | [], fv => fv = .func (.func 55) #[] #[.pointer (some ⟨V, 0, none⟩)]
  | b :: bs, fv => ∃ (A S C : Nat) (f : Nat → Nat) (nx : Value), fv = .func (.func 77) #[] #[.pointer (some ⟨A, 0, none⟩), .pointer (some ⟨S, 0, none⟩), .pointer (some ⟨C, 0, none⟩)] ∧
      A ≠ X ∧ S ≠ X ∧ C ≠ X ∧ At1 w A 50 (.pointer (some ⟨X, 0, none⟩)) ∧ Sb w S f ∧ Bv (one b) f ∧ At1 w C 57 nx ∧ Ch w X V bs nx

theorem Ch.keeps {w w' : World} {X V : Nat} {E : Nat → Prop} {bs : List Nat} {fv : Value} (h : Ch w X V bs fv) (k : Keeps E w w') (hE : ∀ i, i < w.heap.size → i ≠ X → ¬ E i) : Ch w' X V bs fv := by
  induction bs generalizing fv with
  | nil => exact h
  | cons b bs ih =>
    obtain ⟨A, S, C, f, nx, rfl, h1, h2, h3, a, s, hf, c, hc⟩ := h
    exact ⟨A, S, C, f, nx, rfl, h1, h2, h3, a.keeps k (hE A a.lt h1), s.keeps k (hE S (lt_of_block s) h2), hf, c.keeps k (hE C c.lt h3), ih hc⟩

/-- Whether a text has the bytes bs from a place on. -/
def has (u : ByteArray) : Nat → List Nat → Bool
  | _, [] => true
  | p, b :: bs => decide (bt u p = b) && has u (p + 1) bs

/-- What a run of a chain does. -/
def ChPost (X : Nat) (u : ByteArray) (nn mp bg : Value) (j : Int) (p : Nat) (bs : List Nat) (gs : Value) (w : World) (e : Ending) (w' : World) : Prop :=
  e = .returned (.tuple #[]) ∧ (∃ en, Se w' X u nn j mp bg en ∧ (if has u p bs then w'.ownsRow w.heap.size 62 2 en 1 [.int .i64 ((p + bs.length : Nat) : Int), gs] else en = .slice none 0 0)) ∧ Keeps (fun k => k = X) w w'

set_option maxHeartbeats 1000000 in
set_option maxRecDepth 100000 in
theorem byte_no {w : World} {X A S C p b : Nat} {u : ByteArray} {nn mp bg : Value} {j : Int} {ag : Option Addr} {ng cg : Nat} {f : Nat → Nat} (h : Se w X u nn j mp bg (.slice none 0 0)) (a : At1 w A 50 (.pointer (some ⟨X, 0, none⟩))) (s : Sb w S f) (hf : Bv (one b) f)
    (hu : u.size ≤ 200) (hp : p ≤ u.size) (hb : bt u p ≠ b) :
    Calls Try.prog 77 #[.int .i64 p, .slice ag ng cg, .pointer (some ⟨A, 0, none⟩), .pointer (some ⟨S, 0, none⟩), .pointer (some ⟨C, 0, none⟩)] w fun e w' => e = .returned (.tuple #[]) ∧ Keeps (fun _ => False) w w' := by
  have c0 := h.c0; have ca := a.cell
  have s0 := s.cell (q := 0) (by omega); have s1 := s.cell (q := 1) (by omega); have s2 := s.cell (q := 2) (by omega); have s3 := s.cell (q := 3) (by omega)
  have hK := Keeps.refl (fun _ => False) w
  by_cases hlt : p < u.size
  · have hpz : (p : Int) < (u.size : Int) := by omega
    have hc : u[p].toNat = bt u p := (bt_in hlt).symm
    have hlt2 := bt_lt hlt
    have HB : Hid (one b (bt u p) = false) := (by show _ = _; simp [one]; exact hb)
    clear hb
    generalize bt u p = x at hc hlt2 HB
    have hwr : IntKind.i64.wrap (x : Int) = (x : Int) := IntWalk.i64_in _ ⟨by omega, by omega⟩
    go_enter Try.func77, Try.ntmps77
    go_wp2_with fail
    go_region_with (first
      | (go_at_call 78; refine (has_any hf x hlt2).mono ?_; rintro e w2 ⟨rfl, hk⟩; rw [HB.out]; replace hk := hkd hk; replace hK := hK.trans hk; clear hk))
    all_goals (try go_wp2_with fail)
    all_goals go_end0
    all_goals exact ⟨rfl, by first | exact hK | exact hK.drew⟩
  · obtain rfl : p = u.size := by omega
    clear hb hlt hp
    go_enter Try.func77, Try.ntmps77
    go_wp2_with fail
    go_quiet (fail)
    go_wp2_with fail
    go_end0
    exact ⟨rfl, hK.drewN _⟩

set_option maxHeartbeats 1000000 in
set_option maxRecDepth 100000 in
theorem byte_yes {w : World} {X V A S C p b : Nat} {u : ByteArray} {nn mp bg nx : Value} {j : Int} {ag : Option Addr} {ng cg : Nat} {f : Nat → Nat} {bs : List Nat} (h : Se w X u nn j mp bg (.slice none 0 0)) (hV : V ≠ X) (hv : At1 w V 50 (.pointer (some ⟨X, 0, none⟩))) (a : At1 w A 50 (.pointer (some ⟨X, 0, none⟩))) (s : Sb w S f) (hf : Bv (one b) f) (c : At1 w C 57 nx) (hch : Ch w X V bs nx)
    (hu : u.size ≤ 200) (hp : p < u.size) (hb : bt u p = b) {fn : Nat} {cap : Array Value} (hnx : nx = .func (.func fn) #[] cap) (hcf : ∀ (args : Array Value) (w : World), (callFunc fn args).run Try.prog w = .ok (.enter fn args) w)
    (ih : ∀ w', Se w' X u nn j mp bg (.slice none 0 0) → At1 w' V 50 (.pointer (some ⟨X, 0, none⟩)) → Ch w' X V bs nx → Calls Try.prog fn (#[.int .i64 ((p : Int) + 1), .slice ag ng cg] ++ cap) w' (ChPost X u nn mp bg j (p + 1) bs (.slice ag ng cg) w')) :
    Calls Try.prog 77 #[.int .i64 p, .slice ag ng cg, .pointer (some ⟨A, 0, none⟩), .pointer (some ⟨S, 0, none⟩), .pointer (some ⟨C, 0, none⟩)] w (ChPost X u nn mp bg j p (b :: bs) (.slice ag ng cg) w) := by
  have c0 := h.c0; have ca := a.cell
  have s0 := s.cell (q := 0) (by omega); have s1 := s.cell (q := 1) (by omega); have s2 := s.cell (q := 2) (by omega); have s3 := s.cell (q := 3) (by omega)
  have hK := Keeps.refl (fun _ => False) w
  have hpz : (p : Int) < (u.size : Int) := by omega
  have hc : u[p].toNat = b := by rw [← hb]; exact (bt_in hp).symm
  have hlt2 : b < 256 := by rw [← hb]; exact bt_lt hp
  have HB : Hid (one b b = true) := (by show _ = _; simp [one])
  have HBB : Hid (bt u p = b) := hb
  have hwr : IntKind.i64.wrap (b : Int) = (b : Int) := IntWalk.i64_in _ ⟨by omega, by omega⟩
  clear hb
  go_enter Try.func77, Try.ntmps77
  go_upto_region 0 with fail
  go_cut [24] from 5 (fun t24 wc => t24 = .bool true ∧ Keeps (fun _ => False) w wc)
  case first =>
    go_region_with (first
      | (go_at_call 78; refine (has_any hf b hlt2).mono ?_; rintro e w2 ⟨rfl, hk⟩; rw [HB.out]; replace hk := hkd hk; replace hK := hK.trans hk; clear hk))
    all_goals (go_wp2_with fail; go_meet; exact ⟨rfl, by first | exact hK | exact hK.drew⟩)
  case rest =>
    obtain ⟨rfl, hk⟩ := hcut
    have h2 := h.keeps hk (fun h => h)
    have v2 := hv.keeps hk (fun h => h)
    have ch2 := hch.keeps hk (fun _ _ _ h => h)
    have cc := (c.keeps hk (fun h => h)).cell
    have hcall := ih wc h2 v2 ch2
    subst hnx
    clear ih h hv a s c hch c0 ca s0 s1 s2 s3 hc hwr hK
    go_wp2_with ((with_reducible (refine hcall.mono ?_)); rintro e w3 ⟨rfl, ⟨en, hSe, hen⟩, hk3⟩)
    go_end0
    refine ⟨rfl, ⟨en, hSe, ?_⟩, hk.none.trans hk3⟩
    have hh : has u p (b :: bs) = has u (p + 1) bs := by simp [has, HBB.out]
    have hl : p + (b :: bs).length = p + 1 + bs.length := by simp; omega
    rw [hh, hl]
    by_cases hx : has u (p + 1) bs = true
    · rw [if_pos hx] at hen ⊢
      exact ownsRow_base hen (fun k hk' => Nat.le_trans hk.size (hen.lt k hk').1)
    · rw [if_neg hx] at hen ⊢
      exact hen

end Go.Proofs.Ytfiljcbhmilldaa

/-
  The program's search: a chain, whole; how a chain is made.
-/
namespace Go.Proofs.Ytfiljcbhmilldaa
open Go.RowKit
set_option linter.unusedVariables false

/-- The function of a step, and what it holds. -/
theorem Ch.form {w : World} {X V : Nat} {bs : List Nat} {fv : Value} (h : Ch w X V bs fv) : ∃ (fn : Nat) (cap : Array Value), fv = .func (.func fn) #[] cap ∧ ∀ (args : Array Value) (w : World), (callFunc fn args).run Try.prog w = .ok (.enter fn args) w := by
  cases bs with
  | nil => exact ⟨_, _, h, fun _ _ => by kernel_rfl⟩
  | cons b bs =>
    obtain ⟨A, S, C, f, nx, rfl, _⟩ := h
    exact ⟨_, _, rfl, fun _ _ => by kernel_rfl⟩

theorem chain_any {X V : Nat} {u : ByteArray} {nn mp bg : Value} {j : Int} {ag : Option Addr} {ng cg : Nat} (hV : V ≠ X) (hu : u.size ≤ 200) (bs : List Nat) (hlt9 : ∀ b ∈ bs, b < 256) :
    ∀ (w : World) (p : Nat) (fn : Nat) (cap : Array Value), p ≤ u.size → Se w X u nn j mp bg (.slice none 0 0) → At1 w V 50 (.pointer (some ⟨X, 0, none⟩)) → Ch w X V bs (.func (.func fn) #[] cap) →
      Calls Try.prog fn (#[.int .i64 (p : Int), .slice ag ng cg] ++ cap) w (ChPost X u nn mp bg j p bs (.slice ag ng cg) w) := by
  induction bs with
  | nil =>
    intro w p fn cap hp hS hv hch
    simp only [Ch, Value.func.injEq, Fn.func.injEq, true_and] at hch
    obtain ⟨rfl, rfl⟩ := hch
    refine (end_any hS hv).mono ?_
    rintro e w' ⟨rfl, ⟨en, h1, h2⟩, hk⟩
    exact ⟨rfl, ⟨en, h1, by simpa [has] using h2⟩, hk⟩
  | cons b bs ih =>
    intro w p fn cap hp hS hv hch
    obtain ⟨A, S, C, f, nx, hfv, hA, hS2, hC, a, s, hf, c, hch2⟩ := hch
    simp only [Value.func.injEq, Fn.func.injEq, true_and] at hfv
    obtain ⟨rfl, rfl⟩ := hfv
    by_cases hb : bt u p = b
    · by_cases hlt : p < u.size
      · obtain ⟨fn2, cap2, rfl, hcf⟩ := hch2.form
        refine byte_yes hS hV hv a s hf c hch2 hu hlt hb rfl hcf (fun w' h1 h2 h3 => ?_)
        have := ih (fun x hx => hlt9 x (by simp [hx])) w' (p + 1) fn2 cap2 hlt h1 h2 h3
        exact this
      · rw [bt_out hlt] at hb
        exact absurd hb (by have := hlt9 b (by simp); omega)
    · refine (byte_no hS a s hf hu hp hb).mono ?_
      rintro e w' ⟨rfl, hk⟩
      have hn : has u p (b :: bs) = false := by simp [has, hb]
      exact ⟨rfl, ⟨_, hS.keeps hk (fun h => h), by rw [hn]; simp⟩, hk.none⟩

end Go.Proofs.Ytfiljcbhmilldaa
