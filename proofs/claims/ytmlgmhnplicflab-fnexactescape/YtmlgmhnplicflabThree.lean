import Derived.Test.YtmlgmhnplicflabTwo
import Derived.Deep.RegionLaw

namespace Go.Proofs.Ytmlgmhnplicflab.Esc
open Go.RowKit
set_option maxRecDepth 100000

theorem Try.info5 : (Try.prog.info? 5).map (fun i => (i.zero, i.size, i.bytes)) = some (some (.int .u8 0), 1, 1) := by kernel_rfl

theorem cells_new (w : World) (cs : List Value) (j : Nat) (u : Value) (hj : cs[j]? = some u) : (w.alloc (.cells cs.toArray 5)).cell? (Addr.add ⟨w.heap.size, 0, none⟩ j) = some u := by
  have e : Addr.add ⟨w.heap.size, 0, none⟩ j = ⟨w.heap.size, j, none⟩ := by by_cases h : j = 0 <;> simp [Addr.add, h]
  rw [e, World.cell?_alloc_at _ _ _ _ rfl]
  simpa using hj

/-- An append, as one step of a region that draws, by what its run is known to give. -/
theorem step_append_run {P : Program} {ops : Array Oper} {o : Oper} {a : Act} {w : World} {K : Act → World → Prop} {Q : Exit → Act → World → Prop} {E : Prop}
    (hg : o.guard = none) (s x : Operand) (t ty : TypeId) (hop : o.op = Op.call { callee := Callee.builtin Builtin.append, args := #[s, x], argTypes := #[t, t] }) (hty : o.type = ty)
    (v y v' : Value) (w' : World) (hs : a.eval s = v) (hx : a.eval x = y) (hrun : Sem.run P (Builtin.append_ #[t, t] ty #[v, y]) w = .ok v' w')
    (hK : K (a.put o.dst v') w') :
    if Region.wanted o (yielded ops a.tmps) = true then Oper.wp P o a w K Q else E := by
  have hw : Region.wanted o (yielded ops a.tmps) = true := by simp [Region.wanted, hg]
  rw [if_pos hw]
  unfold Oper.wp
  simp [execOp, hop, resolve, invoke, builtin, hs, hx, hty, hrun, Result.andThen]
  exact hK

/-- What an append of new cells leaves. -/
theorem app_run (w : World) (base : Nat) (ty : TypeId) (v : Value) (m : Nat) (xs : List Value) (ns : List Int) (hm : m + ns.length ≤ 2000000) (hb : base ≤ w.heap.size) (hown : w.ownsRow base 5 1 v m xs) :
    ∃ v' w1, Sem.run Try.prog (Builtin.append_ #[25, 25] ty #[v, .slice (some ⟨w.heap.size, 0, none⟩) ns.length ns.length]) (w.alloc (.cells (ns.map (Value.int .u8)).toArray 5)) = .ok v' w1 ∧
      w1.ownsRow base 5 1 v' (m + ns.length) (xs ++ ns.map (Value.int .u8)) ∧ Below base w w1 := by
  obtain ⟨i0, hi, hz0, hz1, hz2⟩ := info_parts Try.info5
  obtain ⟨v', w1, hrun, ho, hg, _⟩ := run_append_own (P := Try.prog) (w.alloc (.cells (ns.map (Value.int .u8)).toArray 5)) base 25 ty 5 i0 (.int .u8 0) 1 1 Try.underlying25 hi hz0 hz1 hz2 rfl (by decide) v m xs (hown.alloc _)
    ⟨w.heap.size, 0, none⟩ ns.length ns.length (ns.map (Value.int .u8)) (by simp) (cells_new w _) (ints_oneCell _ _) (by unfold maxLen; omega) (by omega) (by simp; omega)
  refine ⟨v', w1, hrun, ho, ?_⟩
  exact ((Below.refl _ _).alloc hb _).grown hg (by simp; omega) (fun k hk => (hown.lt k hk).1)

theorem index_hex (a : Nat) (h : a < 16) (w : World) : Sem.run Try.prog (Instr.index 9 (.string { data := #[48, 49, 50, 51, 52, 53, 54, 55, 56, 57, 97, 98, 99, 100, 101, 102] }) (.int .u8 (a : Int))) w = .ok (.int .u8 ((hexd a).toNat : Int)) w := by
  rcases (show a = 0 ∨ a = 1 ∨ a = 2 ∨ a = 3 ∨ a = 4 ∨ a = 5 ∨ a = 6 ∨ a = 7 ∨ a = 8 ∨ a = 9 ∨ a = 10 ∨ a = 11 ∨ a = 12 ∨ a = 13 ∨ a = 14 ∨ a = 15 from by omega) with h | h | h | h | h | h | h | h | h | h | h | h | h | h | h | h <;> subst h <;> kernel_rfl

set_option maxHeartbeats 400000 in
theorem number_hex (base : Nat) (v : Value) (m : Nat) (xs : List Value) (n : Int) (w : World) (h0 : 0 ≤ n) (h1 : n ≤ 255) (hm : m ≤ 1000000) (hb : base ≤ w.heap.size) (hown : w.ownsRow base 5 1 v m xs) :
    Calls Try.prog 9 #[v, .int .u8 n] w fun e w' => ∃ v', e = .returned v' ∧ w'.ownsRow base 5 1 v' (m + 4) (xs ++ ([92, 120, hexd (n / 16).toNat, hexd (n % 16).toNat].map fun c => Value.int .u8 c.toNat)) ∧ Below base w w' := by
  obtain ⟨a, ha⟩ : ∃ a : Nat, n / 16 = (a : Int) := ⟨(n / 16).toNat, by omega⟩
  obtain ⟨b, hb'⟩ : ∃ b : Nat, n % 16 = (b : Int) := ⟨(n % 16).toNat, by omega⟩
  have e1 : IntKind.u8.wrap (n.tdiv 16) = (a : Int) := by rw [Int.tdiv_eq_ediv_of_nonneg h0, ha]; exact IntWalk.u8_in _ (by omega)
  have e2 : n.tmod 16 = (b : Int) := by rw [Int.tmod_eq_emod_of_nonneg h0, hb']
  have s1 := index_hex a (by omega)
  have s2 := index_hex b (by omega)
  obtain ⟨v', w1, hrun0, ho, hbel⟩ := app_run w.drew base 25 v m xs [92, 120, (hexd a).toNat, (hexd b).toNat] (by simp; omega) hb hown.drew
  have hrun : Sem.run Try.prog (Builtin.append_ #[25, 25] 25 #[v, .slice (some ⟨w.heap.size, 0, none⟩) 4 4]) (w.alloc (.cells #[.int .u8 92, .int .u8 120, .int .u8 (hexd a).toNat, .int .u8 (hexd b).toNat] 5)).drew = .ok v' w1 := hrun0
  have hge : [92, 120, hexd (n / 16).toNat, hexd (n % 16).toNat].map (fun c => Value.int .u8 c.toNat) = [92, 120, ((hexd a).toNat : Int), ((hexd b).toNat : Int)].map (Value.int .u8) := by
    simp [ha, hb']
  rw [hge]
  clear hrun0 hge ha hb'
  go_enter Try.func9, Try.ntmps9
  go_wp2
  go_region_law (refine step_append_run rfl _ _ _ _ rfl rfl _ _ _ _ rfl rfl hrun ?_)
  all_goals go_wp2
  all_goals go_ret
  all_goals exact ⟨_, rfl, ho, (Below.refl _ _).drew.trans hbel⟩


set_option maxHeartbeats 400000 in
theorem append_hex (base : Nat) (v : Value) (m : Nat) (xs : List Value) (n : Int) (w : World) (h0 : 0 ≤ n) (h1 : n ≤ 255) (h : n < 33 ∨ 126 < n) (hm : m ≤ 1000000) (hb : base ≤ w.heap.size) (hown : w.ownsRow base 5 1 v m xs) :
    Calls Try.prog 7 #[v, .int .u8 n] w fun e w' => ∃ v', e = .returned v' ∧ w'.ownsRow base 5 1 v' (m + 4) (xs ++ ([92, 120, hexd (n / 16).toNat, hexd (n % 16).toNat].map fun c => Value.int .u8 c.toNat)) ∧ Below base w w' := by
  have hP : isP n = false := by
    unfold isP
    rcases h with h | h
    · simp; omega
    · simp; omega
  have hcall := number_hex base v m xs n w h0 h1 hm hb hown
  go_enter Try.func7, Try.ntmps7
  go_wp2_with (first
    | (go_at_call 8; refine (isPrinted_any _ _).mono ?_; rintro e w' ⟨rfl, hw⟩; subst w')
    | (go_at_call 9; refine hcall.mono ?_; rintro e w2 ⟨v', rfl, ho, hbel⟩))
  all_goals go_ret
  all_goals exact ⟨_, rfl, ho, hbel⟩

set_option maxHeartbeats 400000 in
theorem append_plain (base : Nat) (v : Value) (m : Nat) (xs : List Value) (n : Int) (w : World) (h0 : 33 ≤ n) (h1 : n ≤ 126) (hp : plain n = true) (hm : m ≤ 1000000) (hb : base ≤ w.heap.size) (hown : w.ownsRow base 5 1 v m xs) :
    Calls Try.prog 7 #[v, .int .u8 n] w fun e w' => ∃ v', e = .returned v' ∧ w'.ownsRow base 5 1 v' (m + 1) (xs ++ [.int .u8 n]) ∧ Below base w w' := by
  obtain ⟨i0, hi, hz0, hz1, hz2⟩ := info_parts Try.info5
  have hP : isP n = true := by simp [isP]; omega
  have hcases : isL n = true ∨ (isL n = false ∧ isD n = true) ∨ (isL n = false ∧ isD n = false ∧ n = 95) ∨ (isL n = false ∧ isD n = false ∧ n = 44) ∨ (isL n = false ∧ isD n = false ∧ n = 58) ∨ (isL n = false ∧ isD n = false ∧ n = 61) := by
    unfold plain at hp
    cases hL : isL n <;> cases hD : isD n <;> simp [hL, hD] at hp ⊢
    omega
  clear hp
  rcases hcases with hL | ⟨hL, hD⟩ | ⟨hL, hD, h⟩ | ⟨hL, hD, h⟩ | ⟨hL, hD, h⟩ | ⟨hL, hD, h⟩ <;>
  · try subst h
    go_enter Try.func7, Try.ntmps7
    go_wp2_with (first
      | (go_at_call 8; refine (isPrinted_any _ _).mono ?_; rintro e w' ⟨rfl, hw⟩; subst w')
      | (go_at_call 10; refine (isLetter_any _ _).mono ?_; rintro e w' ⟨rfl, hw⟩; subst w')
      | (go_at_call 11; refine (isDigit_any _ _).mono ?_; rintro e w' ⟨rfl, hw⟩; subst w')
      | (at_builtin; refine wpList_append_own _ rfl _ _ 25 rfl base 5 i0 (.int .u8 0) 1 1 Try.underlying25 hi hz0 hz1 hz2 rfl (by decide) _ _ _ rfl (hown.alloc _) ⟨w.heap.size, 0, none⟩ 1 1 [.int .u8 _] rfl rfl (cells_new w _) (ints_oneCell .u8 [_]) (by unfold maxLen; omega) (by omega) (by simp; omega) ?_))
    intro v' w1 ho hg _
    have hbel : Below base w w1 := ((Below.refl _ _).alloc hb _).grown hg (by simp; omega) (fun k hk => (hown.lt k hk).1)
    clear hg
    go_wp2
    go_ret
    exact ⟨_, rfl, ho, hbel⟩

set_option maxHeartbeats 400000 in
theorem append_back (base : Nat) (v : Value) (m : Nat) (xs : List Value) (n : Int) (w : World) (h0 : 33 ≤ n) (h1 : n ≤ 126) (hp : plain n = false) (hm : m ≤ 1000000) (hb : base ≤ w.heap.size) (hown : w.ownsRow base 5 1 v m xs) :
    Calls Try.prog 7 #[v, .int .u8 n] w fun e w' => ∃ v', e = .returned v' ∧ w'.ownsRow base 5 1 v' (m + 2) (xs ++ [.int .u8 92, .int .u8 n]) ∧ Below base w w' := by
  obtain ⟨i0, hi, hz0, hz1, hz2⟩ := info_parts Try.info5
  have hP : isP n = true := by simp [isP]; omega
  have hc : isL n = false ∧ isD n = false ∧ (n == 95) = false ∧ (n == 44) = false ∧ (n == 58) = false ∧ (n == 61) = false := by
    unfold plain at hp
    simpa [Bool.or_eq_false_iff, and_assoc] using hp
  clear hp
  obtain ⟨hL, hD, r4, r5, r6, r7⟩ := hc
  go_enter Try.func7, Try.ntmps7
  go_wp2_with (first
      | (go_at_call 8; refine (isPrinted_any _ _).mono ?_; rintro e w' ⟨rfl, hw⟩; subst w')
      | (go_at_call 10; refine (isLetter_any _ _).mono ?_; rintro e w' ⟨rfl, hw⟩; subst w')
      | (go_at_call 11; refine (isDigit_any _ _).mono ?_; rintro e w' ⟨rfl, hw⟩; subst w')
      | (at_builtin; refine wpList_append_own _ rfl _ _ 25 rfl base 5 i0 (.int .u8 0) 1 1 Try.underlying25 hi hz0 hz1 hz2 rfl (by decide) _ _ _ rfl (hown.alloc _) ⟨w.heap.size, 0, none⟩ 2 2 [.int .u8 92, .int .u8 n] rfl rfl (cells_new w _) (ints_oneCell .u8 [_, _]) (by unfold maxLen; omega) (by omega) (by simp; omega) ?_))
  intro v' w1 ho hg _
  have hbel : Below base w w1 := ((Below.refl _ _).alloc hb _).grown hg (by simp; omega) (fun k hk => (hown.lt k hk).1)
  clear hg
  go_wp2
  go_ret
  exact ⟨_, rfl, ho, hbel⟩

/-- The cells of a list of bytes. -/
def cellsOf (l : List UInt8) : List Value := l.map fun c => Value.int .u8 c.toNat

theorem append_any (base : Nat) (v : Value) (l : List UInt8) (n : Int) (w : World) (h0 : 0 ≤ n) (h1 : n ≤ 255) (hm : l.length ≤ 1000000) (hb : base ≤ w.heap.size) (hown : w.ownsRow base 5 1 v l.length (cellsOf l)) :
    Calls Try.prog 7 #[v, .int .u8 n] w fun e w' => ∃ v', e = .returned v' ∧ w'.ownsRow base 5 1 v' (l ++ esc n).length (cellsOf (l ++ esc n)) ∧ Below base w w' := by
  have hn : max n 0 % 256 = n := by omega
  by_cases h : n < 33 ∨ 126 < n
  · have he : esc n = [92, 120, hexd (n / 16).toNat, hexd (n % 16).toNat] := esc_hex h (by omega) (by omega)
    refine (append_hex base v _ _ n w h0 h1 h hm hb hown).mono ?_
    rintro e w' ⟨v', rfl, ho, hbel⟩
    refine ⟨v', rfl, ?_, hbel⟩
    rw [he]
    simpa [cellsOf] using ho
  · have hP : isP n = true := by simp [isP]; omega
    cases hp : plain n
    · refine (append_back base v _ _ n w (by omega) (by omega) hp hm hb hown).mono ?_
      rintro e w' ⟨v', rfl, ho, hbel⟩
      refine ⟨v', rfl, ?_, hbel⟩
      simp only [esc, hP, hp]
      simpa [cellsOf, hn] using ho
    · refine (append_plain base v _ _ n w (by omega) (by omega) hp hm hb hown).mono ?_
      rintro e w' ⟨v', rfl, ho, hbel⟩
      refine ⟨v', rfl, ?_, hbel⟩
      simp only [esc, hP, hp]
      simpa [cellsOf, hn] using ho

end Go.Proofs.Ytmlgmhnplicflab.Esc
