import Derived.Test.YtmlgmhnplicflaaGreatRows
import Derived.WalkKit
import Derived.Deep.QuietTactic
import Derived.BigQuiet
import Derived.RegionTactic
import Derived.WalkSmall
import Derived.Deep.RegionLaw

/-
  The bytes of a text, written as a pattern: the small callees.
-/
namespace Go.Proofs.YtmlgmhnplicflaaGreat.Esc
open Go.RowKit
set_option maxRecDepth 100000

def isP (n : Int) : Bool := decide (33 ≤ n) && decide (n ≤ 126)
def isL (n : Int) : Bool := (decide (97 ≤ n) && decide (n ≤ 122)) || (decide (65 ≤ n) && decide (n ≤ 90))
def isD (n : Int) : Bool := decide (48 ≤ n) && decide (n ≤ 57)

theorem ret_bool {a b : Bool} (h : a = b) : Ending.returned (.bool a) = .returned (.bool b) := by rw [h]

theorem isPrinted_any (n : Int) (w : World) : Calls Tryz.prog 69 #[.int .u8 n] w fun e w' => e = .returned (.bool (isP n)) ∧ w' = w := by
  by_cases h1 : 33 ≤ n <;> by_cases h2 : n ≤ 126 <;>
  · go_enter Tryz.func69, Tryz.ntmps69
    go_wp2
    go_ret
    exact ⟨ret_bool (by simp [isP, h1, h2]), rfl⟩

theorem isDigit_any (n : Int) (w : World) : Calls Tryz.prog 72 #[.int .u8 n] w fun e w' => e = .returned (.bool (isD n)) ∧ w' = w := by
  by_cases h1 : 48 ≤ n <;> by_cases h2 : n ≤ 57 <;>
  · go_enter Tryz.func72, Tryz.ntmps72
    go_wp2
    go_ret
    exact ⟨ret_bool (by simp [isD, h1, h2]), rfl⟩

theorem isLetter_any (n : Int) (w : World) : Calls Tryz.prog 71 #[.int .u8 n] w fun e w' => e = .returned (.bool (isL n)) ∧ w' = w := by
  by_cases h1 : 97 ≤ n <;> by_cases h2 : n ≤ 122 <;> by_cases h3 : 65 ≤ n <;> by_cases h4 : n ≤ 90 <;>
  · go_enter Tryz.func71, Tryz.ntmps71
    go_wp2
    go_ret
    exact ⟨ret_bool (by simp [isL, h1, h2, h3, h4]), rfl⟩
end Go.Proofs.YtmlgmhnplicflaaGreat.Esc

namespace Go.Proofs.YtmlgmhnplicflaaGreat.Esc
open Go.RowKit
set_option maxRecDepth 100000

def hexd (k : Nat) : UInt8 := if k < 10 then UInt8.ofNat (48 + k) else UInt8.ofNat (87 + k)

theorem slice_hex (a : Nat) (h : a < 16) (w : World) : Sem.run Tryz.prog (Instr.slice 9 (.string { data := #[48, 49, 50, 51, 52, 53, 54, 55, 56, 57, 97, 98, 99, 100, 101, 102] }) (some (.int .i64 (a : Int))) (some (.int .i64 ((a : Int) + 1))) none) w = .ok (.string ⟨#[hexd a]⟩) w := by
  rcases (show a = 0 ∨ a = 1 ∨ a = 2 ∨ a = 3 ∨ a = 4 ∨ a = 5 ∨ a = 6 ∨ a = 7 ∨ a = 8 ∨ a = 9 ∨ a = 10 ∨ a = 11 ∨ a = 12 ∨ a = 13 ∨ a = 14 ∨ a = 15 from by omega) with h | h | h | h | h | h | h | h | h | h | h | h | h | h | h | h <;> subst h <;> kernel_rfl

theorem conv_one (n : Int) (w : World) : Sem.run Tryz.prog (convert 22 9 (Value.slice (some { block := w.heap.size, off := 0 }) 1 1)) (w.alloc (Obj.cells #[Value.int IntKind.u8 n] 5)) = .ok (.string ⟨#[UInt8.ofNat n.toNat]⟩) (w.alloc (Obj.cells #[Value.int IntKind.u8 n] 5)) := by
  rw [run_convert_bytes_string _ 22 9 5 _ _ _ Tryz.underlying22 Tryz.underlying5 Tryz.underlying9]
  rw [run_bytesToString _ _ _ _ [n]]
  · rfl
  · exact run_loadCells_list _ _ [Value.int IntKind.u8 n] (by
      intro j v hj
      match j, hj with
      | 0, hj => simp at hj; subst hj; simp [Addr.add])

/-- A byte as a pattern has it. -/
def plain (n : Int) : Bool := isL n || isD n || n == 95 || n == 44 || n == 58 || n == 61
def esc (n : Int) : List UInt8 :=
  if isP n then (if plain n then [UInt8.ofNat n.toNat] else [92, UInt8.ofNat n.toNat])
  else [92, 120, hexd (n / 16).toNat, hexd (n % 16).toNat]
def escBA (n : Int) : ByteArray := ⟨(esc n).toArray⟩

theorem ret_str {a b : ByteArray} (h : a = b) : Ending.returned (.string a) = .returned (.string b) := by rw [h]

theorem esc_hex {n : Int} {a b : Nat} (h : n < 33 ∨ 126 < n) (ha : n / 16 = a) (hb : n % 16 = b) : esc n = [92, 120, hexd a, hexd b] := by
  have : isP n = false := by
    unfold isP
    rcases h with h | h
    · simp; omega
    · simp; omega
  simp [esc, this, ha, hb]

set_option maxHeartbeats 400000 in
theorem l1byte_hex (n : Int) (w : World) (h0 : 0 ≤ n) (h1 : n ≤ 255) (h : n < 33 ∨ 126 < n) : Calls Tryz.prog 51 #[.int .i64 n] w fun e w' => e = .returned (.string (escBA n)) ∧ Below w.heap.size w w' := by
  obtain ⟨a, ha⟩ : ∃ a : Nat, n / 16 = (a : Int) := ⟨(n / 16).toNat, by omega⟩
  obtain ⟨b, hb⟩ : ∃ b : Nat, n % 16 = (b : Int) := ⟨(n % 16).toNat, by omega⟩
  have e1 : IntKind.i64.wrap (n.tdiv 16) = (a : Int) := by rw [Int.tdiv_eq_ediv_of_nonneg h0, ha]; exact IntWalk.i64_in _ (by omega)
  have e2 : n.tmod 16 = (b : Int) := by rw [Int.tmod_eq_emod_of_nonneg h0, hb]
  have e3 : IntKind.i64.wrap ((a : Int) + 1) = (a : Int) + 1 := IntWalk.i64_in _ (by omega)
  have e4 : IntKind.i64.wrap ((b : Int) + 1) = (b : Int) + 1 := IntWalk.i64_in _ (by omega)
  have s1 := slice_hex a (by omega)
  have s2 := slice_hex b (by omega)
  have HE : Hid (escBA n = ⟨#[92, 120, hexd a, hexd b]⟩) := by rw [escBA, esc_hex h ha hb]; rfl
  clear ha hb
  rcases h with h | h <;>
  · go_enter Tryz.func51, Tryz.ntmps51
    go_wp2
    go_quiet (fail)
    go_wp2
    go_ret
    refine ⟨ret_str ?_, ?_⟩
    · rw [HE.out]; rfl
    · exact below_drewN (Below.refl _ _) _

set_option maxHeartbeats 400000 in
theorem l1byte_plain (n : Int) (w : World) (h0 : 33 ≤ n) (h1 : n ≤ 126) (hp : plain n = true) : Calls Tryz.prog 51 #[.int .i64 n] w fun e w' => e = .returned (.string (escBA n)) ∧ Below w.heap.size w w' := by
  have hc := conv_one n w
  have he : escBA n = ⟨#[UInt8.ofNat n.toNat]⟩ := by
    have : isP n = true := by simp [isP]; omega
    rw [escBA, esc]; simp [this, hp]
  have HE : Hid (escBA n = ⟨#[UInt8.ofNat n.toNat]⟩) := he
  clear he
  rcases (show (97 ≤ n ∧ n ≤ 122) ∨ (65 ≤ n ∧ n ≤ 90) ∨ (48 ≤ n ∧ n ≤ 57) ∨ n = 95 ∨ n = 44 ∨ n = 58 ∨ n = 61 from by simp [plain, isL, isD] at hp; omega) with h | h | h | h | h | h | h <;>
  · clear hp
    try subst h
    go_enter Tryz.func51, Tryz.ntmps51
    go_wp2
    go_ret
    refine ⟨ret_str ?_, ?_⟩
    · first | (rw [HE.out]; done) | (rw [HE.out]; rfl)
    · exact (Below.refl _ _).alloc (Nat.le_refl _) _

set_option maxHeartbeats 400000 in
theorem l1byte_back (n : Int) (w : World) (h0 : 33 ≤ n) (h1 : n ≤ 126) (hp : plain n = false) : Calls Tryz.prog 51 #[.int .i64 n] w fun e w' => e = .returned (.string (escBA n)) ∧ Below w.heap.size w w' := by
  have hc := conv_one n w
  have he : escBA n = ⟨#[92, UInt8.ofNat n.toNat]⟩ := by
    have : isP n = true := by simp [isP]; omega
    rw [escBA, esc]; simp [this, hp]
  have HE : Hid (escBA n = ⟨#[92, UInt8.ofNat n.toNat]⟩) := he
  clear he
  have q1 : ¬ (97 ≤ n ∧ n ≤ 122) := by simp [plain, isL, isD] at hp; omega
  have q2 : ¬ (65 ≤ n ∧ n ≤ 90) := by simp [plain, isL, isD] at hp; omega
  have q3 : ¬ (48 ≤ n ∧ n ≤ 57) := by simp [plain, isL, isD] at hp; omega
  have q4 : ¬ n = 95 ∧ ¬ n = 44 ∧ ¬ n = 58 ∧ ¬ n = 61 := by simp [plain, isL, isD] at hp; omega
  clear hp
  obtain ⟨q4, q5, q6, q7⟩ := q4
  have r4 : (n == 95) = false := by simpa using q4
  have r5 : (n == 44) = false := by simpa using q5
  have r6 : (n == 58) = false := by simpa using q6
  have r7 : (n == 61) = false := by simpa using q7
  clear q4 q5 q6 q7
  rcases (show (n < 48) ∨ (57 < n ∧ n < 65) ∨ (90 < n ∧ n < 97) ∨ 122 < n from by omega) with h | h | h | h <;>
  · go_enter Tryz.func51, Tryz.ntmps51
    go_wp2
    go_ret
    refine ⟨ret_str ?_, ?_⟩
    · rw [HE.out]; rfl
    · exact (Below.refl _ _).alloc (Nat.le_refl _) _

theorem l1byte_any (n : Int) (w : World) (h0 : 0 ≤ n) (h1 : n ≤ 255) : Calls Tryz.prog 51 #[.int .i64 n] w fun e w' => e = .returned (.string (escBA n)) ∧ Below w.heap.size w w' := by
  by_cases h : n < 33 ∨ 126 < n
  · exact l1byte_hex n w h0 h1 h
  · cases hp : plain n
    · exact l1byte_back n w (by omega) (by omega) hp
    · exact l1byte_plain n w (by omega) (by omega) hp

end Go.Proofs.YtmlgmhnplicflaaGreat.Esc

namespace Go.Proofs.YtmlgmhnplicflaaGreat.Esc
open Go.RowKit
set_option maxRecDepth 100000

theorem Tryz.info5 : (Tryz.prog.info? 5).map (fun i => (i.zero, i.size, i.bytes)) = some (some (.int .u8 0), 1, 1) := by kernel_rfl

theorem cells_new (w : World) (cs : List Value) (j : Nat) (u : Value) (hj : cs[j]? = some u) : (w.alloc (.cells cs.toArray 5)).cell? (Addr.add ⟨w.heap.size, 0, none⟩ j) = some u := by
  have e : Addr.add ⟨w.heap.size, 0, none⟩ j = ⟨w.heap.size, j, none⟩ := by by_cases h : j = 0 <;> simp [Addr.add, h]
  rw [e, World.cell?_alloc_at _ _ _ _ rfl]
  simpa using hj

/-- An append, as one step of a region that draws, by what its run is known to give. -/
theorem step_append_run {P : Program} {ops : Array Oper} {o : Oper} {a : Act} {w : World} {K : Act → World → Prop} {Q : Exit → Act → World → Prop} {E : Prop}
    (hg : o.guard = none) (s x : Operand) (t ty : TypeId) (hop : o.op = Op.call { callee := Callee.builtin Builtin.append, args := #[s, x], argTypes := #[t, t] }) (hty : o.type = ty)
    (v y v' : Value) (w' : World) (hs : a.eval s = v) (hx : a.eval x = y) (hrun : Sem.run P (Builtin.append_ #[t, t] ty #[v, y]) w = .ok v' w')
    (hK : K (a.put o.dst v') w') :
    if Region.wanted o (yielded ops a.tmps) = true then Oper.wp P o a w K Q else E := by
  have hw : Region.wanted o (yielded ops a.tmps) = true := by simp [Region.wanted, hg]
  rw [if_pos hw]
  unfold Oper.wp
  simp [execOp, hop, resolve, invoke, builtin, hs, hx, hty, hrun, Result.andThen]
  exact hK

/-- What an append of new cells leaves. -/
theorem app_run (w : World) (base : Nat) (ty : TypeId) (v : Value) (m : Nat) (xs : List Value) (ns : List Int) (hm : m + ns.length ≤ 2000000) (hb : base ≤ w.heap.size) (hown : w.ownsRow base 5 1 v m xs) :
    ∃ v' w1, Sem.run Tryz.prog (Builtin.append_ #[22, 22] ty #[v, .slice (some ⟨w.heap.size, 0, none⟩) ns.length ns.length]) (w.alloc (.cells (ns.map (Value.int .u8)).toArray 5)) = .ok v' w1 ∧
      w1.ownsRow base 5 1 v' (m + ns.length) (xs ++ ns.map (Value.int .u8)) ∧ Below base w w1 := by
  obtain ⟨i0, hi, hz0, hz1, hz2⟩ := info_parts Tryz.info5
  obtain ⟨v', w1, hrun, ho, hg, _⟩ := run_append_own (P := Tryz.prog) (w.alloc (.cells (ns.map (Value.int .u8)).toArray 5)) base 22 ty 5 i0 (.int .u8 0) 1 1 Tryz.underlying22 hi hz0 hz1 hz2 rfl (by decide) v m xs (hown.alloc _)
    ⟨w.heap.size, 0, none⟩ ns.length ns.length (ns.map (Value.int .u8)) (by simp) (cells_new w _) (ints_oneCell _ _) (by unfold maxLen; omega) (by omega) (by simp; omega)
  refine ⟨v', w1, hrun, ho, ?_⟩
  exact ((Below.refl _ _).alloc hb _).grown hg (by simp; omega) (fun k hk => (hown.lt k hk).1)

theorem index_hex (a : Nat) (h : a < 16) (w : World) : Sem.run Tryz.prog (Instr.index 9 (.string { data := #[48, 49, 50, 51, 52, 53, 54, 55, 56, 57, 97, 98, 99, 100, 101, 102] }) (.int .u8 (a : Int))) w = .ok (.int .u8 ((hexd a).toNat : Int)) w := by
  rcases (show a = 0 ∨ a = 1 ∨ a = 2 ∨ a = 3 ∨ a = 4 ∨ a = 5 ∨ a = 6 ∨ a = 7 ∨ a = 8 ∨ a = 9 ∨ a = 10 ∨ a = 11 ∨ a = 12 ∨ a = 13 ∨ a = 14 ∨ a = 15 from by omega) with h | h | h | h | h | h | h | h | h | h | h | h | h | h | h | h <;> subst h <;> kernel_rfl

set_option maxHeartbeats 400000 in
theorem number_hex (base : Nat) (v : Value) (m : Nat) (xs : List Value) (n : Int) (w : World) (h0 : 0 ≤ n) (h1 : n ≤ 255) (hm : m ≤ 1000000) (hb : base ≤ w.heap.size) (hown : w.ownsRow base 5 1 v m xs) :
    Calls Tryz.prog 70 #[v, .int .u8 n] w fun e w' => ∃ v', e = .returned v' ∧ w'.ownsRow base 5 1 v' (m + 4) (xs ++ ([92, 120, hexd (n / 16).toNat, hexd (n % 16).toNat].map fun c => Value.int .u8 c.toNat)) ∧ Below base w w' := by
  obtain ⟨a, ha⟩ : ∃ a : Nat, n / 16 = (a : Int) := ⟨(n / 16).toNat, by omega⟩
  obtain ⟨b, hb'⟩ : ∃ b : Nat, n % 16 = (b : Int) := ⟨(n % 16).toNat, by omega⟩
  have e1 : IntKind.u8.wrap (n.tdiv 16) = (a : Int) := by rw [Int.tdiv_eq_ediv_of_nonneg h0, ha]; exact IntWalk.u8_in _ (by omega)
  have e2 : n.tmod 16 = (b : Int) := by rw [Int.tmod_eq_emod_of_nonneg h0, hb']
  have s1 := index_hex a (by omega)
  have s2 := index_hex b (by omega)
  obtain ⟨v', w1, hrun0, ho, hbel⟩ := app_run w.drew base 22 v m xs [92, 120, (hexd a).toNat, (hexd b).toNat] (by simp; omega) hb hown.drew
  have hrun : Sem.run Tryz.prog (Builtin.append_ #[22, 22] 22 #[v, .slice (some ⟨w.heap.size, 0, none⟩) 4 4]) (w.alloc (.cells #[.int .u8 92, .int .u8 120, .int .u8 (hexd a).toNat, .int .u8 (hexd b).toNat] 5)).drew = .ok v' w1 := hrun0
  have hge : [92, 120, hexd (n / 16).toNat, hexd (n % 16).toNat].map (fun c => Value.int .u8 c.toNat) = [92, 120, ((hexd a).toNat : Int), ((hexd b).toNat : Int)].map (Value.int .u8) := by
    simp [ha, hb']
  rw [hge]
  clear hrun0 hge ha hb'
  go_enter Tryz.func70, Tryz.ntmps70
  go_wp2
  go_region_law (refine step_append_run rfl _ _ _ _ rfl rfl _ _ _ _ rfl rfl hrun ?_)
  all_goals go_wp2
  all_goals go_ret
  all_goals exact ⟨_, rfl, ho, (Below.refl _ _).drew.trans hbel⟩


set_option maxHeartbeats 400000 in
theorem append_hex (base : Nat) (v : Value) (m : Nat) (xs : List Value) (n : Int) (w : World) (h0 : 0 ≤ n) (h1 : n ≤ 255) (h : n < 33 ∨ 126 < n) (hm : m ≤ 1000000) (hb : base ≤ w.heap.size) (hown : w.ownsRow base 5 1 v m xs) :
    Calls Tryz.prog 50 #[v, .int .u8 n] w fun e w' => ∃ v', e = .returned v' ∧ w'.ownsRow base 5 1 v' (m + 4) (xs ++ ([92, 120, hexd (n / 16).toNat, hexd (n % 16).toNat].map fun c => Value.int .u8 c.toNat)) ∧ Below base w w' := by
  have hP : isP n = false := by
    unfold isP
    rcases h with h | h
    · simp; omega
    · simp; omega
  have hcall := number_hex base v m xs n w h0 h1 hm hb hown
  go_enter Tryz.func50, Tryz.ntmps50
  go_wp2_with (first
    | (go_at_call 69; refine (isPrinted_any _ _).mono ?_; rintro e w' ⟨rfl, hw⟩; subst w')
    | (go_at_call 70; refine hcall.mono ?_; rintro e w2 ⟨v', rfl, ho, hbel⟩))
  all_goals go_ret
  all_goals exact ⟨_, rfl, ho, hbel⟩

set_option maxHeartbeats 400000 in
theorem append_plain (base : Nat) (v : Value) (m : Nat) (xs : List Value) (n : Int) (w : World) (h0 : 33 ≤ n) (h1 : n ≤ 126) (hp : plain n = true) (hm : m ≤ 1000000) (hb : base ≤ w.heap.size) (hown : w.ownsRow base 5 1 v m xs) :
    Calls Tryz.prog 50 #[v, .int .u8 n] w fun e w' => ∃ v', e = .returned v' ∧ w'.ownsRow base 5 1 v' (m + 1) (xs ++ [.int .u8 n]) ∧ Below base w w' := by
  obtain ⟨i0, hi, hz0, hz1, hz2⟩ := info_parts Tryz.info5
  have hP : isP n = true := by simp [isP]; omega
  have hcases : isL n = true ∨ (isL n = false ∧ isD n = true) ∨ (isL n = false ∧ isD n = false ∧ n = 95) ∨ (isL n = false ∧ isD n = false ∧ n = 44) ∨ (isL n = false ∧ isD n = false ∧ n = 58) ∨ (isL n = false ∧ isD n = false ∧ n = 61) := by
    unfold plain at hp
    cases hL : isL n <;> cases hD : isD n <;> simp [hL, hD] at hp ⊢
    omega
  clear hp
  rcases hcases with hL | ⟨hL, hD⟩ | ⟨hL, hD, h⟩ | ⟨hL, hD, h⟩ | ⟨hL, hD, h⟩ | ⟨hL, hD, h⟩ <;>
  · try subst h
    go_enter Tryz.func50, Tryz.ntmps50
    go_wp2_with (first
      | (go_at_call 69; refine (isPrinted_any _ _).mono ?_; rintro e w' ⟨rfl, hw⟩; subst w')
      | (go_at_call 71; refine (isLetter_any _ _).mono ?_; rintro e w' ⟨rfl, hw⟩; subst w')
      | (go_at_call 72; refine (isDigit_any _ _).mono ?_; rintro e w' ⟨rfl, hw⟩; subst w')
      | (at_builtin; refine wpList_append_own _ rfl _ _ 22 rfl base 5 i0 (.int .u8 0) 1 1 Tryz.underlying22 hi hz0 hz1 hz2 rfl (by decide) _ _ _ rfl (hown.alloc _) ⟨w.heap.size, 0, none⟩ 1 1 [.int .u8 _] rfl rfl (cells_new w _) (ints_oneCell .u8 [_]) (by unfold maxLen; omega) (by omega) (by simp; omega) ?_))
    intro v' w1 ho hg _
    have hbel : Below base w w1 := ((Below.refl _ _).alloc hb _).grown hg (by simp; omega) (fun k hk => (hown.lt k hk).1)
    clear hg
    go_wp2
    go_ret
    exact ⟨_, rfl, ho, hbel⟩

set_option maxHeartbeats 400000 in
theorem append_back (base : Nat) (v : Value) (m : Nat) (xs : List Value) (n : Int) (w : World) (h0 : 33 ≤ n) (h1 : n ≤ 126) (hp : plain n = false) (hm : m ≤ 1000000) (hb : base ≤ w.heap.size) (hown : w.ownsRow base 5 1 v m xs) :
    Calls Tryz.prog 50 #[v, .int .u8 n] w fun e w' => ∃ v', e = .returned v' ∧ w'.ownsRow base 5 1 v' (m + 2) (xs ++ [.int .u8 92, .int .u8 n]) ∧ Below base w w' := by
  obtain ⟨i0, hi, hz0, hz1, hz2⟩ := info_parts Tryz.info5
  have hP : isP n = true := by simp [isP]; omega
  have hc : isL n = false ∧ isD n = false ∧ (n == 95) = false ∧ (n == 44) = false ∧ (n == 58) = false ∧ (n == 61) = false := by
    unfold plain at hp
    simpa [Bool.or_eq_false_iff, and_assoc] using hp
  clear hp
  obtain ⟨hL, hD, r4, r5, r6, r7⟩ := hc
  go_enter Tryz.func50, Tryz.ntmps50
  go_wp2_with (first
      | (go_at_call 69; refine (isPrinted_any _ _).mono ?_; rintro e w' ⟨rfl, hw⟩; subst w')
      | (go_at_call 71; refine (isLetter_any _ _).mono ?_; rintro e w' ⟨rfl, hw⟩; subst w')
      | (go_at_call 72; refine (isDigit_any _ _).mono ?_; rintro e w' ⟨rfl, hw⟩; subst w')
      | (at_builtin; refine wpList_append_own _ rfl _ _ 22 rfl base 5 i0 (.int .u8 0) 1 1 Tryz.underlying22 hi hz0 hz1 hz2 rfl (by decide) _ _ _ rfl (hown.alloc _) ⟨w.heap.size, 0, none⟩ 2 2 [.int .u8 92, .int .u8 n] rfl rfl (cells_new w _) (ints_oneCell .u8 [_, _]) (by unfold maxLen; omega) (by omega) (by simp; omega) ?_))
  intro v' w1 ho hg _
  have hbel : Below base w w1 := ((Below.refl _ _).alloc hb _).grown hg (by simp; omega) (fun k hk => (hown.lt k hk).1)
  clear hg
  go_wp2
  go_ret
  exact ⟨_, rfl, ho, hbel⟩

/-- The cells of a list of bytes. -/
def cellsOf (l : List UInt8) : List Value := l.map fun c => Value.int .u8 c.toNat

theorem append_any (base : Nat) (v : Value) (l : List UInt8) (n : Int) (w : World) (h0 : 0 ≤ n) (h1 : n ≤ 255) (hm : l.length ≤ 1000000) (hb : base ≤ w.heap.size) (hown : w.ownsRow base 5 1 v l.length (cellsOf l)) :
    Calls Tryz.prog 50 #[v, .int .u8 n] w fun e w' => ∃ v', e = .returned v' ∧ w'.ownsRow base 5 1 v' (l ++ esc n).length (cellsOf (l ++ esc n)) ∧ Below base w w' := by
  have hn : max n 0 % 256 = n := by omega
  by_cases h : n < 33 ∨ 126 < n
  · have he : esc n = [92, 120, hexd (n / 16).toNat, hexd (n % 16).toNat] := esc_hex h (by omega) (by omega)
    refine (append_hex base v _ _ n w h0 h1 h hm hb hown).mono ?_
    rintro e w' ⟨v', rfl, ho, hbel⟩
    refine ⟨v', rfl, ?_, hbel⟩
    rw [he]
    simpa [cellsOf] using ho
  · have hP : isP n = true := by simp [isP]; omega
    cases hp : plain n
    · refine (append_back base v _ _ n w (by omega) (by omega) hp hm hb hown).mono ?_
      rintro e w' ⟨v', rfl, ho, hbel⟩
      refine ⟨v', rfl, ?_, hbel⟩
      simp only [esc, hP, hp]
      simpa [cellsOf, hn] using ho
    · refine (append_plain base v _ _ n w (by omega) (by omega) hp hm hb hown).mono ?_
      rintro e w' ⟨v', rfl, ho, hbel⟩
      refine ⟨v', rfl, ?_, hbel⟩
      simp only [esc, hP, hp]
      simpa [cellsOf, hn] using ho

end Go.Proofs.YtmlgmhnplicflaaGreat.Esc

namespace Go.Proofs.YtmlgmhnplicflaaGreat.Esc
open Go.RowKit
set_option maxRecDepth 100000

def encL (l : List UInt8) : List UInt8 := l.flatMap fun c => esc c.toNat
def escText (l : List UInt8) : List UInt8 := if (encL l).length ≤ 120 then encL l else []
def ba (l : List UInt8) : ByteArray := ⟨l.toArray⟩

theorem take_snoc (s : ByteArray) (k : Nat) (h : k < s.size) : s.data.toList.take (k + 1) = s.data.toList.take k ++ [s[k]] := by
  rw [List.take_succ_eq_append_getElem (by simpa using h)]; rfl
theorem encL_snoc (l : List UInt8) (c : UInt8) : encL (l ++ [c]) = encL l ++ esc c.toNat := by simp [encL]
theorem esc_le (n : Int) : (esc n).length ≤ 4 := by unfold esc; split <;> (try split) <;> simp
theorem encL_take_le (l : List UInt8) (k : Nat) : (encL (l.take k)).length ≤ (encL l).length := by
  have h : encL l = encL (l.take k) ++ encL (l.drop k) := by
    unfold encL; rw [← List.flatMap_append, List.take_append_drop]
  rw [h, List.length_append]; omega
theorem ba_append (a b : List UInt8) : ba a ++ ba b = ba (a ++ b) := by
  apply ByteArray.ext; simp [ba]
theorem ba_size (a : List UInt8) : (ba a).size = a.length := by simp [ba, ByteArray.size]
theorem escBA_ba (n : Int) : escBA n = ba (esc n) := rfl

theorem str_eq {a b : ByteArray} (h : a = b) : Value.string a = .string b := by rw [h]
theorem escText_short {l : List UInt8} (h : (encL l).length ≤ 120) : escText l = encL l := by simp [escText, h]
theorem escText_long {l : List UInt8} (k : Nat) (h : 120 < (encL (l.take k)).length) : escText l = [] := by
  have := encL_take_le l k
  simp [escText]; omega

set_option maxHeartbeats 400000 in
theorem specEscape_any (s : ByteArray) (w : World) (hs : s.size ≤ 1048576) :
    Calls Tryz.prog 28 #[.string s] w fun e w' => e = .returned (.string (ba (escText s.data.toList))) ∧ Below w.heap.size w w' := by
  go_enter Tryz.func28, Tryz.ntmps28
  go_wp2
  go_loopw [3, 4] (fun o i wr => ∃ k : Nat, k ≤ s.size ∧ i = .int .i64 k ∧ o = .string (ba (encL (s.data.toList.take k))) ∧ (encL (s.data.toList.take k)).length ≤ 124 ∧ Below w.heap.size w wr) (fun _ i _ => s.size - (intOf i).toNat)
  case atStart => exact ⟨0, Nat.zero_le _, rfl, rfl, by simp [encL], Below.refl _ _⟩
  case round =>
    obtain ⟨k, hk, rfl, rfl, hlen, hbel⟩ := hrel
    have hsz := ba_size (encL (s.data.toList.take k))
    by_cases hl : (encL (s.data.toList.take k)).length ≤ 120
    · by_cases hlt : k < s.size
      · have hc0 : (0 : Int) ≤ (s[k].toNat : Int) := by omega
        have hc1 : (s[k].toNat : Int) ≤ 255 := by have := s[k].toNat_lt; omega
        have he : ba (encL (s.data.toList.take k)) ++ escBA s[k].toNat = ba (encL (s.data.toList.take (k + 1))) := by
          rw [take_snoc s k hlt, encL_snoc, escBA_ba, ba_append]
        have hlen' : (encL (s.data.toList.take (k + 1))).length ≤ 124 := by
          have := esc_le s[k].toNat
          rw [take_snoc s k hlt, encL_snoc, List.length_append]; omega
        have HE : Hid (ba (encL (s.data.toList.take k)) ++ escBA s[k].toNat = ba (encL (s.data.toList.take (k + 1)))) := he
        have hz2 : (escBA s[k].toNat).size ≤ 4 := by rw [escBA_ba, ba_size]; exact esc_le _
        clear he
        go_wp2_with (first
          | (go_at_call 51; refine (l1byte_any _ _ (by omega) (by omega)).mono ?_; rintro e w' ⟨rfl, hb⟩))
        go_roundw
        case rel => exact ⟨k + 1, by omega, by go_num, str_eq HE.out, hlen', hbel.trans (hb.mono hbel.size)⟩
        case measure => simp [intOf]; omega
      · have hT : s.data.toList.take k = s.data.toList := List.take_of_length_le (by rw [Array.length_toList]; exact Nat.le_of_not_lt hlt)
        have HE : Hid (escText s.data.toList = encL (s.data.toList.take k)) := by rw [hT] at hl ⊢; exact escText_short hl
        clear hT
        go_wp2
        go_ret
        exact ⟨ret_str (by rw [HE.out]), hbel⟩
    · have HE : Hid (escText s.data.toList = []) := escText_long k (by omega)
      by_cases hlt : k < s.size <;>
      · go_wp2
        go_ret
        exact ⟨ret_str (by rw [HE.out]; rfl), hbel⟩

theorem own_form {w : World} {base : Nat} {v : Value} {n : Nat} {xs : List Value} (h : w.ownsRow base 5 1 v n xs) : ∃ ao cap, v = .slice ao n cap := by
  obtain ⟨_, ⟨rfl, rfl⟩ | ⟨g, cap, cur, rfl, _⟩⟩ := h
  · exact ⟨_, _, rfl⟩
  · exact ⟨_, _, rfl⟩

theorem fold_ba (l : List UInt8) (r : ByteArray) : (l.map fun c => (c.toNat : Int)).foldl (fun r n => r.push (UInt8.ofNat n.toNat)) r = r ++ ba l := by
  induction l generalizing r with
  | nil => apply ByteArray.ext; simp [ba]
  | cons c l ih =>
    rw [List.map_cons, List.foldl_cons, ih]
    apply ByteArray.ext
    simp [ba]

theorem conv_own {w : World} {base : Nat} {v : Value} {l : List UInt8} (h : w.ownsRow base 5 1 v l.length (cellsOf l)) : Sem.run Tryz.prog (convert 22 9 v) w = .ok (.string (ba l)) w := by
  have h' := h
  obtain ⟨_, ⟨rfl, hl⟩ | ⟨g, cap, cur, rfl, _⟩⟩ := h
  · obtain rfl := List.eq_nil_of_length_eq_zero hl
    rw [run_convert_bytes_string _ 22 9 5 _ _ _ Tryz.underlying22 Tryz.underlying5 Tryz.underlying9]
    rfl
  · rw [run_convert_bytes_string _ 22 9 5 _ _ _ Tryz.underlying22 Tryz.underlying5 Tryz.underlying9]
    have hc : cellsOf l = (l.map fun c => (c.toNat : Int)).map (Value.int .u8) := by simp [cellsOf]
    rw [run_bytesToString _ _ _ _ (l.map fun c => (c.toNat : Int))]
    · rw [fold_ba]; congr 2
    · rw [← hc]
      have := run_loadCells_list (P := Tryz.prog) w ⟨g, 0, none⟩ (cellsOf l) (h'.cells rfl)
      simpa [cellsOf] using this

set_option maxHeartbeats 400000 in
theorem implEscape_any (s : ByteArray) (w : World) (hs : s.size ≤ 1048576) :
    Calls Tryz.prog 27 #[.string s] w fun e w' => e = .returned (.string (ba (escText s.data.toList))) ∧ Below w.heap.size w w' := by
  go_enter Tryz.func27, Tryz.ntmps27
  go_wp2
  go_loopw [3, 4] (fun o i wr => ∃ k : Nat, k ≤ s.size ∧ i = .int .i64 k ∧ wr.ownsRow w.heap.size 5 1 o (encL (s.data.toList.take k)).length (cellsOf (encL (s.data.toList.take k))) ∧ (encL (s.data.toList.take k)).length ≤ 120 ∧ Below w.heap.size w wr) (fun _ i _ => s.size - (intOf i).toNat)
  case atStart => exact ⟨0, Nat.zero_le _, rfl, World.ownsRow_nil _ _ _ _, by simp [encL], Below.refl _ _⟩
  case round =>
    obtain ⟨k, hk, rfl, hown, hlen, hbel⟩ := hrel
    by_cases hlt : k < s.size
    · have hc0 : (0 : Int) ≤ (s[k].toNat : Int) := by omega
      have hc1 : (s[k].toNat : Int) ≤ 255 := by have := s[k].toNat_lt; omega
      have he : encL (s.data.toList.take k) ++ esc s[k].toNat = encL (s.data.toList.take (k + 1)) := by
        rw [take_snoc s k hlt, encL_snoc]
      have hlen' : (encL (s.data.toList.take (k + 1))).length ≤ 124 := by
        have := esc_le s[k].toNat
        rw [take_snoc s k hlt, encL_snoc, List.length_append]; omega
      have HE : Hid (encL (s.data.toList.take k) ++ esc s[k].toNat = encL (s.data.toList.take (k + 1))) := he
      clear he
      by_cases hl : (encL (s.data.toList.take (k + 1))).length ≤ 120
      · go_wp2_with (first
          | (go_at_call 50; refine (append_any w.heap.size _ _ _ _ (by omega) (by omega) (by omega) hbel.size hown).mono ?_; rintro e w' ⟨v', rfl, ho, hb⟩; rw [HE.out] at ho; obtain ⟨ao, cap, rfl⟩ := own_form ho))
        go_roundw
        case rel => exact ⟨k + 1, by omega, by go_num, ho, hl, hbel.trans hb⟩
        case measure => simp [intOf]; omega
      · have HN : Hid (escText s.data.toList = []) := escText_long (k + 1) (by omega)
        go_wp2_with (first
          | (go_at_call 50; refine (append_any w.heap.size _ _ _ _ (by omega) (by omega) (by omega) hbel.size hown).mono ?_; rintro e w' ⟨v', rfl, ho, hb⟩; rw [HE.out] at ho; obtain ⟨ao, cap, rfl⟩ := own_form ho))
        go_ret
        exact ⟨ret_str (by rw [HN.out]; rfl), hbel.trans hb⟩
    · have hT : s.data.toList.take k = s.data.toList := List.take_of_length_le (by rw [Array.length_toList]; exact Nat.le_of_not_lt hlt)
      have HE : Hid (escText s.data.toList = encL (s.data.toList.take k)) := by rw [hT] at hlen ⊢; exact escText_short hlen
      have hcv := conv_own hown
      clear hT
      go_wp2
      go_ret
      exact ⟨ret_str (by rw [HE.out]), hbel⟩

end Go.Proofs.YtmlgmhnplicflaaGreat.Esc
