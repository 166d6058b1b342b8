import Derived.Test.YtmlgmhnplicflaaGreatDoorAA
import Derived.Test.YtmlgmhnplicflaaGreatDoorB
import Derived.Lib.OthersKept
import Derived.Deep.Cut
import Derived.Test.YtmlgmhnplicflaaGreatDoorShelf
import Derived.Lib.AppendStr
import Derived.Lib.ItoaMem
import Derived.Lib.ItoaLen
import Derived.Lib.AppendIntMem

/-
  Texts in rows of the call's own: bytes put behind; what is no row of bytes stays.
-/
namespace Go.Proofs.YtmlgmhnplicflaaGreatDoor
open Go.RowKit
set_option linter.unusedVariables false
set_option maxRecDepth 100000

/-- Blocks that are there. -/
def There (A : Nat → Prop) (w : World) : Prop := ∀ k, A k → k < w.heap.size
theorem There.le {A : Nat → Prop} {w w' : World} (h : There A w) (hs : w.heap.size ≤ w'.heap.size) : There A w' := fun k hk => Nat.lt_of_lt_of_le (h k hk) hs
/-- What writing leaves: the blocks of A, and whatever is no row of bytes. -/
structure Wrt (A : Nat → Prop) (w w' : World) : Prop where
  keeps : Keeps (fun k => ¬ A k) w w'
  oth : Lib.OthersKept 5 none w w'
namespace Wrt
variable {A : Nat → Prop} {w w1 w2 : World}
theorem refl (A : Nat → Prop) (w : World) : Wrt A w w := ⟨Keeps.refl _ _, Lib.OthersKept.refl _ _ _⟩
theorem trans (h : Wrt A w w1) (k : Wrt A w1 w2) : Wrt A w w2 := ⟨h.keeps.trans k.keeps, h.oth.trans k.oth⟩
theorem drew (h : Wrt A w w1) : Wrt A w w1.drew := ⟨h.keeps.drew, h.oth.drew⟩
theorem ofDrew (h : Wrt A w.drew w1) : Wrt A w w1 := (refl A w).drew.trans h
theorem alloc (h : Wrt A w w1) (o : Obj) : Wrt A w (w1.alloc o) := ⟨h.keeps.alloc o, h.oth.alloc o⟩
theorem size (h : Wrt A w w1) : w.heap.size ≤ w1.heap.size := h.keeps.size
theorem there (h : Wrt A w w1) (hA : There A w) : There A w1 := hA.le h.size
theorem block (h : Wrt A w w1) {k : Nat} {c : Array Value} {t : TypeId} {fz : Nat × Nat} (hk : w.heap[k]? = some (.cells c t fz)) (ht : t ≠ 5) : w1.heap[k]? = some (.cells c t fz) :=
  h.oth k _ hk (by simp) (fun c' fz' e => ht (by simp at e; exact e.2.1))
theorem ofKeeps (h : Keeps (fun _ => False) w w1) : Wrt A w w1 :=
  ⟨h.mono (fun _ _ h => h.elim), fun k o hk _ _ => by rw [h.block k (Array.getElem?_eq_some_iff.1 hk).1 (fun h => h)]; exact hk⟩
theorem mono {A' : Nat → Prop} (h : Wrt A w w1) (hA : ∀ k, A' k → A k) : Wrt A' w w1 := ⟨h.keeps.mono (fun k _ hk hA' => hk (hA k hA')), h.oth⟩
end Wrt

/-- A text in a row that none of A's blocks is. -/
structure Tr (w : World) (A : Nat → Prop) (v : Value) (l : List UInt8) : Prop where
  row : w.ownsRow 0 5 1 v l.length (Esc.cellsOf l)
  out : ∀ k, v.ownBlock = some k → ¬ A k
theorem Tr.drew {w : World} {A : Nat → Prop} {v : Value} {l : List UInt8} (h : Tr w A v l) : Tr w.drew A v l := ⟨h.row, h.out⟩
theorem Tr.alloc {w : World} {A : Nat → Prop} {v : Value} {l : List UInt8} (h : Tr w A v l) (o : Obj) : Tr (w.alloc o) A v l := ⟨h.row.alloc o, h.out⟩
theorem Tr.same {w w' : World} {A : Nat → Prop} {v : Value} {l : List UInt8} (h : Tr w A v l) (k : Keeps (fun _ => False) w w') : Tr w' A v l := ⟨ownsRow_keeps h.row k (fun _ _ h => h), h.out⟩
theorem Tr.form {w : World} {A : Nat → Prop} {v : Value} {l : List UInt8} (h : Tr w A v l) : ∃ ao cap, v = .slice ao l.length cap := own_form h.row
/-- What a call that writes on does. -/
def TrPost (A : Nat → Prop) (l : List UInt8) (w : World) (e : Ending) (w' : World) : Prop := ∃ ao cap, e = .returned (.slice ao l.length cap) ∧ Tr w' A (.slice ao l.length cap) l ∧ Wrt A w w'
theorem trPost_mk {A : Nat → Prop} {l l' : List UInt8} {w w' : World} {ao : Option Addr} {cap n : Nat} (he : l = l') (hn : n = l.length) (h : Tr w' A (.slice ao n cap) l) (hW : Wrt A w w') : TrPost A l' w (.returned (.slice ao n cap)) w' := by
  subst he hn; exact ⟨ao, cap, rfl, h, hW⟩

/-- An append to a text's row. -/
theorem tr_grown {w w0 w1 : World} {A : Nat → Prop} {v v' : Value} {l l' : List UInt8} (h : Tr w A v l) (hA : There A w) (hs : w.heap.size ≤ w0.heap.size) (h0 : Wrt A w w0) (hrow0 : w0.ownsRow 0 5 1 v l.length (Esc.cellsOf l)) (ho : w1.ownsRow 0 5 1 v' l'.length (Esc.cellsOf l')) (hg : w0.grownBy w1 v.ownBlock) (hb : Blk w0 v v') : Tr w1 A v' l' ∧ Wrt A w w1 := by
  refine ⟨⟨ho, fun k hk hAk => h.out k (hb k hk (Nat.lt_of_lt_of_le (hA k hAk) hs)) hAk⟩, ⟨h0.keeps.grown hg (fun k hk _ => h.out k hk), h0.oth.grown hg (fun g hgk => ?_)⟩⟩
  obtain ⟨cur, hc⟩ := own_block hrow0 hgk
  exact ⟨cur, _, hc⟩
theorem tr_append {w : World} {A : Nat → Prop} {v : Value} {l : List UInt8} (h : Tr w A v l) (hA : There A w) (ns : List UInt8) (hn : l.length + ns.length ≤ 2000000) :
    ∃ ao cap w1, Sem.run Tryz.prog (Builtin.append_ #[22, 22] 22 #[v, .slice (some ⟨w.heap.size, 0, none⟩) ns.length ns.length]) (w.alloc (.cells (Esc.cellsOf ns).toArray 5)) = .ok (.slice ao (l ++ ns).length cap) w1 ∧ Tr w1 A (.slice ao (l ++ ns).length cap) (l ++ ns) ∧ Wrt A w w1 := by
  obtain ⟨i0, hi, hz0, hz1, hz2⟩ := info_parts Esc.Tryz.info5
  obtain ⟨v', w1, hrun, ho, hg, hb⟩ := app_any (P := Tryz.prog) (w.alloc (.cells (Esc.cellsOf ns).toArray 5)) 0 22 22 5 i0 (.int .u8 0) 1 1 Tryz.underlying22 hi hz0 hz1 hz2 rfl (by decide) v l.length (Esc.cellsOf l) (h.row.alloc _)
    ⟨w.heap.size, 0, none⟩ ns.length ns.length (Esc.cellsOf ns) (by simp [Esc.cellsOf]) (cells_new w _ _) (by intro u hu; simp [Esc.cellsOf] at hu; obtain ⟨c, _, rfl⟩ := hu; rfl) (by unfold maxLen; omega) (by omega) (Nat.zero_le _)
  have e3 : Esc.cellsOf l ++ Esc.cellsOf ns = Esc.cellsOf (l ++ ns) := by simp [Esc.cellsOf]
  rw [e3, ← List.length_append] at ho
  obtain ⟨ao, cap, rfl⟩ := own_form ho
  obtain ⟨a, b⟩ := tr_grown h hA (by simp) ((Wrt.refl A w).alloc _) (h.row.alloc _) ho hg hb
  exact ⟨ao, cap, w1, hrun, a, b⟩
/-- The same, the bytes in a row of whatever block. -/
theorem tr_append_at {w : World} {A : Nat → Prop} {v : Value} {l : List UInt8} (h : Tr w A v l) (hA : There A w) (ns : List UInt8) (a : Addr) (m c : Nat) (hm : ns.length = m) (hc : ∀ (j : Nat) (u : Value), (Esc.cellsOf ns)[j]? = some u → w.cell? (a.add j) = some u) (hn : l.length + m ≤ 2000000) :
    ∃ ao cap w1, Sem.run Tryz.prog (Builtin.append_ #[22, 22] 22 #[v, .slice (some a) m c]) w = .ok (.slice ao (l ++ ns).length cap) w1 ∧ Tr w1 A (.slice ao (l ++ ns).length cap) (l ++ ns) ∧ Wrt A w w1 := by
  obtain ⟨i0, hi, hz0, hz1, hz2⟩ := info_parts Esc.Tryz.info5
  obtain ⟨v', w1, hrun, ho, hg, hb⟩ := app_any (P := Tryz.prog) w 0 22 22 5 i0 (.int .u8 0) 1 1 Tryz.underlying22 hi hz0 hz1 hz2 rfl (by decide) v l.length (Esc.cellsOf l) h.row
    a m c (Esc.cellsOf ns) (by simp [Esc.cellsOf, hm]) hc (by intro u hu; simp [Esc.cellsOf] at hu; obtain ⟨c, _, rfl⟩ := hu; rfl) (by unfold maxLen; omega) (by omega) (Nat.zero_le _)
  have e3 : Esc.cellsOf l ++ Esc.cellsOf ns = Esc.cellsOf (l ++ ns) := by simp [Esc.cellsOf]
  rw [e3, ← hm, ← List.length_append] at ho
  obtain ⟨ao, cap, rfl⟩ := own_form ho
  obtain ⟨x, y⟩ := tr_grown h hA (Nat.le_refl _) (Wrt.refl A w) h.row ho hg hb
  exact ⟨ao, cap, w1, hrun, x, y⟩
theorem tr_one {w : World} {A : Nat → Prop} {v : Value} {l : List UInt8} (h : Tr w A v l) (hA : There A w) (c : UInt8) (n : Int) (hc : (c.toNat : Int) = n) (hn : l.length + 1 ≤ 2000000) :
    ∃ ao cap w1, Sem.run Tryz.prog (Builtin.append_ #[22, 22] 22 #[v, .slice (some ⟨w.heap.size, 0, none⟩) 1 1]) (w.alloc (.cells #[.int .u8 n] 5)) = .ok (.slice ao (l ++ [c]).length cap) w1 ∧ Tr w1 A (.slice ao (l ++ [c]).length cap) (l ++ [c]) ∧ Wrt A w w1 := by
  subst hc
  exact tr_append h hA [c] hn

theorem u8_of {n : Int} (h0 : 0 ≤ n) (h1 : n ≤ 255) : ((UInt8.ofNat n.toNat).toNat : Int) = n := by
  have : (UInt8.ofNat n.toNat).toNat = n.toNat := by simp; omega
  omega

set_option maxHeartbeats 400000 in
theorem apNum_hex {w : World} {A : Nat → Prop} {v : Value} {l : List UInt8} (n : Int) (h0 : 0 ≤ n) (h1 : n ≤ 255) (hh : n < 33 ∨ 126 < n) (hl : l.length ≤ 1000000) (hA : There A w) (h : Tr w A v l) :
    Calls Tryz.prog 149 #[v, .int .u8 n] w (TrPost A (l ++ Esc.esc n) w) := by
  obtain ⟨a, ha⟩ : ∃ a : Nat, n / 16 = (a : Int) := ⟨(n / 16).toNat, by omega⟩
  obtain ⟨b, hb'⟩ : ∃ b : Nat, n % 16 = (b : Int) := ⟨(n % 16).toNat, by omega⟩
  have HE : Hid (Esc.esc n = [92, 120, Esc.hexd a, Esc.hexd b]) := Esc.esc_hex hh ha hb'
  have e1 : IntKind.u8.wrap (n.tdiv 16) = (a : Int) := by rw [Int.tdiv_eq_ediv_of_nonneg h0, ha]; exact IntWalk.u8_in _ (by omega)
  have e2 : n.tmod 16 = (b : Int) := by rw [Int.tmod_eq_emod_of_nonneg h0, hb']
  have s1 := Esc.index_hex a (by omega)
  have s2 := Esc.index_hex b (by omega)
  obtain ⟨ao, cap, w1, hrun0, hT, hW⟩ := tr_append (w := w.drew) (A := A) h.drew hA [92, 120, Esc.hexd a, Esc.hexd b] (by simp; omega)
  have hrun : Sem.run Tryz.prog (Builtin.append_ #[22, 22] 22 #[v, .slice (some ⟨w.heap.size, 0, none⟩) 4 4]) (w.alloc (.cells #[.int .u8 92, .int .u8 120, .int .u8 (Esc.hexd a).toNat, .int .u8 (Esc.hexd b).toNat] 5)).drew = .ok (.slice ao (l ++ [92, 120, Esc.hexd a, Esc.hexd b]).length cap) w1 := hrun0
  generalize hm : (l ++ [92, 120, Esc.hexd a, Esc.hexd b]).length = m at hrun hT
  have HM : Hid ((l ++ [92, 120, Esc.hexd a, Esc.hexd b]).length = m) := hm
  clear hrun0 ha hb' hm
  go_enter Tryz.func149, Tryz.ntmps149
  go_wp2
  go_region_law (refine step_append_run rfl _ _ _ _ rfl rfl _ _ _ _ rfl rfl hrun ?_)
  all_goals go_wp2
  all_goals go_ret
  all_goals exact trPost_mk (by rw [HE.out]) HM.out.symm hT hW.ofDrew

set_option maxHeartbeats 400000 in
theorem apByte_hex {w : World} {A : Nat → Prop} {v : Value} {l : List UInt8} (n : Int) (h0 : 0 ≤ n) (h1 : n ≤ 255) (hh : n < 33 ∨ 126 < n) (hl : l.length ≤ 1000000) (hA : There A w) (h : Tr w A v l) :
    Calls Tryz.prog 115 #[v, .int .u8 n] w (TrPost A (l ++ Esc.esc n) w) := by
  have hP : Esc.isP n = false := by
    unfold Esc.isP
    rcases hh with h | h
    · simp; omega
    · simp; omega
  have hcall := apNum_hex n h0 h1 hh hl hA h
  have hcall' : Calls Tryz.prog 149 #[v, .int .u8 n] w (fun e w' => ∃ ao m cap, e = .returned (.slice ao m cap) ∧ Hid (TrPost A (l ++ Esc.esc n) w (.returned (.slice ao m cap)) w')) := hcall.mono (fun e w' h => by obtain ⟨ao, cap, rfl, h1⟩ := h; exact ⟨ao, _, cap, rfl, ao, cap, rfl, h1⟩)
  clear hcall
  go_enter Tryz.func115, Tryz.ntmps115
  go_wp2_with (first
    | (go_at_call 148; refine (Esc.isPrinted_any _ _).mono ?_; rintro e w' ⟨rfl, hw⟩; subst w')
    | (go_at_call 149; refine hcall'.mono ?_; rintro e w2 ⟨ao2, m2, cap2, rfl, HT2⟩))
  all_goals go_ret
  all_goals exact HT2.out

set_option maxHeartbeats 400000 in
theorem apByte_plain {w : World} {A : Nat → Prop} {v : Value} {l : List UInt8} (n : Int) (h0 : 33 ≤ n) (h1 : n ≤ 126) (hp : Esc.plain n = true) (hl : l.length ≤ 1000000) (hA : There A w) (h : Tr w A v l) :
    Calls Tryz.prog 115 #[v, .int .u8 n] w (TrPost A (l ++ Esc.esc n) w) := by
  have hP : Esc.isP n = true := by simp [Esc.isP]; omega
  have HE : Hid (Esc.esc n = [UInt8.ofNat n.toNat]) := (by show _ = _; simp [Esc.esc, hP, hp])
  have hcases : Esc.isL n = true ∨ (Esc.isL n = false ∧ Esc.isD n = true) ∨ (Esc.isL n = false ∧ Esc.isD n = false ∧ n = 95) ∨ (Esc.isL n = false ∧ Esc.isD n = false ∧ n = 44) ∨ (Esc.isL n = false ∧ Esc.isD n = false ∧ n = 58) ∨ (Esc.isL n = false ∧ Esc.isD n = false ∧ n = 61) := by
    unfold Esc.plain at hp
    cases hL : Esc.isL n <;> cases hD : Esc.isD n <;> simp [hL, hD] at hp ⊢
    omega
  clear hp
  obtain ⟨ao, cap, w1, hrun, hT, hW⟩ := tr_one h hA (UInt8.ofNat n.toNat) n (u8_of (by omega) (by omega)) (by omega)
  generalize hm : (l ++ [UInt8.ofNat n.toNat]).length = m at hrun hT
  have HM : Hid ((l ++ [UInt8.ofNat n.toNat]).length = m) := hm
  have HT : Hid (Tr w1 A (.slice ao m cap) (l ++ [UInt8.ofNat n.toNat])) := hT
  clear hm hT
  rcases hcases with hL | ⟨hL, hD⟩ | ⟨hL, hD, hx⟩ | ⟨hL, hD, hx⟩ | ⟨hL, hD, hx⟩ | ⟨hL, hD, hx⟩ <;>
  · try subst hx
    go_enter Tryz.func115, Tryz.ntmps115
    go_wp2_with (first
      | (go_at_call 148; refine (Esc.isPrinted_any _ _).mono ?_; rintro e w' ⟨rfl, hw⟩; subst w')
      | (go_at_call 150; refine (Esc.isLetter_any _ _).mono ?_; rintro e w' ⟨rfl, hw⟩; subst w')
      | (go_at_call 137; refine (Esc.isDigit_any _ _).mono ?_; rintro e w' ⟨rfl, hw⟩; subst w')
      | (at_builtin; refine wpList_append_run rfl _ _ _ _ rfl rfl _ _ _ _ rfl rfl hrun ?_))
    go_ret
    exact trPost_mk (by rw [HE.out]) HM.out.symm HT.out hW

set_option maxHeartbeats 400000 in
theorem apByte_back {w : World} {A : Nat → Prop} {v : Value} {l : List UInt8} (n : Int) (h0 : 33 ≤ n) (h1 : n ≤ 126) (hp : Esc.plain n = false) (hl : l.length ≤ 1000000) (hA : There A w) (h : Tr w A v l) :
    Calls Tryz.prog 115 #[v, .int .u8 n] w (TrPost A (l ++ Esc.esc n) w) := by
  have hP : Esc.isP n = true := by simp [Esc.isP]; omega
  have HE : Hid (Esc.esc n = [92, UInt8.ofNat n.toNat]) := (by show _ = _; simp [Esc.esc, hP, hp])
  have hc : Esc.isL n = false ∧ Esc.isD n = false ∧ (n == 95) = false ∧ (n == 44) = false ∧ (n == 58) = false ∧ (n == 61) = false := by
    unfold Esc.plain at hp
    simpa [Bool.or_eq_false_iff, and_assoc] using hp
  clear hp
  obtain ⟨hL, hD, r4, r5, r6, r7⟩ := hc
  obtain ⟨ao, cap, w1, hrun0, hT, hW⟩ := tr_append h hA [92, UInt8.ofNat n.toNat] (by simp; omega)
  have hrun : Sem.run Tryz.prog (Builtin.append_ #[22, 22] 22 #[v, .slice (some ⟨w.heap.size, 0, none⟩) 2 2]) (w.alloc (.cells #[.int .u8 92, .int .u8 n] 5)) = .ok (.slice ao (l ++ [92, UInt8.ofNat n.toNat]).length cap) w1 := by
    have e : (Esc.cellsOf [92, UInt8.ofNat n.toNat]).toArray = #[.int .u8 92, .int .u8 n] := by
      simp only [Esc.cellsOf, List.map_cons, List.map_nil]
      rw [u8_of (by omega) (by omega)]
      rfl
    rw [e] at hrun0
    exact hrun0
  generalize hm : (l ++ [92, UInt8.ofNat n.toNat]).length = m at hrun hT
  have HM : Hid ((l ++ [92, UInt8.ofNat n.toNat]).length = m) := hm
  clear hrun0 hm
  go_enter Tryz.func115, Tryz.ntmps115
  go_wp2_with (first
      | (go_at_call 148; refine (Esc.isPrinted_any _ _).mono ?_; rintro e w' ⟨rfl, hw⟩; subst w')
      | (go_at_call 150; refine (Esc.isLetter_any _ _).mono ?_; rintro e w' ⟨rfl, hw⟩; subst w')
      | (go_at_call 137; refine (Esc.isDigit_any _ _).mono ?_; rintro e w' ⟨rfl, hw⟩; subst w')
      | (at_builtin; refine wpList_append_run rfl _ _ _ _ rfl rfl _ _ _ _ rfl rfl hrun ?_))
  go_ret
  exact trPost_mk (by rw [HE.out]) HM.out.symm hT hW

theorem apByte_any {w : World} {A : Nat → Prop} {v : Value} {l : List UInt8} (n : Int) (h0 : 0 ≤ n) (h1 : n ≤ 255) (hl : l.length ≤ 1000000) (hA : There A w) (h : Tr w A v l) :
    Calls Tryz.prog 115 #[v, .int .u8 n] w (TrPost A (l ++ Esc.esc n) w) := by
  by_cases hh : n < 33 ∨ 126 < n
  · exact apByte_hex n h0 h1 hh hl hA h
  · cases hp : Esc.plain n
    · exact apByte_back n (by omega) (by omega) hp hl hA h
    · exact apByte_plain n (by omega) (by omega) hp hl hA h

end Go.Proofs.YtmlgmhnplicflaaGreatDoor

/-
  Numbers put behind a text: strconv.AppendInt, with what stays.
-/
namespace Go.Proofs.YtmlgmhnplicflaaGreatDoor
open Go.RowKit Go.Sort
set_option linter.unusedVariables false

/-- An append of a string's bytes, where the order is the text's. -/
theorem wpList_append_run2 {P : Program} {w : World} {ops : Array Oper} {rest : List Oper} {o : Oper} {a : Act} {Q : Exit → Act → World → Prop} (hgd : o.guard = none) (s x : Operand) (t u ty : TypeId)
    (ho : o.op = .call { callee := .builtin .append, args := #[s, x], argTypes := #[t, u] }) (hty : o.type = ty) (v y v' : Value) (w' : World) (hs : a.eval s = v) (hx : a.eval x = y)
    (hr : Sem.run P (Builtin.append_ #[t, u] ty #[v, y]) w = .ok v' w') (h : wpList P ops Q rest (a.put o.dst v') w') : wpList P ops Q (o :: rest) a w :=
  wpList_plain hgd fun _ hK => by
    unfold Oper.wp execOp
    simp only [ho, hty, resolve, invoke, builtin, Sem.run_bind, Sem.run_pure, Result.andThen_ok, List.map_toArray, List.map_cons, List.map_nil, hs, hx, hr]
    exact hK _ _ h
/-- What a string's append makes of a row's place. -/
theorem str_blk {w w1 : World} {v v' : Value} {l : List UInt8} {ns : ByteArray} (h : w.ownsRow 0 5 1 v l.length (Esc.cellsOf l)) (hn : l.length + ns.size ≤ 2000000) (hv : v ≠ .slice none 0 0)
    (hrun : Sem.run Tryz.prog (Builtin.append_ #[22, 9] 22 #[v, .string ns]) w = .ok v' w1) : Blk w v v' := by
  obtain ⟨i0, hi, hz0, hz1, hz2⟩ := info_parts Esc.Tryz.info5
  have h' := h
  rcases h.2 with ⟨rfl, _⟩ | ⟨g, cap, cur, rfl, hbg, hg, hnc, hcm, hcs, htake⟩
  · exact absurd rfl hv
  · by_cases hroom : l.length + ns.size ≤ cap
    · have hr := Lib.run_append_room_string (P := Tryz.prog) w 22 9 22 5 i0 Tryz.underlying22 Tryz.underlying9 hi hz1 g l.length cap cur hg ns hroom (by rw [hcs]; omega)
      rw [hr] at hrun
      simp only [Result.ok.injEq] at hrun
      rw [← hrun.1]
      exact fun k hk _ => hk
    · have hr := Lib.run_append_grow_string (P := Tryz.prog) w 22 9 22 5 i0 (.int .u8 0) Tryz.underlying22 Tryz.underlying9 hi hz0 ⟨g, 0, none⟩ l.length cap (Esc.cellsOf l) (by rw [hz1]; simp [Esc.cellsOf]) (h'.cells (g := g) rfl) ns (by omega) (by omega) (by rw [hz2]; have := nextslicecap_le (need := l.length + ns.size) (old := cap) (by omega); omega)
      rw [hr] at hrun
      simp only [Result.ok.injEq] at hrun
      rw [← hrun.1]
      intro k hk hlt
      simp [Value.ownBlock] at hk
      omega
theorem tr_str {w : World} {A : Nat → Prop} {v : Value} {l : List UInt8} (h : Tr w A v l) (hA : There A w) (ns : List UInt8) (hn : l.length + ns.length ≤ 2000000) :
    ∃ ao cap w1, Sem.run Tryz.prog (Builtin.append_ #[22, 9] 22 #[v, .string ⟨ns.toArray⟩]) w = .ok (.slice ao (l ++ ns).length cap) w1 ∧ Tr w1 A (.slice ao (l ++ ns).length cap) (l ++ ns) ∧ Wrt A w w1 := by
  obtain ⟨i0, hi, hz0, hz1, hz2⟩ := info_parts Esc.Tryz.info5
  have hsz : (⟨ns.toArray⟩ : ByteArray).size = ns.length := by simp [ByteArray.size]
  have e3 : Esc.cellsOf l ++ Lib.strCells ⟨ns.toArray⟩ = Esc.cellsOf (l ++ ns) := by rw [Lib.strCells_eq]; simp [Esc.cellsOf, Lib.byteCells]
  by_cases hv : v = .slice none 0 0
  · subst hv
    obtain ⟨v', w1, hrun, ho, hg, _⟩ := Lib.run_append_own_string (P := Tryz.prog) w w.heap.size 22 9 22 5 i0 Tryz.underlying22 Tryz.underlying9 hi hz0 hz1 hz2 _ l.length (Esc.cellsOf l) (ownsRow_base h.row (fun k hk => by simp [Value.ownBlock] at hk)) ⟨ns.toArray⟩ (by unfold maxLen; omega) (by omega) (Nat.le_refl _)
    rw [e3, hsz, ← List.length_append] at ho
    obtain ⟨ao, cap, rfl⟩ := own_form ho
    obtain ⟨a, b⟩ := tr_grown h hA (Nat.le_refl _) (Wrt.refl A w) h.row (ownsRow_base ho (fun _ _ => Nat.zero_le _)) hg (fun k hk hlt => absurd (ho.lt k hk).1 (by omega))
    exact ⟨ao, cap, w1, hrun, a, b⟩
  · obtain ⟨v', w1, hrun, ho, hg, _⟩ := Lib.run_append_own_string (P := Tryz.prog) w 0 22 9 22 5 i0 Tryz.underlying22 Tryz.underlying9 hi hz0 hz1 hz2 v l.length (Esc.cellsOf l) h.row ⟨ns.toArray⟩ (by unfold maxLen; omega) (by omega) (Nat.zero_le _)
    have hb := str_blk h.row (by rw [hsz]; omega) hv hrun
    rw [e3, hsz, ← List.length_append] at ho
    obtain ⟨ao, cap, rfl⟩ := own_form ho
    obtain ⟨a, b⟩ := tr_grown h hA (Nat.le_refl _) (Wrt.refl A w) h.row ho hg hb
    exact ⟨ao, cap, w1, hrun, a, b⟩

def TrP (A : Nat → Prop) (l : List UInt8) (w : World) (e : Ending) (w' : World) : Prop := ∃ ao m cap, Hid (m = l.length) ∧ e = .returned (.slice ao m cap) ∧ Tr w' A (.slice ao m cap) l ∧ Wrt A w w'
theorem TrPost.form {A : Nat → Prop} {l : List UInt8} {w w' : World} {e : Ending} (h : TrPost A l w e w') : TrP A l w e w' := by
  obtain ⟨ao, cap, rfl, hT, hW⟩ := h
  exact ⟨ao, _, cap, rfl, rfl, hT, hW⟩
theorem trP_mk {A : Nat → Prop} {l l' : List UInt8} {w w' : World} {ao : Option Addr} {cap m : Nat} (he : l = l') (hn : Hid (m = l.length)) (h : Tr w' A (.slice ao m cap) l) (hW : Wrt A w w') : TrP A l' w (.returned (.slice ao m cap)) w' := by
  subst he; exact ⟨ao, m, cap, hn, rfl, h, hW⟩

set_option maxHeartbeats 1000000 in
set_option maxRecDepth 100000 in
theorem apU_small {w : World} {A : Nat → Prop} {v : Value} {l : List UInt8} (u : Nat) (hu : u < 100) (hl : l.length ≤ 1900000) (hA : There A w) (h : Tr w A v l) :
    Calls Tryz.prog 189 #[v, .int .u64 u, .int .i64 10] w (TrPost A (l ++ Lib.decDigits u) w) := by
  obtain ⟨ao, cap, rfl⟩ := h.form
  have hlen : (Lib.decDigits u).length ≤ 20 := by rw [Lib.decDigits_length]; exact Lib.nDigits_le20 u (by omega)
  obtain ⟨ao2, cap2, w2, hr, hT, hW⟩ := tr_str h hA (Lib.decDigits u) (by omega)
  generalize hm : (l ++ Lib.decDigits u).length = m at hr hT
  have HM : Hid ((l ++ Lib.decDigits u).length = m) := hm
  clear hm
  have iu : (u : Int) < 100 := by omega
  go_enter Tryz.func189, Tryz.ntmps189
  go_wp2_with (first
    | (go_at_call 208; refine (Tryz.internal_strconv_small u hu _).mono ?_; rintro e w' ⟨rfl, rfl⟩)
    | (at_builtin; refine wpList_append_run2 rfl _ _ _ _ _ rfl rfl _ _ _ _ rfl rfl hr ?_))
  go_ret
  exact trPost_mk rfl HM.out.symm hT hW

set_option maxHeartbeats 4000000 in
set_option maxRecDepth 100000 in
theorem apU_big {w : World} {A : Nat → Prop} {v : Value} {l : List UInt8} (u : Nat) (hu : 100 ≤ u) (hu64 : u < 18446744073709551616) (hl : l.length ≤ 1900000) (hA : There A w) (h : Tr w A v l) (htab : Lib.TabIs Tryz.prog w "internal/strconv.uint64pow10" .u64 Lib.pow10Tab) :
    Calls Tryz.prog 189 #[v, .int .u64 u, .int .i64 10] w (TrPost A (l ++ Lib.decDigits u) w) := by
  obtain ⟨ao, cap, rfl⟩ := h.form
  have hnd := Lib.nDigits_le20 u hu64
  have hlen : (Lib.decDigits u).length = Lib.nDigits u := Lib.decDigits_length u
  have hal : Tryz.prog.arrayLen 307 = 24 := by kernel_rfl
  have hsl : ∀ W, (Instr.sliceAt 307 (.pointer (some ⟨w.heap.size, 0, none⟩)) none (some (.int .i64 (Lib.nDigits u : Int))) none).run Tryz.prog W = .ok (.slice (some ⟨w.heap.size, 0, none⟩) (Lib.nDigits u) 24) W := fun W => by
    rw [run_sliceAt_array_h W 307 ⟨w.heap.size, 0, none⟩ (by kernel_rfl) .i64 (Lib.nDigits u : Int) (by omega) (by rw [hal]; omega)]
    go_simp
  have hH0 := Lib.holds_zero0 w 307 (Lib.nDigits u) (by omega)
  have hfmt := Tryz.internal_strconv_formatBase10 w.heap.size 0 24 u (Array.replicate (Lib.nDigits u) 0) (w.alloc (.cells Lib.zeros24 307)) hH0 (by rw [Array.size_replicate]; exact Lib.lt_pow_nDigits u) hu64 (by rw [Array.size_replicate]; omega)
  rw [Array.size_replicate] at hfmt
  have HH0 := Lib.hid hH0
  have iu : (100 : Int) ≤ (u : Int) := by omega
  clear hH0 hal
  go_enter Tryz.func189, Tryz.ntmps189
  go_wp2_with (first
    | (go_at_call 209; refine (Tryz.internal_strconv_numDigits u (by omega) hu64 _ (Lib.tabIs_alloc htab _)).mono ?_; rintro e w' ⟨rfl, rfl⟩))
  refine hfmt.mono ?_
  rintro e w' ⟨rfl, k, v', dk, rfl, hF⟩
  have hcells : ∀ (j : Nat) (x : Value), (Esc.cellsOf (Lib.decDigits u))[j]? = some x → ((putRow (fun (b : UInt8) => Value.int .u8 (b.toNat : Int)) (w.alloc (.cells Lib.zeros24 307)) w.heap.size 0 dk).drewN k).cell? ((⟨w.heap.size, 0, none⟩ : Addr).add j) = some x := by
    intro j x hj
    have hjl : j < (Lib.decDigits u).length := by
      have h5 := (List.getElem?_eq_some_iff.1 hj).1
      simpa [Esc.cellsOf] using h5
    have hx : x = .int .u8 ((Lib.decDigits u)[j].toNat : Int) := by
      simp [Esc.cellsOf, hjl] at hj
      exact hj.symm
    rw [hx, Lib.row_is_numeral hF j hjl, Lib.add_plain, World.cell?_drewN]
    exact cell?_putRow (fun (b : UInt8) => Value.int .u8 (b.toNat : Int)) _ w.heap.size 0 _ dk HH0.out (by rw [hF.size, Array.size_replicate]) j (by rw [hF.size]; omega)
  obtain ⟨os, eo⟩ := Lib.fin_at w (.cells Lib.zeros24 307) dk k 0
  have hk2 : Keeps (fun _ => False) w ((putRow (fun (b : UInt8) => Value.int .u8 (b.toNat : Int)) (w.alloc (.cells Lib.zeros24 307)) w.heap.size 0 dk).drewN k) := by
    rw [eo]; exact Keeps.ofBelow (Lib.below_grow w.heap.size w (Nat.le_refl _) k os) (fun k hk hlt => by omega)
  generalize (putRow (fun (b : UInt8) => Value.int .u8 (b.toNat : Int)) (w.alloc (.cells Lib.zeros24 307)) w.heap.size 0 dk).drewN k = W2 at hcells hk2 ⊢
  clear eo HH0 hfmt
  obtain ⟨ao2, cap2, w3, hr, hT, hW⟩ := tr_append_at (h.same hk2) (hA.le hk2.size) (Lib.decDigits u) ⟨w.heap.size, 0, none⟩ (Lib.nDigits u) 24 hlen hcells (by omega)
  generalize hm : (l ++ Lib.decDigits u).length = m at hr hT
  have HM : Hid ((l ++ Lib.decDigits u).length = m) := hm
  clear hm hlen
  go_wp2_with (at_builtin; refine wpList_append_run rfl _ _ _ _ rfl rfl _ _ _ _ rfl rfl hr ?_)
  go_ret
  exact trPost_mk rfl HM.out.symm hT ((Wrt.ofKeeps hk2).trans hW)

/-- The table of strconv's, in blocks that stay. -/
def TabOk (A : Nat → Prop) (w : World) : Prop := ∀ w', Wrt A w w' → Lib.TabIs Tryz.prog w' "internal/strconv.uint64pow10" .u64 Lib.pow10Tab
theorem TabOk.on {A : Nat → Prop} {w w1 : World} (h : TabOk A w) (k : Wrt A w w1) : TabOk A w1 := fun w' h' => h w' (k.trans h')
theorem TabOk.here {A : Nat → Prop} {w : World} (h : TabOk A w) : Lib.TabIs Tryz.prog w "internal/strconv.uint64pow10" .u64 Lib.pow10Tab := h w (Wrt.refl _ _)
theorem TabOk.mono {A A' : Nat → Prop} {w : World} (h : TabOk A w) (hA : ∀ k, A k → A' k) : TabOk A' w := fun w' h' => h w' (h'.mono hA)

theorem wrap_u64 (x : Int) : IntKind.u64.wrap x = x % 18446744073709551616 := by simp [IntKind.wrap, IntKind.signed, IntKind.bits]
theorem apU_any {w : World} {A : Nat → Prop} {v : Value} {l : List UInt8} (u : Nat) (hu64 : u < 18446744073709551616) (hl : l.length ≤ 1900000) (hA : There A w) (h : Tr w A v l) (ht : TabOk A w) :
    Calls Tryz.prog 189 #[v, .int .u64 u, .int .i64 10] w (TrP A (l ++ Lib.decDigits u) w) := by
  by_cases hu : u < 100
  · exact (apU_small u hu hl hA h).mono fun _ _ h => h.form
  · exact (apU_big u (by omega) hu64 hl hA h ht.here).mono fun _ _ h => h.form

set_option maxHeartbeats 1000000 in
set_option maxRecDepth 100000 in
theorem apI_inner {w : World} {A : Nat → Prop} {v : Value} {l : List UInt8} (i : Int) (h0 : -9223372036854775808 ≤ i) (h1 : i ≤ 9223372036854775807) (hl : l.length ≤ 1800000) (hA : There A w) (h : Tr w A v l) (ht : TabOk A w) :
    Calls Tryz.prog 152 #[v, .int .i64 i, .int .i64 10] w (TrP A (l ++ Lib.itoa i) w) := by
  obtain ⟨ao, cap, rfl⟩ := h.form
  by_cases hneg : i < 0
  · obtain ⟨u, hu⟩ : ∃ u : Nat, -i = (u : Int) := ⟨(-i).toNat, by omega⟩
    have e1 : IntKind.u64.wrap i = i + 18446744073709551616 := by rw [wrap_u64]; omega
    have e2 : IntKind.u64.wrap (-(i + 18446744073709551616)) = (u : Int) := by rw [wrap_u64]; omega
    have HE : Hid (l ++ [45] ++ Lib.decDigits u = l ++ Lib.itoa i) := (by
      show _ = _
      have : i = -(u : Int) := by omega
      rw [this, Lib.itoa_neg u (by omega)]; simp)
    obtain ⟨ao2, cap2, w2, hr, hT, hW⟩ := tr_one h hA 45 45 rfl (by omega)
    have hcall := apU_any u (by omega) (by simp; omega) (hW.there hA) hT (ht.on hW)
    generalize hm : (l ++ [45]).length = m at hr hT hcall
    clear hm
    go_enter Tryz.func152, Tryz.ntmps152
    go_wp2_with (first
      | (at_builtin; refine wpList_append_run rfl _ _ _ _ rfl rfl _ _ _ _ rfl rfl hr ?_)
      | (go_at_call 189; refine hcall.mono ?_; rintro e w3 ⟨ao3, m3, cap3, H3, rfl, hT3, hW3⟩))
    go_ret
    exact trP_mk HE.out H3 hT3 (hW.trans hW3)
  · obtain ⟨u, hu⟩ : ∃ u : Nat, i = (u : Int) := ⟨i.toNat, by omega⟩
    subst hu
    have e1 : IntKind.u64.wrap (u : Int) = (u : Int) := by rw [wrap_u64]; omega
    have HE : Hid (l ++ Lib.decDigits u = l ++ Lib.itoa u) := (by show _ = _; unfold Lib.itoa; rw [if_neg hneg]; simp)
    have hcall := apU_any u (by omega) (by omega) hA h ht
    go_enter Tryz.func152, Tryz.ntmps152
    go_wp2_with (first
      | (go_at_call 189; refine hcall.mono ?_; rintro e w3 ⟨ao3, m3, cap3, H3, rfl, hT3, hW3⟩))
    go_ret
    exact trP_mk HE.out H3 hT3 hW3

theorem apI_any {w : World} {A : Nat → Prop} {v : Value} {l : List UInt8} (i : Int) (h0 : -9223372036854775808 ≤ i) (h1 : i ≤ 9223372036854775807) (hl : l.length ≤ 1800000) (hA : There A w) (h : Tr w A v l) (ht : TabOk A w) :
    Calls Tryz.prog 118 #[v, .int .i64 i, .int .i64 10] w (TrP A (l ++ Lib.itoa i) w) := by
  obtain ⟨ao, cap, rfl⟩ := h.form
  have hcall := apI_inner i h0 h1 hl hA h ht
  go_enter Tryz.func118, Tryz.ntmps118
  go_wp2_with (first
    | (go_at_call 152; refine hcall.mono ?_; rintro e w3 ⟨ao3, m3, cap3, H3, rfl, hT3, hW3⟩))
  go_ret
  exact trP_mk rfl H3 hT3 hW3

end Go.Proofs.YtmlgmhnplicflaaGreatDoor
