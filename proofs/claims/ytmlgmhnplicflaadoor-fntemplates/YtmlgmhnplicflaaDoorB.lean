import Derived.Test.YtmlgmhnplicflaaDoorRows
import Derived.Test.YtmlgmhnplicflaaDoorA
import Derived.WalkKit
import Derived.WalkSmall
import Derived.Deep.QuietTactic
import Derived.BigQuiet
import Derived.RegionTactic
import Derived.Deep.RegionLaw
import Derived.Deep.LoopGhost

/-
  Memory: what stays (for seats without a reader).
-/
namespace Go.Proofs.YtmlgmhnplicflaaDoor
open Go.RowKit

/-- Of the blocks that were there all but those in E are as they were. -/
structure Keeps (E : Nat → Prop) (w w' : World) : Prop where
  os : w'.os = w.os
  tape : w'.tape = w.tape
  output : w'.output = w.output
  size : w.heap.size ≤ w'.heap.size
  block : ∀ k, k < w.heap.size → ¬ E k → w'.heap[k]? = w.heap[k]?

namespace Keeps
variable {E E' : Nat → Prop} {w w1 w2 : World}
theorem refl (E : Nat → Prop) (w : World) : Keeps E w w := ⟨rfl, rfl, rfl, Nat.le_refl _, fun _ _ _ => rfl⟩
theorem trans (h : Keeps E w w1) (k : Keeps E w1 w2) : Keeps E w w2 :=
  ⟨k.os.trans h.os, k.tape.trans h.tape, k.output.trans h.output, Nat.le_trans h.size k.size, fun i hi he => (k.block i (Nat.lt_of_lt_of_le hi h.size) he).trans (h.block i hi he)⟩
theorem mono (h : Keeps E w w1) (hE : ∀ k, k < w.heap.size → E k → E' k) : Keeps E' w w1 :=
  ⟨h.os, h.tape, h.output, h.size, fun k hk he => h.block k hk fun h' => he (hE k hk h')⟩
/-- The second step may write what is new to the first. -/
theorem trans' (h : Keeps E w w1) (k : Keeps E' w1 w2) (hE : ∀ i, i < w.heap.size → E' i → E i) : Keeps E w w2 :=
  ⟨k.os.trans h.os, k.tape.trans h.tape, k.output.trans h.output, Nat.le_trans h.size k.size, fun i hi he => (k.block i (Nat.lt_of_lt_of_le hi h.size) fun h' => he (hE i hi h')).trans (h.block i hi he)⟩
theorem drewN (h : Keeps E w w1) (n : Nat) : Keeps E w (w1.drewN n) := h.trans ⟨rfl, rfl, rfl, Nat.le_refl _, fun _ _ _ => rfl⟩
theorem drew (h : Keeps E w w1) : Keeps E w w1.drew := h.trans ⟨rfl, rfl, rfl, Nat.le_refl _, fun _ _ _ => rfl⟩
theorem alloc (h : Keeps E w w1) (o : Obj) : Keeps E w (w1.alloc o) :=
  h.trans ⟨rfl, rfl, rfl, by simp, fun k hk _ => Below.heap_alloc w1 o k hk⟩
theorem setCell (h : Keeps E w w1) {a : Addr} (ha : a.block < w.heap.size → E a.block) (u : Value) : Keeps E w (w1.setCell a u) :=
  ⟨h.os, h.tape, h.output, Nat.le_trans h.size (by simp [World.setCell]), fun k hk he => by
    have hne : k ≠ a.block := by intro e; subst e; exact he (ha hk)
    rw [Below.heap_setCell _ _ _ _ hne]; exact h.block k hk he⟩
theorem grown (h : Keeps E w w1) {row : Option Nat} (hg : w1.grownBy w2 row) (hr : ∀ k, row = some k → k < w.heap.size → E k) : Keeps E w w2 :=
  ⟨hg.os.trans h.os, hg.tape.trans h.tape, hg.output.trans h.output, Nat.le_trans h.size hg.size, fun k hk he => by
    rw [hg.block k (Nat.lt_of_lt_of_le hk h.size) (fun e => he (hr k e.symm hk))]; exact h.block k hk he⟩
theorem below (h : Keeps E w w1) (B : Nat) (hB : ∀ k, k < B → ¬ E k) (hs : B ≤ w.heap.size) : Below B w w1 :=
  ⟨h.os, h.tape, h.output, h.size, fun k hk => h.block k (Nat.lt_of_lt_of_le hk hs) (hB k hk)⟩
theorem ofBelow {B : Nat} (h : Below B w w1) (hE : ∀ k, B ≤ k → k < w.heap.size → E k) : Keeps E w w1 :=
  ⟨h.os, h.tape, h.output, h.size, fun k hk he => h.block k (Nat.lt_of_not_le fun hb => he (hE k hb hk))⟩
end Keeps

theorem ownsRow_keeps {E : Nat → Prop} {w w' : World} {base : Nat} {e : TypeId} {size : Nat} {v : Value} {n : Nat} {xs : List Value} (h : w.ownsRow base e size v n xs) (hk : Keeps E w w')
    (hE : ∀ k, v.ownBlock = some k → ¬ E k) : w'.ownsRow base e size v n xs := by
  obtain ⟨h1, h2⟩ := h
  refine ⟨h1, ?_⟩
  rcases h2 with h2 | ⟨g, cap, cur, hv, hg, hh, r⟩
  · exact Or.inl h2
  · subst hv
    exact Or.inr ⟨g, cap, cur, rfl, hg, by rw [hk.block g (lt_of_block hh) (hE g rfl)]; exact hh, r⟩

theorem ownsRow_base {w : World} {base base' : Nat} {e : TypeId} {size : Nat} {v : Value} {n : Nat} {xs : List Value} (h : w.ownsRow base e size v n xs) (hb : ∀ k, v.ownBlock = some k → base' ≤ k) : w.ownsRow base' e size v n xs := by
  obtain ⟨h1, h2⟩ := h
  refine ⟨h1, ?_⟩
  rcases h2 with h2 | ⟨g, cap, cur, hv, hg, hh, r⟩
  · exact Or.inl h2
  · subst hv
    exact Or.inr ⟨g, cap, cur, rfl, hb g rfl, hh, r⟩

theorem ownsRow_heap {w w' : World} {base : Nat} {e : TypeId} {size : Nat} {v : Value} {n : Nat} {xs : List Value} (h : w.ownsRow base e size v n xs) (hh : w'.heap = w.heap) : w'.ownsRow base e size v n xs := by
  unfold World.ownsRow at h ⊢; rw [hh]; exact h

theorem own_form {w : World} {base : Nat} {e : TypeId} {size : Nat} {v : Value} {n : Nat} {xs : List Value} (h : w.ownsRow base e size v n xs) : ∃ ao cap, v = .slice ao n cap := by
  obtain ⟨_, ⟨rfl, rfl⟩ | ⟨g, cap, cur, rfl, _⟩⟩ := h
  · exact ⟨_, _, rfl⟩
  · exact ⟨_, _, rfl⟩

theorem own_some {w : World} {base : Nat} {e : TypeId} {size : Nat} {v : Value} {n : Nat} {xs : List Value} (h : w.ownsRow base e size v (n + 1) xs) : ∃ g cap, v = .slice (some ⟨g, 0, none⟩) (n + 1) cap ∧ base ≤ g ∧ g < w.heap.size := by
  obtain ⟨_, ⟨_, h0⟩ | ⟨g, cap, cur, rfl, hb, hh, _⟩⟩ := h
  · omega
  · exact ⟨g, cap, rfl, hb, lt_of_block hh⟩

/-- The cells of a new block. -/
theorem cells_new (w : World) (t : TypeId) (cs : List Value) (j : Nat) (u : Value) (hj : cs[j]? = some u) : (w.alloc (.cells cs.toArray t)).cell? (Addr.add ⟨w.heap.size, 0, none⟩ j) = some u := by
  have e : Addr.add ⟨w.heap.size, 0, none⟩ j = ⟨w.heap.size, j, none⟩ := by by_cases h : j = 0 <;> simp [Addr.add, h]
  rw [e, World.cell?_alloc_at _ _ _ _ rfl]
  simpa using hj

/-- What has become of a row's place: it is where it was, or it is new. -/
def Blk (w : World) (v v' : Value) : Prop := ∀ k, v'.ownBlock = some k → k < w.heap.size → v.ownBlock = some k

/-- An append of cells to a row that the call owns. -/
theorem app_any {P : Program} (w : World) (base : Nat) (t ty e : TypeId) (i : TypeInfo) (z : Value) (size bytes : Nat) (ht : P.underlying t = some (.slice e)) (hi : P.info? e = some i)
    (hz : i.zero = some z) (hsize : i.size = size) (hby : i.bytes = bytes) (hzs : z.cells.size = size) (hsz : 0 < size)
    (v : Value) (n : Nat) (xs : List Value) (hown : w.ownsRow base e size v n xs) (a : Addr) (m c : Nat) (news : List Value) (hl : news.length = m * size) (hnews : ∀ j u, news[j]? = some u → w.cell? (a.add j) = some u) (h1 : ∀ u ∈ news, u.oneCell' = true)
    (h63 : n + m ≤ maxLen) (hbytes : (n + m) * bytes ≤ 140737488355328) (hbase : base ≤ w.heap.size) :
    ∃ v' w', Sem.run P (Builtin.append_ #[t, t] ty #[v, .slice (some a) m c]) w = .ok v' w' ∧ w'.ownsRow base e size v' (n + m) (xs ++ news) ∧ w.grownBy w' v.ownBlock ∧ Blk w v v' := by
  have hown0 := hown
  obtain ⟨hlen, ⟨rfl, rfl⟩ | ⟨g, cap, cur, rfl, hg, hh, hcap, hmx, hcs, htk⟩⟩ := hown
  · obtain rfl : xs = [] := List.eq_nil_of_length_eq_zero (by simpa using hlen)
    obtain ⟨v', w', hr, ho, hgr, _⟩ := run_append_own (P := P) w w.heap.size t ty e i z size bytes ht hi hz hsize hby hzs hsz (.slice none 0 0) 0 [] (World.ownsRow_nil w _ e size) a m c news hl hnews h1 h63 hbytes (Nat.le_refl _)
    exact ⟨v', w', hr, ownsRow_base ho (fun k hk => Nat.le_trans hbase (ho.lt k hk).1), hgr, fun k hk hlt => absurd (ho.lt k hk).1 (by omega)⟩
  · by_cases hr : n + m ≤ cap
    · obtain ⟨w', hrun, ho, hgr⟩ := run_append_fits (P := P) w base t ty e i size ht hi hsize g n cap xs hown0 a m c news hl hnews h1 hr
      exact ⟨_, w', hrun, ho, hgr, fun k hk _ => hk⟩
    · obtain ⟨v', w', hrun, ho, hgr⟩ := run_append_arg_grows (P := P) w t ty e i z size bytes ht hi hz hsize hby hzs hsz ⟨g, 0, none⟩ n cap xs hlen (hown0.cells rfl) a m c news hl hnews (by omega) h63 hbytes
      exact ⟨v', w', hrun, ownsRow_base ho (fun k hk => Nat.le_trans hbase (ho.lt k hk).1), ⟨hgr.os, hgr.tape, hgr.output, hgr.size, fun k hk _ => hgr.block k hk (by simp)⟩, fun k hk hlt => absurd (ho.lt k hk).1 (by omega)⟩

/-- An append, as one step of a region that draws, by what its run is known to give. -/
theorem step_append_run {P : Program} {ops : Array Oper} {o : Oper} {a : Act} {w : World} {K : Act → World → Prop} {Q : Exit → Act → World → Prop} {E : Prop}
    (hg : o.guard = none) (s x : Operand) (t ty : TypeId) (hop : o.op = Op.call { callee := Callee.builtin Builtin.append, args := #[s, x], argTypes := #[t, t] }) (hty : o.type = ty)
    (v y v' : Value) (w' : World) (hs : a.eval s = v) (hx : a.eval x = y) (hrun : Sem.run P (Builtin.append_ #[t, t] ty #[v, y]) w = .ok v' w')
    (hK : K (a.put o.dst v') w') :
    if Region.wanted o (yielded ops a.tmps) = true then Oper.wp P o a w K Q else E := by
  have hw : Region.wanted o (yielded ops a.tmps) = true := by simp [Region.wanted, hg]
  rw [if_pos hw]
  unfold Oper.wp
  simp [execOp, hop, resolve, invoke, builtin, hs, hx, hty, hrun, Result.andThen]
  exact hK

/-- The same where the order is the text's. -/
theorem wpList_append_run {P : Program} {w : World} {ops : Array Oper} {rest : List Oper} {o : Oper} {a : Act} {Q : Exit → Act → World → Prop} (hgd : o.guard = none) (s x : Operand) (t ty : TypeId)
    (ho : o.op = .call { callee := .builtin .append, args := #[s, x], argTypes := #[t, t] }) (hty : o.type = ty) (v y v' : Value) (w' : World) (hs : a.eval s = v) (hx : a.eval x = y)
    (hr : Sem.run P (Builtin.append_ #[t, t] ty #[v, y]) w = .ok v' w') (h : wpList P ops Q rest (a.put o.dst v') w') : wpList P ops Q (o :: rest) a w :=
  wpList_plain hgd fun _ hK => by
    unfold Oper.wp execOp
    simp only [ho, hty, resolve, invoke, builtin, Sem.run_bind, Sem.run_pure, Result.andThen_ok, List.map_toArray, List.map_cons, List.map_nil, hs, hx, hr]
    exact hK _ _ h

/-- A block of cells. -/
theorem cell_of {w : World} {b i : Nat} {cs : Array Value} {t : TypeId} (h : w.heap[b]? = some (.cells cs t (0, 0))) : w.cell? ⟨b, i, none⟩ = cs[i]? := by simp [World.cell?, h]
theorem free_of {w : World} {b i : Nat} {cs : Array Value} {t : TypeId} (h : w.heap[b]? = some (.cells cs t (0, 0))) : w.frozen? ⟨b, i, none⟩ = false := by simp [World.frozen?, h]

/-- A block, its cells as a list. -/
def Bk (w : World) (g : Nat) (t : TypeId) (xs : List Value) : Prop := w.heap[g]? = some (.cells xs.toArray t (0, 0))
namespace Bk
variable {w w' : World} {g : Nat} {t : TypeId} {xs : List Value}
theorem lt (h : Bk w g t xs) : g < w.heap.size := lt_of_block h
theorem cell (h : Bk w g t xs) (i : Nat) : w.cell? ⟨g, i, none⟩ = xs[i]? := by rw [cell_of h]; simp
theorem fz (h : Bk w g t xs) (i : Nat) : w.frozen? ⟨g, i, none⟩ = false := free_of h
theorem keeps {E : Nat → Prop} (h : Bk w g t xs) (k : Keeps E w w') (hE : ¬ E g) : Bk w' g t xs := by
  unfold Bk at h ⊢; rw [k.block g (lt_of_block h) hE]; exact h
theorem set (h : Bk w g t xs) (i : Nat) (v : Value) : Bk (w.setCell ⟨g, i, none⟩ v) g t (xs.set i v) := by
  unfold Bk; rw [heap_setCell_same _ _ _ _ _ _ h]; simp
end Bk
theorem bk_new (w : World) (xs : List Value) (t : TypeId) : Bk (w.alloc (.cells xs.toArray t)) w.heap.size t xs := heap_alloc_new w _
theorem box1 (w : World) (X Y : Obj) : ((w.alloc X).alloc Y).heap[w.heap.size]? = some X := by rw [Below.heap_alloc _ _ _ (by simp)]; exact heap_alloc_new _ _
theorem box2 (w : World) (X Y : Obj) : ((w.alloc X).alloc Y).heap[w.heap.size + 1]? = some Y := by
  have := heap_alloc_new (w.alloc X) Y
  simpa using this
theorem ret_bool {a b : Bool} (h : a = b) : Ending.returned (.bool a) = Ending.returned (.bool b) := by rw [h]
theorem ret_int {k : IntKind} {a b : Int} (h : a = b) : Ending.returned (.int k a) = Ending.returned (.int k b) := by rw [h]
theorem hkd {E : Nat → Prop} {w w2 : World} (h : Keeps E w.drew w2) : Keeps E w w2 := ⟨h.os, h.tape, h.output, h.size, h.block⟩

end Go.Proofs.YtmlgmhnplicflaaDoor

/-
  Templates: what is read; bits in memory.
-/
namespace Go.Proofs.YtmlgmhnplicflaaDoor
open Go.RowKit
set_option linter.unusedVariables false

/-- A bit: its group, -1 for a text; the text. -/
abbrev Bt := Int × ByteArray
def jn (acc : List Bt) (t : ByteArray) : List Bt := match acc.getLast? with
  | none => acc ++ [(-1, t)]
  | some x => if x.1 = -1 then acc.dropLast ++ [(-1, x.2 ++ t)] else acc ++ [(-1, t)]
def byteAt (s : ByteArray) (p : Nat) : ByteArray := s.extract p (p + 1)
def tplF (s : ByteArray) : Nat → Nat → List Bt → Except Nat (List Bt)
  | 0, _, acc => .ok acc
  | f + 1, p, acc =>
    if ¬ p < s.size then .ok acc
    else if bt s p = 36 then
      if bt s (p + 1) = 36 then tplF s f (p + 2) (jn acc ⟨#[36]⟩)
      else if digit (bt s (p + 1)) then tplF s f (p + 2) (acc ++ [(((bt s (p + 1) : Nat) : Int) - 48, ⟨#[]⟩)])
      else .error (p + 1)
    else tplF s f (p + 1) (jn acc (byteAt s p))
def tplRef (s : ByteArray) : Except Nat (List Bt) := if 100 < s.size then .error 100 else tplF s (s.size + 1) 0 []

theorem jn_nil (t : ByteArray) : jn [] t = [(-1, t)] := rfl
theorem jn_text (A : List Bt) (x t : ByteArray) : jn (A ++ [(-1, x)]) t = A ++ [(-1, x ++ t)] := by simp [jn]
theorem jn_group (A : List Bt) (x : Bt) (t : ByteArray) (h : x.1 ≠ -1) : jn (A ++ [x]) t = A ++ [x] ++ [(-1, t)] := by simp [jn, h]
/-- Few and short. -/
def Few (m : Nat) (acc : List Bt) : Prop := acc.length ≤ m ∧ ∀ x ∈ acc, x.2.size ≤ m
theorem Few.mono {m n : Nat} {acc : List Bt} (h : Few m acc) (hn : m ≤ n) : Few n acc := ⟨Nat.le_trans h.1 hn, fun x hx => Nat.le_trans (h.2 x hx) hn⟩
theorem Few.snoc {m : Nat} {acc : List Bt} (h : Few m acc) {x : Bt} (hx : x.2.size ≤ m + 1) : Few (m + 1) (acc ++ [x]) := by
  refine ⟨by rw [List.length_append]; have := h.1; simp; omega, fun y hy => ?_⟩
  rcases List.mem_append.1 hy with hy | hy
  · exact Nat.le_trans (h.2 y hy) (by omega)
  · simp at hy; subst hy; exact hx
theorem few_jn {m : Nat} {acc : List Bt} (h : Few m acc) {t : ByteArray} (ht : t.size ≤ 1) : Few (m + 1) (jn acc t) := by
  rcases List.eq_nil_or_concat acc with rfl | ⟨A, x, rfl⟩
  · exact h.snoc (x := (-1, t)) (by simp; omega)
  · obtain ⟨g, y⟩ := x
    by_cases hg : g = -1
    · subst hg
      rw [List.concat_eq_append, jn_text]
      rw [List.concat_eq_append] at h
      refine ⟨by have := h.1; simp at this ⊢; omega, fun z hz => ?_⟩
      rcases List.mem_append.1 hz with hz | hz
      · exact Nat.le_trans (h.2 z (by simp [hz])) (by omega)
      · simp at hz; subst hz
        have := h.2 (-1, y) (by simp)
        rw [ByteArray.size_append]
        simp only at this
        omega
    · rw [List.concat_eq_append, jn_group _ _ _ (by exact hg)]
      rw [List.concat_eq_append] at h
      exact h.snoc (x := (-1, t)) (by simp; omega)
theorem tplF_few (s : ByteArray) (f : Nat) : ∀ p acc L, Few p acc → p ≤ s.size → tplF s f p acc = .ok L → Few s.size L := by
  induction f with
  | zero => intro p acc L h hp he; simp [tplF] at he; subst he; exact h.mono hp
  | succ f ih =>
    intro p acc L h hp he
    rw [tplF] at he
    split at he
    · simp at he; subst he; exact h.mono hp
    · rename_i hlt
      have hlt' : p < s.size := by omega
      split at he
      · split at he
        · rename_i h2
          have : p + 1 < s.size := Decidable.byContradiction fun hn => by rw [bt_out hn] at h2; simp at h2
          exact ih (p + 2) _ L ((few_jn h (by decide)).mono (by omega)) (by omega) he
        · split at he
          · rename_i h2
            have : p + 1 < s.size := Decidable.byContradiction fun hn => by rw [bt_out hn] at h2; simp [digit] at h2
            exact ih (p + 2) _ L ((h.snoc (x := (((bt s (p + 1) : Nat) : Int) - 48, ⟨#[]⟩)) (Nat.zero_le (p + 1))).mono (by omega)) (by omega) he
          · simp at he
      · exact ih (p + 1) _ L (few_jn h (by unfold byteAt; rw [ByteArray.size_extract]; omega)) (by omega) he
theorem tplRef_few {s : ByteArray} {L : List Bt} (h : tplRef s = .ok L) : Few 100 L := by
  unfold tplRef at h
  split at h
  · simp at h
  · exact (tplF_few s _ 0 [] L ⟨by simp, by simp⟩ (Nat.zero_le _) h).mono (by omega)

/-- Bits in memory. -/
def cell2 (x : Bt) : List Value := [.int .i64 x.1, .string x.2]
theorem cell2_len (L : List Bt) : (L.flatMap cell2).length = L.length * 2 := by
  induction L with
  | nil => rfl
  | cons r l ih => simp [cell2] at ih ⊢; omega
theorem cell2_get (L : List Bt) (j : Nat) (x : Bt) (h : L[j]? = some x) : (L.flatMap cell2)[j * 2]? = some (.int .i64 x.1) ∧ (L.flatMap cell2)[j * 2 + 1]? = some (.string x.2) := by
  induction L generalizing j with
  | nil => simp at h
  | cons r l ih =>
    cases j with
    | zero => simp at h; subst h; simp [cell2]
    | succ j =>
      have := ih j (by simpa using h)
      have e : (r :: l).flatMap cell2 = .int .i64 r.1 :: .string r.2 :: l.flatMap cell2 := by simp [cell2]
      rw [e, show (j + 1) * 2 = j * 2 + 1 + 1 by omega]
      simpa using this
theorem cell2_set (A : List Bt) (g : Int) (x y : ByteArray) : ((A ++ [(g, x)]).flatMap cell2).set (A.length * 2 + 1) (.string y) = (A ++ [(g, y)]).flatMap cell2 := by
  rw [List.flatMap_append, List.flatMap_append, List.set_append_right _ _ (by rw [cell2_len]; omega), cell2_len]
  have e : A.length * 2 + 1 - A.length * 2 = 1 := by omega
  rw [e]
  simp [cell2]
def BR (w : World) (base : Nat) (v : Value) (L : List Bt) : Prop := w.ownsRow base 34 2 v L.length (L.flatMap cell2)
theorem Tryd.infoBit : (Tryd.prog.info? 34).map (fun i => (i.zero, i.size, i.bytes)) = some (some (.agg #[.int .i64 0, .string ⟨#[]⟩]), 2, 24) := by kernel_rfl
theorem app_bit {w : World} {base : Nat} {v : Value} {L : List Bt} (h : BR w base v L) (hb : base ≤ w.heap.size) (hl : L.length ≤ 100000) (x : Bt) :
    ∃ v' w', Sem.run Tryd.prog (Builtin.append_ #[29, 29] 29 #[v, .slice (some ⟨w.heap.size, 0, none⟩) 1 1]) (w.alloc (.cells #[.int .i64 x.1, .string x.2] 34)) = .ok v' w' ∧ BR w' base v' (L ++ [x]) ∧ Keeps (fun k => v.ownBlock = some k) w w' := by
  obtain ⟨i0, hi, hz0, hz1, hz2⟩ := info_parts Tryd.infoBit
  obtain ⟨v', w3, hrun, ho, hgr, hbk⟩ := app_any (P := Tryd.prog) (w.alloc (.cells #[.int .i64 x.1, .string x.2] 34)) base 29 29 34 i0 _ 2 24 Tryd.underlying29 hi hz0 hz1 hz2 rfl (by decide) v L.length _ (h.alloc _)
    ⟨w.heap.size, 0, none⟩ 1 1 (cell2 x) rfl (cells_new w _ _) (by intro u hu; simp [cell2] at hu; rcases hu with rfl | rfl <;> rfl) (by unfold maxLen; omega) (by omega) (by simp; omega)
  refine ⟨v', w3, hrun, ?_, ((Keeps.refl _ w).alloc _).grown hgr (fun k hk _ => hk)⟩
  unfold BR
  rw [List.flatMap_append, List.length_append]
  simpa using ho

end Go.Proofs.YtmlgmhnplicflaaDoor

/-
  Templates: the cursor.
-/
namespace Go.Proofs.YtmlgmhnplicflaaDoor
open Go.RowKit
set_option linter.unusedVariables false

/-- A cursor: text and place. -/
def Cu (w : World) (R : Nat) (s : ByteArray) (a : Int) : Prop := w.heap[R]? = some (.cells #[.string s, .int .i64 a] 43 (0, 0))
namespace Cu
variable {w : World} {R : Nat} {s : ByteArray} {a : Int}
theorem lt (h : Cu w R s a) : R < w.heap.size := lt_of_block h
theorem c0 (h : Cu w R s a) : w.cell? ⟨R, 0, none⟩ = some (.string s) := by rw [cell_of h]; rfl
theorem c1 (h : Cu w R s a) : w.cell? ⟨R, 1, none⟩ = some (.int .i64 a) := by rw [cell_of h]; rfl
theorem fz (h : Cu w R s a) (i : Nat) : w.frozen? ⟨R, i, none⟩ = false := free_of h
theorem drewN (h : Cu w R s a) (n : Nat) : Cu (w.drewN n) R s a := h
theorem drew (h : Cu w R s a) : Cu w.drew R s a := h
theorem keeps {E : Nat → Prop} {w' : World} (h : Cu w R s a) (k : Keeps E w w') (hE : ¬ E R) : Cu w' R s a := by
  unfold Cu at h ⊢; rw [k.block R (lt_of_block h) hE]; exact h
theorem set1 (h : Cu w R s a) (x : Int) : Cu (w.setCell ⟨R, 1, none⟩ (.int .i64 x)) R s x := by unfold Cu; rw [heap_setCell_same _ _ _ _ _ _ h]; rfl
end Cu

theorem ended_any {w : World} {R : Nat} {s : ByteArray} {p : Nat} (h : Cu w R s p) :
    Calls Tryd.prog 28 #[.pointer (some ⟨R, 0, none⟩)] w fun e w' => e = .returned (.bool (decide (p = s.size))) ∧ ∃ n, w' = w.drewN n := by
  have c0 := h.c0
  have c1 := h.c1
  clear h
  go_enter Tryd.func28, Tryd.ntmps28
  go_wp2
  go_quiet (fail)
  go_wp2
  go_ret
  exact ⟨ret_bool (by rw [Bool.eq_iff_iff]; simp; omega), _, rfl⟩
theorem ended_yes {w : World} {R : Nat} {s : ByteArray} {p : Nat} (h : Cu w R s p) (hp : p = s.size) :
    Calls Tryd.prog 28 #[.pointer (some ⟨R, 0, none⟩)] w fun e w' => e = .returned (.bool true) ∧ ∃ n, w' = w.drewN n := by
  refine (ended_any h).mono ?_
  rintro e w' ⟨rfl, hn⟩
  exact ⟨ret_bool (by simp [hp]), hn⟩
theorem ended_no {w : World} {R : Nat} {s : ByteArray} {p : Nat} (h : Cu w R s p) (hp : p < s.size) :
    Calls Tryd.prog 28 #[.pointer (some ⟨R, 0, none⟩)] w fun e w' => e = .returned (.bool false) ∧ ∃ n, w' = w.drewN n := by
  refine (ended_any h).mono ?_
  rintro e w' ⟨rfl, hn⟩
  exact ⟨ret_bool (by simp; omega), hn⟩
theorem sees_any {w : World} {R : Nat} {s : ByteArray} {p b : Nat} (h : Cu w R s p) (hs : s.size ≤ 120) (hp : p ≤ s.size) (hb : b < 256) :
    Calls Tryd.prog 36 #[.pointer (some ⟨R, 0, none⟩), .int .u8 b] w fun e w' => e = .returned (.bool (decide (bt s p = b))) ∧ ∃ n, w' = w.drewN n := by
  by_cases hlt : p < s.size
  · have c0 := h.c0
    have c1 := h.c1
    have hpz : (p : Int) < (s.size : Int) := by omega
    have HR : Hid (Cu w R s p) := h
    have HB : Hid (bt s p = s[p].toNat) := bt_in hlt
    clear h
    go_enter Tryd.func36, Tryd.ntmps36
    go_wp2
    go_quiet ((go_at_call 28; exact Calls.quiet_of (ended_no (HR.out.drewN _) hlt)))
    go_wp2
    go_ret
    exact ⟨ret_bool (by rw [HB.out, Bool.eq_iff_iff]; simp; omega), _, rfl⟩
  · have hpe : p = s.size := by omega
    have HR : Hid (Cu w R s p) := h
    have HB : Hid (bt s p = 256) := bt_out hlt
    have c0 := h.c0
    have c1 := h.c1
    clear h
    go_enter Tryd.func36, Tryd.ntmps36
    go_wp2
    go_quiet ((go_at_call 28; exact Calls.quiet_of (ended_yes (HR.out.drewN _) hpe)))
    go_wp2
    go_ret
    exact ⟨ret_bool (by rw [HB.out, Bool.eq_iff_iff]; simp; omega), _, rfl⟩
theorem take_yes {w : World} {R : Nat} {s : ByteArray} {p b : Nat} (h : Cu w R s p) (hs : s.size ≤ 120) (hp : p ≤ s.size) (hlt : b < 256) (hb : bt s p = b) :
    Calls Tryd.prog 26 #[.pointer (some ⟨R, 0, none⟩), .int .u8 b] w fun e w' => e = .returned (.bool true) ∧ Cu w' R s ((p + 1 : Nat) : Int) ∧ Keeps (fun k => k = R) w w' := by
  have HR : Hid (Cu w R s p) := h
  have HB : Hid (bt s p = b) := hb
  clear h hb
  go_enter Tryd.func26, Tryd.ntmps26
  go_wp2_with (first
    | (go_at_call 36; refine (sees_any HR.out hs hp hlt).mono ?_; rintro e w2 ⟨rfl, n, rfl⟩; rw [show decide (bt s p = b) = true from by simp [HB.out]]; have c1 := (HR.out.drewN n).c1; have f1 := (HR.out.drewN n).fz 1))
  go_ret
  exact ⟨rfl, (HR.out.drewN _).set1 _, ((Keeps.refl (fun k => k = R) _).drewN _).setCell (fun _ => rfl) _⟩
theorem take_no {w : World} {R : Nat} {s : ByteArray} {p b : Nat} (h : Cu w R s p) (hs : s.size ≤ 120) (hp : p ≤ s.size) (hlt : b < 256) (hb : bt s p ≠ b) :
    Calls Tryd.prog 26 #[.pointer (some ⟨R, 0, none⟩), .int .u8 b] w fun e w' => e = .returned (.bool false) ∧ ∃ n, w' = w.drewN n := by
  have HR : Hid (Cu w R s p) := h
  have HB : Hid (bt s p ≠ b) := hb
  clear h hb
  go_enter Tryd.func26, Tryd.ntmps26
  go_wp2_with (first
    | (go_at_call 36; refine (sees_any HR.out hs hp hlt).mono ?_; rintro e w2 ⟨rfl, n, rfl⟩; rw [show decide (bt s p = b) = false from by simp [HB.out]]))
  go_ret
  exact ⟨rfl, _, rfl⟩
theorem next_yes {w : World} {R : Nat} {s : ByteArray} {p : Nat} (h : Cu w R s p) (hs : s.size ≤ 120) (hp : p < s.size) :
    Calls Tryd.prog 38 #[.pointer (some ⟨R, 0, none⟩)] w fun e w' => e = .returned (.int .u8 (bt s p)) ∧ Cu w' R s ((p + 1 : Nat) : Int) ∧ Keeps (fun k => k = R) w w' := by
  have HR : Hid (Cu w R s p) := h
  have HB : Hid (bt s p = s[p].toNat) := bt_in hp
  have hpz : (p : Int) < (s.size : Int) := by omega
  clear h
  go_enter Tryd.func38, Tryd.ntmps38
  go_wp2_with (first
    | (go_at_call 28; refine (ended_no HR.out hp).mono ?_; rintro e w2 ⟨rfl, n, hn⟩; have hR2 : Cu w2 R s p := (by rw [hn]; exact HR.out.drewN n); have hk2 : Keeps (fun k => k = R) w w2 := (by rw [hn]; exact (Keeps.refl _ _).drewN _); clear hn; have c0 := hR2.c0; have c1 := hR2.c1; have f1 := hR2.fz 1))
  go_quiet (fail)
  go_wp2
  go_ret
  exact ⟨ret_int (by rw [HB.out]), (hR2.drewN _).set1 _, (hk2.drewN _).setCell (fun _ => rfl) _⟩
theorem digit_any {w : World} {b : Nat} :
    Calls Tryd.prog 39 #[.int .u8 b] w fun e w' => e = .returned (.bool (digit b)) ∧ ∃ n, w' = w.drewN n := by
  go_enter Tryd.func39, Tryd.ntmps39
  go_wp2
  all_goals go_ret
  all_goals exact ⟨ret_bool (by rw [Bool.eq_iff_iff]; simp [digit]; omega), 0, rfl⟩

end Go.Proofs.YtmlgmhnplicflaaDoor
