import Derived.Test.YtmlgmhnplicflaaDoorRows
import Derived.Test.YtmlgmhnplicflaaDoorA
import Derived.WalkKit
import Derived.WalkSmall
import Derived.Deep.QuietTactic
import Derived.BigQuiet
import Derived.RegionTactic
import Derived.Deep.RegionLaw
import Derived.Deep.LoopGhost

/-
  Memory: what stays (for seats without a reader).
-/
namespace Go.Proofs.YtmlgmhnplicflaaDoor
open Go.RowKit

/-- Of the blocks that were there all but those in E are as they were. -/
structure Keeps (E : Nat → Prop) (w w' : World) : Prop where
  os : w'.os = w.os
  tape : w'.tape = w.tape
  output : w'.output = w.output
  size : w.heap.size ≤ w'.heap.size
  block : ∀ k, k < w.heap.size → ¬ E k → w'.heap[k]? = w.heap[k]?

namespace Keeps
variable {E E' : Nat → Prop} {w w1 w2 : World}
theorem refl (E : Nat → Prop) (w : World) : Keeps E w w := ⟨rfl, rfl, rfl, Nat.le_refl _, fun _ _ _ => rfl⟩
theorem trans (h : Keeps E w w1) (k : Keeps E w1 w2) : Keeps E w w2 :=
  ⟨k.os.trans h.os, k.tape.trans h.tape, k.output.trans h.output, Nat.le_trans h.size k.size, fun i hi he => (k.block i (Nat.lt_of_lt_of_le hi h.size) he).trans (h.block i hi he)⟩
theorem mono (h : Keeps E w w1) (hE : ∀ k, k < w.heap.size → E k → E' k) : Keeps E' w w1 :=
  ⟨h.os, h.tape, h.output, h.size, fun k hk he => h.block k hk fun h' => he (hE k hk h')⟩
/-- The second step may write what is new to the first. -/
theorem trans' (h : Keeps E w w1) (k : Keeps E' w1 w2) (hE : ∀ i, i < w.heap.size → E' i → E i) : Keeps E w w2 :=
  ⟨k.os.trans h.os, k.tape.trans h.tape, k.output.trans h.output, Nat.le_trans h.size k.size, fun i hi he => (k.block i (Nat.lt_of_lt_of_le hi h.size) fun h' => he (hE i hi h')).trans (h.block i hi he)⟩
theorem drewN (h : Keeps E w w1) (n : Nat) : Keeps E w (w1.drewN n) := h.trans ⟨rfl, rfl, rfl, Nat.le_refl _, fun _ _ _ => rfl⟩
theorem drew (h : Keeps E w w1) : Keeps E w w1.drew := h.trans ⟨rfl, rfl, rfl, Nat.le_refl _, fun _ _ _ => rfl⟩
theorem alloc (h : Keeps E w w1) (o : Obj) : Keeps E w (w1.alloc o) :=
  h.trans ⟨rfl, rfl, rfl, by simp, fun k hk _ => Below.heap_alloc w1 o k hk⟩
theorem setCell (h : Keeps E w w1) {a : Addr} (ha : a.block < w.heap.size → E a.block) (u : Value) : Keeps E w (w1.setCell a u) :=
  ⟨h.os, h.tape, h.output, Nat.le_trans h.size (by simp [World.setCell]), fun k hk he => by
    have hne : k ≠ a.block := by intro e; subst e; exact he (ha hk)
    rw [Below.heap_setCell _ _ _ _ hne]; exact h.block k hk he⟩
theorem grown (h : Keeps E w w1) {row : Option Nat} (hg : w1.grownBy w2 row) (hr : ∀ k, row = some k → k < w.heap.size → E k) : Keeps E w w2 :=
  ⟨hg.os.trans h.os, hg.tape.trans h.tape, hg.output.trans h.output, Nat.le_trans h.size hg.size, fun k hk he => by
    rw [hg.block k (Nat.lt_of_lt_of_le hk h.size) (fun e => he (hr k e.symm hk))]; exact h.block k hk he⟩
theorem below (h : Keeps E w w1) (B : Nat) (hB : ∀ k, k < B → ¬ E k) (hs : B ≤ w.heap.size) : Below B w w1 :=
  ⟨h.os, h.tape, h.output, h.size, fun k hk => h.block k (Nat.lt_of_lt_of_le hk hs) (hB k hk)⟩
theorem ofBelow {B : Nat} (h : Below B w w1) (hE : ∀ k, B ≤ k → k < w.heap.size → E k) : Keeps E w w1 :=
  ⟨h.os, h.tape, h.output, h.size, fun k hk he => h.block k (Nat.lt_of_not_le fun hb => he (hE k hb hk))⟩
end Keeps

theorem ownsRow_keeps {E : Nat → Prop} {w w' : World} {base : Nat} {e : TypeId} {size : Nat} {v : Value} {n : Nat} {xs : List Value} (h : w.ownsRow base e size v n xs) (hk : Keeps E w w')
    (hE : ∀ k, v.ownBlock = some k → ¬ E k) : w'.ownsRow base e size v n xs := by
  obtain ⟨h1, h2⟩ := h
  refine ⟨h1, ?_⟩
  rcases h2 with h2 | ⟨g, cap, cur, hv, hg, hh, r⟩
  · exact Or.inl h2
  · subst hv
    exact Or.inr ⟨g, cap, cur, rfl, hg, by rw [hk.block g (lt_of_block hh) (hE g rfl)]; exact hh, r⟩

theorem ownsRow_base {w : World} {base base' : Nat} {e : TypeId} {size : Nat} {v : Value} {n : Nat} {xs : List Value} (h : w.ownsRow base e size v n xs) (hb : ∀ k, v.ownBlock = some k → base' ≤ k) : w.ownsRow base' e size v n xs := by
  obtain ⟨h1, h2⟩ := h
  refine ⟨h1, ?_⟩
  rcases h2 with h2 | ⟨g, cap, cur, hv, hg, hh, r⟩
  · exact Or.inl h2
  · subst hv
    exact Or.inr ⟨g, cap, cur, rfl, hb g rfl, hh, r⟩

theorem ownsRow_heap {w w' : World} {base : Nat} {e : TypeId} {size : Nat} {v : Value} {n : Nat} {xs : List Value} (h : w.ownsRow base e size v n xs) (hh : w'.heap = w.heap) : w'.ownsRow base e size v n xs := by
  unfold World.ownsRow at h ⊢; rw [hh]; exact h

theorem own_form {w : World} {base : Nat} {e : TypeId} {size : Nat} {v : Value} {n : Nat} {xs : List Value} (h : w.ownsRow base e size v n xs) : ∃ ao cap, v = .slice ao n cap := by
  obtain ⟨_, ⟨rfl, rfl⟩ | ⟨g, cap, cur, rfl, _⟩⟩ := h
  · exact ⟨_, _, rfl⟩
  · exact ⟨_, _, rfl⟩

theorem own_some {w : World} {base : Nat} {e : TypeId} {size : Nat} {v : Value} {n : Nat} {xs : List Value} (h : w.ownsRow base e size v (n + 1) xs) : ∃ g cap, v = .slice (some ⟨g, 0, none⟩) (n + 1) cap ∧ base ≤ g ∧ g < w.heap.size := by
  obtain ⟨_, ⟨_, h0⟩ | ⟨g, cap, cur, rfl, hb, hh, _⟩⟩ := h
  · omega
  · exact ⟨g, cap, rfl, hb, lt_of_block hh⟩

/-- The cells of a new block. -/
theorem cells_new (w : World) (t : TypeId) (cs : List Value) (j : Nat) (u : Value) (hj : cs[j]? = some u) : (w.alloc (.cells cs.toArray t)).cell? (Addr.add ⟨w.heap.size, 0, none⟩ j) = some u := by
  have e : Addr.add ⟨w.heap.size, 0, none⟩ j = ⟨w.heap.size, j, none⟩ := by by_cases h : j = 0 <;> simp [Addr.add, h]
  rw [e, World.cell?_alloc_at _ _ _ _ rfl]
  simpa using hj

/-- What has become of a row's place: it is where it was, or it is new. -/
def Blk (w : World) (v v' : Value) : Prop := ∀ k, v'.ownBlock = some k → k < w.heap.size → v.ownBlock = some k

/-- An append of cells to a row that the call owns. -/
theorem app_any {P : Program} (w : World) (base : Nat) (t ty e : TypeId) (i : TypeInfo) (z : Value) (size bytes : Nat) (ht : P.underlying t = some (.slice e)) (hi : P.info? e = some i)
    (hz : i.zero = some z) (hsize : i.size = size) (hby : i.bytes = bytes) (hzs : z.cells.size = size) (hsz : 0 < size)
    (v : Value) (n : Nat) (xs : List Value) (hown : w.ownsRow base e size v n xs) (a : Addr) (m c : Nat) (news : List Value) (hl : news.length = m * size) (hnews : ∀ j u, news[j]? = some u → w.cell? (a.add j) = some u) (h1 : ∀ u ∈ news, u.oneCell' = true)
    (h63 : n + m ≤ maxLen) (hbytes : (n + m) * bytes ≤ 140737488355328) (hbase : base ≤ w.heap.size) :
    ∃ v' w', Sem.run P (Builtin.append_ #[t, t] ty #[v, .slice (some a) m c]) w = .ok v' w' ∧ w'.ownsRow base e size v' (n + m) (xs ++ news) ∧ w.grownBy w' v.ownBlock ∧ Blk w v v' := by
  have hown0 := hown
  obtain ⟨hlen, ⟨rfl, rfl⟩ | ⟨g, cap, cur, rfl, hg, hh, hcap, hmx, hcs, htk⟩⟩ := hown
  · obtain rfl : xs = [] := List.eq_nil_of_length_eq_zero (by simpa using hlen)
    obtain ⟨v', w', hr, ho, hgr, _⟩ := run_append_own (P := P) w w.heap.size t ty e i z size bytes ht hi hz hsize hby hzs hsz (.slice none 0 0) 0 [] (World.ownsRow_nil w _ e size) a m c news hl hnews h1 h63 hbytes (Nat.le_refl _)
    exact ⟨v', w', hr, ownsRow_base ho (fun k hk => Nat.le_trans hbase (ho.lt k hk).1), hgr, fun k hk hlt => absurd (ho.lt k hk).1 (by omega)⟩
  · by_cases hr : n + m ≤ cap
    · obtain ⟨w', hrun, ho, hgr⟩ := run_append_fits (P := P) w base t ty e i size ht hi hsize g n cap xs hown0 a m c news hl hnews h1 hr
      exact ⟨_, w', hrun, ho, hgr, fun k hk _ => hk⟩
    · obtain ⟨v', w', hrun, ho, hgr⟩ := run_append_arg_grows (P := P) w t ty e i z size bytes ht hi hz hsize hby hzs hsz ⟨g, 0, none⟩ n cap xs hlen (hown0.cells rfl) a m c news hl hnews (by omega) h63 hbytes
      exact ⟨v', w', hrun, ownsRow_base ho (fun k hk => Nat.le_trans hbase (ho.lt k hk).1), ⟨hgr.os, hgr.tape, hgr.output, hgr.size, fun k hk _ => hgr.block k hk (by simp)⟩, fun k hk hlt => absurd (ho.lt k hk).1 (by omega)⟩

/-- An append, as one step of a region that draws, by what its run is known to give. -/
theorem step_append_run {P : Program} {ops : Array Oper} {o : Oper} {a : Act} {w : World} {K : Act → World → Prop} {Q : Exit → Act → World → Prop} {E : Prop}
    (hg : o.guard = none) (s x : Operand) (t ty : TypeId) (hop : o.op = Op.call { callee := Callee.builtin Builtin.append, args := #[s, x], argTypes := #[t, t] }) (hty : o.type = ty)
    (v y v' : Value) (w' : World) (hs : a.eval s = v) (hx : a.eval x = y) (hrun : Sem.run P (Builtin.append_ #[t, t] ty #[v, y]) w = .ok v' w')
    (hK : K (a.put o.dst v') w') :
    if Region.wanted o (yielded ops a.tmps) = true then Oper.wp P o a w K Q else E := by
  have hw : Region.wanted o (yielded ops a.tmps) = true := by simp [Region.wanted, hg]
  rw [if_pos hw]
  unfold Oper.wp
  simp [execOp, hop, resolve, invoke, builtin, hs, hx, hty, hrun, Result.andThen]
  exact hK

/-- The same where the order is the text's. -/
theorem wpList_append_run {P : Program} {w : World} {ops : Array Oper} {rest : List Oper} {o : Oper} {a : Act} {Q : Exit → Act → World → Prop} (hgd : o.guard = none) (s x : Operand) (t ty : TypeId)
    (ho : o.op = .call { callee := .builtin .append, args := #[s, x], argTypes := #[t, t] }) (hty : o.type = ty) (v y v' : Value) (w' : World) (hs : a.eval s = v) (hx : a.eval x = y)
    (hr : Sem.run P (Builtin.append_ #[t, t] ty #[v, y]) w = .ok v' w') (h : wpList P ops Q rest (a.put o.dst v') w') : wpList P ops Q (o :: rest) a w :=
  wpList_plain hgd fun _ hK => by
    unfold Oper.wp execOp
    simp only [ho, hty, resolve, invoke, builtin, Sem.run_bind, Sem.run_pure, Result.andThen_ok, List.map_toArray, List.map_cons, List.map_nil, hs, hx, hr]
    exact hK _ _ h

/-- A block of cells. -/
theorem cell_of {w : World} {b i : Nat} {cs : Array Value} {t : TypeId} (h : w.heap[b]? = some (.cells cs t (0, 0))) : w.cell? ⟨b, i, none⟩ = cs[i]? := by simp [World.cell?, h]
theorem free_of {w : World} {b i : Nat} {cs : Array Value} {t : TypeId} (h : w.heap[b]? = some (.cells cs t (0, 0))) : w.frozen? ⟨b, i, none⟩ = false := by simp [World.frozen?, h]

/-- A block, its cells as a list. -/
def Bk (w : World) (g : Nat) (t : TypeId) (xs : List Value) : Prop := w.heap[g]? = some (.cells xs.toArray t (0, 0))
namespace Bk
variable {w w' : World} {g : Nat} {t : TypeId} {xs : List Value}
theorem lt (h : Bk w g t xs) : g < w.heap.size := lt_of_block h
theorem cell (h : Bk w g t xs) (i : Nat) : w.cell? ⟨g, i, none⟩ = xs[i]? := by rw [cell_of h]; simp
theorem fz (h : Bk w g t xs) (i : Nat) : w.frozen? ⟨g, i, none⟩ = false := free_of h
theorem keeps {E : Nat → Prop} (h : Bk w g t xs) (k : Keeps E w w') (hE : ¬ E g) : Bk w' g t xs := by
  unfold Bk at h ⊢; rw [k.block g (lt_of_block h) hE]; exact h
theorem set (h : Bk w g t xs) (i : Nat) (v : Value) : Bk (w.setCell ⟨g, i, none⟩ v) g t (xs.set i v) := by
  unfold Bk; rw [heap_setCell_same _ _ _ _ _ _ h]; simp
end Bk
theorem bk_new (w : World) (xs : List Value) (t : TypeId) : Bk (w.alloc (.cells xs.toArray t)) w.heap.size t xs := heap_alloc_new w _
theorem box1 (w : World) (X Y : Obj) : ((w.alloc X).alloc Y).heap[w.heap.size]? = some X := by rw [Below.heap_alloc _ _ _ (by simp)]; exact heap_alloc_new _ _
theorem box2 (w : World) (X Y : Obj) : ((w.alloc X).alloc Y).heap[w.heap.size + 1]? = some Y := by
  have := heap_alloc_new (w.alloc X) Y
  simpa using this
theorem ret_bool {a b : Bool} (h : a = b) : Ending.returned (.bool a) = Ending.returned (.bool b) := by rw [h]
theorem ret_int {k : IntKind} {a b : Int} (h : a = b) : Ending.returned (.int k a) = Ending.returned (.int k b) := by rw [h]
theorem hkd {E : Nat → Prop} {w w2 : World} (h : Keeps E w.drew w2) : Keeps E w w2 := ⟨h.os, h.tape, h.output, h.size, h.block⟩

end Go.Proofs.YtmlgmhnplicflaaDoor

/-
  Quoting: the reference; rows of bytes.
-/
namespace Go.Proofs.YtmlgmhnplicflaaDoor.Quo
open Go.RowKit
set_option linter.unusedVariables false
set_option maxRecDepth 100000

def hexd (k : Nat) : UInt8 := if k < 10 then UInt8.ofNat (48 + k) else UInt8.ofNat (87 + k)
/-- A byte as a quoting has it. -/
def qel (n : Nat) : List UInt8 :=
  if n = 10 then [92, 110] else if n = 9 then [92, 116] else if n = 34 ∨ n = 92 then [92, UInt8.ofNat n]
  else if n < 32 ∨ 126 < n then [92, 120, hexd (n / 16), hexd (n % 16)] else [UInt8.ofNat n]
def qls (l : List UInt8) : List UInt8 := l.flatMap fun c => qel c.toNat
def quoteRef (l : List UInt8) : List UInt8 := if 200 < l.length then [] else 34 :: qls l ++ [34]

def ba (l : List UInt8) : ByteArray := ⟨l.toArray⟩
def cellsOf (l : List UInt8) : List Value := l.map fun c => Value.int .u8 c.toNat
theorem cellsOf_append (a b : List UInt8) : cellsOf (a ++ b) = cellsOf a ++ cellsOf b := by simp [cellsOf]
/-- A row of bytes of one's own. -/
def Ob (w : World) (base : Nat) (v : Value) (l : List UInt8) : Prop := w.ownsRow base 5 1 v l.length (cellsOf l)

theorem take_snoc (s : ByteArray) (k : Nat) (h : k < s.size) : s.data.toList.take (k + 1) = s.data.toList.take k ++ [s[k]] := by
  rw [List.take_succ_eq_append_getElem (by simpa using h)]; rfl
theorem qls_snoc (l : List UInt8) (c : UInt8) : qls (l ++ [c]) = qls l ++ qel c.toNat := by simp [qls]
theorem qel_le (n : Nat) : (qel n).length ≤ 4 := by
  unfold qel
  split
  · simp
  · split
    · simp
    · split
      · simp
      · split <;> simp
theorem qls_le (l : List UInt8) : (qls l).length ≤ 4 * l.length := by
  induction l with
  | nil => simp [qls]
  | cons c l ih =>
    have h := qel_le c.toNat
    have e : qls (c :: l) = qel c.toNat ++ qls l := by simp [qls]
    rw [e, List.length_append, List.length_cons]
    omega

theorem Tryd.infoU8 : (Tryd.prog.info? 5).map (fun i => (i.zero, i.size, i.bytes)) = some (some (.int .u8 0), 1, 1) := by kernel_rfl
theorem cells_new (w : World) (cs : List Value) (j : Nat) (u : Value) (hj : cs[j]? = some u) : (w.alloc (.cells cs.toArray 5)).cell? (Addr.add ⟨w.heap.size, 0, none⟩ j) = some u := by
  have e : Addr.add ⟨w.heap.size, 0, none⟩ j = ⟨w.heap.size, j, none⟩ := by by_cases h : j = 0 <;> simp [Addr.add, h]
  rw [e, World.cell?_alloc_at _ _ _ _ rfl]
  simpa using hj
/-- What an append of new cells leaves. -/
theorem app_run (w : World) (base : Nat) (ty : TypeId) (v : Value) (l ns : List UInt8) (hm : l.length + ns.length ≤ 2000000) (hb : base ≤ w.heap.size) (hown : Ob w base v l) :
    ∃ v' w1, Sem.run Tryd.prog (Builtin.append_ #[22, 22] ty #[v, .slice (some ⟨w.heap.size, 0, none⟩) ns.length ns.length]) (w.alloc (.cells (cellsOf ns).toArray 5)) = .ok v' w1 ∧
      Ob w1 base v' (l ++ ns) ∧ Below base w w1 := by
  obtain ⟨i0, hi, hz0, hz1, hz2⟩ := info_parts Tryd.infoU8
  have hlen : (cellsOf ns).length = ns.length := by simp [cellsOf]
  have hone : ∀ u ∈ cellsOf ns, u.oneCell' = true := by
    have e : cellsOf ns = (ns.map fun c => (c.toNat : Int)).map (Value.int .u8) := by simp [cellsOf]
    rw [e]
    exact ints_oneCell _ _
  obtain ⟨v', w1, hrun, ho, hg, _⟩ := run_append_own (P := Tryd.prog) (w.alloc (.cells (cellsOf ns).toArray 5)) base 22 ty 5 i0 (.int .u8 0) 1 1 Tryd.underlying22 hi hz0 hz1 hz2 rfl (by decide) v l.length (cellsOf l) (hown.alloc _)
    ⟨w.heap.size, 0, none⟩ ns.length ns.length (cellsOf ns) (by simp [hlen]) (cells_new w _) hone (by unfold maxLen; omega) (by omega) (by simp; omega)
  refine ⟨v', w1, hrun, ?_, ?_⟩
  · unfold Ob
    rw [cellsOf_append, List.length_append]
    exact ho
  · exact ((Below.refl _ _).alloc hb _).grown hg (by simp; omega) (fun k hk => (hown.lt k hk).1)

theorem fold_ba (l : List UInt8) (r : ByteArray) : (l.map fun c => (c.toNat : Int)).foldl (fun r n => r.push (UInt8.ofNat n.toNat)) r = r ++ ba l := by
  induction l generalizing r with
  | nil => apply ByteArray.ext; simp [ba]
  | cons c l ih =>
    rw [List.map_cons, List.foldl_cons, ih]
    apply ByteArray.ext
    simp [ba]
theorem conv_own {w : World} {base : Nat} {v : Value} {l : List UInt8} (h : Ob w base v l) : Sem.run Tryd.prog (convert 22 9 v) w = .ok (.string (ba l)) w := by
  have h' := h
  obtain ⟨_, ⟨rfl, hl⟩ | ⟨g, cap, cur, rfl, _⟩⟩ := h
  · obtain rfl := List.eq_nil_of_length_eq_zero hl
    rw [run_convert_bytes_string _ 22 9 5 _ _ _ Tryd.underlying22 Tryd.underlying5 Tryd.underlying9]
    rfl
  · rw [run_convert_bytes_string _ 22 9 5 _ _ _ Tryd.underlying22 Tryd.underlying5 Tryd.underlying9]
    have hc : cellsOf l = (l.map fun c => (c.toNat : Int)).map (Value.int .u8) := by simp [cellsOf]
    rw [run_bytesToString _ _ _ _ (l.map fun c => (c.toNat : Int))]
    · rw [fold_ba]; congr 2
    · rw [← hc]
      have := run_loadCells_list (P := Tryd.prog) w ⟨g, 0, none⟩ (cellsOf l) (h'.cells rfl)
      simpa [cellsOf] using this
/-- A row made of what is written out. -/
theorem ob_new (w : World) (l : List UInt8) (hl : l.length ≤ 1000) (h0 : 0 < l.length) : Ob (w.alloc (.cells (cellsOf l).toArray 5)) w.heap.size (.slice (some ⟨w.heap.size, 0, none⟩) l.length l.length) l := by
  refine ⟨by simp [cellsOf], Or.inr ⟨w.heap.size, l.length, (cellsOf l).toArray, rfl, Nat.le_refl _, heap_alloc_new _ _, Nat.le_refl _, by unfold maxLen; omega, by simp [cellsOf], ?_⟩⟩
  rw [Nat.mul_one]
  exact List.take_of_length_le (by simp [cellsOf])
theorem ret_str {a b : ByteArray} (h : a = b) : Ending.returned (.string a) = .returned (.string b) := by rw [h]
theorem index_hex (a : Nat) (h : a < 16) (w : World) : Sem.run Tryd.prog (Instr.index 9 (.string { data := #[48, 49, 50, 51, 52, 53, 54, 55, 56, 57, 97, 98, 99, 100, 101, 102] }) (.int .u8 (a : Int))) w = .ok (.int .u8 ((hexd a).toNat : Int)) w := by
  rcases (show a = 0 ∨ a = 1 ∨ a = 2 ∨ a = 3 ∨ a = 4 ∨ a = 5 ∨ a = 6 ∨ a = 7 ∨ a = 8 ∨ a = 9 ∨ a = 10 ∨ a = 11 ∨ a = 12 ∨ a = 13 ∨ a = 14 ∨ a = 15 from by omega) with h | h | h | h | h | h | h | h | h | h | h | h | h | h | h | h <;> subst h <;> kernel_rfl

end Go.Proofs.YtmlgmhnplicflaaDoor.Quo
