import Derived.Test.YtplffcdgojndfaaA
import Derived.Deep.RegionWith
import Derived.Test.YtplffcdgojndfaaC

/-
  Texts as lists of bytes; a number's digits.
-/
namespace Go.Proofs.Ytplffcdgojndfaa
set_option linter.unusedVariables false

def cba (l : List UInt8) : ByteArray := ⟨l.toArray⟩
theorem cba_size (l : List UInt8) : (cba l).size = l.length := by simp [cba, ByteArray.size]
/-- A number's digits. -/
def numL (n : Nat) : List UInt8 := if n < 10 then [UInt8.ofNat (48 + n)] else [UInt8.ofNat (48 + n / 10), UInt8.ofNat (48 + n % 10)]
theorem u8_nat {n : Nat} (h : n < 256) : (UInt8.ofNat n).toNat = n := by simp; omega
theorem numL_len (n : Nat) : 1 ≤ (numL n).length ∧ (numL n).length ≤ 2 := by
  unfold numL
  split <;> simp

end Go.Proofs.Ytplffcdgojndfaa

/-
  The law on counts: numbers, and a text of one byte.
-/
namespace Go.Proofs.Ytplffcdgojndfaa
open Go.RowKit
set_option linter.unusedVariables false
set_option maxRecDepth 100000

theorem conv_new {w : World} {l : List UInt8} {cs : Array Value} (hc : ∀ j (hj : j < l.length), cs[j]? = some (.int .u8 (l[j].toNat : Int))) (cap n : Nat) (hn : l.length = n) : (convert 22 9 (.slice (some ⟨w.heap.size, 0, none⟩) n cap)).run Try.prog (w.alloc (.cells cs 5)) = .ok (.string (cba l)) (w.alloc (.cells cs 5)) := by
  subst hn
  refine run_convert_bytes_back (w.alloc (.cells cs 5)) 22 9 5 ⟨w.heap.size, 0, none⟩ cap l (by kernel_rfl) (by kernel_rfl) (by kernel_rfl) (fun j hj => ?_)
  have := hc j hj
  have hb := heap_alloc_new w (.cells cs 5)
  by_cases e : j = 0
  · subst e
    show (w.alloc (.cells cs 5)).cell? ⟨w.heap.size, 0, none⟩ = _
    rw [cell_of hb]; exact this
  · have e2 : Addr.add ⟨w.heap.size, 0, none⟩ j = ⟨w.heap.size, j, none⟩ := by simp [Addr.add, e]
    rw [e2, cell_of hb]; exact this

set_option maxHeartbeats 1000000 in
theorem wNumber_any {w : World} {n : Nat} (hn : n ≤ 50) : Calls Try.prog 6 #[.int .i64 (n : Int)] w fun e w' => e = .returned (.string (cba (numL n))) ∧ Keeps (fun _ => False) w w' := by
  by_cases h : n < 10
  · have hz : (n : Int) < 10 := by omega
    have hcv := conv_new (w := w) (l := [UInt8.ofNat (48 + n)]) (cs := #[.int .u8 (48 + (n : Int))]) (by intro j hj; simp at hj; subst hj; simp; omega) 1 1 rfl
    have e : numL n = [UInt8.ofNat (48 + n)] := by simp [numL, h]
    have hw : IntKind.u8.wrap (48 + (n : Int)) = 48 + (n : Int) := by rw [IntKind.wrap_u8']; omega
    rw [e]
    generalize UInt8.ofNat (48 + n) = b8 at hcv ⊢
    clear e
    go_enter Try.func6, Try.ntmps6
    go_wp2_with fail
    go_ret
    exact ⟨rfl, (Keeps.refl _ _).alloc _⟩
  · have hz : ¬ (n : Int) < 10 := by omega
    have hcv := conv_new (w := w) (l := [UInt8.ofNat (48 + n / 10), UInt8.ofNat (48 + n % 10)]) (cs := #[.int .u8 (48 + ((n / 10 : Nat) : Int)), .int .u8 (48 + ((n % 10 : Nat) : Int))]) (by intro j hj; simp at hj; rcases (show j = 0 ∨ j = 1 from by omega) with rfl | rfl <;> simp <;> omega) 2 2 rfl
    have e : numL n = [UInt8.ofNat (48 + n / 10), UInt8.ofNat (48 + n % 10)] := by simp [numL, h]
    have hq : (n : Int).tdiv 10 = ((n / 10 : Nat) : Int) := by rw [Int.tdiv_eq_ediv_of_nonneg (by omega)]; simp
    have hr : (n : Int).tmod 10 = ((n % 10 : Nat) : Int) := by rw [Int.tmod_eq_emod_of_nonneg (by omega)]; simp
    have h5 : n / 10 < 10 := by omega
    have h6 : n % 10 < 10 := by omega
    rw [e]
    clear e
    generalize UInt8.ofNat (48 + n / 10) = b8 at hcv ⊢
    generalize UInt8.ofNat (48 + n % 10) = b9 at hcv ⊢
    generalize n / 10 = a at *
    generalize n % 10 = b at *
    have hw : IntKind.u8.wrap (48 + (a : Int)) = 48 + (a : Int) := by rw [IntKind.wrap_u8']; omega
    have hw2 : IntKind.u8.wrap (48 + (b : Int)) = 48 + (b : Int) := by rw [IntKind.wrap_u8']; omega
    go_enter Try.func6, Try.ntmps6
    go_wp2_with fail
    go_ret
    exact ⟨rfl, (Keeps.refl _ _).alloc _⟩

theorem cba_a (n : Nat) : cba (List.replicate n 97) ++ { data := #[97] } = cba (List.replicate (n + 1) 97) := by
  apply ByteArray.ext
  rw [ByteArray.data_append]
  apply Array.ext'
  simp [cba, List.replicate_succ']
set_option maxHeartbeats 1000000 in
theorem wA_any {w : World} {n : Nat} (hn : n ≤ 100) : Calls Try.prog 8 #[.int .i64 (n : Int)] w fun e w' => e = .returned (.string (cba (List.replicate n 97))) ∧ Keeps (fun _ => False) w w' := by
  go_enter Try.func8, Try.ntmps8
  go_wp2_with fail
  go_loopg [0, 3] (n + 1) (fun gl s0 s3 wr => ∃ k : Nat, k + gl = n + 1 ∧ k ≤ n ∧ s0 = .int .i64 ((n - k : Nat) : Int) ∧ s3 = .string (cba (List.replicate k 97)) ∧ wr = w)
  case atStart => exact ⟨0, by omega, by omega, rfl, rfl, rfl⟩
  case round =>
    obtain ⟨k, hgl, hk, rfl, rfl, rfl⟩ := hrel
    have HG : Hid (k + gk = n + 1) := hgl
    clear hgl
    by_cases hlt : k < n
    · have hz : (0 : Int) < ((n - k : Nat) : Int) := by omega
      have hsz : ¬ 9223372036854775807 < (cba (List.replicate k 97)).size + 1 := by rw [cba_size]; simp; omega
      have hap := cba_a k
      obtain ⟨z, hzz⟩ : ∃ z, n - k = z + 1 := ⟨n - k - 1, by omega⟩
      have HZ : Hid (n - k = z + 1) := hzz
      rw [hzz] at hz ⊢
      have hz9 : z ≤ 100 := by omega
      clear hzz
      generalize cba (List.replicate k 97) = t0 at hsz hap ⊢
      generalize hT : cba (List.replicate (k + 1) 97) = t1 at hap
      have HT : Hid (cba (List.replicate (k + 1) 97) = t1) := hT
      clear hT
      go_wp2_with fail
      go_roundg (gk - 1)
      case measure => have := HG.out; omega
      case rel => exact ⟨k + 1, by have := HG.out; omega, by omega, congrArg (Value.int .i64) (by have := HZ.out; omega), by rw [HT.out], rfl⟩
    · have hz : ¬ (0 : Int) < ((n - k : Nat) : Int) := by omega
      have hkn : k = n := by omega
      subst hkn
      go_wp2_with fail
      go_ret
      exact ⟨rfl, Keeps.refl _ _⟩

end Go.Proofs.Ytplffcdgojndfaa

/-
  The law on counts: bytes of what is given; rows of matches.
-/
namespace Go.Proofs.Ytplffcdgojndfaa
open Go.RowKit
set_option linter.unusedVariables false
set_option maxRecDepth 100000

/-- Bytes that can be read. -/
def Dc (w : World) (ao : Option Addr) (cs : List Nat) : Prop := (∀ c ∈ cs, c < 256) ∧ (0 < cs.length → ∃ a, ao = some a ∧ ∀ (i c : Nat), cs[i]? = some c → w.cell? (a.add i) = some (.int .u8 (c : Int)))
theorem d_cell_same {w w' : World} {a : Addr} (h : w'.heap[a.block]? = w.heap[a.block]?) : w'.cell? a = w.cell? a := by
  simp [World.cell?, h]
theorem d_add_block (a : Addr) (i : Nat) : (a.add i).block = a.block := by
  by_cases h : i = 0 <;> simp [Addr.add, h]
theorem Dc.keeps {w w' : World} {ao : Option Addr} {cs : List Nat} {E : Nat → Prop} (h : Dc w ao cs) (k : Keeps E w w') (hb : ∀ a, ao = some a → a.block < w.heap.size ∧ ¬ E a.block) : Dc w' ao cs := by
  obtain ⟨h1, h2⟩ := h
  refine ⟨h1, fun hl => ?_⟩
  obtain ⟨a, ha, h3⟩ := h2 hl
  refine ⟨a, ha, fun i c hc => ?_⟩
  rw [d_cell_same (k.block (a.add i).block (by rw [d_add_block]; exact (hb a ha).1) (by rw [d_add_block]; exact (hb a ha).2))]
  exact h3 i c hc

set_option maxHeartbeats 1000000 in
set_option maxRecDepth 100000 in
theorem wByteD {w : World} {cap i : Nat} {ao : Option Addr} {cs : List Nat} (hc : Dc w ao cs) (hn : cs.length ≤ 1048576) (hi : i ≤ 2) :
    Calls Try.prog 5 #[.slice ao cs.length cap, .int .i64 (i : Int)] w fun e w' => ∃ x : Nat, e = .returned (.int .i64 (x : Int)) ∧ x < 256 ∧ w' = w := by
  obtain ⟨h1, h2⟩ := hc
  by_cases h0 : cs.length = 0
  · have hz : ((cs.length : Int) == 0) = true := by simp; exact List.eq_nil_of_length_eq_zero h0
    clear h0
    go_enter Try.func5, Try.ntmps5
    go_wp2_with fail
    go_ret
    exact ⟨0, rfl, by omega, rfl⟩
  · obtain ⟨a, rfl, h3⟩ := h2 (by omega)
    have hlt : i % cs.length < cs.length := Nat.mod_lt _ (by omega)
    have hx : cs[i % cs.length]? = some cs[i % cs.length] := List.getElem?_eq_getElem hlt
    have hxl := h1 _ (List.getElem_mem hlt)
    have cx := h3 _ _ hx
    have hm : ((i : Int)).tmod (cs.length : Int) = ((i % cs.length : Nat) : Int) := by rw [Int.tmod_eq_emod_of_nonneg (by omega)]; simp
    have hz : ((cs.length : Int) == 0) = false := by simp; intro h; simp [h] at h0
    generalize cs[i % cs.length] = x at hx hxl cx
    generalize i % cs.length = r at hlt hm cx
    have hrz : (r : Int) < (cs.length : Int) := by omega
    have hw : IntKind.i64.wrap (x : Int) = (x : Int) := IntWalk.i64_in _ ⟨by omega, by omega⟩
    clear h2 h3 hx h1
    go_enter Try.func5, Try.ntmps5
    go_wp2_with fail
    go_ret
    exact ⟨x, rfl, hxl, rfl⟩

theorem row_at {w : World} {base : Nat} {e : TypeId} {size : Nat} {v : Value} {n : Nat} {xs : List Value} (h : w.ownsRow base e size v n xs) (hn : 0 < n) : ∃ g cap, v = .slice (some ⟨g, 0, none⟩) n cap ∧ (∀ j, j < n * size → w.cell? ⟨g, j, none⟩ = xs[j]?) ∧ (∀ j, w.frozen? ⟨g, j, none⟩ = false) ∧ g < w.heap.size ∧ base ≤ g := by
  obtain ⟨m, rfl⟩ : ∃ m, n = m + 1 := ⟨n - 1, by omega⟩
  obtain ⟨g, cap, rfl, h1, h2⟩ := own_some h
  exact ⟨g, cap, rfl, fun j hj => h.cellAt j hj, fun j => h.frozenAt j, h2, h1⟩

theorem flatR_at2 (l : List (Int × Int)) (j : Nat) (h : j < l.length) : (flatR l)[j * 2]? = some (.int .i64 (l.getD j (0, 0)).1) ∧ (flatR l)[j * 2 + 1]? = some (.int .i64 (l.getD j (0, 0)).2) := by
  induction l generalizing j with
  | nil => simp at h
  | cons r l ih =>
    cases j with
    | zero => simp [flatR]
    | succ j =>
      have := ih j (by simpa using h)
      have e : flatR (r :: l) = .int .i64 r.1 :: .int .i64 r.2 :: flatR l := by simp [flatR]
      rw [e]
      have e1 : (j + 1) * 2 = j * 2 + 1 + 1 := by omega
      rw [e1]
      simpa using this

theorem cell4_at (L : List Mm) (j i : Nat) (hj : j < L.length) (hi : i < 4) : (L.flatMap cell4)[j * 4 + i]? = (cell4 (L[j]'hj))[i]? := by
  induction L generalizing j with
  | nil => simp at hj
  | cons x L ih =>
    cases j with
    | zero =>
      rw [List.flatMap_cons, List.getElem?_append_left (by simp [cell4]; omega)]
      simp
    | succ j =>
      have := ih j (by simpa using hj)
      rw [List.flatMap_cons, List.getElem?_append_right (by simp [cell4]; omega)]
      have e : (j + 1) * 4 + i - (cell4 x).length = j * 4 + i := by simp [cell4]; omega
      rw [e, this]
      simp
/-- The cells of the match j. -/
theorem Mts.cells {w : World} {g cap : Nat} {L : List Mm} (h : Mts w (.slice (some ⟨g, 0, none⟩) L.length cap) L) {j : Nat} (hj : j < L.length) :
    w.cell? ⟨g, j * 4, none⟩ = some (.bool (L[j]'hj).1.ok) ∧ w.cell? ⟨g, j * 4 + 1, none⟩ = some (.int .i64 (L[j]'hj).1.fr) ∧ w.cell? ⟨g, j * 4 + 2, none⟩ = some (.int .i64 (L[j]'hj).1.up) ∧ w.cell? ⟨g, j * 4 + 3, none⟩ = some (L[j]'hj).2 := by
  have hc := h.row.cellAt
  refine ⟨?_, ?_, ?_, ?_⟩
  · have e := hc (j * 4) (by omega); rw [e]; exact cell4_at L j 0 hj (by omega)
  · rw [hc (j * 4 + 1) (by omega)]; exact cell4_at L j 1 hj (by omega)
  · rw [hc (j * 4 + 2) (by omega)]; exact cell4_at L j 2 hj (by omega)
  · rw [hc (j * 4 + 3) (by omega)]; exact cell4_at L j 3 hj (by omega)
/-- What a row of matches is answered with. -/
def RowM (l : List Mt) (w : World) (e : Ending) (w' : World) : Prop :=
  ∃ (ao : Option Addr) (n c : Nat) (L : List Mm), e = .returned (.slice ao n c) ∧ L.map (·.1) = l ∧ Mts w' (.slice ao n c) L ∧ Keeps (fun _ => False) w w'

/-- The matches, least first. -/
def cntM (m c : Nat) : List Mt := (List.range c).map (fun i => ⟨true, 0, ((m + i : Nat) : Int), [if m + i = 0 then (-1, -1) else (((m + i - 1 : Nat) : Int), ((m + i : Nat) : Int))]⟩)
def cntC (m k n : Nat) : Nat := if m ≤ n then min k n - m + 1 else 0
theorem cntM_len (m c : Nat) : (cntM m c).length = c := by simp [cntM]
theorem cnt_to {w : World} {a : Option Addr} {n c : Nat} {L : List Mm} {l : List Mt} (h : Mts w (.slice a n c) L) (hL : L.map (·.1) = l) (hn : l.length = n) {i : Nat} (hi : i < n) {x : Mt} (hx : l[i]? = some x) : ∃ (g : Nat) (v : Value), a = some ⟨g, 0, none⟩ ∧ w.cell? ⟨g, i * 4 + 2, none⟩ = some (.int .i64 x.up) ∧ w.cell? ⟨g, i * 4 + 3, none⟩ = some v ∧ SpR w v x.gs := by
  have hlen : L.length = n := by rw [← hn, ← hL, List.length_map]
  subst hlen
  obtain ⟨g, cp, hv, -⟩ := row_at h.row (by omega)
  cases hv
  obtain ⟨-, -, c2, c3⟩ := h.cells hi
  have hxe : (L[i]'hi).1 = x := by
    rw [← hL] at hx
    simpa [hi] using hx
  have hr := h.rows _ (List.getElem_mem hi)
  rw [hxe] at c2 hr
  exact ⟨g, _, rfl, c2, c3, hr⟩
theorem cnt_at {w : World} {a : Option Addr} {n c m i : Nat} {L : List Mm} (h : Mts w (.slice a n c) L) (hL : L.map (·.1) = cntM m n) (hi : i < n) : ∃ (g gv cv : Nat), a = some ⟨g, 0, none⟩ ∧ w.cell? ⟨g, i * 4 + 2, none⟩ = some (.int .i64 ((m + i : Nat) : Int)) ∧ w.cell? ⟨g, i * 4 + 3, none⟩ = some (.slice (some ⟨gv, 0, none⟩) 1 cv) ∧ w.cell? ⟨gv, 0, none⟩ = some (.int .i64 (if m + i = 0 then -1 else ((m + i - 1 : Nat) : Int))) ∧ w.cell? ⟨gv, 1, none⟩ = some (.int .i64 (if m + i = 0 then -1 else ((m + i : Nat) : Int))) := by
  obtain ⟨g, v, rfl, h2, h3, h4⟩ := cnt_to h hL (cntM_len m n) hi (x := ⟨true, 0, ((m + i : Nat) : Int), [if m + i = 0 then (-1, -1) else (((m + i - 1 : Nat) : Int), ((m + i : Nat) : Int))]⟩) (by simp [cntM, hi])
  obtain ⟨gv, cv, rfl, hc, -⟩ := row_at h4 (by simp)
  have e0 := hc 0 (by simp)
  have e1 := hc 1 (by simp)
  refine ⟨g, gv, cv, rfl, h2, h3, ?_, ?_⟩
  · rw [e0]
    by_cases hz : m + i = 0
    · simp only [if_pos hz]; rfl
    · simp only [if_neg hz]; rfl
  · rw [e1]
    by_cases hz : m + i = 0
    · simp only [if_pos hz]; rfl
    · simp only [if_neg hz]; rfl
theorem cnt_rev {w : World} {a : Option Addr} {n c m i : Nat} {L : List Mm} (h : Mts w (.slice a n c) L) (hL : L.map (·.1) = (cntM m n).reverse) (hi : i < n) : ∃ (g : Nat), a = some ⟨g, 0, none⟩ ∧ w.cell? ⟨g, i * 4 + 2, none⟩ = some (.int .i64 ((m + (n - 1 - i) : Nat) : Int)) := by
  obtain ⟨g, v, rfl, h2, -, -⟩ := cnt_to h hL (by rw [List.length_reverse, cntM_len]) hi (x := ⟨true, 0, ((m + (n - 1 - i) : Nat) : Int), [if m + (n - 1 - i) = 0 then (-1, -1) else (((m + (n - 1 - i) - 1 : Nat) : Int), ((m + (n - 1 - i) : Nat) : Int))]⟩) (by
    rw [List.getElem?_reverse (by rw [cntM_len]; exact hi), cntM_len]
    have : n - 1 - i < n := by omega
    simp [cntM, this])
  exact ⟨g, rfl, h2⟩

end Go.Proofs.Ytplffcdgojndfaa
