import Derived.Test.YtmlgmhnplicflaaGreatEi
import Derived.Laws.IdiomStrings

/-
  The law on Escape and Whole: the walk, up to the text's own check.
-/
namespace Go.Proofs.YtmlgmhnplicflaaGreat
open Go.RowKit
set_option linter.unusedVariables false

theorem enc_le (l : List UInt8) (h : l.length < 28) : (Esc.encL l).length ≤ 120 := by
  have : (Esc.encL l).length ≤ 4 * l.length := by
    clear h
    induction l with
    | nil => simp [Esc.encL]
    | cons c l ih =>
      have := Esc.esc_le c.toNat
      simp only [Esc.encL, List.flatMap_cons, List.length_append, List.length_cons] at ih ⊢
      omega
  omega

theorem impl_esc {w : World} (l : List UInt8) (h : l.length < 28) : Calls Tryz.prog 27 #[.string (Esc.ba l)] w fun e w' => e = .returned (.string (Esc.ba (Esc.encL l))) ∧ Keeps (fun _ => False) w w' := by
  refine (Esc.implEscape_any (Esc.ba l) w (by rw [Esc.ba_size]; omega)).mono ?_
  rintro e w' ⟨rfl, hb⟩
  have e1 : (Esc.ba l).data.toList = l := by simp [Esc.ba]
  rw [e1, Esc.escText_short (enc_le l h)]
  exact ⟨rfl, Keeps.ofBelow hb (fun k h1 h2 => by omega)⟩
theorem spec_esc {w : World} (l : List UInt8) (h : l.length < 28) : Calls Tryz.prog 28 #[.string (Esc.ba l)] w fun e w' => e = .returned (.string (Esc.ba (Esc.encL l))) ∧ Keeps (fun _ => False) w w' := by
  refine (Esc.specEscape_any (Esc.ba l) w (by rw [Esc.ba_size]; omega)).mono ?_
  rintro e w' ⟨rfl, hb⟩
  have e1 : (Esc.ba l).data.toList = l := by simp [Esc.ba]
  rw [e1, Esc.escText_short (enc_le l h)]
  exact ⟨rfl, Keeps.ofBelow hb (fun k h1 h2 => by omega)⟩

theorem whole_of {w : World} (l m : List UInt8) {ok : Bool} (h : l.length < 28) (hm : m.length ≤ 200) (hok : decide (l = m) = ok) : Calls Tryz.prog 23 #[.string (Esc.ba (Esc.encL l)), .string (Esc.ba m)] w (WholePost ok w) := by
  have hu : (Esc.ba m).size ≤ 200 := by rw [Esc.ba_size]; exact hm
  subst hok
  by_cases e : l = m
  · subst e
    rw [show decide (l = l) = true from by simp]
    exact whole_any (enc_le l h) hu (whole_self l)
  · rw [show decide (l = m) = false from by simp [e]]
    exact whole_any (enc_le l h) hu (whole_other l m e)

end Go.Proofs.YtmlgmhnplicflaaGreat

/-
  The law on Escape and Whole: what the walk wants of the text's bytes.
-/
namespace Go.Proofs.YtmlgmhnplicflaaGreat
open Go.RowKit
set_option linter.unusedVariables false

theorem ba_nil : Esc.ba [] = { data := #[] } := rfl
theorem ba_x : Esc.ba [120] = { data := #[120] } := rfl

theorem ba_size (l : List UInt8) : (Esc.ba l).size = l.length := by simp [Esc.ba, ByteArray.size]
theorem ba_data (l : List UInt8) : (Esc.ba l).data = l.toArray := by simp [Esc.ba]

/-- A text's bytes in a row of the call's own. -/
structure Bb (w : World) (P : Nat) (l : List UInt8) : Prop where
  cell : ∀ (j : Nat) (hj : j < l.length), w.cell? ⟨P, j, none⟩ = some (.int .u8 (l[j].toNat : Int))
  free : ∀ (j : Nat), j < l.length → w.frozen? ⟨P, j, none⟩ = false
  lt : P < w.heap.size

theorem bb_made {w : World} {P : Nat} {l : List UInt8} {cap : Nat} (h : w.heap[P]? = some (.cells (bytesRow (Esc.ba l) cap) 5 ((bytesRow (Esc.ba l) cap).size, (bytesRow (Esc.ba l) cap).size + 1))) : Bb w P l := by
  have hsz : l.length ≤ (bytesRow (Esc.ba l) cap).size := by
    unfold bytesRow
    rw [ba_data]
    simp
  refine ⟨fun j hj => ?_, fun j hj => ?_, ?_⟩
  · simp only [World.cell?, h]
    unfold bytesRow
    rw [ba_data, Array.getElem?_append_left (by simpa using hj)]
    simp [hj]
  · simp only [World.frozen?, h]
    simp
    omega
  · apply Decidable.byContradiction
    intro hn
    rw [Array.getElem?_eq_none (by omega)] at h
    simp at h

end Go.Proofs.YtmlgmhnplicflaaGreat

/-
  The law on Escape and Whole: the walk.
-/
namespace Go.Proofs.YtmlgmhnplicflaaGreat
open Go.RowKit
set_option linter.unusedVariables false


theorem empty_nil : (Esc.ba []).toList.isEmpty = true := by
  cases h : (Esc.ba []).toList with
  | nil => rfl
  | cons _ _ =>
    have h1 := congrArg List.length h
    simp [Esc.ba] at h1
theorem empty_cons (b : UInt8) (l : List UInt8) : (Esc.ba (b :: l)).toList.isEmpty = false := by
  cases h : (Esc.ba (b :: l)).toList with
  | nil =>
    have h1 := congrArg List.length h
    simp [Esc.ba] at h1
  | cons _ _ => rfl

theorem Bb.keeps {E : Nat → Prop} {w w' : World} {P : Nat} {l : List UInt8} (h : Bb w P l) (k : Keeps E w w') (hE : ¬ E P) : Bb w' P l := by
  have e := k.block P h.lt hE
  refine ⟨fun j hj => ?_, fun j hj => ?_, Nat.lt_of_lt_of_le h.lt k.size⟩
  · have := h.cell j hj
    simp only [World.cell?] at this ⊢
    rw [e]; exact this
  · have := h.free j hj
    simp only [World.frozen?] at this ⊢
    rw [e]; exact this

theorem Bb.get {w : World} {P : Nat} {l : List UInt8} (h : Bb w P l) {j : Nat} {v : UInt8} (hv : l[j]? = some v) : w.cell? ⟨P, j, none⟩ = some (.int .u8 (v.toNat : Int)) := by
  obtain ⟨hj, e⟩ := List.getElem?_eq_some_iff.1 hv
  rw [h.cell j hj, e]

theorem Bb.set {w : World} {P : Nat} {l : List UInt8} (h : Bb w P l) {r : Nat} (hr : r < l.length) (u : UInt8) : Bb ((w.setCell ⟨P, r, none⟩ (.int .u8 (u.toNat : Int))).drew) P (l.set r u) := by
  have h0 := h.cell r hr
  obtain ⟨c, t, m, hb⟩ : ∃ c t m, w.heap[P]? = some (.cells c t m) := by
    simp only [World.cell?] at h0
    cases e : w.heap[P]? with
    | none => simp [e] at h0
    | some o => cases o <;> simp_all
  have hb2 : (w.setCell ⟨P, r, none⟩ (.int .u8 (u.toNat : Int))).drew.heap[P]? = some (.cells (c.setIfInBounds r (.int .u8 (u.toNat : Int))) t m) := by
    show (w.setCell ⟨P, r, none⟩ (.int .u8 (u.toNat : Int))).heap[P]? = _
    rw [setCell_eq_setRow w P r c t m _ hb]
    exact setRow_heap w P c _ t _ hb
  have hcs : ∀ j (hj : j < l.length), c[j]? = some (.int .u8 (l[j].toNat : Int)) := fun j hj => by
    have := h.cell j hj
    simp only [World.cell?, hb] at this
    simpa using this
  refine ⟨fun j hj => ?_, fun j hj => ?_, ?_⟩
  · have hj' : j < l.length := by simpa using hj
    have := hcs j hj'
    have hlt := (Array.getElem?_eq_some_iff.1 (hcs r hr)).1
    simp only [World.cell?, hb2]
    rw [Array.getElem?_setIfInBounds, List.getElem_set]
    by_cases e : r = j
    · subst e; simp [hlt]
    · simp [e, this]
  · have := h.free j (by simpa using hj)
    simp only [World.frozen?, hb] at this
    simp only [World.frozen?, hb2]
    simpa using this
  · show P < (w.setCell _ _).heap.size
    simpa [World.setCell] using h.lt

theorem back_bytes {w : World} {P : Nat} {l : List UInt8} (h : Bb w P l) {n : Nat} (cap : Nat) (hn : l.length = n) : (convert 22 9 (.slice (some ⟨P, 0, none⟩) n cap)).run Tryz.prog w = .ok (.string (Esc.ba l)) w := by
  subst hn
  refine run_convert_bytes_back w 22 9 5 ⟨P, 0, none⟩ cap l (by kernel_rfl) (by kernel_rfl) (by kernel_rfl) (fun j hj => ?_)
  have := h.cell j hj
  by_cases e : j = 0
  · subst e; simpa [Addr.add] using this
  · simpa [Addr.add, e] using this

theorem set_other {l : List UInt8} {r vn q : Nat} {v : UInt8} (hv : l[r]? = some v) (hvn : v.toNat = vn) (hq : q < 255) : ∃ u : UInt8, u.toNat = vn ^^^ (1 + q) ∧ l ≠ l.set r u := by
  have hvl : vn < 256 := by rw [← hvn]; exact UInt8.toNat_lt _
  have hx : vn ^^^ (1 + q) < 2 ^ 8 := Nat.xor_lt_two_pow (by omega) (by omega)
  have hu : (UInt8.ofNat (vn ^^^ (1 + q))).toNat = vn ^^^ (1 + q) := by
    rw [UInt8.toNat_ofNat']
    exact Nat.mod_eq_of_lt hx
  refine ⟨UInt8.ofNat (vn ^^^ (1 + q)), hu, fun e => ?_⟩
  obtain ⟨hr, _⟩ := List.getElem?_eq_some_iff.1 hv
  have h1 : l[r]? = some (UInt8.ofNat (vn ^^^ (1 + q))) := by
    rw [e]; simp [hr]
  rw [hv] at h1
  have h2 := congrArg UInt8.toNat (Option.some.inj h1)
  rw [hu, hvn] at h2
  have h3 : vn ^^^ (vn ^^^ (1 + q)) = vn ^^^ vn := by rw [← h2]
  rw [← Nat.xor_assoc, Nat.xor_self, Nat.zero_xor] at h3
  omega

theorem made_bytes (w : World) (l : List UInt8) (n : Nat) (hn : l.length = n) : ∃ (P cap : Nat) (w' : World), (convert 9 22 (.string (Esc.ba l))).run Tryz.prog w = .ok (.slice (some ⟨P, 0, none⟩) n cap) w' ∧ Keeps (fun _ => False) w w' ∧ Bb w' P l ∧ w.heap.size ≤ P := by
  have h := run_bytes_of_string (P := Tryz.prog) w 9 22 5 (Esc.ba l) (by kernel_rfl) (by kernel_rfl) (by kernel_rfl)
  rw [Esc.ba_size, hn] at h
  exact ⟨w.heap.size, _, _, h, ((Keeps.refl _ _).drew).alloc _, bb_made (heap_alloc_new _ _), Nat.le_refl _⟩

/-- Another text, and not a long one. -/
structure Oth (l m : List UInt8) : Prop where
  ne : l ≠ m
  len : m.length ≤ 200
theorem whole_oth {w : World} {l m : List UInt8} (h : l.length < 28) (ho : Oth l m) : Calls Tryz.prog 23 #[.string (Esc.ba (Esc.encL l)), .string (Esc.ba m)] w (WholePost false w) :=
  whole_of (ok := false) l m h ho.len (by simp [ho.ne])
theorem oth_more (b : UInt8) (l : List UInt8) (h : (b :: l).length < 28) : Oth (b :: l) (b :: (l ++ [120])) :=
  ⟨fun e => by have := congrArg List.length e; simp at this, by simp at h ⊢; omega⟩
theorem ba_more (b : UInt8) (l : List UInt8) : Esc.ba (b :: l) ++ { data := #[120] } = Esc.ba (b :: (l ++ [120])) := by
  apply ByteArray.ext
  rw [ByteArray.data_append]
  simp [Esc.ba]

set_option maxHeartbeats 2000000 in
set_option maxRecDepth 100000 in
theorem law_escape {w : World} {ao ao2 : Option Addr} {cap cap2 : Nat} {cs ds : List Nat} (hc : Cd w ao cs) (hb : ∀ a, ao = some a → a.block < w.heap.size) (hd : Cd w ao2 ds) (hb2 : ∀ a, ao2 = some a → a.block < w.heap.size) (hn : cs.length ≤ 1048576) (hn2 : ds.length ≤ 1048576) :
    Calls Tryz.prog 7 #[.slice ao cs.length cap, .slice ao2 ds.length cap2] w fun e w' => e = .returned (.bool true) ∧ Keeps (fun _ => False) w w' := by
  have hnz : (cs.length : Int) ≤ 1048576 := by omega
  have hnz2 : (ds.length : Int) ≤ 1048576 := by omega
  have hfd : ∀ (t : Bool) (x y z : Value) (w : World), (Instr.field 29 (.agg #[.bool t, x, y, z]) 0).run Tryz.prog w = .ok (.bool t) w := fun _ _ _ _ _ => by kernel_rfl
  go_enter Tryz.func7, Tryz.ntmps7
  go_upto_region 7 with (first
    | (go_at_call 26; refine (texts_any hc hb).mono ?_; rintro e w1 ⟨l, rfl, hl, hk1⟩)
    | (go_at_call 27; refine (impl_esc l hl).mono ?_; rintro e w2 ⟨rfl, hk2⟩)
    | (go_at_call 28; refine (spec_esc l hl).mono ?_; rintro e w3 ⟨rfl, hk3⟩)
    | (go_at_call 23; refine (whole_of (ok := true) l l hl (by omega) (by simp)).mono ?_; rintro e w4 ⟨⟨x, y, gs, rfl⟩, hk4⟩))
  have hK : Keeps (fun _ => False) w w4 := ((hk1.trans hk2).trans hk3).trans hk4
  replace hd := hd.keeps hK (fun a ha => ⟨hb2 a ha, fun h => h⟩)
  clear hk1 hk2 hk3 hk4
  cases l with
  | nil =>
    have hE := empty_nil
    have hX := ba_x
    go_wp2_with (first
      | (go_at_call 23; refine (whole_of (ok := false) [] [120] (by decide) (by decide) (by decide)).mono ?_; rintro e w5 ⟨⟨x, y, gs, rfl⟩, hk5⟩))
    go_ret
    exact ⟨rfl, hK.trans hk5⟩
  | cons b l =>
    have hE := empty_cons b l
    obtain ⟨n, hnl⟩ : ∃ n, (b :: l).length = n := ⟨_, rfl⟩
    obtain ⟨P, cp, w5, hcv, hk5, hB, hP⟩ := made_bytes w4 (b :: l) n hnl
    have hn0 : 0 < n := by rw [← hnl]; simp
    have hn28 : n < 28 := by rw [← hnl]; exact hl
    have hz : ((n : Int) == 0) = false := by simp; omega
    have hd5 := hd.keeps hk5 (fun a ha => ⟨Nat.lt_of_lt_of_le (hb2 a ha) hK.size, fun h => h⟩)
    have hPw : w.heap.size ≤ P := Nat.le_trans hK.size hP
    replace hK := hK.trans hk5
    replace hnl : Hid ((b :: l).length = n) := hnl
    replace hB : Hid (Bb w5 P (b :: l)) := hB
    clear hd hk5 hP
    go_upto_region 11 with (first
      | (go_at_call 16; refine (wByte_any (i := 0) hd5 hn2 (by decide)).mono ?_; rintro e w6 ⟨x, rfl, hx, rfl⟩; have hm : (x : Int).tmod (n : Int) = ((x % n : Nat) : Int) := (by rw [Int.tmod_eq_emod_of_nonneg (by omega)]; simp); have hr : x % n < n := Nat.mod_lt _ hn0; generalize x % n = r at hm hr))
    clear hm hx
    have hrl : r < (b :: l).length := by rw [hnl.out]; exact hr
    obtain ⟨v, hv⟩ : ∃ v, (b :: l)[r]? = some v := ⟨_, List.getElem?_eq_getElem hrl⟩
    have cx := hB.out.get hv
    have fx := hB.out.free r hrl
    obtain ⟨vn, hvn⟩ : ∃ vn, v.toNat = vn := ⟨_, rfl⟩
    have hvl : vn < 256 := by rw [← hvn]; exact UInt8.toNat_lt _
    rw [hvn] at cx
    replace hvn : Hid (v.toNat = vn) := hvn
    replace hv : Hid ((b :: l)[r]? = some v) := hv
    replace hrl : Hid (r < (b :: l).length) := hrl
    have hrz : (r : Int) < (n : Int) := by omega
    have hr0 : (0 : Int) ≤ (r : Int) := by omega
    have hr1 : ¬ (r : Int) < 0 := by omega
    have hd6 : Cd w6.drew ao2 ds := hd5
    go_region_with (first
      | (go_at_call 16; refine (wByte_any (i := 1) hd6 hn2 (by decide)).mono ?_; rintro e w7 ⟨y, rfl, hy, rfl⟩; have hm : (y : Int).tmod 255 = ((y % 255 : Nat) : Int) := (by rw [Int.tmod_eq_emod_of_nonneg (by omega)]; simp); have hq : y % 255 < 255 := Nat.mod_lt _ (by decide); generalize y % 255 = q at hm hq; have hqz : (q : Int) < 255 := (by omega); have hw0 : IntKind.i64.wrap (1 + (q : Int)) = 1 + (q : Int) := IntWalk.i64_in _ ⟨by omega, by omega⟩; have hw1 : IntKind.u8.wrap (1 + (q : Int)) = ((1 + q : Nat) : Int) := (by rw [IntKind.wrap_u8']; omega); have hxr := u8_xor_nat vn (1 + q) hvl (by omega); clear hy))
    all_goals
      obtain ⟨u, hu, hne⟩ := set_other hv.out hvn.out hq
      have hxe : bits BinOp.xor IntKind.u8 (vn : Int) (1 + (q : Int)) = (u.toNat : Int) := by rw [hu]; exact hxr
      rw [hxe]
      have hB8 := hB.out.set hrl.out u
      have hK8 : Keeps (fun _ => False) w ((w6.setCell ⟨P, r, none⟩ (.int .u8 (u.toNat : Int))).drew) := (hK.setCell (fun h => absurd h (by simp; omega)) _).drew
      have hml : ((b :: l).set r u).length = n := by rw [List.length_set]; exact hnl.out
      generalize ((w6.setCell ⟨P, r, none⟩ (.int .u8 (u.toNat : Int))).drew) = w8 at hB8 hK8 ⊢
      generalize (b :: l).set r u = m at hB8 hml hne
      clear hxe hu hxr hw1 hw0 hm hq hqz cx fx hd5 hd6 hv hvn hrl hvl hrz hr0 hr1 hB hK hcv hz
      have hcb := back_bytes hB8 cp hml
      have hO1 : Oth (b :: l) m := ⟨hne, by omega⟩
      have hO2 := oth_more b l hl
      have hbm := ba_more b l
      have hsz : ¬ 9223372036854775807 < (Esc.ba (b :: l)).size + 1 := by rw [Esc.ba_size]; omega
      clear hne
      go_wp2_with (go_at_call 23; refine (whole_oth hl (by assumption)).mono ?_; rintro e w9 ⟨⟨x, y, gs, rfl⟩, hk9⟩; replace hK8 := hK8.trans hk9; clear hk9)
      go_ret
      exact ⟨rfl, hK8⟩

end Go.Proofs.YtmlgmhnplicflaaGreat
