import Derived.Test.YtmlgmhnplicflaaGreatEb

/-
  The laws' draws: bytes out of what is given, and beyond.
-/
namespace Go.Proofs.YtmlgmhnplicflaaGreat
open Go.RowKit
set_option linter.unusedVariables false

/-- Bytes that can be read. -/
def Cd (w : World) (ao : Option Addr) (cs : List Nat) : Prop := (∀ c ∈ cs, c < 256) ∧ (0 < cs.length → ∃ a, ao = some a ∧ ∀ (i c : Nat), cs[i]? = some c → w.cell? (a.add i) = some (.int .u8 (c : Int)))
/-- A drawer in memory. -/
def Cu (w : World) (R : Nat) (ao : Option Addr) (n cap : Nat) (p s : Int) : Prop := w.heap[R]? = some (.cells #[.slice ao n cap, .int .i64 p, .int .u64 s] 54 (0, 0))
namespace Cu
variable {w w' : World} {R n cap : Nat} {ao : Option Addr} {p s : Int}
theorem lt (h : Cu w R ao n cap p s) : R < w.heap.size := lt_of_block h
theorem c0 (h : Cu w R ao n cap p s) : w.cell? ⟨R, 0, none⟩ = some (.slice ao n cap) := by rw [cell_of h]; rfl
theorem c1 (h : Cu w R ao n cap p s) : w.cell? ⟨R, 1, none⟩ = some (.int .i64 p) := by rw [cell_of h]; rfl
theorem c2 (h : Cu w R ao n cap p s) : w.cell? ⟨R, 2, none⟩ = some (.int .u64 s) := by rw [cell_of h]; rfl
theorem fz (h : Cu w R ao n cap p s) (i : Nat) : w.frozen? ⟨R, i, none⟩ = false := free_of h
theorem keeps {E : Nat → Prop} (h : Cu w R ao n cap p s) (k : Keeps E w w') (hE : ¬ E R) : Cu w' R ao n cap p s := by
  unfold Cu at h ⊢; rw [k.block R (lt_of_block h) hE]; exact h
theorem set1 (h : Cu w R ao n cap p s) (x : Int) : Cu (w.setCell ⟨R, 1, none⟩ (.int .i64 x)) R ao n cap x s := by unfold Cu; rw [heap_setCell_same _ _ _ _ _ _ h]; rfl
theorem set2 (h : Cu w R ao n cap p s) (x : Int) : Cu (w.setCell ⟨R, 2, none⟩ (.int .u64 x)) R ao n cap p x := by unfold Cu; rw [heap_setCell_same _ _ _ _ _ _ h]; rfl
end Cu

/-- What a draw of one byte does. -/
def NextPost (R : Nat) (ao : Option Addr) (n cap p : Nat) (w : World) (e : Ending) (w' : World) : Prop :=
  ∃ (x : Nat) (s : Int), e = .returned (.int .i64 (x : Int)) ∧ x < 256 ∧ Cu w' R ao n cap ((p + 1 : Nat) : Int) s ∧ Keeps (fun k => k = R) w w'

theorem u64_nat (z : Int) : ∃ N : Nat, IntKind.u64.wrap z = (N : Int) ∧ N < 2 ^ 64 := by
  have h : 0 ≤ IntKind.u64.wrap z ∧ IntKind.u64.wrap z < 2 ^ 64 := by
    unfold IntKind.wrap
    simp [IntKind.bits, IntKind.signed]
    omega
  exact ⟨(IntKind.u64.wrap z).toNat, by omega, by omega⟩

set_option maxHeartbeats 1000000 in
set_option maxRecDepth 100000 in
theorem next_in {w : World} {R cap p : Nat} {ao : Option Addr} {cs : List Nat} {s : Int} (h : Cu w R ao cs.length cap p s) (hc : Cd w ao cs) (hp : p < cs.length) (hp2 : p ≤ 1000) :
    Calls Tryz.prog 68 #[.pointer (some ⟨R, 0, none⟩)] w (NextPost R ao cs.length cap p w) := by
  obtain ⟨hlt, hrd⟩ := hc
  obtain ⟨a, rfl, hcell⟩ := hrd (by omega)
  have hx : cs[p]? = some cs[p] := List.getElem?_eq_getElem hp
  have hxl := hlt cs[p] (List.getElem_mem hp)
  generalize cs[p] = x at hx hxl
  have cx := hcell p x hx
  have hpz : (p : Int) < (cs.length : Int) := by omega
  have c0 := h.c0; have c1 := h.c1; have c2 := h.c2; have f1 := h.fz 1; have f2 := h.fz 2
  have hw : IntKind.i64.wrap (x : Int) = (x : Int) := IntWalk.i64_in _ ⟨by omega, by omega⟩
  clear hrd hcell hlt hx
  go_enter Tryz.func68, Tryz.ntmps68
  go_wp2_with fail
  go_quiet (fail)
  go_wp2_with fail
  have k1 : Keeps (fun _ => False) w (w.drewN nq) := (Keeps.refl _ w).drewN _
  have h1 := h.keeps k1 (fun h => h)
  have cx1 : (w.drewN nq).cell? (a.add p) = some (.int .u8 (x : Int)) := cx
  clear h cx c0 c1 c2 f1 f2
  generalize w.drewN nq = w1 at k1 h1 cx1 ⊢
  have c0 := h1.c0; have c1 := h1.c1
  go_quiet (fail)
  have k2 : Keeps (fun _ => False) w1 (w1.drewN nq) := (Keeps.refl _ w1).drewN _
  have h2 := h1.keeps k2 (fun h => h)
  replace k1 := k1.trans k2
  clear c0 c1 h1 cx1 k2
  generalize w1.drewN nq = w2 at k1 h2 ⊢
  have c1 := h2.c1; have f1 := h2.fz 1
  have h3 := h2.set1 ((p : Int) + 1)
  have d2 := h3.c2; have g2 := h3.fz 2
  go_wp2_with fail
  go_ret
  exact ⟨x, _, rfl, hxl, h3.set2 _, ((k1.none (E := fun k => k = R)).trans (keepsS w2 R 1 _)).trans (keepsS _ R 2 _)⟩

theorem and_255 (N : Nat) (hN : N < 2 ^ 64) : ∃ x : Nat, bits .and .u64 ((N : Int) / 1099511627776) 255 = (x : Int) ∧ x < 256 := by
  have e : ((N : Int) / 1099511627776) = ((N / 1099511627776 : Nat) : Int) := by simp
  have h1 : N / 1099511627776 < 2 ^ 64 := Nat.lt_of_le_of_lt (Nat.div_le_self _ _) hN
  have := (bits_u64 (N / 1099511627776) 255 h1 (by decide)).1
  have e2 : ((255 : Nat) : Int) = 255 := rfl
  rw [e2] at this
  refine ⟨N / 1099511627776 &&& 255, by rw [e]; exact this, ?_⟩
  exact Nat.lt_succ_of_le Nat.and_le_right

set_option maxHeartbeats 1000000 in
set_option maxRecDepth 100000 in
theorem next_out {w : World} {R n cap p : Nat} {ao : Option Addr} {s : Int} (h : Cu w R ao n cap p s) (hp : ¬ p < n) (hp2 : p ≤ 2000000) :
    Calls Tryz.prog 68 #[.pointer (some ⟨R, 0, none⟩)] w (NextPost R ao n cap p w) := by
  have hpz : (n : Int) ≤ (p : Int) := by omega
  have c0 := h.c0; have c1 := h.c1
  clear hp
  go_enter Tryz.func68, Tryz.ntmps68
  go_wp2_with fail
  go_quiet (fail)
  have k1 : Keeps (fun _ => False) w (w.drewN nq) := (Keeps.refl _ w).drewN _
  have h1 := h.keeps k1 (fun h => h)
  clear h c0 c1
  generalize w.drewN nq = w1 at k1 h1 ⊢
  obtain ⟨N, hN, hNl⟩ := u64_nat (IntKind.u64.wrap (s * 6364136223846793005) + 1442695040888963407)
  obtain ⟨x, hx, hxl⟩ := and_255 N hNl
  have hnp : ¬ p < n := by omega
  have hwx : IntKind.i64.wrap (x : Int) = (x : Int) := IntWalk.i64_in _ ⟨by omega, by omega⟩
  have c2 := h1.c2; have f2 := h1.fz 2
  have h2 := h1.set2 (N : Int)
  have d1 := h2.c1; have g1 := h2.fz 1; have d2 := h2.c2
  have h3 := h2.set1 ((p : Int) + 1)
  have e2 := h3.c2
  go_wp2_with fail
  go_ret
  exact ⟨x, _, rfl, hxl, h3, ((k1.none (E := fun k => k = R)).trans (keepsS w1 R 2 _)).trans (keepsS _ R 1 _)⟩

theorem next_any {w : World} {R cap p : Nat} {ao : Option Addr} {cs : List Nat} {s : Int} (h : Cu w R ao cs.length cap p s) (hc : Cd w ao cs) (hp2 : p ≤ 1000) :
    Calls Tryz.prog 68 #[.pointer (some ⟨R, 0, none⟩)] w (NextPost R ao cs.length cap p w) := by
  by_cases hp : p < cs.length
  · exact next_in h hc hp hp2
  · exact next_out h hp (by omega)

theorem cell_same {w w' : World} {a : Addr} (h : w'.heap[a.block]? = w.heap[a.block]?) : w'.cell? a = w.cell? a := by
  simp [World.cell?, h]
theorem add_block (a : Addr) (i : Nat) : (a.add i).block = a.block := by
  by_cases h : i = 0 <;> simp [Addr.add, h]
theorem Cd.keeps {w w' : World} {ao : Option Addr} {cs : List Nat} {E : Nat → Prop} (h : Cd w ao cs) (k : Keeps E w w') (hb : ∀ a, ao = some a → a.block < w.heap.size ∧ ¬ E a.block) : Cd w' ao cs := by
  obtain ⟨h1, h2⟩ := h
  refine ⟨h1, fun hl => ?_⟩
  obtain ⟨a, ha, h3⟩ := h2 hl
  refine ⟨a, ha, fun i c hc => ?_⟩
  rw [cell_same (k.block (a.add i).block (by rw [add_block]; exact (hb a ha).1) (by rw [add_block]; exact (hb a ha).2))]
  exact h3 i c hc

set_option maxHeartbeats 1000000 in
set_option maxRecDepth 100000 in
theorem pick_any {w : World} {R cap p : Nat} {ao : Option Addr} {cs : List Nat} {s : Int} (h : Cu w R ao cs.length cap p s) (hc : Cd w ao cs) (hp2 : p ≤ 1000) :
    Calls Tryz.prog 49 #[.pointer (some ⟨R, 0, none⟩), .int .i64 28] w fun e w' => ∃ (k : Nat) (s' : Int), e = .returned (.int .i64 (k : Int)) ∧ k < 28 ∧ Cu w' R ao cs.length cap ((p + 1 : Nat) : Int) s' ∧ Keeps (fun k => k = R) w w' := by
  go_enter Tryz.func49, Tryz.ntmps49
  go_wp2_with (first
    | (go_at_call 68; refine (next_any h hc hp2).mono ?_; rintro e w2 ⟨x, s', rfl, hx, hC, hk⟩; have hm : ((x : Int)).tmod 28 = ((x % 28 : Nat) : Int) := (by rw [Int.tmod_eq_emod_of_nonneg (by omega)]; omega); have hml : x % 28 < 28 := Nat.mod_lt _ (by omega); generalize x % 28 = k at hm hml))
  go_ret
  exact ⟨k, s', rfl, hml, hC, hk⟩

end Go.Proofs.YtmlgmhnplicflaaGreat

/-
  The laws' draws: a text.
-/
namespace Go.Proofs.YtmlgmhnplicflaaGreat
open Go.RowKit
set_option linter.unusedVariables false

theorem Tryz.infoByte : (Tryz.prog.info? 5).map (fun i => (i.zero, i.size, i.bytes)) = some (some (.int .u8 0), 1, 1) := by kernel_rfl

/-- One byte more. -/
theorem byte_snoc {w : World} {B : Nat} {x : Value} {l : List UInt8} (h : w.ownsRow B 5 1 x l.length (Esc.cellsOf l)) (hB : B ≤ w.heap.size) (hlen : l.length ≤ 2000) (c : UInt8) :
    ∃ x' w', Sem.run Tryz.prog (Builtin.append_ #[22, 22] 22 #[x, .slice (some ⟨w.heap.size, 0, none⟩) 1 1]) (w.alloc (.cells #[.int .u8 (c.toNat : Int)] 5)) = .ok x' w' ∧ w'.ownsRow B 5 1 x' (l ++ [c]).length (Esc.cellsOf (l ++ [c])) ∧ (∃ ao cap, x' = .slice ao (l ++ [c]).length cap) ∧ Keeps (fun k => x.ownBlock = some k) w w' := by
  obtain ⟨i0, hi, hz0, hz1, hz2⟩ := info_parts Tryz.infoByte
  obtain ⟨x', w', hrun, ho, hg, hblk⟩ := app_any (P := Tryz.prog) (w.alloc (.cells #[.int .u8 (c.toNat : Int)] 5)) B 22 22 5 i0 _ 1 1 Tryz.underlying22 hi hz0 hz1 hz2 rfl (by decide) x l.length (Esc.cellsOf l) (h.alloc _) ⟨w.heap.size, 0, none⟩ 1 1 [.int .u8 (c.toNat : Int)] rfl (cells_new w _ [_]) (by simp; rfl) (by unfold maxLen; omega) (by omega) (by simp; omega)
  have e1 : Esc.cellsOf (l ++ [c]) = Esc.cellsOf l ++ [.int .u8 (c.toNat : Int)] := by simp [Esc.cellsOf]
  have e2 : (l ++ [c]).length = l.length + 1 := by simp
  rw [e1, e2]
  exact ⟨x', w', hrun, ho, own_form ho, ((Keeps.refl _ w).alloc _).grown hg (fun k hk _ => hk)⟩

set_option maxHeartbeats 1000000 in
set_option maxRecDepth 100000 in
theorem bytes_any {w : World} {R cap p k : Nat} {ao : Option Addr} {cs : List Nat} {s : Int} (h : Cu w R ao cs.length cap p s) (hc : Cd w ao cs) (hb : ∀ a, ao = some a → a.block < w.heap.size ∧ a.block ≠ R) (hp2 : p ≤ 100) (hk : k < 28) :
    Calls Tryz.prog 48 #[.pointer (some ⟨R, 0, none⟩), .int .i64 k] w fun e w' => ∃ l : List UInt8, e = .returned (.string (Esc.ba l)) ∧ l.length = k ∧ Keeps (fun k => k = R) w w' := by
  have hR := h.lt
  go_enter Tryz.func48, Tryz.ntmps48
  go_wp2_with fail
  go_loopg [1, 5] (k + 1) (fun gl x1 x5 wr => ∃ (i p' : Nat) (s' : Int) (l : List UInt8), i + 1 = gl ∧ l.length + i = k ∧ p' ≤ p + l.length ∧ x1 = .int .i64 (i : Int) ∧ wr.ownsRow w.heap.size 5 1 x5 l.length (Esc.cellsOf l) ∧ (∃ ao5 cp5, x5 = .slice ao5 l.length cp5) ∧ Cu wr R ao cs.length cap p' s' ∧ Cd wr ao cs ∧ Keeps (fun k => k = R) w wr)
  case atStart => exact ⟨k, p, s, [], rfl, by simp, by simp, rfl, World.ownsRow_nil _ _ _ _, ⟨_, _, rfl⟩, h, hc, Keeps.refl _ _⟩
  case round =>
    clear h hc
    obtain ⟨i, p', s', l, hgl, hl, hpp, rfl, hrow, ⟨ao5, cp5, rfl⟩, hC, hD, hK⟩ := hrel
    have HGL : Hid (i + 1 = gk) := hgl
    have HL : Hid (l.length + i = k) := hl
    have hsz := hK.size
    have hl28 : l.length ≤ 28 := by omega
    cases i with
    | zero =>
      have hcv := Esc.conv_own hrow
      have HL2 : Hid (l.length = k) := (by show _ = _; have := HL.out; omega)
      clear hgl hl
      go_wp2_with fail
      go_ret
      exact ⟨l, rfl, HL2.out, hK⟩
    | succ i =>
      have hiz : (0 : Int) < ((i + 1 : Nat) : Int) := by omega
      have HWI : Hid (wrap64 (i : Int) = (i : Int)) := (by show _ = _; unfold wrap64; omega)
      clear hgl hl
      go_wp2_with (first
        | (go_at_call 68; refine (next_any hC hD (by omega)).mono ?_; rintro e w2 ⟨x, s2, rfl, hx, hC2, hk2⟩; have hrow2 := ownsRow_keeps hrow hk2 (fun k hk h => by have := (hrow.lt k hk).1; omega); have hs2 := hk2.size; have hcx : (UInt8.ofNat x).toNat = x := (by simp [Nat.mod_eq_of_lt hx]); have hw8 : IntKind.u8.wrap (x : Int) = (((UInt8.ofNat x).toNat : Nat) : Int) := (by rw [hcx]; exact IntWalk.u8_in _ (by omega)); obtain ⟨nv', w3, hrun, hrow3, ⟨ao6, cp6, hnv⟩, hk3⟩ := byte_snoc hrow2 (by omega) (by omega) (UInt8.ofNat x); generalize hn6 : (l ++ [UInt8.ofNat x]).length = n6 at hnv hrow3; subst hnv; have HN6 : Hid ((l ++ [UInt8.ofNat x]).length = n6) := hn6; generalize hc8 : UInt8.ofNat x = c8 at hw8 hrun hrow3 HN6; clear hn6 hcx hc8)
        | (at_builtin; refine wpList_append_run rfl _ _ _ _ rfl rfl _ _ _ _ rfl rfl hrun ?_))
      go_roundg (i + 1)
      case measure => have := HGL.out; omega
      case rel =>
        have hbo : ∀ j, (Value.slice ao5 l.length cp5).ownBlock = some j → w.heap.size ≤ j := fun j hj => (hrow.lt j hj).1
        refine ⟨i, p' + 1, s2, l ++ [c8], rfl, by have := HL.out; simp; omega, by simp; omega, congrArg (Value.int .i64) HWI.out, by rw [HN6.out]; exact hrow3, ⟨ao6, cp6, by rw [HN6.out]⟩, hC2.keeps hk3 (fun h => by have := hbo _ h; omega), ?_, ?_⟩
        · refine (hD.keeps hk2 (fun a ha => ⟨by have := (hb a ha).1; omega, (hb a ha).2⟩)).keeps hk3 (fun a ha => ⟨by have := (hb a ha).1; omega, fun h => by have h1 := hbo _ h; have h2 := (hb a ha).1; omega⟩)
        · exact (hK.trans hk2).trans' hk3 (fun j hj h => by have := hbo j h; omega)

set_option maxHeartbeats 1000000 in
set_option maxRecDepth 100000 in
theorem texts_any {w : World} {cap : Nat} {ao : Option Addr} {cs : List Nat} (hc : Cd w ao cs) (hb : ∀ a, ao = some a → a.block < w.heap.size) :
    Calls Tryz.prog 26 #[.slice ao cs.length cap] w fun e w' => ∃ l : List UInt8, e = .returned (.string (Esc.ba l)) ∧ l.length < 28 ∧ Keeps (fun _ => False) w w' := by
  have hk0 : Keeps (fun _ => False) w (w.alloc (.cells #[.slice ao cs.length cap, .int .i64 0, .int .u64 0] 54)) := (Keeps.refl _ w).alloc _
  have hC : Cu (w.alloc (.cells #[.slice ao cs.length cap, .int .i64 0, .int .u64 0] 54)) w.heap.size ao cs.length cap ((0 : Nat) : Int) 0 := heap_alloc_new w _
  have hD := hc.keeps hk0 (fun a ha => ⟨hb a ha, fun h => h⟩)
  have hp := pick_any hC hD (by omega)
  clear hc hC
  go_enter Tryz.func26, Tryz.ntmps26
  go_wp2_with (first
    | (go_at_call 49; refine hp.mono ?_; rintro e w2 ⟨k, s', rfl, hk, hC2, hk2⟩; have hD2 := hD.keeps hk2 (fun a ha => ⟨Nat.lt_of_lt_of_le (hb a ha) hk0.size, fun h => by have := hb a ha; omega⟩); have hs2 := Nat.le_trans hk0.size hk2.size)
    | (go_at_call 48; refine (bytes_any hC2 hD2 (fun a ha => ⟨by have := hb a ha; omega, by have := hb a ha; omega⟩) (by omega) hk).mono ?_; rintro e w3 ⟨l, rfl, hl, hk3⟩))
  go_ret
  exact ⟨l, rfl, by omega, (hk0.trans' hk2 (fun i hi h => by omega)).trans' hk3 (fun i hi h => by omega)⟩

end Go.Proofs.YtmlgmhnplicflaaGreat

/-
  The law on Escape and Whole: bytes of what is given.
-/
namespace Go.Proofs.YtmlgmhnplicflaaGreat
open Go.RowKit
set_option linter.unusedVariables false

set_option maxHeartbeats 1000000 in
set_option maxRecDepth 100000 in
theorem wByte_any {w : World} {cap i : Nat} {ao : Option Addr} {cs : List Nat} (hc : Cd w ao cs) (hn : cs.length ≤ 1048576) (hi : i ≤ 1) :
    Calls Tryz.prog 16 #[.slice ao cs.length cap, .int .i64 (i : Int)] w fun e w' => ∃ x : Nat, e = .returned (.int .i64 (x : Int)) ∧ x < 256 ∧ w' = w := by
  obtain ⟨h1, h2⟩ := hc
  by_cases h0 : cs.length = 0
  · have hz : ((cs.length : Int) == 0) = true := by simp; exact List.eq_nil_of_length_eq_zero h0
    clear h0
    go_enter Tryz.func16, Tryz.ntmps16
    go_wp2_with fail
    go_ret
    exact ⟨0, rfl, by omega, rfl⟩
  · obtain ⟨a, rfl, h3⟩ := h2 (by omega)
    have hlt : i % cs.length < cs.length := Nat.mod_lt _ (by omega)
    have hx : cs[i % cs.length]? = some cs[i % cs.length] := List.getElem?_eq_getElem hlt
    have hxl := h1 _ (List.getElem_mem hlt)
    have cx := h3 _ _ hx
    have hm : ((i : Int)).tmod (cs.length : Int) = ((i % cs.length : Nat) : Int) := by rw [Int.tmod_eq_emod_of_nonneg (by omega)]; simp
    have hz : ((cs.length : Int) == 0) = false := by simp; intro h; simp [h] at h0
    generalize cs[i % cs.length] = x at hx hxl cx
    generalize i % cs.length = r at hlt hm cx
    have hrz : (r : Int) < (cs.length : Int) := by omega
    have hw : IntKind.i64.wrap (x : Int) = (x : Int) := IntWalk.i64_in _ ⟨by omega, by omega⟩
    clear h2 h3 hx h1
    go_enter Tryz.func16, Tryz.ntmps16
    go_wp2_with fail
    go_ret
    exact ⟨x, rfl, hxl, rfl⟩

end Go.Proofs.YtmlgmhnplicflaaGreat
