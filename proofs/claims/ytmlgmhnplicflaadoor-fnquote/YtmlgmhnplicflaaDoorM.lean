import Derived.Test.YtmlgmhnplicflaaDoorL
import Derived.Test.YtmlgmhnplicflaaDoorI
import Derived.Laws.StructEq
import Derived.Test.YtmlgmhnplicflaaDoorE
import Derived.Test.YtmlgmhnplicflaaDoorTie
import Derived.Test.YtmlgmhnplicflaaDoorCards
import Derived.ProofKit
import Derived.OpenShut
import Derived.ShutString
import Derived.Lay
import Derived.Carry
import Derived.Handy
import Derived.ChangeVars
import Derived.JoinedOf
import Derived.SevenTiedAt
import Derived.Stop.LaidErr
import Derived.Lib.LaidTab

/-
  The law on drawn texts and their quotings: the walk.
-/
namespace Go.Proofs.YtmlgmhnplicflaaDoor.Quo
open Go.RowKit
set_option linter.unusedVariables false
set_option maxRecDepth 100000

theorem unq_eql (ok : Bool) (at_ : Int) (tx : ByteArray) (w : World) : (binOp BinOp.eql 26 (.agg #[.bool ok, .int .i64 at_, .string tx]) (.agg #[.bool ok, .int .i64 at_, .string tx])).run Tryd.prog w = .ok (.bool true) w := by
  have hs : Tryd.prog.stoodInHeld 26 = false := by kernel_rfl
  simp [go_sem, hs]

set_option maxHeartbeats 4000000 in
theorem law_quo {w : World} {ao : Option Addr} {cap : Nat} {cs : List Nat} (hc : Dc w ao cs) (ha : ∀ a, ao = some a → a.block < w.heap.size) (hlm : cs.length ≤ 9223372036854775807) (hS : Sg w) :
    Calls Tryd.prog 3 #[.slice ao cs.length cap] w fun e w' => e = .returned (.bool true) ∧ Keeps (fun _ => False) w w' := by
  by_cases hl : cs.length ≤ 1048576
  · have hz : ¬ (1048576 : Int) < (cs.length : Int) := by omega
    have hT := texts_any (cap := cap) hl hc ha
    have HDr : Hid (∀ w', Keeps (fun _ => False) w w' → Calls Tryd.prog 9 #[.slice ao cs.length cap] w' fun e w2 => ∃ t : ByteArray, e = .returned (.string t) ∧ t.size ≤ 200 ∧ Keeps (fun _ => False) w' w2) := fun w' k => drawUnq_any hl (hc.keeps k (fun a h => ⟨ha a h, fun h => h⟩)) (fun a h => Nat.lt_of_lt_of_le (ha a h) k.size)
    go_enter Tryd.func3, Tryd.ntmps3
    go_upto_region 4 with (go_at_call 5; refine hT.mono ?_; clear hT; rintro e w1 ⟨t, rfl, ht, hk1⟩)
    have hS1 := hS.keeps hk1 (fun h => h)
    have hq := implQuote_any (w := w1) (s := t) hS1 (by omega)
    go_upto_region 5 with (go_at_call 6; refine hq.mono ?_; clear hq; rintro e w2 ⟨rfl, hb2⟩)
    have k2 : Keeps (fun _ => False) w1 w2 := Keeps.ofBelow hb2 (fun k h1 h2 => absurd h2 (by omega))
    have hK2 := hk1.trans k2
    have hS2 := hS1.keeps k2 (fun h => h)
    clear hb2 k2 hk1 hS1
    have htl : t.data.toList.length ≤ 28 := by rw [Array.length_toList]; exact ht
    have hbt : ba t.data.toList = t := by simp [ba]
    have hqn : quoteRef t.data.toList = 34 :: qls t.data.toList ++ [34] := by rw [quoteRef, if_neg (by omega)]
    have hqs : (ba (quoteRef t.data.toList)).size ≤ 200 := by
      have h1 := qls_le t.data.toList
      rw [hqn]
      simp [ba, ByteArray.size]
      omega
    have HIn : Hid (∀ (k : Nat) (h : k < (ba (quoteRef t.data.toList)).size), 32 ≤ (ba (quoteRef t.data.toList))[k].toNat ∧ (ba (quoteRef t.data.toList))[k].toNat ≤ 126) := fun k h => quote_in (List.getElem_mem _)
    have hUn : ∀ w, Sg w → Calls Tryd.prog 7 #[.string (ba (quoteRef t.data.toList))] w fun e w' => e = .returned (.agg #[.bool true, .int .i64 0, .string t]) ∧ Keeps (fun _ => False) w w' := fun w hw => by
      refine (implUnquote_any hw (by omega)).mono ?_
      rintro e w' ⟨rfl, hk⟩
      rw [unq_quote (by omega)]
      exact ⟨by simp only [uOk, uAt, uTx, hbt]; rfl, hk⟩
    have HSq : Hid (∀ w, Calls Tryd.prog 8 #[.string t] w fun e w' => e = .returned (.string (ba (quoteRef t.data.toList))) ∧ Keeps (fun _ => False) w w') := fun w => by
      refine (specQuote_any (w := w) (s := t) (by omega)).mono ?_
      rintro e w' ⟨rfl, hb⟩
      exact ⟨rfl, Keeps.ofBelow hb (fun k h1 h2 => absurd h2 (by omega))⟩
    have HUn : Hid (∀ w, Sg w → Calls Tryd.prog 7 #[.string (ba (quoteRef t.data.toList))] w fun e w' => e = .returned (.agg #[.bool true, .int .i64 0, .string t]) ∧ Keeps (fun _ => False) w w') := hUn
    clear hUn hbt hqn htl
    generalize ba (quoteRef t.data.toList) = q at *
    go_wp2_with fail
    go_loopg [5] (q.size + 1) (fun gl s5 wr => ∃ k : Nat, k + gl = q.size + 1 ∧ k ≤ q.size ∧ s5 = .int .i64 (k : Int) ∧ wr = w2)
    case atStart => exact ⟨0, by omega, by omega, rfl, rfl⟩
    case round =>
      obtain ⟨k, hgl, hk, rfl, hwr⟩ := hrel
      subst wr
      by_cases hlt : k < q.size
      · have HG : Hid (k + gk = q.size + 1) := hgl
        clear hgl
        have hkz : (k : Int) < (q.size : Int) := by omega
        obtain ⟨i1, i2⟩ := HIn.out k hlt
        have z1 : ¬ (q[k].toNat : Int) < 32 := by omega
        have z2 : ¬ (126 : Int) < (q[k].toNat : Int) := by omega
        clear i1 i2
        go_wp2_with fail
        go_roundg (gk - 1)
        case measure => have := HG.out; omega
        case rel => exact ⟨k + 1, by have := HG.out; omega, by omega, congrArg (Value.int .i64) (by omega), rfl⟩
      · have hkz : ¬ (k : Int) < (q.size : Int) := by omega
        clear hgl
        have hcu := HUn.out w2 hS2
        go_upto_region 11 with (go_at_call 7; refine hcu.mono ?_; clear hcu; rintro e w3 ⟨rfl, hk3⟩)
        have kA := hk3.alloc (.cells #[.bool true, .int .i64 0, .string t] 26)
        have bG : Bk (w3.alloc (.cells #[.bool true, .int .i64 0, .string t] 26)) w3.heap.size 26 [.bool true, .int .i64 0, .string t] := bk_new w3 _ _
        have hK4 := hK2.trans kA
        have hS4 := hS2.keeps kA (fun h => h)
        generalize w3.alloc (.cells #[.bool true, .int .i64 0, .string t] 26) = w4 at hK4 hS4 bG ⊢
        generalize w3.heap.size = PG at bG ⊢
        have c0 : w4.cell? ⟨PG, 0, none⟩ = some (.bool true) := by rw [bG.cell]; rfl
        have c2 : w4.cell? ⟨PG, 2, none⟩ = some (.string t) := by rw [bG.cell]; rfl
        have hcs := HSq.out w4
        clear bG kA hk3
        go_upto_region 13 with (go_at_call 8; refine hcs.mono ?_; clear hcs; rintro e w5 ⟨rfl, hk5⟩)
        have hK5 := hK4.trans hk5
        have hS5 := hS4.keeps hk5 (fun h => h)
        have hcd := HDr.out w5 hK5
        go_upto_region 14 with (go_at_call 9; refine hcd.mono ?_; clear hcd; rintro e w6 ⟨x, rfl, hx, hk6⟩)
        have hK6 := hK5.trans hk6
        have hS6 := hS5.keeps hk6 (fun h => h)
        have hSpec := fun w => specUnquote_any (w := w) (s := x) (by omega)
        have hImpl := implUnquote_any (s := x) hS6 (by omega)
        unfold UqP at hSpec hImpl
        generalize uOk (unqRef x) = ok at hSpec hImpl
        generalize (uAt (unqRef x) : Int) = at_ at hSpec hImpl
        generalize uTx (unqRef x) = tx at hSpec hImpl
        have heq := unq_eql ok at_ tx
        clear hS hS2 hS4 hS5 hS6
        go_wp2_with (first
          | (go_at_call 7; refine hImpl.mono ?_; rintro e w7 ⟨rfl, hk7⟩)
          | (go_at_call 10; refine (hSpec _).mono ?_; rintro e w8 ⟨rfl, hk8⟩))
        go_ret
        exact ⟨rfl, (hK6.trans hk7).trans hk8⟩
  · have hz : (1048576 : Int) < (cs.length : Int) := by omega
    go_enter Tryd.func3, Tryd.ntmps3
    go_wp2_with fail
    go_ret
    exact ⟨rfl, Keeps.refl _ _⟩

end Go.Proofs.YtmlgmhnplicflaaDoor.Quo

/-
  The law on drawn texts and their quotings, whatever bytes are given; its card.
-/
namespace Go.Proofs.YtmlgmhnplicflaaDoor.fnQuote
open Quo Go.ChangeShapes Go.WideShapes Go.ChangeAt Go.RowKit
set_option linter.unusedVariables false

theorem own : ownKnob Tryd.prog.godebug = none := by kernel_rfl
theorem laidOut : laidOutB Tryd.prog = true := by kernel_rfl
theorem cells1 : Tryd.prog.cellsOf 5 = 1 := by kernel_rfl

/-- A list of bytes as it is given. -/
def Ar (W : World) (v : Value) : Prop := ∃ (ao : Option Addr) (cap : Nat) (cs : List Nat), v = .slice ao cs.length cap ∧ cs.length ≤ 9223372036854775807 ∧ Dc W ao cs ∧ ∀ a, ao = some a → a.block < W.heap.size

theorem has_lt {W : World} {base : Nat} {a : Addr} {e : TypeId} {n : Nat} (h : W.has Tryd.prog .any base a e n) : a.block < W.heap.size := by
  unfold World.has at h
  apply Decidable.byContradiction
  intro hn
  have : W.heap[a.block]? = none := Array.getElem?_eq_none (by omega)
  simp [World.shape?, this] at h

set_option maxRecDepth 100000 in
theorem open_arg {H : Type} {enc : TypeId × Value → H} {W : World} {base : Nat} {v : Value} {d : DataW H} {p : List MemPlace} (hv : Value.okWide Tryd.prog W .any base 22 v) (h : DataW.Trod enc Tryd.prog W 0 (fun _ => true) true 22 v d p) : Ar W v := by
  obtain ⟨fuel, hf⟩ := h
  obtain ⟨a0, len, cap, rfl⟩ := okWide_slice Tryd.underlying22 hv
  rcases open_ints Tryd.underlying22 Tryd.underlying5 cells1 hf with ⟨hcs, hx⟩ | ⟨a, len', cap', zs, hcs, _, hl, hm, hz, hx, hcell, hwz⟩
  · simp [Value.cells] at hcs
    obtain ⟨rfl, rfl, rfl⟩ := hcs
    exact ⟨none, 0, [], rfl, by simp, ⟨by simp, by simp⟩, fun a h => by cases h⟩
  · simp [Value.cells] at hcs
    obtain ⟨rfl, rfl, rfl⟩ := hcs
    simp only [if_true] at hz
    have hw : ∀ n ∈ zs, 0 ≤ n ∧ n < 256 := fun n hn => by
      have := hwz n hn
      simp only [Lit.wf, Bool.and_eq_true, decide_eq_true_eq] at this
      have h1 : IntKind.u8.min = 0 := rfl
      have h2 : IntKind.u8.max = 255 := rfl
      omega
    have hlen : ((zs.take len).map Int.toNat).length = len := by simp; omega
    refine ⟨some a, cap, (zs.take len).map Int.toNat, by rw [hlen], ?_, ⟨?_, fun _ => ⟨a, rfl, fun i c hc => ?_⟩⟩, ?_⟩
    · rw [hlen]; unfold maxLen at hm; omega
    · intro c hc
      obtain ⟨n, hn, rfl⟩ := List.mem_map.1 hc
      have := hw n (List.mem_of_mem_take hn)
      omega
    · obtain ⟨hi, _⟩ := List.getElem?_eq_some_iff.1 hc
      have hi' : i < len := by rw [hlen] at hi; exact hi
      have hiz : i < zs.length := by omega
      rw [hcell i hiz]
      have hm2 := hw _ (List.getElem_mem hiz)
      simp [hi', hiz] at hc
      subst hc
      simp [hiz]
      omega
    · intro a' ha
      cases ha
      have h0 : Cell.okWide Tryd.prog W .any base 22 (.slice (some a) len cap) := by
        simpa [Value.okWide, Tryd.underlying22] using hv
      have h1 : Cell.ok Tryd.prog W .any base 22 (.slice (some a) len cap) := by
        simpa [Cell.okWide, Tryd.underlying22] using h0
      simp only [Cell.ok, Tryd.underlying22] at h1
      exact has_lt h1.2.2

set_option maxRecDepth 100000 in
theorem lifted (os : Os) (started : os.Started) (H : Type) (enc : TypeId × Value → H) :
    ReturnsInHanded {} Tryd.checked os 3 .any (fun w args => (Rows.fnQuoteSpec.pre enc Tryd.prog Tryd.f3 [] false w args ∧ laidMetH Tryd.prog Rows.fnQuoteRow.laid w) ∧ sizedMet enc Tryd.prog Tryd.f3 (OpenSpec.ofChange Rows.fnQuoteSpec) false w args)
      (Rows.fnQuoteSpec.post enc Tryd.prog Tryd.f3 false true false false) := by
  refine returnsInHanded_of_change_and (C := Tryd.checked) (X := fun w _ => laidMetH Tryd.prog Rows.fnQuoteRow.laid w) (fun _ _ _ hh h => h.of_heap hh) own started (by kernel_rfl) Tryd.func3
    (ChangeSpec.witness_shaped (enc := enc) (C := Tryd.checked) (os := os) (X := fun w _ => laidMetH Tryd.prog Rows.fnQuoteRow.laid w) false (World.laidAll Tryd.prog os Rows.fnQuoteRow.laid) #[.slice none 0 0] 8 (World.laidAll_os _ _ _)
      (World.shaped_of_ZipB (by kernel_rfl) (by kernel_rfl)) (by kernel_rfl) (by kernel_rfl) (by kernel_rfl)
      (by rw [MakeChecks.laidMetH_plain _ _ _ (by kernel_rfl)]; exact laidMet_laidAll _ (by kernel_rfl) (by kernel_rfl))) ?_
  intro W base args ds gs before hval0 hW _ _ hL _
  rw [MakeChecks.laidMetH_plain _ _ _ (by kernel_rfl)] at hL
  have hval : ∀ (j : Nat) t v, Tryd.f3.params[j]? = some t → args[j]? = some v → Value.okWide Tryd.prog W .any base t v := hval0
  have hW' := hW
  obtain ⟨p, q, hA0, hV0, rfl, hfz, hnd⟩ := hW
  have hA : DataW.TrodAll enc Tryd.prog W 0 (fun _ => true) true Tryd.f3.params.toList args.toList ds p := hA0
  have hV : DataW.TrodVars enc Tryd.prog W (fun _ => true) ["loop.example/twist/impl.signs"] gs q := hV0
  rw [Tryd.params3] at hA hval
  obtain ⟨v0, d0, rfl, rfl, h0⟩ := trodAll_one hA
  obtain ⟨d, rfl, hvars⟩ := signs_stays hL hV
  clear hA0 hV0 hval0
  have hlt : ∀ x ∈ p, x.block < W.heap.size := fun x hx => hW'.lt x (List.mem_append_left _ hx)
  obtain ⟨ao, cap, cs, rfl, hlm, hc, hb⟩ := open_arg (hval 0 22 v0 rfl rfl) h0
  refine (law_quo hc hb hlm (sg_of hL)).mono fun e W' ⟨he, hk⟩ => ?_
  subst he
  have hn : Below W.heap.size W W' := hk.below _ (fun _ _ h => h) (Nat.le_refl _)
  have t0 := Below.trod laidOut (by kernel_rfl) (of_decide_eq_true (by kernel_rfl)) h0 hn (fun x hx => hlt x hx)
  exact ⟨_, rfl, _, _, _, [], _, _, hW', trodAll_mk1 (shut_bool Tryd.underlying4 _), trodAll_mk1 t0, hvars W' _ hn, hn.frame _, fun h => by cases h⟩

theorem over : Rows.fnQuoteRow.holds Tryd.pinned (OpenSpec.ofChange Rows.fnQuoteSpec) :=
  OpenClaim.holds_of_wide 3 Tryd.f3 rfl rfl rfl rfl rfl rfl rfl ⟨rfl, rfl, rfl, rfl, rfl⟩ rfl rfl rfl rfl rfl (by kernel_rfl) Tryd.func3 (by kernel_rfl)
    (of_decide_eq_true (by kernel_rfl)) (by unfold Func.isWrapper; first | (rw [if_pos (by decide +kernel)]; kernel_rfl) | (rw [if_neg (by decide +kernel)]; exact ⟨rfl, rfl⟩))
    (fun os started H enc _ => lifted os started H enc)

end Go.Proofs.YtmlgmhnplicflaaDoor.fnQuote
namespace Go.Proofs.YtmlgmhnplicflaaDoor
open Go

theorem fnquote_holds : Rows.FnQuoteCardSaid :=
  Claim7.holds_tied_plain_at .later [] [.data] true Rows.fnQuoteCard.stood.harness true fnQuote.over (fun _ h => by cases h) (by kernel_rfl) (fun _ h => by cases h) fnQuote_row_tie rfl ⟨rfl, rfl⟩ (by kernel_rfl) rfl
    (fun f fn hf hfn => by
      obtain rfl : f = 3 := Option.some.inj ((show Tryd.prog.funcNamed Rows.fnQuoteRow.func = some 3 by kernel_rfl).symm.trans hf) |>.symm
      obtain rfl : fn = Tryd.f3 := (Option.some.inj (Tryd.func3.symm.trans hfn)).symm
      exact ⟨by kernel_rfl, fun j t ht => by
        rw [Tryd.params3] at ht
        have hm : t ∈ [22] := by simpa using Array.mem_of_getElem? ht
        have hall : ([22].all fun u => !Tryd.prog.wantsStandIn u) = true := by kernel_rfl
        exact (show Tryd.prog.wantsStandIn t = false by simpa using List.all_eq_true.1 hall t hm)⟩)
    (by kernel_rfl)
#print axioms fnquote_holds
end Go.Proofs.YtmlgmhnplicflaaDoor
