import Derived.Test.YtmlgmhnplicflaaDoorD
import Derived.LaidEql
import Derived.Stop.Asserts
import Derived.RowKitTokens

/-
  errors.As at the error of a template: Go's own text, walked.
-/
namespace Go.Proofs.YtmlgmhnplicflaaDoor
open Go.RowKit Go.Extern.Stop Go.Stop Go.Extern
set_option linter.unusedVariables false

theorem as_nil (t : Value) (w : World) : Calls Tryd.prog 21 #[.nilIface, t] w fun e w' => e = .returned (.bool false) ∧ w' = w := by
  go_enter Tryd.func21, Tryd.ntmps21
  go_wp2
  go_ret
  exact ⟨rfl, rfl⟩

theorem as_valueOfP (t : Addr) (w : World) : (ReflectliteValue.unpack (.iface 56 (.pointer (some t)))).run Tryd.prog w
    = .ok (.agg #[.pointer (some ⟨2, 56, none⟩), .pointer (some ⟨w.heap.size, 0, none⟩), .int .u64 150]) (w.alloc (.cells #[.pointer (some t)] 56)) := by kernel_rfl
theorem as_typeP (a : Addr) (w : World) : (ReflectliteValue.methodAny (ReflectliteValue.valueError "reflectlite.Value.Type" 0) (fun t _ _ _ => ReflectliteType.toType t) #[.agg #[.pointer (some ⟨2, 56, none⟩), .pointer (some a), .int .u64 150]]).run Tryd.prog w
    = .ok (.iface 83 (.agg #[.pointer (some ⟨2, 56, none⟩)])) w := by kernel_rfl
theorem as_methodKind (h : Value) (w : World) : (Go.method 225 83 (.agg #[h]) "Kind").run Tryd.prog w = .ok (59, h) w := by kernel_rfl
theorem as_kindP (w : World) : ((ReflectliteType.abiMethod fun t => (fun a : Nat => Value.int IntKind.u8 (a : Int)) <$> Rtype.kind t) #[.pointer (some ⟨2, 56, none⟩)]).run Tryd.prog w = .ok (.int .u8 22) w := by kernel_rfl
theorem as_kindS (w : World) : ((ReflectliteType.abiMethod fun t => (fun a : Nat => Value.int IntKind.u8 (a : Int)) <$> Rtype.kind t) #[.pointer (some ⟨2, 54, none⟩)]).run Tryd.prog w = .ok (.int .u8 25) w := by kernel_rfl
theorem as_rlm (z : Sem Value) (f : TypeId → Addr → Nat → Nat → Sem Value) (v : Value) :
    ReflectliteValue.method z f #[v] = (do match ← ReflectliteValue.parts v with | none => z | some (t, a, fl) => f t a fl (fl % 32)) := rfl
theorem as_partsP (a : Addr) (w : World) : (ReflectliteValue.parts (.agg #[.pointer (some ⟨2, 56, none⟩), .pointer (some a), .int .u64 150])).run Tryd.prog w = .ok (some (56, a, 150)) w := by kernel_rfl
theorem as_isNilP (a p : Addr) (W : World) (ha : W.cell? a = some (.pointer (some p))) :
    (ReflectliteValue.method (ReflectliteValue.valueError "reflectlite.Value.IsNil" 0) ReflectliteValue.isNil #[.agg #[.pointer (some ⟨2, 56, none⟩), .pointer (some a), .int .u64 150]]).run Tryd.prog W = .ok (.bool false) W := by
  rw [as_rlm]
  simp only [Sem.run_bind, as_partsP, Result.andThen]
  simp [ReflectliteValue.isNil, loadVar, isAgg, underlying, Tryd.underlying56, ha, Result.andThen]
theorem as_methodElem (h : Value) (w : World) : (Go.method 225 83 (.agg #[h]) "Elem").run Tryd.prog w = .ok (70, .agg #[h]) w := by kernel_rfl
theorem as_methodImpl (h : Value) (w : World) : (Go.method 225 83 (.agg #[h]) "Implements").run Tryd.prog w = .ok (71, .agg #[h]) w := by kernel_rfl
theorem as_methodAssign (h : Value) (w : World) : (Go.method 225 83 (.agg #[h]) "AssignableTo").run Tryd.prog w = .ok (68, .agg #[h]) w := by kernel_rfl
theorem as_elemP (w : World) : (ReflectliteType.method ReflectliteType.elem #[.agg #[.pointer (some ⟨2, 56, none⟩)]]).run Tryd.prog w = .ok (.iface 83 (.agg #[.pointer (some ⟨2, 54, none⟩)])) w := by kernel_rfl
theorem as_implS (w : World) : (ReflectliteType.relation "Implements" ReflectliteType.implements_ #[.agg #[.pointer (some ⟨2, 54, none⟩)], .iface 83 (.agg #[.pointer (some ⟨2, 50, none⟩)])]).run Tryd.prog w = .ok (.bool true) w := by kernel_rfl
theorem as_typeOfS (v : Value) (w : World) : (ReflectliteType.typeOf #[.iface 54 v]).run Tryd.prog w = .ok (.iface 83 (.agg #[.pointer (some ⟨2, 54, none⟩)])) w := by kernel_rfl
theorem as_assignS (w : World) : (ReflectliteType.relation "AssignableTo" ReflectliteType.assignableTo #[.agg #[.pointer (some ⟨2, 54, none⟩)], .iface 83 (.agg #[.pointer (some ⟨2, 54, none⟩)])]).run Tryd.prog w = .ok (.bool true) w := by kernel_rfl
theorem as_valueOfS (n : Int) (w : World) : (ReflectliteValue.unpack (.iface 54 (.agg #[.int .i64 n]))).run Tryd.prog w
    = .ok (.agg #[.pointer (some ⟨2, 54, none⟩), .pointer (some ⟨w.heap.size, 0, none⟩), .int .u64 153]) (w.alloc (.cells #[.int .i64 n] 54)) := by kernel_rfl
theorem as_elemOfP (w : World) : (Rtype.elem? 56).run Tryd.prog w = .ok (some 54) w := by kernel_rfl
theorem as_mkS (p : Addr) (w : World) : (ReflectliteValue.mk 54 p ReflectliteValue.flagAddr).run Tryd.prog w = .ok (.agg #[.pointer (some ⟨2, 54, none⟩), .pointer (some p), .int .u64 409]) w := by kernel_rfl
theorem as_elemV (a p : Addr) (W : World) (ha : W.cell? a = some (.pointer (some p))) :
    (ReflectliteValue.method (ReflectliteValue.valueError "reflectlite.Value.Elem" 0) ReflectliteValue.elem #[.agg #[.pointer (some ⟨2, 56, none⟩), .pointer (some a), .int .u64 150]]).run Tryd.prog W
      = .ok (.agg #[.pointer (some ⟨2, 54, none⟩), .pointer (some p), .int .u64 409]) W := by
  rw [as_rlm]
  simp only [Sem.run_bind, as_partsP, Result.andThen]
  simp [ReflectliteValue.elem, loadVar, isAgg, underlying, Tryd.underlying56, ha, Result.andThen, as_elemOfP, as_mkS]
theorem as_rls (v x : Value) : ReflectliteValue.set #[v, x] = (do
    let (some (dst, a, fl), some (src, b, _)) := (← ReflectliteValue.parts v, ← ReflectliteValue.parts x)
      | unsupported (.noEntry "extern/(internal/reflectlite.Value).Set.zeroValue")
    if fl / ReflectliteValue.flagAddr % 2 == 0 then unsupported (.noEntry "extern/(internal/reflectlite.Value).Set.unaddressable")
    let val ← loadVar src b
    if ← Rtype.directlyAssignable dst src then storeVar dst a val
    else if ← Rtype.implements dst src then
      if (← Rtype.kind src) == 20 then
        match val with
        | .nilIface => unsupported (.noEntry "extern/reflectlite: a nil value of one interface type handed on as a value of another")
        | _ => storeVar dst a val
      else storeVar dst a (.iface src val)
    else panicString ("reflectlite.Set: value of type " ++ (← Rtype.spelt src) ++ " is not assignable to type " ++ (← Rtype.spelt dst))
    pure (.tuple #[])) := rfl
theorem as_partsSa (a : Addr) (w : World) : (ReflectliteValue.parts (.agg #[.pointer (some ⟨2, 54, none⟩), .pointer (some a), .int .u64 409])).run Tryd.prog w = .ok (some (54, a, 409)) w := by kernel_rfl
theorem as_partsS (a : Addr) (w : World) : (ReflectliteValue.parts (.agg #[.pointer (some ⟨2, 54, none⟩), .pointer (some a), .int .u64 153])).run Tryd.prog w = .ok (some (54, a, 153)) w := by kernel_rfl
theorem as_directS (w : World) : (Rtype.directlyAssignable 54 54).run Tryd.prog w = .ok true w := by kernel_rfl
theorem as_setS (ta b : Nat) (n : Int) (old : Value) (W : World) (hb : W.cell? ⟨b, 0, none⟩ = some (.int .i64 n)) (ht : W.cell? ⟨ta, 0, none⟩ = some old) (hf : W.frozen? ⟨ta, 0, none⟩ = false) :
    (ReflectliteValue.set #[.agg #[.pointer (some ⟨2, 54, none⟩), .pointer (some ⟨ta, 0, none⟩), .int .u64 409], .agg #[.pointer (some ⟨2, 54, none⟩), .pointer (some ⟨b, 0, none⟩), .int .u64 153]]).run Tryd.prog W
      = .ok (.tuple #[]) (W.setCell ⟨ta, 0, none⟩ (.int .i64 n)) := by
  rw [as_rls]
  simp only [Sem.run_bind, as_partsSa, as_partsS, Result.andThen]
  have hsz : ∀ w : World, (sizeOf 54).run Tryd.prog w = .ok 1 w := fun _ => by kernel_rfl
  have hlc : (loadCells ⟨b, 0, none⟩ 1).run Tryd.prog W = .ok #[.int .i64 n] W := run_loadCells_list _ _ [Value.int IntKind.i64 n] (by
    intro j v hj
    match j, hj with
    | 0, hj => simp at hj; subst hj; simpa [Addr.add] using hb)
  simp [ReflectliteValue.flagAddr, loadVar, isAgg, underlying, Tryd.underlying54, Result.andThen, as_directS, storeVar, Value.cells, hsz, hlc, storeCells, Addr.add]
  rw [run_store Tryd.prog W ⟨ta, 0, none⟩ _ _ (by rfl)]
  simp [ht, hf]

/-- What errors.As leaves. -/
def asW (t : Nat) (n : Int) (w : World) : World := ((((w.alloc (.cells #[.pointer (some ⟨t, 0, none⟩)] 56)).alloc (.cells #[.pointer (some ⟨2, 56, none⟩), .pointer (some ⟨w.heap.size, 0, none⟩), .int .u64 150] 70)).alloc (.cells #[.pointer (some ⟨2, 56, none⟩), .pointer (some ⟨w.heap.size, 0, none⟩), .int .u64 150] 70)).alloc (.cells #[.int .i64 n] 54)).setCell ⟨t, 0, none⟩ (.int .i64 n)
theorem asW_keeps (t : Nat) (n : Int) (w : World) : Keeps (fun k => k = t) w (asW t n w) := (((((Keeps.refl (fun k => k = t) w).alloc _).alloc _).alloc _).alloc _).setCell (fun _ => rfl) _

set_option maxHeartbeats 4000000 in
set_option maxRecDepth 100000 in
theorem as_hit (n : Int) (t : Nat) (old : Value) (w : World) (hg : w.cell? ⟨0, 0, none⟩ = some (.iface 83 (.agg #[.pointer (some ⟨2, 50, none⟩)]))) (ht0 : w.cell? ⟨t, 0, none⟩ = some old) (hf0 : w.frozen? ⟨t, 0, none⟩ = false) :
    Calls Tryd.prog 21 #[.iface 54 (.agg #[.int .i64 n]), .iface 56 (.pointer (some ⟨t, 0, none⟩))] w fun ev w' => ev = .returned (.bool true) ∧ w' = asW t n w := by
  unfold asW
  have h6 := @run_callFunc_extern Tryd.prog 31 _ (fun args => ReflectliteValue.unpack (args.getD 0 (.tuple #[]))) Tryd.func31 (by kernel_rfl) (by kernel_rfl) (by kernel_rfl) (by kernel_rfl)
  have h7 := @run_callFunc_extern Tryd.prog 32 _ (ReflectliteValue.methodAny (ReflectliteValue.valueError "reflectlite.Value.Type" 0) (fun t _ _ _ => ReflectliteType.toType t)) Tryd.func32 (by kernel_rfl) (by kernel_rfl) (by kernel_rfl) (by kernel_rfl)
  have h8 := @run_callFunc_extern Tryd.prog 33 _ (ReflectliteValue.method (ReflectliteValue.valueError "reflectlite.Value.IsNil" 0) ReflectliteValue.isNil) Tryd.func33 (by kernel_rfl) (by kernel_rfl) (by kernel_rfl) (by kernel_rfl)
  have h27 := @run_callFunc_extern Tryd.prog 59 _ (ReflectliteType.abiMethod fun t => do pure (.int .u8 (← Rtype.kind t))) Tryd.func59 (by kernel_rfl) (by kernel_rfl) (by kernel_rfl) (by kernel_rfl)
  have h37 := @run_callFunc_extern Tryd.prog 70 _ (ReflectliteType.method ReflectliteType.elem) Tryd.func70 (by kernel_rfl) (by kernel_rfl) (by kernel_rfl) (by kernel_rfl)
  have h38 := @run_callFunc_extern Tryd.prog 71 _ (ReflectliteType.relation "Implements" ReflectliteType.implements_) Tryd.func71 (by kernel_rfl) (by kernel_rfl) (by kernel_rfl) (by kernel_rfl)
  have h10 := @run_callFunc_extern Tryd.prog 40 _ ReflectliteType.typeOf Tryd.func40 (by kernel_rfl) (by kernel_rfl) (by kernel_rfl) (by kernel_rfl)
  have h35 := @run_callFunc_extern Tryd.prog 68 _ (ReflectliteType.relation "AssignableTo" ReflectliteType.assignableTo) Tryd.func68 (by kernel_rfl) (by kernel_rfl) (by kernel_rfl) (by kernel_rfl)
  have h11 := @run_callFunc_extern Tryd.prog 41 _ (ReflectliteValue.method (ReflectliteValue.valueError "reflectlite.Value.Elem" 0) ReflectliteValue.elem) Tryd.func41 (by kernel_rfl) (by kernel_rfl) (by kernel_rfl) (by kernel_rfl)
  have h12 := @run_callFunc_extern Tryd.prog 42 _ ReflectliteValue.set Tryd.func42 (by kernel_rfl) (by kernel_rfl) (by kernel_rfl) (by kernel_rfl)
  have tO := as_typeOfS
  have mA := as_methodAssign
  have a25 := as_assignS
  have v25 := as_valueOfS
  have f6 := as_valueOfP
  have f7 := as_typeP
  have mK := as_methodKind
  have mE := as_methodElem
  have mI := as_methodImpl
  have k27 := as_kindP
  have k25 := as_kindS
  have e27 := as_elemP
  have i25 := as_implS
  have n8 := as_isNilP ⟨w.heap.size, 0, none⟩ ⟨t, 0, none⟩ ((w.alloc (.cells #[.pointer (some ⟨t, 0, none⟩)] 56)).alloc (.cells #[.pointer (some ⟨2, 56, none⟩), .pointer (some ⟨w.heap.size, 0, none⟩), .int .u64 150] 70)) (by simp)
  have hlt : 0 < w.heap.size := by
    rcases Nat.eq_zero_or_pos w.heap.size with h0 | h
    · simp [World.cell?, h0] at hg
    · exact h
  have hg2 : ((w.alloc (.cells #[.pointer (some ⟨t, 0, none⟩)] 56)).alloc (.cells #[.pointer (some ⟨2, 56, none⟩), .pointer (some ⟨w.heap.size, 0, none⟩), .int .u64 150] 70)).cell? ⟨0, 0, none⟩ = some (.iface 83 (.agg #[.pointer (some ⟨2, 50, none⟩)])) := by
    rw [World.cell?_alloc_lt _ _ ⟨0, 0, none⟩ (by simp), World.cell?_alloc_lt _ _ ⟨0, 0, none⟩ hlt]; exact hg
  have htl : t < w.heap.size := by
    rcases Nat.lt_or_ge t w.heap.size with h | h
    · exact h
    · simp [World.cell?, Array.getElem?_eq_none h] at ht0
  have el := as_elemV ⟨w.heap.size, 0, none⟩ ⟨t, 0, none⟩ (((w.alloc (.cells #[.pointer (some ⟨t, 0, none⟩)] 56)).alloc (.cells #[.pointer (some ⟨2, 56, none⟩), .pointer (some ⟨w.heap.size, 0, none⟩), .int .u64 150] 70)).alloc (.cells #[.pointer (some ⟨2, 56, none⟩), .pointer (some ⟨w.heap.size, 0, none⟩), .int .u64 150] 70)) (by rw [World.cell?_alloc_lt _ _ ⟨w.heap.size, 0, none⟩ (by simp; omega)]; simp)
  have st := as_setS t (w.heap.size + 1 + 1 + 1) n old ((((w.alloc (.cells #[.pointer (some ⟨t, 0, none⟩)] 56)).alloc (.cells #[.pointer (some ⟨2, 56, none⟩), .pointer (some ⟨w.heap.size, 0, none⟩), .int .u64 150] 70)).alloc (.cells #[.pointer (some ⟨2, 56, none⟩), .pointer (some ⟨w.heap.size, 0, none⟩), .int .u64 150] 70)).alloc (.cells #[.int .i64 n] 54))
    (by rw [World.cell?_alloc_at _ _ _ _ (by simp)]; rfl)
    (by rw [World.cell?_alloc_lt _ _ ⟨t, 0, none⟩ (by simp; omega), World.cell?_alloc_lt _ _ ⟨t, 0, none⟩ (by simp; omega), World.cell?_alloc_lt _ _ ⟨t, 0, none⟩ (by simp; omega), World.cell?_alloc_lt _ _ ⟨t, 0, none⟩ htl]; exact ht0)
    (by rw [World.frozen?_alloc_old _ _ ⟨t, 0, none⟩ (by simp; omega), World.frozen?_alloc_old _ _ ⟨t, 0, none⟩ (by simp; omega), World.frozen?_alloc_old _ _ ⟨t, 0, none⟩ (by simp; omega), World.frozen?_alloc_old _ _ ⟨t, 0, none⟩ (Nat.ne_of_lt htl)]; exact hf0)
  go_enter Tryd.func21, Tryd.ntmps21
  go_wp2
  refine wp_loop_rounds 1 ?_
  rw [rounds_succ]
  go_wp2
  go_ret
  exact ⟨rfl, rfl⟩

end Go.Proofs.YtmlgmhnplicflaaDoor

/-
  Templates: the program's ReadTemplate.
-/
namespace Go.Proofs.YtmlgmhnplicflaaDoor
open Go.RowKit
set_option linter.unusedVariables false

def tOk : Except Nat (List Bt) → Bool
  | .ok _ => true
  | .error _ => false
def tAt : Except Nat (List Bt) → Int
  | .ok _ => 0
  | .error x => x
def tL : Except Nat (List Bt) → List Bt
  | .ok L => L
  | .error _ => []
theorem tL_few (s : ByteArray) : Few 100 (tL (tplRef s)) := by
  cases h : tplRef s with
  | error x => exact ⟨by simp [tL], by simp [tL]⟩
  | ok L => exact tplRef_few h
/-- The handle of the type error. -/
def Hdl (w : World) : Prop := w.cell? ⟨0, 0, none⟩ = some (.iface 83 (.agg #[.pointer (some ⟨2, 50, none⟩)]))
theorem Hdl.lt {w : World} (h : Hdl w) : 0 < w.heap.size := by
  unfold Hdl at h
  rcases Nat.eq_zero_or_pos w.heap.size with h0 | h1
  · simp [World.cell?, h0] at h
  · exact h1
theorem Hdl.keeps {w w' : World} {E : Nat → Prop} (h : Hdl w) (k : Keeps E w w') (hE : ¬ E 0) : Hdl w' := by
  have hl := h.lt
  unfold Hdl at h ⊢
  rw [← h]
  simp only [World.cell?, k.block 0 hl hE]
def TplPost (s : ByteArray) (w : World) (e : Ending) (w' : World) : Prop := ∃ v, e = .returned (.agg #[.bool (tOk (tplRef s)), .int .i64 (tAt (tplRef s)), v]) ∧ BR w' w.heap.size v (tL (tplRef s)) ∧ Keeps (fun _ => False) w w'

set_option maxHeartbeats 4000000 in
set_option maxRecDepth 100000 in
theorem implTpl_any (s : ByteArray) (w : World) (hs63 : s.size ≤ 1048576) (hh : Hdl w) : Calls Tryd.prog 12 #[.string s] w (TplPost s w) := by
  go_enter Tryd.func12, Tryd.ntmps12
  go_upto_region 1 with fail
  have kA : Keeps (fun _ => False) w (w.alloc (.cells #[.bool false, .int .i64 0, .slice none 0 0] 31)) := (Keeps.refl _ w).alloc _
  have hP : Bk (w.alloc (.cells #[.bool false, .int .i64 0, .slice none 0 0] 31)) w.heap.size 31 [.bool false, .int .i64 0, .slice none 0 0] := bk_new w _ _
  have hw := hh.lt
  have hh1 := hh.keeps kA (fun h => h)
  generalize w.alloc (.cells #[.bool false, .int .i64 0, .slice none 0 0] 31) = w1 at kA hP hh1 ⊢
  generalize hPe : w.heap.size = P at hP hw ⊢
  have HP : Hid (w.heap.size = P) := hPe
  clear hPe hh
  have hcall := readBits_any s w1 hs63
  unfold BitsPost at hcall
  cases hr : tplRef s with
  | error x =>
    have HR : Hid (tplRef s = .error x) := hr
    rw [hr] at hcall
    simp only at hcall
    clear hr
    go_upto_region 3 with (first
      | (go_at_call 20; refine hcall.mono ?_; rintro e w2 ⟨hk2, rfl⟩))
    have kB : Keeps (fun _ => False) w1 (w2.alloc (.cells #[.int .i64 0] 54)) := hk2.alloc _
    have hM : Bk (w2.alloc (.cells #[.int .i64 0] 54)) w2.heap.size 54 [.int .i64 0] := bk_new w2 _ _
    have hP2 := hP.keeps kB (fun h => h)
    have hh2 := hh1.keeps kB (fun h => h)
    have hne : w2.heap.size ≠ P := by have := hP.lt; have := hk2.size; omega
    have hMw : w1.heap.size ≤ w2.heap.size := hk2.size
    clear hP hh1 hk2 hcall
    generalize w2.alloc (.cells #[.int .i64 0] 54) = w3 at kB hM hP2 hh2 ⊢
    generalize w2.heap.size = M at hM hne hMw ⊢
    have m0 : w3.cell? ⟨M, 0, none⟩ = some (.int .i64 0) := by rw [hM.cell]; rfl
    have mf := hM.fz 0
    have hk4 := asW_keeps M (x : Int) w3
    have hM4 : (asW M (x : Int) w3).cell? ⟨M, 0, none⟩ = some (.int .i64 (x : Int)) := by
      unfold asW
      exact World.cell?_setCell_same' _ _ _ (by
        have h1 : ((((w3.alloc (.cells #[.pointer (some ⟨M, 0, none⟩)] 56)).alloc (.cells #[.pointer (some ⟨2, 56, none⟩), .pointer (some ⟨w3.heap.size, 0, none⟩), .int .u64 150] 70)).alloc (.cells #[.pointer (some ⟨2, 56, none⟩), .pointer (some ⟨w3.heap.size, 0, none⟩), .int .u64 150] 70)).alloc (.cells #[.int .i64 (x : Int)] 54)).cell? ⟨M, 0, none⟩ = some (.int .i64 0) := by
          rw [(hM.keeps ((((((Keeps.refl (fun _ => False) w3).alloc _).alloc _).alloc _).alloc _)) (fun h => h)).cell]; rfl
        rw [h1]; rfl)
    have hP4 := hP2.keeps hk4 (fun h => hne h.symm)
    have hcall := as_hit (x : Int) M (.int .i64 0) w3 hh2 m0 mf
    generalize asW M (x : Int) w3 = w4 at hk4 hM4 hP4 hcall
    have d0 : w4.cell? ⟨P, 0, none⟩ = some (.bool false) := by rw [hP4.cell]; rfl
    have d1 : w4.cell? ⟨P, 1, none⟩ = some (.int .i64 0) := by rw [hP4.cell]; rfl
    have d2 : w4.cell? ⟨P, 2, none⟩ = some (.slice none 0 0) := by rw [hP4.cell]; rfl
    have f0 := hP4.fz 0
    have f1 := hP4.fz 1
    have f2 := hP4.fz 2
    have hP5 := ((hP4.set 0 (.bool false)).set 1 (.int .i64 (x : Int))).set 2 (.slice none 0 0)
    have g0 := hP5.cell 0
    have g1 := hP5.cell 1
    have g2 := hP5.cell 2
    simp only [List.set, List.getElem?_cons_zero, List.getElem?_cons_succ] at g0 g1 g2
    have hK : Keeps (fun _ => False) w (((w4.setCell ⟨P, 0, none⟩ (.bool false)).setCell ⟨P, 1, none⟩ (.int .i64 (x : Int))).setCell ⟨P, 2, none⟩ (.slice none 0 0)) :=
      ((((kA.trans kB).trans' hk4 (fun i hi h => by have := kA.size; omega)).setCell (fun h => by have := HP.out; simp at h; omega) _).setCell (fun h => by have := HP.out; simp at h; omega) _).setCell (fun h => by have := HP.out; simp at h; omega) _
    clear hP2 hM hk4 hP4 hP5 hh2 m0 mf kA kB
    go_wp2_with (first
      | (go_at_call 21; refine hcall.mono ?_; rintro e w5 ⟨rfl, hw5⟩; subst w5))
    refine bodyPost_ret (v := .agg #[.bool false, .int .i64 (x : Int), .slice none 0 0]) (by simp [results, Tryd.results12, go_sem, g0, g1, g2]) rfl ?_
    refine ⟨_, by rw [HR.out]; rfl, ?_, hK⟩
    rw [HR.out]
    exact World.ownsRow_nil _ _ _ _
  | ok L =>
    have HR : Hid (tplRef s = .ok L) := hr
    rw [hr] at hcall
    simp only at hcall
    clear hr
    go_upto_region 3 with (first
      | (go_at_call 20; refine hcall.mono ?_; rintro e w2 ⟨hk2, v, rfl, hB⟩; obtain ⟨av, cv, hv⟩ := own_form hB; subst hv))
    have kB : Keeps (fun _ => False) w1 (w2.alloc (.cells #[.int .i64 0] 54)) := hk2.alloc _
    have hP2 := hP.keeps kB (fun h => h)
    have hB2 := ownsRow_keeps hB ((Keeps.refl (fun _ => False) w2).alloc (.cells #[.int .i64 0] 54)) (fun _ _ h => h)
    clear hP hh1 hk2 hcall hB
    generalize w2.alloc (.cells #[.int .i64 0] 54) = w3 at kB hP2 hB2 ⊢
    generalize w2.heap.size = M at ⊢
    have hBk : ∀ k, (Value.slice av L.length cv).ownBlock = some k → k ≠ P := by
      rintro k hk rfl
      obtain ⟨c2, h2⟩ := own_blk hB2 hk
      have := hP2
      unfold Bk at this
      rw [this] at h2; simp at h2
    have d0 : w3.cell? ⟨P, 0, none⟩ = some (.bool false) := by rw [hP2.cell]; rfl
    have d1 : w3.cell? ⟨P, 1, none⟩ = some (.int .i64 0) := by rw [hP2.cell]; rfl
    have d2 : w3.cell? ⟨P, 2, none⟩ = some (.slice none 0 0) := by rw [hP2.cell]; rfl
    have f0 := hP2.fz 0
    have f1 := hP2.fz 1
    have f2 := hP2.fz 2
    have hP5 := ((hP2.set 0 (.bool true)).set 1 (.int .i64 0)).set 2 (.slice av L.length cv)
    have g0 := hP5.cell 0
    have g1 := hP5.cell 1
    have g2 := hP5.cell 2
    simp only [List.set, List.getElem?_cons_zero, List.getElem?_cons_succ] at g0 g1 g2
    have hK : Keeps (fun _ => False) w (((w3.setCell ⟨P, 0, none⟩ (.bool true)).setCell ⟨P, 1, none⟩ (.int .i64 0)).setCell ⟨P, 2, none⟩ (.slice av L.length cv)) :=
      (((kA.trans kB).setCell (fun h => by have := HP.out; simp at h; omega) _).setCell (fun h => by have := HP.out; simp at h; omega) _).setCell (fun h => by have := HP.out; simp at h; omega) _
    have hB5 := ownsRow_keeps hB2 ((((Keeps.refl (fun k => k = P) w3).setCell (a := ⟨P, 0, none⟩) (fun _ => rfl) (.bool true)).setCell (a := ⟨P, 1, none⟩) (fun _ => rfl) (.int .i64 0)).setCell (a := ⟨P, 2, none⟩) (fun _ => rfl) (.slice av L.length cv)) hBk
    have hPw := kA.size
    clear hP2 hP5 kA kB hB2 hBk
    go_wp2_with (first
      | (go_at_call 21; refine (as_nil _ _).mono ?_; rintro e w5 ⟨rfl, hw5⟩; subst w5))
    refine bodyPost_ret (v := .agg #[.bool true, .int .i64 0, .slice av L.length cv]) (by simp [results, Tryd.results12, go_sem, g0, g1, g2]) rfl ?_
    refine ⟨_, by rw [HR.out]; rfl, ?_, hK⟩
    rw [HR.out]
    exact ownsRow_base hB5 (fun k hk => Nat.le_trans hPw (hB5.lt k hk).1)

end Go.Proofs.YtmlgmhnplicflaaDoor
