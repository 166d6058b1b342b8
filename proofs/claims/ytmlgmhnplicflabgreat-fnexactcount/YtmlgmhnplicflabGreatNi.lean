import Derived.Test.YtmlgmhnplicflabGreatNh
import Derived.Test.YtmlgmhnplicflabGreatYs
import Derived.ProofKit
import Derived.OpenShut
import Derived.ShutString
namespace Go.Proofs.YtmlgmhnplicflabGreat
open Go.RowKit
set_option linter.unusedVariables false
set_option maxHeartbeats 1000000 in
set_option maxRecDepth 100000 in
theorem law_count (s u:ByteArray) (h0:s.size≤maxLen) (h1:u.size≤maxLen) (w:World) :
  Calls Tryz.prog 8 #[.string s,.string u] w fun e w'=>e = .returned (.bool true)∧Below w.heap.size w w':=by
 unfold maxLen at h0 h1
 by_cases hs:s.size≤1048576
 ·by_cases hu:u.size≤1048576
  ·have hSpec:=fun w=>scount_any (w:=w) hs hu
   have hImpl:=fun w=>icount_any (w:=w) (s:=s) (u:=u)
   unfold CountP at hImpl
   generalize (allRef s u).length=l at hSpec hImpl
   have hsz:¬ (1048576:Int) < (s.size:Int):=by omega
   have huz:¬ (1048576:Int) < (u.size:Int):=by omega
   go_enter Tryz.func8,Tryz.ntmps8
   go_wp2_with (first
    | (go_at_call 28; refine (hSpec _).mono ?_; rintro e w2 ⟨rfl,hk2⟩)
    | (go_at_call 29; refine (hImpl _).mono ?_; rintro e w3 ⟨rfl,hk3⟩))
   go_ret
   exact ⟨rfl,(hk2.trans hk3).below _ (fun k hk h=>h) (Nat.le_refl _)⟩
  ·have hsz:¬ (1048576:Int) < (s.size:Int):=by omega
   have huz:(1048576:Int) < (u.size:Int):=by omega
   go_enter Tryz.func8,Tryz.ntmps8
   go_wp2
   go_ret
   exact ⟨rfl,Below.refl _ _⟩
 ·go_enter Tryz.func8,Tryz.ntmps8
  go_wp2
  go_ret
  exact ⟨rfl,Below.refl _ _⟩
end Go.Proofs.YtmlgmhnplicflabGreat
namespace Go.Proofs.YtmlgmhnplicflabGreat.fnExactCount
open Go.ChangeShapes Go.WideShapes Go.ChangeAt Go.RowKit
open Go.ChangeMaps (open_string shut_string)
set_option linter.unusedVariables false
theorem own:ownKnob Tryz.prog.godebug=none:=by kernel_rfl
set_option maxRecDepth 100000 in
theorem lifted (os:Os) (started:os.Started) (H:Type) (enc:TypeId×Value→H) :
  ReturnsInHanded {} Tryz.checked os 8 .any (Rows.fnExactCountSpec.pre6 enc Tryz.prog Tryz.f8 Rows.fnExactCountRow.domain false) (Rows.fnExactCountSpec.post enc Tryz.prog Tryz.f8 false true false false):=by
 refine returnsInHanded_of_change (C:=Tryz.checked) own started (by kernel_rfl) Tryz.func8
  (ChangeSpec.witness6 (enc:=enc) (C:=Tryz.checked) false ⟨#[],#[.string ByteArray.empty,.string ByteArray.empty],[]⟩ 8 (by kernel_rfl) (by kernel_rfl) (by kernel_rfl) (by kernel_rfl)) ?_
 intro W base args ds gs before hval0 hW hcnd _
 have hval :∀(j:Nat) t v,Tryz.f8.params[j]? = some t→args[j]? = some v→Value.okWide Tryz.prog W .any base t v:=hval0
 have hW':=hW
 obtain ⟨p,q,hA0,hV,rfl,hfz,hnd⟩:=hW
 have hA:DataW.TrodAll enc Tryz.prog W 0 (fun _=>true) true Tryz.f8.params.toList args.toList ds p:=hA0
 rw [Tryz.params8] at hA hval
 obtain ⟨v0,vs0,d0,ds0,p0,q0,hargs,rfl,rfl,h0,r0⟩:=trodAll_cons hA
 obtain ⟨v1,vs1,d1,ds1,p1,q1,rfl,rfl,rfl,h1,r1⟩:=trodAll_cons r0
 obtain ⟨rfl,rfl,rfl⟩:=trodAll_nil r1
 obtain rfl:args = #[v0,v1]:=by cases args; simp_all
 obtain ⟨rfl,rfl⟩:=trodVars_none hV
 obtain ⟨a0,rfl,rfl,rfl,w0⟩:=open_string Tryz.underlying9 (hval 0 9 v0 rfl rfl) h0
 obtain ⟨a1,rfl,rfl,rfl,w1⟩:=open_string Tryz.underlying9 (hval 1 9 v1 rfl rfl) h1
 clear hA0 hval0
 simp only [List.append_nil] at hW'
 refine (law_count a0 a1 w0 w1 W).mono fun e W' ⟨he,hg⟩=>?_
 subst he
 exact ⟨_,rfl,_,_,_,[],[],[],hW',trodAll_mk1 (shut_bool Tryz.underlying4 _),trodAll_cons_mk (shut_string Tryz.underlying9 w0) (trodAll_cons_mk (shut_string Tryz.underlying9 w1) trodAll_mk0),rfl,hg.frame _,fun h=>by cases h⟩
theorem over:Rows.fnExactCountRow.holds Tryz.pinned (OpenSpec.ofChange Rows.fnExactCountSpec) :=
 OpenClaim.holds_of_wide 8 Tryz.f8 rfl rfl rfl rfl rfl rfl rfl ⟨rfl,rfl,rfl,rfl,rfl⟩ rfl rfl rfl rfl rfl (by kernel_rfl) Tryz.func8 (by kernel_rfl)
  (of_decide_eq_true (by kernel_rfl)) (by unfold Func.isWrapper; first | (rw [if_pos (by decide +kernel)]; kernel_rfl) | (rw [if_neg (by decide +kernel)]; exact ⟨rfl,rfl⟩))
  (fun os started H enc _=>lifted os started H enc)
theorem proved:Rows.FnExactCountSaid :=
 over
end Go.Proofs.YtmlgmhnplicflabGreat.fnExactCount
namespace Go.Proofs.YtmlgmhnplicflabGreat
theorem count_holds:Rows.FnExactCountSaid:=fnExactCount.proved
#print axioms count_holds
end Go.Proofs.YtmlgmhnplicflabGreat
