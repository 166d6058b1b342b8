import Derived.Test.YtmlgmhnplicflabGreatNk
import Derived.ProofKit
import Derived.OpenShut
import Derived.ShutString
namespace Go.Proofs.YtmlgmhnplicflabGreat
open Go.RowKit
set_option linter.unusedVariables false
theorem splitRef_few (s u:ByteArray):(splitRef s u).length≤900:=by
 cases ha:Ask s u with
 | none=>rw [split_none_ref ha]; simp
 | some gp =>
   obtain ⟨h1,-,h3⟩:=split_some_ref ha
   have h4:=sp_few (u:=u) (allRef s u)
   rw [h1,List.length_append,List.length_cons,List.length_nil]
   omega
set_option maxHeartbeats 2000000 in
set_option maxRecDepth 100000 in
theorem law_split (s u:ByteArray) (h0:s.size≤maxLen) (h1:u.size≤maxLen) (w:World) :
  Calls Tryz.prog 7 #[.string s,.string u] w fun e w'=>e = .returned (.bool true)∧Below w.heap.size w w':=by
 unfold maxLen at h0 h1
 by_cases hs:s.size≤1048576
 ·by_cases hu:u.size≤1048576
  ·have hSpec:=fun w=>ssplit_any (w:=w) hs hu
   have hImpl:=fun w=>isplit_any (w:=w) (s:=s) (u:=u)
   have hfew:=splitRef_few s u
   unfold SplitP at hSpec hImpl
   generalize splitRef s u=l at hSpec hImpl hfew
   have hsz:¬ (1048576:Int) < (s.size:Int):=by omega
   have huz:¬ (1048576:Int) < (u.size:Int):=by omega
   obtain ⟨m,hM⟩ :∃m,1 + l.length=m:=⟨_,rfl⟩
   have HM:Hid (1 + l.length=m):=hM
   have hm1:1≤m:=by omega
   have hm2:m≤1000:=by omega
   clear hM
   go_enter Tryz.func7,Tryz.ntmps7
   go_upto_region 6 with (go_at_call 23; refine (hSpec _).mono ?_; rintro e w2 ⟨aS,nS,cS,rfl,hS,hk⟩)
   have hK:Keeps (fun k=>w.heap.size≤k) w w2:=hk.none
   have hw2:=hK.size
   clear hk
   go_upto_region 7 with (go_at_call 24; refine (hImpl _).mono ?_; rintro e w3 ⟨aG,nG,cG,rfl,hG,hk⟩)
   have HltS:Hid (∀k,(Value.slice aS nS cS).ownBlock=some k→k < w2.heap.size):=fun k hk=>(hS.lt k hk).2
   have HgeG:Hid (∀k,(Value.slice aG nG cG).ownBlock=some k→w2.heap.size≤k):=fun k hk=>(hG.lt k hk).1
   replace hK:=hK.trans hk.none
   replace hS:=hS.same hk
   clear hk
   go_upto_region 17 with (first
    | (go_at_call 25; refine (eqStringS_same hG hS (by omega)).mono ?_; rintro e w5 ⟨rfl,hk⟩; replace hK:=hK.trans hk.none; replace hS:=hS.same hk; replace hG:=hG.same hk; clear hk)
    | (go_at_call 26; refine (markStringS_any (k:=1) hG (by omega) (by omega) (by omega)).mono ?_; rw [HM.out]; rintro e w6 ⟨rfl,hPm,hk⟩; replace hK:=hK.trans' hk (fun i hi h=>by have:=HgeG.out i h; omega); replace hS:Sr w6 _ _ _:=ownsRow_keeps hS hk (fun i hi h=>by have h1:=HgeG.out i h; have h2:=HltS.out i hi; omega); clear hk hG)
    | (go_at_call 27; refine (heldStringS_any (k:=1) hPm (by omega) (by omega) (by omega)).mono ?_; rw [HM.out]; rintro e w7 ⟨rfl,hk⟩; replace hK:=hK.trans hk.none; replace hS:=hS.same hk; replace hPm:=hPm.same hk; clear hk))
   go_upto_region 18 with (go_at_call 24; refine (hImpl _).mono ?_; rintro e w8 ⟨aH,nH,cH,rfl,hH,hk⟩)
   replace hK:=hK.trans hk.none
   replace hS:=hS.same hk
   replace hPm:=hPm.same hk
   clear hk
   go_wp2_with (first
    | (go_at_call 25; refine (eqStringS_same hH hS (by omega)).mono ?_; rintro e wA ⟨rfl,hk⟩; replace hK:=hK.trans hk.none; replace hPm:=hPm.same hk; clear hk)
    | (go_at_call 27; refine (heldStringS_any (k:=1) hPm (by omega) (by omega) (by omega)).mono ?_; rw [HM.out]; rintro e wB ⟨rfl,hk⟩; replace hK:=hK.trans hk.none; clear hk))
   go_ret
   exact ⟨rfl,hK.below _ (fun k hk h=>by omega) (Nat.le_refl _)⟩
  ·have hsz:¬ (1048576:Int) < (s.size:Int):=by omega
   have huz:(1048576:Int) < (u.size:Int):=by omega
   go_enter Tryz.func7,Tryz.ntmps7
   go_wp2
   go_ret
   exact ⟨rfl,Below.refl _ _⟩
 ·go_enter Tryz.func7,Tryz.ntmps7
  go_wp2
  go_ret
  exact ⟨rfl,Below.refl _ _⟩
end Go.Proofs.YtmlgmhnplicflabGreat
namespace Go.Proofs.YtmlgmhnplicflabGreat.fnExactSplit
open Go.ChangeShapes Go.WideShapes Go.ChangeAt Go.RowKit
open Go.ChangeMaps (open_string shut_string)
set_option linter.unusedVariables false
theorem own:ownKnob Tryz.prog.godebug=none:=by kernel_rfl
set_option maxRecDepth 100000 in
theorem lifted (os:Os) (started:os.Started) (H:Type) (enc:TypeId×Value→H) :
  ReturnsInHanded {} Tryz.checked os 7 .any (Rows.fnExactSplitSpec.pre6 enc Tryz.prog Tryz.f7 Rows.fnExactSplitRow.domain false) (Rows.fnExactSplitSpec.post enc Tryz.prog Tryz.f7 false true false false):=by
 refine returnsInHanded_of_change (C:=Tryz.checked) own started (by kernel_rfl) Tryz.func7
  (ChangeSpec.witness6 (enc:=enc) (C:=Tryz.checked) false ⟨#[],#[.string ByteArray.empty,.string ByteArray.empty],[]⟩ 8 (by kernel_rfl) (by kernel_rfl) (by kernel_rfl) (by kernel_rfl)) ?_
 intro W base args ds gs before hval0 hW hcnd _
 have hval :∀(j:Nat) t v,Tryz.f7.params[j]? = some t→args[j]? = some v→Value.okWide Tryz.prog W .any base t v:=hval0
 have hW':=hW
 obtain ⟨p,q,hA0,hV,rfl,hfz,hnd⟩:=hW
 have hA:DataW.TrodAll enc Tryz.prog W 0 (fun _=>true) true Tryz.f7.params.toList args.toList ds p:=hA0
 rw [Tryz.params7] at hA hval
 obtain ⟨v0,vs0,d0,ds0,p0,q0,hargs,rfl,rfl,h0,r0⟩:=trodAll_cons hA
 obtain ⟨v1,vs1,d1,ds1,p1,q1,rfl,rfl,rfl,h1,r1⟩:=trodAll_cons r0
 obtain ⟨rfl,rfl,rfl⟩:=trodAll_nil r1
 obtain rfl:args = #[v0,v1]:=by cases args; simp_all
 obtain ⟨rfl,rfl⟩:=trodVars_none hV
 obtain ⟨a0,rfl,rfl,rfl,w0⟩:=open_string Tryz.underlying9 (hval 0 9 v0 rfl rfl) h0
 obtain ⟨a1,rfl,rfl,rfl,w1⟩:=open_string Tryz.underlying9 (hval 1 9 v1 rfl rfl) h1
 clear hA0 hval0
 simp only [List.append_nil] at hW'
 refine (law_split a0 a1 w0 w1 W).mono fun e W' ⟨he,hg⟩=>?_
 subst he
 exact ⟨_,rfl,_,_,_,[],[],[],hW',trodAll_mk1 (shut_bool Tryz.underlying4 _),trodAll_cons_mk (shut_string Tryz.underlying9 w0) (trodAll_cons_mk (shut_string Tryz.underlying9 w1) trodAll_mk0),rfl,hg.frame _,fun h=>by cases h⟩
theorem over:Rows.fnExactSplitRow.holds Tryz.pinned (OpenSpec.ofChange Rows.fnExactSplitSpec) :=
 OpenClaim.holds_of_wide 7 Tryz.f7 rfl rfl rfl rfl rfl rfl rfl ⟨rfl,rfl,rfl,rfl,rfl⟩ rfl rfl rfl rfl rfl (by kernel_rfl) Tryz.func7 (by kernel_rfl)
  (of_decide_eq_true (by kernel_rfl)) (by unfold Func.isWrapper; first | (rw [if_pos (by decide +kernel)]; kernel_rfl) | (rw [if_neg (by decide +kernel)]; exact ⟨rfl,rfl⟩))
  (fun os started H enc _=>lifted os started H enc)
theorem proved:Rows.FnExactSplitSaid :=
 over
end Go.Proofs.YtmlgmhnplicflabGreat.fnExactSplit
namespace Go.Proofs.YtmlgmhnplicflabGreat
theorem split_holds:Rows.FnExactSplitSaid:=fnExactSplit.proved
#print axioms split_holds
end Go.Proofs.YtmlgmhnplicflabGreat
