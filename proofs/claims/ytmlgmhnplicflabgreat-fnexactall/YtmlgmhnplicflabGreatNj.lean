import Derived.Test.YtmlgmhnplicflabGreatNh
import Derived.Test.YtmlgmhnplicflabGreatNe
import Derived.Test.YtmlgmhnplicflabGreatYt
import Derived.ProofKit
import Derived.OpenShut
import Derived.ShutString
namespace Go.Proofs.YtmlgmhnplicflabGreat
open Go.RowKit
set_option linter.unusedVariables false
theorem allRef_few (s u:ByteArray):(allRef s u).length≤201:=by
 by_cases hw:wanted s u 0=true
 ·have hu:u.size≤200:=by
   simp only [wanted,Bool.and_eq_true,decide_eq_true_eq] at hw
   omega
  have h:=allL_len (s:=s) (u:=u) (u.size + 2) 0 (by omega)
  change (allRef s u).length + 0≤u.size + 1 at h
  omega
 ·rw [allRef_not hw]; simp
theorem all_o {w:World} {s u:ByteArray}:Calls Tryz.prog 22 #[.string s,.string u] w (RowO (allRef s u) w):=by
 refine iall_any.mono ?_
 rintro e w' ⟨ao,n,c,L,rfl,h1,h2,h3,h4⟩
 refine ⟨ao,n,c,L,rfl,h1,⟨ownsRow_base h2 (fun _ _=>Nat.zero_le _),fun x hx=>ownsRow_base (h3.rows x hx).1 (fun _ _=>Nat.zero_le _)⟩,sep_of h3.sep,?_,h4⟩
 rintro j (hj | ⟨x,hx,hj⟩)
 ·exact (h2.lt j hj).1
 ·exact ((h3.rows x hx).1.lt j hj).1
set_option maxHeartbeats 2000000 in
set_option maxRecDepth 100000 in
theorem law_all (s u:ByteArray) (h0:s.size≤maxLen) (h1:u.size≤maxLen) (w:World) :
  Calls Tryz.prog 6 #[.string s,.string u] w fun e w'=>e = .returned (.bool true)∧Below w.heap.size w w':=by
 unfold maxLen at h0 h1
 by_cases hs:s.size≤1048576
 ·by_cases hu:u.size≤1048576
  ·have hSpec:=fun w=>sall_any (w:=w) hs hu
   have hImpl:=fun w=>all_o (w:=w) (s:=s) (u:=u)
   have HSm:Hid (∀L:List Mm,L.map (·.1)=allRef s u→SmallM L∧mtN L 1≤1000000000000∧1≤mtN L 1):=by
    intro L hL
    have e1b:(allRef s u).length≤201:=allRef_few s u
    rw [← hL,List.length_map] at e1b
    have e2 :∀x∈L,x.1.gs.length≤9:=fun x hx=>allL_mem _ _ (show x.1∈allRef s u by rw [← hL]; exact List.mem_map_of_mem hx)
    have e3:=mtN_le L 1 (fun x hx=>by have:=e2 x hx; omega)
    exact ⟨⟨by omega,fun x hx=>by have:=e2 x hx; omega⟩,by omega,mtN_ge _ _⟩
   generalize allRef s u=l at hSpec hImpl HSm
   have hsz:¬ (1048576:Int) < (s.size:Int):=by omega
   have huz:¬ (1048576:Int) < (u.size:Int):=by omega
   go_enter Tryz.func6,Tryz.ntmps6
   go_upto_region 6 with (go_at_call 21; refine (hSpec _).mono ?_; rintro e w2 ⟨aS,nS,cS,LS,rfl,hSm,hS,hk⟩)
   have hK:Keeps (fun k=>w.heap.size≤k) w w2:=hk.none
   have HLS:Hid (LS.map (·.1)=l):=hSm
   have hw2:=hK.size
   clear hk hSm
   go_upto_region 7 with (go_at_call 22; refine (hImpl _).mono ?_; rintro e w3 ⟨aG,nG,cG,LG,rfl,hGm,hG,hGs,hGf,hk⟩)
   have HltS:Hid (∀k,FootM (.slice aS nS cS) LS k→k < w2.heap.size):=hS.lt
   have HgeG:Hid (∀k,FootM (.slice aG nG cG) LG k→w2.heap.size≤k):=hGf
   have HLG:Hid (LG.map (·.1)=l):=hGm
   have HSG:=HSm.out LG hGm
   replace hK:=hK.trans hk.none
   replace hS:=hS.same hk
   obtain ⟨hSmall,hN1,hN0⟩:=HSG
   clear hk hGm hGf
   generalize hM:mtN LG 1=m at hN0 hN1
   have HM:Hid (mtN LG 1=m):=hM
   clear hM
   go_upto_region 17 with (first
    | (go_at_call 11; refine (eqMatchS_same hG hS (by rw [HLG.out,HLS.out]) hSmall).mono ?_; rintro e w5 ⟨rfl,hk⟩; replace hK:=hK.trans hk.none; replace hS:=hS.same hk; replace hG:=hG.same hk; clear hk)
    | (go_at_call 12; refine (markMatchS_any hG hGs hSmall (by omega) (by rw [HM.out]; exact hN1)).mono ?_; rw [HM.out]; rintro e w6 ⟨rfl,hPm,hk⟩; replace hK:=hK.trans' hk (fun i hi h=>by have:=HgeG.out i h; omega); replace hS:=hS.keepsE hk (fun i hi h=>by have h1:=HgeG.out i h; have h2:=HltS.out i hi; omega); clear hk hG)
    | (go_at_call 13; refine (heldMatchS_any hPm hSmall (by omega) (by rw [HM.out]; exact hN1)).mono ?_; rw [HM.out]; rintro e w7 ⟨rfl,hw7⟩; subst hw7))
   go_upto_region 18 with (go_at_call 22; refine (hImpl _).mono ?_; rintro e w8 ⟨aH,nH,cH,LH,rfl,hHm,hH,hHs,hHf,hk⟩)
   replace hK:=hK.trans hk.none
   replace hS:=hS.same hk
   replace hPm:=hPm.same hk
   have HLH:Hid (LH.map (·.1)=l):=hHm
   have hSmH:=(HSm.out LH hHm).1
   clear hHm hHs hHf hk
   go_wp2_with (first
    | (go_at_call 11; refine (eqMatchS_same hH hS (by rw [HLH.out,HLS.out]) hSmH).mono ?_; rintro e wA ⟨rfl,hk⟩; replace hK:=hK.trans hk.none; replace hPm:=hPm.same hk; clear hk)
    | (go_at_call 13; refine (heldMatchS_any hPm hSmall (by omega) (by rw [HM.out]; exact hN1)).mono ?_; rw [HM.out]; rintro e wB ⟨rfl,hwB⟩; subst hwB))
   go_ret
   exact ⟨rfl,hK.below _ (fun k hk h=>by omega) (Nat.le_refl _)⟩
  ·have hsz:¬ (1048576:Int) < (s.size:Int):=by omega
   have huz:(1048576:Int) < (u.size:Int):=by omega
   go_enter Tryz.func6,Tryz.ntmps6
   go_wp2
   go_ret
   exact ⟨rfl,Below.refl _ _⟩
 ·go_enter Tryz.func6,Tryz.ntmps6
  go_wp2
  go_ret
  exact ⟨rfl,Below.refl _ _⟩
end Go.Proofs.YtmlgmhnplicflabGreat
namespace Go.Proofs.YtmlgmhnplicflabGreat.fnExactAll
open Go.ChangeShapes Go.WideShapes Go.ChangeAt Go.RowKit
open Go.ChangeMaps (open_string shut_string)
set_option linter.unusedVariables false
theorem own:ownKnob Tryz.prog.godebug=none:=by kernel_rfl
set_option maxRecDepth 100000 in
theorem lifted (os:Os) (started:os.Started) (H:Type) (enc:TypeId×Value→H) :
  ReturnsInHanded {} Tryz.checked os 6 .any (Rows.fnExactAllSpec.pre6 enc Tryz.prog Tryz.f6 Rows.fnExactAllRow.domain false) (Rows.fnExactAllSpec.post enc Tryz.prog Tryz.f6 false true false false):=by
 refine returnsInHanded_of_change (C:=Tryz.checked) own started (by kernel_rfl) Tryz.func6
  (ChangeSpec.witness6 (enc:=enc) (C:=Tryz.checked) false ⟨#[],#[.string ByteArray.empty,.string ByteArray.empty],[]⟩ 8 (by kernel_rfl) (by kernel_rfl) (by kernel_rfl) (by kernel_rfl)) ?_
 intro W base args ds gs before hval0 hW hcnd _
 have hval :∀(j:Nat) t v,Tryz.f6.params[j]? = some t→args[j]? = some v→Value.okWide Tryz.prog W .any base t v:=hval0
 have hW':=hW
 obtain ⟨p,q,hA0,hV,rfl,hfz,hnd⟩:=hW
 have hA:DataW.TrodAll enc Tryz.prog W 0 (fun _=>true) true Tryz.f6.params.toList args.toList ds p:=hA0
 rw [Tryz.params6] at hA hval
 obtain ⟨v0,vs0,d0,ds0,p0,q0,hargs,rfl,rfl,h0,r0⟩:=trodAll_cons hA
 obtain ⟨v1,vs1,d1,ds1,p1,q1,rfl,rfl,rfl,h1,r1⟩:=trodAll_cons r0
 obtain ⟨rfl,rfl,rfl⟩:=trodAll_nil r1
 obtain rfl:args = #[v0,v1]:=by cases args; simp_all
 obtain ⟨rfl,rfl⟩:=trodVars_none hV
 obtain ⟨a0,rfl,rfl,rfl,w0⟩:=open_string Tryz.underlying9 (hval 0 9 v0 rfl rfl) h0
 obtain ⟨a1,rfl,rfl,rfl,w1⟩:=open_string Tryz.underlying9 (hval 1 9 v1 rfl rfl) h1
 clear hA0 hval0
 simp only [List.append_nil] at hW'
 refine (law_all a0 a1 w0 w1 W).mono fun e W' ⟨he,hg⟩=>?_
 subst he
 exact ⟨_,rfl,_,_,_,[],[],[],hW',trodAll_mk1 (shut_bool Tryz.underlying4 _),trodAll_cons_mk (shut_string Tryz.underlying9 w0) (trodAll_cons_mk (shut_string Tryz.underlying9 w1) trodAll_mk0),rfl,hg.frame _,fun h=>by cases h⟩
theorem over:Rows.fnExactAllRow.holds Tryz.pinned (OpenSpec.ofChange Rows.fnExactAllSpec) :=
 OpenClaim.holds_of_wide 6 Tryz.f6 rfl rfl rfl rfl rfl rfl rfl ⟨rfl,rfl,rfl,rfl,rfl⟩ rfl rfl rfl rfl rfl (by kernel_rfl) Tryz.func6 (by kernel_rfl)
  (of_decide_eq_true (by kernel_rfl)) (by unfold Func.isWrapper; first | (rw [if_pos (by decide +kernel)]; kernel_rfl) | (rw [if_neg (by decide +kernel)]; exact ⟨rfl,rfl⟩))
  (fun os started H enc _=>lifted os started H enc)
theorem proved:Rows.FnExactAllSaid :=
 over
end Go.Proofs.YtmlgmhnplicflabGreat.fnExactAll
namespace Go.Proofs.YtmlgmhnplicflabGreat
theorem all_holds:Rows.FnExactAllSaid:=fnExactAll.proved
#print axioms all_holds
end Go.Proofs.YtmlgmhnplicflabGreat
