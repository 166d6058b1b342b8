import Derived.Test.YtmlgmhnplicflabGreatNc
import Derived.Test.YtmlgmhnplicflabGreatNf
import Derived.ProofKit
import Derived.OpenShut
import Derived.ShutString
namespace Go.Proofs.YtmlgmhnplicflabGreat
open Go.RowKit
set_option linter.unusedVariables false
set_option maxHeartbeats 2000000 in
set_option maxRecDepth 100000 in
theorem law_find (s u:ByteArray) (p:Int) (h0:s.size≤maxLen) (h1:u.size≤maxLen) (w:World) :
  Calls Tryz.prog 4 #[.string s,.string u,.int .i64 p] w fun e w'=>e = .returned (.bool true)∧Below w.heap.size w w':=by
 unfold maxLen at h0 h1
 by_cases hs:s.size≤1048576
 ·by_cases hu:u.size≤1048576
  ·have hSpec:=fun w=>sfind_any (w:=w) (p:=p) hs hu
   have hImpl:=fun w=>find_q (w:=w) (s:=s) (u:=u) (p:=p)
   have hgs:=findRef_gs s u p
   generalize mtD (findRef s u p)=m at hSpec hImpl hgs
   obtain ⟨ok,fr,up,gs⟩:=m
   unfold OneQ at hSpec hImpl
   simp only at hSpec hImpl hgs
   have hl7:gs.length≤10000000:=by omega
   have hsz:¬ (1048576:Int) < (s.size:Int):=by omega
   have huz:¬ (1048576:Int) < (u.size:Int):=by omega
   go_enter Tryz.func4,Tryz.ntmps4
   go_upto_region 6 with (go_at_call 14; refine (hSpec _).mono ?_; rintro e w1 ⟨aS,nS,cS,rfl,hS,hk⟩; obtain ⟨aS',cS',hv⟩:=own_form hS; cases hv)
   have hK:Keeps (fun k=>w.heap.size≤k) w (w1.alloc (.cells #[.bool ok,.int .i64 fr,.int .i64 up,.slice aS gs.length cS] 29)):=hk.none.alloc _
   have hS2:Sr (w1.alloc (.cells #[.bool ok,.int .i64 fr,.int .i64 up,.slice aS gs.length cS] 29)) 0 (.slice aS gs.length cS) gs:=hS.alloc _
   have bS:MB (w1.alloc (.cells #[.bool ok,.int .i64 fr,.int .i64 up,.slice aS gs.length cS] 29)) w1.heap.size ok fr up (.slice aS gs.length cS):=heap_alloc_new w1 _
   clear hS hk
   generalize w1.alloc (.cells #[.bool ok,.int .i64 fr,.int .i64 up,.slice aS gs.length cS] 29)=w2 at hK hS2 bS ⊢
   generalize w1.heap.size=PS at bS ⊢
   have hw2:=hK.size
   go_upto_region 7 with (go_at_call 15; refine (hImpl _).mono ?_; rintro e w3 ⟨aG,nG,cG,rfl,hG,hk⟩; obtain ⟨aG',cG',hv⟩:=own_form hG; cases hv)
   have HltS:Hid (∀k,(Value.slice aS gs.length cS).ownBlock=some k→k < w2.heap.size):=fun k hk=>(hS2.lt k hk).2
   have HgeG:Hid (∀k,(Value.slice aG gs.length cG).ownBlock=some k→w2.heap.size≤k):=fun k hk=>(hG.lt k hk).1
   have kA:=hk.trans ((Keeps.refl (fun _=>False) w3).alloc (.cells #[.bool ok,.int .i64 fr,.int .i64 up,.slice aG gs.length cG] 29))
   replace hK:=hK.trans kA.none
   replace bS:=bS.keeps kA (fun h=>h)
   replace hS2:Sr _ _ _ _:=ownsRow_keeps hS2 kA (fun _ _ h=>h)
   have hG2:Sr (w3.alloc (.cells #[.bool ok,.int .i64 fr,.int .i64 up,.slice aG gs.length cG] 29)) w2.heap.size (.slice aG gs.length cG) gs:=hG.alloc _
   have bG:MB (w3.alloc (.cells #[.bool ok,.int .i64 fr,.int .i64 up,.slice aG gs.length cG] 29)) w3.heap.size ok fr up (.slice aG gs.length cG):=heap_alloc_new w3 _
   clear kA hk hG
   generalize w3.alloc (.cells #[.bool ok,.int .i64 fr,.int .i64 up,.slice aG gs.length cG] 29)=w4 at hK hS2 hG2 bS bG ⊢
   generalize w3.heap.size=PG at bG ⊢
   have c0:=bS.c0; have c1:=bS.c1; have c2:=bS.c2; have c3:=bS.c3
   have d0:=bG.c0; have d1:=bG.c1; have d2:=bG.c2; have d3:=bG.c3
   go_upto_region 17 with (first
    | (go_at_call 16; refine (eqMatch_same hG2 hS2 hl7).mono ?_; rintro e w5 ⟨rfl,hk⟩; replace hK:=hK.trans hk.none; replace hS2:Sr _ _ _ _:=ownsRow_keeps hS2 hk (fun _ _ h=>h); replace hG2:Sr _ _ _ _:=ownsRow_keeps hG2 hk (fun _ _ h=>h); replace bS:=bS.keeps hk (fun h=>h); replace bG:=bG.keeps hk (fun h=>h); clear hk; have d0:=bG.c0; have d1:=bG.c1; have d2:=bG.c2; have d3:=bG.c3)
    | (go_at_call 17; refine (markMatch_any hG2 hl7 (by omega) (by omega)).mono ?_; rintro e w6 ⟨rfl,hPm,hk⟩; replace hK:=hK.trans' hk (fun i hi h=>by have:=HgeG.out i h; omega); replace hS2:Sr _ _ _ _:=ownsRow_keeps hS2 hk (fun i hi h=>by have h1:=HgeG.out i h; have h2:=HltS.out i hi; omega); replace bS:=bS.keeps hk (bS.notOwn hG2); replace bG:=bG.keeps hk (bG.notOwn hG2); clear hk hG2; have d0:=bG.c0; have d1:=bG.c1; have d2:=bG.c2; have d3:=bG.c3)
    | (go_at_call 18; refine (heldMatch_any hPm hl7 (by omega) (by omega)).mono ?_; rintro e w7 ⟨rfl,hk⟩; replace hK:=hK.trans hk.none; replace hS2:Sr _ _ _ _:=ownsRow_keeps hS2 hk (fun _ _ h=>h); replace hPm:=ownsRow_keeps hPm hk (fun _ _ h=>h); replace bS:=bS.keeps hk (fun h=>h); replace bG:=bG.keeps hk (fun h=>h); clear hk))
   clear c0 c1 c2 c3 d0 d1 d2 d3
   go_upto_region 18 with (go_at_call 15; refine (hImpl _).mono ?_; rintro e w8 ⟨aH,nH,cH,rfl,hH,hk⟩; obtain ⟨aH',cH',hv⟩:=own_form hH; cases hv)
   have kA:=hk.trans ((Keeps.refl (fun _=>False) w8).alloc (.cells #[.bool ok,.int .i64 fr,.int .i64 up,.slice aH gs.length cH] 29))
   replace hK:=hK.trans kA.none
   replace hS2:Sr _ _ _ _:=ownsRow_keeps hS2 kA (fun _ _ h=>h)
   replace hPm:=ownsRow_keeps hPm kA (fun _ _ h=>h)
   replace bS:=bS.keeps kA (fun h=>h)
   replace bG:=bG.keeps kA (fun h=>h)
   have hH2:Sr (w8.alloc (.cells #[.bool ok,.int .i64 fr,.int .i64 up,.slice aH gs.length cH] 29)) _ (.slice aH gs.length cH) gs:=hH.alloc _
   have bH:MB (w8.alloc (.cells #[.bool ok,.int .i64 fr,.int .i64 up,.slice aH gs.length cH] 29)) w8.heap.size ok fr up (.slice aH gs.length cH):=heap_alloc_new w8 _
   clear hH kA hk
   generalize w8.alloc (.cells #[.bool ok,.int .i64 fr,.int .i64 up,.slice aH gs.length cH] 29)=w9 at hK hS2 hPm hH2 bS bG bH ⊢
   generalize w8.heap.size=PH at bH ⊢
   have c0:=bS.c0; have c1:=bS.c1; have c2:=bS.c2; have c3:=bS.c3
   have d0:=bH.c0; have d1:=bH.c1; have d2:=bH.c2; have d3:=bH.c3
   go_wp2_with (first
    | (go_at_call 16; refine (eqMatch_same hH2 hS2 hl7).mono ?_; rintro e wA ⟨rfl,hk⟩; replace hK:=hK.trans hk.none; replace hPm:=ownsRow_keeps hPm hk (fun _ _ h=>h); replace bG:=bG.keeps hk (fun h=>h); clear hk; have e0:=bG.c0; have e1:=bG.c1; have e2:=bG.c2; have e3:=bG.c3)
    | (go_at_call 18; refine (heldMatch_any hPm hl7 (by omega) (by omega)).mono ?_; rintro e wB ⟨rfl,hk⟩; replace hK:=hK.trans hk.none; clear hk))
   go_ret
   exact ⟨rfl,hK.below _ (fun k hk h=>by omega) (Nat.le_refl _)⟩
  ·have hsz:¬ (1048576:Int) < (s.size:Int):=by omega
   have huz:(1048576:Int) < (u.size:Int):=by omega
   go_enter Tryz.func4,Tryz.ntmps4
   go_wp2
   go_ret
   exact ⟨rfl,Below.refl _ _⟩
 ·go_enter Tryz.func4,Tryz.ntmps4
  go_wp2
  go_ret
  exact ⟨rfl,Below.refl _ _⟩
end Go.Proofs.YtmlgmhnplicflabGreat
namespace Go.Proofs.YtmlgmhnplicflabGreat.fnExactFind
open Go.ChangeShapes Go.WideShapes Go.ChangeAt Go.RowKit
open Go.ChangeMaps (open_string shut_string)
set_option linter.unusedVariables false
theorem own:ownKnob Tryz.prog.godebug=none:=by kernel_rfl
set_option maxRecDepth 100000 in
theorem lifted (os:Os) (started:os.Started) (H:Type) (enc:TypeId×Value→H) :
  ReturnsInHanded {} Tryz.checked os 4 .any (Rows.fnExactFindSpec.pre6 enc Tryz.prog Tryz.f4 Rows.fnExactFindRow.domain false) (Rows.fnExactFindSpec.post enc Tryz.prog Tryz.f4 false true false false):=by
 refine returnsInHanded_of_change (C:=Tryz.checked) own started (by kernel_rfl) Tryz.func4
  (ChangeSpec.witness6 (enc:=enc) (C:=Tryz.checked) false ⟨#[],#[.string ByteArray.empty,.string ByteArray.empty,.int .i64 0],[]⟩ 8 (by kernel_rfl) (by kernel_rfl) (by kernel_rfl) (by kernel_rfl)) ?_
 intro W base args ds gs before hval0 hW hcnd _
 have hval :∀(j:Nat) t v,Tryz.f4.params[j]? = some t→args[j]? = some v→Value.okWide Tryz.prog W .any base t v:=hval0
 have hW':=hW
 obtain ⟨p,q,hA0,hV,rfl,hfz,hnd⟩:=hW
 have hA:DataW.TrodAll enc Tryz.prog W 0 (fun _=>true) true Tryz.f4.params.toList args.toList ds p:=hA0
 rw [Tryz.params4] at hA hval
 obtain ⟨v0,vs0,d0,ds0,p0,q0,hargs,rfl,rfl,h0,r0⟩:=trodAll_cons hA
 obtain ⟨v1,vs1,d1,ds1,p1,q1,rfl,rfl,rfl,h1,r1⟩:=trodAll_cons r0
 obtain ⟨v2,vs2,d2,ds2,p2,q2,rfl,rfl,rfl,h2,r2⟩:=trodAll_cons r1
 obtain ⟨rfl,rfl,rfl⟩:=trodAll_nil r2
 obtain rfl:args = #[v0,v1,v2]:=by cases args; simp_all
 obtain ⟨rfl,rfl⟩:=trodVars_none hV
 obtain ⟨a0,rfl,rfl,rfl,w0⟩:=open_string Tryz.underlying9 (hval 0 9 v0 rfl rfl) h0
 obtain ⟨a1,rfl,rfl,rfl,w1⟩:=open_string Tryz.underlying9 (hval 1 9 v1 rfl rfl) h1
 obtain ⟨n2,rfl,rfl,rfl,w2⟩:=open_int Tryz.underlying3 (hval 2 3 v2 rfl rfl) h2
 clear hA0 hval0
 simp only [List.append_nil] at hW'
 refine (law_find a0 a1 n2 w0 w1 W).mono fun e W' ⟨he,hg⟩=>?_
 subst he
 exact ⟨_,rfl,_,_,_,[],[],[],hW',trodAll_mk1 (shut_bool Tryz.underlying4 _),trodAll_cons_mk (shut_string Tryz.underlying9 w0) (trodAll_cons_mk (shut_string Tryz.underlying9 w1) (trodAll_cons_mk (shut_int Tryz.underlying3 w2) trodAll_mk0)),rfl,hg.frame _,fun h=>by cases h⟩
theorem over:Rows.fnExactFindRow.holds Tryz.pinned (OpenSpec.ofChange Rows.fnExactFindSpec) :=
 OpenClaim.holds_of_wide 4 Tryz.f4 rfl rfl rfl rfl rfl rfl rfl ⟨rfl,rfl,rfl,rfl,rfl⟩ rfl rfl rfl rfl rfl (by kernel_rfl) Tryz.func4 (by kernel_rfl)
  (of_decide_eq_true (by kernel_rfl)) (by unfold Func.isWrapper; first | (rw [if_pos (by decide +kernel)]; kernel_rfl) | (rw [if_neg (by decide +kernel)]; exact ⟨rfl,rfl⟩))
  (fun os started H enc _=>lifted os started H enc)
theorem proved:Rows.FnExactFindSaid :=
 over
end Go.Proofs.YtmlgmhnplicflabGreat.fnExactFind
namespace Go.Proofs.YtmlgmhnplicflabGreat
theorem find_holds:Rows.FnExactFindSaid:=fnExactFind.proved
#print axioms find_holds
end Go.Proofs.YtmlgmhnplicflabGreat
