import Derived.Test.YtmlgmhnplicflaaGreatFb
import Derived.ProofKit
import Derived.OpenShut
import Derived.Carry
namespace Go.Proofs.YtmlgmhnplicflaaGreat.fnFirst
open Go.ChangeShapes Go.WideShapes Go.ChangeAt Go.RowKit
set_option linter.unusedVariables false
theorem own:ownKnob Tryz.prog.godebug=none:=by kernel_rfl
theorem laidOut:laidOutB Tryz.prog=true:=by kernel_rfl
theorem cells1:Tryz.prog.cellsOf 5=1:=by kernel_rfl
def Ar (W:World) (v:Value):Prop :=∃(ao:Option Addr) (cap:Nat) (cs:List Nat),v = .slice ao cs.length cap∧cs.length≤9223372036854775807∧Dc W ao cs∧∀a,ao=some a→a.block < W.heap.size
theorem has_lt {W:World} {base:Nat} {a:Addr} {e:TypeId} {n:Nat} (h:W.has Tryz.prog .any base a e n):a.block < W.heap.size:=by
 unfold World.has at h
 apply Decidable.byContradiction
 intro hn
 have:W.heap[a.block]? = none:=Array.getElem?_eq_none (by omega)
 simp [World.shape?,this] at h
set_option maxRecDepth 100000 in
theorem open_arg {H:Type} {enc:TypeId×Value→H} {W:World} {base:Nat} {v:Value} {d:DataW H} {p:List MemPlace} (hv:Value.okWide Tryz.prog W .any base 22 v) (h:DataW.Trod enc Tryz.prog W 0 (fun _=>true) true 22 v d p):Ar W v:=by
 obtain ⟨fuel,hf⟩:=h
 obtain ⟨a0,len,cap,rfl⟩:=okWide_slice Tryz.underlying22 hv
 rcases open_ints Tryz.underlying22 Tryz.underlying5 cells1 hf with ⟨hcs,hx⟩ | ⟨a,len',cap',zs,hcs,_,hl,hm,hz,hx,hcell,hwz⟩
 ·simp [Value.cells] at hcs
  obtain ⟨rfl,rfl,rfl⟩:=hcs
  exact ⟨none,0,[],rfl,by simp,⟨by simp,by simp⟩,fun a h=>by cases h⟩
 ·simp [Value.cells] at hcs
  obtain ⟨rfl,rfl,rfl⟩:=hcs
  simp only [if_true] at hz
  have hw :∀n∈zs,0≤n∧n < 256:=fun n hn=>by
   have:=hwz n hn
   simp only [Lit.wf,Bool.and_eq_true,decide_eq_true_eq] at this
   have h1:IntKind.u8.min=0:=rfl
   have h2:IntKind.u8.max=255:=rfl
   omega
  have hlen:((zs.take len).map Int.toNat).length=len:=by simp; omega
  refine ⟨some a,cap,(zs.take len).map Int.toNat,by rw [hlen],?_,⟨?_,fun _=>⟨a,rfl,fun i c hc=>?_⟩⟩,?_⟩
  ·rw [hlen]; unfold maxLen at hm; omega
  ·intro c hc
   obtain ⟨n,hn,rfl⟩:=List.mem_map.1 hc
   have:=hw n (List.mem_of_mem_take hn)
   omega
  ·obtain ⟨hi,_⟩:=List.getElem?_eq_some_iff.1 hc
   have hi':i < len:=by rw [hlen] at hi; exact hi
   have hiz:i < zs.length:=by omega
   rw [hcell i hiz]
   have hm2:=hw _ (List.getElem_mem hiz)
   simp [hi',hiz] at hc
   subst hc
   simp [hiz]
   omega
  ·intro a' ha
   cases ha
   have h0:Cell.okWide Tryz.prog W .any base 22 (.slice (some a) len cap):=by
    simpa [Value.okWide,Tryz.underlying22] using hv
   have h1:Cell.ok Tryz.prog W .any base 22 (.slice (some a) len cap):=by
    simpa [Cell.okWide,Tryz.underlying22] using h0
   simp only [Cell.ok,Tryz.underlying22] at h1
   exact has_lt h1.2.2
set_option maxHeartbeats 2000000 in
set_option maxRecDepth 100000 in
theorem law_any {W:World} {v v':Value} (h:Ar W v) (h':Ar W v') :
  Calls Tryz.prog 4 #[v,v'] W fun e w'=>e = .returned (.bool true)∧Keeps (fun _=>False) W w':=by
 obtain ⟨ao,cap,cs,rfl,hL,hc,hb⟩:=h
 obtain ⟨ao2,cap2,ds,rfl,hL2,hd,hb2⟩:=h'
 by_cases h1:cs.length≤1048576
 ·by_cases h2:ds.length≤1048576
  ·exact law_first hc hb hd hb2 h1 h2
  ·have hz1:(cs.length:Int)≤1048576:=by omega
   have hz2:(1048576:Int) < (ds.length:Int):=by omega
   have hz3:¬ (ds.length:Int)≤1048576:=by omega
   clear hc hb hd hb2 h1 h2 hL hL2
   go_enter Tryz.func4,Tryz.ntmps4
   go_wp2_with fail
   go_ret
   exact ⟨rfl,Keeps.refl _ _⟩
 ·have hz1:(1048576:Int) < (cs.length:Int):=by omega
  have hz3:¬ (cs.length:Int)≤1048576:=by omega
  clear hc hb hd hb2 h1 hL hL2
  go_enter Tryz.func4,Tryz.ntmps4
  go_wp2_with fail
  go_ret
  exact ⟨rfl,Keeps.refl _ _⟩
set_option maxRecDepth 100000 in
theorem lifted (os:Os) (started:os.Started) (H:Type) (enc:TypeId×Value→H) :
  ReturnsInHanded {} Tryz.checked os 4 .any (Rows.fnFirstSpec.pre6 enc Tryz.prog Tryz.f4 Rows.fnFirstRow.domain false) (Rows.fnFirstSpec.post enc Tryz.prog Tryz.f4 false true false false):=by
 refine returnsInHanded_of_change (C:=Tryz.checked) own started (by kernel_rfl) Tryz.func4
  (ChangeSpec.witness6 (enc:=enc) (C:=Tryz.checked) false ⟨#[],#[.slice none 0 0,.slice none 0 0],[]⟩ 8 (by kernel_rfl) (by kernel_rfl) (by kernel_rfl) (by kernel_rfl)) ?_
 intro W base args ds gs before hval0 hW hcnd _
 have hval :∀(j:Nat) t v,Tryz.f4.params[j]? = some t→args[j]? = some v→Value.okWide Tryz.prog W .any base t v:=hval0
 have hW':=hW
 obtain ⟨p,q,hA0,hV,rfl,hfz,hnd⟩:=hW
 have hA:DataW.TrodAll enc Tryz.prog W 0 (fun _=>true) true Tryz.f4.params.toList args.toList ds p:=hA0
 rw [Tryz.params4] at hA hval
 obtain ⟨v0,v1,d0,d1,p0,p1,rfl,rfl,rfl,h0,h1⟩:=trodAll_two hA
 obtain ⟨rfl,rfl⟩:=trodVars_none hV
 clear hA0 hval0
 simp only [List.append_nil] at hW'
 have hlt :∀x∈p0 ++ p1,x.block < W.heap.size:=fun x hx=>by simpa using hW'.lt x hx
 have a0:=open_arg (hval 0 22 v0 rfl rfl) h0
 have a1:=open_arg (hval 1 22 v1 rfl rfl) h1
 refine (law_any a0 a1).mono fun e W' ⟨he,hk⟩=>?_
 subst he
 have hn:Below W.heap.size W W':=hk.below _ (fun _ _ h=>h) (Nat.le_refl _)
 have t0:=Below.trod laidOut (by kernel_rfl) (of_decide_eq_true (by kernel_rfl)) h0 hn (fun x hx=>hlt x (List.mem_append_left _ hx))
 have t1:=Below.trod laidOut (by kernel_rfl) (of_decide_eq_true (by kernel_rfl)) h1 hn (fun x hx=>hlt x (List.mem_append_right _ hx))
 exact ⟨_,rfl,_,_,_,[],_,[],hW',trodAll_mk1 (shut_bool Tryz.underlying4 _),trodAll_mk2 t0 t1,rfl,hn.frame _,fun h=>by cases h⟩
theorem over:Rows.fnFirstRow.holds Tryz.pinned (OpenSpec.ofChange Rows.fnFirstSpec) :=
 OpenClaim.holds_of_wide 4 Tryz.f4 rfl rfl rfl rfl rfl rfl rfl ⟨rfl,rfl,rfl,rfl,rfl⟩ rfl rfl rfl rfl rfl (by kernel_rfl) Tryz.func4 (by kernel_rfl)
  (of_decide_eq_true (by kernel_rfl)) (by unfold Func.isWrapper; first | (rw [if_pos (by decide +kernel)]; kernel_rfl) | (rw [if_neg (by decide +kernel)]; exact ⟨rfl,rfl⟩))
  (fun os started H enc _=>lifted os started H enc)
theorem proved:Rows.FnFirstSaid :=
 over
end Go.Proofs.YtmlgmhnplicflaaGreat.fnFirst
namespace Go.Proofs.YtmlgmhnplicflaaGreat
theorem first_holds:Rows.FnFirstSaid:=fnFirst.proved
#print axioms first_holds
end Go.Proofs.YtmlgmhnplicflaaGreat
