import Derived.Test.YtfkflljplohhcaaGreatDoorRc
import Derived.Test.YtfkflljplohhcaaGreatDoorNa
import Derived.Test.YtfkflljplohhcaaGreatDoorTd
import Derived.Test.YtfkflljplohhcaaGreatDoorRd
import Derived.Test.YtfkflljplohhcaaGreatDoorRf
import Derived.Test.YtfkflljplohhcaaGreatDoorRg
import Derived.Test.YtfkflljplohhcaaGreatDoorTie
import Derived.Test.YtfkflljplohhcaaGreatDoorCards
import Derived.ProofKit
import Derived.OpenShut
import Derived.ShutString
import Derived.Handy
import Derived.ChangeVars
import Derived.JoinedOf
import Derived.LaidLaws
import Derived.LaidHandle
import Derived.Stop.Joined
import Derived.SevenTiedAt
set_option maxRecDepth 100000
namespace Go.Proofs.YtfkflljplohhcaaGreatDoor
open Go.RowKit
set_option linter.unusedVariables false
def ZdO (s u t:ByteArray) (most:Int):Bool×ByteArray×Nat :=
 match Ask s u,ZF t with
 | some (g,_),.ok B=>if 0<=most/\∀b∈B,b.1<=(g:Int) then (true,rpT u B ((Jf s u).take most.toNat),((Jf s u).take most.toNat).length) else (false,⟨#[]⟩,0)
 | _,_=>(false,⟨#[]⟩,0)
def ZsR (s u t:ByteArray) (most:Int) (w:World) (e:Ending) (w':World):Prop:=e = .returned (Zrv (ZdO s u t most))/\Za N0_ w w'
def Zkd (g:Nat) (ps:List Pc) (u:ByteArray) (w:World) (R:Nat) (E:Nat->Prop):Prop :=∃Z,Z.R=R/\E=ExM Z/\Mr w Z g ps u
theorem Zkd.same {g:Nat} {ps:List Pc} {u:ByteArray} {w w':World} {R:Nat} {E:Nat->Prop} (h:Zkd g ps u w R E) (k:Za N0_ w w'):Zkd g ps u w' R E:=by
 obtain ⟨Z,h1,h2,h3⟩:=h;exact ⟨Z,h1,h2,⟨h3.ms,h3.knd,h3.mi.same k,h3.eg,h3.eps,h3.eu,h3.len⟩⟩
theorem Zrj {s u:ByteArray} {g:Nat} {ps:List Pc} (h:Ask s u=some (g,ps)):Zkb u.size 0 (Jf s u)/\(Jf s u).length<=300/\(∀m∈Jf s u,m.gs.length=g)/\g<=9:=by
 have hw:wanted s u 0=true:=by
  unfold Ask at h;unfold wanted;rw [ZaS] at h
  cases ht:ZD s with
  | error x=>rw [ht] at h; simp at h
  | ok gf =>
    obtain ⟨g1,f1⟩:=gf;rw [ht] at h;simp at h;simp;omega
 cases ht:ZD s with
 | error x=>simp [wanted,ht] at hw
 | ok gf =>
   obtain ⟨g1,f⟩:=gf;have hg:g1=g:=by
    unfold Ask at h;rw [ZaS,ht] at h;simp at h;exact h.2.1
   subst hg;obtain ⟨hfg,hg9,-,-⟩:=Zb2 ht;have hX:OkX u.size 0 g1 (smx u [] f):=Zjz u ⟨f,hfg,rfl⟩;have hu:=ZbV h;obtain ⟨j1,j2,j3⟩:=ZhK hX hg9 (u.size + 2) 0 (Nat.zero_le _);rw [<- Zem hw ht] at j1 j2 j3;exact ⟨j1,by omega,j3,hg9⟩
theorem Zny {w:World} {s u t:ByteArray} {most:Int} (hs:s.size<=1048576) (hu:u.size<=1048576) (ht:t.size<=1048576) (hm:most<=9223372036854775807):Calls Tryz.prog 11 #[.string s,.string u,.string t,.int .i64 most] w (ZsR s u t most w):=by
 unfold ZsR ZdO;have hof:=fun w=>Zn7 (w:=w) hs hu;unfold Zm1 at hof;have htp:=fun w=>ZgC t w ht;have hfew:=Zkn t;unfold Zcm at htp
 cases ha:Ask s u with
 | none =>
   rw [ha] at hof;simp only at hof;refine (ZgB (okv:=false) (Or.inl rfl) (fun w=>(hof w).mono (by rintro e w2 ⟨R,rfl,hk⟩; exact ⟨_,rfl,hk⟩)) (fun w=>(htp w).mono (by rintro e w2 ⟨v,rfl,hB,hk⟩; obtain ⟨a',c',hv⟩:=Zd hB; exact ⟨a',_,c',by rw [hv],hk⟩))).mono (fun e w' h=>⟨h.1,h.2⟩)
 | some gp =>
   obtain ⟨g,ps⟩:=gp;rw [ha] at hof;simp only at hof;have hof2 :∀w,Calls Tryz.prog 16 #[.string s,.string u] w fun e w2 =>∃R E,e = .returned (.tuple #[.pointer (some ⟨R,0,none⟩),.bool true])/\Zkd g ps u w2 R E/\(∀k,E k->w.heap.size<=k/\k < w2.heap.size)/\Za N0_ w w2:=fun w=>(hof w).mono (by
    rintro e w2 ⟨Z,rfl,h1,h2,h3⟩;refine ⟨Z.R,ExM Z,rfl,⟨Z,rfl,rfl,h1⟩,fun k hk=>?_,h3⟩;obtain ⟨dn,lv,t1,t2,-⟩:=h1.mi.tab
    rcases hk with rfl | rfl
    ·exact ⟨h2.1,lt_of_block t1⟩
    ·exact ⟨h2.2,lt_of_block t2⟩)
   obtain ⟨hO,hlen,hgl,hg9⟩:=Zrj ha;have hus:=ZbV ha
   cases hT:ZF t with
   | error x =>
     rw [hT] at htp;exact (ZgB (okv:=true) (tb:=false) (Or.inr (Or.inl rfl)) (fun w=>(hof2 w).mono (by rintro e w2 ⟨R,E,rfl,-,-,hk⟩; exact ⟨_,rfl,hk⟩)) (fun w=>(htp w).mono (by rintro e w2 ⟨v,rfl,hB,hk⟩; obtain ⟨a',c',hv⟩:=Zd hB; exact ⟨a',_,c',by rw [hv]; rfl,hk⟩))).mono (fun e w' h=>⟨h.1,h.2⟩)
   | ok B =>
     rw [hT] at htp hfew;have htp2 :∀w,Calls Tryz.prog 29 #[.string t] w fun e w' =>∃v,e = .returned (.agg #[.bool true,.int .i64 0,v])/\BR w' w.heap.size v B/\Za N0_ w w':=htp
     by_cases hm0:0<=most
     ·by_cases hB :∀b∈B,b.1<=(g:Int)
      ·dsimp only
       rw [if_pos ⟨hm0,hB⟩];refine Znw (Mach:=Zkd g ps u) hof2 htp2 (fun w w' R E h k=>h.same k) (fun w R E h=>?_) (fun w R E h=>?_) hus hlen hO hgl hg9 hfew.1 (fun b hb=>⟨hfew.2 b hb,hB b hb⟩) hm0 hm
       ·obtain ⟨Z,rfl,rfl,h3⟩:=h
        have:=h3.mi.mc
        rw [<- h3.eg];unfold Mc at this;rw [Zc this];rfl
       ·obtain ⟨Z,rfl,rfl,h3⟩:=h;refine (Ztx ha h3).mono ?_;rintro e w' ⟨ao,n,c,L,rfl,h4,h5,-,h6⟩;exact ⟨ao,n,c,L,rfl,h4,h5,h6⟩
      ·dsimp only
       rw [if_neg (fun h=>hB h.2)];have hB2 :∃b∈B,(g:Int) < b.1:=by
        apply Decidable.byContradiction;intro hn;exact hB (fun b hb=>Decidable.byContradiction fun hn2=>hn ⟨b,hb,by omega⟩)
       refine (Znx (Mach:=fun w R =>∃E,Zkd g ps u w R E) (fun w=>(hof2 w).mono (by rintro e w2 ⟨R,E,rfl,hM,-,hk⟩; exact ⟨R,rfl,⟨E,hM⟩,hk⟩)) htp2 (fun w w' R h k=>by obtain ⟨E,h⟩:=h; exact ⟨E,h.same k⟩) (fun w R h=>?_) hfew.1 hB2 hg9 hm0).mono (fun e w' h=>⟨h.1,h.2⟩);obtain ⟨E,Z,rfl,rfl,h3⟩:=h
       have:=h3.mi.mc
       rw [<- h3.eg];unfold Mc at this;rw [Zc this];rfl
     ·dsimp only
      rw [if_neg (fun h=>hm0 h.1)];exact (ZgB (okv:=true) (tb:=true) (Or.inr (Or.inr (by omega))) (fun w=>(hof2 w).mono (by rintro e w2 ⟨R,E,rfl,-,-,hk⟩; exact ⟨_,rfl,hk⟩)) (fun w=>(htp2 w).mono (by rintro e w2 ⟨v,rfl,hB,hk⟩; obtain ⟨a',c',hv⟩:=Zd hB; exact ⟨a',_,c',by rw [hv],hk⟩))).mono (fun e w' h=>⟨h.1,h.2⟩)
theorem ZjY {s u:ByteArray} {g:Nat} {f:Pf} (ht:ZD s = .ok (g,f)) (hw:wanted s u 0=true) :∃ps,Ask s u=some (g,ps):=by
 unfold Ask;rw [ZaS,ht];unfold wanted at hw;rw [ht] at hw;simp at hw;simp;omega
theorem Zri {s u:ByteArray} (hw:wanted s u 0≠true):Ask s u=none:=by
 cases ha:Ask s u with
 | none=>rfl
 | some gp =>
   exfalso;apply hw;unfold Ask at ha;rw [ZaS] at ha;unfold wanted
   cases ht:ZD s with
   | error x=>rw [ht] at ha; simp at ha
   | ok gf=>rw [ht] at ha; simp at ha; simp; omega
theorem Zog {w:World} {s u t:ByteArray} {most:Int} (ht:t.size<=1048576) (hm:most<=9223372036854775807) (hh:Hdl w):Calls Tryz.prog 7 #[.string s,.string u,.string t,.int .i64 most] w (ZsR s u t most w):=by
 unfold ZsR ZdO
 by_cases hw:wanted s u 0=true
 ·cases htr:ZD s with
  | error x=>simp [wanted,htr] at hw
  | ok gf =>
    obtain ⟨g,f⟩:=gf;obtain ⟨ps,ha⟩:=ZjY htr hw;rw [ha]
    cases hT:ZF t with
    | error x=>exact (ZfY hw ht hh (Or.inr (Or.inl ⟨x,hT⟩))).mono (fun e w' h=>⟨h.1,h.2⟩)
    | ok Bs =>
      dsimp only
      by_cases hc:0<=most/\∀b∈Bs,b.1<=(g:Int)
      ·rw [if_pos hc];obtain ⟨M,rfl⟩ :∃M:Nat,most=(M:Int):=⟨most.toNat,by omega⟩;exact Zoe hw hT (fun g' f' h'=>by rw [htr] at h'; cases h'; exact hc.2) hm ht hh
      ·rw [if_neg hc];refine (ZfY hw ht hh ?_).mono (fun e w' h=>⟨h.1,h.2⟩)
       by_cases hm0:most < 0
       ·exact Or.inl hm0
       ·refine Or.inr (Or.inr ⟨Bs,hT,g,f,htr,?_⟩);apply Decidable.byContradiction;intro hn;exact hc ⟨by omega,fun b hb=>Decidable.byContradiction fun hn2=>hn ⟨b,hb,by omega⟩⟩
 ·rw [Zri hw];exact (Zof hw ht hh).mono (fun e w' h=>⟨h.1,h.2⟩)
theorem Zlo {w:World} {s u t:ByteArray} {most:Int} (h0:s.size<=maxLen) (h1:u.size<=maxLen) (h2:t.size<=maxLen) (hm:most<=9223372036854775807) (hh:Hdl w) :
  Calls Tryz.prog 4 #[.string s,.string u,.string t,.int .i64 most] w fun e w'=>e = .returned (.bool true)/\Za N0_ w w' :=
 Zn6 (ok:=(ZdO s u t most).1) (x:=(ZdO s u t most).2.1) (n:=(ZdO s u t most).2.2) h0 h1 h2 hh (fun a b c w=>Zny a b c hm) (fun a b c w hh=>Zog c hm hh)
end Go.Proofs.YtfkflljplohhcaaGreatDoor
namespace Go.Proofs.YtfkflljplohhcaaGreatDoor.fnExactReplace
open Go.ChangeShapes Go.WideShapes Go.ChangeAt Go.RowKit
open Go.ChangeMaps (open_string shut_string)
set_option linter.unusedVariables false
theorem own:ownKnob Tryz.prog.godebug=none:=by kernel_rfl
theorem et : Tryz.prog.globalNamed "errors.errorType" = some 0 := by kernel_rfl
theorem rt : (Tryz.prog.cutTypes.find? (·.1 == "internal/reflectlite.rtype")).map (·.2) = some 190 := by kernel_rfl
theorem oneRow:((List.range 288).filter fun t=>Tryz.prog.rowNamed t [101,114,114,111,114]) = [90]:=by kernel_rfl
theorem size:Tryz.prog.types.size=288:=by kernel_rfl
theorem most_le {n:Int} (h:(Lit.int .i64 n).wf=true):n<=9223372036854775807:=by
 simp only [Lit.wf,Bool.and_eq_true,decide_eq_true_eq] at h;have h2:IntKind.i64.max=9223372036854775807:=rfl;omega
theorem handle_of {W:World} (h:laidMetH Tryz.prog Rows.fnExactReplaceRow.laid W):Hdl W:=by
 have h':laidMet Tryz.prog [] W/\handlesMet Tryz.prog Rows.fnExactReplaceRow.laid W:=h;obtain ⟨name,u,ty,e1,e2,e3,e4,e5⟩:=h'.2 _ (List.mem_singleton.2 rfl);have en:name = [101,114,114,111,114]:=(Option.some.inj e1).symm;subst en;obtain rfl:=Option.some.inj (rt.symm.trans e2);have hm:ty∈(List.range 288).filter fun t=>Tryz.prog.rowNamed t [101,114,114,111,114]:=List.mem_filter.2 ⟨List.mem_range.2 (by rw [<- size]; exact e3),e4⟩;rw [oneRow] at hm;obtain rfl:=List.mem_singleton.1 hm;have hh:typeHandle Tryz.prog 90 = .pointer (some ⟨1,90,none⟩):=by kernel_rfl
 rw [hh] at e5;unfold Hdl;simpa using World.var?_cell et e5 0
noncomputable def laidWorld (os:Os):World :=
 let w0:=World.holding Tryz.prog os ⟨#[],#[],[]⟩
 { w0 with heap:=w0.heap.modify 0 fun
   | .cells _ t frozen => .cells #[.iface 190 (.agg #[.pointer (some ⟨1,90,none⟩)])] t frozen
   | o=>o }
theorem laidWorld_met (os:Os) (args:Array Value):laidMetH Tryz.prog Rows.fnExactReplaceRow.laid ((laidWorld os).forCall (fun _ _=>0) ⟨#[],args,[]⟩).memory :=
 laidMetH_of_parts (laidMet_nil _ _) (by kernel_rfl)
theorem lifted (os:Os) (started:os.Started) (H:Type) (enc:TypeId×Value->H) :
  ReturnsInHanded {} Tryz.checked os 4 .any (fun w args=>(Rows.fnExactReplaceSpec.pre enc Tryz.prog Tryz.f4 [] false w args/\laidMetH Tryz.prog Rows.fnExactReplaceRow.laid w)/\sizedMet enc Tryz.prog Tryz.f4 (OpenSpec.ofChange Rows.fnExactReplaceSpec) false w args)
   (Rows.fnExactReplaceSpec.post enc Tryz.prog Tryz.f4 false true false false):=by
 refine returnsInHanded_of_change_and (C:=Tryz.checked) (X:=fun w _=>laidMetH Tryz.prog Rows.fnExactReplaceRow.laid w) (fun _ _ _ hh h=>h.of_heap hh) own started (by kernel_rfl) Tryz.func4
  (ChangeSpec.witness_at (enc:=enc) (C:=Tryz.checked) (os:=os) (X:=fun w _=>laidMetH Tryz.prog Rows.fnExactReplaceRow.laid w) false (laidWorld os) #[.string ByteArray.empty,.string ByteArray.empty,.string ByteArray.empty,.int .i64 0] 8 rfl (by kernel_rfl) (by kernel_rfl) (by kernel_rfl) (by kernel_rfl) (by kernel_rfl) (laidWorld_met os _)) ?_
 intro W base args ds gs before hval0 hW _ _ hL _;have hval :∀(j:Nat) t v,Tryz.f4.params[j]? = some t->args[j]? = some v->Value.okWide Tryz.prog W .any base t v:=hval0;have hW':=hW;obtain ⟨p,q,hA0,hV,rfl,hfz,hnd⟩:=hW;have hA:DataW.TrodAll enc Tryz.prog W 0 (fun _=>true) true Tryz.f4.params.toList args.toList ds p:=hA0;rw [Tryz.params4] at hA hval;obtain ⟨v0,vs0,d0,ds0,p0,q0,hargs,rfl,rfl,h0,r0⟩:=trodAll_cons hA;obtain ⟨v1,vs1,d1,ds1,p1,q1,rfl,rfl,rfl,h1,r1⟩:=trodAll_cons r0;obtain ⟨v2,vs2,d2,ds2,p2,q2,rfl,rfl,rfl,h2,r2⟩:=trodAll_cons r1;obtain ⟨v3,vs3,d3,ds3,p3,q3,rfl,rfl,rfl,h3,r3⟩:=trodAll_cons r2;obtain ⟨rfl,rfl,rfl⟩:=trodAll_nil r3;obtain rfl:args = #[v0,v1,v2,v3]:=by cases args; simp_all
 obtain ⟨rfl,rfl⟩:=trodVars_none hV;obtain ⟨a0,rfl,rfl,rfl,w0⟩:=open_string Tryz.underlying9 (hval 0 9 v0 rfl rfl) h0;obtain ⟨a1,rfl,rfl,rfl,w1⟩:=open_string Tryz.underlying9 (hval 1 9 v1 rfl rfl) h1;obtain ⟨a2,rfl,rfl,rfl,w2⟩:=open_string Tryz.underlying9 (hval 2 9 v2 rfl rfl) h2;obtain ⟨n3,rfl,rfl,rfl,w3⟩:=open_int Tryz.underlying3 (hval 3 3 v3 rfl rfl) h3;clear hA0 hval0;simp only [List.append_nil] at hW';refine (Zlo (most:=n3) w0 w1 w2 (most_le w3) (handle_of hL)).mono fun e W' ⟨he,hg⟩=>?_;subst he;exact ⟨_,rfl,_,_,_,[],[],[],hW',trodAll_mk1 (shut_bool Tryz.underlying4 _),trodAll_cons_mk (shut_string Tryz.underlying9 w0) (trodAll_cons_mk (shut_string Tryz.underlying9 w1) (trodAll_cons_mk (shut_string Tryz.underlying9 w2) (trodAll_cons_mk (shut_int Tryz.underlying3 w3) trodAll_mk0))),rfl,(hg.below _ (fun _ _ h=>h) (Nat.le_refl _)).frame _,fun h=>by cases h⟩
theorem over:Rows.fnExactReplaceRow.holds Tryz.pinned (OpenSpec.ofChange Rows.fnExactReplaceSpec) :=
 OpenClaim.holds_of_wide 4 Tryz.f4 rfl rfl rfl rfl rfl rfl rfl ⟨rfl,rfl,rfl,rfl,rfl⟩ rfl rfl rfl rfl rfl (by kernel_rfl) Tryz.func4 (by kernel_rfl)
  (of_decide_eq_true (by kernel_rfl)) (by unfold Func.isWrapper; first | (rw [if_pos (by decide +kernel)]; kernel_rfl) | (rw [if_neg (by decide +kernel)]; exact ⟨rfl,rfl⟩))
  (fun os started H enc _=>lifted os started H enc)
end Go.Proofs.YtfkflljplohhcaaGreatDoor.fnExactReplace
namespace Go.Proofs.YtfkflljplohhcaaGreatDoor
open Go
theorem xreplace_holds:Rows.FnExactReplaceCardSaid :=
 Claim7.holds_tied_plain_at .later [] [.handle] true Rows.fnExactReplaceCard.stood.harness true fnExactReplace.over (fun _ h=>by cases h) (by kernel_rfl) (fun _ h=>by cases h) fnExactReplace_row_tie rfl ⟨rfl,rfl⟩ (by kernel_rfl) rfl
  (fun f fn hf hfn=>by
   obtain rfl:f=4:=Option.some.inj ((show Tryz.prog.funcNamed Rows.fnExactReplaceRow.func=some 4 by kernel_rfl).symm.trans hf) |>.symm;obtain rfl:fn=Tryz.f4:=(Option.some.inj (Tryz.func4.symm.trans hfn)).symm;exact ⟨by kernel_rfl,fun j t ht=>by
    rw [Tryz.params4] at ht;have hm:t∈[9,9,9,3]:=by simpa using Array.mem_of_getElem? ht
    have hall:([9,9,9,3].all fun u => !Tryz.prog.wantsStandIn u)=true:=by kernel_rfl
    exact (show Tryz.prog.wantsStandIn t=false by simpa using List.all_eq_true.1 hall t hm)⟩)
  (by kernel_rfl)
#print axioms xreplace_holds
end Go.Proofs.YtfkflljplohhcaaGreatDoor
