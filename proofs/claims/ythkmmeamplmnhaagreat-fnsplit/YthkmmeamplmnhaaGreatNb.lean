import Derived.Test.YthkmmeamplmnhaaGreatNa
import Derived.Test.YthkmmeamplmnhaaGreatYr
import Derived.Test.YthkmmeamplmnhaaGreatYt
import Derived.Test.YthkmmeamplmnhaaGreatYu
namespace Go.Proofs.YthkmmeamplmnhaaGreat
open Go.RowKit
set_option linter.unusedVariables false
theorem findW_in {s u:ByteArray} {k p:Nat} {m:Mt} (h:findL (fun a=>waysRef s u (a:Int)) k p=some m):m.ok=true∧(p:Int)≤m.fr∧m.fr≤m.up∧m.up≤(u.size:Int)∧p + 1≤nxt m∧nxt m≤u.size + 1∧m.gs.length≤9:=by
 obtain ⟨a,h1,h2,h3⟩:=findL_at _ _ h
 have h4:=waysRef_in h3
 have h5:=waysRef_gs h3
 unfold nxt
 refine ⟨h4.1,by omega,by omega,h4.2.2.2,?_,?_,h5⟩
 ·split <;> omega
 ·split <;> omega
def SaP (l:List Mt) (Z:Mz) (w:World) (e:Ending) (w':World):Prop :=
 ∃(ao:Option Addr) (n c:Nat) (L:List Mm),e = .returned (.slice ao n c)∧L.map (·.1)=l∧Mts w' (.slice ao n c) L∧MI w' Z (fun _=>False) (fun _=>False)∧Keeps (ExM Z) w w'
set_option maxHeartbeats 2000000 in
set_option maxRecDepth 100000 in
theorem sall {w:World} {s u:ByteArray} {Z:Mz} {g:Nat} {ps:List Pc} (ha:Ask s u=some (g,ps)) (hr:Mr w Z g ps u) :
  Calls Tryz.prog 32 #[.pointer (some ⟨Z.R,0,none⟩)] w (SaP (allRef s u) Z w):=by
 have hu200:=ask_small ha
 have HR:Hid (∀w',MI w' Z (fun _=>False) (fun _=>False)→Mr w' Z g ps u):=fun w' h=>⟨hr.ms,hr.knd,h,hr.eg,hr.eps,hr.eu,hr.len⟩
 have HU:Hid (Z.u=u):=hr.eu
 have HA:Hid (Ask s u=some (g,ps)):=ha
 have H1:Hid (MI w Z (fun _=>False) (fun _=>False)):=hr.mi
 clear hr ha
 go_enter Tryz.func32,Tryz.ntmps32
 go_wp2
 go_loopg [3,4,5] (u.size + 2) (fun gl s3 s4 _ wr =>∃(a:Nat) (ov:Value) (L:List Mm),u.size + 2≤a + gl∧a≤u.size + 1∧s3=ov∧s4 = .int .i64 (a:Int)∧L.length≤a∧Hid (L.map (·.1) ++ allL (fun a=>waysRef s u (a:Int)) u.size gl a=allRef s u)∧Mts wr ov L∧(∀b,ov.ownBlock=some b→w.heap.size≤b)∧Hid (MI wr Z (fun _=>False) (fun _=>False)∧Keeps (ExM Z) w wr))
 case atStart=>exact ⟨0,_,[],by omega,by omega,rfl,rfl,by simp,rfl,⟨World.ownsRow_nil _ _ _ _,by simp⟩,fun b h=>by simp [Value.ownBlock] at h,H1.out,Keeps.refl _ _⟩
 case round =>
  obtain ⟨a,ov,L,hgl,hau,rfl,rfl,hLa,HL,hO,hov,HI⟩:=hrel
  have HG:Hid (u.size + 2≤a + gk):=hgl
  clear hgl H1
  obtain ⟨ao,co,hovf⟩:=own_form hO.row
  subst hovf
  obtain ⟨hM,hK⟩:=HI.out
  have m4:=hM.mc.c4
  rw [HU.out] at m4
  by_cases hle:a≤u.size
  ·have hz:(a:Int)≤(u.size:Int):=by omega
   have hcall:=sfind (p:=a) HA.out (HR.out wr hM) (by omega)
   unfold SfP at hcall
   obtain ⟨r,hfr⟩ :∃r,findL (fun a=>waysRef s u (a:Int)) (u.size + 1 - a) a=r:=⟨_,rfl⟩
   rw [hfr] at hcall
   have HFR:Hid (findL (fun a=>waysRef s u (a:Int)) (u.size + 1 - a) a=r):=hfr
   clear hfr
   obtain ⟨gq,rfl⟩ :∃gq,gk=gq + 1:=⟨gk - 1,by have:=HG.out; omega⟩
   go_upto_region 5 with (go_at_call 43; refine hcall.mono ?_; rintro e w3 ⟨ax,nx,cx,rfl,hx,hM2,hk2⟩; obtain ⟨ax',cx',hxv⟩:=own_form hx; cases hxv)
   clear hcall m4
   have hO3:Mts w3 (.slice ao L.length co) L:=⟨ownsRow_keeps hO.row hk2 (hM.exM.own hO.row (by decide)),fun x hxm=>ownsRow_keeps (hO.rows x hxm) hk2 (hM.exM.own (hO.rows x hxm) (by decide))⟩
   have hsz2:=hk2.size
   have hwsz:w.heap.size≤wr.heap.size:=hK.size
   have kA:Keeps (fun _=>False) w3 (w3.alloc (.cells #[.bool (mtD r).ok,.int .i64 (mtD r).fr,.int .i64 (mtD r).up,.slice ax (mtD r).gs.length cx] 29)):=(Keeps.refl _ _).alloc _
   have bX:(w3.alloc (.cells #[.bool (mtD r).ok,.int .i64 (mtD r).fr,.int .i64 (mtD r).up,.slice ax (mtD r).gs.length cx] 29)).heap[w3.heap.size]? = some (.cells #[.bool (mtD r).ok,.int .i64 (mtD r).fr,.int .i64 (mtD r).up,.slice ax (mtD r).gs.length cx] 29 (0,0)):=heap_alloc_new _ _
   have hO4:=hO3.same kA
   have hx4:SpR _ _ _:=ownsRow_keeps hx kA (fun _ _ h=>h)
   have hM4:=hM2.same kA
   have hK4:Keeps (ExM Z) w (w3.alloc (.cells #[.bool (mtD r).ok,.int .i64 (mtD r).fr,.int .i64 (mtD r).up,.slice ax (mtD r).gs.length cx] 29)):=(hK.trans hk2).trans (kA.mono (fun _ _ h=>h.elim))
   have HOP:Hid (∀b,(Value.slice ao L.length co).ownBlock=some b→b≠w3.heap.size):=fun b hb e=>by have:=(hO3.row.lt b hb).2; omega
   clear hO hO3 hx hM2 hk2 hM hK HI kA
   generalize (w3.alloc (.cells #[.bool (mtD r).ok,.int .i64 (mtD r).fr,.int .i64 (mtD r).up,.slice ax (mtD r).gs.length cx] 29))=w4 at *
   generalize w3.heap.size=P at *
   have d0:w4.cell? ⟨P,0,none⟩=some (.bool (mtD r).ok):=by rw [cell_of bX]; rfl
   have d1:w4.cell? ⟨P,1,none⟩=some (.int .i64 (mtD r).fr):=by rw [cell_of bX]; rfl
   have d2:w4.cell? ⟨P,2,none⟩=some (.int .i64 (mtD r).up):=by rw [cell_of bX]; rfl
   have d3:w4.cell? ⟨P,3,none⟩=some (.slice ax (mtD r).gs.length cx):=by rw [cell_of bX]; rfl
   cases r with
   | none =>
     simp only [mtD] at d0 d1 d2 d3
     have HF:Hid (SaP (allRef s u) Z w (.returned (.slice ao L.length co)) w4):=by
      refine ⟨ao,L.length,co,L,rfl,?_,hO4,hM4,hK4⟩
      have:=HL.out
      simp only [allL,HFR.out,List.append_nil] at this
      exact this
     clear hO4 hx4 hM4 hK4 HL HFR bX
     go_wp2_with fail
     go_ret
     exact HF.out
   | some m =>
     simp only [mtD] at d0 d1 d2 d3 hx4
     obtain ⟨f1,f2,f3,f4,f5,f6,f7⟩:=findW_in HFR.out
     rw [f1] at d0
     obtain ⟨v',w9,hrun0,ho,hk9⟩:=app_match (base:=w.heap.size) (ownsRow_base hO4.row hov) hK4.size (by omega) (m,.slice ax m.gs.length cx) rfl
     have hMt:=mts_snoc (x:=(m,.slice ax m.gs.length cx)) hO4 hx4 hk9 (ownsRow_base ho (fun _ _=>Nat.zero_le _))
     have hov2 :∀k,v'.ownBlock=some k→w.heap.size≤k:=fun k hk=>(ho.lt k hk).1
     have hKn:Keeps (ExM Z) w w9:=hK4.trans' hk9 (fun k hk h=>by have:=hov k h; omega)
     have bX9:=(hk9.block P (lt_of_block bX) (fun h=>HOP.out P h rfl)).trans bX
     have hM9:=hM4.keepsM hk9 (fun k hk=>by obtain ⟨cur,h⟩:=own_block hO4.row hk; exact ⟨cur,_,h,by decide⟩)
     have e1:w9.cell? ⟨P,1,none⟩=some (.int .i64 m.fr):=by rw [cell_of bX9]; rfl
     have e2:w9.cell? ⟨P,2,none⟩=some (.int .i64 m.up):=by rw [cell_of bX9]; rfl
     have hrun:Sem.run Tryz.prog (Builtin.append_ #[25,25] 25 #[.slice ao L.length co,.slice (some ⟨w4.heap.size,0,none⟩) 1 1]) (w4.alloc (.cells #[.bool true,.int .i64 m.fr,.int .i64 m.up,.slice ax m.gs.length cx] 29)) = .ok v' w9:=by rw [← f1]; exact hrun0
     have HL2:Hid ((L ++ [((m,Value.slice ax m.gs.length cx):Mm)]).map (·.1) ++ allL (fun a=>waysRef s u (a:Int)) u.size gq (nxt m)=allRef s u):=by
      have:=HL.out
      simp only [allL,HFR.out] at this
      show _ = _
      rw [← this]
      simp
     have HI2:Hid (MI w9 Z (fun _=>False) (fun _=>False)∧Keeps (ExM Z) w w9):=⟨hM9,hKn⟩
     obtain ⟨av,cv,hvf⟩:=own_form ho
     subst hvf
     simp only [List.length_append,List.length_singleton] at hMt hov2
     have HLn:Hid ((L ++ [((m,Value.slice ax m.gs.length cx):Mm)]).length≤nxt m):=by
      show _≤_
      rw [List.length_append,List.length_singleton]
      omega
     have HNx:Hid (u.size + 2≤nxt m + gq∧nxt m≤u.size + 1):=⟨by have:=HG.out; omega,f6⟩
     have HUp:Hid (0≤m.up):=(by show (0:Int)≤m.up; omega)
     clear hrun0 ho hk9 hO4 hx4 hM4 hK4 HL HFR bX bX9 hM9 hKn f5 f6 f7 hov HG
     by_cases he:m.up=m.fr
     ·have hz2:(m.up == m.fr)=true:=by simp [he]
      have HN2:Hid (((nxt m:Nat):Int)=m.up + 1):=(by show _ = _; unfold nxt; rw [if_pos he]; have:=HUp.out; omega)
      clear he
      go_wp2_with (refine wpList_append_run rfl _ _ _ _ rfl rfl _ _ _ _ rfl rfl hrun ?_)
      go_roundg gq
      case measure=>omega
      case rel=>exact ⟨nxt m,_,_,HNx.out.1,HNx.out.2,rfl,congrArg (Value.int .i64) HN2.out.symm,HLn.out,HL2,hMt,hov2,HI2⟩
     ·have hz2:(m.up == m.fr)=false:=by simp [he]
      have HN2:Hid (((nxt m:Nat):Int)=m.up):=(by show _ = _; unfold nxt; rw [if_neg he]; have:=HUp.out; omega)
      clear he
      go_wp2_with (refine wpList_append_run rfl _ _ _ _ rfl rfl _ _ _ _ rfl rfl hrun ?_)
      go_roundg gq
      case measure=>omega
      case rel=>exact ⟨nxt m,_,_,HNx.out.1,HNx.out.2,rfl,congrArg (Value.int .i64) HN2.out.symm,HLn.out,HL2,hMt,hov2,HI2⟩
  ·have hz:¬ (a:Int)≤(u.size:Int):=by omega
   have HF:Hid (SaP (allRef s u) Z w (.returned (.slice ao L.length co)) wr):=by
    refine ⟨ao,L.length,co,L,rfl,?_,hO,hM,hK⟩
    have:=HL.out
    obtain ⟨gq,hgq⟩ :∃gq,gk=gq + 1:=⟨gk - 1,by have:=HG.out; omega⟩
    rw [hgq] at this
    simp only [allL] at this
    rw [show u.size + 1 - a=0 by omega] at this
    simp only [findL,List.append_nil] at this
    exact this
   clear HI hM hO hK HL
   go_wp2_with fail
   go_ret
   exact HF.out
theorem findL_nil0 {L:Nat→List Mt} (h :∀a,L a = []) :∀(k p:Nat),findL L k p=none:=by
 intro k
 induction k with
 | zero=>intro p; rfl
 | succ k ih=>intro p; rw [findL_none (h p)]; exact ih _
theorem allRef_none {s u:ByteArray} (h:Ask s u=none):allRef s u = []:=by
 unfold allRef
 simp only [allL]
 rw [findL_nil0 (fun a=>ask_none h _)]
set_option maxHeartbeats 2000000 in
set_option maxRecDepth 100000 in
theorem sall_any {w:World} {s u:ByteArray} (hs:s.size≤1048576) (hu:u.size≤1048576):Calls Tryz.prog 9 #[.string s,.string u] w (RowQ (allRef s u) w):=by
 have hof:=l2of_any (w:=w) hs hu
 unfold OfPost at hof
 cases ha:Ask s u with
 | none =>
   rw [ha] at hof
   simp only at hof
   rw [allRef_none ha]
   clear ha
   go_enter Tryz.func9,Tryz.ntmps9
   go_wp2_with (go_at_call 31; refine hof.mono ?_; rintro e w2 ⟨R,rfl,hk⟩)
   go_ret
   exact ⟨none,0,0,[],rfl,rfl,⟨World.ownsRow_nil _ _ _ _,by simp⟩,hk⟩
 | some gp =>
   obtain ⟨g,ps⟩:=gp
   rw [ha] at hof
   simp only at hof
   have hof2:Calls Tryz.prog 31 #[.string s,.string u] w (fun e w2 =>∃Z,e = .returned (.tuple #[.pointer (some ⟨Z.R,0,none⟩),.bool true])∧Hid (Mr w2 Z g ps u∧w.heap.size≤Z.Bd∧w.heap.size≤Z.Bl)∧Keeps (fun _=>False) w w2):=by
    refine hof.mono ?_
    rintro e w2 ⟨Z,rfl,h1,h2,h3⟩
    exact ⟨Z,rfl,⟨h1,h2.1,h2.2⟩,h3⟩
   have HA:Hid (Ask s u=some (g,ps)):=ha
   clear ha hof
   go_enter Tryz.func9,Tryz.ntmps9
   go_wp2_with (first
    | (go_at_call 31; refine hof2.mono ?_; rintro e w2 ⟨Z,rfl,HM,hk1⟩; clear hof2)
    | (go_at_call 32; refine (sall HA.out HM.out.1).mono ?_; rintro e w3 ⟨ao,n,c,L,rfl,HL,hO,hM2,hk2⟩))
   go_ret
   exact ⟨ao,n,c,L,rfl,HL,hO,hk1.trans' hk2 (fun i hi h=>by have h1:=HM.out.2.1; have h2:=HM.out.2.2; rcases h with h | h <;> omega)⟩
theorem ask_wanted2 (s u:ByteArray) (p:Int):wanted s u p=((Ask s u).isSome && decide (0≤p) && decide (p≤(u.size:Int))):=by
 unfold Ask wanted
 rw [read_tree]
 cases treeRef s with
 | error x=>simp
 | ok gf =>
   obtain ⟨g,f⟩:=gf
   by_cases h:u.size≤200
   ·simp [h]
   ·simp [h]
theorem split_none_ref {s u:ByteArray} (h:Ask s u=none):splitRef s u = []:=by
 unfold splitRef
 rw [if_neg]
 rw [ask_wanted2,h]
 simp
theorem split_some_ref {s u:ByteArray} {gp:Nat×List Pc} (h:Ask s u=some gp):splitRef s u=(spA u (allRef s u)).1 ++ [u.extract (spA u (allRef s u)).2 u.size]∧Ord u.size 0 (allRef s u)∧(allRef s u).length≤201:=by
 have hw:wanted s u 0=true:=by
  rw [ask_wanted2,h]
  simp
 have hu:=ask_small h
 cases ht:treeRef s with
 | error x=>simp [wanted,ht] at hw
 | ok gf =>
   obtain ⟨g,f⟩:=gf
   obtain ⟨hfg,-,-,-⟩:=tree_fg ht
   have hX:OkX u.size 0 g (smx u [] f):=fp_ok u ⟨f,hfg,rfl⟩
   rw [allRef_eq hw ht]
   refine ⟨?_,allX_ord hX _ _ (Nat.zero_le _),?_⟩
   ·unfold splitRef
    rw [if_pos hw,allRef_eq hw ht]
   ·have:=allX_len hX (u.size + 2) 0 (Nat.zero_le _)
    omega
theorem spA_take {u:ByteArray} {l:List Mt} {k:Nat} (h:k < l.length):spA u (l.take (k + 1))=spS u (spA u (l.take k)) l[k]:=by
 rw [List.take_succ_eq_append_getElem h,spA_snoc]
set_option maxHeartbeats 2000000 in
set_option maxRecDepth 100000 in
theorem ssplit_any {w:World} {s u:ByteArray} (hs:s.size≤1048576) (hu:u.size≤1048576):Calls Tryz.prog 25 #[.string s,.string u] w (SplitP s u w):=by
 have hof:=l2of_any (w:=w) hs hu
 unfold OfPost at hof
 cases ha:Ask s u with
 | none =>
   rw [ha] at hof
   simp only at hof
   have HR:Hid (splitRef s u = []):=split_none_ref ha
   clear ha
   go_enter Tryz.func25,Tryz.ntmps25
   go_wp2_with (go_at_call 31; refine hof.mono ?_; rintro e w2 ⟨R,rfl,hk⟩)
   go_ret
   exact ⟨none,0,0,rfl,(by rw [HR.out]; exact World.ownsRow_nil _ _ _ _),hk⟩
 | some gp =>
   obtain ⟨g,ps⟩:=gp
   rw [ha] at hof
   simp only at hof
   have hof2:Calls Tryz.prog 31 #[.string s,.string u] w (fun e w2 =>∃Z,e = .returned (.tuple #[.pointer (some ⟨Z.R,0,none⟩),.bool true])∧Hid (Mr w2 Z g ps u∧w.heap.size≤Z.Bd∧w.heap.size≤Z.Bl)∧Keeps (fun _=>False) w w2):=by
    refine hof.mono ?_
    rintro e w2 ⟨Z,rfl,h1,h2,h3⟩
    exact ⟨Z,rfl,⟨h1,h2.1,h2.2⟩,h3⟩
   have HA:Hid (Ask s u=some (g,ps)):=ha
   clear ha hof
   go_enter Tryz.func25,Tryz.ntmps25
   go_wp2_with (first
    | (go_at_call 31; refine hof2.mono ?_; rintro e w2 ⟨Z,rfl,HM,hk1⟩; clear hof2)
    | (go_at_call 32; refine (sall HA.out HM.out.1).mono ?_; rintro e w3 ⟨ao,n,c,L,rfl,HL,hO,hM2,hk2⟩))
   obtain ⟨hRef,hOrd,hFew⟩:=split_some_ref HA.out
   have HRef:Hid (splitRef s u=(spA u (allRef s u)).1 ++ [u.extract (spA u (allRef s u)).2 u.size]):=hRef
   have hu200:=ask_small HA.out
   have hk13:Keeps (fun _=>False) w w3:=hk1.trans' hk2 (fun i hi h=>by have h1:=HM.out.2.1; have h2:=HM.out.2.2; rcases h with h | h <;> omega)
   have hn:n=L.length:=by obtain ⟨a',c',hv⟩:=own_form hO.row; cases hv; rfl
   have hrow:=hO.row
   have HLn:Hid (L.length=n):=hn.symm
   have HRows:Hid (∀x∈L,∃ax nx cx,x.2 = .slice ax nx cx):=fun x hx=>(by obtain ⟨ax,cx,h⟩:=own_form (hO.rows x hx); exact ⟨_,_,_,h⟩)
   have hnf:n≤201:=by rw [hn,← List.length_map (f:=fun x=>x.1),HL]; exact hFew
   have HO:Hid (Ord u.size 0 (L.map (·.1))):=(by show Ord _ _ _; rw [HL]; exact hOrd)
   have HLm:Hid (L.map (·.1)=allRef s u):=HL
   have hs13:=hk13.size
   rw [← hn] at hrow
   clear hO HL hRef hOrd hFew hn hM2 hk2 hk1 HM HA
   go_loopw [7,8,22] (fun o at_ i wr =>∃k:Nat,k≤n∧i = .int .i64 k∧at_ = .int .i64 ((spA u ((L.map (·.1)).take k)).2:Int)∧Sr wr w3.heap.size o (spA u ((L.map (·.1)).take k)).1∧Keeps (fun j=>w3.heap.size≤j) w3 wr) (fun _ _ i _=>n - (intOf i).toNat)
   case atStart=>exact ⟨0,by omega,rfl,rfl,World.ownsRow_nil _ _ _ _,Keeps.refl _ _⟩
   case round =>
    obtain ⟨k,hk,rfl,rfl,hSr,hK⟩:=hrel
    obtain ⟨a,ha⟩ :∃a,(spA u ((L.map (·.1)).take k)).2=a:=⟨_,rfl⟩
    have hfew:(spA u ((L.map (·.1)).take k)).1.length≤201:=by
     have h1:=sp_few (u:=u) ((L.map (·.1)).take k)
     rw [List.length_take] at h1
     omega
    have hwr:=hK.size
    obtain ⟨aS,nS,cS,hvf⟩ :∃aS nS cS,_=Value.slice aS nS cS:=by obtain ⟨ao,cap,h⟩:=own_form hSr; exact ⟨_,_,_,h⟩
    subst hvf
    rw [ha]
    by_cases hlt:k < n
    ·have hz:(k:Int) < (n:Int):=by omega
     have hkL:k < L.length:=by have:=HLn.out; omega
     have hkM:k < (L.map (·.1)).length:=by rw [List.length_map]; exact hkL
     have hmk:(L.map (·.1))[k]=L[k].1:=by simp
     have hr:=ownsRow_keeps hrow hK (fun j hj h=>by have:=(hrow.lt j hj).2; omega)
     obtain ⟨gm,rfl⟩ :∃gm,ao=some ⟨gm,0,none⟩:=by
      obtain ⟨m,rfl⟩ :∃m,n=m + 1:=⟨n - 1,by omega⟩
      obtain ⟨g,c',hv,-⟩:=own_some hr
      cases hv
      exact ⟨g,rfl⟩
     have m0:=hr.cellAt (k * 4) (by omega)
     have m1:=hr.cellAt (k * 4 + 1) (by omega)
     have m2:=hr.cellAt (k * 4 + 2) (by omega)
     have m3:=hr.cellAt (k * 4 + 3) (by omega)
     have e0:=cell4_get hkL 0 (by omega)
     rw [Nat.add_zero] at e0
     rw [e0] at m0
     clear e0
     rw [cell4_get hkL 1 (by omega)] at m1
     rw [cell4_get hkL 2 (by omega)] at m2
     rw [cell4_get hkL 3 (by omega)] at m3
     rw [show (cell4 L[k])[0]? = some (.bool L[k].1.ok) from rfl] at m0
     rw [show (cell4 L[k])[1]? = some (.int .i64 L[k].1.fr) from rfl] at m1
     rw [show (cell4 L[k])[2]? = some (.int .i64 L[k].1.up) from rfl] at m2
     rw [show (cell4 L[k])[3]? = some L[k].2 from rfl] at m3
     have HS:Hid (spA u ((L.map (·.1)).take (k + 1))=spS u (spA u ((L.map (·.1)).take k)) L[k].1):=(by show _ = _; rw [spA_take hkM,hmk])
     have hdrop:(L.map (·.1)).take k ++ L[k].1 :: (L.map (·.1)).drop (k + 1)=L.map (·.1):=by
      rw [← hmk,← List.drop_eq_getElem_cons hkM,List.take_append_drop]
     have hle:=sp_le ((L.map (·.1)).take k) L[k].1 ((L.map (·.1)).drop (k + 1)) 0 ([],0) (by rw [hdrop]; exact HO.out) (Nat.le_refl _)
     change ((spA u ((L.map (·.1)).take k)).2:Int)≤L[k].1.fr at hle
     rw [ha] at hle
     have hord2 :∀(l1:List Mt) (m:Mt) (l2:List Mt) (p:Nat),Ord u.size p (l1 ++ m :: l2)→m.fr≤m.up∧m.up≤(u.size:Int):=by
      intro l1
      induction l1 with
      | nil=>intro m l2 p h; exact ⟨h.2.1,h.2.2.1⟩
      | cons x l1 ih=>intro m l2 p h; exact ih m l2 _ h.2.2.2.1
     obtain ⟨hfu,hun⟩:=hord2 _ _ _ 0 (by rw [hdrop]; exact HO.out)
     obtain ⟨ax,nx,cx,hxv⟩:=HRows.out L[k] (List.getElem_mem hkL)
     rw [hxv] at m3
     clear hxv
     generalize L[k].1=x at m0 m1 m2 HS hle hfu hun
     obtain ⟨fN,hfN⟩ :∃fN:Nat,x.fr=(fN:Int):=⟨x.fr.toNat,by omega⟩
     obtain ⟨tN,htN⟩ :∃tN:Nat,x.up=(tN:Int):=⟨x.up.toNat,by omega⟩
     rw [hfN] at m1 hle hfu
     rw [htN] at m2 hfu hun
     have kB:Keeps (fun _=>False) wr (wr.alloc (.cells #[.bool x.ok,.int .i64 (fN:Int),.int .i64 (tN:Int),.slice ax nx cx] 29)):=(Keeps.refl _ _).alloc _
     have bB:(wr.alloc (.cells #[.bool x.ok,.int .i64 (fN:Int),.int .i64 (tN:Int),.slice ax nx cx] 29)).heap[wr.heap.size]? = some (.cells #[.bool x.ok,.int .i64 (fN:Int),.int .i64 (tN:Int),.slice ax nx cx] 29 (0,0)):=heap_alloc_new _ _
     go_upto_region 9 with fail
     clear m0 m1 m2 m3 HRows
     generalize (wr.alloc (.cells #[.bool x.ok,.int .i64 (fN:Int),.int .i64 (tN:Int),.slice ax nx cx] 29))=w4 at kB bB ⊢
     have d1:w4.cell? ⟨wr.heap.size,1,none⟩=some (.int .i64 (fN:Int)):=by rw [cell_of bB]; rfl
     have d2:w4.cell? ⟨wr.heap.size,2,none⟩=some (.int .i64 (tN:Int)):=by rw [cell_of bB]; rfl
     have hSr4:Sr w4 w3.heap.size (.slice aS nS cS) (spA u ((L.map (·.1)).take k)).1:=ownsRow_keeps hSr kB (fun _ _ h=>h)
     have hK4:Keeps (fun j=>w3.heap.size≤j) w3 w4:=hK.trans (kB.mono (fun _ _ h=>h.elim))
     have hw4:=kB.size
     by_cases cSk:tN=fN∧(fN=0∨fN=u.size)
     ·have hsk:spA u ((L.map (·.1)).take (k + 1))=spA u ((L.map (·.1)).take k):=by
       rw [HS.out,spS,if_pos (by rw [hfN,htN]; omega)]
      have HP:Hid (Sr w4 w3.heap.size (.slice aS nS cS) (spA u ((L.map (·.1)).take (k + 1))).1∧Value.int .i64 (a:Int) = .int .i64 ((spA u ((L.map (·.1)).take (k + 1))).2:Int)):=⟨by rw [hsk]; exact hSr4,by rw [hsk,ha]⟩
      have z1:((tN:Int) == (fN:Int))=true:=by simp; omega
      by_cases c0:fN=0
      ·have z2:((fN:Int) == 0)=true:=by simp; omega
       clear hSr4 hSr hsk cSk c0 hfN htN hle hfu hun HS hdrop hord2 hr hrow hmk ha hfew
       go_wp2
       go_roundw
       case rel=>exact ⟨k + 1,by omega,by go_num,HP.out.2,HP.out.1,hK4⟩
       case measure=>simp [intOf]; omega
      ·have z2:((fN:Int) == 0)=false:=by simp; omega
       have z3:((fN:Int) == (u.size:Int))=true:=by simp; omega
       clear hSr4 hSr hsk cSk c0 hfN htN hle hfu hun HS hdrop hord2 hr hrow hmk ha hfew
       go_wp2
       go_roundw
       case rel=>exact ⟨k + 1,by omega,by go_num,HP.out.2,HP.out.1,hK4⟩
       case measure=>simp [intOf]; omega
     ·have hns:spA u ((L.map (·.1)).take (k + 1))=((spA u ((L.map (·.1)).take k)).1 ++ [u.extract a fN],tN):=by
       rw [HS.out,spS,if_neg (by rw [hfN,htN]; omega),ha,hfN,htN]
       rfl
      obtain ⟨v2,w5,hrun,ho2,hk5,hbk⟩:=app_str hSr4 (by omega) (by omega) (u.extract a fN)
      obtain ⟨ao2,cp2,hv2⟩:=own_form ho2
      have HP:Hid (Sr w5 w3.heap.size v2 (spA u ((L.map (·.1)).take (k + 1))).1∧Value.int .i64 (tN:Int) = .int .i64 ((spA u ((L.map (·.1)).take (k + 1))).2:Int)∧Keeps (fun j=>w3.heap.size≤j) w3 w5):=⟨by rw [hns]; exact ho2,by rw [hns],hK4.trans (hk5.mono (fun j _ h=>(hSr4.lt j h).1))⟩
      have hsl:=fun w=>slice_str (u:=u) (a:=a) (b:=fN) (by omega) (by omega) w
      have d2':w5.cell? ⟨wr.heap.size,2,none⟩=some (.int .i64 (tN:Int)):=by
       have hb5:w5.heap[wr.heap.size]? = some (.cells #[.bool x.ok,.int .i64 (fN:Int),.int .i64 (tN:Int),.slice ax nx cx] 29 (0,0)):=by
        rw [hk5.block _ (lt_of_block bB) (fun h=>by have:=(hSr.lt _ h).2; omega)]
        exact bB
       rw [cell_of hb5]; rfl
      have z:(((tN:Int) == (fN:Int))=false)∨(((tN:Int) == (fN:Int))=true∧((fN:Int) == 0)=false∧((fN:Int) == (u.size:Int))=false):=by
       by_cases c:tN=fN
       ·exact Or.inr ⟨by simp; omega,by simp; omega,by simp; omega⟩
       ·exact Or.inl (by simp; omega)
      subst hv2
      clear hSr4 hSr hns cSk hfN htN hle hfu hun HS hdrop hord2 hr hrow hmk ha ho2 hk5 hbk
      generalize ((spA u ((L.map (·.1)).take k)).1 ++ [u.extract a fN]).length=nV at *
      rcases z with z1 | ⟨z1,z2,z3⟩
      ·go_wp2_with (at_builtin; refine wpList_append_run rfl _ _ _ _ rfl rfl _ _ _ _ rfl rfl hrun ?_)
       go_roundw
       case rel=>exact ⟨k + 1,by omega,by go_num,HP.out.2.1,HP.out.1,HP.out.2.2⟩
       case measure=>simp [intOf]; omega
      ·go_wp2_with (at_builtin; refine wpList_append_run rfl _ _ _ _ rfl rfl _ _ _ _ rfl rfl hrun ?_)
       go_roundw
       case rel=>exact ⟨k + 1,by omega,by go_num,HP.out.2.1,HP.out.1,HP.out.2.2⟩
       case measure=>simp [intOf]; omega
    ·have hz:¬ (k:Int) < (n:Int):=by omega
     have hT:(L.map (·.1)).take k=allRef s u:=by rw [← HLm.out]; exact List.take_of_length_le (by rw [List.length_map,HLn.out]; omega)
     rw [hT] at hSr ha hfew
     have hin:a≤u.size:=by
      have h1:=sp_in (allRef s u) 0 ([],0) (by rw [← HLm.out]; exact HO.out) (Nat.le_refl _) (Nat.zero_le _)
      change (spA u (allRef s u)).2≤u.size at h1
      omega
     obtain ⟨v2,w5,hrun,ho2,hk5,hbk⟩:=app_str hSr (by omega) (by omega) (u.extract a u.size)
     obtain ⟨ao2,cp2,hv2⟩:=own_form ho2
     have hsl :∀w:World,(Instr.slice 9 (.string u) (some (.int .i64 (a:Int))) none none).run Tryz.prog w = .ok (.string (u.extract a u.size)) w:=fun w=>by
      rw [run_slice_string_l (P:=Tryz.prog) (w:=w) (t:=9) (s:=u) Tryz.underlying9 .i64 (a:Int) (by omega) (by omega)]
      rfl
     have HF:Hid (SplitP s u w (.returned v2) w5):=by
      refine ⟨ao2,_,cp2,by rw [hv2],?_,?_⟩
      ·rw [HRef.out,ha,← hv2]
       exact ownsRow_base ho2 (fun j hj=>by have:=(ho2.lt j hj).1; omega)
      ·refine (hk13.trans' hK (fun i hi h=>by omega)).trans' hk5 (fun i hi h=>by have:=(hSr.lt i h).1; omega)
     subst hv2
     clear hSr ha hT ho2 hk5 hbk hrow
     generalize ((spA u (allRef s u)).1 ++ [u.extract a u.size]).length=nV at *
     go_wp2_with (at_builtin; refine wpList_append_run rfl _ _ _ _ rfl rfl _ _ _ _ rfl rfl hrun ?_)
     go_ret
     exact HF.out
end Go.Proofs.YthkmmeamplmnhaaGreat
