import Derived.Test.YthkmmeamplmnhaaGreatNa
import Derived.Test.YthkmmeamplmnhaaGreatYr
namespace Go.Proofs.YthkmmeamplmnhaaGreat
open Go.RowKit
set_option linter.unusedVariables false
theorem findW_in {s u:ByteArray} {k p:Nat} {m:Mt} (h:findL (fun a=>waysRef s u (a:Int)) k p=some m):m.ok=true∧(p:Int)≤m.fr∧m.fr≤m.up∧m.up≤(u.size:Int)∧p + 1≤nxt m∧nxt m≤u.size + 1∧m.gs.length≤9:=by
 obtain ⟨a,h1,h2,h3⟩:=findL_at _ _ h
 have h4:=waysRef_in h3
 have h5:=waysRef_gs h3
 unfold nxt
 refine ⟨h4.1,by omega,by omega,h4.2.2.2,?_,?_,h5⟩
 ·split <;> omega
 ·split <;> omega
theorem allL_len {s u:ByteArray} :∀(k p:Nat),p≤u.size + 1→(allL (fun a=>waysRef s u (a:Int)) u.size k p).length + p≤u.size + 1:=by
 intro k
 induction k with
 | zero=>intro p hp; simp [allL]; omega
 | succ k ih =>
   intro p hp
   simp only [allL]
   split
   ·simp; omega
   ·rename_i m h
    have h1:=findW_in h
    have:=ih (nxt m) h1.2.2.2.2.2.1
    simp only [List.length_cons]
    omega
theorem allL_mem {s u:ByteArray} {m:Mt} :∀(k p:Nat),m∈allL (fun a=>waysRef s u (a:Int)) u.size k p→m.gs.length≤9:=by
 intro k
 induction k with
 | zero=>intro p h; simp [allL] at h
 | succ k ih =>
   intro p h
   simp only [allL] at h
   split at h
   ·simp at h
   ·rename_i m' h2
    rcases List.mem_cons.1 h with rfl | h
    ·exact (findW_in h2).2.2.2.2.2.2
    ·exact ih _ h
def SaP (l:List Mt) (Z:Mz) (w:World) (e:Ending) (w':World):Prop :=
 ∃(ao:Option Addr) (n c:Nat) (L:List Mm),e = .returned (.slice ao n c)∧L.map (·.1)=l∧Mts w' (.slice ao n c) L∧MI w' Z (fun _=>False) (fun _=>False)∧Keeps (ExM Z) w w'
set_option maxHeartbeats 2000000 in
set_option maxRecDepth 100000 in
theorem sall {w:World} {s u:ByteArray} {Z:Mz} {g:Nat} {ps:List Pc} (ha:Ask s u=some (g,ps)) (hr:Mr w Z g ps u) :
  Calls Tryz.prog 32 #[.pointer (some ⟨Z.R,0,none⟩)] w (SaP (allRef s u) Z w):=by
 have hu200:=ask_small ha
 have HR:Hid (∀w',MI w' Z (fun _=>False) (fun _=>False)→Mr w' Z g ps u):=fun w' h=>⟨hr.ms,hr.knd,h,hr.eg,hr.eps,hr.eu,hr.len⟩
 have HU:Hid (Z.u=u):=hr.eu
 have HA:Hid (Ask s u=some (g,ps)):=ha
 have H1:Hid (MI w Z (fun _=>False) (fun _=>False)):=hr.mi
 clear hr ha
 go_enter Tryz.func32,Tryz.ntmps32
 go_wp2
 go_loopg [3,4,5] (u.size + 2) (fun gl s3 s4 _ wr =>∃(a:Nat) (ov:Value) (L:List Mm),u.size + 2≤a + gl∧a≤u.size + 1∧s3=ov∧s4 = .int .i64 (a:Int)∧L.length≤a∧Hid (L.map (·.1) ++ allL (fun a=>waysRef s u (a:Int)) u.size gl a=allRef s u)∧Mts wr ov L∧(∀b,ov.ownBlock=some b→w.heap.size≤b)∧Hid (MI wr Z (fun _=>False) (fun _=>False)∧Keeps (ExM Z) w wr))
 case atStart=>exact ⟨0,_,[],by omega,by omega,rfl,rfl,by simp,rfl,⟨World.ownsRow_nil _ _ _ _,by simp⟩,fun b h=>by simp [Value.ownBlock] at h,H1.out,Keeps.refl _ _⟩
 case round =>
  obtain ⟨a,ov,L,hgl,hau,rfl,rfl,hLa,HL,hO,hov,HI⟩:=hrel
  have HG:Hid (u.size + 2≤a + gk):=hgl
  clear hgl H1
  obtain ⟨ao,co,hovf⟩:=own_form hO.row
  subst hovf
  obtain ⟨hM,hK⟩:=HI.out
  have m4:=hM.mc.c4
  rw [HU.out] at m4
  by_cases hle:a≤u.size
  ·have hz:(a:Int)≤(u.size:Int):=by omega
   have hcall:=sfind (p:=a) HA.out (HR.out wr hM) (by omega)
   unfold SfP at hcall
   obtain ⟨r,hfr⟩ :∃r,findL (fun a=>waysRef s u (a:Int)) (u.size + 1 - a) a=r:=⟨_,rfl⟩
   rw [hfr] at hcall
   have HFR:Hid (findL (fun a=>waysRef s u (a:Int)) (u.size + 1 - a) a=r):=hfr
   clear hfr
   obtain ⟨gq,rfl⟩ :∃gq,gk=gq + 1:=⟨gk - 1,by have:=HG.out; omega⟩
   go_upto_region 5 with (go_at_call 43; refine hcall.mono ?_; rintro e w3 ⟨ax,nx,cx,rfl,hx,hM2,hk2⟩; obtain ⟨ax',cx',hxv⟩:=own_form hx; cases hxv)
   clear hcall m4
   have hO3:Mts w3 (.slice ao L.length co) L:=⟨ownsRow_keeps hO.row hk2 (hM.exM.own hO.row (by decide)),fun x hxm=>ownsRow_keeps (hO.rows x hxm) hk2 (hM.exM.own (hO.rows x hxm) (by decide))⟩
   have hsz2:=hk2.size
   have hwsz:w.heap.size≤wr.heap.size:=hK.size
   have kA:Keeps (fun _=>False) w3 (w3.alloc (.cells #[.bool (mtD r).ok,.int .i64 (mtD r).fr,.int .i64 (mtD r).up,.slice ax (mtD r).gs.length cx] 29)):=(Keeps.refl _ _).alloc _
   have bX:(w3.alloc (.cells #[.bool (mtD r).ok,.int .i64 (mtD r).fr,.int .i64 (mtD r).up,.slice ax (mtD r).gs.length cx] 29)).heap[w3.heap.size]? = some (.cells #[.bool (mtD r).ok,.int .i64 (mtD r).fr,.int .i64 (mtD r).up,.slice ax (mtD r).gs.length cx] 29 (0,0)):=heap_alloc_new _ _
   have hO4:=hO3.same kA
   have hx4:SpR _ _ _:=ownsRow_keeps hx kA (fun _ _ h=>h)
   have hM4:=hM2.same kA
   have hK4:Keeps (ExM Z) w (w3.alloc (.cells #[.bool (mtD r).ok,.int .i64 (mtD r).fr,.int .i64 (mtD r).up,.slice ax (mtD r).gs.length cx] 29)):=(hK.trans hk2).trans (kA.mono (fun _ _ h=>h.elim))
   have HOP:Hid (∀b,(Value.slice ao L.length co).ownBlock=some b→b≠w3.heap.size):=fun b hb e=>by have:=(hO3.row.lt b hb).2; omega
   clear hO hO3 hx hM2 hk2 hM hK HI kA
   generalize (w3.alloc (.cells #[.bool (mtD r).ok,.int .i64 (mtD r).fr,.int .i64 (mtD r).up,.slice ax (mtD r).gs.length cx] 29))=w4 at *
   generalize w3.heap.size=P at *
   have d0:w4.cell? ⟨P,0,none⟩=some (.bool (mtD r).ok):=by rw [cell_of bX]; rfl
   have d1:w4.cell? ⟨P,1,none⟩=some (.int .i64 (mtD r).fr):=by rw [cell_of bX]; rfl
   have d2:w4.cell? ⟨P,2,none⟩=some (.int .i64 (mtD r).up):=by rw [cell_of bX]; rfl
   have d3:w4.cell? ⟨P,3,none⟩=some (.slice ax (mtD r).gs.length cx):=by rw [cell_of bX]; rfl
   cases r with
   | none =>
     simp only [mtD] at d0 d1 d2 d3
     have HF:Hid (SaP (allRef s u) Z w (.returned (.slice ao L.length co)) w4):=by
      refine ⟨ao,L.length,co,L,rfl,?_,hO4,hM4,hK4⟩
      have:=HL.out
      simp only [allL,HFR.out,List.append_nil] at this
      exact this
     clear hO4 hx4 hM4 hK4 HL HFR bX
     go_wp2_with fail
     go_ret
     exact HF.out
   | some m =>
     simp only [mtD] at d0 d1 d2 d3 hx4
     obtain ⟨f1,f2,f3,f4,f5,f6,f7⟩:=findW_in HFR.out
     rw [f1] at d0
     obtain ⟨v',w9,hrun0,ho,hk9⟩:=app_match (base:=w.heap.size) (ownsRow_base hO4.row hov) hK4.size (by omega) (m,.slice ax m.gs.length cx) rfl
     have hMt:=mts_snoc (x:=(m,.slice ax m.gs.length cx)) hO4 hx4 hk9 (ownsRow_base ho (fun _ _=>Nat.zero_le _))
     have hov2 :∀k,v'.ownBlock=some k→w.heap.size≤k:=fun k hk=>(ho.lt k hk).1
     have hKn:Keeps (ExM Z) w w9:=hK4.trans' hk9 (fun k hk h=>by have:=hov k h; omega)
     have bX9:=(hk9.block P (lt_of_block bX) (fun h=>HOP.out P h rfl)).trans bX
     have hM9:=hM4.keepsM hk9 (fun k hk=>by obtain ⟨cur,h⟩:=own_block hO4.row hk; exact ⟨cur,_,h,by decide⟩)
     have e1:w9.cell? ⟨P,1,none⟩=some (.int .i64 m.fr):=by rw [cell_of bX9]; rfl
     have e2:w9.cell? ⟨P,2,none⟩=some (.int .i64 m.up):=by rw [cell_of bX9]; rfl
     have hrun:Sem.run Tryz.prog (Builtin.append_ #[25,25] 25 #[.slice ao L.length co,.slice (some ⟨w4.heap.size,0,none⟩) 1 1]) (w4.alloc (.cells #[.bool true,.int .i64 m.fr,.int .i64 m.up,.slice ax m.gs.length cx] 29)) = .ok v' w9:=by rw [← f1]; exact hrun0
     have HL2:Hid ((L ++ [((m,Value.slice ax m.gs.length cx):Mm)]).map (·.1) ++ allL (fun a=>waysRef s u (a:Int)) u.size gq (nxt m)=allRef s u):=by
      have:=HL.out
      simp only [allL,HFR.out] at this
      show _ = _
      rw [← this]
      simp
     have HI2:Hid (MI w9 Z (fun _=>False) (fun _=>False)∧Keeps (ExM Z) w w9):=⟨hM9,hKn⟩
     obtain ⟨av,cv,hvf⟩:=own_form ho
     subst hvf
     simp only [List.length_append,List.length_singleton] at hMt hov2
     have HLn:Hid ((L ++ [((m,Value.slice ax m.gs.length cx):Mm)]).length≤nxt m):=by
      show _≤_
      rw [List.length_append,List.length_singleton]
      omega
     have HNx:Hid (u.size + 2≤nxt m + gq∧nxt m≤u.size + 1):=⟨by have:=HG.out; omega,f6⟩
     have HUp:Hid (0≤m.up):=(by show (0:Int)≤m.up; omega)
     clear hrun0 ho hk9 hO4 hx4 hM4 hK4 HL HFR bX bX9 hM9 hKn f5 f6 f7 hov HG
     by_cases he:m.up=m.fr
     ·have hz2:(m.up == m.fr)=true:=by simp [he]
      have HN2:Hid (((nxt m:Nat):Int)=m.up + 1):=(by show _ = _; unfold nxt; rw [if_pos he]; have:=HUp.out; omega)
      clear he
      go_wp2_with (refine wpList_append_run rfl _ _ _ _ rfl rfl _ _ _ _ rfl rfl hrun ?_)
      go_roundg gq
      case measure=>omega
      case rel=>exact ⟨nxt m,_,_,HNx.out.1,HNx.out.2,rfl,congrArg (Value.int .i64) HN2.out.symm,HLn.out,HL2,hMt,hov2,HI2⟩
     ·have hz2:(m.up == m.fr)=false:=by simp [he]
      have HN2:Hid (((nxt m:Nat):Int)=m.up):=(by show _ = _; unfold nxt; rw [if_neg he]; have:=HUp.out; omega)
      clear he
      go_wp2_with (refine wpList_append_run rfl _ _ _ _ rfl rfl _ _ _ _ rfl rfl hrun ?_)
      go_roundg gq
      case measure=>omega
      case rel=>exact ⟨nxt m,_,_,HNx.out.1,HNx.out.2,rfl,congrArg (Value.int .i64) HN2.out.symm,HLn.out,HL2,hMt,hov2,HI2⟩
  ·have hz:¬ (a:Int)≤(u.size:Int):=by omega
   have HF:Hid (SaP (allRef s u) Z w (.returned (.slice ao L.length co)) wr):=by
    refine ⟨ao,L.length,co,L,rfl,?_,hO,hM,hK⟩
    have:=HL.out
    obtain ⟨gq,hgq⟩ :∃gq,gk=gq + 1:=⟨gk - 1,by have:=HG.out; omega⟩
    rw [hgq] at this
    simp only [allL] at this
    rw [show u.size + 1 - a=0 by omega] at this
    simp only [findL,List.append_nil] at this
    exact this
   clear HI hM hO hK HL
   go_wp2_with fail
   go_ret
   exact HF.out
theorem findL_nil0 {L:Nat→List Mt} (h :∀a,L a = []) :∀(k p:Nat),findL L k p=none:=by
 intro k
 induction k with
 | zero=>intro p; rfl
 | succ k ih=>intro p; rw [findL_none (h p)]; exact ih _
theorem allRef_none {s u:ByteArray} (h:Ask s u=none):allRef s u = []:=by
 unfold allRef
 simp only [allL]
 rw [findL_nil0 (fun a=>ask_none h _)]
set_option maxHeartbeats 2000000 in
set_option maxRecDepth 100000 in
theorem sall_any {w:World} {s u:ByteArray} (hs:s.size≤1048576) (hu:u.size≤1048576):Calls Tryz.prog 9 #[.string s,.string u] w (RowQ (allRef s u) w):=by
 have hof:=l2of_any (w:=w) hs hu
 unfold OfPost at hof
 cases ha:Ask s u with
 | none =>
   rw [ha] at hof
   simp only at hof
   rw [allRef_none ha]
   clear ha
   go_enter Tryz.func9,Tryz.ntmps9
   go_wp2_with (go_at_call 31; refine hof.mono ?_; rintro e w2 ⟨R,rfl,hk⟩)
   go_ret
   exact ⟨none,0,0,[],rfl,rfl,⟨World.ownsRow_nil _ _ _ _,by simp⟩,hk⟩
 | some gp =>
   obtain ⟨g,ps⟩:=gp
   rw [ha] at hof
   simp only at hof
   have hof2:Calls Tryz.prog 31 #[.string s,.string u] w (fun e w2 =>∃Z,e = .returned (.tuple #[.pointer (some ⟨Z.R,0,none⟩),.bool true])∧Hid (Mr w2 Z g ps u∧w.heap.size≤Z.Bd∧w.heap.size≤Z.Bl)∧Keeps (fun _=>False) w w2):=by
    refine hof.mono ?_
    rintro e w2 ⟨Z,rfl,h1,h2,h3⟩
    exact ⟨Z,rfl,⟨h1,h2.1,h2.2⟩,h3⟩
   have HA:Hid (Ask s u=some (g,ps)):=ha
   clear ha hof
   go_enter Tryz.func9,Tryz.ntmps9
   go_wp2_with (first
    | (go_at_call 31; refine hof2.mono ?_; rintro e w2 ⟨Z,rfl,HM,hk1⟩; clear hof2)
    | (go_at_call 32; refine (sall HA.out HM.out.1).mono ?_; rintro e w3 ⟨ao,n,c,L,rfl,HL,hO,hM2,hk2⟩))
   go_ret
   exact ⟨ao,n,c,L,rfl,HL,hO,hk1.trans' hk2 (fun i hi h=>by have h1:=HM.out.2.1; have h2:=HM.out.2.2; rcases h with h | h <;> omega)⟩
end Go.Proofs.YthkmmeamplmnhaaGreat
