import Derived.Test.YthkmmeamplmnhaaGreatC
import Derived.Test.YthkmmeamplmnhaaGreatA
import Derived.Deep.RegionWith
import Derived.Test.YthkmmeamplmnhaaGreatMf
import Derived.Test.YthkmmeamplmnhaaGreatYo
import Derived.Test.YthkmmeamplmnhaaGreatYq
namespace Go.Proofs.YthkmmeamplmnhaaGreat
open Go.RowKit
set_option linter.unusedVariables false
theorem row_at {w:World} {base:Nat} {e:TypeId} {size:Nat} {v:Value} {n:Nat} {xs:List Value} (h:w.ownsRow base e size v n xs) (hn:0 < n) :∃g cap,v = .slice (some ⟨g,0,none⟩) n cap∧(∀j,j < n * size→w.cell? ⟨g,j,none⟩=xs[j]?)∧(∀j,w.frozen? ⟨g,j,none⟩=false)∧g < w.heap.size∧base≤g:=by
 obtain ⟨m,rfl⟩ :∃m,n=m + 1:=⟨n - 1,by omega⟩
 obtain ⟨g,cap,rfl,h1,h2⟩:=own_some h
 exact ⟨g,cap,rfl,fun j hj=>h.cellAt j hj,fun j=>h.frozenAt j,h2,h1⟩
def mtD:Option Mt→Mt
 | none=>⟨false,0,0,[]⟩
 | some m=>m
theorem read_tree (s:ByteArray):readRef s=match treeRef s with | .error x => .error x | .ok (g,f) => .ok (g,f 0):=by
 unfold readRef treeRef
 split
 ·rfl
 ·cases altRef s 6 0 0 with
  | error e=>rfl
  | ok v =>
    obtain ⟨f,q,g⟩:=v
    simp only
    split <;> rfl
theorem ask_none {s u:ByteArray} (h:Ask s u=none) (p:Int):waysRef s u p = []:=by
 unfold Ask at h
 rw [read_tree] at h
 unfold waysRef wanted
 cases ht:treeRef s with
 | error x=>simp
 | ok gf =>
   obtain ⟨g,f⟩:=gf
   rw [ht] at h
   simp only at h ⊢
   have:¬ u.size≤200:=by intro h2; rw [if_pos h2] at h; cases h
   simp [this]
theorem ask_some {s u:ByteArray} {g:Nat} {ps:List Pc} (h:Ask s u=some (g,ps)) {p:Nat} (hp:p≤u.size):waysRef s u (p:Int)=(xOf u ps (ps.length - 1) p).map (mtOf g p):=by
 unfold Ask at h
 rw [read_tree] at h
 unfold waysRef wanted
 cases ht:treeRef s with
 | error x=>rw [ht] at h; simp at h
 | ok gf =>
   obtain ⟨g',f⟩:=gf
   rw [ht] at h
   simp only at h ⊢
   have h2:u.size≤200:=by
    by_cases h2:u.size≤200
    ·exact h2
    ·rw [if_neg h2] at h; cases h
   rw [if_pos h2] at h
   simp only [Option.some.injEq,Prod.mk.injEq] at h
   obtain ⟨rfl,rfl⟩:=h
   have hz:(p:Int)≤(u.size:Int):=by omega
   simp [h2,hz,smx]
theorem ask_small {s u:ByteArray} {v:Nat×List Pc} (h:Ask s u=some v):u.size≤200:=by
 unfold Ask at h
 cases hr:readRef s with
 | error x=>rw [hr] at h; simp at h
 | ok v =>
   rw [hr] at h
   simp only at h
   by_cases h2:u.size≤200
   ·exact h2
   ·rw [if_neg h2] at h; cases h
theorem waysRef_gs {s u:ByteArray} {p:Int} {m:Mt} (h:m∈waysRef s u p):m.gs.length≤9:=by
 unfold waysRef at h
 split at h
 ·cases ht:treeRef s with
  | error x=>rw [ht] at h; simp at h
  | ok gf =>
    obtain ⟨g,f⟩:=gf
    rw [ht] at h
    simp only [List.mem_map] at h
    obtain ⟨e,-,rfl⟩:=h
    obtain ⟨-,hg,-⟩:=tree_fg ht
    simp only [mtOf,gsOf_len]
    exact hg
 ·simp at h
def SwP (s u:ByteArray) (p:Nat) (Z:Mz) (w:World) (e:Ending) (w':World):Prop :=
 ∃(ao:Option Addr) (n c:Nat) (L:List Mm),e = .returned (.slice ao n c)∧Hid (n=L.length∧n≤201∧L.map (·.1)=waysRef s u p)∧w'.ownsRow 0 29 4 (.slice ao n c) n (L.flatMap cell4)∧(∀x∈L,SpR w' x.2 x.1.gs)∧MI w' Z (fun _=>False) (fun _=>False)∧Keeps (ExM Z) w w'
theorem sways {w:World} {s u:ByteArray} {Z:Mz} {g p:Nat} {ps:List Pc} (ha:Ask s u=some (g,ps)) (hr:Mr w Z g ps u) (hp:p≤u.size) :
  Calls Tryz.prog 46 #[.pointer (some ⟨Z.R,0,none⟩),.int .i64 (p:Int)] w (SwP s u p Z w):=by
 refine (ways_spec (p:=p) hr (by rw [hr.eu]; exact hp)).mono ?_
 rintro e w' ⟨v,L,rfl,h1,h2,h3,h4⟩
 obtain ⟨ao,c,rfl⟩:=own_form h1.row
 have e1:L.map (·.1)=waysRef s u p:=by
  rw [ask_some ha hp,h2]
  unfold Mz.X
  rw [hr.eps,hr.eu,hr.eg]
 have:=waysRef_few s u p
 rw [← e1,List.length_map] at this
 exact ⟨ao,L.length,c,L,rfl,⟨rfl,this,e1⟩,h1.row,h1.rows,h3,h4⟩
def RowQ (l:List Mt) (w:World) (e:Ending) (w':World):Prop :=
 ∃(ao:Option Addr) (n c:Nat) (L:List Mm),e = .returned (.slice ao n c)∧L.map (·.1)=l∧Mts w' (.slice ao n c) L∧Keeps (fun _=>False) w w'
theorem MI.keepsM {w w':World} {Z:Mz} {S Ex E:Nat→Prop} (h:MI w Z S Ex) (k:Keeps E w w') (hT:OfT w E [29]):MI w' Z S Ex:=by
 refine ⟨h.mc.keeps k (hT.not h.mc (by decide)),⟨ownsRow_keeps h.pcs.row k (hT.own h.pcs.row (by decide)),fun x hx=>⟨ownsRow_keeps (h.pcs.rows x hx).1 k (hT.own (h.pcs.rows x hx).1 (by decide)),ownsRow_keeps (h.pcs.rows x hx).2 k (hT.own (h.pcs.rows x hx).2 (by decide))⟩⟩,?_⟩
 obtain ⟨dn,lv,t1,t2,t3⟩:=h.tab
 refine ⟨dn,lv,t1.keeps k (hT.not t1 (by decide)),t2.keeps k (hT.not t2 (by decide)),fun i p hi hp hd=>?_⟩
 rcases t3 i p hi hp hd with h3 | ⟨h3,h4⟩
 ·exact Or.inl h3
 ·refine Or.inr ⟨h3.keeps k (hT.noSp (by decide)) (fun b hb=>?_),h4⟩
  obtain ⟨gv,h5,_⟩:=h3
  exact hT.own h5 (by decide) b hb
def SfP (m:Mt) (Z:Mz) (w:World) (e:Ending) (w':World):Prop :=
 ∃(a:Option Addr) (n c:Nat),e = .returned (.agg #[.bool m.ok,.int .i64 m.fr,.int .i64 m.up,.slice a n c])∧SpR w' (.slice a n c) m.gs∧MI w' Z (fun _=>False) (fun _=>False)∧Keeps (ExM Z) w w'
set_option maxHeartbeats 2000000 in
set_option maxRecDepth 100000 in
theorem sfind {w:World} {s u:ByteArray} {Z:Mz} {g p:Nat} {ps:List Pc} (ha:Ask s u=some (g,ps)) (hr:Mr w Z g ps u) (hp:p≤u.size + 1) :
  Calls Tryz.prog 43 #[.pointer (some ⟨Z.R,0,none⟩),.int .i64 (p:Int)] w (SfP (mtD (findL (fun a=>waysRef s u (a:Int)) (u.size + 1 - p) p)) Z w):=by
 have hu200:=ask_small ha
 have k1:Keeps (fun _=>False) w (w.alloc (.cells #[.bool false,.int .i64 0,.int .i64 0,.slice none 0 0] 29)):=(Keeps.refl _ w).alloc _
 have b1:(w.alloc (.cells #[.bool false,.int .i64 0,.int .i64 0,.slice none 0 0] 29)).heap[w.heap.size]? = some zeroM:=heap_alloc_new w _
 have hM1:=hr.mi.same k1
 have HR:Hid (∀w',MI w' Z (fun _=>False) (fun _=>False)→Mr w' Z g ps u):=fun w' h=>⟨hr.ms,hr.knd,h,hr.eg,hr.eps,hr.eu,hr.len⟩
 have HU:Hid (Z.u=u):=hr.eu
 have HA:Hid (Ask s u=some (g,ps)):=ha
 have H1:Hid (MI (w.alloc (.cells #[.bool false,.int .i64 0,.int .i64 0,.slice none 0 0] 29)) Z (fun _=>False) (fun _=>False)∧(w.alloc (.cells #[.bool false,.int .i64 0,.int .i64 0,.slice none 0 0] 29)).heap[w.heap.size]? = some zeroM∧Keeps (ExM Z) w (w.alloc (.cells #[.bool false,.int .i64 0,.int .i64 0,.slice none 0 0] 29))):=⟨hM1,b1,k1.mono (fun _ _ h=>h.elim)⟩
 clear hr hM1 b1 k1 ha
 go_enter Tryz.func43,Tryz.ntmps43
 go_wp2
 generalize (w.alloc (.cells #[.bool false,.int .i64 0,.int .i64 0,.slice none 0 0] 29))=w1 at *
 go_loopg [5,6] (u.size + 2 - p) (fun gl s5 _ wr =>∃a:Nat,a + gl=u.size + 2∧a≤u.size + 1∧s5 = .int .i64 (a:Int)∧Hid (findL (fun a=>waysRef s u (a:Int)) (u.size + 1 - p) p=findL (fun a=>waysRef s u (a:Int)) (u.size + 1 - a) a)∧Hid (MI wr Z (fun _=>False) (fun _=>False)∧wr.heap[w.heap.size]? = some zeroM∧Keeps (ExM Z) w wr))
 case atStart=>exact ⟨p,by omega,hp,rfl,rfl,H1⟩
 case round =>
  obtain ⟨a,hgl,hau,rfl,HL,HI⟩:=hrel
  have HG:Hid (a + gk=u.size + 2):=hgl
  clear hgl H1
  obtain ⟨hM,hb,hK⟩:=HI.out
  have m4:=hM.mc.c4
  rw [HU.out] at m4
  have c0:wr.cell? ⟨w.heap.size,0,none⟩=some (.bool false):=by rw [cell_of hb]; rfl
  have c1:wr.cell? ⟨w.heap.size,1,none⟩=some (.int .i64 0):=by rw [cell_of hb]; rfl
  have c2:wr.cell? ⟨w.heap.size,2,none⟩=some (.int .i64 0):=by rw [cell_of hb]; rfl
  have c3:wr.cell? ⟨w.heap.size,3,none⟩=some (.slice none 0 0):=by rw [cell_of hb]; rfl
  have ef :∀i,wr.frozen? ⟨w.heap.size,i,none⟩=false:=fun i=>free_of hb
  have hnE:¬ ExM Z w.heap.size:=hM.exM.not hb (by decide)
  have HE:Hid (¬ ExM Z w.heap.size):=hnE
  by_cases hle:a≤u.size
  ·have hz:(a:Int)≤(u.size:Int):=by omega
   have hcall:=sways (p:=a) HA.out (HR.out wr hM) hle
   clear c0 c1 c2 c3 ef hnE
   go_upto_region 5 with (go_at_call 46; refine hcall.mono ?_; rintro e w3 ⟨ao,n,c,L,rfl,HLs,hrow,hrows,hM2,hk2⟩)
   clear hcall m4
   have b3:w3.heap[w.heap.size]? = some zeroM:=(hk2.block _ (lt_of_block hb) HE.out).trans hb
   have hn201:=HLs.out.2.1
   cases L with
   | nil =>
     obtain rfl:n=0:=HLs.out.1
     have HL2:Hid (findL (fun a=>waysRef s u (a:Int)) (u.size + 1 - p) p=findL (fun a=>waysRef s u (a:Int)) (u.size + 1 - (a + 1)) (a + 1)):=by
      show _ = _
      rw [HL.out]
      obtain ⟨k,hk⟩ :∃k,u.size + 1 - a=k + 1:=⟨u.size - a,by omega⟩
      rw [hk,findL_none (by have:=HLs.out.2.2; simpa using this.symm)]
      rw [show u.size + 1 - (a + 1)=k by omega]
     have HI2:Hid (MI w3 Z (fun _=>False) (fun _=>False)∧w3.heap[w.heap.size]? = some zeroM∧Keeps (ExM Z) w w3):=⟨hM2,b3,hK.trans hk2⟩
     clear hrow hrows hM2 hk2 HLs HL HI hM hb hK b3
     go_wp2
     go_roundg (gk - 1)
     case measure=>have:=HG.out; omega
     case rel=>exact ⟨a + 1,by have:=HG.out; omega,by omega,congrArg (Value.int .i64) (by omega),HL2,HI2⟩
   | cons x L =>
     have hn:n=L.length + 1:=HLs.out.1
     obtain ⟨gm,rfl⟩ :∃gm,ao=some ⟨gm,0,none⟩:=by
      subst hn
      obtain ⟨g,c',hv,-⟩:=own_some hrow
      cases hv
      exact ⟨g,rfl⟩
     have m0:=hrow.cellAt 0 (by omega)
     have m1:=hrow.cellAt 1 (by omega)
     have m2:=hrow.cellAt 2 (by omega)
     have m3:=hrow.cellAt 3 (by omega)
     have hx:=hrows x (by simp)
     obtain ⟨ax,cx,hxv⟩:=own_form hx
     have hxn :∀i,x.2.ownBlock=some i→i≠w.heap.size:=fun i hi e=>own_not_at hx b3 (by decide) (by rw [← e]; exact hi)
     rw [show ((x :: L).flatMap cell4)[0]? = some (.bool x.1.ok) from rfl] at m0
     rw [show ((x :: L).flatMap cell4)[1]? = some (.int .i64 x.1.fr) from rfl] at m1
     rw [show ((x :: L).flatMap cell4)[2]? = some (.int .i64 x.1.up) from rfl] at m2
     rw [show ((x :: L).flatMap cell4)[3]? = some x.2 from rfl,hxv] at m3
     have hF:findL (fun a=>waysRef s u (a:Int)) (u.size + 1 - p) p=some x.1:=by
      rw [HL.out]
      obtain ⟨k,hk⟩ :∃k,u.size + 1 - a=k + 1:=⟨u.size - a,by omega⟩
      rw [hk,findL_some (by have:=HLs.out.2.2; rw [← this]; rfl)]
     have HF:Hid (∀wF:World,Keeps (fun i=>i=w.heap.size) w3 wF→SfP (mtD (findL (fun a=>waysRef s u (a:Int)) (u.size + 1 - p) p)) Z w (.returned (.agg #[.bool x.1.ok,.int .i64 x.1.fr,.int .i64 x.1.up,.slice ax x.1.gs.length cx])) wF):=by
      intro wF kF
      rw [hF]
      refine ⟨ax,x.1.gs.length,cx,rfl,?_,?_,(hK.trans hk2).trans' kF (fun i hi e=>by omega)⟩
      ·rw [← hxv]; exact ownsRow_keeps hx kF (fun i hi e=>hxn i hi e)
      ·exact hM2.keepsM kF (fun k hk=>by subst hk; exact ⟨_,_,b3,by decide⟩)
     have c0:w3.cell? ⟨w.heap.size,0,none⟩=some (.bool false):=by rw [cell_of b3]; rfl
     have c1:w3.cell? ⟨w.heap.size,1,none⟩=some (.int .i64 0):=by rw [cell_of b3]; rfl
     have c2:w3.cell? ⟨w.heap.size,2,none⟩=some (.int .i64 0):=by rw [cell_of b3]; rfl
     have c3:w3.cell? ⟨w.heap.size,3,none⟩=some (.slice none 0 0):=by rw [cell_of b3]; rfl
     have ef :∀i,w3.frozen? ⟨w.heap.size,i,none⟩=false:=fun i=>free_of b3
     have hnz:(0:Int) < (n:Int):=by omega
     generalize x.1.gs.length=ng at m3 HF
     generalize x.1=y at m0 m1 m2 HF
     clear hx hxv hxn hrow hrows hM2 hk2 HLs HL HI hM hb hK b3 hF hn
     go_wp2_with fail
     refine bodyPost_ret (v:=.agg #[.bool y.ok,.int .i64 y.fr,.int .i64 y.up,.slice ax ng cx]) (by simp [results,Tryz.results43,go_sem,c0,c1,c2,c3]) rfl ?_
     exact HF.out _ ((((keeps_setCell _ _ _ _).trans (keeps_setCell _ _ _ _)).trans (keeps_setCell _ _ _ _)).trans (keeps_setCell _ _ _ _))
  ·have hz:¬ (a:Int)≤(u.size:Int):=by omega
   have hF:findL (fun a=>waysRef s u (a:Int)) (u.size + 1 - p) p=none:=by
    rw [HL.out,show u.size + 1 - a=0 by omega]; rfl
   have HF:Hid (∀wF:World,Keeps (fun i=>i=w.heap.size) wr wF→SfP (mtD (findL (fun a=>waysRef s u (a:Int)) (u.size + 1 - p) p)) Z w (.returned (.agg #[.bool false,.int .i64 0,.int .i64 0,.slice none 0 0])) wF):=by
    intro wF kF
    rw [hF]
    refine ⟨none,0,0,rfl,World.ownsRow_nil _ _ _ _,?_,hK.trans' kF (fun i hi e=>by omega)⟩
    exact hM.keepsM kF (fun k hk=>by subst hk; exact ⟨_,_,hb,by decide⟩)
   clear HL HI hM hb hK hF
   go_wp2_with fail
   refine bodyPost_ret (v:=.agg #[.bool false,.int .i64 0,.int .i64 0,.slice none 0 0]) (by simp [results,Tryz.results43,go_sem,c0,c1,c2,c3]) rfl ?_
   exact HF.out _ ((((keeps_setCell _ _ _ _).trans (keeps_setCell _ _ _ _)).trans (keeps_setCell _ _ _ _)).trans (keeps_setCell _ _ _ _))
end Go.Proofs.YthkmmeamplmnhaaGreat
