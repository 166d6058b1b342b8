import Derived.Test.YtmlgmhnplicflaaGreatMe
import Derived.Deep.RegionHeld3
namespace Go.Proofs.YtmlgmhnplicflaaGreat
open Go.RowKit
set_option linter.unusedVariables false
theorem Tryz.infoEnds2:(Tryz.prog.info? 124).map (fun i=>(i.zero,i.size,i.bytes))=some (some (.slice none 0 0),1,24):=by kernel_rfl
theorem make_lists (n:Nat) (hn:n≤1000000) (w:World):(Instr.makeSlice 89 (.int .i64 (n:Int)) (.int .i64 (n:Int))).run Tryz.prog w = .ok (.slice (some ⟨w.heap.size,0,none⟩) n n) (w.alloc (.cells ((List.range n).map (fun _=>Value.slice none 0 0)).toArray 124)):=by
 have h:=run_make_row' (P:=Tryz.prog) 89 124 (.slice none 0 0) 24 Tryz.underlying89 Tryz.infoEnds2 rfl .i64 .i64 n (by omega) (by omega) w
 have e:madeCells #[Value.slice none 0 0] n=((List.range n).map (fun _=>Value.slice none 0 0)).toArray:=by
  apply Array.ext'
  rw [toList_madeCells_one]
  simp [List.map_const']
 rw [h,e]
theorem make_flags2 (n:Nat) (hn:n≤1000000) (w:World):(Instr.makeSlice 45 (.int .i64 (n:Int)) (.int .i64 (n:Int))).run Tryz.prog w = .ok (.slice (some ⟨w.heap.size,0,none⟩) n n) (w.alloc (.cells (flv n sno).toArray 4)):=by
 have h:=run_make_row' (P:=Tryz.prog) 45 4 (.bool false) 1 Tryz.underlying45 Tryz.infoBool2 rfl .i64 .i64 n (by omega) (by omega) w
 have e:madeCells #[Value.bool false] n=(flv n sno).toArray:=by
  apply Array.ext'
  rw [toList_madeCells_one]
  simp [flv,sno,List.map_const']
 rw [h,e]
def MNew (at_:Int) (G:Nat) (pv:Value) (u:ByteArray) (ps:List Pc) (L:List Pm) (w:World) (e:Ending) (w':World):Prop :=
 ∃R Bd Bl:Nat,e = .returned (.pointer (some ⟨R,0,none⟩))∧MI w' ⟨R,Bd,Bl,at_,G,pv,u,ps,L⟩ (fun _=>False) (fun _=>False)∧(w.heap.size≤Bd∧w.heap.size≤Bl)∧Keeps (fun _=>False) w w'
theorem mi_new {w:World} {R Bd Bl G:Nat} {at_:Int} {pv:Value} {u:ByteArray} {ps:List Pc} {L:List Pm} (hp:Pcs w pv L) (n:Nat) (hn:n=ps.length * (u.size + 1))
  (h1:Bk w Bd 4 (flv n sno)) (h2:Bk w Bl 124 ((List.range n).map (fun _=>Value.slice none 0 0))) (h3:w.heap[R]? = some (.cells #[.bool true,.int .i64 at_,.int .i64 (G:Int),pv,.string u,.slice (some ⟨Bd,0,none⟩) n n,.slice (some ⟨Bl,0,none⟩) n n] 91 (0,0))) :
  MI w ⟨R,Bd,Bl,at_,G,pv,u,ps,L⟩ (fun _=>False) (fun _=>False):=by
 subst hn
 exact ⟨h3,hp,sno,fun _ => .slice none 0 0,h1,h2,fun i p _ _ h=>by simp [sno] at h⟩
theorem box3m (w:World) (x y z:Obj):(((w.alloc x).alloc y).alloc z).heap[w.heap.size]? = some x∧(((w.alloc x).alloc y).alloc z).heap[w.heap.size + 1]? = some y∧(((w.alloc x).alloc y).alloc z).heap[w.heap.size + 1 + 1]? = some z:=by
 refine ⟨?_,?_,?_⟩
 ·rw [Below.heap_alloc _ _ _ (by simp; omega)]; exact box1 w x y
 ·rw [Below.heap_alloc _ _ _ (by simp)]; exact box2 w x y
 ·have:=heap_alloc_new ((w.alloc x).alloc y) z
  simpa using this
theorem mach_fin {w w1:World} {x y:Obj} {R Bd Bl G:Nat} {at_:Int} {pv:Value} {u:ByteArray} {ps:List Pc} {L:List Pm} (hp:Pcs w1 pv L) (kA:Keeps (fun _=>False) w w1) (n:Nat) (hn:n=ps.length * (u.size + 1)) {z:Obj}
  (h1:(((w1.alloc x).alloc y).alloc z).heap[Bd]? = some (.cells (flv n sno).toArray 4 (0,0))) (h2:(((w1.alloc x).alloc y).alloc z).heap[Bl]? = some (.cells ((List.range n).map (fun _=>Value.slice none 0 0)).toArray 124 (0,0)))
  (h3:(((w1.alloc x).alloc y).alloc z).heap[R]? = some (.cells #[.bool true,.int .i64 at_,.int .i64 (G:Int),pv,.string u,.slice (some ⟨Bd,0,none⟩) n n,.slice (some ⟨Bl,0,none⟩) n n] 91 (0,0))) (hB1:w1.heap.size≤Bd) (hB2:w1.heap.size≤Bl):MNew at_ G pv u ps L w (.returned (.pointer (some ⟨R,0,none⟩))) (((w1.alloc x).alloc y).alloc z).drew:=by
 have k:Keeps (fun _=>False) w1 (((w1.alloc x).alloc y).alloc z):=(((Keeps.refl _ _).alloc _).alloc _).alloc _
 exact ⟨R,Bd,Bl,rfl,(mi_new (hp.same k) n hn h1 h2 h3).same (Keeps.refl _ _).drew,⟨Nat.le_trans kA.size hB1,Nat.le_trans kA.size hB2⟩,(kA.trans k).drew⟩
set_option maxHeartbeats 4000000 in
set_option maxRecDepth 100000 in
theorem machine_any {w:World} {at_:Int} {G:Nat} {pv:Value} {u:ByteArray} {ps:List Pc} {L:List Pm} (hp:Pcs w pv L) (hL:L.map (·.1)=ps) (hl:ps.length≤1000) (hu:u.size≤200) :
  Calls Tryz.prog 53 #[.agg #[.bool true,.int .i64 at_,.int .i64 (G:Int),pv],.string u] w (MNew at_ G pv u ps L w):=by
 obtain ⟨ao,cap,rfl⟩:=own_form hp.row
 have hLl:L.length=ps.length:=by rw [← hL,List.length_map]
 obtain ⟨n,hn⟩ :∃n,L.length * (u.size + 1)=n:=⟨_,rfl⟩
 have hm:(L.length:Int) * ((u.size:Int) + 1)=(n:Int):=by rw [← hn]; push_cast; rfl
 have hnb:n≤1000 * 201:=by rw [← hn]; exact Nat.mul_le_mul (by omega) (by omega)
 have HN:Hid (n=ps.length * (u.size + 1)):=(by show _ = _; rw [← hn,hLl])
 have hk1:=make_flags2 n (by omega)
 have hk2:=make_lists n (by omega)
 have hLb:L.length≤1000:=by omega
 clear hn hLl
 have kA:Keeps (fun _=>False) w (w.alloc (.cells #[.bool true,.int .i64 at_,.int .i64 (G:Int),.slice ao L.length cap] 37)):=(Keeps.refl _ _).alloc _
 have hO:(w.alloc (.cells #[.bool true,.int .i64 at_,.int .i64 (G:Int),.slice ao L.length cap] 37)).heap[w.heap.size]? = some (.cells #[.bool true,.int .i64 at_,.int .i64 (G:Int),.slice ao L.length cap] 37 (0,0)):=heap_alloc_new w _
 have hP1:=hp.same kA
 go_enter Tryz.func53,Tryz.ntmps53
 go_upto_region 1 with fail
 generalize w.alloc (.cells #[.bool true,.int .i64 at_,.int .i64 (G:Int),.slice ao L.length cap] 37)=w1 at kA hO hP1 ⊢
 generalize w.heap.size=P at hO ⊢
 clear hp
 have hC :∀w',Keeps (fun _=>False) w1 w'→w'.cell? ⟨P,0,none⟩=some (.bool true)∧w'.cell? ⟨P,1,none⟩=some (.int .i64 at_)∧w'.cell? ⟨P,2,none⟩=some (.int .i64 (G:Int))∧w'.cell? ⟨P,3,none⟩=some (.slice ao L.length cap):=fun w' k=>by
  have h:w'.heap[P]? = some (.cells #[.bool true,.int .i64 at_,.int .i64 (G:Int),.slice ao L.length cap] 37 (0,0)):=by rw [k.block P (lt_of_block hO) (fun h=>h)]; exact hO
  refine ⟨?_,?_,?_,?_⟩ <;> rw [cell_of h] <;> rfl
 have d3:=(hC w1 (Keeps.refl _ _)).2.2.2
 go_upto_region 2 with fail
 have HC:Hid (∀w',Keeps (fun _=>False) w1 w'→w'.cell? ⟨P,0,none⟩=some (.bool true)∧w'.cell? ⟨P,1,none⟩=some (.int .i64 at_)∧w'.cell? ⟨P,2,none⟩=some (.int .i64 (G:Int))∧w'.cell? ⟨P,3,none⟩=some (.slice ao L.length cap)):=hC
 clear hC d3
 have s0:=HC.out w1.drew (Keeps.refl _ _).drew
 have s1:=fun o=>HC.out (w1.drew.alloc o) ((Keeps.refl _ _).drew.alloc o)
 have s2:=fun o o2=>HC.out ((w1.drew.alloc o).alloc o2) (((Keeps.refl _ _).drew.alloc o).alloc o2)
 have s3:=fun o o2 o3=>HC.out (((w1.drew.alloc o).alloc o2).alloc o3) ((((Keeps.refl _ _).drew.alloc o).alloc o2).alloc o3)
 go_region_held3 (fun w'=>w'.cell? ⟨P,0,none⟩=some (.bool true)∧w'.cell? ⟨P,1,none⟩=some (.int .i64 at_)∧w'.cell? ⟨P,2,none⟩=some (.int .i64 (G:Int))∧w'.cell? ⟨P,3,none⟩=some (.slice ao L.length cap)) (first | assumption | exact s1 _ | exact s2 _ _ | exact s3 _ _ _ | go_keep) (fail)
 all_goals (try go_wp2_with fail)
 all_goals go_ret
 ·exact mach_fin hP1 kA n HN.out (box3m w1 _ _ _).1 (box3m w1 _ _ _).2.1 (box3m w1 _ _ _).2.2 (Nat.le_refl _) (Nat.le_succ _)
 ·exact mach_fin hP1 kA n HN.out (box3m w1 _ _ _).2.1 (box3m w1 _ _ _).1 (box3m w1 _ _ _).2.2 (Nat.le_succ _) (Nat.le_refl _)
def Sml (ps:List Pc):Prop :=∀c∈ps,c.set.length≤1000∧c.kids.length≤1000
theorem sml_append {a b:List Pc} (ha:Sml a) (hb:Sml b):Sml (a ++ b):=fun c hc=>(List.mem_append.1 hc).elim (ha c) (hb c)
theorem sml_cat {fs:List Pf} (h :∀f∈fs,∀n,Sml (f n)) :∀n,Sml (cat fs n):=by
 induction fs with
 | nil=>intro n c h; simp [cat] at h
 | cons f fs ih =>
   intro n
   simp only [cat]
   exact sml_append (h f (by simp) n) (ih (fun g hg=>h g (by simp [hg])) _)
theorem sml_one {c:Pc} (h1:c.set.length≤1000) (h2:c.kids.length≤1000):Sml [c]:=fun d hd=>by simp at hd; subst hd; exact ⟨h1,h2⟩
theorem endsK_len (fs:List Pf) :∀n,(ends fs n).length=fs.length:=by
 induction fs with
 | nil=>intro n; rfl
 | cons f fs ih=>intro n; simp [ends,ih]
theorem fg_sml {lo hi:Nat} {f:Pf} (h:Fg lo hi f) :∀n,Sml (f n) :=
 h (fun _ _ f =>∀n,Sml (f n))
   ⟨fun _ _ S n=>sml_one (by have:=rangesTo_le S 256; simp only [setPc,ranges]; omega) (by simp [setPc]),fun _ _ n=>sml_one (by simp) (by simp),fun _ _ n=>sml_one (by simp) (by simp),
    fun _ _ fs hl ih n=>sml_append (sml_cat ih n) (sml_one (by simp [kidsPc]) (by simp only [kidsPc,endsK_len]; omega)),fun _ _ fs hl ih n=>sml_append (sml_cat ih n) (sml_one (by simp [kidsPc]) (by simp only [kidsPc,endsK_len]; omega)),
    fun _ _ f a b lz _ _ _ _ ih n=>sml_append (ih n) (sml_one (by simp) (by simp)),fun _ _ f _ ih n=>sml_append (ih n) (sml_one (by simp) (by simp)),fun _ _ _ _ f _ _ ih=>ih⟩
theorem read_fg {s:ByteArray} {g:Nat} {ps:List Pc} (h:readRef s = .ok (g,ps)) :∃f,Fg 0 g f∧ps=f 0∧1≤ps.length∧ps.length≤1000∧g≤9:=by
 unfold readRef at h
 split at h
 ·simp at h
 ·rename_i hs
  split at h
  ·simp at h
  ·rename_i f q g' ha
   have h1:=altRef_good s 6 _ _ _ _ _ (Nat.zero_le _) (by omega) ha
   have h2:=altRef_good3 s 6 _ _ _ _ _ (Nat.zero_le _) (by omega) (by omega) ha
   split at h
   ·simp at h
   ·simp only [Except.ok.injEq,Prod.mk.injEq] at h
    obtain ⟨e1,e2⟩:=h
    subst e1 e2
    have:=h1.2.2.2 0
    exact ⟨f,h2.2,rfl,by omega,by omega,h1.2.2.1⟩
structure Mr (w:World) (Z:Mz) (g:Nat) (ps:List Pc) (u:ByteArray):Prop where
 ms:Ms Z
 knd:Knd Z.ps
 mi:MI w Z (fun _=>False) (fun _=>False)
 eg:Z.G=g
 eps:Z.ps=ps
 eu:Z.u=u
 len:1≤Z.ps.length
def OfYes (g:Nat) (ps:List Pc) (u:ByteArray) (w:World) (e:Ending) (w':World):Prop :=∃Z,e = .returned (.tuple #[.pointer (some ⟨Z.R,0,none⟩),.bool true])∧Mr w' Z g ps u∧(w.heap.size≤Z.Bd∧w.heap.size≤Z.Bl)∧Keeps (fun _=>False) w w'
def OfNo (w:World) (e:Ending) (w':World):Prop :=∃R,e = .returned (.tuple #[.pointer (some ⟨R,0,none⟩),.bool false])∧Keeps (fun _=>False) w w'
def Ask (s u:ByteArray):Option (Nat×List Pc):=match readRef s with
 | .ok v=>if u.size≤200 then some v else none
 | .error _=>none
def OfPost (s u:ByteArray) (w:World) (e:Ending) (w':World):Prop:=match Ask s u with
 | some (g,ps)=>OfYes g ps u w e w'
 | none=>OfNo w e w'
set_option maxHeartbeats 4000000 in
set_option maxRecDepth 100000 in
theorem l2of_any {w:World} {s u:ByteArray} (hs:s.size≤1048576) (hu63:u.size≤1048576):Calls Tryz.prog 31 #[.string s,.string u] w (OfPost s u w):=by
 have hrd:=specRead_any s w hs
 unfold ReadPost at hrd
 unfold OfPost Ask
 cases hr:readRef s with
 | error x =>
   rw [hr] at hrd
   simp only at hrd ⊢
   clear hr
   go_enter Tryz.func31,Tryz.ntmps31
   go_wp2_with (first
    | (go_at_call 15; refine hrd.mono ?_; rintro e w2 ⟨rfl,hk⟩))
   go_ret2
   exact ⟨_,rfl,(hk.alloc _).alloc _⟩
 | ok v =>
   obtain ⟨g,ps⟩:=v
   rw [hr] at hrd
   simp only at hrd ⊢
   obtain ⟨f,hf,hps,hl1,hl2,hg9⟩:=read_fg hr
   have HV:Hid (VPs g 0 ps):=(by show VPs _ _ _; rw [hps]; exact fg_vps hf (Nat.le_refl _) 0)
   have HK:Hid (Knd ps):=(by show Knd _; rw [hps]; exact fg_knd hf 0)
   have HS:Hid (Sml ps):=(by show Sml _; rw [hps]; exact fg_sml hf 0)
   clear hr hf hps
   by_cases hu:u.size≤200
   ·simp only [if_pos hu]
    have hz:¬ (200:Int) < (u.size:Int):=by omega
    go_enter Tryz.func31,Tryz.ntmps31
    go_upto_region 2 with (first
     | (go_at_call 15; refine hrd.mono ?_; rintro e w2 ⟨v,L,rfl,hP,hL,hLl,hk⟩; obtain ⟨ao,cap,rfl⟩:=own_form hP.row))
    have kA:Keeps (fun _=>False) w2 (w2.alloc (.cells #[.bool true,.int .i64 0,.int .i64 (g:Int),.slice ao L.length cap] 37)):=(Keeps.refl _ _).alloc _
    have hO:(w2.alloc (.cells #[.bool true,.int .i64 0,.int .i64 (g:Int),.slice ao L.length cap] 37)).heap[w2.heap.size]? = some (.cells #[.bool true,.int .i64 0,.int .i64 (g:Int),.slice ao L.length cap] 37 (0,0)):=heap_alloc_new w2 _
    have hP2:=hP.same kA
    generalize w2.alloc (.cells #[.bool true,.int .i64 0,.int .i64 (g:Int),.slice ao L.length cap] 37)=w3 at kA hO hP2 ⊢
    generalize w2.heap.size=P at hO ⊢
    have d0:w3.cell? ⟨P,0,none⟩=some (.bool true):=by rw [cell_of hO]; rfl
    have d1:w3.cell? ⟨P,1,none⟩=some (.int .i64 0):=by rw [cell_of hO]; rfl
    have d2:w3.cell? ⟨P,2,none⟩=some (.int .i64 (g:Int)):=by rw [cell_of hO]; rfl
    have d3:w3.cell? ⟨P,3,none⟩=some (.slice ao L.length cap):=by rw [cell_of hO]; rfl
    have hcall:=machine_any (at_:=0) (G:=g) (u:=u) hP2 hL hl2 hu
    have HL:Hid (L.map (·.1)=ps):=hL
    clear hL hrd hP
    go_wp2_with (first
     | (go_at_call 53; refine hcall.mono ?_; rintro e w5 ⟨R,Bd,Bl,rfl,hM,hB,hk5⟩; have HB:Hid (w.heap.size≤Bd∧w.heap.size≤Bl):=(by show _∧_; have h1:=hk.size; have h2:=kA.size; exact ⟨by omega,by omega⟩); clear hB))
    go_ret2
    exact ⟨⟨R,Bd,Bl,0,g,_,u,ps,L⟩,rfl,⟨⟨hu,hg9,hl2,HV.out,HL.out,HS.out⟩,HK.out,hM,rfl,rfl,rfl,hl1⟩,HB.out,(hk.trans kA).trans hk5⟩
   ·simp only [if_neg hu]
    have hz:(200:Int) < (u.size:Int):=by omega
    go_enter Tryz.func31,Tryz.ntmps31
    go_wp2_with (first
     | (go_at_call 15; refine hrd.mono ?_; rintro e w2 ⟨v,L,rfl,hP,hL,hLl,hk⟩; obtain ⟨ao,cap,rfl⟩:=own_form hP.row; clear hL))
    go_ret2
    exact ⟨_,rfl,(hk.alloc _).alloc _⟩
end Go.Proofs.YtmlgmhnplicflaaGreat
