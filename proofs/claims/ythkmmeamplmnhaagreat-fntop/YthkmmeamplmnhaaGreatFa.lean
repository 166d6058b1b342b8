import Derived.Test.YthkmmeamplmnhaaGreatNa
import Derived.Test.YthkmmeamplmnhaaGreatC
import Derived.Laws.StructEq
import Derived.Deep.RegionWith
import Derived.Deep.QuietTactic
import Derived.BigQuiet
import Derived.Test.YthkmmeamplmnhaaGreatK
import Derived.Test.YthkmmeamplmnhaaGreatMc
namespace Go.Proofs.YthkmmeamplmnhaaGreat
open Go.RowKit
set_option linter.unusedVariables false
set_option maxRecDepth 100000
theorem span_neq (a b:Int) (w:World):(binOp BinOp.neq 31 (.agg #[.int .i64 a,.int .i64 b]) (.agg #[.int .i64 a,.int .i64 b])).run Tryz.prog w = .ok (.bool false) w:=by
 have hs:Tryz.prog.stoodInHeld 31=false:=by kernel_rfl
 simp [go_sem,hs]
set_option maxHeartbeats 1000000 in
theorem wMatch_same {w:World} {b1 b2:Nat} {ok:Bool} {fr up:Int} {gs:List (Int×Int)} {v1 v2:Value} (h1:w.ownsRow b1 31 2 v1 gs.length (flatR gs)) (h2:w.ownsRow b2 31 2 v2 gs.length (flatR gs)) (hl:gs.length≤10000) :
  Calls Tryz.prog 18 #[.agg #[.bool ok,.int .i64 fr,.int .i64 up,v1],.agg #[.bool ok,.int .i64 fr,.int .i64 up,v2]] w fun e w'=>e = .returned (.bool true)∧Keeps (fun _=>False) w w':=by
 obtain ⟨ao1,cp1,rfl⟩:=own_form h1
 obtain ⟨ao2,cp2,rfl⟩:=own_form h2
 go_enter Tryz.func18,Tryz.ntmps18
 go_wp2
 have kA:Keeps (fun _=>False) w ((w.alloc (.cells #[.bool ok,.int .i64 fr,.int .i64 up,.slice ao1 gs.length cp1] 29)).alloc (.cells #[.bool ok,.int .i64 fr,.int .i64 up,.slice ao2 gs.length cp2] 29)):=((Keeps.refl _ w).alloc _).alloc _
 have b1:((w.alloc (.cells #[.bool ok,.int .i64 fr,.int .i64 up,.slice ao1 gs.length cp1] 29)).alloc (.cells #[.bool ok,.int .i64 fr,.int .i64 up,.slice ao2 gs.length cp2] 29)).heap[w.heap.size]? = some (.cells #[.bool ok,.int .i64 fr,.int .i64 up,.slice ao1 gs.length cp1] 29 (0,0)):=box1 w _ _
 have b2:((w.alloc (.cells #[.bool ok,.int .i64 fr,.int .i64 up,.slice ao1 gs.length cp1] 29)).alloc (.cells #[.bool ok,.int .i64 fr,.int .i64 up,.slice ao2 gs.length cp2] 29)).heap[w.heap.size + 1]? = some (.cells #[.bool ok,.int .i64 fr,.int .i64 up,.slice ao2 gs.length cp2] 29 (0,0)):=box2 w _ _
 have r1:=ownsRow_keeps h1 kA (fun _ _ h=>h)
 have r2:=ownsRow_keeps h2 kA (fun _ _ h=>h)
 generalize ((w.alloc (.cells #[.bool ok,.int .i64 fr,.int .i64 up,.slice ao1 gs.length cp1] 29)).alloc (.cells #[.bool ok,.int .i64 fr,.int .i64 up,.slice ao2 gs.length cp2] 29))=W at kA b1 b2 r1 r2 ⊢
 generalize w.heap.size=P at b1 b2 ⊢
 have c1:W.cell? ⟨P,3,none⟩=some (.slice ao1 gs.length cp1):=by rw [cell_of b1]; rfl
 have c2:W.cell? ⟨P + 1,3,none⟩=some (.slice ao2 gs.length cp2):=by rw [cell_of b2]; rfl
 clear b1 b2 h1 h2
 go_loopg [37] (gs.length + 1) (fun gl s37 wr =>∃k n:Nat,k + gl=gs.length + 1∧k≤gs.length∧s37 = .int .i64 (k:Int)∧wr=W.drewN n)
 case atStart=>exact ⟨0,0,by omega,by omega,rfl,rfl⟩
 case round =>
  obtain ⟨k,n,hgl,hk,rfl,rfl⟩:=hrel
  have HG:Hid (k + gk=gs.length + 1):=hgl
  clear hgl
  by_cases hlt:k < gs.length
  ·have hkz:(k:Int) < (gs.length:Int):=by omega
   obtain ⟨g1,q1,hv1,x1,-⟩:=row_at r1 (by omega)
   obtain ⟨g2,q2,hv2,x2,-⟩:=row_at r2 (by omega)
   simp only [Value.slice.injEq] at hv1 hv2
   obtain ⟨rfl,_,rfl⟩:=hv1
   obtain ⟨rfl,_,rfl⟩:=hv2
   have a1:=x1 (k * 2) (by omega)
   have a2:=x1 (k * 2 + 1) (by omega)
   have a3:=x2 (k * 2) (by omega)
   have a4:=x2 (k * 2 + 1) (by omega)
   rw [(flatR_at2 gs k hlt).1] at a1 a3
   rw [(flatR_at2 gs k hlt).2] at a2 a4
   have hq:=span_neq (gs.getD k (0,0)).1 (gs.getD k (0,0)).2
   generalize (gs.getD k (0,0)).1=ya at a1 a3 hq
   generalize (gs.getD k (0,0)).2=yb at a2 a4 hq
   clear x1 x2 r1 r2
   generalize gs.length=N at *
   go_wp2
   go_quiet (fail)
   go_wp2
   go_roundg (gk - 1)
   case measure=>have:=HG.out; omega
   case rel=>exact ⟨k + 1,_,by have:=HG.out; omega,by omega,congrArg (Value.int .i64) (by omega),rfl⟩
  ·have hkz:¬ (k:Int) < (gs.length:Int):=by omega
   clear r1 r2
   generalize gs.length=N at *
   go_wp2
   go_ret
   exact ⟨rfl,kA.drewN _⟩
theorem cell4_at (L:List Mm) (j i:Nat) (hj:j < L.length) (hi:i < 4):(L.flatMap cell4)[j * 4 + i]? = (cell4 (L[j]'hj))[i]?:=by
 induction L generalizing j with
 | nil=>simp at hj
 | cons x L ih =>
   cases j with
   | zero =>
     rw [List.flatMap_cons,List.getElem?_append_left (by simp [cell4]; omega)]
     simp
   | succ j =>
     have:=ih j (by simpa using hj)
     rw [List.flatMap_cons,List.getElem?_append_right (by simp [cell4]; omega)]
     have e:(j + 1) * 4 + i - (cell4 x).length=j * 4 + i:=by simp [cell4]; omega
     rw [e,this]
     simp
theorem Mts.cells {w:World} {g cap:Nat} {L:List Mm} (h:Mts w (.slice (some ⟨g,0,none⟩) L.length cap) L) {j:Nat} (hj:j < L.length) :
  w.cell? ⟨g,j * 4,none⟩=some (.bool (L[j]'hj).1.ok)∧w.cell? ⟨g,j * 4 + 1,none⟩=some (.int .i64 (L[j]'hj).1.fr)∧w.cell? ⟨g,j * 4 + 2,none⟩=some (.int .i64 (L[j]'hj).1.up)∧w.cell? ⟨g,j * 4 + 3,none⟩=some (L[j]'hj).2:=by
 have hc:=h.row.cellAt
 refine ⟨?_,?_,?_,?_⟩
 ·have e:=hc (j * 4) (by omega); rw [e]; exact cell4_at L j 0 hj (by omega)
 ·rw [hc (j * 4 + 1) (by omega)]; exact cell4_at L j 1 hj (by omega)
 ·rw [hc (j * 4 + 2) (by omega)]; exact cell4_at L j 2 hj (by omega)
 ·rw [hc (j * 4 + 3) (by omega)]; exact cell4_at L j 3 hj (by omega)
def SmallM (L:List Mm):Prop:=L.length≤10000∧∀x∈L,x.1.gs.length≤10000
set_option maxHeartbeats 1000000 in
theorem wMatches_same {w:World} {v1 v2:Value} {L1 L2:List Mm} (h1:Mts w v1 L1) (h2:Mts w v2 L2) (he:L1.map (·.1)=L2.map (·.1)) (hS:SmallM L1) :
  Calls Tryz.prog 11 #[v1,v2] w fun e w'=>e = .returned (.bool true)∧Keeps (fun _=>False) w w':=by
 have hlen:L1.length=L2.length:=by have:=congrArg List.length he; simpa using this
 by_cases hn:0 < L1.length
 ·obtain ⟨g1,c1,rfl,_⟩:=row_at h1.row hn
  obtain ⟨g2,c2,rfl,_⟩:=row_at h2.row (by omega)
  obtain ⟨hS1,hS2⟩:=hS
  have HLen:Hid (L1.length=L2.length):=hlen
  have hz:((L1.length:Int) != (L2.length:Int))=false:=by simp [hlen]
  clear hlen
  go_enter Tryz.func11,Tryz.ntmps11
  go_wp2
  go_loopw [13] (fun i wr =>∃k:Nat,k≤L1.length∧i = .int .i64 k∧Keeps (fun _=>False) w wr) (fun i _=>L1.length - (intOf i).toNat)
  case atStart=>exact ⟨0,by omega,rfl,Keeps.refl _ _⟩
  case round =>
   obtain ⟨k,hk,rfl,hkp⟩:=hrel
   by_cases hlt:k < L1.length
   ·have hlt2:k < L2.length:=by rw [← HLen.out]; exact hlt
    have o1:SpR wr (L1[k]'hlt).2 (L1[k]'hlt).1.gs:=ownsRow_keeps (h1.rows _ (List.getElem_mem hlt)) hkp (fun _ _ h=>h)
    have o2:SpR wr (L2[k]'hlt2).2 (L2[k]'hlt2).1.gs:=ownsRow_keeps (h2.rows _ (List.getElem_mem hlt2)) hkp (fun _ _ h=>h)
    have hsm:=hS2 _ (List.getElem_mem hlt)
    have hce:(L1[k]'hlt).1=(L2[k]'hlt2).1:=by
     have h3:(L1.map (·.1))[k]? = (L2.map (·.1))[k]?:=by rw [he]
     simpa [hlt,hlt2] using h3
    obtain ⟨a0,a1,a2,a3⟩:=(h1.same hkp).cells hlt
    obtain ⟨b0,b1,b2,b3⟩:=(h2.same hkp).cells hlt2
    rw [← hce] at b0 b1 b2
    have hkz:(k:Int) < (L1.length:Int):=by omega
    have hkz2:(k:Int) < (L2.length:Int):=by omega
    revert a0 a1 a2 a3 b0 b1 b2 b3 o1 o2 hsm hce
    generalize L1[k]'hlt=x
    generalize L2[k]'hlt2=y
    obtain ⟨⟨ok,fr,up,gs⟩,s1⟩:=x
    obtain ⟨c',s2⟩:=y
    intro o1 o2 hsm hce
    simp only at hce
    subst hce
    intro a0 a1 a2 a3 b0 b1 b2 b3
    simp only at a0 a1 a2 a3 b0 b1 b2 b3 hsm o1 o2
    unfold SpR at o1 o2
    obtain ⟨p1,q1,rfl⟩:=own_form o1
    obtain ⟨p2,q2,rfl⟩:=own_form o2
    go_wp2
    go_region_with (go_at_call 18; refine (wMatch_same (ownsRow_keeps o1 ((Keeps.refl (fun _=>False) _).drew) (fun _ _ h=>h)) (ownsRow_keeps o2 ((Keeps.refl (fun _=>False) _).drew) (fun _ _ h=>h)) hsm).mono ?_; rintro e w2 ⟨rfl,hk2⟩)
    all_goals go_wp2
    all_goals go_roundw
    all_goals (first
     | exact ⟨k + 1,by omega,by go_num,(hkp.drew).trans hk2⟩
     | (simp [intOf]; omega))
   ·go_wp2
    go_ret
    exact ⟨rfl,hkp⟩
 ·have hl0:L1 = []:=List.eq_nil_of_length_eq_zero (by omega)
  subst hl0
  have hl2:L2 = []:=List.eq_nil_of_length_eq_zero (by simpa using hlen.symm)
  subst hl2
  obtain ⟨a1,c1,rfl⟩:=own_form h1.row
  obtain ⟨a2,c2,rfl⟩:=own_form h2.row
  clear h1 h2
  go_enter Tryz.func11,Tryz.ntmps11
  go_wp2
  refine wp_loop_rounds 1 ?_
  rw [rounds_succ]
  go_wp2
  go_ret
  exact ⟨rfl,Keeps.refl _ _⟩
theorem cell7_atF (L:List Pm) (j i:Nat) (hj:j < L.length) (hi:i < 7):(L.flatMap cell7)[j * 7 + i]? = (cell7 (L[j]'hj))[i]?:=by
 induction L generalizing j with
 | nil=>simp at hj
 | cons x L ih =>
   cases j with
   | zero =>
     rw [List.flatMap_cons,List.getElem?_append_left (by simp [cell7]; omega)]
     simp
   | succ j =>
     have:=ih j (by simpa using hj)
     rw [List.flatMap_cons,List.getElem?_append_right (by simp [cell7]; omega)]
     have e:(j + 1) * 7 + i - (cell7 x).length=j * 7 + i:=by simp [cell7]; omega
     rw [e,this]
     simp
theorem Pcs.cellsF {w:World} {g cap:Nat} {L:List Pm} (h:Pcs w (.slice (some ⟨g,0,none⟩) L.length cap) L) {j:Nat} (hj:j < L.length) :
  w.cell? ⟨g,j * 7,none⟩=some (.int .i64 (L[j]'hj).1.kind)∧w.cell? ⟨g,j * 7 + 1,none⟩=some (L[j]'hj).2.1∧w.cell? ⟨g,j * 7 + 2,none⟩=some (.int .i64 (L[j]'hj).1.min)∧w.cell? ⟨g,j * 7 + 3,none⟩=some (.int .i64 (L[j]'hj).1.max)∧
  w.cell? ⟨g,j * 7 + 4,none⟩=some (.bool (L[j]'hj).1.lazy)∧w.cell? ⟨g,j * 7 + 5,none⟩=some (.int .i64 (L[j]'hj).1.num)∧w.cell? ⟨g,j * 7 + 6,none⟩=some (L[j]'hj).2.2:=by
 have hc:=h.row.cellAt
 refine ⟨?_,?_,?_,?_,?_,?_,?_⟩
 ·have e:=hc (j * 7) (by omega); rw [e]; exact cell7_atF L j 0 hj (by omega)
 ·rw [hc (j * 7 + 1) (by omega)]; exact cell7_atF L j 1 hj (by omega)
 ·rw [hc (j * 7 + 2) (by omega)]; exact cell7_atF L j 2 hj (by omega)
 ·rw [hc (j * 7 + 3) (by omega)]; exact cell7_atF L j 3 hj (by omega)
 ·rw [hc (j * 7 + 4) (by omega)]; exact cell7_atF L j 4 hj (by omega)
 ·rw [hc (j * 7 + 5) (by omega)]; exact cell7_atF L j 5 hj (by omega)
 ·rw [hc (j * 7 + 6) (by omega)]; exact cell7_atF L j 6 hj (by omega)
theorem row_fmF {w:World} {base:Nat} {e:TypeId} {size n cap:Nat} {ao:Option Addr} {xs:List Value} (h:w.ownsRow base e size (.slice ao n cap) n xs) (hn:0 < n) :∃g,ao=some ⟨g,0,none⟩:=by
 obtain ⟨_,⟨_,h0⟩ | ⟨g,cap',cur,h1,_⟩⟩:=h
 ·omega
 ·simp only [Value.slice.injEq] at h1
  exact ⟨g,h1.1⟩
theorem flatR_getF (l:List (Int×Int)) (k:Nat) (h:k < l.length):(flatR l)[k * 2]? = some (.int .i64 l[k].1)∧(flatR l)[k * 2 + 1]? = some (.int .i64 l[k].2):=by
 have:=flatR_at2 l k h
 simpa [List.getD,h] using this
def PvF (w:World) (P:Nat) (c:Pc) (sv kv:Value):Prop:=w.heap[P]? = some (.cells #[.int .i64 c.kind,sv,.int .i64 c.min,.int .i64 c.max,.bool c.lazy,.int .i64 c.num,kv] 100 (0,0))
theorem PvF.keeps {w w':World} {P:Nat} {c:Pc} {sv kv:Value} (h:PvF w P c sv kv) (k:Keeps (fun _=>False) w w'):PvF w' P c sv kv:=by
 unfold PvF at h ⊢
 rw [k.block P (lt_of_block h) (fun h=>h)]
 exact h
theorem PvF.c1 {w:World} {P:Nat} {c:Pc} {sv kv:Value} (h:PvF w P c sv kv):w.cell? ⟨P,1,none⟩=some sv:=by rw [cell_of h]; rfl
theorem PvF.c6 {w:World} {P:Nat} {c:Pc} {sv kv:Value} (h:PvF w P c sv kv):w.cell? ⟨P,6,none⟩=some kv:=by rw [cell_of h]; rfl
def SmallF (ps:List Pc):Prop:=ps.length≤10000000∧∀x∈ps,x.set.length≤10000000∧x.kids.length≤10000000
set_option maxHeartbeats 2000000 in
theorem wPieces_same {w:World} {v1 v2:Value} {L1 L2:List Pm} (h1:Pcs w v1 L1) (h2:Pcs w v2 L2) (he:L1.map (·.1)=L2.map (·.1)) (hs1:SmallF (L1.map (·.1))) :
  Calls Tryz.prog 36 #[v1,v2] w fun e w'=>e = .returned (.bool true)∧Keeps (fun _=>False) w w':=by
 obtain ⟨a1,c1,rfl⟩:=own_form h1.row
 obtain ⟨a2,c2,rfl⟩:=own_form h2.row
 have hz:L1.length=L2.length:=by have:=congrArg List.length he; simpa using this
 have HZ:Hid (L1.length=L2.length):=hz
 have HE:Hid (L1.map (·.1)=L2.map (·.1)):=he
 have hz2:((L1.length:Int) != (L2.length:Int))=false:=by simp [hz]
 clear hz he
 have hlen1:L1.length≤10000000:=by have:=hs1.1; simpa using this
 go_enter Tryz.func36,Tryz.ntmps36
 go_wp2
 go_loopw [17] (fun i wr =>∃k:Nat,k≤L1.length∧i = .int .i64 k∧Keeps (fun _=>False) w wr) (fun i _=>L1.length - (intOf i).toNat)
 case atStart=>exact ⟨0,by omega,rfl,Keeps.refl _ _⟩
 case round =>
  obtain ⟨k,hk,rfl,hkp⟩:=hrel
  by_cases hlt:k < L1.length
  ·have hlt2:k < L2.length:=by rw [← HZ.out]; exact hlt
   obtain ⟨g1,rfl⟩:=row_fmF h1.row (by omega)
   obtain ⟨g2,rfl⟩:=row_fmF h2.row (by omega)
   have hA:=(h1.same hkp).cellsF hlt
   have hB:=fun o=>((h2.same hkp).same ((Keeps.refl _ _).alloc o)).cellsF hlt2
   have o1:=(h1.same hkp).rows _ (List.getElem_mem hlt)
   have o2:=(h2.same hkp).rows _ (List.getElem_mem hlt2)
   have m1:=hs1.2 _ (List.mem_map_of_mem (f:=(·.1)) (List.getElem_mem hlt))
   have hce:(L1[k]'hlt).1=(L2[k]'hlt2).1:=by
    have h3:(L1.map (·.1))[k]? = (L2.map (·.1))[k]?:=by rw [HE.out]
    simpa [hlt,hlt2] using h3
   have hkz:(k:Int) < (L1.length:Int):=by omega
   have hkz2:(k:Int) < (L2.length:Int):=by omega
   generalize L1[k]'hlt=x at hA o1 m1 hce
   generalize L2[k]'hlt2=y at hB o2 hce
   obtain ⟨c,s1,k1⟩:=x
   obtain ⟨d,s2,k2⟩:=y
   simp only at hce
   subst hce
   obtain ⟨as1,cs1,e1⟩:=own_form o1.1
   obtain ⟨as2,cs2,e2⟩:=own_form o1.2
   obtain ⟨as3,cs3,e3⟩:=own_form o2.1
   obtain ⟨as4,cs4,e4⟩:=own_form o2.2
   simp only at e1 e2 e3 e4 hA hB m1
   subst e1 e2 e3 e4
   obtain ⟨q0,q1,q2,q3,q4,q5,q6⟩:=hA
   have r0:=fun o=>(hB o).1
   have r1:=fun o=>(hB o).2.1
   have r2:=fun o=>(hB o).2.2.1
   have r3:=fun o=>(hB o).2.2.2.1
   have r4:=fun o=>(hB o).2.2.2.2.1
   have r5:=fun o=>(hB o).2.2.2.2.2.1
   have r6:=fun o=>(hB o).2.2.2.2.2.2
   clear hB
   obtain ⟨ck,cset,cm,cx,cl,cn,ckd⟩:=c
   simp only at q0 q1 q2 q3 q4 q5 q6 r0 r1 r2 r3 r4 r5 r6 m1 o1 o2
   go_wp2
   have kA:Keeps (fun _=>False) wr ((wr.alloc (.cells #[.int .i64 ck,.slice as1 cset.length cs1,.int .i64 cm,.int .i64 cx,.bool cl,.int .i64 cn,.slice as2 ckd.length cs2] 100)).alloc (.cells #[.int .i64 ck,.slice as3 cset.length cs3,.int .i64 cm,.int .i64 cx,.bool cl,.int .i64 cn,.slice as4 ckd.length cs4] 100)):=((Keeps.refl _ _).alloc _).alloc _
   have p1:PvF ((wr.alloc (.cells #[.int .i64 ck,.slice as1 cset.length cs1,.int .i64 cm,.int .i64 cx,.bool cl,.int .i64 cn,.slice as2 ckd.length cs2] 100)).alloc (.cells #[.int .i64 ck,.slice as3 cset.length cs3,.int .i64 cm,.int .i64 cx,.bool cl,.int .i64 cn,.slice as4 ckd.length cs4] 100)) wr.heap.size { kind:=ck,set:=cset,min:=cm,max:=cx,lazy:=cl,num:=cn,kids:=ckd } (.slice as1 cset.length cs1) (.slice as2 ckd.length cs2):=box1 wr _ _
   have p2:PvF ((wr.alloc (.cells #[.int .i64 ck,.slice as1 cset.length cs1,.int .i64 cm,.int .i64 cx,.bool cl,.int .i64 cn,.slice as2 ckd.length cs2] 100)).alloc (.cells #[.int .i64 ck,.slice as3 cset.length cs3,.int .i64 cm,.int .i64 cx,.bool cl,.int .i64 cn,.slice as4 ckd.length cs4] 100)) (wr.heap.size + 1) { kind:=ck,set:=cset,min:=cm,max:=cx,lazy:=cl,num:=cn,kids:=ckd } (.slice as3 cset.length cs3) (.slice as4 ckd.length cs4):=box2 wr _ _
   replace o1:=o1.same kA
   replace o2:=o2.same kA
   have hk2:=hkp.trans kA
   generalize ((wr.alloc (.cells #[.int .i64 ck,.slice as1 cset.length cs1,.int .i64 cm,.int .i64 cx,.bool cl,.int .i64 cn,.slice as2 ckd.length cs2] 100)).alloc (.cells #[.int .i64 ck,.slice as3 cset.length cs3,.int .i64 cm,.int .i64 cx,.bool cl,.int .i64 cn,.slice as4 ckd.length cs4] 100))=w2 at p1 p2 o1 o2 hk2 ⊢
   clear kA q0 q1 q2 q3 q4 q5 q6 r0 r1 r2 r3 r4 r5 r6
   have hA1:=o1.1
   have hA2:=o1.2
   have hB1:=o2.1
   have hB2:=o2.2
   simp only at hA1 hA2 hB1 hB2
   generalize wr.heap.size=P1 at p1 p2 ⊢
   obtain ⟨wo,rfl⟩ :∃wo:World,wo=wr:=⟨_,rfl⟩
   go_loopw [82] (fun i wi =>∃j:Nat,j≤cset.length∧i = .int .i64 j∧Keeps (fun _=>False) w2 wi) (fun i _=>cset.length - (intOf i).toNat)
   case atStart=>exact ⟨0,by omega,rfl,Keeps.refl _ _⟩
   case round =>
    obtain ⟨j,hj,rfl,hkj⟩:=hrel
    have y1:=(p1.keeps hkj).c1
    have y2:=(p2.keeps hkj).c1
    by_cases hjl:j < cset.length
    ·obtain ⟨g3,rfl⟩:=row_fmF hA1 (by omega)
     obtain ⟨g4,rfl⟩:=row_fmF hB1 (by omega)
     have z1:wr.cell? ⟨g3,j * 2,none⟩=some (.int .i64 cset[j].1):=by rw [(ownsRow_keeps hA1 hkj (fun _ _ h=>h)).cellAt (j * 2) (by omega)]; exact (flatR_getF cset j hjl).1
     have z2:wr.cell? ⟨g4,j * 2,none⟩=some (.int .i64 cset[j].1):=by rw [(ownsRow_keeps hB1 hkj (fun _ _ h=>h)).cellAt (j * 2) (by omega)]; exact (flatR_getF cset j hjl).1
     have z3:wr.cell? ⟨g3,j * 2 + 1,none⟩=some (.int .i64 cset[j].2):=by rw [(ownsRow_keeps hA1 hkj (fun _ _ h=>h)).cellAt (j * 2 + 1) (by omega)]; exact (flatR_getF cset j hjl).2
     have z4:wr.cell? ⟨g4,j * 2 + 1,none⟩=some (.int .i64 cset[j].2):=by rw [(ownsRow_keeps hB1 hkj (fun _ _ h=>h)).cellAt (j * 2 + 1) (by omega)]; exact (flatR_getF cset j hjl).2
     have hjz:(j:Int) < (cset.length:Int):=by omega
     generalize cset[j]=x at z1 z2 z3 z4
     go_wp2
     go_region
     all_goals go_wp2
     all_goals go_roundw
     all_goals (first
      | exact ⟨j + 1,by omega,by go_num,hkj.drew⟩
      | (simp [intOf]; omega))
    ·obtain rfl:j=cset.length:=by omega
     have y3:=(p1.keeps hkj).c6
     go_wp2
     have hk3:=hk2.trans hkj
     replace p1:=p1.keeps hkj
     replace p2:=p2.keeps hkj
     replace hA2:=ownsRow_keeps hA2 hkj (fun _ _ h=>h)
     replace hB2:=ownsRow_keeps hB2 hkj (fun _ _ h=>h)
     clear y1 y2 y3 hA1 hB1 o1 o2
     obtain ⟨w3,rfl⟩ :∃w3:World,w3=wr:=⟨_,rfl⟩
     go_loopw [100] (fun i wi =>∃j:Nat,j≤ckd.length∧i = .int .i64 j∧Keeps (fun _=>False) w3 wi) (fun i _=>ckd.length - (intOf i).toNat)
     case atStart=>exact ⟨0,by omega,rfl,Keeps.refl _ _⟩
     case round =>
      obtain ⟨j,hj,rfl,hkj⟩:=hrel
      have y1:=(p1.keeps hkj).c6
      have y2:=(p2.keeps hkj).c6
      by_cases hjl:j < ckd.length
      ·obtain ⟨g3,rfl⟩:=row_fmF hA2 (by omega)
       obtain ⟨g4,rfl⟩:=row_fmF hB2 (by omega)
       have z1:wr.cell? ⟨g3,j,none⟩=some (.int .i64 ckd[j]):=by rw [(ownsRow_keeps hA2 hkj (fun _ _ h=>h)).cellAt j (by omega)]; simp [ints,hjl]
       have z2:wr.cell? ⟨g4,j,none⟩=some (.int .i64 ckd[j]):=by rw [(ownsRow_keeps hB2 hkj (fun _ _ h=>h)).cellAt j (by omega)]; simp [ints,hjl]
       have hjz:(j:Int) < (ckd.length:Int):=by omega
       generalize ckd[j]=x at z1 z2
       go_wp2
       go_region
       all_goals go_wp2
       all_goals go_roundw
       all_goals (first
        | exact ⟨j + 1,by omega,by go_num,hkj.drew⟩
        | (simp [intOf]; omega))
      ·obtain rfl:j=ckd.length:=by omega
       go_wp2
       go_roundw
       case rel=>exact ⟨k + 1,by omega,by go_num,hk3.trans hkj⟩
       case measure=>simp [intOf]; omega
  ·obtain rfl:k=L1.length:=by omega
   go_wp2
   go_ret
   exact ⟨rfl,hkp⟩
set_option maxHeartbeats 400000 in
theorem wPattern_same {w:World} {ok:Bool} {at_ gr:Int} {v1 v2:Value} {L1 L2:List Pm} (h1:Pcs w v1 L1) (h2:Pcs w v2 L2) (he:L1.map (·.1)=L2.map (·.1)) (hs1:SmallF (L1.map (·.1))) :
  Calls Tryz.prog 13 #[.agg #[.bool ok,.int .i64 at_,.int .i64 gr,v1],.agg #[.bool ok,.int .i64 at_,.int .i64 gr,v2]] w fun e w'=>e = .returned (.bool true)∧Keeps (fun _=>False) w w':=by
 obtain ⟨ao1,cp1,rfl⟩:=own_form h1.row
 obtain ⟨ao2,cp2,rfl⟩:=own_form h2.row
 have HE:Hid (L1.map (·.1)=L2.map (·.1)):=he
 clear he
 go_enter Tryz.func13,Tryz.ntmps13
 go_wp2_with (first
  | (go_at_call 36; refine (wPieces_same (h1.same (((Keeps.refl _ _).alloc _).alloc _)) (h2.same (((Keeps.refl _ _).alloc _).alloc _)) HE.out hs1).mono ?_; rintro e w2 ⟨rfl,hk2⟩))
 go_ret
 exact ⟨rfl,(((Keeps.refl _ _).alloc _).alloc _).trans hk2⟩
end Go.Proofs.YthkmmeamplmnhaaGreat
