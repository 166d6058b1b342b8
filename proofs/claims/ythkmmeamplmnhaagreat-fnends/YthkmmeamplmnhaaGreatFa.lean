import Derived.Test.YthkmmeamplmnhaaGreatNa
import Derived.Test.YthkmmeamplmnhaaGreatC
import Derived.Laws.StructEq
import Derived.Deep.RegionWith
import Derived.Deep.QuietTactic
import Derived.BigQuiet
namespace Go.Proofs.YthkmmeamplmnhaaGreat
open Go.RowKit
set_option linter.unusedVariables false
set_option maxRecDepth 100000
theorem span_neq (a b:Int) (w:World):(binOp BinOp.neq 31 (.agg #[.int .i64 a,.int .i64 b]) (.agg #[.int .i64 a,.int .i64 b])).run Tryz.prog w = .ok (.bool false) w:=by
 have hs:Tryz.prog.stoodInHeld 31=false:=by kernel_rfl
 simp [go_sem,hs]
set_option maxHeartbeats 1000000 in
theorem wMatch_same {w:World} {b1 b2:Nat} {ok:Bool} {fr up:Int} {gs:List (Int×Int)} {v1 v2:Value} (h1:w.ownsRow b1 31 2 v1 gs.length (flatR gs)) (h2:w.ownsRow b2 31 2 v2 gs.length (flatR gs)) (hl:gs.length≤10000) :
  Calls Tryz.prog 18 #[.agg #[.bool ok,.int .i64 fr,.int .i64 up,v1],.agg #[.bool ok,.int .i64 fr,.int .i64 up,v2]] w fun e w'=>e = .returned (.bool true)∧Keeps (fun _=>False) w w':=by
 obtain ⟨ao1,cp1,rfl⟩:=own_form h1
 obtain ⟨ao2,cp2,rfl⟩:=own_form h2
 go_enter Tryz.func18,Tryz.ntmps18
 go_wp2
 have kA:Keeps (fun _=>False) w ((w.alloc (.cells #[.bool ok,.int .i64 fr,.int .i64 up,.slice ao1 gs.length cp1] 29)).alloc (.cells #[.bool ok,.int .i64 fr,.int .i64 up,.slice ao2 gs.length cp2] 29)):=((Keeps.refl _ w).alloc _).alloc _
 have b1:((w.alloc (.cells #[.bool ok,.int .i64 fr,.int .i64 up,.slice ao1 gs.length cp1] 29)).alloc (.cells #[.bool ok,.int .i64 fr,.int .i64 up,.slice ao2 gs.length cp2] 29)).heap[w.heap.size]? = some (.cells #[.bool ok,.int .i64 fr,.int .i64 up,.slice ao1 gs.length cp1] 29 (0,0)):=box1 w _ _
 have b2:((w.alloc (.cells #[.bool ok,.int .i64 fr,.int .i64 up,.slice ao1 gs.length cp1] 29)).alloc (.cells #[.bool ok,.int .i64 fr,.int .i64 up,.slice ao2 gs.length cp2] 29)).heap[w.heap.size + 1]? = some (.cells #[.bool ok,.int .i64 fr,.int .i64 up,.slice ao2 gs.length cp2] 29 (0,0)):=box2 w _ _
 have r1:=ownsRow_keeps h1 kA (fun _ _ h=>h)
 have r2:=ownsRow_keeps h2 kA (fun _ _ h=>h)
 generalize ((w.alloc (.cells #[.bool ok,.int .i64 fr,.int .i64 up,.slice ao1 gs.length cp1] 29)).alloc (.cells #[.bool ok,.int .i64 fr,.int .i64 up,.slice ao2 gs.length cp2] 29))=W at kA b1 b2 r1 r2 ⊢
 generalize w.heap.size=P at b1 b2 ⊢
 have c1:W.cell? ⟨P,3,none⟩=some (.slice ao1 gs.length cp1):=by rw [cell_of b1]; rfl
 have c2:W.cell? ⟨P + 1,3,none⟩=some (.slice ao2 gs.length cp2):=by rw [cell_of b2]; rfl
 clear b1 b2 h1 h2
 go_loopg [37] (gs.length + 1) (fun gl s37 wr =>∃k n:Nat,k + gl=gs.length + 1∧k≤gs.length∧s37 = .int .i64 (k:Int)∧wr=W.drewN n)
 case atStart=>exact ⟨0,0,by omega,by omega,rfl,rfl⟩
 case round =>
  obtain ⟨k,n,hgl,hk,rfl,rfl⟩:=hrel
  have HG:Hid (k + gk=gs.length + 1):=hgl
  clear hgl
  by_cases hlt:k < gs.length
  ·have hkz:(k:Int) < (gs.length:Int):=by omega
   obtain ⟨g1,q1,hv1,x1,-⟩:=row_at r1 (by omega)
   obtain ⟨g2,q2,hv2,x2,-⟩:=row_at r2 (by omega)
   simp only [Value.slice.injEq] at hv1 hv2
   obtain ⟨rfl,_,rfl⟩:=hv1
   obtain ⟨rfl,_,rfl⟩:=hv2
   have a1:=x1 (k * 2) (by omega)
   have a2:=x1 (k * 2 + 1) (by omega)
   have a3:=x2 (k * 2) (by omega)
   have a4:=x2 (k * 2 + 1) (by omega)
   rw [(flatR_at2 gs k hlt).1] at a1 a3
   rw [(flatR_at2 gs k hlt).2] at a2 a4
   have hq:=span_neq (gs.getD k (0,0)).1 (gs.getD k (0,0)).2
   generalize (gs.getD k (0,0)).1=ya at a1 a3 hq
   generalize (gs.getD k (0,0)).2=yb at a2 a4 hq
   clear x1 x2 r1 r2
   generalize gs.length=N at *
   go_wp2
   go_quiet (fail)
   go_wp2
   go_roundg (gk - 1)
   case measure=>have:=HG.out; omega
   case rel=>exact ⟨k + 1,_,by have:=HG.out; omega,by omega,congrArg (Value.int .i64) (by omega),rfl⟩
  ·have hkz:¬ (k:Int) < (gs.length:Int):=by omega
   clear r1 r2
   generalize gs.length=N at *
   go_wp2
   go_ret
   exact ⟨rfl,kA.drewN _⟩
theorem cell4_at (L:List Mm) (j i:Nat) (hj:j < L.length) (hi:i < 4):(L.flatMap cell4)[j * 4 + i]? = (cell4 (L[j]'hj))[i]?:=by
 induction L generalizing j with
 | nil=>simp at hj
 | cons x L ih =>
   cases j with
   | zero =>
     rw [List.flatMap_cons,List.getElem?_append_left (by simp [cell4]; omega)]
     simp
   | succ j =>
     have:=ih j (by simpa using hj)
     rw [List.flatMap_cons,List.getElem?_append_right (by simp [cell4]; omega)]
     have e:(j + 1) * 4 + i - (cell4 x).length=j * 4 + i:=by simp [cell4]; omega
     rw [e,this]
     simp
theorem Mts.cells {w:World} {g cap:Nat} {L:List Mm} (h:Mts w (.slice (some ⟨g,0,none⟩) L.length cap) L) {j:Nat} (hj:j < L.length) :
  w.cell? ⟨g,j * 4,none⟩=some (.bool (L[j]'hj).1.ok)∧w.cell? ⟨g,j * 4 + 1,none⟩=some (.int .i64 (L[j]'hj).1.fr)∧w.cell? ⟨g,j * 4 + 2,none⟩=some (.int .i64 (L[j]'hj).1.up)∧w.cell? ⟨g,j * 4 + 3,none⟩=some (L[j]'hj).2:=by
 have hc:=h.row.cellAt
 refine ⟨?_,?_,?_,?_⟩
 ·have e:=hc (j * 4) (by omega); rw [e]; exact cell4_at L j 0 hj (by omega)
 ·rw [hc (j * 4 + 1) (by omega)]; exact cell4_at L j 1 hj (by omega)
 ·rw [hc (j * 4 + 2) (by omega)]; exact cell4_at L j 2 hj (by omega)
 ·rw [hc (j * 4 + 3) (by omega)]; exact cell4_at L j 3 hj (by omega)
def SmallM (L:List Mm):Prop:=L.length≤10000∧∀x∈L,x.1.gs.length≤10000
set_option maxHeartbeats 1000000 in
theorem wMatches_same {w:World} {v1 v2:Value} {L1 L2:List Mm} (h1:Mts w v1 L1) (h2:Mts w v2 L2) (he:L1.map (·.1)=L2.map (·.1)) (hS:SmallM L1) :
  Calls Tryz.prog 11 #[v1,v2] w fun e w'=>e = .returned (.bool true)∧Keeps (fun _=>False) w w':=by
 have hlen:L1.length=L2.length:=by have:=congrArg List.length he; simpa using this
 by_cases hn:0 < L1.length
 ·obtain ⟨g1,c1,rfl,_⟩:=row_at h1.row hn
  obtain ⟨g2,c2,rfl,_⟩:=row_at h2.row (by omega)
  obtain ⟨hS1,hS2⟩:=hS
  have HLen:Hid (L1.length=L2.length):=hlen
  have hz:((L1.length:Int) != (L2.length:Int))=false:=by simp [hlen]
  clear hlen
  go_enter Tryz.func11,Tryz.ntmps11
  go_wp2
  go_loopw [13] (fun i wr =>∃k:Nat,k≤L1.length∧i = .int .i64 k∧Keeps (fun _=>False) w wr) (fun i _=>L1.length - (intOf i).toNat)
  case atStart=>exact ⟨0,by omega,rfl,Keeps.refl _ _⟩
  case round =>
   obtain ⟨k,hk,rfl,hkp⟩:=hrel
   by_cases hlt:k < L1.length
   ·have hlt2:k < L2.length:=by rw [← HLen.out]; exact hlt
    have o1:SpR wr (L1[k]'hlt).2 (L1[k]'hlt).1.gs:=ownsRow_keeps (h1.rows _ (List.getElem_mem hlt)) hkp (fun _ _ h=>h)
    have o2:SpR wr (L2[k]'hlt2).2 (L2[k]'hlt2).1.gs:=ownsRow_keeps (h2.rows _ (List.getElem_mem hlt2)) hkp (fun _ _ h=>h)
    have hsm:=hS2 _ (List.getElem_mem hlt)
    have hce:(L1[k]'hlt).1=(L2[k]'hlt2).1:=by
     have h3:(L1.map (·.1))[k]? = (L2.map (·.1))[k]?:=by rw [he]
     simpa [hlt,hlt2] using h3
    obtain ⟨a0,a1,a2,a3⟩:=(h1.same hkp).cells hlt
    obtain ⟨b0,b1,b2,b3⟩:=(h2.same hkp).cells hlt2
    rw [← hce] at b0 b1 b2
    have hkz:(k:Int) < (L1.length:Int):=by omega
    have hkz2:(k:Int) < (L2.length:Int):=by omega
    revert a0 a1 a2 a3 b0 b1 b2 b3 o1 o2 hsm hce
    generalize L1[k]'hlt=x
    generalize L2[k]'hlt2=y
    obtain ⟨⟨ok,fr,up,gs⟩,s1⟩:=x
    obtain ⟨c',s2⟩:=y
    intro o1 o2 hsm hce
    simp only at hce
    subst hce
    intro a0 a1 a2 a3 b0 b1 b2 b3
    simp only at a0 a1 a2 a3 b0 b1 b2 b3 hsm o1 o2
    unfold SpR at o1 o2
    obtain ⟨p1,q1,rfl⟩:=own_form o1
    obtain ⟨p2,q2,rfl⟩:=own_form o2
    go_wp2
    go_region_with (go_at_call 18; refine (wMatch_same (ownsRow_keeps o1 ((Keeps.refl (fun _=>False) _).drew) (fun _ _ h=>h)) (ownsRow_keeps o2 ((Keeps.refl (fun _=>False) _).drew) (fun _ _ h=>h)) hsm).mono ?_; rintro e w2 ⟨rfl,hk2⟩)
    all_goals go_wp2
    all_goals go_roundw
    all_goals (first
     | exact ⟨k + 1,by omega,by go_num,(hkp.drew).trans hk2⟩
     | (simp [intOf]; omega))
   ·go_wp2
    go_ret
    exact ⟨rfl,hkp⟩
 ·have hl0:L1 = []:=List.eq_nil_of_length_eq_zero (by omega)
  subst hl0
  have hl2:L2 = []:=List.eq_nil_of_length_eq_zero (by simpa using hlen.symm)
  subst hl2
  obtain ⟨a1,c1,rfl⟩:=own_form h1.row
  obtain ⟨a2,c2,rfl⟩:=own_form h2.row
  clear h1 h2
  go_enter Tryz.func11,Tryz.ntmps11
  go_wp2
  refine wp_loop_rounds 1 ?_
  rw [rounds_succ]
  go_wp2
  go_ret
  exact ⟨rfl,Keeps.refl _ _⟩
end Go.Proofs.YthkmmeamplmnhaaGreat
