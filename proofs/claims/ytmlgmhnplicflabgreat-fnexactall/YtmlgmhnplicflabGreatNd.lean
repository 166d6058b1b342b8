import Derived.Test.YtmlgmhnplicflabGreatNa
namespace Go.Proofs.YtmlgmhnplicflabGreat
open Go.RowKit
set_option linter.unusedVariables false
theorem cell4_at (L:List Mm) (j i:Nat) (hj:j < L.length) (hi:i < 4):(L.flatMap cell4)[j * 4 + i]? = (cell4 (L[j]'hj))[i]?:=by
 induction L generalizing j with
 | nil=>simp at hj
 | cons x L ih =>
   cases j with
   | zero =>
     rw [List.flatMap_cons,List.getElem?_append_left (by simp [cell4]; omega)]
     simp
   | succ j =>
     have:=ih j (by simpa using hj)
     rw [List.flatMap_cons,List.getElem?_append_right (by simp [cell4]; omega)]
     have e:(j + 1) * 4 + i - (cell4 x).length=j * 4 + i:=by simp [cell4]; omega
     rw [e,this]
     simp
theorem Mts.cells {w:World} {g cap:Nat} {L:List Mm} (h:Mts w (.slice (some ⟨g,0,none⟩) L.length cap) L) {j:Nat} (hj:j < L.length) :
  w.cell? ⟨g,j * 4,none⟩=some (.bool (L[j]'hj).1.ok)∧w.cell? ⟨g,j * 4 + 1,none⟩=some (.int .i64 (L[j]'hj).1.fr)∧w.cell? ⟨g,j * 4 + 2,none⟩=some (.int .i64 (L[j]'hj).1.up)∧w.cell? ⟨g,j * 4 + 3,none⟩=some (L[j]'hj).2:=by
 have hc:=h.row.cellAt
 refine ⟨?_,?_,?_,?_⟩
 ·have e:=hc (j * 4) (by omega); rw [e]; exact cell4_at L j 0 hj (by omega)
 ·rw [hc (j * 4 + 1) (by omega)]; exact cell4_at L j 1 hj (by omega)
 ·rw [hc (j * 4 + 2) (by omega)]; exact cell4_at L j 2 hj (by omega)
 ·rw [hc (j * 4 + 3) (by omega)]; exact cell4_at L j 3 hj (by omega)
def SmallM (L:List Mm):Prop:=L.length≤10000000∧∀x∈L,x.1.gs.length≤10000000
set_option maxHeartbeats 1000000 in
theorem eqMatchS_same {w:World} {v1 v2:Value} {L1 L2:List Mm} (h1:Mts w v1 L1) (h2:Mts w v2 L2) (he:L1.map (·.1)=L2.map (·.1)) (hS:SmallM L1) :
  Calls Tryz.prog 11 #[v1,v2] w fun e w'=>e = .returned (.bool true)∧Keeps (fun _=>False) w w':=by
 have hlen:L1.length=L2.length:=by have:=congrArg List.length he; simpa using this
 by_cases hn:0 < L1.length
 ·obtain ⟨g1,c1,rfl,_⟩:=row_at h1.row hn
  obtain ⟨g2,c2,rfl,_⟩:=row_at h2.row (by omega)
  obtain ⟨hS1,hS2⟩:=hS
  have HLen:Hid (L1.length=L2.length):=hlen
  have hz:((L1.length:Int) != (L2.length:Int))=false:=by simp [hlen]
  clear hlen
  go_enter Tryz.func11,Tryz.ntmps11
  go_wp2
  go_loopw [5] (fun i wr =>∃k:Nat,k≤L1.length∧i = .int .i64 k∧Keeps (fun _=>False) w wr) (fun i _=>L1.length - (intOf i).toNat)
  case atStart=>exact ⟨0,by omega,rfl,Keeps.refl _ _⟩
  case round =>
   obtain ⟨k,hk,rfl,hkp⟩:=hrel
   by_cases hlt:k < L1.length
   ·have hlt2:k < L2.length:=by rw [← HLen.out]; exact hlt
    have o1:SpR wr (L1[k]'hlt).2 (L1[k]'hlt).1.gs:=ownsRow_keeps (h1.rows _ (List.getElem_mem hlt)) hkp (fun _ _ h=>h)
    have o2:SpR wr (L2[k]'hlt2).2 (L2[k]'hlt2).1.gs:=ownsRow_keeps (h2.rows _ (List.getElem_mem hlt2)) hkp (fun _ _ h=>h)
    have hsm:=hS2 _ (List.getElem_mem hlt)
    have hce:(L1[k]'hlt).1=(L2[k]'hlt2).1:=by
     have h3:(L1.map (·.1))[k]? = (L2.map (·.1))[k]?:=by rw [he]
     simpa [hlt,hlt2] using h3
    obtain ⟨a0,a1,a2,a3⟩:=(h1.same hkp).cells hlt
    obtain ⟨b0,b1,b2,b3⟩:=(h2.same hkp).cells hlt2
    rw [← hce] at b0 b1 b2
    have hkz:(k:Int) < (L1.length:Int):=by omega
    have hkz2:(k:Int) < (L2.length:Int):=by omega
    revert a0 a1 a2 a3 b0 b1 b2 b3 o1 o2 hsm hce
    generalize L1[k]'hlt=x
    generalize L2[k]'hlt2=y
    obtain ⟨⟨ok,fr,up,gs⟩,s1⟩:=x
    obtain ⟨c',s2⟩:=y
    intro o1 o2 hsm hce
    simp only at hce
    subst hce
    intro a0 a1 a2 a3 b0 b1 b2 b3
    simp only at a0 a1 a2 a3 b0 b1 b2 b3 hsm o1 o2
    unfold SpR at o1 o2
    obtain ⟨p1,q1,rfl⟩:=own_form o1
    obtain ⟨p2,q2,rfl⟩:=own_form o2
    go_wp2
    go_region_with (go_at_call 16; refine (eqMatch_same (ownsRow_keeps o1 ((Keeps.refl (fun _=>False) _).drew) (fun _ _ h=>h)) (ownsRow_keeps o2 ((Keeps.refl (fun _=>False) _).drew) (fun _ _ h=>h)) hsm).mono ?_; rintro e w2 ⟨rfl,hk2⟩)
    all_goals go_wp2
    all_goals go_roundw
    all_goals (first
     | exact ⟨k + 1,by omega,by go_num,(hkp.drew).trans hk2⟩
     | (simp [intOf]; omega))
   ·go_wp2
    go_ret
    exact ⟨rfl,hkp⟩
 ·have hl0:L1 = []:=List.eq_nil_of_length_eq_zero (by omega)
  subst hl0
  have hl2:L2 = []:=List.eq_nil_of_length_eq_zero (by simpa using hlen.symm)
  subst hl2
  obtain ⟨a1,c1,rfl⟩:=own_form h1.row
  obtain ⟨a2,c2,rfl⟩:=own_form h2.row
  clear h1 h2
  go_enter Tryz.func11,Tryz.ntmps11
  go_wp2
  refine wp_loop_rounds 1 ?_
  rw [rounds_succ]
  go_wp2
  go_ret
  exact ⟨rfl,Keeps.refl _ _⟩
end Go.Proofs.YtmlgmhnplicflabGreat
namespace Go.Proofs.YtmlgmhnplicflabGreat
open Go.RowKit
set_option linter.unusedVariables false
def markMt (c:Mt) (k:Int):Mt := { ok:=(k % 3 == 0),fr:=k + 1,up:=k + 1 + 1,gs:=marksR (k + 1 + 1 + 1) c.gs.length }
def mtK (c:Mt) (k:Int):Int:=k + 1 + 1 + 1 + 2 * (c.gs.length:Int)
def mtL:List Mm→Int→List Mm
 | [],_ => []
 | x :: L,k=>(markMt x.1 k,x.2) :: mtL L (mtK x.1 k)
def mtN:List Mm→Int→Int
 | [],k=>k
 | x :: L,k=>mtN L (mtK x.1 k)
theorem mtL_len (L:List Mm) (k:Int):(mtL L k).length=L.length:=by
 induction L generalizing k with
 | nil=>rfl
 | cons x L ih=>simp [mtL,ih]
theorem mtL_append (A B:List Mm) (k:Int):mtL (A ++ B) k=mtL A k ++ mtL B (mtN A k):=by
 induction A generalizing k with
 | nil=>rfl
 | cons x A ih=>simp [mtL,mtN,ih]
theorem mtN_append (A B:List Mm) (k:Int):mtN (A ++ B) k=mtN B (mtN A k):=by
 induction A generalizing k with
 | nil=>rfl
 | cons x A ih=>simp [mtN,ih]
theorem mtN_ge (L:List Mm) (k:Int):k≤mtN L k:=by
 induction L generalizing k with
 | nil=>simp [mtN]
 | cons x L ih=>have:=ih (mtK x.1 k); simp only [mtN]; unfold mtK at this ⊢; omega
theorem mtN_le (L:List Mm) (k:Int) (h :∀c∈L,c.1.gs.length≤1000):mtN L k≤k + 2003 * (L.length:Int):=by
 induction L generalizing k with
 | nil=>simp [mtN]
 | cons x L ih =>
   have h1:=h x (by simp)
   have h2:=ih (mtK x.1 k) (fun c hc=>h c (by simp [hc]))
   simp only [mtN,List.length_cons]
   unfold mtK at h2 ⊢
   push_cast
   omega
def SepM (L:List Mm):Prop:=L.Pairwise fun x y =>∀k,x.2.ownBlock=some k→¬ y.2.ownBlock=some k
theorem sepM_part (A B:List Mm) (k:Int) (h:SepM (A ++ B)):SepM (mtL A k ++ B):=by
 induction A generalizing k with
 | nil=>exact h
 | cons x A ih =>
   unfold SepM at h ⊢
   simp only [List.cons_append,mtL,List.pairwise_cons] at h ⊢
   refine ⟨?_,ih _ h.2⟩
   intro y hy
   have hm :∀(L:List Mm) (k:Int) (y:Mm),y∈mtL L k→∃z∈L,z.2=y.2:=by
    intro L
    induction L with
    | nil=>intro k y hy; simp [mtL] at hy
    | cons z L ih2 =>
      intro k y hy
      simp only [mtL,List.mem_cons] at hy
      rcases hy with rfl | hy
      ·exact ⟨z,by simp,rfl⟩
      ·obtain ⟨u,hu,he⟩:=ih2 _ y hy
       exact ⟨u,by simp [hu],he⟩
   rcases List.mem_append.1 hy with hy | hy
   ·obtain ⟨z,hz,he⟩:=hm _ _ _ hy
    have:=h.1 z (by simp [hz])
    rw [he] at this
    exact this
   ·exact h.1 y (by simp [hy])
theorem set_mid4 (A:List Mm) (ys C:List Value) (hy:ys.length=4) (i:Nat) (hi:i < 4) (u:Value):(A.flatMap cell4 ++ (ys ++ C)).set (A.length * 4 + i) u=A.flatMap cell4 ++ (ys.set i u ++ C):=by
 have hl:=cell4_len A
 rw [List.set_append_right _ _ (by omega),hl]
 have e:A.length * 4 + i - A.length * 4=i:=by omega
 rw [e,List.set_append_left _ _ (by omega)]
theorem kpG (w:World) (P i:Nat) (u:Value):Keeps (fun k=>k=P) w (w.setCell ⟨P,i,none⟩ u):=(Keeps.refl (fun k=>k=P) _).setCell (fun _=>rfl) _
theorem mt_step {w:World} {g cap:Nat} {A C:List Mm} {x:Mm} {n:Nat} {k:Int} (hn:n=(A ++ x :: C).length) (h:Mts w (.slice (some ⟨g,0,none⟩) n cap) (A ++ x :: C)) (hs:SepM (A ++ x :: C))
  {w4:World} (hk4:Keeps (fun j=>x.2.ownBlock=some j) (((w.setCell ⟨g,A.length * 4,none⟩ (.bool (markMt x.1 k).ok)).setCell ⟨g,A.length * 4 + 1,none⟩ (.int .i64 (markMt x.1 k).fr)).setCell ⟨g,A.length * 4 + 2,none⟩ (.int .i64 (markMt x.1 k).up)) w4)
  (hr4:w4.ownsRow 0 77 2 x.2 x.1.gs.length (flatR (markMt x.1 k).gs)) :
  Mts w4 (.slice (some ⟨g,0,none⟩) n cap) (A ++ (markMt x.1 k,x.2) :: C):=by
 subst hn
 have hsx :∀y,y∈A∨y∈C→∀j,y.2.ownBlock=some j→¬ x.2.ownBlock=some j:=by
  unfold SepM at hs
  rw [List.pairwise_append] at hs
  obtain ⟨_,h2,h3⟩:=hs
  rw [List.pairwise_cons] at h2
  rintro y (hy | hy)
  ·exact h3 y hy x (by simp)
  ·have:=h2.1 y hy
   exact fun j h1 h2=>this j h2 h1
 have tg :∀{w w':World} {xs:List Value},w.ownsRow 0 29 4 (.slice (some ⟨g,0,none⟩) (A ++ x :: C).length cap) (A ++ x :: C).length xs→Keeps (fun j=>j=g) w w'→∀y:Mm,SpR w y.2 y.1.gs→SpR w' y.2 y.1.gs:=by
  intro w w' xs hr hk y hy
  exact ownsRow_keeps hy hk (fun j hj e=>own_apart hy hr (by decide) hj (by rw [e]; rfl))
 have e0:(A ++ x :: C).flatMap cell4=A.flatMap cell4 ++ (cell4 x ++ C.flatMap cell4):=by simp
 have r0:=h.row
 rw [e0] at r0
 have r1:=(r0.stored (A.length * 4 + 0) (.bool (markMt x.1 k).ok)).1
 rw [set_mid4 A _ _ rfl 0 (by omega)] at r1
 simp only [Nat.add_zero] at r1
 have r2:=(r1.stored (A.length * 4 + 1) (.int .i64 (markMt x.1 k).fr)).1
 rw [set_mid4 A _ _ (by simp [cell4]) 1 (by omega)] at r2
 have r3:=(r2.stored (A.length * 4 + 2) (.int .i64 (markMt x.1 k).up)).1
 rw [set_mid4 A _ _ (by simp [cell4]) 2 (by omega)] at r3
 have o3 :∀y:Mm,SpR w y.2 y.1.gs→SpR _ y.2 y.1.gs:=fun y hy=>tg r2 (kpG _ g (A.length * 4 + 2) (.int .i64 (markMt x.1 k).up)) y (tg r1 (kpG _ g (A.length * 4 + 1) (.int .i64 (markMt x.1 k).fr)) y (tg r0 (kpG _ g (A.length * 4) (.bool (markMt x.1 k).ok)) y hy))
 have ox3:=o3 x (h.rows x (by simp))
 have r4:=ownsRow_keeps r3 hk4 (fun j hj hj'=>own_apart r3 ox3 (by decide) hj hj')
 refine ⟨?_,?_⟩
 ·have el:(A ++ (markMt x.1 k,x.2) :: C).length=(A ++ x :: C).length:=by simp
  rw [el]
  have e4:(A ++ (markMt x.1 k,x.2) :: C).flatMap cell4=A.flatMap cell4 ++ ((((cell4 x).set 0 (.bool (markMt x.1 k).ok)).set 1 (.int .i64 (markMt x.1 k).fr)).set 2 (.int .i64 (markMt x.1 k).up) ++ C.flatMap cell4):=by
   simp [cell4]
  rw [e4]
  exact r4
 ·intro y hy
  rw [List.mem_append,List.mem_cons] at hy
  have hoth :∀y,y∈A∨y∈C→SpR w4 y.2 y.1.gs:=fun y hy=>by
   have hy3:=o3 y (h.rows y (by simp; rcases hy with hy | hy; exact Or.inl hy; exact Or.inr (Or.inr hy)))
   exact ownsRow_keeps hy3 hk4 (fun j hj hj'=>hsx y hy j hj hj')
  rcases hy with hy | rfl | hy
  ·exact hoth y (Or.inl hy)
  ·have:(markMt x.1 k).gs.length=x.1.gs.length:=marksR_len _ _
   show w4.ownsRow 0 77 2 x.2 (markMt x.1 k).gs.length (flatR (markMt x.1 k).gs)
   rw [this]
   exact hr4
  ·exact hoth y (Or.inr hy)
def FootM (v:Value) (L:List Mm):Nat→Prop:=fun j=>v.ownBlock=some j∨∃x∈L,x.2.ownBlock=some j
set_option maxHeartbeats 2000000 in
theorem markMatchS_any {w:World} {v:Value} {L:List Mm} {k:Int} (h:Mts w v L) (hs:SepM L) (hS:SmallM L) (hk0:0≤k) (hkb:mtN L k≤1000000000000) :
  Calls Tryz.prog 12 #[v,.int .i64 k] w fun e w'=>e = .returned (.int .i64 (mtN L k))∧Mts w' v (mtL L k)∧Keeps (FootM v L) w w':=by
 by_cases hn:0 < L.length
 ·obtain ⟨g,cap,rfl,_,_,_,_⟩:=row_at h.row hn
  obtain ⟨hS1,hS2⟩:=hS
  go_enter Tryz.func12,Tryz.ntmps12
  go_wp2
  go_loopg [1,5] L.length (fun gz x i wr =>∃A B:List Mm,Aside (L=A ++ B)∧B.length≤gz∧i = .int .i64 (A.length:Nat)∧x = .int .i64 (mtN A k)∧Mts wr (.slice (some ⟨g,0,none⟩) L.length cap) (mtL A k ++ B)∧Keeps (FootM (.slice (some ⟨g,0,none⟩) L.length cap) L) w wr)
  case atStart=>exact ⟨[],L,rfl,Nat.le_refl _,rfl,rfl,h,Keeps.refl _ _⟩
  case round =>
   obtain ⟨A,B,hL,hgz,rfl,rfl,hP,hkp⟩:=hrel
   have hlen:L.length=A.length + B.length:=by rw [hL.out]; simp
   have hnk:mtN A k≤mtN L k:=by rw [hL.out,mtN_append]; exact mtN_ge _ _
   have hn0:k≤mtN A k:=mtN_ge _ _
   cases B with
   | nil =>
     have hA:L=A:=by have:=hL.out; simpa using this
     have HA:Hid (L=A):=hA
     clear hA
     have hz:¬ (A.length:Int) < (L.length:Int):=by simp at hlen; omega
     clear hlen
     go_wp2
     go_ret
     refine ⟨ret_int (by rw [HA.out]),?_,hkp⟩
     have e:mtL A k ++ []=mtL L k:=by rw [HA.out]; simp
     rw [← e]; exact hP
   | cons x C =>
     have hmem:x∈L:=by rw [hL.out]; simp
     have hnx:mtN A k + 1 + 1 + 1 + 2 * (x.1.gs.length:Int)≤1000000000000:=by
      have h1:mtN L k=mtN C (mtK x.1 (mtN A k)):=by rw [hL.out,mtN_append]; rfl
      have h2:=mtN_ge C (mtK x.1 (mtN A k))
      unfold mtK at h1 h2
      omega
     have hsm:=hS2 x hmem
     have hsep:SepM (mtL A k ++ x :: C):=sepM_part A (x :: C) k (by rw [← hL.out]; exact hs)
     have hll:L.length=(mtL A k ++ x :: C).length:=by rw [hlen]; simp [mtL_len]
     have hal:(mtL A k).length=A.length:=mtL_len A k
     have hP':Mts wr (.slice (some ⟨g,0,none⟩) (mtL A k ++ x :: C).length cap) (mtL A k ++ x :: C):=by rw [← hll]; exact hP
     have hlt:A.length < (mtL A k ++ x :: C).length:=by simp [hal]
     have hx:(mtL A k ++ x :: C)[A.length]'hlt=x:=by
      rw [List.getElem_append_right (by omega)]; simp [hal]
     have hc:=hP'.cells hlt
     rw [hx] at hc
     obtain ⟨a0,a1,a2,a3⟩:=hc
     have hf:=hP'.row.frozenAt
     have ox:=hP.rows x (by simp)
     have HLL:Hid (L.length=(mtL A k ++ x :: C).length):=hll
     have hjz:(A.length:Int) < (L.length:Int):=by simp at hlen; omega
     obtain ⟨c,sv⟩:=x
     simp only at a0 a1 a2 a3 hsm ox hnx
     unfold SpR at ox
     obtain ⟨ao1,cp1,rfl⟩:=own_form ox
     clear hlen hx hP' hll
     have hnb :∀i,(Value.slice ao1 c.gs.length cp1).ownBlock=some i→¬ i=g:=fun i hi e=>own_apart ox hP.row (by decide) hi (by rw [e]; rfl)
     have hkk:Keeps (fun j=>j=g) wr (((wr.setCell ⟨g,A.length * 4,none⟩ (.bool (markMt c (mtN A k)).ok)).setCell ⟨g,A.length * 4 + 1,none⟩ (.int .i64 (markMt c (mtN A k)).fr)).setCell ⟨g,A.length * 4 + 2,none⟩ (.int .i64 (markMt c (mtN A k)).up)):=((kpG _ _ _ _).trans (kpG _ _ _ _)).trans (kpG _ _ _ _)
     have o3:=ownsRow_keeps ox hkk hnb
     have hcall:=markSpanS_any (k:=mtN A k + 1 + 1 + 1) o3 hsm (by omega) (by omega)
     have HK:Hid (Keeps (fun j=>j=g) wr (((wr.setCell ⟨g,A.length * 4,none⟩ (.bool (markMt c (mtN A k)).ok)).setCell ⟨g,A.length * 4 + 1,none⟩ (.int .i64 (markMt c (mtN A k)).fr)).setCell ⟨g,A.length * 4 + 2,none⟩ (.int .i64 (markMt c (mtN A k)).up))):=hkk
     clear o3 hkk
     simp only [markMt] at hcall
     go_wp2_with (first
      | (go_at_call 35; refine hcall.mono ?_; rintro e w4 ⟨rfl,hr4,hk4⟩))
     go_roundg (gk - 1)
     case measure=>simp at hgz; omega
     case rel =>
      have hms:=mt_step (A:=mtL A k) (x:=(c,.slice ao1 c.gs.length cp1)) (C:=C) (n:=L.length) (k:=mtN A k) HLL.out hP hsep (by rw [hal]; exact hk4) hr4
      refine ⟨A ++ [(c,.slice ao1 c.gs.length cp1)],C,?_,by simp at hgz; omega,by simp,?_,?_,?_⟩
      ·show L = _
       rw [hL.out]; simp
      ·rw [mtN_append]; rfl
      ·rw [mtL_append,List.append_assoc]; exact hms
      ·exact hkp.trans (((HK.out).mono (fun j _ hj=>Or.inl (by rw [hj]; rfl))).trans (hk4.mono fun j _ hj=>Or.inr ⟨_,hmem,hj⟩))
 ·have hl0:L = []:=List.eq_nil_of_length_eq_zero (by omega)
  subst hl0
  have h':=h
  obtain ⟨a1,c1,rfl⟩:=own_form h.row
  clear h
  go_enter Tryz.func12,Tryz.ntmps12
  go_wp2
  refine wp_loop_rounds 1 ?_
  rw [rounds_succ]
  go_wp2
  go_ret
  exact ⟨rfl,h',Keeps.refl _ _⟩
set_option maxHeartbeats 2000000 in
theorem heldMatchS_any {w:World} {v:Value} {L:List Mm} {k:Int} (h:Mts w v (mtL L k)) (hS:SmallM L) (hk0:0≤k) (hkb:mtN L k≤1000000000000) :
  Calls Tryz.prog 13 #[v,.int .i64 k] w fun e w'=>e = .returned (.int .i64 (mtN L k))∧w'=w:=by
 have hml:=mtL_len L k
 by_cases hn:0 < L.length
 ·obtain ⟨g,cap,rfl,-,-,-,-⟩:=row_at h.row (by omega)
  obtain ⟨hS1,hS2⟩:=hS
  obtain ⟨N,hN⟩ :∃N,(mtL L k).length=N:=⟨_,rfl⟩
  have HN:Hid ((mtL L k).length=N):=hN
  have HNL:Hid (N=L.length):=hN.symm.trans hml
  rw [hN]
  clear hN hml
  have hNb:N≤10000000:=by rw [HNL.out]; exact hS1
  go_enter Tryz.func13,Tryz.ntmps13
  go_wp2
  go_loopg [1,5] N (fun gz x i wr =>∃A B:List Mm,Aside (L=A ++ B)∧B.length≤gz∧i = .int .i64 (A.length:Nat)∧x = .int .i64 (mtN A k)∧wr=w)
  case atStart=>exact ⟨[],L,rfl,by have:=HNL.out; omega,rfl,rfl,rfl⟩
  case round =>
   obtain ⟨A,B,hL,hgz,rfl,rfl,rfl⟩:=hrel
   have HLen:Hid (N=A.length + B.length):=by have:=HNL.out; show _ = _; rw [this,hL.out]; simp
   have hnk:mtN A k≤mtN L k:=by rw [hL.out,mtN_append]; exact mtN_ge _ _
   have hn0:k≤mtN A k:=mtN_ge _ _
   cases B with
   | nil =>
     have hA:L=A:=by have:=hL.out; simpa using this
     have HA:Hid (L=A):=hA
     have hz:¬ (A.length:Int) < (N:Int):=by have:=HLen.out; simp at this; omega
     clear hA
     go_wp2
     go_ret
     exact ⟨ret_int (by rw [HA.out]),rfl⟩
   | cons x C =>
     have hmem:x∈L:=by rw [hL.out]; simp
     have hsm:=hS2 x hmem
     have hnx:mtN A k + 1 + 1 + 1 + 2 * (x.1.gs.length:Int)≤1000000000000:=by
      have h1:mtN L k=mtN C (mtK x.1 (mtN A k)):=by rw [hL.out,mtN_append]; rfl
      have h2:=mtN_ge C (mtK x.1 (mtN A k))
      unfold mtK at h1 h2
      omega
     have hlt:A.length < (mtL L k).length:=by rw [HN.out]; have:=HLen.out; simp at this; omega
     have hx:(mtL L k)[A.length]'hlt=(markMt x.1 (mtN A k),x.2):=by
      have e1:mtL L k=mtL A k ++ (markMt x.1 (mtN A k),x.2) :: mtL C (mtK x.1 (mtN A k)):=by rw [hL.out,mtL_append]; rfl
      simp only [e1]
      rw [List.getElem_append_right (by rw [mtL_len]; omega)]
      simp [mtL_len]
     have hP':Mts wr (.slice (some ⟨g,0,none⟩) (mtL L k).length cap) (mtL L k):=h
     have hc:=hP'.cells hlt
     have ox:=h.rows _ (List.getElem_mem hlt)
     rw [hx] at hc ox
     obtain ⟨a0,a1,a2,a3⟩:=hc
     have hjz:(A.length:Int) < (N:Int):=by have:=HLen.out; simp at this; omega
     obtain ⟨c,sv⟩:=x
     simp only [markMt] at a0 a1 a2 a3
     simp only at hsm hnx
     unfold SpR at ox
     simp only [markMt,marksR_len] at ox
     obtain ⟨ao1,cp1,rfl⟩:=own_form ox
     have hnn:¬ (mtN A k + 1 + 1 + 1 + 2 * (c.gs.length:Int) < 0):=by omega
     clear hx hP' h
     go_wp2_with (first
      | (go_at_call 36; refine (heldSpanS_any (n:=c.gs.length) rfl (by simpa [marksR_len] using ox) (by simpa [marksR_len] using hsm) (by omega) (by omega)).mono ?_; rintro e w2 ⟨rfl,hw2⟩; subst w2))
     go_roundg (gk - 1)
     case measure=>simp at hgz; omega
     case rel =>
      refine ⟨A ++ [(c,.slice ao1 c.gs.length cp1)],C,?_,by simp at hgz; omega,by simp,?_,rfl⟩
      ·show L = _
       rw [hL.out]; simp
      ·rw [mtN_append]; rfl
 ·have hl0:L = []:=List.eq_nil_of_length_eq_zero (by omega)
  subst hl0
  obtain ⟨a1,c1,rfl⟩:=own_form h.row
  clear h hml
  go_enter Tryz.func13,Tryz.ntmps13
  go_wp2
  refine wp_loop_rounds 1 ?_
  rw [rounds_succ]
  go_wp2
  go_ret
  exact ⟨rfl,rfl⟩
end Go.Proofs.YtmlgmhnplicflabGreat
