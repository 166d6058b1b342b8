import Derived.Test.YthkmmeamplmnhaaGreatFa
import Derived.Deep.RegionHeld3
import Derived.Deep.Cut
import Derived.Deep.CutRange
import Derived.Deep.DeepCutAuto
import Derived.Deep.CutBlock
import Derived.Test.YthkmmeamplmnhaaGreatDc
import Derived.Test.YthkmmeamplmnhaaGreatNb
import Derived.Test.YthkmmeamplmnhaaGreatYs
import Derived.Test.YthkmmeamplmnhaaGreatIa
import Derived.ProofKit
import Derived.OpenShut
import Derived.Carry
namespace Go.Proofs.YthkmmeamplmnhaaGreat
open Go.RowKit
set_option linter.unusedVariables false
set_option maxRecDepth 100000
structure Got (w:World) (B:Nat) (v:Value) (L:List Mm) (X:Nat→List Value):Prop where
 row:w.ownsRow B 29 4 v L.length (L.flatMap cell4)
 rows :∀(j:Nat) (h:j < L.length),w.ownsRow B 31 2 (L[j]'h).2 (L[j]'h).1.gs.length (X j)
 sep:(L.filterMap fun x=>x.2.ownBlock).Nodup
def gotX (L:List Mm) (j:Nat):List Value:=flatR (((L.map (·.1))[j]?.map (·.gs)).getD [])
theorem gotX_at {L:List Mm} {j:Nat} (h:j < L.length):gotX L j=flatR (L[j]'h).1.gs:=by simp [gotX,h]
theorem Got.mts {w:World} {B:Nat} {v:Value} {L:List Mm} (h:Got w B v L (gotX L)):Mts w v L :=
 ⟨ownsRow_base h.row (fun _ _=>Nat.zero_le _),fun x hx=>by
  obtain ⟨j,hj,rfl⟩:=List.getElem_of_mem hx
  have:=h.rows j hj
  rw [gotX_at hj] at this
  exact ownsRow_base this (fun _ _=>Nat.zero_le _)⟩
theorem sep_ne {L:List Mm} (h:(L.filterMap fun x=>x.2.ownBlock).Nodup) :∀{i j:Nat} (hi:i < L.length) (hj:j < L.length) {k:Nat},i≠j→(L[i]'hi).2.ownBlock=some k→¬ (L[j]'hj).2.ownBlock=some k:=by
 induction L with
 | nil=>intro i j hi; simp at hi
 | cons x L ih =>
   intro i j hi hj k hne h1 h2
   have hd:(L.filterMap fun x=>x.2.ownBlock).Nodup:=by
    rw [List.filterMap_cons] at h
    split at h
    ·exact h
    ·exact (List.nodup_cons.1 h).2
   have hx :∀(m:Nat) (hm:m < L.length) (k:Nat),x.2.ownBlock=some k→¬ (L[m]'hm).2.ownBlock=some k:=by
    intro m hm k e1 e2
    rw [List.filterMap_cons,e1] at h
    refine (List.nodup_cons.1 h).1 (List.mem_filterMap.2 ⟨L[m],List.getElem_mem hm,e2⟩)
   cases i with
   | zero =>
     cases j with
     | zero=>exact hne rfl
     | succ j=>exact hx j (by simpa using hj) k (by simpa using h1) (by simpa using h2)
   | succ i =>
     cases j with
     | zero=>exact hx i (by simpa using hi) k (by simpa using h2) (by simpa using h1)
     | succ j=>exact ih hd (by simpa using hi) (by simpa using hj) (by omega) (by simpa using h1) (by simpa using h2)
theorem Got.touch {w w':World} {B i:Nat} {v:Value} {L:List Mm} {X:Nat→List Value} (h:Got w B v L X) (hi:i < L.length) (k:Keeps (fun k=>(L[i]'hi).2.ownBlock=some k) w w') {xs:List Value} (hr:w'.ownsRow B 31 2 (L[i]'hi).2 (L[i]'hi).1.gs.length xs):Got w' B v L (fun j=>if j=i then xs else X j):=by
 refine ⟨ownsRow_keeps h.row k (fun b hb hn=>?_),fun j hj=>?_,h.sep⟩
 ·obtain ⟨c1,g1⟩:=own_block h.row hb
  exact own_not_at (h.rows i hi) g1 (by decide) hn
 ·by_cases e:j=i
  ·subst e
   rw [if_pos rfl]
   exact hr
  ·rw [if_neg e]
   exact ownsRow_keeps (h.rows j hj) k (fun b hb hn=>sep_ne h.sep hj hi e hb hn)
theorem Got.same {w w':World} {B:Nat} {v:Value} {L:List Mm} {X:Nat→List Value} (h:Got w B v L X) (k:Keeps (fun _=>False) w w'):Got w' B v L X :=
 ⟨ownsRow_keeps h.row k (fun _ _ h=>h),fun j hj=>ownsRow_keeps (h.rows j hj) k (fun _ _ h=>h),h.sep⟩
theorem Got.keepX {w:World} {B:Nat} {v:Value} {L:List Mm} {X Y:Nat→List Value} (h:Got w B v L X) (e :∀j,j < L.length→X j=Y j):Got w B v L Y :=
 ⟨h.row,fun j hj=>by rw [← e j hj]; exact h.rows j hj,h.sep⟩
theorem Got.cells {w:World} {B g cap:Nat} {L:List Mm} {X:Nat→List Value} (h:Got w B (.slice (some ⟨g,0,none⟩) L.length cap) L X) {j:Nat} (hj:j < L.length):w.cell? ⟨g,j * 4 + 3,none⟩=some (L[j]'hj).2:=by
 rw [h.row.cellAt (j * 4 + 3) (by omega)]
 exact cell4_at L j 3 hj (by omega)
theorem app_spare {w:World} {B:Nat} {v:Value} {gs:List (Int×Int)} (h:w.ownsRow B 31 2 v gs.length (flatR gs)) (hb:B≤w.heap.size) (hl:gs.length≤1000) (x y:Int) :
  ∃ao c w',Sem.run Tryz.prog (Builtin.append_ #[27,27] 27 #[v,.slice (some ⟨w.heap.size,0,none⟩) 1 1]) (w.alloc (.cells #[.int .i64 x,.int .i64 y] 31)) = .ok (.slice ao (gs.length + 1) c) w'∧w'.ownsRow B 31 2 v gs.length (flatR gs)∧Keeps (fun k=>v.ownBlock=some k) w w':=by
 obtain ⟨i0,hi,hz0,hz1,hz2⟩:=info_parts Tryz.infoSpan3
 have h':=h.alloc (.cells #[.int .i64 x,.int .i64 y] 31)
 have hnew:=cells_new w 31 [.int .i64 x,.int .i64 y]
 have hone :∀u∈[Value.int .i64 x,Value.int .i64 y],u.oneCell'=true:=by intro u hu; simp at hu; rcases hu with rfl | rfl <;> rfl
 have kA:Keeps (fun k=>v.ownBlock=some k) w (w.alloc (.cells #[.int .i64 x,.int .i64 y] 31)):=(Keeps.refl _ w).alloc _
 have hh:=h'
 obtain ⟨hlen,⟨rfl,hn0⟩ | ⟨g,cap,cur,rfl,hg,hhp,hcap,hmx,hcs,htk⟩⟩:=hh
 ·have hgs:gs = []:=List.eq_nil_of_length_eq_zero hn0
  subst hgs
  obtain ⟨v',w',hr,ho,hgr,_⟩:=run_append_own (P:=Tryz.prog) (w.alloc (.cells #[.int .i64 x,.int .i64 y] 31)) (w.alloc (.cells #[.int .i64 x,.int .i64 y] 31)).heap.size 27 27 31 i0 _ 2 16 Tryz.underlying27 hi hz0 hz1 hz2 rfl (by decide) (.slice none 0 0) 0 [] (World.ownsRow_nil _ _ _ 2) ⟨w.heap.size,0,none⟩ 1 1 [.int .i64 x,.int .i64 y] rfl hnew hone (by unfold maxLen; omega) (by omega) (Nat.le_refl _)
  obtain ⟨ao,c,rfl⟩:=own_form ho
  exact ⟨ao,c,w',hr,World.ownsRow_nil _ _ _ _,kA.grown hgr (fun k hk _=>by simp [Value.ownBlock] at hk)⟩
 ·by_cases hr:gs.length + 1≤cap
  ·obtain ⟨w',hrun,ho,hgr⟩:=run_append_fits (P:=Tryz.prog) (w.alloc (.cells #[.int .i64 x,.int .i64 y] 31)) B 27 27 31 i0 2 Tryz.underlying27 hi hz1 g gs.length cap (flatR gs) h' ⟨w.heap.size,0,none⟩ 1 1 [.int .i64 x,.int .i64 y] rfl hnew hone hr
   refine ⟨_,_,w',hrun,?_,kA.grown hgr (fun k hk _=>hk)⟩
   obtain ⟨hl2,⟨e,_⟩ | ⟨g2,cap2,cur2,e,hg2,hhp2,hcap2,hmx2,hcs2,htk2⟩⟩:=ho
   ·simp at e
   ·simp only [Value.slice.injEq,Option.some.injEq,Addr.mk.injEq,and_true,true_and] at e
    obtain ⟨rfl,rfl⟩:=e
    refine ⟨hlen,Or.inr ⟨g,cap,cur2,rfl,hg2,hhp2,by omega,hmx2,hcs2,?_⟩⟩
    have e2:(cur2.toList.take ((gs.length + 1) * 2)).take (gs.length * 2)=flatR gs:=by
     rw [htk2,List.take_append_of_le_length (by omega),List.take_of_length_le (by omega)]
    rw [List.take_take] at e2
    rw [← e2]
    congr 1
    omega
  ·obtain ⟨v',w',hrun,ho,hgr⟩:=run_append_arg_grows (P:=Tryz.prog) (w.alloc (.cells #[.int .i64 x,.int .i64 y] 31)) 27 27 31 i0 _ 2 16 Tryz.underlying27 hi hz0 hz1 hz2 rfl (by decide) ⟨g,0,none⟩ gs.length cap (flatR gs) hlen (h'.cells rfl) ⟨w.heap.size,0,none⟩ 1 1 [.int .i64 x,.int .i64 y] rfl hnew (by omega) (by unfold maxLen; omega) (by omega)
   obtain ⟨ao,c,rfl⟩:=own_form ho
   have kG:Keeps (fun _=>False) w w':=((Keeps.refl _ w).alloc _).grown hgr (fun k hk _=>by simp at hk)
   exact ⟨ao,c,w',hrun,ownsRow_keeps h kG (fun _ _ h=>h),kG.mono (fun _ _ h=>h.elim)⟩
def GotP (l:List Mt) (w:World) (e:Ending) (w':World):Prop :=
 ∃(ao:Option Addr) (n c:Nat) (L:List Mm),e = .returned (.slice ao n c)∧L.map (·.1)=l∧Got w' w.heap.size (.slice ao n c) L (gotX L)∧Keeps (fun _=>False) w w'
def WantP (l:List Mt) (w:World) (e:Ending) (w':World):Prop :=
 ∃(ao:Option Addr) (n c:Nat) (L:List Mm),e = .returned (.slice ao n c)∧L.map (·.1)=l∧Mts w' (.slice ao n c) L∧Keeps (fun _=>False) w w'
set_option maxHeartbeats 1000000 in
theorem law_top {w:World} {ao:Option Addr} {cap n:Nat} (hn:n≤1048576) {A:ByteArray→ByteArray→List Mt} {PI PS:ByteArray→World→Value→Prop}
  (hdr:Calls Tryz.prog 8 #[.slice ao n cap] w fun e w' =>∃s t:ByteArray,e = .returned (.tuple #[.string s,.string t])∧s.size≤120∧t.size≤14∧Keeps (fun _=>False) w w')
  (hsA :∀s t w,s.size≤120→t.size≤14→Calls Tryz.prog 9 #[.string s,.string t] w (WantP (A s t) w))
  (hiA :∀s t w,Calls Tryz.prog 10 #[.string s,.string t] w (GotP (A s t) w))
  (hiC :∀s t w,Calls Tryz.prog 12 #[.string s,.string t] w (fun e w'=>e = .returned (.int .i64 ((A s t).length:Int))∧Keeps (fun _=>False) w w'))
  (hAs :∀s t,t.size≤14→(A s t).length≤100∧∀m∈A s t,m.gs.length≤9)
  (hiR :∀s w,s.size≤120→Calls Tryz.prog 14 #[.string s] w (fun e w' =>∃v,e = .returned v∧PI s w' v∧Keeps (fun _=>False) w w'))
  (hsR :∀s w,s.size≤120→Calls Tryz.prog 15 #[.string s] w (fun e w' =>∃v,e = .returned v∧PS s w' v∧Keeps (fun _=>False) w w'))
  (hPI :∀s w w' v,PI s w v→Keeps (fun _=>False) w w'→PI s w' v)
  (hwP :∀s w v1 v2,PI s w v1→PS s w v2→Calls Tryz.prog 13 #[v1,v2] w fun e w'=>e = .returned (.bool true)∧Keeps (fun _=>False) w w') :
  Calls Tryz.prog 3 #[.slice ao n cap] w fun e w'=>e = .returned (.bool true)∧Keeps (fun _=>False) w w':=by
 have hnz:(n:Int)≤1048576:=by omega
 have HsA:Hid _:=hsA
 have HiA:Hid _:=hiA
 have HiC:Hid _:=hiC
 have HAs:Hid _:=hAs
 have HiR:Hid _:=hiR
 have HsR:Hid _:=hsR
 have HPI:Hid _:=hPI
 have HwP:Hid _:=hwP
 clear hsA hiA hiC hAs hiR hsR hPI hwP
 go_enter Tryz.func3,Tryz.ntmps3
 go_upto_region 5 with (first
  | (go_at_call 8; refine hdr.mono ?_; clear hdr; rintro e w1 ⟨s,t,rfl,hs,ht,hk1⟩; have hsA:=HsA.out s t w1 hs ht)
  | (go_at_call 9; refine hsA.mono ?_; clear hsA; rintro e w2 ⟨a2,n2,c2,L2,rfl,hL2,hM2,hk2⟩))
 obtain ⟨hlA,hgA⟩:=HAs.out s t ht
 have HiA2:=HiA.out s t
 have HiC2:=HiC.out s t
 have HiR2:=fun w=>HiR.out s w hs
 have HsR2:=fun w=>HsR.out s w hs
 have HPI2:=HPI.out s
 have HwP2:=HwP.out s
 clear HsA HiA HiC HAs HiR HsR HPI HwP
 generalize A s t=l at hlA hgA HiA2 HiC2 hL2
 obtain ⟨N,hN⟩ :∃N,l.length=N:=⟨_,rfl⟩
 have hl2:n2=N:=by
  obtain ⟨a',c',hv⟩:=own_form hM2.row
  cases hv
  rw [← hN,← hL2,List.length_map]
 subst hl2
 simp only [hN] at HiC2 hlA
 have hn100:(n2:Int)≤100:=by omega
 have HiA3:Hid _:=HiA2
 have HiC3:Hid _:=HiC2
 have HiR3:Hid _:=HiR2
 have HsR3:Hid _:=HsR2
 have HPI3:Hid _:=HPI2
 have HwP3:Hid _:=HwP2
 have HM2:Hid (Mts w2 (.slice a2 n2 c2) L2):=hM2
 have HL2:Hid (L2.map (·.1)=l):=hL2
 have HN:Hid (l.length=n2):=hN
 have HGA:Hid _:=hgA
 have HK2:Hid (Keeps (fun _=>False) w w2):=hk1.trans hk2
 clear HiA2 HiC2 HiR2 HsR2 HPI2 HwP2 hM2 hL2 hN hgA hk1 hk2
 go_wp2_with fail
 go_loopg [6] 3 (fun gl s6 wr =>∃k:Nat,k + gl=3∧k≤2∧s6 = .int .i64 (k:Int)∧Hid (Keeps (fun _=>False) w2 wr))
 case atStart=>exact ⟨0,by omega,by omega,rfl,Keeps.refl _ _⟩
 case round =>
  obtain ⟨k,hgl,hk,rfl,HKr⟩:=hrel
  have HG:Hid (k + gk=3):=hgl
  clear hgl
  by_cases hlt:k < 2
  ·have hkz:(k:Int) < 2:=by omega
   have hiA:=HiA3.out wr
   go_upto_region 9 with (go_at_call 10; refine hiA.mono ?_; clear hiA; rintro e w3 ⟨a3,n3,c3,L3,rfl,hL3,hG3,hk3⟩)
   have hlen3:L3.length=n2:=by rw [← HN.out,← hL3,List.length_map]
   have hl3:n3=n2:=by
    obtain ⟨a',c',hv⟩:=own_form hG3.row
    cases hv
    exact hlen3
   subst hl3
   obtain ⟨B,hB⟩ :∃B,wr.heap.size=B:=⟨_,rfl⟩
   rw [hB] at hG3
   have hB3:B≤w3.heap.size:=by rw [← hB]; exact hk3.size
   have HB:Hid (wr.heap.size=B):=hB
   have HB3:Hid (B≤w3.heap.size):=hB3
   have HL3:Hid (L3.map (·.1)=l):=hL3
   have HLn:Hid (L3.length=n3):=hlen3
   have HG3:Hid (Got w3 B (.slice a3 n3 c3) L3 (gotX L3)):=hG3
   have HK3:Hid (Keeps (fun _=>False) wr w3):=hk3
   clear hB hB3 hL3 hlen3 hG3 hk3
   obtain ⟨wo,rfl⟩ :∃wo:World,wo=wr:=⟨_,rfl⟩
   have HGo:=HG
   obtain ⟨go,rfl⟩ :∃go:Nat,go=gk:=⟨_,rfl⟩
   go_wp2_with fail
   go_loopg [32] (n3 + 1) (fun gl s32 wi =>∃j:Nat,j + gl=n3 + 1∧j≤n3∧s32 = .int .i64 (j:Int)∧Hid (Got wi B (.slice a3 n3 c3) L3 (gotX L3)∧Keeps (fun k=>B≤k) w3 wi))
   case atStart=>exact ⟨0,by omega,by omega,rfl,HG3.out,Keeps.refl _ _⟩
   case round =>
    obtain ⟨j,hgl,hj,rfl,HI⟩:=hrel
    have HGj:Hid (j + gk=n3 + 1):=hgl
    clear hgl
    by_cases hjl:j < n3
    ·have hjz:(j:Int) < (n3:Int):=by omega
     have hjL:j < L3.length:=by rw [HLn.out]; exact hjl
     obtain ⟨g3,rfl⟩ :∃g3,a3=some ⟨g3,0,none⟩:=by
      obtain ⟨g,cp,hv,-⟩:=row_at HI.out.1.row (by omega)
      cases hv
      exact ⟨g,rfl⟩
     have x3:wr.cell? ⟨g3,j * 4 + 3,none⟩=some (L3[j]'hjL).2:=by
      have:=HI.out.1
      rw [← HLn.out] at this
      exact this.cells hjL
     have hrw:=HI.out.1.rows j hjL
     rw [gotX_at hjL] at hrw
     have hg9:(L3[j]'hjL).1.gs.length≤9:=HGA.out _ (by rw [← HL3.out]; exact List.mem_map_of_mem (List.getElem_mem hjL))
     obtain ⟨ax,cx,hx⟩:=own_form hrw
     have hBw:B≤wr.heap.size:=Nat.le_trans HB3.out HI.out.2.size
     obtain ⟨av,cv,w5,hrun,hrw5,hk5⟩:=app_spare hrw hBw (by omega) 77 0
     have HI2:Hid (Got w5 B (.slice (some ⟨g3,0,none⟩) n3 c3) L3 (gotX L3)∧Keeps (fun k=>B≤k) w3 w5):=by
      refine ⟨(HI.out.1.touch hjL hk5 hrw5).keepX (fun i hi=>?_),HI.out.2.trans (hk5.mono fun b _ hb=>(hrw.lt b hb).1)⟩
      by_cases e:i=j
      ·subst e; simp [gotX_at hi]
      ·simp [e]
     rw [hx] at x3 hrun
     generalize (L3[j]'hjL).1.gs.length=ng at hg9 x3 hrun
     have hne:((ng:Int) + 1 == 0)=false:=by simp; omega
     clear hrw hx hrw5 hk5 HI hBw hjL
     go_wp2_with (refine wpList_append_run rfl _ _ _ _ rfl rfl _ _ _ _ rfl rfl hrun ?_)
     go_roundg (gk - 1)
     case measure=>have:=HGj.out; omega
     case rel=>exact ⟨j + 1,by have:=HGj.out; omega,by omega,congrArg (Value.int .i64) (by omega),HI2⟩
    ·have hjz:¬ (j:Int) < (n3:Int):=by omega
     clear HGj
     obtain ⟨w4,rfl⟩ :∃w4:World,w4=wr:=⟨_,rfl⟩
     have HKw:Hid (∀wx,Keeps (fun k=>B≤k) w3 wx→Keeps (fun _=>False) w2 wx):=fun wx hx=>(HKr.out.trans HK3.out).trans' hx (fun i hi h=>by have h1:=HKr.out.size; have h2:=HB.out; omega)
     have HMw:Hid (Mts w4 (.slice a2 n3 c2) L2):=HM2.out.same (HKw.out _ HI.out.2)
     have HMg:Hid (Mts w4 (.slice a3 n3 c3) L3):=HI.out.1.mts
     have HSm:Hid (SmallM L3):=⟨by have:=HLn.out; omega,fun x hx=>by have:=HGA.out x.1 (by rw [← HL3.out]; exact List.mem_map_of_mem hx); omega⟩
     have HE:Hid (L3.map (·.1)=L2.map (·.1)):=HL3.out.trans HL2.out.symm
     have hne:((n3:Int) != (n3:Int))=false:=by simp
     go_upto_region 18 with (first
      | (go_at_call 11; refine (wMatches_same HMg.out HMw.out HE.out HSm.out).mono ?_; rintro e w5 ⟨rfl,hk5⟩)
      | (go_at_call 12; refine (HiC3.out _).mono ?_; rintro e w6 ⟨rfl,hk6⟩))
     have HI6:Hid (∃X,Got w6 B (.slice a3 n3 c3) L3 X∧Keeps (fun k=>B≤k) w3 w6):=⟨_,HI.out.1.same (hk5.trans hk6),HI.out.2.trans ((hk5.trans hk6).mono (fun _ _ h=>h.elim))⟩
     clear HI HMw HMg HSm HE hk5 hk6 hne
     go_wp2_with fail
     go_loopg [61] (n3 + 1) (fun gl s61 wi =>∃j:Nat,j + gl=n3 + 1∧j≤n3∧s61 = .int .i64 (j:Int)∧Hid (∃X,Got wi B (.slice a3 n3 c3) L3 X∧Keeps (fun k=>B≤k) w3 wi))
     case atStart=>exact ⟨0,by omega,by omega,rfl,HI6⟩
     case round =>
      clear HI6 hjz hjl hj
      obtain ⟨j,hgl,hj,rfl,HI⟩:=hrel
      have HGj:Hid (j + gk=n3 + 1):=hgl
      clear hgl
      by_cases hjl:j < n3
      ·have hjz:(j:Int) < (n3:Int):=by omega
       have hjL:j < L3.length:=by rw [HLn.out]; exact hjl
       obtain ⟨X,hGt,hKt⟩:=HI.out
       obtain ⟨g3,rfl⟩ :∃g3,a3=some ⟨g3,0,none⟩:=by
        obtain ⟨g,cp,hv,-⟩:=row_at hGt.row (by omega)
        cases hv
        exact ⟨g,rfl⟩
       have HX3:Hid (∀(wx:World) X,Got wx B (.slice (some ⟨g3,0,none⟩) n3 c3) L3 X→wx.cell? ⟨g3,j * 4 + 3,none⟩=some (L3[j]'hjL).2):=fun wx X h=>by
        rw [← HLn.out] at h
        exact h.cells hjL
       have x3:=HX3.out _ _ hGt
       have hg9:(L3[j]'hjL).1.gs.length≤9:=HGA.out _ (by rw [← HL3.out]; exact List.mem_map_of_mem (List.getElem_mem hjL))
       obtain ⟨ax,cx,hx⟩:=own_form (hGt.rows j hjL)
       have HR3:Hid (∀(wx:World) X,Got wx B (.slice (some ⟨g3,0,none⟩) n3 c3) L3 X→wx.ownsRow B 31 2 (L3[j]'hjL).2 (L3[j]'hjL).1.gs.length (X j)):=fun wx X h=>h.rows j hjL
       have HT3:Hid (∀(wx wy:World) X xs,Got wx B (.slice (some ⟨g3,0,none⟩) n3 c3) L3 X→Keeps (fun k=>(L3[j]'hjL).2.ownBlock=some k) wx wy→wy.ownsRow B 31 2 (L3[j]'hjL).2 (L3[j]'hjL).1.gs.length xs→∃X,Got wy B (.slice (some ⟨g3,0,none⟩) n3 c3) L3 X):=fun wx wy X xs h k hr=>⟨_,h.touch hjL k hr⟩
       rw [hx] at x3 HX3 HR3 HT3
       generalize (L3[j]'hjL).1.gs.length=ng at hg9 x3 HX3 HR3 HT3
       clear hx hGt hKt hjL
       have hgz:(ng:Int)≤9:=by omega
       go_wp2_with fail
       obtain ⟨w7,rfl⟩ :∃w7:World,w7=wr:=⟨_,rfl⟩
       obtain ⟨gj,rfl⟩ :∃gj:Nat,gj=gk:=⟨_,rfl⟩
       go_loopg [70] (ng + 1) (fun gl s70 wi =>∃m:Nat,m + gl=ng + 1∧m≤ng∧s70 = .int .i64 (m:Int)∧Hid (∃X,Got wi B (.slice (some ⟨g3,0,none⟩) n3 c3) L3 X∧Keeps (fun k=>B≤k) w3 wi))
       case atStart=>exact ⟨0,by omega,by omega,rfl,HI⟩
       case round =>
        clear HI x3
        obtain ⟨m,hgl,hm,rfl,HI⟩:=hrel
        have HGm:Hid (m + gk=ng + 1):=hgl
        clear hgl
        by_cases hml:m < ng
        ·have hmz:(m:Int) < (ng:Int):=by omega
         obtain ⟨X,hGt,hKt⟩:=HI.out
         have x3:=HX3.out _ _ hGt
         have hrow:=HR3.out _ _ hGt
         obtain ⟨gx,rfl⟩ :∃gx,ax=some ⟨gx,0,none⟩:=by
          obtain ⟨g,cp,hv,-⟩:=row_at hrow (by omega)
          cases hv
          exact ⟨g,rfl⟩
         have hxl:=hrow.1
         have c1 :∃u,wr.cell? ⟨gx,m * 2,none⟩=some u:=by
          rw [hrow.cellAt _ (by omega)]
          exact ⟨_,List.getElem?_eq_getElem (by omega)⟩
         have c2 :∃u,wr.cell? ⟨gx,m * 2 + 1,none⟩=some u:=by
          rw [hrow.cellAt _ (by omega)]
          exact ⟨_,List.getElem?_eq_getElem (by omega)⟩
         obtain ⟨u1,c1⟩:=c1
         obtain ⟨u2,c2⟩:=c2
         have f1:=hrow.frozenAt (m * 2)
         have f2:=hrow.frozenAt (m * 2 + 1)
         have hst:=(hrow.stored (m * 2) (.int .i64 77)).1.stored (m * 2 + 1) (.int .i64 0)
         have kS:Keeps (fun k=>k=gx) wr ((wr.setCell ⟨gx,m * 2,none⟩ (.int .i64 77)).setCell ⟨gx,m * 2 + 1,none⟩ (.int .i64 0)):=((Keeps.refl (fun k=>k=gx) wr).setCell (a:=⟨gx,m * 2,none⟩) (fun _=>rfl) _).setCell (a:=⟨gx,m * 2 + 1,none⟩) (fun _=>rfl) _
         have HI2:Hid (∃X,Got ((wr.setCell ⟨gx,m * 2,none⟩ (.int .i64 77)).setCell ⟨gx,m * 2 + 1,none⟩ (.int .i64 0)) B (.slice (some ⟨g3,0,none⟩) n3 c3) L3 X∧Keeps (fun k=>B≤k) w3 ((wr.setCell ⟨gx,m * 2,none⟩ (.int .i64 77)).setCell ⟨gx,m * 2 + 1,none⟩ (.int .i64 0))):=by
          obtain ⟨X',hX'⟩:=HT3.out _ _ _ _ hGt (kS.mono (fun i _ e=>by simp [Value.ownBlock,e])) hst.1
          refine ⟨X',hX',hKt.trans (kS.mono (fun i _ e=>?_))⟩
          subst e
          exact (hrow.lt i (by simp [Value.ownBlock])).1
         clear hGt hKt hrow hst kS hxl HI
         go_wp2_with fail
         go_roundg (gk - 1)
         case measure=>have:=HGm.out; omega
         case rel=>exact ⟨m + 1,by have:=HGm.out; omega,by omega,congrArg (Value.int .i64) (by omega),HI2⟩
        ·have hmz:¬ (m:Int) < (ng:Int):=by omega
         go_wp2_with fail
         go_roundg (gj - 1)
         case measure=>have:=HGj.out; omega
         case rel=>exact ⟨j + 1,by have:=HGj.out; omega,by omega,congrArg (Value.int .i64) (by omega),HI⟩
      ·have hjz:¬ (j:Int) < (n3:Int):=by omega
       go_wp2_with fail
       go_roundg (go - 1)
       case measure=>have:=HGo.out; omega
       case rel =>
        obtain ⟨X,hGt,hKt⟩:=HI.out
        exact ⟨k + 1,by have:=HGo.out; omega,by omega,congrArg (Value.int .i64) (by omega),HKw.out _ hKt⟩
  ·have hkz:¬ (k:Int) < 2:=by omega
   go_wp2_with (first
    | (go_at_call 14; refine (HiR3.out _).mono ?_; rintro e w7 ⟨v7,rfl,hv7,hk7⟩)
    | (go_at_call 15; refine (HsR3.out _).mono ?_; rintro e w8 ⟨v8,rfl,hv8,hk8⟩)
    | (go_at_call 13; refine (HwP3.out _ _ _ (HPI3.out _ _ _ hv7 hk8) hv8).mono ?_; rintro e w9 ⟨rfl,hk9⟩))
   go_ret
   exact ⟨rfl,(((HK2.out.trans HKr.out).trans hk7).trans hk8).trans hk9⟩
end Go.Proofs.YthkmmeamplmnhaaGreat
namespace Go.Proofs.YthkmmeamplmnhaaGreat
open Go.RowKit
set_option linter.unusedVariables false
theorem got_of {w:World} {B:Nat} {v:Value} {L:List Mm} {F:Bs2} (h1:w.ownsRow B 29 4 v L.length (L.flatMap cell4)) (h2:MwI B w F L):Got w B v L (gotX L) :=
 ⟨h1,fun j h=>by rw [gotX_at h]; exact (h2.rows _ (List.getElem_mem h)).1,h2.sep⟩
theorem all_got {w:World} {s u:ByteArray}:Calls Tryz.prog 10 #[.string s,.string u] w (GotP (allRef s u) w):=by
 refine iall_any.mono ?_
 rintro e w' ⟨ao,n,c,L,rfl,h1,h2,h3,h4⟩
 exact ⟨ao,n,c,L,rfl,h1,got_of h2 h3,h4⟩
theorem all_few (s u:ByteArray):(allRef s u).length≤u.size + 1∧∀m∈allRef s u,m.gs.length≤9 :=
 ⟨by have:=allL_len (s:=s) (u:=u) (u.size + 2) 0 (by omega); unfold allRef; omega,fun m hm=>allL_mem _ _ hm⟩
def PatV (s:ByteArray) (w:World) (v:Value):Prop :=
 ∃x L,v = .agg #[.bool (rOk (readRef s)),.int .i64 (rAt (readRef s)),.int .i64 (rGr (readRef s)),x]∧Pcs w x L∧L.map (·.1)=rPs (readRef s)
def PatI (s:ByteArray) (w:World) (v:Value):Prop:=PatV s w v∧SmallF (rPs (readRef s))
theorem PatV.same {s:ByteArray} {w w':World} {v:Value} (h:PatV s w v) (k:Keeps (fun _=>False) w w'):PatV s w' v:=by
 obtain ⟨x,L,h1,h2,h3⟩:=h
 exact ⟨x,L,h1,h2.same k,h3⟩
theorem read_i {s:ByteArray} {w:World}:Calls Tryz.prog 14 #[.string s] w (fun e w' =>∃v,e = .returned v∧PatI s w' v∧Keeps (fun _=>False) w w'):=by
 refine (impl_all rfl).mono ?_
 rintro e w' ⟨v,L,rfl,h1,h2,h3,h4⟩
 refine ⟨_,rfl,⟨⟨v,L,rfl,⟨ownsRow_base h1.row (fun _ _=>Nat.zero_le _),h1.rows⟩,h2⟩,?_⟩,h4⟩
 rw [← h2]
 refine ⟨by simp; omega,fun x hx=>?_⟩
 obtain ⟨y,hy,rfl⟩:=List.mem_map.1 hx
 have:=h3.2 y hy
 omega
theorem read_s {s:ByteArray} {w:World} (hs:s.size≤120):Calls Tryz.prog 15 #[.string s] w (fun e w' =>∃v,e = .returned v∧PatV s w' v∧Keeps (fun _=>False) w w'):=by
 refine (spec_all rfl (by omega)).mono ?_
 rintro e w' ⟨v,L,rfl,h1,h2,h4⟩
 exact ⟨_,rfl,⟨v,L,rfl,h1,h2⟩,h4⟩
theorem pat_same {s:ByteArray} {w:World} {v1 v2:Value} (h1:PatI s w v1) (h2:PatV s w v2):Calls Tryz.prog 13 #[v1,v2] w fun e w'=>e = .returned (.bool true)∧Keeps (fun _=>False) w w':=by
 obtain ⟨⟨x1,L1,rfl,a1,b1⟩,c1⟩:=h1
 obtain ⟨x2,L2,rfl,a2,b2⟩:=h2
 exact wPattern_same a1 a2 (b1.trans b2.symm) (by rw [b1]; exact c1)
theorem law_tops {w:World} {ao:Option Addr} {cap:Nat} {cs:List Nat} (hc:Dc w ao cs) (hb :∀a,ao=some a→a.block < w.heap.size) (hn:cs.length≤1048576) :
  Calls Tryz.prog 3 #[.slice ao cs.length cap] w fun e w'=>e = .returned (.bool true)∧Keeps (fun _=>False) w w' :=
 law_top hn (A:=allRef) (PI:=PatI) (PS:=PatV) (drawn_any hn hc hb) (fun s t w hs ht=>sall_any (by omega) (by omega)) (fun s t w=>all_got) (fun s t w=>icount_any) (fun s t ht=>⟨by have:=(all_few s t).1; omega,(all_few s t).2⟩) (fun s w hs=>read_i) (fun s w hs=>read_s hs) (fun s w w' v h k=>⟨h.1.same k,h.2⟩) (fun s w v1 v2=>pat_same)
end Go.Proofs.YthkmmeamplmnhaaGreat
namespace Go.Proofs.YthkmmeamplmnhaaGreat.fnTop
open Go.ChangeShapes Go.WideShapes Go.ChangeAt Go.RowKit
set_option linter.unusedVariables false
theorem own:ownKnob Tryz.prog.godebug=none:=by kernel_rfl
theorem laidOut:laidOutB Tryz.prog=true:=by kernel_rfl
theorem cells1:Tryz.prog.cellsOf 5=1:=by kernel_rfl
def Ar (W:World) (v:Value):Prop :=∃(ao:Option Addr) (cap:Nat) (cs:List Nat),v = .slice ao cs.length cap∧cs.length≤9223372036854775807∧Dc W ao cs∧∀a,ao=some a→a.block < W.heap.size
theorem has_lt {W:World} {base:Nat} {a:Addr} {e:TypeId} {n:Nat} (h:W.has Tryz.prog .any base a e n):a.block < W.heap.size:=by
 unfold World.has at h
 apply Decidable.byContradiction
 intro hn
 have:W.heap[a.block]? = none:=Array.getElem?_eq_none (by omega)
 simp [World.shape?,this] at h
set_option maxRecDepth 100000 in
theorem open_arg {H:Type} {enc:TypeId×Value→H} {W:World} {base:Nat} {v:Value} {d:DataW H} {p:List MemPlace} (hv:Value.okWide Tryz.prog W .any base 22 v) (h:DataW.Trod enc Tryz.prog W 0 (fun _=>true) true 22 v d p):Ar W v:=by
 obtain ⟨fuel,hf⟩:=h
 obtain ⟨a0,len,cap,rfl⟩:=okWide_slice Tryz.underlying22 hv
 rcases open_ints Tryz.underlying22 Tryz.underlying5 cells1 hf with ⟨hcs,hx⟩ | ⟨a,len',cap',zs,hcs,_,hl,hm,hz,hx,hcell,hwz⟩
 ·simp [Value.cells] at hcs
  obtain ⟨rfl,rfl,rfl⟩:=hcs
  exact ⟨none,0,[],rfl,by simp,⟨by simp,by simp⟩,fun a h=>by cases h⟩
 ·simp [Value.cells] at hcs
  obtain ⟨rfl,rfl,rfl⟩:=hcs
  simp only [if_true] at hz
  have hw :∀n∈zs,0≤n∧n < 256:=fun n hn=>by
   have:=hwz n hn
   simp only [Lit.wf,Bool.and_eq_true,decide_eq_true_eq] at this
   have h1:IntKind.u8.min=0:=rfl
   have h2:IntKind.u8.max=255:=rfl
   omega
  have hlen:((zs.take len).map Int.toNat).length=len:=by simp; omega
  refine ⟨some a,cap,(zs.take len).map Int.toNat,by rw [hlen],?_,⟨?_,fun _=>⟨a,rfl,fun i c hc=>?_⟩⟩,?_⟩
  ·rw [hlen]; unfold maxLen at hm; omega
  ·intro c hc
   obtain ⟨n,hn,rfl⟩:=List.mem_map.1 hc
   have:=hw n (List.mem_of_mem_take hn)
   omega
  ·obtain ⟨hi,_⟩:=List.getElem?_eq_some_iff.1 hc
   have hi':i < len:=by rw [hlen] at hi; exact hi
   have hiz:i < zs.length:=by omega
   rw [hcell i hiz]
   have hm2:=hw _ (List.getElem_mem hiz)
   simp [hi',hiz] at hc
   subst hc
   simp [hiz]
   omega
  ·intro a' ha
   cases ha
   have h0:Cell.okWide Tryz.prog W .any base 22 (.slice (some a) len cap):=by
    simpa [Value.okWide,Tryz.underlying22] using hv
   have h1:Cell.ok Tryz.prog W .any base 22 (.slice (some a) len cap):=by
    simpa [Cell.okWide,Tryz.underlying22] using h0
   simp only [Cell.ok,Tryz.underlying22] at h1
   exact has_lt h1.2.2
set_option maxHeartbeats 2000000 in
set_option maxRecDepth 100000 in
theorem law_any {W:World} {v:Value} (h:Ar W v) :
  Calls Tryz.prog 3 #[v] W fun e w'=>e = .returned (.bool true)∧Keeps (fun _=>False) W w':=by
 obtain ⟨ao,cap,cs,rfl,hL,hc,hb⟩:=h
 by_cases h1:cs.length≤1048576
 ·exact law_tops hc hb h1
 ·have hz1:(1048576:Int) < (cs.length:Int):=by omega
  have hz3:¬ (cs.length:Int)≤1048576:=by omega
  clear hc hb h1 hL
  go_enter Tryz.func3,Tryz.ntmps3
  go_wp2_with fail
  go_ret
  exact ⟨rfl,Keeps.refl _ _⟩
set_option maxRecDepth 100000 in
theorem lifted (os:Os) (started:os.Started) (H:Type) (enc:TypeId×Value→H) :
  ReturnsInHanded {} Tryz.checked os 3 .any (Rows.fnTopSpec.pre6 enc Tryz.prog Tryz.f3 Rows.fnTopRow.domain false) (Rows.fnTopSpec.post enc Tryz.prog Tryz.f3 false true false false):=by
 refine returnsInHanded_of_change (C:=Tryz.checked) own started (by kernel_rfl) Tryz.func3
  (ChangeSpec.witness6 (enc:=enc) (C:=Tryz.checked) false ⟨#[],#[.slice none 0 0],[]⟩ 8 (by kernel_rfl) (by kernel_rfl) (by kernel_rfl) (by kernel_rfl)) ?_
 intro W base args ds gs before hval0 hW hcnd _
 have hval :∀(j:Nat) t v,Tryz.f3.params[j]? = some t→args[j]? = some v→Value.okWide Tryz.prog W .any base t v:=hval0
 have hW':=hW
 obtain ⟨p,q,hA0,hV,rfl,hfz,hnd⟩:=hW
 have hA:DataW.TrodAll enc Tryz.prog W 0 (fun _=>true) true Tryz.f3.params.toList args.toList ds p:=hA0
 rw [Tryz.params3] at hA hval
 obtain ⟨v0,d0,rfl,rfl,h0⟩:=trodAll_one hA
 obtain ⟨rfl,rfl⟩:=trodVars_none hV
 clear hA0 hval0
 simp only [List.append_nil] at hW'
 have hlt :∀x∈p,x.block < W.heap.size:=fun x hx=>by simpa using hW'.lt x hx
 have a0:=open_arg (hval 0 22 v0 rfl rfl) h0
 refine (law_any a0).mono fun e W' ⟨he,hk⟩=>?_
 subst he
 have hn:Below W.heap.size W W':=hk.below _ (fun _ _ h=>h) (Nat.le_refl _)
 have t0:=Below.trod laidOut (by kernel_rfl) (of_decide_eq_true (by kernel_rfl)) h0 hn hlt
 exact ⟨_,rfl,_,_,_,[],_,[],hW',trodAll_mk1 (shut_bool Tryz.underlying4 _),trodAll_mk1 t0,rfl,hn.frame _,fun h=>by cases h⟩
theorem over:Rows.fnTopRow.holds Tryz.pinned (OpenSpec.ofChange Rows.fnTopSpec) :=
 OpenClaim.holds_of_wide 3 Tryz.f3 rfl rfl rfl rfl rfl rfl rfl ⟨rfl,rfl,rfl,rfl,rfl⟩ rfl rfl rfl rfl rfl (by kernel_rfl) Tryz.func3 (by kernel_rfl)
  (of_decide_eq_true (by kernel_rfl)) (by unfold Func.isWrapper; first | (rw [if_pos (by decide +kernel)]; kernel_rfl) | (rw [if_neg (by decide +kernel)]; exact ⟨rfl,rfl⟩))
  (fun os started H enc _=>lifted os started H enc)
theorem proved:Rows.FnTopSaid :=
 over
end Go.Proofs.YthkmmeamplmnhaaGreat.fnTop
namespace Go.Proofs.YthkmmeamplmnhaaGreat
theorem top_holds:Rows.FnTopSaid:=fnTop.proved
#print axioms top_holds
end Go.Proofs.YthkmmeamplmnhaaGreat
