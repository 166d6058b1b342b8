import Derived.Test.YtmlgmhnplicflaaGreatFa
import Derived.Test.YtmlgmhnplicflaaGreatDc
import Derived.Deep.RegionHeld3
import Derived.Deep.Cut
import Derived.Deep.CutRange
import Derived.Deep.DeepCutAuto
import Derived.Deep.CutBlock
import Derived.ProofKit
import Derived.OpenShut
import Derived.Carry
namespace Go.Proofs.YtmlgmhnplicflaaGreat
open Go.RowKit
set_option linter.unusedVariables false
set_option maxRecDepth 100000
structure FmB (w:World) (P:Nat) (r:Mt) (v:Value):Prop where
 box:w.heap[P]? = some (.cells #[.bool r.ok,.int .i64 r.fr,.int .i64 r.up,v] 29 (0,0))
 row:w.ownsRow 0 31 2 v r.gs.length (flatR r.gs)
theorem FmB.same {w w':World} {P:Nat} {r:Mt} {v:Value} (h:FmB w P r v) (k:Keeps (fun _=>False) w w'):FmB w' P r v :=
 ⟨by rw [k.block P (lt_of_block h.box) (fun h=>h)]; exact h.box,ownsRow_keeps h.row k (fun _ _ h=>h)⟩
theorem FmB.cells {w:World} {P:Nat} {r:Mt} {v:Value} (h:FmB w P r v):w.cell? ⟨P,0,none⟩=some (.bool r.ok)∧w.cell? ⟨P,1,none⟩=some (.int .i64 r.fr)∧w.cell? ⟨P,2,none⟩=some (.int .i64 r.up)∧w.cell? ⟨P,3,none⟩=some v :=
 ⟨by rw [cell_of h.box]; rfl,by rw [cell_of h.box]; rfl,by rw [cell_of h.box]; rfl,by rw [cell_of h.box]; rfl⟩
theorem fmB_new {w:World} {b:Nat} {r:Mt} {v:Value} (h:w.ownsRow b 31 2 v r.gs.length (flatR r.gs)):FmB (w.alloc (.cells #[.bool r.ok,.int .i64 r.fr,.int .i64 r.up,v] 29)) w.heap.size r v :=
 ⟨heap_alloc_new w _,ownsRow_keeps (ownsRow_base h (fun _ _=>Nat.zero_le _)) ((Keeps.refl _ w).alloc _) (fun _ _ h=>h)⟩
theorem smallM_of {L:List Mm} {l:List Mt} (h:L.map (·.1)=l) (h1 :∀x∈l,x.gs.length≤9) (h2:l.length≤201):SmallM L:=by
 subst h
 refine ⟨by simp at h2; omega,fun x hx=>?_⟩
 have:=h1 x.1 (List.mem_map_of_mem hx)
 omega
theorem ways_none {w:World} {s u:ByteArray} {p:Int} (h:waysRef s u p = []):Calls Tryz.prog 20 #[.string s,.string u,.int .i64 p] w (fun e w' =>∃a c,e = .returned (.slice a 0 c)∧Keeps (fun _=>False) w w'):=by
 have hq:=ways_q (w:=w) (s:=s) (u:=u) (p:=p)
 rw [h] at hq
 refine hq.mono ?_
 rintro e w' ⟨ao,n,c,L,rfl,h1,h2,h3⟩
 have hL:L = []:=by simpa using h1
 subst hL
 obtain ⟨a',c',hv⟩:=own_form h2.row
 cases hv
 exact ⟨_,_,rfl,h3⟩
theorem chn_len {s u:ByteArray} :∀{l:List Mt} {p:Nat},Chn s u l p→p≤u.size + 1→l.length + p≤u.size + 1:=by
 intro l
 induction l with
 | nil=>intro p _ h; simpa using h
 | cons m l ih =>
   rintro p ⟨h1,h2,h3⟩ h
   obtain ⟨b,-,g1,g2,-,-,g3,g4,g5,-⟩:=first_some h2
   have hn:=nxt_le (m:=m) (N:=u.size) (p:=p) (by omega) g4 g5
   have:=ih h3 hn.2
   simp only [List.length_cons]
   omega
set_option maxHeartbeats 1000000 in
theorem law_first {w:World} {ao ao2:Option Addr} {cap cap2:Nat} {cs ds:List Nat} (hc:Dc w ao cs) (hb :∀a,ao=some a→a.block < w.heap.size) (hd:Dc w ao2 ds) (hb2 :∀a,ao2=some a→a.block < w.heap.size) (hn:cs.length≤1048576) (hn2:ds.length≤1048576) :
  Calls Tryz.prog 4 #[.slice ao cs.length cap,.slice ao2 ds.length cap2] w fun e w'=>e = .returned (.bool true)∧Keeps (fun _=>False) w w':=by
 have hnz:(cs.length:Int)≤1048576:=by omega
 have hnz2:(ds.length:Int)≤1048576:=by omega
 have HB:Hid (∀w1,Keeps (fun _=>False) w w1→Calls Tryz.prog 16 #[.slice ao2 ds.length cap2,.int .i64 0] w1 fun e w' =>∃x:Nat,e = .returned (.int .i64 (x:Int))∧x < 256∧w'=w1):=fun w1 hk=>wByteD (i:=0) (hd.keeps hk (fun a ha=>⟨hb2 a ha,fun h=>h⟩)) hn2 (by omega)
 have hdr:=drawn_any (cap:=cap) hn hc hb
 clear hc hb hd hb2
 go_enter Tryz.func4,Tryz.ntmps4
 go_upto_region 7 with (first
  | (go_at_call 8; refine hdr.mono ?_; clear hdr; rintro e w1 ⟨s,t,rfl,hs,ht,hk1⟩; have hwb:=HB.out _ hk1)
  | (go_at_call 16; refine hwb.mono ?_; clear hwb; rintro e w2 ⟨x,rfl,hx,rfl⟩; have hm:(x:Int).tmod ((t.size:Int) + 1)=((x % (t.size + 1):Nat):Int):=(by rw [Int.tmod_eq_emod_of_nonneg (by omega)]; simp); have hq:x % (t.size + 1)≤t.size:=(by have:=Nat.mod_lt x (show 0 < t.size + 1 by omega); omega); generalize x % (t.size + 1)=q at hm hq))
 have hfi:=find_q (w:=w2) (s:=s) (u:=t) (p:=(q:Int))
 go_upto_region 6 with (go_at_call 17; refine hfi.mono ?_; clear hfi; rintro e w3 ⟨a3,n3,c3,rfl,hg3,hk3⟩)
 obtain ⟨r,hr⟩ :∃r,mtD (findRef s t (q:Int))=r:=⟨_,rfl⟩
 have hgs:=findRef_gs s t (q:Int)
 have hsf:=fun w=>sfind_any (w:=w) (s:=s) (u:=t) (p:=(q:Int)) (by omega) (by omega)
 rw [hr] at hg3 hsf hgs
 simp only [hr]
 have HR:Hid (mtD (findRef s t (q:Int))=r):=hr
 clear hr
 have hF0:=fmB_new (r:=r) hg3
 have kA:Keeps (fun _=>False) w (w3.alloc (.cells #[.bool r.ok,.int .i64 r.fr,.int .i64 r.up,.slice a3 n3 c3] 29)):=(hk1.trans hk3).alloc _
 generalize w3.alloc (.cells #[.bool r.ok,.int .i64 r.fr,.int .i64 r.up,.slice a3 n3 c3] 29)=wF at hF0 kA ⊢
 generalize w3.heap.size=P at hF0 ⊢
 clear hk1 hk3 hg3 hm hx
 have kd:Keeps (fun _=>False) wF wF.drew:=(Keeps.refl _ _).drew
 have HF:Hid (FmB wF P r (.slice a3 n3 c3)):=hF0
 have hS0:=(hF0.same kd).cells
 have hsf0:=hsf wF.drew
 clear hF0 hsf
 go_cut [44] (fun b wc=>b = .bool false∧Keeps (fun _=>False) wF wc)
 case first =>
  go_region_held3 (fun w'=>w'.cell? ⟨P,0,none⟩=some (.bool r.ok)∧w'.cell? ⟨P,1,none⟩=some (.int .i64 r.fr)∧w'.cell? ⟨P,2,none⟩=some (.int .i64 r.up)∧w'.cell? ⟨P,3,none⟩=some (.slice a3 n3 c3)) (first | assumption | go_keep) (first
   | (go_at_call 19; refine hsf0.mono ?_; rintro e w4 ⟨a4,n4,c4,rfl,hg4,hk4⟩; have hk5:=kd.trans hk4; have hF4:=HF.out.same hk5; have hS1:=hF4.cells)
   | (go_at_call 18; refine (wMatch_same hF4.row hg4 (by omega)).mono ?_; rintro e w6 ⟨rfl,hk6⟩; have hk7:=hk5.trans hk6; have hS2:=(HF.out.same hk7).cells))
  all_goals (try go_wp2_with fail)
  all_goals go_meet
  all_goals exact ⟨rfl,hk7⟩
 case rest =>
  obtain ⟨rfl,hkc⟩:=hcut
  have hFc:=HF.out.same hkc
  obtain ⟨c0,c1,c2,c3'⟩:=hFc.cells
  go_upto_if 49 with fail
  go_cut [9] (fun e wx =>∃E:Nat,e = .int .i64 (E:Int)∧Hid (q≤E∧E≤15∧∀a:Nat,q≤a→a < E→waysRef s t (a:Int) = [])∧Keeps (fun _=>False) wc wx)
  case first =>
   cases hfr:findRef s t (q:Int) with
   | none =>
     have hr:r = ⟨false,0,0,[]⟩:=by rw [← HR.out,hfr]; rfl
     subst hr
     have HN:=first_none hq hfr
     have HN:Hid (∀a:Nat,q≤a→a≤t.size→waysRef s t (a:Int) = []):=HN
     clear hfr HR
     go_wp2_with fail
     go_meet
     exact ⟨t.size + 1,by simp,⟨by omega,by omega,fun a h1 h2=>HN.out a h1 (by omega)⟩,Keeps.refl _ _⟩
   | some m =>
     have hr:m=r:=by rw [← HR.out,hfr]; rfl
     subst hr
     obtain ⟨b,l,hb1,hb2,hb3,hok,hfr2,-,-,hno⟩:=first_some hfr
     have hN:Hid (∀a:Nat,q≤a→a < b→waysRef s t (a:Int) = []):=hno
     have hwy:=ways_q (w:=wc) (s:=s) (u:=t) (p:=(b:Int))
     have hsw:=fun w=>sways_any (w:=w) (s:=s) (u:=t) (p:=(b:Int)) (by omega) (by omega)
     rw [hok] at c0
     rw [hfr2] at c1
     rw [hok,hfr2]
     have hgl :∀x∈waysRef s t (b:Int),x.gs.length≤9:=fun x hx=>waysRef_gs hx
     have hfw:=waysRef_few s t (b:Int)
     rw [hb3] at hwy hsw hgl hfw
     have HGL:Hid (∀x∈m :: l,x.gs.length≤9):=hgl
     have HFW:Hid ((m :: l).length≤201):=hfw
     have HOK:Hid (m.ok=true):=hok
     have HFR:Hid (m.fr=(b:Int)):=hfr2
     clear hno hfr HR hb3 hgl hfw hok hfr2
     go_upto_region 12 with (go_at_call 20; refine hwy.mono ?_; clear hwy; rintro e w5 ⟨a5,n5,c5,L5,rfl,hL5,hM5,hk5⟩)
     obtain ⟨x5,L',rfl⟩ :∃x L',L5=x :: L':=by cases L5 with | nil=>cases hL5 | cons x L'=>exact ⟨x,L',rfl⟩
     obtain ⟨m',v5⟩:=x5
     have hmm:m'=m:=by simp at hL5; exact hL5.1
     subst hmm
     have hrow5:w5.ownsRow 0 31 2 v5 m'.gs.length (flatR m'.gs):=hM5.rows (m',v5) (by simp)
     obtain ⟨g5,cp5,hv,hcell,-,-,-⟩:=row_at hM5.row (by simp)
     simp only [Value.slice.injEq] at hv
     obtain ⟨rfl,hn5,rfl⟩:=hv
     obtain ⟨av,cv,rfl⟩:=own_form hrow5
     have hz:((n5:Int) == 0)=false:=by
      have:n5≠0:=by rw [hn5]; simp
      simpa using this
     have hz5:(0:Int) < (n5:Int):=by rw [hn5]; simp only [List.length_cons]; omega
     have hz6:0 < n5:=by omega
     have HM5:Hid (Mts w5 (.slice (some ⟨g5,0,none⟩) n5 c5) ((m',.slice av m'.gs.length cv) :: L')):=hM5
     have HW:Hid (∀w',Keeps (fun _=>False) w5 w'→(w'.cell? ⟨P,0,none⟩=some (.bool true)∧w'.cell? ⟨P,1,none⟩=some (.int .i64 (b:Int))∧w'.cell? ⟨P,2,none⟩=some (.int .i64 m'.up)∧w'.cell? ⟨P,3,none⟩=some (.slice a3 n3 c3))∧w'.cell? ⟨g5,0,none⟩=some (.bool true)∧w'.cell? ⟨g5,1,none⟩=some (.int .i64 (b:Int))∧w'.cell? ⟨g5,2,none⟩=some (.int .i64 m'.up)∧w'.cell? ⟨g5,3,none⟩=some (.slice av m'.gs.length cv)):=by
      intro w' hk
      have h1:=(hFc.same (hk5.trans hk)).cells
      have h2:=(HM5.out.same hk).row
      rw [hn5] at h2
      replace h2:=h2.cellAt
      rw [HOK.out,HFR.out] at h1
      refine ⟨h1,?_,?_,?_,?_⟩
      ·have:=h2 0 (by simp only [List.length_cons]; omega); rw [this]; simp [cell4,HOK.out]
      ·have:=h2 1 (by simp only [List.length_cons]; omega); rw [this]; simp [cell4,HFR.out]
      ·have:=h2 2 (by simp only [List.length_cons]; omega); rw [this]; simp [cell4]
      ·have:=h2 3 (by simp only [List.length_cons]; omega); rw [this]; simp [cell4]
     have kd5:Keeps (fun _=>False) w5 w5.drew:=(Keeps.refl _ _).drew
     have hS5:=HW.out _ kd5
     have HWM:Hid (Calls Tryz.prog 18 #[.agg #[.bool true,.int .i64 (b:Int),.int .i64 m'.up,.slice av m'.gs.length cv],.agg #[.bool true,.int .i64 (b:Int),.int .i64 m'.up,.slice a3 n3 c3]] w5.drew fun e w'=>e = .returned (.bool true)∧Keeps (fun _=>False) w5.drew w') :=
      wMatch_same (ownsRow_keeps hrow5 kd5 (fun _ _ h=>h)) (hFc.same (hk5.trans kd5)).row (by omega)
     have HLm:Hid (((m',Value.slice av m'.gs.length cv) :: L').map (·.1)=m' :: l):=hL5
     have HKC:Hid (Keeps (fun _=>False) wc w5):=hk5
     generalize m'.gs.length=ng at *
     clear hcell hn5 hM5 hrow5 c0 c1 c2 c3' hL5 hk5
     go_region_held3 (fun w'=>(w'.cell? ⟨P,0,none⟩=some (.bool true)∧w'.cell? ⟨P,1,none⟩=some (.int .i64 (b:Int))∧w'.cell? ⟨P,2,none⟩=some (.int .i64 m'.up)∧w'.cell? ⟨P,3,none⟩=some (.slice a3 n3 c3))∧w'.cell? ⟨g5,0,none⟩=some (.bool true)∧w'.cell? ⟨g5,1,none⟩=some (.int .i64 (b:Int))∧w'.cell? ⟨g5,2,none⟩=some (.int .i64 m'.up)∧w'.cell? ⟨g5,3,none⟩=some (.slice av ng cv)) (first | assumption | go_keep) (first
      | (go_at_call 18; refine HWM.out.mono ?_; rintro e w6 ⟨rfl,hk6⟩; have hk7:=kd5.trans hk6; have hS6:=HW.out _ hk7)
      | (go_at_call 21; refine (hsw w6).mono ?_; rintro e w7 ⟨a7,n7,c7,L7,rfl,hL7,hM7,hk8⟩; have hk9:=hk7.trans hk8; have hS7:=HW.out _ hk9; have HL7:Hid (L7.map (·.1)=m' :: l):=hL7; clear hL7)
      | (go_at_call 11; refine (wMatches_same (HM5.out.same hk9) hM7 (by rw [HLm.out,HL7.out]) (smallM_of HLm.out HGL.out HFW.out)).mono ?_; rintro e w8 ⟨rfl,hk10⟩; have hk11:=hk9.trans hk10; have hS8:=HW.out _ hk11))
     all_goals (try go_wp2_with fail)
     all_goals go_meet
     all_goals exact ⟨b,rfl,⟨hb1,by omega,hN.out⟩,HKC.out.trans hk11⟩
  case rest =>
   obtain ⟨E,rfl,HE,hkx⟩:=hcut
   have HK:Hid (Keeps (fun _=>False) w wc):=kA.trans (hkc.trans hkx)
   clear hkx c0 c1 c2 c3' hFc HF HR hsf0 hgs kA hS0 kd hkc HB
   have HQ:Hid (q≤E):=HE.out.1
   go_wp2_with fail
   go_loopg [11] (E + 1 - q) (fun gl s11 wr =>∃k:Nat,k + gl=E + 1∧q≤k∧k≤E∧s11 = .int .i64 (k:Int)∧Hid (Keeps (fun _=>False) w wr))
   case atStart=>exact ⟨q,by have:=HQ.out; omega,by omega,HQ.out,rfl,HK⟩
   case round =>
    obtain ⟨k,hgl,hk1,hk2,rfl,HKr⟩:=hrel
    have HG:Hid (k + gk=E + 1):=hgl
    have HK1:Hid (q≤k):=hk1
    have HEE:=HE.out.2.1
    clear hgl hk1
    by_cases hlt:k < E
    ·have hkz:(k:Int) < (E:Int):=by omega
     have hwy:=ways_none (w:=wr) (HE.out.2.2 k HK1.out hlt)
     go_wp2_with (go_at_call 20; refine hwy.mono ?_; clear hwy; rintro e w5 ⟨a5,c5,rfl,hk5⟩)
     go_roundg (gk - 1)
     case measure=>have:=HG.out; omega
     case rel=>exact ⟨k + 1,by have:=HG.out; omega,by have:=HK1.out; omega,by omega,congrArg (Value.int .i64) (by omega),HKr.out.trans hk5⟩
    ·have hkz:¬ (k:Int) < (E:Int):=by omega
     have hal:=all_q (w:=wr) (s:=s) (u:=t)
     go_wp2_with (go_at_call 10; refine hal.mono ?_; clear hal; rintro e w5 ⟨a5,n5,c5,L5,rfl,hL5,hM5,hk5⟩)
     obtain ⟨a',c',hv5⟩:=own_form hM5.row
     cases hv5
     have HC0:Hid (0≤t.size + 1∧Chn s t ((L5.drop 0).map (·.1)) 0):=⟨by omega,by rw [List.drop_zero,hL5]; exact chn_all s t⟩
     have HKw:Hid (Keeps (fun _=>False) w w5):=HKr.out.trans hk5
     have HM5:Hid (Mts w5 (.slice a5 L5.length c5) L5):=hM5
     have HL5:Hid (L5.length≤1000):=by
      show L5.length≤1000
      have:=chn_len (chn_all s t) (by omega)
      rw [← hL5,List.length_map] at this
      omega
     clear hM5 hL5 hk5 hlt hkz hk2 HG HK1 HEE HE HKr HK HQ
     go_loopg [12,95] (L5.length + 1) (fun gl s12 s95 wr =>∃j p:Nat,j + gl=L5.length + 1∧j≤L5.length∧s12 = .int .i64 (p:Int)∧s95 = .int .i64 (j:Int)∧Hid (p≤t.size + 1∧Chn s t ((L5.drop j).map (·.1)) p)∧Hid (Keeps (fun _=>False) w5 wr))
     case atStart=>exact ⟨0,0,by omega,by omega,rfl,rfl,HC0,Keeps.refl _ _⟩
     case round =>
      obtain ⟨j,p,hgl,hj,rfl,rfl,HC,HK5⟩:=hrel
      have HG:Hid (j + gk=L5.length + 1):=hgl
      clear hgl HC0
      by_cases hlt:j < L5.length
      ·have hch:p≤t.size∧findRef s t (p:Int)=some (L5[j]'hlt).1∧Chn s t ((L5.drop (j + 1)).map (·.1)) (nxt (L5[j]'hlt).1):=by
        have:=HC.out.2
        rw [List.drop_eq_getElem_cons hlt] at this
        exact this
       have o1:SpR wr (L5[j]'hlt).2 (L5[j]'hlt).1.gs:=ownsRow_keeps (HM5.out.rows _ (List.getElem_mem hlt)) HK5.out (fun _ _ h=>h)
       obtain ⟨g5,cp5,hv5,-⟩:=row_at HM5.out.row (by omega)
       simp only [Value.slice.injEq] at hv5
       obtain ⟨rfl,_,rfl⟩:=hv5
       obtain ⟨x0,x1,x2,x3⟩:=(HM5.out.same HK5.out).cells hlt
       revert hch o1 x0 x1 x2 x3
       generalize L5[j]'hlt=x
       obtain ⟨m,vx⟩:=x
       intro hch o1 x0 x1 x2 x3
       simp only at hch o1 x0 x1 x2 x3
       unfold SpR at o1
       obtain ⟨ax,cx,rfl⟩:=own_form o1
       have hjz:(j:Int) < (L5.length:Int):=by omega
       have hjl:(j:Int) < 1000:=by have:=HL5.out; omega
       go_upto_region 23 with fail
       have hB0:=fmB_new (r:=m) o1
       have kB:Keeps (fun _=>False) wr (wr.alloc (.cells #[.bool m.ok,.int .i64 m.fr,.int .i64 m.up,.slice ax m.gs.length cx] 29)):=(Keeps.refl _ _).alloc _
       generalize wr.alloc (.cells #[.bool m.ok,.int .i64 m.fr,.int .i64 m.up,.slice ax m.gs.length cx] 29)=wB at hB0 kB ⊢
       generalize wr.heap.size=Q at hB0 ⊢
       have hgm:m.gs.length≤9:=by have:=findRef_gs s t (p:Int); rw [hch.2.1] at this; exact this
       obtain ⟨b,lx,hb1,hb2,-,hok,hfr,hfu,hut,-⟩:=first_some hch.2.1
       have hu0:(0:Int)≤m.up:=by omega
       have hu1:m.up≤14:=by omega
       have hnx:=nxt_le (m:=m) (N:=t.size) (p:=p) (by omega) hfu hut
       have HX:Hid (nxt m≤t.size + 1∧Chn s t ((L5.drop (j + 1)).map (·.1)) (nxt m)):=⟨hnx.2,hch.2.2⟩
       have hfi:Calls Tryz.prog 17 #[.string s,.string t,.int .i64 (p:Int)] wB.drew (OneQ m wB.drew.heap.size wB.drew):=by
        have h:=find_q (w:=wB.drew) (s:=s) (u:=t) (p:=(p:Int))
        rw [hch.2.1] at h
        exact h
       have HB0:Hid (FmB wB Q m (.slice ax m.gs.length cx)):=hB0
       have HGM:Hid (m.gs.length≤10000):=by show m.gs.length≤10000; omega
       have HKB:Hid (Keeps (fun _=>False) w5 wB):=HK5.out.trans kB
       have kd:Keeps (fun _=>False) wB wB.drew:=(Keeps.refl _ _).drew
       have hS0:=(hB0.same kd).cells
       clear x0 x1 x2 x3 o1 hch hB0 kB hgm hb1 hb2 hok hfr hfu hut hnx HK5 HC
       generalize m.gs.length=ng at HB0 hS0 ⊢
       go_cut [105] (fun b wc=>b = .bool false∧Keeps (fun _=>False) wB wc)
       case first =>
        go_region_held3 (fun w'=>w'.cell? ⟨Q,0,none⟩=some (.bool m.ok)∧w'.cell? ⟨Q,1,none⟩=some (.int .i64 m.fr)∧w'.cell? ⟨Q,2,none⟩=some (.int .i64 m.up)∧w'.cell? ⟨Q,3,none⟩=some (.slice ax ng cx)) (first | assumption | go_keep) (first
         | (go_at_call 17; refine hfi.mono ?_; rintro e w6 ⟨a6,n6,c6,rfl,hg6,hk6⟩; have hk7:=kd.trans hk6; have hF6:=HB0.out.same hk7; have hS1:=hF6.cells)
         | (go_at_call 18; refine (wMatch_same hF6.row hg6 HGM.out).mono ?_; rintro e w7 ⟨rfl,hk8⟩; have hk9:=hk7.trans hk8; have hS2:=(HB0.out.same hk9).cells))
        all_goals (try go_wp2_with fail)
        all_goals go_meet
        all_goals exact ⟨rfl,hk9⟩
       case rest =>
        obtain ⟨rfl,hkc⟩:=hcut
        obtain ⟨c0,c1,c2,c3'⟩:=(HB0.out.same hkc).cells
        have HKC:Hid (Keeps (fun _=>False) w5 wc):=HKB.out.trans hkc
        clear hkc HKB HB0 hfi hS0 kd
        by_cases he:m.up=m.fr
        ·have hz:(m.up == m.fr)=true:=by simp [he]
         have hnx:nxt m=(m.up + 1).toNat:=by simp [nxt,he]
         have hnx:Hid ((nxt m:Int)=m.up + 1):=by show (nxt m:Int)=m.up + 1; rw [hnx]; omega
         clear he
         go_wp2_with fail
         go_roundg (gk - 1)
         case measure=>have:=HG.out; omega
         case rel=>exact ⟨j + 1,nxt m,by have:=HG.out; omega,by omega,by rw [hnx.out],congrArg (Value.int .i64) (by omega),HX,HKC⟩
        ·have hz:(m.up == m.fr)=false:=by simp [he]
         have hnx:nxt m=m.up.toNat:=by simp [nxt,he]
         have hnx:Hid ((nxt m:Int)=m.up):=by show (nxt m:Int)=m.up; rw [hnx]; omega
         clear he
         go_wp2_with fail
         go_roundg (gk - 1)
         case measure=>have:=HG.out; omega
         case rel=>exact ⟨j + 1,nxt m,by have:=HG.out; omega,by omega,by rw [hnx.out],congrArg (Value.int .i64) (by omega),HX,HKC⟩
      ·have hjz:¬ (j:Int) < (L5.length:Int):=by omega
       have hj2:j=L5.length:=by omega
       have HP:=HC.out
       rw [hj2,List.drop_length] at HP
       have HN:Hid (p≤t.size→findRef s t (p:Int)=none):=HP.2
       have hfd :∀(t:Bool) (x y z:Value) (w:World),(Instr.field 29 (.agg #[.bool t,x,y,z]) 0).run Tryz.prog w = .ok (.bool t) w:=fun _ _ _ _ _=>by kernel_rfl
       clear HP hj2
       by_cases hp:p≤t.size
       ·have hpz:¬ (t.size:Int) < (p:Int):=by omega
        have hfi:=find_q (w:=wr) (s:=s) (u:=t) (p:=(p:Int))
        rw [HN.out hp] at hfi
        go_wp2_with (go_at_call 17; refine hfi.mono ?_; clear hfi; rintro e w6 ⟨a6,n6,c6,rfl,hg6,hk6⟩)
        go_ret
        exact ⟨rfl,(HKw.out.trans HK5.out).trans hk6⟩
       ·have hpz:(t.size:Int) < (p:Int):=by omega
        go_wp2_with fail
        go_ret
        exact ⟨rfl,HKw.out.trans HK5.out⟩
end Go.Proofs.YtmlgmhnplicflaaGreat
namespace Go.Proofs.YtmlgmhnplicflaaGreat.fnFirst
open Go.ChangeShapes Go.WideShapes Go.ChangeAt Go.RowKit
set_option linter.unusedVariables false
theorem own:ownKnob Tryz.prog.godebug=none:=by kernel_rfl
theorem laidOut:laidOutB Tryz.prog=true:=by kernel_rfl
theorem cells1:Tryz.prog.cellsOf 5=1:=by kernel_rfl
def Ar (W:World) (v:Value):Prop :=∃(ao:Option Addr) (cap:Nat) (cs:List Nat),v = .slice ao cs.length cap∧cs.length≤9223372036854775807∧Dc W ao cs∧∀a,ao=some a→a.block < W.heap.size
theorem has_lt {W:World} {base:Nat} {a:Addr} {e:TypeId} {n:Nat} (h:W.has Tryz.prog .any base a e n):a.block < W.heap.size:=by
 unfold World.has at h
 apply Decidable.byContradiction
 intro hn
 have:W.heap[a.block]? = none:=Array.getElem?_eq_none (by omega)
 simp [World.shape?,this] at h
set_option maxRecDepth 100000 in
theorem open_arg {H:Type} {enc:TypeId×Value→H} {W:World} {base:Nat} {v:Value} {d:DataW H} {p:List MemPlace} (hv:Value.okWide Tryz.prog W .any base 22 v) (h:DataW.Trod enc Tryz.prog W 0 (fun _=>true) true 22 v d p):Ar W v:=by
 obtain ⟨fuel,hf⟩:=h
 obtain ⟨a0,len,cap,rfl⟩:=okWide_slice Tryz.underlying22 hv
 rcases open_ints Tryz.underlying22 Tryz.underlying5 cells1 hf with ⟨hcs,hx⟩ | ⟨a,len',cap',zs,hcs,_,hl,hm,hz,hx,hcell,hwz⟩
 ·simp [Value.cells] at hcs
  obtain ⟨rfl,rfl,rfl⟩:=hcs
  exact ⟨none,0,[],rfl,by simp,⟨by simp,by simp⟩,fun a h=>by cases h⟩
 ·simp [Value.cells] at hcs
  obtain ⟨rfl,rfl,rfl⟩:=hcs
  simp only [if_true] at hz
  have hw :∀n∈zs,0≤n∧n < 256:=fun n hn=>by
   have:=hwz n hn
   simp only [Lit.wf,Bool.and_eq_true,decide_eq_true_eq] at this
   have h1:IntKind.u8.min=0:=rfl
   have h2:IntKind.u8.max=255:=rfl
   omega
  have hlen:((zs.take len).map Int.toNat).length=len:=by simp; omega
  refine ⟨some a,cap,(zs.take len).map Int.toNat,by rw [hlen],?_,⟨?_,fun _=>⟨a,rfl,fun i c hc=>?_⟩⟩,?_⟩
  ·rw [hlen]; unfold maxLen at hm; omega
  ·intro c hc
   obtain ⟨n,hn,rfl⟩:=List.mem_map.1 hc
   have:=hw n (List.mem_of_mem_take hn)
   omega
  ·obtain ⟨hi,_⟩:=List.getElem?_eq_some_iff.1 hc
   have hi':i < len:=by rw [hlen] at hi; exact hi
   have hiz:i < zs.length:=by omega
   rw [hcell i hiz]
   have hm2:=hw _ (List.getElem_mem hiz)
   simp [hi',hiz] at hc
   subst hc
   simp [hiz]
   omega
  ·intro a' ha
   cases ha
   have h0:Cell.okWide Tryz.prog W .any base 22 (.slice (some a) len cap):=by
    simpa [Value.okWide,Tryz.underlying22] using hv
   have h1:Cell.ok Tryz.prog W .any base 22 (.slice (some a) len cap):=by
    simpa [Cell.okWide,Tryz.underlying22] using h0
   simp only [Cell.ok,Tryz.underlying22] at h1
   exact has_lt h1.2.2
set_option maxHeartbeats 2000000 in
set_option maxRecDepth 100000 in
theorem law_any {W:World} {v v':Value} (h:Ar W v) (h':Ar W v') :
  Calls Tryz.prog 4 #[v,v'] W fun e w'=>e = .returned (.bool true)∧Keeps (fun _=>False) W w':=by
 obtain ⟨ao,cap,cs,rfl,hL,hc,hb⟩:=h
 obtain ⟨ao2,cap2,ds,rfl,hL2,hd,hb2⟩:=h'
 by_cases h1:cs.length≤1048576
 ·by_cases h2:ds.length≤1048576
  ·exact law_first hc hb hd hb2 h1 h2
  ·have hz1:(cs.length:Int)≤1048576:=by omega
   have hz2:(1048576:Int) < (ds.length:Int):=by omega
   have hz3:¬ (ds.length:Int)≤1048576:=by omega
   clear hc hb hd hb2 h1 h2 hL hL2
   go_enter Tryz.func4,Tryz.ntmps4
   go_wp2_with fail
   go_ret
   exact ⟨rfl,Keeps.refl _ _⟩
 ·have hz1:(1048576:Int) < (cs.length:Int):=by omega
  have hz3:¬ (cs.length:Int)≤1048576:=by omega
  clear hc hb hd hb2 h1 hL hL2
  go_enter Tryz.func4,Tryz.ntmps4
  go_wp2_with fail
  go_ret
  exact ⟨rfl,Keeps.refl _ _⟩
set_option maxRecDepth 100000 in
theorem lifted (os:Os) (started:os.Started) (H:Type) (enc:TypeId×Value→H) :
  ReturnsInHanded {} Tryz.checked os 4 .any (Rows.fnFirstSpec.pre6 enc Tryz.prog Tryz.f4 Rows.fnFirstRow.domain false) (Rows.fnFirstSpec.post enc Tryz.prog Tryz.f4 false true false false):=by
 refine returnsInHanded_of_change (C:=Tryz.checked) own started (by kernel_rfl) Tryz.func4
  (ChangeSpec.witness6 (enc:=enc) (C:=Tryz.checked) false ⟨#[],#[.slice none 0 0,.slice none 0 0],[]⟩ 8 (by kernel_rfl) (by kernel_rfl) (by kernel_rfl) (by kernel_rfl)) ?_
 intro W base args ds gs before hval0 hW hcnd _
 have hval :∀(j:Nat) t v,Tryz.f4.params[j]? = some t→args[j]? = some v→Value.okWide Tryz.prog W .any base t v:=hval0
 have hW':=hW
 obtain ⟨p,q,hA0,hV,rfl,hfz,hnd⟩:=hW
 have hA:DataW.TrodAll enc Tryz.prog W 0 (fun _=>true) true Tryz.f4.params.toList args.toList ds p:=hA0
 rw [Tryz.params4] at hA hval
 obtain ⟨v0,v1,d0,d1,p0,p1,rfl,rfl,rfl,h0,h1⟩:=trodAll_two hA
 obtain ⟨rfl,rfl⟩:=trodVars_none hV
 clear hA0 hval0
 simp only [List.append_nil] at hW'
 have hlt :∀x∈p0 ++ p1,x.block < W.heap.size:=fun x hx=>by simpa using hW'.lt x hx
 have a0:=open_arg (hval 0 22 v0 rfl rfl) h0
 have a1:=open_arg (hval 1 22 v1 rfl rfl) h1
 refine (law_any a0 a1).mono fun e W' ⟨he,hk⟩=>?_
 subst he
 have hn:Below W.heap.size W W':=hk.below _ (fun _ _ h=>h) (Nat.le_refl _)
 have t0:=Below.trod laidOut (by kernel_rfl) (of_decide_eq_true (by kernel_rfl)) h0 hn (fun x hx=>hlt x (List.mem_append_left _ hx))
 have t1:=Below.trod laidOut (by kernel_rfl) (of_decide_eq_true (by kernel_rfl)) h1 hn (fun x hx=>hlt x (List.mem_append_right _ hx))
 exact ⟨_,rfl,_,_,_,[],_,[],hW',trodAll_mk1 (shut_bool Tryz.underlying4 _),trodAll_mk2 t0 t1,rfl,hn.frame _,fun h=>by cases h⟩
theorem over:Rows.fnFirstRow.holds Tryz.pinned (OpenSpec.ofChange Rows.fnFirstSpec) :=
 OpenClaim.holds_of_wide 4 Tryz.f4 rfl rfl rfl rfl rfl rfl rfl ⟨rfl,rfl,rfl,rfl,rfl⟩ rfl rfl rfl rfl rfl (by kernel_rfl) Tryz.func4 (by kernel_rfl)
  (of_decide_eq_true (by kernel_rfl)) (by unfold Func.isWrapper; first | (rw [if_pos (by decide +kernel)]; kernel_rfl) | (rw [if_neg (by decide +kernel)]; exact ⟨rfl,rfl⟩))
  (fun os started H enc _=>lifted os started H enc)
theorem proved:Rows.FnFirstSaid :=
 over
end Go.Proofs.YtmlgmhnplicflaaGreat.fnFirst
namespace Go.Proofs.YtmlgmhnplicflaaGreat
theorem first_holds:Rows.FnFirstSaid:=fnFirst.proved
#print axioms first_holds
end Go.Proofs.YtmlgmhnplicflaaGreat
