import Derived.Test.YthkmmeamplmnhaaGreatDd
import Derived.Deep.RegionHeld3
import Derived.Deep.Cut
import Derived.Deep.CutRange
import Derived.Deep.DeepCutAuto
import Derived.Deep.CutBlock
import Derived.Test.YthkmmeamplmnhaaGreatNb
import Derived.Test.YthkmmeamplmnhaaGreatYu
import Derived.ProofKit
import Derived.OpenShut
import Derived.Carry
namespace Go.Proofs.YthkmmeamplmnhaaGreat
open Go.RowKit
set_option linter.unusedVariables false
def SrT (w:World) (v:Value) (L:List ByteArray):Prop:=w.ownsRow 0 9 1 v L.length (L.map Value.string)
theorem SrT.same {w w':World} {v:Value} {L:List ByteArray} (h:SrT w v L) (k:Keeps (fun _=>False) w w'):SrT w' v L:=ownsRow_keeps h k (fun _ _ h=>h)
theorem SrT.cellAt {w:World} {g cap k:Nat} {L:List ByteArray} (h:SrT w (.slice (some ⟨g,0,none⟩) L.length cap) L) (hk:k < L.length):w.cell? ⟨g,k,none⟩=some (.string L[k]):=by
 have h':w.ownsRow 0 9 1 (.slice (some ⟨g,0,none⟩) L.length cap) L.length (L.map Value.string):=h
 rw [World.ownsRow.cellAt h' k (by omega)]
 simp [hk]
def skipM (u:ByteArray) (m:Mt):Prop:=m.up=m.fr∧(m.fr=0∨m.fr=(u.size:Int))
instance (u:ByteArray) (m:Mt):Decidable (skipM u m):=by unfold skipM; exact inferInstance
def FtS (u:ByteArray):Nat→List Mt→List ByteArray
 | a,[] => [u.extract a u.size]
 | a,m :: l=>if skipM u m then FtS u a l else u.extract a m.fr.toNat :: FtS u m.up.toNat l
def nxS (u:ByteArray):List Mt→Nat
 | []=>u.size
 | m :: l=>if skipM u m then nxS u l else m.fr.toNat
def OrdT (N:Nat):Nat→List Mt→Prop
 | _,[]=>True
 | p,m :: l=>(p:Int)≤m.fr∧m.fr≤m.up∧m.up≤(N:Int)∧OrdT N m.up.toNat l
theorem OrdT.mono {N:Nat} {l:List Mt} {p p':Nat} (h:OrdT N p l) (hp:p'≤p):OrdT N p' l:=by
 cases l with
 | nil=>trivial
 | cons m l=>exact ⟨by have:=h.1; omega,h.2⟩
theorem nxS_in {u:ByteArray} :∀(l:List Mt) (p:Nat),OrdT u.size p l→p≤u.size→p≤nxS u l∧nxS u l≤u.size:=by
 intro l
 induction l with
 | nil=>intro p _ h; exact ⟨h,Nat.le_refl _⟩
 | cons m l ih =>
   intro p h hp
   obtain ⟨h1,h2,h3,h4⟩:=h
   simp only [nxS]
   split
   ·have:=ih m.up.toNat h4 (by omega)
    omega
   ·omega
theorem FtS_head (u:ByteArray) :∀(l:List Mt) (a:Nat),(FtS u a l)[0]? = some (u.extract a (nxS u l)):=by
 intro l
 induction l with
 | nil=>intro a; rfl
 | cons m l ih =>
   intro a
   simp only [FtS,nxS]
   split
   ·exact ih a
   ·rfl
theorem FtS_pos (u:ByteArray) (l:List Mt) (a:Nat):0 < (FtS u a l).length:=by
 have:=FtS_head u l a
 obtain ⟨h,-⟩:=List.getElem?_eq_some_iff.1 this
 exact h
theorem ext_join (u:ByteArray) {a b c:Nat} (h1:a≤b) (h2:b≤c) (h3:c≤u.size):u.extract a b ++ u.extract b c=u.extract a c:=by
 apply ByteArray.ext
 rw [ByteArray.data_append,ByteArray.data_extract,ByteArray.data_extract,ByteArray.data_extract,Array.extract_append_extract]
 congr 1 <;> omega
theorem ext_size (u:ByteArray) {a b:Nat} (h2:b≤u.size):(u.extract a b).size≤u.size:=by
 rw [ByteArray.size_extract]
 omega
theorem ext_all (u:ByteArray):u.extract 0 u.size=u:=by
 apply ByteArray.ext
 rw [ByteArray.data_extract]
 exact Array.extract_size
end Go.Proofs.YthkmmeamplmnhaaGreat
namespace Go.Proofs.YthkmmeamplmnhaaGreat
open Go.RowKit
set_option linter.unusedVariables false
set_option maxRecDepth 100000
def PartP (L:List ByteArray) (w:World) (e:Ending) (w':World):Prop :=∃(ao:Option Addr) (n c:Nat),e = .returned (.slice ao n c)∧SrT w' (.slice ao n c) L∧Keeps (fun _=>False) w w'
def AllP (l:List Mt) (w:World) (e:Ending) (w':World):Prop :=
 ∃(ao:Option Addr) (n c:Nat) (L:List Mm),e = .returned (.slice ao n c)∧L.map (·.1)=l∧Mts w' (.slice ao n c) L∧Keeps (fun _=>False) w w'
set_option maxHeartbeats 1000000 in
theorem law_split {w:World} {ao:Option Addr} {cap n:Nat} (hn:n≤1048576) {A:ByteArray→ByteArray→List Mt} {G:ByteArray→Prop}
  (hdr:Calls Tryz.prog 8 #[.slice ao n cap] w fun e w' =>∃s t:ByteArray,e = .returned (.tuple #[.string s,.string t])∧G s∧t.size≤14∧Keeps (fun _=>False) w w')
  (hiS :∀s t w,G s→t.size≤14→Calls Tryz.prog 24 #[.string s,.string t] w (PartP (FtS t 0 (A s t)) w))
  (hsS :∀s t w,G s→t.size≤14→Calls Tryz.prog 25 #[.string s,.string t] w (PartP (FtS t 0 (A s t)) w))
  (hsA :∀s t w,G s→t.size≤14→Calls Tryz.prog 9 #[.string s,.string t] w (AllP (A s t) w))
  (hAo :∀s t,G s→t.size≤14→OrdT t.size 0 (A s t)∧(A s t).length≤100∧(FtS t 0 (A s t)).length≤300) :
  Calls Tryz.prog 6 #[.slice ao n cap] w fun e w'=>e = .returned (.bool true)∧Keeps (fun _=>False) w w':=by
 have hnz:(n:Int)≤1048576:=by omega
 have HiS:Hid _:=hiS
 have HsS:Hid _:=hsS
 have HsA:Hid _:=hsA
 have HAo:Hid _:=hAo
 clear hiS hsS hsA hAo
 go_enter Tryz.func6,Tryz.ntmps6
 go_upto_region 6 with (first
  | (go_at_call 8; refine hdr.mono ?_; clear hdr; rintro e w1 ⟨s,t,rfl,hs,ht,hk1⟩; have hiS:=HiS.out s t w1 hs ht)
  | (go_at_call 24; refine hiS.mono ?_; clear hiS; rintro e w2 ⟨a2,n2,c2,rfl,hS2,hk2⟩; have hsS:=HsS.out s t w2 hs ht)
  | (go_at_call 25; refine hsS.mono ?_; clear hsS; rintro e w3 ⟨a3,n3,c3,rfl,hS3,hk3⟩))
 obtain ⟨hO,hl,hF300⟩:=HAo.out s t hs ht
 have hsA:=HsA.out s t w3 hs ht
 clear HiS HsS HsA HAo
 generalize A s t=l at *
 have HF0:Hid ((FtS t 0 l)[0]? = some (t.extract 0 (nxS t l))):=FtS_head t l 0
 have HFp:=FtS_pos t l 0
 obtain ⟨F,hF⟩ :∃F,FtS t 0 l=F:=⟨_,rfl⟩
 rw [hF] at hS2 hS3 HF0 HFp hF300
 have HF:Hid (FtS t 0 l=F):=hF
 clear hF
 obtain ⟨N,hN⟩ :∃N,F.length=N:=⟨_,rfl⟩
 have hn2:n2=N:=by obtain ⟨a',c',hv⟩:=own_form hS2; cases hv; exact hN
 have hn3:n3=N:=by obtain ⟨a',c',hv⟩:=own_form hS3; cases hv; exact hN
 subst hn2
 subst hn3
 rw [hN] at HFp hF300
 have HN:Hid (F.length=n3):=hN
 obtain ⟨g2,rfl⟩ :∃g2,a2=some ⟨g2,0,none⟩:=by
  have h':w2.ownsRow 0 9 1 (.slice a2 n3 c2) n3 (F.map Value.string):=by have:=hS2; unfold SrT at this; rw [hN] at this; exact this
  obtain ⟨g,cp,hv,-⟩:=row_at h' HFp
  cases hv
  exact ⟨g,rfl⟩
 have HS:Hid (∀(wx:World) (k:Nat) (x:ByteArray),Keeps (fun _=>False) w3 wx→F[k]? = some x→wx.cell? ⟨g2,k,none⟩=some (.string x)):=fun wx k x hk hx=>by
  obtain ⟨hi,he⟩:=List.getElem?_eq_some_iff.1 hx
  have h1:=(hS2.same (hk3.trans hk))
  rw [← HN.out] at h1
  rw [h1.cellAt hi,he]
 have hc0:=HS.out w3 0 _ (Keeps.refl _ _) HF0.out
 have hne1:((n3:Int) != (n3:Int))=false:=by simp
 have hne2:((n3:Int) == 0)=false:=by simp; omega
 have hn300:(n3:Int)≤300:=by omega
 have hnp:(0:Int) < (n3:Int):=by omega
 have HK3:Hid (Keeps (fun _=>False) w w3):=(hk1.trans hk2).trans hk3
 clear hS2 hS3 hN hk1 hk2 hk3 HF0
 go_wp2_with (go_at_call 9; refine hsA.mono ?_; clear hsA; rintro e w4 ⟨a4,n4,c4,L4,rfl,hL4,hM4,hk4⟩)
 have hn4:n4=l.length:=by
  obtain ⟨a',c',hv⟩:=own_form hM4.row
  cases hv
  rw [← hL4,List.length_map]
 have HN4:Hid (n4=l.length):=hn4
 have hn100:(n4:Int)≤100:=by omega
 have HL4:Hid (L4.map (·.1)=l):=hL4
 have HM4:Hid (Mts w4 (.slice a4 n4 c4) L4):=hM4
 have HO:Hid (OrdT t.size 0 l):=hO
 have HK4:Hid (Keeps (fun _=>False) w3 w4):=hk4
 clear hc0 hne1 hne2 hn4 hL4 hM4 hO hk4 hl
 go_loopg [7,8,42] (n4 + 1) (fun gl s7 s8 s42 wr =>∃(k c a:Nat),k + gl=n4 + 1∧k≤n4∧c < n3∧s42 = .int .i64 (k:Int)∧s8 = .int .i64 ((c:Int) + 1)∧s7 = .string (t.extract 0 (nxS t (l.drop k)))∧Hid (F.drop c=FtS t a (l.drop k)∧OrdT t.size 0 (l.drop k))∧Hid (Keeps (fun _=>False) w4 wr))
 case atStart=>exact ⟨0,0,0,by omega,by omega,HFp,rfl,rfl,rfl,⟨HF.out.symm,HO.out⟩,Keeps.refl _ _⟩
 case round =>
  obtain ⟨k,c,a,hgl,hk,hc,rfl,rfl,rfl,HI,HKr⟩:=hrel
  have HG:Hid (k + gk=n4 + 1):=hgl
  clear hgl
  by_cases hlt:k < n4
  ·have hz:(k:Int) < (n4:Int):=by omega
   have hkl:k < l.length:=by have:=HN4.out; omega
   have hkL:k < L4.length:=by have:=HL4.out; rw [← this,List.length_map] at hkl; exact hkl
   obtain ⟨gm,rfl⟩ :∃gm,a4=some ⟨gm,0,none⟩:=by
    obtain ⟨g,cp,hv,-⟩:=row_at HM4.out.row (by omega)
    cases hv
    exact ⟨g,rfl⟩
   have hM:=HM4.out.same HKr.out
   have hlen:L4.length=n4:=by have:=HN4.out; rw [this,← HL4.out,List.length_map]
   rw [← hlen] at hM
   obtain ⟨m0,m1,m2,m3⟩:=hM.cells hkL
   obtain ⟨ax,cx,hxv⟩:=own_form (hM.rows _ (List.getElem_mem hkL))
   have hmk:l[k]'hkl=(L4[k]'hkL).1:=by
    have h1:l[k]? = (L4.map (·.1))[k]?:=by rw [HL4.out]
    simpa [hkl,hkL] using h1
   have hdr:=List.drop_eq_getElem_cons hkl
   rw [hmk] at hdr
   rw [hxv] at m3
   obtain ⟨h1,h2⟩:=HI.out
   rw [hdr] at h1 h2 ⊢
   generalize (L4[k]'hkL).1.gs.length=nx at m3
   generalize (L4[k]'hkL).1=x at m0 m1 m2 h1 h2 hdr ⊢
   clear hM hmk hxv hlen
   obtain ⟨o1,o2,o3,o4⟩:=h2
   obtain ⟨fN,hfN⟩ :∃fN:Nat,x.fr=(fN:Int):=⟨x.fr.toNat,by omega⟩
   obtain ⟨tN,htN⟩ :∃tN:Nat,x.up=(tN:Int):=⟨x.up.toNat,by omega⟩
   have HX:Hid (F.drop c=if tN=fN∧(fN=0∨fN=t.size) then FtS t a (l.drop (k + 1)) else t.extract a fN :: FtS t tN (l.drop (k + 1))):=by
    show _ = _
    rw [h1]
    simp only [FtS,skipM,hfN,htN,Int.toNat_natCast]
    congr 1
    simp only [eq_iff_iff]
    omega
   have hnx:nxS t (x :: l.drop (k + 1))=if tN=fN∧(fN=0∨fN=t.size) then nxS t (l.drop (k + 1)) else fN:=by
    simp only [nxS,skipM,hfN,htN,Int.toNat_natCast]
    congr 1
    simp only [eq_iff_iff]
    omega
   rw [hfN] at m1 o2
   rw [htN] at m2 o2 o3 o4
   rw [Int.toNat_natCast] at o4
   have HO4:Hid (OrdT t.size tN (l.drop (k + 1))):=o4
   rw [hnx]
   have kB:Keeps (fun _=>False) wr (wr.alloc (.cells #[.bool x.ok,.int .i64 (fN:Int),.int .i64 (tN:Int),.slice ax nx cx] 29)):=(Keeps.refl _ _).alloc _
   have bB:(wr.alloc (.cells #[.bool x.ok,.int .i64 (fN:Int),.int .i64 (tN:Int),.slice ax nx cx] 29)).heap[wr.heap.size]? = some (.cells #[.bool x.ok,.int .i64 (fN:Int),.int .i64 (tN:Int),.slice ax nx cx] 29 (0,0)):=heap_alloc_new _ _
   clear h1 o1 o4 hdr hfN htN HI hnx hkl hkL
   go_upto_region 13 with fail
   clear m0 m1 m2 m3
   have hK5:Keeps (fun _=>False) w4 (wr.alloc (.cells #[.bool x.ok,.int .i64 (fN:Int),.int .i64 (tN:Int),.slice ax nx cx] 29)):=HKr.out.trans kB
   generalize (wr.alloc (.cells #[.bool x.ok,.int .i64 (fN:Int),.int .i64 (tN:Int),.slice ax nx cx] 29))=w5 at kB bB hK5 ⊢
   generalize wr.heap.size=P at bB ⊢
   have d1:w5.cell? ⟨P,1,none⟩=some (.int .i64 (fN:Int)):=by rw [cell_of bB]; rfl
   have d2:w5.cell? ⟨P,2,none⟩=some (.int .i64 (tN:Int)):=by rw [cell_of bB]; rfl
   have HK5:Hid (Keeps (fun _=>False) w4 w5):=hK5
   clear kB bB hK5 HKr
   obtain ⟨q7,hq7⟩ :∃q7,t.extract 0 (if tN=fN∧(fN=0∨fN=t.size) then nxS t (l.drop (k + 1)) else fN)=q7:=⟨_,rfl⟩
   rw [hq7]
   have HQ:Hid (t.extract 0 (if tN=fN∧(fN=0∨fN=t.size) then nxS t (l.drop (k + 1)) else fN)=q7):=hq7
   clear hq7
   by_cases cSk:tN=fN∧(fN=0∨fN=t.size)
   ·have HX2:Hid (F.drop c=FtS t a (l.drop (k + 1))):=(by show _ = _; have:=HX.out; rwa [if_pos cSk] at this)
    have HQ2:Hid (q7=t.extract 0 (nxS t (l.drop (k + 1)))):=(by show _ = _; have:=HQ.out; rw [if_pos cSk] at this; exact this.symm)
    obtain ⟨e1,e2⟩:=cSk
    have b1:((tN:Int) == (fN:Int))=true:=by simp; omega
    have HE:Hid (fN=0∨fN=t.size):=e2
    clear HX HQ e1 e2
    by_cases e0:fN=0
    ·have b2:((fN:Int) == 0)=true:=by simp; omega
     clear e0
     go_wp2_with fail
     go_roundg (gk - 1)
     case measure=>have:=HG.out; omega
     case rel=>exact ⟨k + 1,c,a,by have:=HG.out; omega,by omega,hc,congrArg (Value.int .i64) (by omega),rfl,congrArg Value.string HQ2.out,⟨HX2.out,HO4.out.mono (Nat.zero_le _)⟩,HK5⟩
    ·have b2:((fN:Int) == 0)=false:=by simp; omega
     have b3:((fN:Int) == (t.size:Int))=true:=by have:=HE.out; simp; omega
     clear e0
     go_wp2_with fail
     go_roundg (gk - 1)
     case measure=>have:=HG.out; omega
     case rel=>exact ⟨k + 1,c,a,by have:=HG.out; omega,by omega,hc,congrArg (Value.int .i64) (by omega),rfl,congrArg Value.string HQ2.out,⟨HX2.out,HO4.out.mono (Nat.zero_le _)⟩,HK5⟩
   ·have hX2:F.drop c=t.extract a fN :: FtS t tN (l.drop (k + 1)):=by have:=HX.out; rwa [if_neg cSk] at this
    have HQ2:Hid (t.extract 0 fN=q7):=(by show _ = _; have:=HQ.out; rwa [if_neg cSk] at this)
    have hd1:F.drop (c + 1)=FtS t tN (l.drop (k + 1)):=by
     have:=congrArg (List.drop 1) hX2
     rw [List.drop_drop] at this
     simpa using this
    have hF1:F[c + 1]? = some (t.extract tN (nxS t (l.drop (k + 1)))):=by
     have h3:=FtS_head t (l.drop (k + 1)) tN
     rw [← hd1,List.getElem?_drop] at h3
     simpa using h3
    have hc1:c + 1 < n3:=by
     obtain ⟨hi,-⟩:=List.getElem?_eq_some_iff.1 hF1
     rw [HN.out] at hi
     exact hi
    have y1:=HS.out w5 (c + 1) _ (HK4.out.trans HK5.out) hF1
    obtain ⟨i1,i2⟩:=nxS_in (l.drop (k + 1)) tN HO4.out (by omega)
    have hj:q7 ++ (t.extract fN tN ++ t.extract tN (nxS t (l.drop (k + 1))))=t.extract 0 (nxS t (l.drop (k + 1))):=by
     rw [← HQ2.out,ext_join t (by omega) i1 i2,ext_join t (Nat.zero_le _) (by omega) i2]
    have HJ:Hid (q7 ++ (t.extract fN tN ++ t.extract tN (nxS t (l.drop (k + 1))))=t.extract 0 (nxS t (l.drop (k + 1)))):=hj
    have hs7:q7.size≤14:=by rw [← HQ2.out]; exact Nat.le_trans (ext_size t (by omega)) ht
    have hs8:(t.extract fN tN).size≤14:=Nat.le_trans (ext_size t (by omega)) ht
    have hs9:(t.extract tN (nxS t (l.drop (k + 1)))).size≤14:=Nat.le_trans (ext_size t i2) ht
    have HD1:Hid (F.drop (c + 1)=FtS t tN (l.drop (k + 1))):=hd1
    obtain ⟨q9,hq9⟩ :∃q9,t.extract tN (nxS t (l.drop (k + 1)))=q9:=⟨_,rfl⟩
    rw [hq9] at y1 HJ hs9
    have hcz:(c:Int) + 1 < (n3:Int):=by omega
    have hfz:(fN:Int)≤(tN:Int):=by omega
    have htz:(tN:Int)≤(t.size:Int):=by omega
    have z1:¬ 9223372036854775807 < (t.extract fN tN).size + q9.size:=by omega
    have z2:¬ 9223372036854775807 < q7.size + ((t.extract fN tN).size + q9.size):=by omega
    have y1':w5.cell? ⟨g2,((c:Int) + 1).toNat,none⟩=some (.string q9):=by rw [show ((c:Int) + 1).toNat=c + 1 by omega]; exact y1
    have hcs:Hid (¬ (tN=fN∧(fN=0∨fN=t.size))):=cSk
    clear HX HQ hX2 hd1 hF1 hj hq9 i1 i2 o2 o3 cSk
    go_cut [62] (fun b wc=>b = .bool false∧wc=w5)
    case first =>
     have hcs2:¬ (tN=fN∧(fN=0∨fN=t.size)):=hcs.out
     by_cases e1:tN=fN
     ·have b1:((tN:Int) == (fN:Int))=true:=by simp; omega
      have b2:((fN:Int) == 0)=false:=by simp; omega
      have b3:((fN:Int) == (t.size:Int))=false:=by simp; omega
      clear hcs2 e1
      go_wp2_with fail
      go_meet
      exact ⟨rfl,rfl⟩
     ·have b1:((tN:Int) == (fN:Int))=false:=by simp; omega
      clear hcs2 e1
      go_wp2_with fail
      go_meet
      exact ⟨rfl,rfl⟩
    case rest =>
     obtain ⟨rfl,rfl⟩:=hcut
     go_upto_region 16 with fail
     go_quiet (fail)
     go_wp2_with fail
     go_roundg (gk - 1)
     case measure=>have:=HG.out; omega
     case rel=>exact ⟨k + 1,c + 1,tN,by have:=HG.out; omega,by omega,hc1,congrArg (Value.int .i64) (by omega),congrArg (Value.int .i64) (by omega),congrArg Value.string HJ.out,⟨HD1.out,HO4.out.mono (Nat.zero_le _)⟩,HK5.out.drewN _⟩
  ·obtain rfl:k=n4:=by omega
   have hz:¬ (k:Int) < (k:Int):=by omega
   obtain ⟨h1,h2⟩:=HI.out
   have hdn:l.drop k = []:=by rw [HN4.out]; exact List.drop_length
   rw [hdn] at h1 ⊢
   have hcn:c + 1=n3:=by
    have:=congrArg List.length h1
    rw [List.length_drop,HN.out] at this
    simp [FtS] at this
    omega
   have hq:t.extract 0 (nxS t [])=t:=ext_all t
   rw [hq]
   have hcz:(c:Int) + 1=(n3:Int):=by omega
   rw [hcz]
   clear h1 h2 hdn hcn hcz hq
   go_wp2_with fail
   go_ret
   exact ⟨rfl,(HK3.out.trans HK4.out).trans HKr.out⟩
end Go.Proofs.YthkmmeamplmnhaaGreat
namespace Go.Proofs.YthkmmeamplmnhaaGreat
open Go.RowKit
set_option linter.unusedVariables false
theorem good_tree {pl:Bool} {s:ByteArray} (h:GoodV pl s) :∃g f,treeRef s = .ok (g,f):=by
 obtain ⟨h1,g',h2⟩:=h
 obtain ⟨f,hf⟩:=dr_read h2 h1
 refine ⟨9 - g',f,?_⟩
 unfold treeRef
 rw [if_neg (by omega),hf]
 simp
theorem good_wanted {pl:Bool} {s t:ByteArray} (h:GoodV pl s) (ht:t.size≤14):wanted s t 0=true:=by
 obtain ⟨g,f,hf⟩:=good_tree h
 unfold wanted
 rw [hf]
 simp
 omega
theorem spA_ft (u:ByteArray) :∀(l:List Mt) (acc:List ByteArray) (a:Nat),(l.foldl (spS u) (acc,a)).1 ++ [u.extract (l.foldl (spS u) (acc,a)).2 u.size]=acc ++ FtS u a l:=by
 intro l
 induction l with
 | nil=>intro acc a; rfl
 | cons m l ih =>
   intro acc a
   simp only [List.foldl_cons,FtS]
   by_cases h:skipM u m
   ·have e:spS u (acc,a) m=(acc,a):=by unfold spS; exact if_pos h
    rw [e,ih,if_pos h]
   ·have e:spS u (acc,a) m=(acc ++ [u.extract a m.fr.toNat],m.up.toNat):=by unfold spS; exact if_neg h
    rw [e,ih,if_neg h,List.append_assoc]
    rfl
theorem split_ft {s t:ByteArray} (h:wanted s t 0=true):splitRef s t=FtS t 0 (allRef s t):=by
 unfold splitRef
 rw [if_pos h]
 exact spA_ft t _ [] 0
theorem split_part {s t:ByteArray} {w w':World} {e:Ending} (h:wanted s t 0=true) (hs:SplitP s t w e w'):PartP (FtS t 0 (allRef s t)) w e w':=by
 obtain ⟨ao,n,c,rfl,h1,h2⟩:=hs
 rw [split_ft h] at h1
 exact ⟨ao,n,c,rfl,ownsRow_base h1 (fun _ _=>Nat.zero_le _),h2⟩
theorem ord_T {N:Nat} :∀{l:List Mt} {p:Nat},Ord N p l→OrdT N p l:=by
 intro l
 induction l with
 | nil=>intro p _; trivial
 | cons m l ih=>intro p h; exact ⟨h.1,h.2.1,h.2.2.1,ih h.2.2.2.1⟩
theorem FtS_len (u:ByteArray) :∀(l:List Mt) (a:Nat),(FtS u a l).length≤l.length + 1:=by
 intro l
 induction l with
 | nil=>intro a; simp [FtS]
 | cons m l ih =>
   intro a
   simp only [FtS]
   split
   ·have:=ih a; simp only [List.length_cons]; omega
   ·have:=ih m.up.toNat; simp only [List.length_cons]; omega
theorem all_ordT {s t:ByteArray} (h:wanted s t 0=true) (ht:t.size≤14):OrdT t.size 0 (allRef s t)∧(allRef s t).length≤100∧(FtS t 0 (allRef s t)).length≤300:=by
 cases ht2:treeRef s with
 | error x=>simp [wanted,ht2] at h
 | ok gf =>
   obtain ⟨g,f⟩:=gf
   obtain ⟨hfg,-,-,-⟩:=tree_fg ht2
   have hX:OkX t.size 0 g (smx t [] f):=fp_ok t ⟨f,hfg,rfl⟩
   have h1:=allX_len hX (t.size + 2) 0 (Nat.zero_le _)
   have h2:=allX_ord hX (t.size + 2) 0 (Nat.zero_le _)
   rw [← allRef_eq h ht2] at h1 h2
   have h3:=FtS_len t (allRef s t) 0
   exact ⟨ord_T h2,by omega,by omega⟩
theorem law_splits {w:World} {ao:Option Addr} {cap:Nat} {cs:List Nat} (hc:Dc w ao cs) (hb :∀a,ao=some a→a.block < w.heap.size) (hn:cs.length≤1048576) :
  Calls Tryz.prog 6 #[.slice ao cs.length cap] w fun e w'=>e = .returned (.bool true)∧Keeps (fun _=>False) w w' :=
 law_split hn (A:=allRef) (G:=GoodV false) (vdrawn_any hn hc hb)
  (fun s t w hs ht=>isplit_any.mono fun e w' h=>split_part (good_wanted hs ht) h)
  (fun s t w hs ht=>(ssplit_any (by have:=hs.1; omega) (by omega)).mono fun e w' h=>split_part (good_wanted hs ht) h)
  (fun s t w hs ht=>sall_any (by have:=hs.1; omega) (by omega))
  (fun s t hs ht=>all_ordT (good_wanted hs ht) ht)
end Go.Proofs.YthkmmeamplmnhaaGreat
namespace Go.Proofs.YthkmmeamplmnhaaGreat.fnSplit
open Go.ChangeShapes Go.WideShapes Go.ChangeAt Go.RowKit
set_option linter.unusedVariables false
theorem own:ownKnob Tryz.prog.godebug=none:=by kernel_rfl
theorem laidOut:laidOutB Tryz.prog=true:=by kernel_rfl
theorem cells1:Tryz.prog.cellsOf 5=1:=by kernel_rfl
def Ar (W:World) (v:Value):Prop :=∃(ao:Option Addr) (cap:Nat) (cs:List Nat),v = .slice ao cs.length cap∧cs.length≤9223372036854775807∧Dc W ao cs∧∀a,ao=some a→a.block < W.heap.size
theorem has_lt {W:World} {base:Nat} {a:Addr} {e:TypeId} {n:Nat} (h:W.has Tryz.prog .any base a e n):a.block < W.heap.size:=by
 unfold World.has at h
 apply Decidable.byContradiction
 intro hn
 have:W.heap[a.block]? = none:=Array.getElem?_eq_none (by omega)
 simp [World.shape?,this] at h
set_option maxRecDepth 100000 in
theorem open_arg {H:Type} {enc:TypeId×Value→H} {W:World} {base:Nat} {v:Value} {d:DataW H} {p:List MemPlace} (hv:Value.okWide Tryz.prog W .any base 22 v) (h:DataW.Trod enc Tryz.prog W 0 (fun _=>true) true 22 v d p):Ar W v:=by
 obtain ⟨fuel,hf⟩:=h
 obtain ⟨a0,len,cap,rfl⟩:=okWide_slice Tryz.underlying22 hv
 rcases open_ints Tryz.underlying22 Tryz.underlying5 cells1 hf with ⟨hcs,hx⟩ | ⟨a,len',cap',zs,hcs,_,hl,hm,hz,hx,hcell,hwz⟩
 ·simp [Value.cells] at hcs
  obtain ⟨rfl,rfl,rfl⟩:=hcs
  exact ⟨none,0,[],rfl,by simp,⟨by simp,by simp⟩,fun a h=>by cases h⟩
 ·simp [Value.cells] at hcs
  obtain ⟨rfl,rfl,rfl⟩:=hcs
  simp only [if_true] at hz
  have hw :∀n∈zs,0≤n∧n < 256:=fun n hn=>by
   have:=hwz n hn
   simp only [Lit.wf,Bool.and_eq_true,decide_eq_true_eq] at this
   have h1:IntKind.u8.min=0:=rfl
   have h2:IntKind.u8.max=255:=rfl
   omega
  have hlen:((zs.take len).map Int.toNat).length=len:=by simp; omega
  refine ⟨some a,cap,(zs.take len).map Int.toNat,by rw [hlen],?_,⟨?_,fun _=>⟨a,rfl,fun i c hc=>?_⟩⟩,?_⟩
  ·rw [hlen]; unfold maxLen at hm; omega
  ·intro c hc
   obtain ⟨n,hn,rfl⟩:=List.mem_map.1 hc
   have:=hw n (List.mem_of_mem_take hn)
   omega
  ·obtain ⟨hi,_⟩:=List.getElem?_eq_some_iff.1 hc
   have hi':i < len:=by rw [hlen] at hi; exact hi
   have hiz:i < zs.length:=by omega
   rw [hcell i hiz]
   have hm2:=hw _ (List.getElem_mem hiz)
   simp [hi',hiz] at hc
   subst hc
   simp [hiz]
   omega
  ·intro a' ha
   cases ha
   have h0:Cell.okWide Tryz.prog W .any base 22 (.slice (some a) len cap):=by
    simpa [Value.okWide,Tryz.underlying22] using hv
   have h1:Cell.ok Tryz.prog W .any base 22 (.slice (some a) len cap):=by
    simpa [Cell.okWide,Tryz.underlying22] using h0
   simp only [Cell.ok,Tryz.underlying22] at h1
   exact has_lt h1.2.2
set_option maxHeartbeats 2000000 in
set_option maxRecDepth 100000 in
theorem law_any {W:World} {v:Value} (h:Ar W v) :
  Calls Tryz.prog 6 #[v] W fun e w'=>e = .returned (.bool true)∧Keeps (fun _=>False) W w':=by
 obtain ⟨ao,cap,cs,rfl,hL,hc,hb⟩:=h
 by_cases h1:cs.length≤1048576
 ·exact law_splits hc hb h1
 ·have hz1:(1048576:Int) < (cs.length:Int):=by omega
  have hz3:¬ (cs.length:Int)≤1048576:=by omega
  clear hc hb h1 hL
  go_enter Tryz.func6,Tryz.ntmps6
  go_wp2_with fail
  go_ret
  exact ⟨rfl,Keeps.refl _ _⟩
set_option maxRecDepth 100000 in
theorem lifted (os:Os) (started:os.Started) (H:Type) (enc:TypeId×Value→H) :
  ReturnsInHanded {} Tryz.checked os 6 .any (Rows.fnSplitSpec.pre6 enc Tryz.prog Tryz.f6 Rows.fnSplitRow.domain false) (Rows.fnSplitSpec.post enc Tryz.prog Tryz.f6 false true false false):=by
 refine returnsInHanded_of_change (C:=Tryz.checked) own started (by kernel_rfl) Tryz.func6
  (ChangeSpec.witness6 (enc:=enc) (C:=Tryz.checked) false ⟨#[],#[.slice none 0 0],[]⟩ 8 (by kernel_rfl) (by kernel_rfl) (by kernel_rfl) (by kernel_rfl)) ?_
 intro W base args ds gs before hval0 hW hcnd _
 have hval :∀(j:Nat) t v,Tryz.f6.params[j]? = some t→args[j]? = some v→Value.okWide Tryz.prog W .any base t v:=hval0
 have hW':=hW
 obtain ⟨p,q,hA0,hV,rfl,hfz,hnd⟩:=hW
 have hA:DataW.TrodAll enc Tryz.prog W 0 (fun _=>true) true Tryz.f6.params.toList args.toList ds p:=hA0
 rw [Tryz.params6] at hA hval
 obtain ⟨v0,d0,rfl,rfl,h0⟩:=trodAll_one hA
 obtain ⟨rfl,rfl⟩:=trodVars_none hV
 clear hA0 hval0
 simp only [List.append_nil] at hW'
 have hlt :∀x∈p,x.block < W.heap.size:=fun x hx=>by simpa using hW'.lt x hx
 have a0:=open_arg (hval 0 22 v0 rfl rfl) h0
 refine (law_any a0).mono fun e W' ⟨he,hk⟩=>?_
 subst he
 have hn:Below W.heap.size W W':=hk.below _ (fun _ _ h=>h) (Nat.le_refl _)
 have t0:=Below.trod laidOut (by kernel_rfl) (of_decide_eq_true (by kernel_rfl)) h0 hn hlt
 exact ⟨_,rfl,_,_,_,[],_,[],hW',trodAll_mk1 (shut_bool Tryz.underlying4 _),trodAll_mk1 t0,rfl,hn.frame _,fun h=>by cases h⟩
theorem over:Rows.fnSplitRow.holds Tryz.pinned (OpenSpec.ofChange Rows.fnSplitSpec) :=
 OpenClaim.holds_of_wide 6 Tryz.f6 rfl rfl rfl rfl rfl rfl rfl ⟨rfl,rfl,rfl,rfl,rfl⟩ rfl rfl rfl rfl rfl (by kernel_rfl) Tryz.func6 (by kernel_rfl)
  (of_decide_eq_true (by kernel_rfl)) (by unfold Func.isWrapper; first | (rw [if_pos (by decide +kernel)]; kernel_rfl) | (rw [if_neg (by decide +kernel)]; exact ⟨rfl,rfl⟩))
  (fun os started H enc _=>lifted os started H enc)
theorem proved:Rows.FnSplitSaid :=
 over
end Go.Proofs.YthkmmeamplmnhaaGreat.fnSplit
namespace Go.Proofs.YthkmmeamplmnhaaGreat
theorem split_law_holds:Rows.FnSplitSaid:=fnSplit.proved
#print axioms split_law_holds
end Go.Proofs.YthkmmeamplmnhaaGreat
