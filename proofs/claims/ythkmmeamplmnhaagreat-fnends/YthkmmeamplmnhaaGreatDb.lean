import Derived.Test.YthkmmeamplmnhaaGreatDa
import Derived.Test.YthkmmeamplmnhaaGreatA
namespace Go.Proofs.YthkmmeamplmnhaaGreat
open Go.RowKit
set_option linter.unusedVariables false
structure KnD (cs:List Nat) (K M:Nat):Prop where
 len:cs.length≤1048576
 two:K=M + M
 win :∀p,∃q,p≤q∧q + 100≤p + M∧win cs q
 big:16000 * M≤9223372036854775807
 low:1000≤M
theorem kn_is (cs:List Nat) (h:cs.length≤1048576) :∃K M,KnD cs K M :=
 ⟨1125899906842624,562949953421312,h,by decide,fun p=>win_near cs h p,by decide,by decide⟩
def Iv (K M p g j p1 g1:Nat):Prop:=g1≤g∧p < p1∧((g1=g∧p1 + j≤p + 16)∨(g1 < g∧p1 + j + g1 * K + M≤p + 16 + g * K))
theorem iv_start (K M p g:Nat):Iv K M p g 15 (p + 1) g:=by unfold Iv; omega
theorem iv_pick {K M p g j p1 g1:Nat} (h:Iv K M p g (j + 1) p1 g1):Iv K M p g j (p1 + 1) g1:=by unfold Iv at *; omega
theorem iv_less {K M p g j j' p1 g1:Nat} (h:Iv K M p g j p1 g1) (hj:j'≤j):Iv K M p g j' p1 g1:=by unfold Iv at *; omega
theorem iv_group {K M p g j p1 g1 pb gb:Nat} (hK:K=M + M) (h:Iv K M p g j p1 (g1 + 1)) (hg:gb≤g1) (hp:p1≤pb) (hb:pb + gb * K + 80≤g1 * K + p1 + M):Iv K M p g j pb gb:=by
 have e:(g1 + 1) * K=g1 * K + K:=Nat.succ_mul g1 K
 unfold Iv at *
 obtain ⟨h1,h2,h3⟩:=h
 refine ⟨by omega,by omega,Or.inr ⟨by omega,?_⟩⟩
 rcases h3 with ⟨h3,h4⟩ | ⟨h3,h4⟩
 ·subst h3
  omega
 ·omega
theorem iv_bound {K M p g j p1 g1:Nat} (h:Iv K M p g j p1 g1):p1 + j + g1 * K≤p + 16 + g * K:=by
 obtain ⟨h1,h2,h3⟩:=h
 rcases h3 with ⟨h3,h4⟩ | ⟨h3,h4⟩
 ·subst h3; omega
 ·omega
end Go.Proofs.YthkmmeamplmnhaaGreat
namespace Go.Proofs.YthkmmeamplmnhaaGreat
set_option linter.unusedVariables false
def bl (s:ByteArray):List Nat:=s.data.toList.map UInt8.toNat
theorem bl_append (a b:ByteArray):bl (a ++ b)=bl a ++ bl b:=by
 unfold bl
 rw [ByteArray.data_append]
 simp
theorem bl_len (s:ByteArray):(bl s).length=s.size:=by
 unfold bl
 rw [List.length_map,Array.length_toList]
 rfl
def AtB (s:ByteArray) (p:Nat) (l:List Nat):Prop :=∀i b,l[i]? = some b→bt s (p + i)=b
theorem AtB.left {s:ByteArray} {p:Nat} {a b:List Nat} (h:AtB s p (a ++ b)):AtB s p a:=fun i c hc=>by
 obtain ⟨hi,-⟩:=List.getElem?_eq_some_iff.1 hc
 exact h i c (by rw [List.getElem?_append_left hi]; exact hc)
theorem AtB.right {s:ByteArray} {p:Nat} {a b:List Nat} (h:AtB s p (a ++ b)):AtB s (p + a.length) b:=fun i c hc=>by
 rw [Nat.add_assoc]
 exact h _ c (by rw [List.getElem?_append_right (by omega)]; simpa using hc)
theorem AtB.head {s:ByteArray} {p c:Nat} {l:List Nat} (h:AtB s p (c :: l)):bt s p=c:=h 0 c rfl
theorem AtB.tail {s:ByteArray} {p c:Nat} {l:List Nat} (h:AtB s p (c :: l)):AtB s (p + 1) l:=fun i b hb=>by
 rw [Nat.add_assoc,Nat.add_comm 1 i]
 exact h (i + 1) b (by simpa using hb)
theorem atB_self (s:ByteArray):AtB s 0 (bl s):=fun i b hb=>by
 unfold bl at hb
 rw [List.getElem?_map] at hb
 rw [Nat.zero_add]
 cases h:s.data.toList[i]? with
 | none=>rw [h] at hb; simp at hb
 | some c =>
   rw [h] at hb
   simp at hb
   obtain ⟨hi,hc⟩:=List.getElem?_eq_some_iff.1 h
   have hi':i < s.size:=by rw [Array.length_toList] at hi; exact hi
   rw [bt_in hi',← hb,← hc]
   rfl
def fixT (pl:Bool):List (List Nat) := [[46],[91,97,98,93],[91,94,97,93],[91,97,45,99,93],[91,93,97,93],[91,94,93,93],[91,97,45,93],[91,92,119,45,93],[91,92,120,48,48,45,92,120,55,102,93],[91,94,92,115,92,100,93],[91,98,45,98,93],
 [92,100],[92,119],[92,115],[92,110],[92,92],[92,46],[92,120,54,49],[92,40],[92,45],[97],[98],[99]] ++ (if pl then [] else [[94],[36]])
def quaT:List (List Nat) := [[42],[43],[63],[123,50,125],[123,48,125],[123,49,44,125],[123,48,44,50,125],[123,49,44,51,125],[123,48,44,48,125],[123,50,44,50,125]]
inductive Sh where
 | atom
 | seq
 | pat
inductive Dr (pl:Bool):Sh→Nat→Nat→List Nat→Nat→Prop where
 | fix {d g:Nat} {l:List Nat}:l∈fixT pl→Dr pl .atom d g l g
 | grp {d g g':Nat} {y:List Nat}:Dr pl .pat d g y g'→Dr pl .atom (d + 1) (g + 1) (40 :: (y ++ [41])) g'
 | nil {d g:Nat}:Dr pl .seq d g [] g
 | bare {d g g1 g2:Nat} {t x:List Nat}:Dr pl .seq d g t g1→Dr pl .atom d g1 x g2→Dr pl .seq d g (t ++ x) g2
 | cnt {d g g1 g2:Nat} {t x q:List Nat}:Dr pl .seq d g t g1→Dr pl .atom d g1 x g2→q∈quaT→Dr pl .seq d g (t ++ (x ++ q)) g2
 | lzy {d g g1 g2:Nat} {t x q:List Nat}:Dr pl .seq d g t g1→Dr pl .atom d g1 x g2→q∈quaT→Dr pl .seq d g (t ++ (x ++ (q ++ [63]))) g2
 | one {d g g':Nat} {t:List Nat}:Dr pl .seq d g t g'→Dr pl .pat d g t g'
 | bar {d g g1 g2:Nat} {t y:List Nat}:Dr pl .seq d g t g1→Dr pl .pat d g1 y g2→Dr pl .pat d g (t ++ (124 :: y)) g2
def stop3 (b:Nat):Prop:=b=256∨b=124∨b=41
def free4 (b:Nat):Prop:=b≠42∧b≠43∧b≠63∧b≠123
theorem dr_le {pl:Bool} {k:Sh} {d g g':Nat} {l:List Nat} (h:Dr pl k d g l g'):g'≤g:=by
 induction h with
 | fix _=>exact Nat.le_refl _
 | grp _ ih=>omega
 | nil=>exact Nat.le_refl _
 | bare _ _ a b=>omega
 | cnt _ _ _ a b=>omega
 | lzy _ _ _ a b=>omega
 | one _ ih=>exact ih
 | bar _ _ a b=>omega
theorem dr_first {pl:Bool} {k:Sh} {d g g':Nat} {l:List Nat} (h:Dr pl k d g l g'):(∃(e:k = .atom),∃c r,l=c :: r∧c < 256∧c≠124∧c≠41∧free4 c)∨k≠.atom:=by
 cases h with
 | fix h =>
   refine Or.inl ⟨rfl,?_⟩
   have hd :∀l∈fixT false,∃c r,l=c :: r∧c < 256∧c≠124∧c≠41∧free4 c:=by
    intro l hl
    simp only [fixT,List.mem_append,List.mem_cons,List.not_mem_nil,or_false,Bool.false_eq_true,if_false] at hl
    rcases hl with (rfl | rfl | rfl | rfl | rfl | rfl | rfl | rfl | rfl | rfl | rfl | rfl | rfl | rfl | rfl | rfl | rfl | rfl | rfl | rfl | rfl | rfl | rfl) | (rfl | rfl) <;> exact ⟨_,_,rfl,by decide,by decide,by decide,by unfold free4; decide⟩
   apply hd
   unfold fixT at h ⊢
   cases pl
   ·exact h
   ·simp only [if_true,List.append_nil] at h
    exact List.mem_append_left _ h
 | grp _=>exact Or.inl ⟨rfl,_,_,rfl,by decide,by decide,by decide,by unfold free4; decide⟩
 | nil=>exact Or.inr (by simp)
 | bare _ _=>exact Or.inr (by simp)
 | cnt _ _ _=>exact Or.inr (by simp)
 | lzy _ _ _=>exact Or.inr (by simp)
 | one _=>exact Or.inr (by simp)
 | bar _ _=>exact Or.inr (by simp)
theorem atom_fix {alt:Nat→Nat→Rd3} {room:Bool} {s:ByteArray} {p g:Nat} {l:List Nat} (hl:l∈fixT false) (h:AtB s p l) :∃f,atomRef alt room s p g = .ok (f,p + l.length,g):=by
 simp only [fixT,List.mem_append,List.mem_cons,List.not_mem_nil,or_false,Bool.false_eq_true,if_false] at hl
 rcases hl with (rfl | rfl | rfl | rfl | rfl | rfl | rfl | rfl | rfl | rfl | rfl | rfl | rfl | rfl | rfl | rfl | rfl | rfl | rfl | rfl | rfl | rfl | rfl) | (rfl | rfl)
 ·have e0:bt s (p)=46:=h 0 _ rfl
  simp [atomRef,e0]
 ·have e0:bt s (p)=91:=h 0 _ rfl
  have e1:bt s (p + 1)=97:=h 1 _ rfl
  have e2:bt s (p + 2)=98:=h 2 _ rfl
  have e3:bt s (p + 3)=93:=h 3 _ rfl
  have hz:p + 3 < s.size:=bt_some e3 (by decide)
  obtain ⟨m,hm⟩ :∃m,s.size=m + 2:=⟨s.size - 2,by omega⟩
  simp [atomRef,classRef,classLoop,itemRef,partRef,Nat.add_assoc,e0,e1,e2,e3,hm]
 ·have e0:bt s (p)=91:=h 0 _ rfl
  have e1:bt s (p + 1)=94:=h 1 _ rfl
  have e2:bt s (p + 2)=97:=h 2 _ rfl
  have e3:bt s (p + 3)=93:=h 3 _ rfl
  have hz:p + 3 < s.size:=bt_some e3 (by decide)
  obtain ⟨m,hm⟩ :∃m,s.size=m + 2:=⟨s.size - 2,by omega⟩
  simp [atomRef,classRef,classLoop,itemRef,partRef,Nat.add_assoc,e0,e1,e2,e3,hm]
 ·have e0:bt s (p)=91:=h 0 _ rfl
  have e1:bt s (p + 1)=97:=h 1 _ rfl
  have e2:bt s (p + 2)=45:=h 2 _ rfl
  have e3:bt s (p + 3)=99:=h 3 _ rfl
  have e4:bt s (p + 4)=93:=h 4 _ rfl
  have hz:p + 4 < s.size:=bt_some e4 (by decide)
  obtain ⟨m,hm⟩ :∃m,s.size=m + 3:=⟨s.size - 3,by omega⟩
  simp [atomRef,classRef,classLoop,itemRef,partRef,Nat.add_assoc,e0,e1,e2,e3,e4,hm]
 ·have e0:bt s (p)=91:=h 0 _ rfl
  have e1:bt s (p + 1)=93:=h 1 _ rfl
  have e2:bt s (p + 2)=97:=h 2 _ rfl
  have e3:bt s (p + 3)=93:=h 3 _ rfl
  have hz:p + 3 < s.size:=bt_some e3 (by decide)
  obtain ⟨m,hm⟩ :∃m,s.size=m + 2:=⟨s.size - 2,by omega⟩
  simp [atomRef,classRef,classLoop,itemRef,partRef,Nat.add_assoc,e0,e1,e2,e3,hm]
 ·have e0:bt s (p)=91:=h 0 _ rfl
  have e1:bt s (p + 1)=94:=h 1 _ rfl
  have e2:bt s (p + 2)=93:=h 2 _ rfl
  have e3:bt s (p + 3)=93:=h 3 _ rfl
  have hz:p + 3 < s.size:=bt_some e3 (by decide)
  obtain ⟨m,hm⟩ :∃m,s.size=m + 2:=⟨s.size - 2,by omega⟩
  simp [atomRef,classRef,classLoop,itemRef,partRef,Nat.add_assoc,e0,e1,e2,e3,hm]
 ·have e0:bt s (p)=91:=h 0 _ rfl
  have e1:bt s (p + 1)=97:=h 1 _ rfl
  have e2:bt s (p + 2)=45:=h 2 _ rfl
  have e3:bt s (p + 3)=93:=h 3 _ rfl
  have hz:p + 3 < s.size:=bt_some e3 (by decide)
  obtain ⟨m,hm⟩ :∃m,s.size=m + 2:=⟨s.size - 2,by omega⟩
  simp [atomRef,classRef,classLoop,itemRef,partRef,Nat.add_assoc,e0,e1,e2,e3,hm]
 ·have e0:bt s (p)=91:=h 0 _ rfl
  have e1:bt s (p + 1)=92:=h 1 _ rfl
  have e2:bt s (p + 2)=119:=h 2 _ rfl
  have e3:bt s (p + 3)=45:=h 3 _ rfl
  have e4:bt s (p + 4)=93:=h 4 _ rfl
  have hz:p + 4 < s.size:=bt_some e4 (by decide)
  obtain ⟨m,hm⟩ :∃m,s.size=m + 3:=⟨s.size - 3,by omega⟩
  simp [atomRef,classRef,classLoop,itemRef,partRef,escRef,Nat.add_assoc,e0,e1,e2,e3,e4,hm]
 ·have e0:bt s (p)=91:=h 0 _ rfl
  have e1:bt s (p + 1)=92:=h 1 _ rfl
  have e2:bt s (p + 2)=120:=h 2 _ rfl
  have e3:bt s (p + 3)=48:=h 3 _ rfl
  have e4:bt s (p + 4)=48:=h 4 _ rfl
  have e5:bt s (p + 5)=45:=h 5 _ rfl
  have e6:bt s (p + 6)=92:=h 6 _ rfl
  have e7:bt s (p + 7)=120:=h 7 _ rfl
  have e8:bt s (p + 8)=55:=h 8 _ rfl
  have e9:bt s (p + 9)=102:=h 9 _ rfl
  have e10:bt s (p + 10)=93:=h 10 _ rfl
  have hz:p + 10 < s.size:=bt_some e10 (by decide)
  obtain ⟨m,hm⟩ :∃m,s.size=m + 7:=⟨s.size - 7,by omega⟩
  simp [atomRef,classRef,classLoop,itemRef,partRef,escRef,hexv,Nat.add_assoc,e0,e1,e2,e3,e4,e5,e6,e7,e8,e9,e10,hm]
 ·have e0:bt s (p)=91:=h 0 _ rfl
  have e1:bt s (p + 1)=94:=h 1 _ rfl
  have e2:bt s (p + 2)=92:=h 2 _ rfl
  have e3:bt s (p + 3)=115:=h 3 _ rfl
  have e4:bt s (p + 4)=92:=h 4 _ rfl
  have e5:bt s (p + 5)=100:=h 5 _ rfl
  have e6:bt s (p + 6)=93:=h 6 _ rfl
  have hz:p + 6 < s.size:=bt_some e6 (by decide)
  obtain ⟨m,hm⟩ :∃m,s.size=m + 7:=⟨s.size - 7,by omega⟩
  simp [atomRef,classRef,classLoop,itemRef,partRef,escRef,Nat.add_assoc,e0,e1,e2,e3,e4,e5,e6,hm]
 ·have e0:bt s (p)=91:=h 0 _ rfl
  have e1:bt s (p + 1)=98:=h 1 _ rfl
  have e2:bt s (p + 2)=45:=h 2 _ rfl
  have e3:bt s (p + 3)=98:=h 3 _ rfl
  have e4:bt s (p + 4)=93:=h 4 _ rfl
  have hz:p + 4 < s.size:=bt_some e4 (by decide)
  obtain ⟨m,hm⟩ :∃m,s.size=m + 3:=⟨s.size - 3,by omega⟩
  simp [atomRef,classRef,classLoop,itemRef,partRef,Nat.add_assoc,e0,e1,e2,e3,e4,hm]
 ·have e0:bt s (p)=92:=h 0 _ rfl
  have e1:bt s (p + 1)=100:=h 1 _ rfl
  simp [atomRef,escRef,Nat.add_assoc,e0,e1]
 ·have e0:bt s (p)=92:=h 0 _ rfl
  have e1:bt s (p + 1)=119:=h 1 _ rfl
  simp [atomRef,escRef,Nat.add_assoc,e0,e1]
 ·have e0:bt s (p)=92:=h 0 _ rfl
  have e1:bt s (p + 1)=115:=h 1 _ rfl
  simp [atomRef,escRef,Nat.add_assoc,e0,e1]
 ·have e0:bt s (p)=92:=h 0 _ rfl
  have e1:bt s (p + 1)=110:=h 1 _ rfl
  simp [atomRef,escRef,Nat.add_assoc,e0,e1]
 ·have e0:bt s (p)=92:=h 0 _ rfl
  have e1:bt s (p + 1)=92:=h 1 _ rfl
  simp [atomRef,escRef,letter,digit,printed,Nat.add_assoc,e0,e1]
 ·have e0:bt s (p)=92:=h 0 _ rfl
  have e1:bt s (p + 1)=46:=h 1 _ rfl
  simp [atomRef,escRef,letter,digit,printed,Nat.add_assoc,e0,e1]
 ·have e0:bt s (p)=92:=h 0 _ rfl
  have e1:bt s (p + 1)=120:=h 1 _ rfl
  have e2:bt s (p + 2)=54:=h 2 _ rfl
  have e3:bt s (p + 3)=49:=h 3 _ rfl
  simp [atomRef,escRef,hexv,Nat.add_assoc,e0,e1,e2,e3]
 ·have e0:bt s (p)=92:=h 0 _ rfl
  have e1:bt s (p + 1)=40:=h 1 _ rfl
  simp [atomRef,escRef,letter,digit,printed,Nat.add_assoc,e0,e1]
 ·have e0:bt s (p)=92:=h 0 _ rfl
  have e1:bt s (p + 1)=45:=h 1 _ rfl
  simp [atomRef,escRef,letter,digit,printed,Nat.add_assoc,e0,e1]
 ·have e0:bt s (p)=97:=h 0 _ rfl
  simp [atomRef,e0]
 ·have e0:bt s (p)=98:=h 0 _ rfl
  simp [atomRef,e0]
 ·have e0:bt s (p)=99:=h 0 _ rfl
  simp [atomRef,e0]
 ·have e0:bt s (p)=94:=h 0 _ rfl
  simp [atomRef,e0]
 ·have e0:bt s (p)=36:=h 0 _ rfl
  simp [atomRef,e0]
theorem cnt_qua {s:ByteArray} {p:Nat} {q:List Nat} (hq:q∈quaT) (h:AtB s p q) :∃lo hi,cntRef s p = .ok (some (lo,hi),p + q.length):=by
 simp only [quaT,List.mem_cons,List.not_mem_nil,or_false] at hq
 rcases hq with rfl | rfl | rfl | rfl | rfl | rfl | rfl | rfl | rfl | rfl
 ·have e0:bt s (p)=42:=h 0 _ rfl
  simp [cntRef,e0]
 ·have e0:bt s (p)=43:=h 0 _ rfl
  simp [cntRef,e0]
 ·have e0:bt s (p)=63:=h 0 _ rfl
  simp [cntRef,e0]
 ·have e0:bt s (p)=123:=h 0 _ rfl
  have e1:bt s (p + 1)=50:=h 1 _ rfl
  have e2:bt s (p + 2)=125:=h 2 _ rfl
  have hz:p + 2 < s.size:=bt_some e2 (by decide)
  obtain ⟨m,hm⟩ :∃m,s.size=m + 2:=⟨s.size - 2,by omega⟩
  simp [cntRef,countsRef,numRef,numLoop,digit,Nat.add_assoc,e0,e1,e2,hm]
 ·have e0:bt s (p)=123:=h 0 _ rfl
  have e1:bt s (p + 1)=48:=h 1 _ rfl
  have e2:bt s (p + 2)=125:=h 2 _ rfl
  have hz:p + 2 < s.size:=bt_some e2 (by decide)
  obtain ⟨m,hm⟩ :∃m,s.size=m + 2:=⟨s.size - 2,by omega⟩
  simp [cntRef,countsRef,numRef,numLoop,digit,Nat.add_assoc,e0,e1,e2,hm]
 ·have e0:bt s (p)=123:=h 0 _ rfl
  have e1:bt s (p + 1)=49:=h 1 _ rfl
  have e2:bt s (p + 2)=44:=h 2 _ rfl
  have e3:bt s (p + 3)=125:=h 3 _ rfl
  have hz:p + 3 < s.size:=bt_some e3 (by decide)
  obtain ⟨m,hm⟩ :∃m,s.size=m + 2:=⟨s.size - 2,by omega⟩
  simp [cntRef,countsRef,numRef,numLoop,digit,Nat.add_assoc,e0,e1,e2,e3,hm]
 ·have e0:bt s (p)=123:=h 0 _ rfl
  have e1:bt s (p + 1)=48:=h 1 _ rfl
  have e2:bt s (p + 2)=44:=h 2 _ rfl
  have e3:bt s (p + 3)=50:=h 3 _ rfl
  have e4:bt s (p + 4)=125:=h 4 _ rfl
  have hz:p + 4 < s.size:=bt_some e4 (by decide)
  obtain ⟨m,hm⟩ :∃m,s.size=m + 2:=⟨s.size - 2,by omega⟩
  simp [cntRef,countsRef,numRef,numLoop,digit,Nat.add_assoc,e0,e1,e2,e3,e4,hm]
 ·have e0:bt s (p)=123:=h 0 _ rfl
  have e1:bt s (p + 1)=49:=h 1 _ rfl
  have e2:bt s (p + 2)=44:=h 2 _ rfl
  have e3:bt s (p + 3)=51:=h 3 _ rfl
  have e4:bt s (p + 4)=125:=h 4 _ rfl
  have hz:p + 4 < s.size:=bt_some e4 (by decide)
  obtain ⟨m,hm⟩ :∃m,s.size=m + 2:=⟨s.size - 2,by omega⟩
  simp [cntRef,countsRef,numRef,numLoop,digit,Nat.add_assoc,e0,e1,e2,e3,e4,hm]
 ·have e0:bt s (p)=123:=h 0 _ rfl
  have e1:bt s (p + 1)=48:=h 1 _ rfl
  have e2:bt s (p + 2)=44:=h 2 _ rfl
  have e3:bt s (p + 3)=48:=h 3 _ rfl
  have e4:bt s (p + 4)=125:=h 4 _ rfl
  have hz:p + 4 < s.size:=bt_some e4 (by decide)
  obtain ⟨m,hm⟩ :∃m,s.size=m + 2:=⟨s.size - 2,by omega⟩
  simp [cntRef,countsRef,numRef,numLoop,digit,Nat.add_assoc,e0,e1,e2,e3,e4,hm]
 ·have e0:bt s (p)=123:=h 0 _ rfl
  have e1:bt s (p + 1)=50:=h 1 _ rfl
  have e2:bt s (p + 2)=44:=h 2 _ rfl
  have e3:bt s (p + 3)=50:=h 3 _ rfl
  have e4:bt s (p + 4)=125:=h 4 _ rfl
  have hz:p + 4 < s.size:=bt_some e4 (by decide)
  obtain ⟨m,hm⟩ :∃m,s.size=m + 2:=⟨s.size - 2,by omega⟩
  simp [cntRef,countsRef,numRef,numLoop,digit,Nat.add_assoc,e0,e1,e2,e3,e4,hm]
theorem cnt_free {s:ByteArray} {p:Nat} (h:free4 (bt s p)):cntRef s p = .ok (none,p):=by
 unfold cntRef
 rw [if_neg h.1,if_neg h.2.1,if_neg h.2.2.1,if_neg h.2.2.2]
def altD (s:ByteArray):Nat→Nat→Nat→Rd3
 | 0=>fun _ _ => .error 0
 | d + 1=>altRef s d
def roomD:Nat→Bool
 | 0=>false
 | _ + 1=>true
theorem altRef_D (s:ByteArray) (d p g:Nat):altRef s d p g=altOf (altD s d) (roomD d) s p g:=by cases d <;> rfl
theorem stop_free {b:Nat} (h:stop3 b):free4 b:=by unfold stop3 at h; unfold free4; omega
theorem seq_stop {alt:Nat→Nat→Rd3} {room:Bool} {s:ByteArray} {fu p g:Nat} {fs:List Pf} (h:stop3 (bt s p)):seqLoop alt room s (fu + 1) p g fs = .ok (fs,p,g):=by
 unfold stop3 at h
 simp only [seqLoop]
 rw [if_neg (by omega)]
theorem seq_step {alt:Nat→Nat→Rd3} {room:Bool} {s:ByteArray} {fu p q g g':Nat} {fs:List Pf} {f:Pf} (h1:bt s p < 256) (h2:bt s p≠124) (h3:bt s p≠41) (h:pieceRef alt room s p g = .ok (f,q,g')):seqLoop alt room s (fu + 1) p g fs=seqLoop alt room s fu q g' (fs ++ [f]):=by
 simp only [seqLoop]
 rw [if_pos (by omega),h]
def SayD (pl:Bool) (k:Sh) (d g:Nat) (l:List Nat) (g':Nat):Prop :=∀(s:ByteArray) (p D:Nat),AtB s p l→d≤D→g≤9→p + l.length≤s.size→
 match k with
 | .atom =>∃f,atomRef (altD s D) (roomD D) s p (9 - g) = .ok (f,p + l.length,9 - g')
 | .seq=>free4 (bt s (p + l.length))→∃(fs':List Pf) (n:Nat),n≤l.length∧∀fu fs,seqLoop (altD s D) (roomD D) s (fu + n) p (9 - g) fs=seqLoop (altD s D) (roomD D) s fu (p + l.length) (9 - g') (fs ++ fs')
 | .pat=>(bt s (p + l.length)=256∨bt s (p + l.length)=41)→(∃f,altOf (altD s D) (roomD D) s p (9 - g) = .ok (f,p + l.length,9 - g'))∧
   ∀fu fs r,p=r + 1→bt s r=124→l.length + 2≤fu→∃fs',altLoop (altD s D) (roomD D) s fu r (9 - g) fs = .ok (fs',p + l.length,9 - g')
theorem seq_ref {alt:Nat→Nat→Rd3} {room:Bool} {s:ByteArray} {p g g' n:Nat} {l:List Nat} {fs':List Pf} (hp:p + l.length≤s.size) (hn:n≤l.length) (hs:stop3 (bt s (p + l.length))) (h :∀fu fs,seqLoop alt room s (fu + n) p g fs=seqLoop alt room s fu (p + l.length) g' (fs ++ fs')):seqRef alt room s p g = .ok (seqPf fs',p + l.length,g'):=by
 unfold seqRef
 obtain ⟨m,hm⟩ :∃m,s.size + 1=(m + 1) + n:=⟨s.size - n,by omega⟩
 rw [hm,h,seq_stop hs]
 simp
theorem say_all {pl:Bool} {k:Sh} {d g g':Nat} {l:List Nat} (h:Dr pl k d g l g'):SayD pl k d g l g':=by
 induction h with
 | @fix d g l hl =>
   intro s p D hA hD hg hp
   simp only
   refine atom_fix ?_ hA
   unfold fixT at hl ⊢
   cases pl
   ·exact hl
   ·simp only [if_true,List.append_nil] at hl
    exact List.mem_append_left _ hl
 | @grp d g g' y hy ih =>
   intro s p D hA hD hg hp
   simp only
   obtain ⟨D',rfl⟩ :∃D',D=D' + 1:=⟨D - 1,by omega⟩
   have hl:(40 :: (y ++ [41])).length=y.length + 2:=by simp
   rw [hl] at hp ⊢
   have h1:=hA.head
   have h2:=hA.tail
   have h3:=h2.right.head
   obtain ⟨⟨f,hf⟩,-⟩:=ih s (p + 1) D' h2.left (by omega) (by omega) (by omega) (Or.inr h3)
   refine ⟨grpPf (((9 - (g + 1):Nat):Int) + 1) f,?_⟩
   unfold atomRef
   rw [if_pos h1,if_neg (by simp [roomD]; omega)]
   have e:altD s (D' + 1) (p + 1) (9 - (g + 1) + 1) = .ok (f,p + 1 + y.length,9 - g'):=by
    show altRef s D' (p + 1) (9 - (g + 1) + 1) = _
    rw [altRef_D,show 9 - (g + 1) + 1=9 - g by omega]
    exact hf
   rw [e]
   simp only
   rw [if_pos h3,show p + 1 + y.length + 1=p + (y.length + 2) by omega]
 | nil =>
   intro s p D hA hD hg hp
   exact fun _=>⟨[],0,by simp,fun fu fs=>by simp⟩
 | @bare d g g1 g2 t x ht hx iht ihx =>
   intro s p D hA hD hg hp hfr
   rw [List.length_append] at hp hfr ⊢
   have hg1:=dr_le ht
   rcases dr_first hx with ⟨_,c,r,hxc,c1,c2,c3,c4⟩ | hno
   ·have hc:bt s (p + t.length)=c:=by have:=hA.right; rw [hxc] at this; exact this.head
    obtain ⟨fs',n,hn,hs⟩:=iht s p D hA.left hD hg (by omega) (by rw [hc]; exact c4)
    obtain ⟨f,hf⟩:=ihx s (p + t.length) D hA.right hD (by omega) (by omega)
    have hxl:0 < x.length:=by rw [hxc]; simp
    refine ⟨fs' ++ [f],n + 1,by omega,fun fu fs=>?_⟩
    rw [show fu + (n + 1)=(fu + 1) + n by omega,hs,seq_step (f:=f) (q:=p + (t.length + x.length)) (g':=9 - g2) (by omega) (by omega) (by omega) ?_,List.append_assoc]
    unfold pieceRef
    rw [hf]
    simp only
    rw [cnt_free (by rw [Nat.add_assoc]; exact hfr),Nat.add_assoc]
   ·exact absurd rfl hno
 | @cnt d g g1 g2 t x q ht hx hq iht ihx =>
   intro s p D hA hD hg hp hfr
   rw [List.length_append,List.length_append] at hp hfr ⊢
   have hg1:=dr_le ht
   rcases dr_first hx with ⟨_,c,r,hxc,c1,c2,c3,c4⟩ | hno
   ·have hc:bt s (p + t.length)=c:=by have:=hA.right.left; rw [hxc] at this; exact this.head
    obtain ⟨fs',n,hn,hs⟩:=iht s p D hA.left hD hg (by omega) (by rw [hc]; exact c4)
    obtain ⟨f,hf⟩:=ihx s (p + t.length) D hA.right.left hD (by omega) (by omega)
    obtain ⟨lo,hi,hcn⟩:=cnt_qua hq hA.right.right
    have hxl:0 < x.length:=by rw [hxc]; simp
    refine ⟨fs' ++ [repPf lo hi false f],n + 1,by omega,fun fu fs=>?_⟩
    rw [show fu + (n + 1)=(fu + 1) + n by omega,hs,seq_step (f:=repPf lo hi false f) (q:=p + (t.length + (x.length + q.length))) (g':=9 - g2) (by omega) (by omega) (by omega) ?_,List.append_assoc]
    unfold pieceRef
    rw [hf]
    simp only
    rw [hcn]
    simp only
    have e:p + t.length + x.length + q.length=p + (t.length + (x.length + q.length)):=by omega
    rw [e,if_neg hfr.2.2.1]
   ·exact absurd rfl hno
 | @lzy d g g1 g2 t x q ht hx hq iht ihx =>
   intro s p D hA hD hg hp hfr
   rw [List.length_append,List.length_append,List.length_append] at hp hfr ⊢
   simp only [List.length_cons,List.length_nil] at hp hfr ⊢
   have hg1:=dr_le ht
   rcases dr_first hx with ⟨_,c,r,hxc,c1,c2,c3,c4⟩ | hno
   ·have hc:bt s (p + t.length)=c:=by have:=hA.right.left; rw [hxc] at this; exact this.head
    obtain ⟨fs',n,hn,hs⟩:=iht s p D hA.left hD hg (by omega) (by rw [hc]; exact c4)
    obtain ⟨f,hf⟩:=ihx s (p + t.length) D hA.right.left hD (by omega) (by omega)
    obtain ⟨lo,hi,hcn⟩:=cnt_qua hq hA.right.right.left
    have h63:=hA.right.right.right.head
    have hxl:0 < x.length:=by rw [hxc]; simp
    refine ⟨fs' ++ [repPf lo hi true f],n + 1,by omega,fun fu fs=>?_⟩
    rw [show fu + (n + 1)=(fu + 1) + n by omega,hs,seq_step (f:=repPf lo hi true f) (q:=p + (t.length + (x.length + (q.length + (0 + 1))))) (g':=9 - g2) (by omega) (by omega) (by omega) ?_,List.append_assoc]
    unfold pieceRef
    rw [hf]
    simp only
    rw [hcn]
    simp only
    rw [if_pos h63]
    congr 3
    omega
   ·exact absurd rfl hno
 | @one d g g' t ht iht =>
   intro s p D hA hD hg hp hst
   have hst3:stop3 (bt s (p + t.length)):=by unfold stop3; omega
   obtain ⟨fs',n,hn,hs⟩:=iht s p D hA hD hg hp (stop_free hst3)
   have hr:=seq_ref hp hn hst3 hs
   refine ⟨⟨seqPf fs',?_⟩,fun fu fs r hpr hb hfu=>?_⟩
   ·unfold altOf
    rw [hr]
    simp only
    rw [if_neg (by omega)]
   ·obtain ⟨m,rfl⟩ :∃m,fu=m + 2:=⟨fu - 2,by omega⟩
    subst hpr
    refine ⟨fs ++ [seqPf fs'],?_⟩
    simp only [altLoop]
    rw [if_pos hb,hr]
    simp only
    rw [if_neg (by omega)]
 | @bar d g g1 g2 t y ht hy iht ihy =>
   intro s p D hA hD hg hp hst
   rw [List.length_append,List.length_cons] at hp hst ⊢
   have hg1:=dr_le ht
   have h124:=hA.right.head
   have hst3:stop3 (bt s (p + t.length)):=by unfold stop3; omega
   obtain ⟨fs',n,hn,hs⟩:=iht s p D hA.left hD hg (by omega) (stop_free hst3)
   have hr:=seq_ref (by omega) hn hst3 hs
   have e:p + t.length + 1 + y.length=p + (t.length + (y.length + 1)):=by omega
   obtain ⟨-,hB⟩:=ihy s (p + t.length + 1) D hA.right.tail hD (by omega) (by omega) (by rw [e]; exact hst)
   refine ⟨?_,fun fu fs r hpr hb hfu=>?_⟩
   ·obtain ⟨fs2,h2⟩:=hB (s.size + 1) [seqPf fs'] (p + t.length) rfl h124 (by omega)
    refine ⟨altPf fs2,?_⟩
    unfold altOf
    rw [hr]
    simp only
    rw [if_pos h124,h2]
    simp only
    rw [e]
   ·obtain ⟨m,rfl⟩ :∃m,fu=m + 1:=⟨fu - 1,by omega⟩
    subst hpr
    obtain ⟨fs2,h2⟩:=hB m (fs ++ [seqPf fs']) (r + 1 + t.length) rfl h124 (by omega)
    refine ⟨fs2,?_⟩
    simp only [altLoop]
    rw [if_pos hb,hr]
    simp only
    rw [h2,e]
theorem dr_read {pl:Bool} {s:ByteArray} {g':Nat} (h:Dr pl .pat 3 9 (bl s) g') (hs:s.size≤120) :∃f,altRef s 6 0 0 = .ok (f,s.size,9 - g'):=by
 obtain ⟨⟨f,hf⟩,-⟩:=say_all h s 0 6 (atB_self s) (by decide) (Nat.le_refl _) (by rw [bl_len]; omega) (Or.inl (by rw [bl_len]; exact bt_out (by omega)))
 refine ⟨f,?_⟩
 rw [altRef_D,hf,bl_len,Nat.zero_add]
end Go.Proofs.YthkmmeamplmnhaaGreat
namespace Go.Proofs.YthkmmeamplmnhaaGreat
open Go.RowKit
set_option linter.unusedVariables false
def VPatPost (cs:List Nat) (K:Nat) (R:Nat) (ao:Option Addr) (cap p g B:Nat) (pl:Bool) (dp:Int) (w:World) (e:Ending) (w':World):Prop :=
 ∃(t:ByteArray) (g' p':Nat),e = .returned (.tuple #[.string t,.int .i64 (g':Int)])∧g'≤g∧p≤p'∧p' + g' * K≤B∧t.size + 20 * p≤20 * p'∧Dw w' R ao cs cap p'∧Keeps (fun k=>k=R) w w'∧Dr pl .pat dp.toNat g (bl t) g'
def VPatC (cs:List Nat) (K M g n:Nat):Prop :=
 ∀ (w:World) (R cap p q:Nat) (ao:Option Addr) (deep:Int) (plain:Bool),Dw w R ao cs cap p→p≤q→q≤p + n→win cs q→g * K + q + 17≤256 * M→g≤9→0≤deep→deep≤3→
   Calls Tryz.prog 52 #[.pointer (some ⟨R,0,none⟩),.int .i64 deep,.int .i64 (g:Int),.bool plain] w (VPatPost cs K R ao cap p g (g * K + q + 17) plain deep w)
theorem vpat_group {cs:List Nat} {K M:Nat} (hN:KnD cs K M) {g1:Nat} (ih :∀n,VPatC cs K M g1 n) {w:World} {R cap p1:Nat} {ao:Option Addr} {deep:Int} {plain:Bool} (hD:Dw w R ao cs cap p1) (hB:g1 * K + p1 + M≤256 * M) (hg:g1≤9) (h0:0≤deep) (h3:deep≤3) :
  Calls Tryz.prog 52 #[.pointer (some ⟨R,0,none⟩),.int .i64 deep,.int .i64 (g1:Int),.bool plain] w fun e w' =>∃(t:ByteArray) (gb pb:Nat),e = .returned (.tuple #[.string t,.int .i64 (gb:Int)])∧gb≤g1∧p1≤pb∧pb + gb * K + 80≤g1 * K + p1 + M∧t.size + 20 * p1≤20 * pb∧Dw w' R ao cs cap pb∧Keeps (fun k=>k=R) w w'∧Dr plain .pat deep.toNat g1 (bl t) gb:=by
 obtain ⟨q,h1,h2,hw⟩:=hN.win p1
 refine (ih (q - p1) w R cap p1 q ao deep plain hD h1 (by omega) hw (by omega) hg h0 h3).mono ?_
 rintro e w' ⟨t,g',p',he,a,b,c,d,f,k,v⟩
 exact ⟨t,g',p',he,a,b,by omega,d,f,k,v⟩
theorem vpat_tail {cs:List Nat} {K M:Nat} (hN:KnD cs K M) {g n p q p1 g1:Nat} (ih1 :∀g2,g2 < g→∀n,VPatC cs K M g2 n) (ih2 :∀n2,n2 < n→VPatC cs K M g n2) {w:World} {R cap:Nat} {ao:Option Addr} {deep:Int} {plain:Bool} (hI:Iv K M p g 0 p1 g1) (hpq:p≤q) (hqn:q≤p + n) (hw:win cs q) (hd:dr cs p1 % 6=0) (hD:Dw w R ao cs cap (p1 + 1)) (hB:g * K + q + 17≤256 * M) (hg9:g≤9) (h0:0≤deep) (h3:deep≤3) :
  Calls Tryz.prog 52 #[.pointer (some ⟨R,0,none⟩),.int .i64 deep,.int .i64 (g1:Int),.bool plain] w fun e w' =>∃(t:ByteArray) (gb pb:Nat),e = .returned (.tuple #[.string t,.int .i64 (gb:Int)])∧gb≤g∧p1 + 1≤pb∧pb + gb * K≤g * K + q + 17∧t.size + 20 * (p1 + 1)≤20 * pb∧Dw w' R ao cs cap pb∧Keeps (fun k=>k=R) w w'∧Dr plain .pat deep.toNat g1 (bl t) gb:=by
 have hlow:=hN.low
 obtain ⟨hg,hp,h | h⟩:=hI
 ·obtain ⟨rfl,h⟩:=h
  have hlt:p1 < q:=by
   apply Decidable.byContradiction
   intro hn
   have:=hw (p1 - q) (by omega)
   rw [show q + (p1 - q)=p1 by omega] at this
   exact this hd
  refine (ih2 (n - 1) (by omega) w R cap (p1 + 1) q ao deep plain hD (by omega) (by omega) hw hB hg9 h0 h3).mono ?_
  rintro e w' ⟨t,g',p',he,a,b,c,d,f,k,v⟩
  exact ⟨t,g',p',he,a,b,c,d,f,k,v⟩
 ·refine (vpat_group hN (ih1 g1 h.1) hD (by omega) (by omega) h0 h3).mono ?_
  rintro e w' ⟨t,gb,pb,he,a,b,c,d,f,k,v⟩
  exact ⟨t,gb,pb,he,by omega,b,by omega,d,f,k,v⟩
end Go.Proofs.YthkmmeamplmnhaaGreat
