import Derived.Test.YthkmmeamplmnhaaGreatN
namespace Go.Proofs.YthkmmeamplmnhaaGreat
open Go.RowKit
set_option linter.unusedVariables false
def Rc (w:World) (R:Nat) (s:ByteArray) (a g d:Int):Prop :=
 w.heap[R]? = some (.cells #[.string s,.int .i64 a,.int .i64 g,.int .i64 d] 108 (0,0))
namespace Rc
variable {w:World} {R:Nat} {s:ByteArray} {a g d:Int}
theorem lt (h:Rc w R s a g d):R < w.heap.size:=lt_of_block h
theorem c0 (h:Rc w R s a g d):w.cell? ⟨R,0,none⟩=some (.string s):=by rw [cell_of h]; rfl
theorem c1 (h:Rc w R s a g d):w.cell? ⟨R,1,none⟩=some (.int .i64 a):=by rw [cell_of h]; rfl
theorem c2 (h:Rc w R s a g d):w.cell? ⟨R,2,none⟩=some (.int .i64 g):=by rw [cell_of h]; rfl
theorem c3 (h:Rc w R s a g d):w.cell? ⟨R,3,none⟩=some (.int .i64 d):=by rw [cell_of h]; rfl
theorem fz (h:Rc w R s a g d) (i:Nat):w.frozen? ⟨R,i,none⟩=false:=free_of h
theorem drewN (h:Rc w R s a g d) (n:Nat):Rc (w.drewN n) R s a g d:=h
theorem drew (h:Rc w R s a g d):Rc w.drew R s a g d:=h
theorem keeps {E:Nat→Prop} {w':World} (h:Rc w R s a g d) (k:Keeps E w w') (hE:¬ E R):Rc w' R s a g d:=by
 unfold Rc at h ⊢; rw [k.block R (lt_of_block h) hE]; exact h
theorem set1 (h:Rc w R s a g d) (x:Int):Rc (w.setCell ⟨R,1,none⟩ (.int .i64 x)) R s x g d:=by unfold Rc; rw [heap_setCell_same _ _ _ _ _ _ h]; rfl
theorem set2 (h:Rc w R s a g d) (x:Int):Rc (w.setCell ⟨R,2,none⟩ (.int .i64 x)) R s a x d:=by unfold Rc; rw [heap_setCell_same _ _ _ _ _ _ h]; rfl
theorem set3 (h:Rc w R s a g d) (x:Int):Rc (w.setCell ⟨R,3,none⟩ (.int .i64 x)) R s a g x:=by unfold Rc; rw [heap_setCell_same _ _ _ _ _ _ h]; rfl
end Rc
theorem ended_any {w:World} {R:Nat} {s:ByteArray} {p:Nat} {g d:Int} (h:Rc w R s p g d) :
  Calls Tryz.prog 60 #[.pointer (some ⟨R,0,none⟩)] w fun e w'=>e = .returned (.bool (decide (p=s.size)))∧∃n,w'=w.drewN n:=by
 have c0:=h.c0
 have c1:=h.c1
 clear h
 go_enter Tryz.func60,Tryz.ntmps60
 go_wp2
 go_quiet (fail)
 go_wp2
 go_ret
 exact ⟨ret_bool (by rw [Bool.eq_iff_iff]; simp; omega),_,rfl⟩
theorem ended_yes {w:World} {R:Nat} {s:ByteArray} {p:Nat} {g d:Int} (h:Rc w R s p g d) (hp:p=s.size) :
  Calls Tryz.prog 60 #[.pointer (some ⟨R,0,none⟩)] w fun e w'=>e = .returned (.bool true)∧∃n,w'=w.drewN n:=by
 refine (ended_any h).mono ?_
 rintro e w' ⟨rfl,hn⟩
 exact ⟨ret_bool (by simp [hp]),hn⟩
theorem ended_no {w:World} {R:Nat} {s:ByteArray} {p:Nat} {g d:Int} (h:Rc w R s p g d) (hp:p < s.size) :
  Calls Tryz.prog 60 #[.pointer (some ⟨R,0,none⟩)] w fun e w'=>e = .returned (.bool false)∧∃n,w'=w.drewN n:=by
 refine (ended_any h).mono ?_
 rintro e w' ⟨rfl,hn⟩
 exact ⟨ret_bool (by simp; omega),hn⟩
theorem sees_any {w:World} {R:Nat} {s:ByteArray} {p b:Nat} {g d:Int} (h:Rc w R s p g d) (hs:s.size≤120) (hp:p≤s.size) (hb:b < 256) :
  Calls Tryz.prog 90 #[.pointer (some ⟨R,0,none⟩),.int .u8 b] w fun e w'=>e = .returned (.bool (decide (bt s p=b)))∧∃n,w'=w.drewN n:=by
 by_cases hlt:p < s.size
 ·have c0:=h.c0
  have c1:=h.c1
  have hpz:(p:Int) < (s.size:Int):=by omega
  have HR:Hid (Rc w R s p g d):=h
  have HB:Hid (bt s p=s[p].toNat):=bt_in hlt
  clear h
  go_enter Tryz.func90,Tryz.ntmps90
  go_wp2
  go_quiet ((go_at_call 60; exact Calls.quiet_of (ended_no (HR.out.drewN _) hlt)))
  go_wp2
  go_ret
  exact ⟨ret_bool (by rw [HB.out,Bool.eq_iff_iff]; simp; omega),_,rfl⟩
 ·have hpe:p=s.size:=by omega
  have HR:Hid (Rc w R s p g d):=h
  have HB:Hid (bt s p=256):=bt_out hlt
  have c0:=h.c0
  have c1:=h.c1
  clear h
  go_enter Tryz.func90,Tryz.ntmps90
  go_wp2
  go_quiet ((go_at_call 60; exact Calls.quiet_of (ended_yes (HR.out.drewN _) hpe)))
  go_wp2
  go_ret
  exact ⟨ret_bool (by rw [HB.out,Bool.eq_iff_iff]; simp; omega),_,rfl⟩
end Go.Proofs.YthkmmeamplmnhaaGreat
namespace Go.Proofs.YthkmmeamplmnhaaGreat
open Go.RowKit
set_option linter.unusedVariables false
theorem take_yes {w:World} {R:Nat} {s:ByteArray} {p b:Nat} {g d:Int} (h:Rc w R s p g d) (hs:s.size≤120) (hp:p≤s.size) (hlt:b < 256) (hb:bt s p=b) :
  Calls Tryz.prog 79 #[.pointer (some ⟨R,0,none⟩),.int .u8 b] w fun e w'=>e = .returned (.bool true)∧Rc w' R s ((p + 1:Nat):Int) g d∧Keeps (fun k=>k=R) w w':=by
 have HR:Hid (Rc w R s p g d):=h
 have HB:Hid (bt s p=b):=hb
 clear h hb
 go_enter Tryz.func79,Tryz.ntmps79
 go_wp2_with (first
  | (go_at_call 90; refine (sees_any HR.out hs hp hlt).mono ?_; rintro e w2 ⟨rfl,n,rfl⟩; rw [show decide (bt s p=b)=true from by simp [HB.out]]; have c1:=(HR.out.drewN n).c1; have f1:=(HR.out.drewN n).fz 1))
 go_ret
 exact ⟨rfl,(HR.out.drewN _).set1 _,((Keeps.refl (fun k=>k=R) _).drewN _).setCell (fun _=>rfl) _⟩
theorem take_no {w:World} {R:Nat} {s:ByteArray} {p b:Nat} {g d:Int} (h:Rc w R s p g d) (hs:s.size≤120) (hp:p≤s.size) (hlt:b < 256) (hb:bt s p≠b) :
  Calls Tryz.prog 79 #[.pointer (some ⟨R,0,none⟩),.int .u8 b] w fun e w'=>e = .returned (.bool false)∧∃n,w'=w.drewN n:=by
 have HR:Hid (Rc w R s p g d):=h
 have HB:Hid (bt s p≠b):=hb
 clear h hb
 go_enter Tryz.func79,Tryz.ntmps79
 go_wp2_with (first
  | (go_at_call 90; refine (sees_any HR.out hs hp hlt).mono ?_; rintro e w2 ⟨rfl,n,rfl⟩; rw [show decide (bt s p=b)=false from by simp [HB.out]]))
 go_ret
 exact ⟨rfl,_,rfl⟩
theorem next_yes {w:World} {R:Nat} {s:ByteArray} {p:Nat} {g d:Int} (h:Rc w R s p g d) (hs:s.size≤120) (hp:p < s.size) :
  Calls Tryz.prog 125 #[.pointer (some ⟨R,0,none⟩)] w fun e w'=>e = .returned (.int .u8 (bt s p))∧Rc w' R s ((p + 1:Nat):Int) g d∧Keeps (fun k=>k=R) w w':=by
 have HR:Hid (Rc w R s p g d):=h
 have HB:Hid (bt s p=s[p].toNat):=bt_in hp
 have hpz:(p:Int) < (s.size:Int):=by omega
 clear h
 go_enter Tryz.func125,Tryz.ntmps125
 go_wp2_with (first
  | (go_at_call 60; refine (ended_no HR.out hp).mono ?_; rintro e w2 ⟨rfl,n,hn⟩; have hR2:Rc w2 R s p g d:=(by rw [hn]; exact HR.out.drewN n); have hk2:Keeps (fun k=>k=R) w w2:=(by rw [hn]; exact (Keeps.refl _ _).drewN _); clear hn; have c0:=hR2.c0; have c1:=hR2.c1; have f1:=hR2.fz 1))
 go_quiet (fail)
 go_wp2
 go_ret
 exact ⟨ret_int (by rw [HB.out]),(hR2.drewN _).set1 _,(hk2.drewN _).setCell (fun _=>rfl) _⟩
theorem next_bad {w:World} {R:Nat} {s:ByteArray} {p:Nat} {g d:Int} (h:Rc w R s p g d) (hs:s.size≤120) (hp:p=s.size) :
  Calls Tryz.prog 125 #[.pointer (some ⟨R,0,none⟩)] w fun e w'=>e = .panicked [{ v:=.iface 104 (.agg #[.int .i64 p]),recovered:=false }]∧∃n,w'=w.drewN n:=by
 have HR:Hid (Rc w R s p g d):=h
 have HP:Hid (p=s.size):=hp
 clear h hp
 go_enter Tryz.func125,Tryz.ntmps125
 go_wp2_with (first
  | (go_at_call 60; refine (ended_yes HR.out HP.out).mono ?_; rintro e w2 ⟨rfl,n,rfl⟩; have c0:=(HR.out.drewN n).c0; have c1:=(HR.out.drewN n).c1))
 exact ⟨rfl,rfl,n,rfl⟩
theorem need_yes {w:World} {R:Nat} {s:ByteArray} {p b:Nat} {g d:Int} (h:Rc w R s p g d) (hs:s.size≤120) (hp:p≤s.size) (hlt:b < 256) (hb:bt s p=b) :
  Calls Tryz.prog 142 #[.pointer (some ⟨R,0,none⟩),.int .u8 b] w fun e w'=>e = .returned (.tuple #[])∧Rc w' R s ((p + 1:Nat):Int) g d∧Keeps (fun k=>k=R) w w':=by
 have HR:Hid (Rc w R s p g d):=h
 have HB:Hid (bt s p=b):=hb
 clear h hb
 go_enter Tryz.func142,Tryz.ntmps142
 go_wp2_with (first
  | (go_at_call 79; refine (take_yes HR.out hs hp hlt HB.out).mono ?_; rintro e w2 ⟨rfl,hO,hk⟩))
 go_end0
 exact ⟨rfl,hO,hk⟩
theorem need_bad {w:World} {R:Nat} {s:ByteArray} {p b:Nat} {g d:Int} (h:Rc w R s p g d) (hs:s.size≤120) (hp:p≤s.size) (hlt:b < 256) (hb:bt s p≠b) :
  Calls Tryz.prog 142 #[.pointer (some ⟨R,0,none⟩),.int .u8 b] w fun e w'=>e = .panicked [{ v:=.iface 104 (.agg #[.int .i64 p]),recovered:=false }]∧∃n,w'=w.drewN n:=by
 have HR:Hid (Rc w R s p g d):=h
 have HB:Hid (bt s p≠b):=hb
 clear h hb
 go_enter Tryz.func142,Tryz.ntmps142
 go_wp2_with (first
  | (go_at_call 79; refine (take_no HR.out hs hp hlt HB.out).mono ?_; rintro e w2 ⟨rfl,n,rfl⟩; have c1:=(HR.out.drewN n).c1))
 exact ⟨rfl,rfl,n,rfl⟩
theorem digit_any {w:World} {b:Nat} :
  Calls Tryz.prog 72 #[.int .u8 b] w fun e w'=>e = .returned (.bool (digit b))∧∃n,w'=w.drewN n:=by
 go_enter Tryz.func72,Tryz.ntmps72
 go_wp2
 all_goals go_ret
 all_goals exact ⟨ret_bool (by rw [Bool.eq_iff_iff]; simp [digit]; omega),0,rfl⟩
theorem hexv_cases {b v:Nat} (h:hexv b=some v):(digit b=true∧48≤b∧b≤57∧v=b - 48)∨(digit b=false∧97≤b∧b≤102∧v=b - 87):=by
 unfold hexv at h
 split at h
 ·rename_i hb
  left
  simp at h
  exact ⟨by simp [digit,hb],hb.1,hb.2,h.symm⟩
 ·split at h
  ·rename_i h1 hb
   right
   simp at h
   exact ⟨by simp [digit]; omega,hb.1,hb.2,h.symm⟩
  ·simp at h
theorem hexv_none {b:Nat} (h:hexv b=none):digit b=false∧¬ (97≤b∧b≤102):=by
 unfold hexv at h
 split at h
 ·simp at h
 ·split at h
  ·simp at h
  ·rename_i h1 h2
   exact ⟨by simp [digit]; omega,h2⟩
def hexc (k:Nat):Nat:=if k < 10 then 48 + k else 87 + k
theorem hexc_of {b v:Nat} (h:hexv b=some v):v < 16∧b=hexc v:=by
 rcases hexv_cases h with ⟨_,h1,h2,h3⟩ | ⟨_,h1,h2,h3⟩
 ·exact ⟨by omega,by unfold hexc; split <;> omega⟩
 ·exact ⟨by omega,by unfold hexc; split <;> omega⟩
theorem hexc_inj {a b:Nat} (ha:a < 16) (hb:b < 16) (h:hexc a=hexc b):a=b:=by
 unfold hexc at h
 split at h <;> split at h <;> omega
theorem hexc_none {b k:Nat} (h:hexv b=none) (hk:k < 16):b≠hexc k:=by
 obtain ⟨h1,h2⟩:=hexv_none h
 simp [digit] at h1
 unfold hexc
 split <;> omega
theorem hexc_lt {k:Nat} (hk:k < 16):hexc k < 256:=by unfold hexc; split <;> omega
theorem index_hexc (a:Nat) (h:a < 16) (w:World):Sem.run Tryz.prog (Instr.index 9 (.string { data:=#[48,49,50,51,52,53,54,55,56,57,97,98,99,100,101,102] }) (.int .i64 (a:Int))) w = .ok (.int .u8 ((hexc a:Nat):Int)) w:=by
 rcases (show a=0∨a=1∨a=2∨a=3∨a=4∨a=5∨a=6∨a=7∨a=8∨a=9∨a=10∨a=11∨a=12∨a=13∨a=14∨a=15 from by omega) with h | h | h | h | h | h | h | h | h | h | h | h | h | h | h | h <;> subst h <;> kernel_rfl
set_option maxHeartbeats 400000 in
theorem takeHex_yes {w:World} {R:Nat} {s:ByteArray} {p v:Nat} {g d:Int} (h:Rc w R s p g d) (hs:s.size≤120) (hp:p≤s.size) (hv:hexv (bt s p)=some v) :
  Calls Tryz.prog 157 #[.pointer (some ⟨R,0,none⟩)] w fun e w'=>e = .returned (.tuple #[.int .u8 v,.bool true])∧Rc w' R s ((p + 1:Nat):Int) g d∧Keeps (fun k=>k=R) w w':=by
 obtain ⟨hv16,hbv⟩:=hexc_of hv
 have HB:Hid (bt s p=hexc v):=hbv
 have HR:Hid (Rc w R s p g d):=h
 clear h hv hbv
 go_enter Tryz.func157,Tryz.ntmps157
 go_wp2
 go_loopg [4,5] 17 (fun gl _ s5 wr =>∃k:Nat,k + gl=17∧k≤v∧s5 = .int .i64 (k:Int)∧∃n,wr=w.drewN n)
 case atStart=>exact ⟨0,by omega,by omega,rfl,0,rfl⟩
 case round =>
  obtain ⟨k,hgl,hk,rfl,n,rfl⟩:=hrel
  have HG:Hid (k + gk=17):=hgl
  clear hgl
  have hz:(k:Int) < 16:=by omega
  have hidx:=index_hexc k (by omega)
  have hR1:=HR.out.drewN n
  by_cases hkv:k=v
  ·subst hkv
   have hcall:=take_yes hR1 hs hp (hexc_lt (by omega)) HB.out
   have hwr:IntKind.u8.wrap (k:Int)=(k:Int):=IntWalk.u8_in _ ⟨by omega,by omega⟩
   go_wp2_with (go_at_call 79; refine hcall.mono ?_; rintro e w2 ⟨rfl,hR2,hk2⟩)
   go_ret2
   exact ⟨by first | rfl | (rw [hwr]),hR2,(((Keeps.refl _ _).drewN n).trans hk2)⟩
  ·have hcall:=take_no hR1 hs hp (hexc_lt (k:=k) (by omega)) (by rw [HB.out]; exact fun e=>hkv (hexc_inj (by omega) (by omega) e.symm))
   have hlt:k < v:=by omega
   go_wp2_with (go_at_call 79; refine hcall.mono ?_; rintro e w2 ⟨rfl,m,rfl⟩)
   go_roundg (gk - 1)
   case measure=>have:=HG.out; omega
   case rel=>exact ⟨k + 1,by have:=HG.out; omega,by omega,congrArg (Value.int .i64) (by omega),n + m,rfl⟩
set_option maxHeartbeats 400000 in
theorem takeHex_no {w:World} {R:Nat} {s:ByteArray} {p:Nat} {g d:Int} (h:Rc w R s p g d) (hs:s.size≤120) (hp:p≤s.size) (hv:hexv (bt s p)=none) :
  Calls Tryz.prog 157 #[.pointer (some ⟨R,0,none⟩)] w fun e w'=>e = .returned (.tuple #[.int .u8 0,.bool false])∧∃n,w'=w.drewN n:=by
 have HB:Hid (∀k,k < 16→bt s p≠hexc k):=fun k hk=>hexc_none hv hk
 have HR:Hid (Rc w R s p g d):=h
 clear h hv
 go_enter Tryz.func157,Tryz.ntmps157
 go_wp2
 go_loopg [4,5] 17 (fun gl _ s5 wr =>∃k:Nat,k + gl=17∧k≤16∧s5 = .int .i64 (k:Int)∧∃n,wr=w.drewN n)
 case atStart=>exact ⟨0,by omega,by omega,rfl,0,rfl⟩
 case round =>
  obtain ⟨k,hgl,hk,rfl,n,rfl⟩:=hrel
  have HG:Hid (k + gk=17):=hgl
  clear hgl
  have hR1:=HR.out.drewN n
  by_cases hlt:k < 16
  ·have hz:(k:Int) < 16:=by omega
   have hidx:=index_hexc k hlt
   have hcall:=take_no hR1 hs hp (hexc_lt (k:=k) (by omega)) (HB.out k hlt)
   go_wp2_with (go_at_call 79; refine hcall.mono ?_; rintro e w2 ⟨rfl,m,rfl⟩)
   go_roundg (gk - 1)
   case measure=>have:=HG.out; omega
   case rel=>exact ⟨k + 1,by have:=HG.out; omega,by omega,congrArg (Value.int .i64) (by omega),n + m,rfl⟩
  ·have hz:¬ (k:Int) < 16:=by omega
   go_wp2
   go_ret2
   exact ⟨rfl,n,rfl⟩
set_option maxHeartbeats 400000 in
theorem hexDigit_yes {w:World} {R:Nat} {s:ByteArray} {p v:Nat} {g d:Int} (h:Rc w R s p g d) (hs:s.size≤120) (hp:p < s.size) (hv:hexv (bt s p)=some v) :
  Calls Tryz.prog 148 #[.pointer (some ⟨R,0,none⟩)] w fun e w'=>e = .returned (.int .u8 v)∧Rc w' R s ((p + 1:Nat):Int) g d∧Keeps (fun k=>k=R) w w':=by
 have hcall:=takeHex_yes h hs (by omega) hv
 clear h hv
 go_enter Tryz.func148,Tryz.ntmps148
 go_wp2_with (go_at_call 157; refine hcall.mono ?_; rintro e w2 ⟨rfl,hR2,hk2⟩)
 go_ret
 exact ⟨rfl,hR2,hk2⟩
set_option maxHeartbeats 400000 in
theorem hexDigit_bad {w:World} {R:Nat} {s:ByteArray} {p:Nat} {g d:Int} (h:Rc w R s p g d) (hs:s.size≤120) (hp:p≤s.size) (hv:hexv (bt s p)=none) :
  Calls Tryz.prog 148 #[.pointer (some ⟨R,0,none⟩)] w fun e w'=>e = .panicked [{ v:=.iface 104 (.agg #[.int .i64 p]),recovered:=false }]∧Keeps (fun k=>k=R) w w':=by
 have hcall:=takeHex_no h hs (by omega) hv
 have HR:Hid (Rc w R s p g d):=h
 clear h hv
 go_enter Tryz.func148,Tryz.ntmps148
 go_wp2_with (go_at_call 157; refine hcall.mono ?_; rintro e w2 ⟨rfl,n,rfl⟩; have c1:=(HR.out.drewN n).c1)
 exact ⟨rfl,rfl,(Keeps.refl _ _).drewN _⟩
def SetRead (R:Nat) (s:ByteArray) (g d:Int) (S:Bs) (q:Nat) (w:World) (e:Ending) (w':World):Prop :=
 ∃f,Bv S f∧e = .returned (.agg #[.int .u64 (f 0),.int .u64 (f 1),.int .u64 (f 2),.int .u64 (f 3)])∧Rc w' R s q g d∧Keeps (fun k=>k=R) w w'
def Faulted (R:Nat) (x:Nat) (w:World) (e:Ending) (w':World):Prop :=
 e = .panicked [{ v:=.iface 104 (.agg #[.int .i64 x]),recovered:=false }]∧Keeps (fun k=>k=R) w w'
theorem Keeps.set4 {w w':World} {R P:Nat} (h:Keeps (fun k=>k=R) w w') (hP:w.heap.size≤P) {a b c d:Value}:Keeps (fun k=>k=R) w ((((w'.setCell ⟨P,0,none⟩ a).setCell ⟨P,1,none⟩ b).setCell ⟨P,2,none⟩ c).setCell ⟨P,3,none⟩ d) :=
 (((h.setCell (fun h=>absurd h (by simp; omega)) _).setCell (fun h=>absurd h (by simp; omega)) _).setCell (fun h=>absurd h (by simp; omega)) _).setCell (fun h=>absurd h (by simp; omega)) _
theorem Rc.set4 {w:World} {R P:Nat} {s:ByteArray} {x g y:Int} (h:Rc w R s x g y) (hP:R≠P) {a b c d:Value}:Rc ((((w.setCell ⟨P,0,none⟩ a).setCell ⟨P,1,none⟩ b).setCell ⟨P,2,none⟩ c).setCell ⟨P,3,none⟩ d) R s x g y :=
 h.keeps ((((((Keeps.refl (fun k=>k=P) w).setCell (fun _=>rfl) _).setCell (fun _=>rfl) _).setCell (fun _=>rfl) _).setCell (fun _=>rfl) _)) hP
theorem Keeps.none {E:Nat→Prop} {w w':World} (h:Keeps (fun _=>False) w w'):Keeps E w w':=h.mono (fun _ _ h=>h.elim)
set_option maxHeartbeats 400000 in
theorem esc_end {w:World} {R:Nat} {s:ByteArray} {p:Nat} {g d:Int} (h:Rc w R s p g d) (hs:s.size≤120) (hp:p=s.size) :
  Calls Tryz.prog 130 #[.pointer (some ⟨R,0,none⟩)] w (Faulted R p w):=by
 have hne:=h.lt
 have hR1:Rc (w.alloc (.cells #[.int .u64 0,.int .u64 0,.int .u64 0,.int .u64 0] 144)) R s p g d:=h.keeps ((Keeps.refl (fun _=>False) w).alloc _) (fun h=>h)
 have hK1:Keeps (fun k=>k=R) w (w.alloc (.cells #[.int .u64 0,.int .u64 0,.int .u64 0,.int .u64 0] 144)):=(Keeps.refl _ w).alloc _
 have hr1:Sb (w.alloc (.cells #[.int .u64 0,.int .u64 0,.int .u64 0,.int .u64 0] 144)) w.heap.size (fun _=>0):=heap_alloc_new w _
 have c1:=hR1.c1
 have HP:Hid (p=s.size):=hp
 clear h hp
 go_enter Tryz.func130,Tryz.ntmps130
 go_wp2_with (first
  | (go_at_call 125; refine (next_bad hR1 hs HP.out).mono ?_; rintro e w2 ⟨rfl,n,rfl⟩))
 exact ⟨rfl,rfl,hK1.drewN _⟩
set_option maxHeartbeats 400000 in
theorem esc_d {w:World} {R:Nat} {s:ByteArray} {p:Nat} {g d:Int} (h:Rc w R s p g d) (hs:s.size≤120) (hb:bt s p=100) :
  Calls Tryz.prog 130 #[.pointer (some ⟨R,0,none⟩)] w (SetRead R s g d (rng 48 57) (p + 1) w):=by
 have hp:=bt_some hb (by decide)
 have hne:=h.lt
 have hR1:Rc (w.alloc (.cells #[.int .u64 0,.int .u64 0,.int .u64 0,.int .u64 0] 144)) R s p g d:=h.keeps ((Keeps.refl (fun _=>False) w).alloc _) (fun h=>h)
 have hK1:Keeps (fun k=>k=R) w (w.alloc (.cells #[.int .u64 0,.int .u64 0,.int .u64 0,.int .u64 0] 144)):=(Keeps.refl _ w).alloc _
 have hr1:Sb (w.alloc (.cells #[.int .u64 0,.int .u64 0,.int .u64 0,.int .u64 0] 144)) w.heap.size (fun _=>0):=heap_alloc_new w _
 have c1:=hR1.c1
 have HB:Hid (((bt s p:Nat):Int)=100):=(by show _ = _; omega)
 clear h hb
 go_enter Tryz.func130,Tryz.ntmps130
 go_wp2_with (first
  | (go_at_call 125; refine (next_yes hR1 hs hp).mono ?_; rintro e w2 ⟨rfl,hR2,hk2⟩; rw [HB.out]; replace hr1:=hr1.keeps hk2 (by omega); replace hk2:=hK1.trans hk2)
  | (go_at_call 145; refine (span_int _ _ (by omega) (by omega) (by omega) (by omega)).mono ?_; rintro e w3 ⟨f,hf,rfl,hk⟩; replace hr1:=hr1.keeps hk (fun h=>h); have e0:=hr1.cell (q:=0) (by omega); have e1:=hr1.cell (q:=1) (by omega); have e2:=hr1.cell (q:=2) (by omega); have e3:=hr1.cell (q:=3) (by omega); have ef:=hr1.fz))
 refine bodyPost_ret (v:=.agg #[.int .u64 (f 0),.int .u64 (f 1),.int .u64 (f 2),.int .u64 (f 3)]) (by simp [results,Tryz.results130,go_sem,e0,e1,e2,e3]) rfl ?_
 exact ⟨f,hf,rfl,(hR2.keeps hk (fun h=>h)).set4 (by omega),(hk2.trans hk.none).set4 (by omega)⟩
set_option maxHeartbeats 400000 in
theorem esc_w {w:World} {R:Nat} {s:ByteArray} {p:Nat} {g d:Int} (h:Rc w R s p g d) (hs:s.size≤120) (hb:bt s p=119) :
  Calls Tryz.prog 130 #[.pointer (some ⟨R,0,none⟩)] w (SetRead R s g d (word) (p + 1) w):=by
 have hp:=bt_some hb (by decide)
 have hne:=h.lt
 have hR1:Rc (w.alloc (.cells #[.int .u64 0,.int .u64 0,.int .u64 0,.int .u64 0] 144)) R s p g d:=h.keeps ((Keeps.refl (fun _=>False) w).alloc _) (fun h=>h)
 have hK1:Keeps (fun k=>k=R) w (w.alloc (.cells #[.int .u64 0,.int .u64 0,.int .u64 0,.int .u64 0] 144)):=(Keeps.refl _ w).alloc _
 have hr1:Sb (w.alloc (.cells #[.int .u64 0,.int .u64 0,.int .u64 0,.int .u64 0] 144)) w.heap.size (fun _=>0):=heap_alloc_new w _
 have c1:=hR1.c1
 have HB:Hid (((bt s p:Nat):Int)=119):=(by show _ = _; omega)
 clear h hb
 go_enter Tryz.func130,Tryz.ntmps130
 go_wp2_with (first
  | (go_at_call 125; refine (next_yes hR1 hs hp).mono ?_; rintro e w2 ⟨rfl,hR2,hk2⟩; rw [HB.out]; replace hr1:=hr1.keeps hk2 (by omega); replace hk2:=hK1.trans hk2)
  | (go_at_call 146; refine (word_any).mono ?_; rintro e w3 ⟨f,hf,rfl,hk⟩; replace hr1:=hr1.keeps hk (fun h=>h); have e0:=hr1.cell (q:=0) (by omega); have e1:=hr1.cell (q:=1) (by omega); have e2:=hr1.cell (q:=2) (by omega); have e3:=hr1.cell (q:=3) (by omega); have ef:=hr1.fz))
 refine bodyPost_ret (v:=.agg #[.int .u64 (f 0),.int .u64 (f 1),.int .u64 (f 2),.int .u64 (f 3)]) (by simp [results,Tryz.results130,go_sem,e0,e1,e2,e3]) rfl ?_
 exact ⟨f,hf,rfl,(hR2.keeps hk (fun h=>h)).set4 (by omega),(hk2.trans hk.none).set4 (by omega)⟩
set_option maxHeartbeats 400000 in
theorem esc_s {w:World} {R:Nat} {s:ByteArray} {p:Nat} {g d:Int} (h:Rc w R s p g d) (hs:s.size≤120) (hb:bt s p=115) :
  Calls Tryz.prog 130 #[.pointer (some ⟨R,0,none⟩)] w (SetRead R s g d (space) (p + 1) w):=by
 have hp:=bt_some hb (by decide)
 have hne:=h.lt
 have hR1:Rc (w.alloc (.cells #[.int .u64 0,.int .u64 0,.int .u64 0,.int .u64 0] 144)) R s p g d:=h.keeps ((Keeps.refl (fun _=>False) w).alloc _) (fun h=>h)
 have hK1:Keeps (fun k=>k=R) w (w.alloc (.cells #[.int .u64 0,.int .u64 0,.int .u64 0,.int .u64 0] 144)):=(Keeps.refl _ w).alloc _
 have hr1:Sb (w.alloc (.cells #[.int .u64 0,.int .u64 0,.int .u64 0,.int .u64 0] 144)) w.heap.size (fun _=>0):=heap_alloc_new w _
 have c1:=hR1.c1
 have HB:Hid (((bt s p:Nat):Int)=115):=(by show _ = _; omega)
 clear h hb
 go_enter Tryz.func130,Tryz.ntmps130
 go_wp2_with (first
  | (go_at_call 125; refine (next_yes hR1 hs hp).mono ?_; rintro e w2 ⟨rfl,hR2,hk2⟩; rw [HB.out]; replace hr1:=hr1.keeps hk2 (by omega); replace hk2:=hK1.trans hk2)
  | (go_at_call 147; refine (space_any).mono ?_; rintro e w3 ⟨f,hf,rfl,hk⟩; replace hr1:=hr1.keeps hk (fun h=>h); have e0:=hr1.cell (q:=0) (by omega); have e1:=hr1.cell (q:=1) (by omega); have e2:=hr1.cell (q:=2) (by omega); have e3:=hr1.cell (q:=3) (by omega); have ef:=hr1.fz))
 refine bodyPost_ret (v:=.agg #[.int .u64 (f 0),.int .u64 (f 1),.int .u64 (f 2),.int .u64 (f 3)]) (by simp [results,Tryz.results130,go_sem,e0,e1,e2,e3]) rfl ?_
 exact ⟨f,hf,rfl,(hR2.keeps hk (fun h=>h)).set4 (by omega),(hk2.trans hk.none).set4 (by omega)⟩
set_option maxHeartbeats 400000 in
theorem esc_n {w:World} {R:Nat} {s:ByteArray} {p:Nat} {g d:Int} (h:Rc w R s p g d) (hs:s.size≤120) (hb:bt s p=110) :
  Calls Tryz.prog 130 #[.pointer (some ⟨R,0,none⟩)] w (SetRead R s g d (one 10) (p + 1) w):=by
 have hp:=bt_some hb (by decide)
 have hne:=h.lt
 have hR1:Rc (w.alloc (.cells #[.int .u64 0,.int .u64 0,.int .u64 0,.int .u64 0] 144)) R s p g d:=h.keeps ((Keeps.refl (fun _=>False) w).alloc _) (fun h=>h)
 have hK1:Keeps (fun k=>k=R) w (w.alloc (.cells #[.int .u64 0,.int .u64 0,.int .u64 0,.int .u64 0] 144)):=(Keeps.refl _ w).alloc _
 have hr1:Sb (w.alloc (.cells #[.int .u64 0,.int .u64 0,.int .u64 0,.int .u64 0] 144)) w.heap.size (fun _=>0):=heap_alloc_new w _
 have c1:=hR1.c1
 have HB:Hid (((bt s p:Nat):Int)=110):=(by show _ = _; omega)
 clear h hb
 go_enter Tryz.func130,Tryz.ntmps130
 go_wp2_with (first
  | (go_at_call 125; refine (next_yes hR1 hs hp).mono ?_; rintro e w2 ⟨rfl,hR2,hk2⟩; rw [HB.out]; replace hr1:=hr1.keeps hk2 (by omega); replace hk2:=hK1.trans hk2)
  | (go_at_call 128; refine (only_int _ (by omega) (by omega)).mono ?_; rintro e w3 ⟨f,hf,rfl,hk⟩; replace hr1:=hr1.keeps hk (fun h=>h); have e0:=hr1.cell (q:=0) (by omega); have e1:=hr1.cell (q:=1) (by omega); have e2:=hr1.cell (q:=2) (by omega); have e3:=hr1.cell (q:=3) (by omega); have ef:=hr1.fz))
 refine bodyPost_ret (v:=.agg #[.int .u64 (f 0),.int .u64 (f 1),.int .u64 (f 2),.int .u64 (f 3)]) (by simp [results,Tryz.results130,go_sem,e0,e1,e2,e3]) rfl ?_
 exact ⟨f,hf,rfl,(hR2.keeps hk (fun h=>h)).set4 (by omega),(hk2.trans hk.none).set4 (by omega)⟩
set_option maxHeartbeats 400000 in
theorem esc_t {w:World} {R:Nat} {s:ByteArray} {p:Nat} {g d:Int} (h:Rc w R s p g d) (hs:s.size≤120) (hb:bt s p=116) :
  Calls Tryz.prog 130 #[.pointer (some ⟨R,0,none⟩)] w (SetRead R s g d (one 9) (p + 1) w):=by
 have hp:=bt_some hb (by decide)
 have hne:=h.lt
 have hR1:Rc (w.alloc (.cells #[.int .u64 0,.int .u64 0,.int .u64 0,.int .u64 0] 144)) R s p g d:=h.keeps ((Keeps.refl (fun _=>False) w).alloc _) (fun h=>h)
 have hK1:Keeps (fun k=>k=R) w (w.alloc (.cells #[.int .u64 0,.int .u64 0,.int .u64 0,.int .u64 0] 144)):=(Keeps.refl _ w).alloc _
 have hr1:Sb (w.alloc (.cells #[.int .u64 0,.int .u64 0,.int .u64 0,.int .u64 0] 144)) w.heap.size (fun _=>0):=heap_alloc_new w _
 have c1:=hR1.c1
 have HB:Hid (((bt s p:Nat):Int)=116):=(by show _ = _; omega)
 clear h hb
 go_enter Tryz.func130,Tryz.ntmps130
 go_wp2_with (first
  | (go_at_call 125; refine (next_yes hR1 hs hp).mono ?_; rintro e w2 ⟨rfl,hR2,hk2⟩; rw [HB.out]; replace hr1:=hr1.keeps hk2 (by omega); replace hk2:=hK1.trans hk2)
  | (go_at_call 128; refine (only_int _ (by omega) (by omega)).mono ?_; rintro e w3 ⟨f,hf,rfl,hk⟩; replace hr1:=hr1.keeps hk (fun h=>h); have e0:=hr1.cell (q:=0) (by omega); have e1:=hr1.cell (q:=1) (by omega); have e2:=hr1.cell (q:=2) (by omega); have e3:=hr1.cell (q:=3) (by omega); have ef:=hr1.fz))
 refine bodyPost_ret (v:=.agg #[.int .u64 (f 0),.int .u64 (f 1),.int .u64 (f 2),.int .u64 (f 3)]) (by simp [results,Tryz.results130,go_sem,e0,e1,e2,e3]) rfl ?_
 exact ⟨f,hf,rfl,(hR2.keeps hk (fun h=>h)).set4 (by omega),(hk2.trans hk.none).set4 (by omega)⟩
set_option maxHeartbeats 400000 in
theorem esc_r {w:World} {R:Nat} {s:ByteArray} {p:Nat} {g d:Int} (h:Rc w R s p g d) (hs:s.size≤120) (hb:bt s p=114) :
  Calls Tryz.prog 130 #[.pointer (some ⟨R,0,none⟩)] w (SetRead R s g d (one 13) (p + 1) w):=by
 have hp:=bt_some hb (by decide)
 have hne:=h.lt
 have hR1:Rc (w.alloc (.cells #[.int .u64 0,.int .u64 0,.int .u64 0,.int .u64 0] 144)) R s p g d:=h.keeps ((Keeps.refl (fun _=>False) w).alloc _) (fun h=>h)
 have hK1:Keeps (fun k=>k=R) w (w.alloc (.cells #[.int .u64 0,.int .u64 0,.int .u64 0,.int .u64 0] 144)):=(Keeps.refl _ w).alloc _
 have hr1:Sb (w.alloc (.cells #[.int .u64 0,.int .u64 0,.int .u64 0,.int .u64 0] 144)) w.heap.size (fun _=>0):=heap_alloc_new w _
 have c1:=hR1.c1
 have HB:Hid (((bt s p:Nat):Int)=114):=(by show _ = _; omega)
 clear h hb
 go_enter Tryz.func130,Tryz.ntmps130
 go_wp2_with (first
  | (go_at_call 125; refine (next_yes hR1 hs hp).mono ?_; rintro e w2 ⟨rfl,hR2,hk2⟩; rw [HB.out]; replace hr1:=hr1.keeps hk2 (by omega); replace hk2:=hK1.trans hk2)
  | (go_at_call 128; refine (only_int _ (by omega) (by omega)).mono ?_; rintro e w3 ⟨f,hf,rfl,hk⟩; replace hr1:=hr1.keeps hk (fun h=>h); have e0:=hr1.cell (q:=0) (by omega); have e1:=hr1.cell (q:=1) (by omega); have e2:=hr1.cell (q:=2) (by omega); have e3:=hr1.cell (q:=3) (by omega); have ef:=hr1.fz))
 refine bodyPost_ret (v:=.agg #[.int .u64 (f 0),.int .u64 (f 1),.int .u64 (f 2),.int .u64 (f 3)]) (by simp [results,Tryz.results130,go_sem,e0,e1,e2,e3]) rfl ?_
 exact ⟨f,hf,rfl,(hR2.keeps hk (fun h=>h)).set4 (by omega),(hk2.trans hk.none).set4 (by omega)⟩
theorem letter_any {w:World} {b:Nat} :
  Calls Tryz.prog 71 #[.int .u8 b] w fun e w'=>e = .returned (.bool (letter b))∧∃n,w'=w.drewN n:=by
 go_enter Tryz.func71,Tryz.ntmps71
 go_wp2
 all_goals go_ret
 all_goals exact ⟨ret_bool (by rw [Bool.eq_iff_iff]; simp [letter]; omega),0,rfl⟩
theorem printed_any {w:World} {b:Nat} :
  Calls Tryz.prog 69 #[.int .u8 b] w fun e w'=>e = .returned (.bool (printed b))∧∃n,w'=w.drewN n:=by
 go_enter Tryz.func69,Tryz.ntmps69
 go_wp2
 all_goals go_ret
 all_goals exact ⟨ret_bool (by rw [Bool.eq_iff_iff]; simp [printed]; omega),0,rfl⟩
set_option maxHeartbeats 1000000 in
theorem esc_self {w:World} {R:Nat} {s:ByteArray} {p b:Nat} {g d:Int} (h:Rc w R s p g d) (hs:s.size≤120) (hb:bt s p=b) (hlt:b < 256) (hq:(letter b || digit b || !printed b)=false) :
  Calls Tryz.prog 130 #[.pointer (some ⟨R,0,none⟩)] w (SetRead R s g d (one b) (p + 1) w):=by
 have hp:=bt_some hb hlt
 have hne:=h.lt
 have hR1:Rc (w.alloc (.cells #[.int .u64 0,.int .u64 0,.int .u64 0,.int .u64 0] 144)) R s p g d:=h.keeps ((Keeps.refl (fun _=>False) w).alloc _) (fun h=>h)
 have hK1:Keeps (fun k=>k=R) w (w.alloc (.cells #[.int .u64 0,.int .u64 0,.int .u64 0,.int .u64 0] 144)):=(Keeps.refl _ w).alloc _
 have hr1:Sb (w.alloc (.cells #[.int .u64 0,.int .u64 0,.int .u64 0,.int .u64 0] 144)) w.heap.size (fun _=>0):=heap_alloc_new w _
 have c1:=hR1.c1
 simp at hq
 obtain ⟨⟨hl,hd⟩,hpr⟩:=hq
 have HL:Hid (letter b=false):=hl
 have HD:Hid (digit b=false):=hd
 have HP:Hid (printed b=true):=hpr
 have HB:Hid (bt s p=b):=hb
 have hx:¬ (97≤b∧b≤122):=by intro hh; simp [letter] at hl; omega
 clear h hb hl hd hpr
 have n1:((b:Int) == 100)=false:=by simp; omega
 have n2:((b:Int) == 119)=false:=by simp; omega
 have n3:((b:Int) == 115)=false:=by simp; omega
 have n4:((b:Int) == 110)=false:=by simp; omega
 have n5:((b:Int) == 116)=false:=by simp; omega
 have n6:((b:Int) == 114)=false:=by simp; omega
 have n7:((b:Int) == 120)=false:=by simp; omega
 go_enter Tryz.func130,Tryz.ntmps130
 go_wp2_with (first
  | (go_at_call 125; refine (next_yes hR1 hs hp).mono ?_; rintro e w2 ⟨rfl,hR2,hk2⟩; rw [HB.out]; replace hr1:=hr1.keeps hk2 (by omega); replace hk2:=hK1.trans hk2)
  | (go_at_call 69; refine (printed_any).mono ?_; rintro e w3 ⟨rfl,n,rfl⟩; rw [HP.out])
  | (go_at_call 71; refine (letter_any).mono ?_; rintro e w3 ⟨rfl,n2,rfl⟩; rw [HL.out])
  | (go_at_call 72; refine (digit_any).mono ?_; rintro e w3 ⟨rfl,n3,rfl⟩; rw [HD.out])
  | (go_at_call 128; refine (only_any b hlt).mono ?_; rintro e w3 ⟨f,hf,rfl,hk⟩; replace hk:=((Keeps.refl (fun _=>False) w2).drewN _).trans hk; replace hr1:=hr1.keeps hk (fun h=>h); have e0:=hr1.cell (q:=0) (by omega); have e1:=hr1.cell (q:=1) (by omega); have e2:=hr1.cell (q:=2) (by omega); have e3:=hr1.cell (q:=3) (by omega); have ef:=hr1.fz))
 refine bodyPost_ret (v:=.agg #[.int .u64 (f 0),.int .u64 (f 1),.int .u64 (f 2),.int .u64 (f 3)]) (by simp [results,Tryz.results130,go_sem,e0,e1,e2,e3]) rfl ?_
 exact ⟨f,hf,rfl,(hR2.keeps hk (fun h=>h)).set4 (by omega),(hk2.trans hk.none).set4 (by omega)⟩
set_option maxHeartbeats 1000000 in
theorem esc_bad {w:World} {R:Nat} {s:ByteArray} {p b:Nat} {g d:Int} (h:Rc w R s p g d) (hs:s.size≤120) (hb:bt s p=b) (hlt:b < 256) (hx:b≠100∧b≠119∧b≠115∧b≠110∧b≠116∧b≠114∧b≠120) (hq:(letter b || digit b || !printed b)=true) :
  Calls Tryz.prog 130 #[.pointer (some ⟨R,0,none⟩)] w (Faulted R p w):=by
 have hp:=bt_some hb hlt
 have hne:=h.lt
 have hR1:Rc (w.alloc (.cells #[.int .u64 0,.int .u64 0,.int .u64 0,.int .u64 0] 144)) R s p g d:=h.keeps ((Keeps.refl (fun _=>False) w).alloc _) (fun h=>h)
 have hK1:Keeps (fun k=>k=R) w (w.alloc (.cells #[.int .u64 0,.int .u64 0,.int .u64 0,.int .u64 0] 144)):=(Keeps.refl _ w).alloc _
 have hr1:Sb (w.alloc (.cells #[.int .u64 0,.int .u64 0,.int .u64 0,.int .u64 0] 144)) w.heap.size (fun _=>0):=heap_alloc_new w _
 have c1:=hR1.c1
 have HQ:Hid ((letter b || digit b || !printed b)=true):=hq
 have HB:Hid (bt s p=b):=hb
 clear h hb hq
 have n1:((b:Int) == 100)=false:=by simp; omega
 have n2:((b:Int) == 119)=false:=by simp; omega
 have n3:((b:Int) == 115)=false:=by simp; omega
 have n4:((b:Int) == 110)=false:=by simp; omega
 have n5:((b:Int) == 116)=false:=by simp; omega
 have n6:((b:Int) == 114)=false:=by simp; omega
 have n7:((b:Int) == 120)=false:=by simp; omega
 go_enter Tryz.func130,Tryz.ntmps130
 go_wp2_with (first
  | (go_at_call 125; refine (next_yes hR1 hs hp).mono ?_; rintro e w2 ⟨rfl,hR2,hk2⟩; rw [HB.out]; replace hr1:=hr1.keeps hk2 (by omega); replace hk2:=hK1.trans hk2)
  | (go_at_call 69; refine (printed_any).mono ?_; rintro e w3 ⟨rfl,n,rfl⟩)
  | (go_at_call 71; refine (letter_any).mono ?_; rintro e w3 ⟨rfl,n2,rfl⟩)
  | (go_at_call 72; refine (digit_any).mono ?_; rintro e w3 ⟨rfl,n3,rfl⟩))
 all_goals first
  | exact ⟨rfl,rfl,hk2.drewN _⟩
  | (have hq:=HQ.out; exfalso; simp_all; done)
set_option maxHeartbeats 1000000 in
theorem esc_x1 {w:World} {R:Nat} {s:ByteArray} {p:Nat} {g d:Int} (h:Rc w R s p g d) (hs:s.size≤120) (hb:bt s p=120) (hv:hexv (bt s (p + 1))=none) :
  Calls Tryz.prog 130 #[.pointer (some ⟨R,0,none⟩)] w (Faulted R (p + 1) w):=by
 have hp:=bt_some hb (by decide)
 have hne:=h.lt
 have hR1:Rc (w.alloc (.cells #[.int .u64 0,.int .u64 0,.int .u64 0,.int .u64 0] 144)) R s p g d:=h.keeps ((Keeps.refl (fun _=>False) w).alloc _) (fun h=>h)
 have hK1:Keeps (fun k=>k=R) w (w.alloc (.cells #[.int .u64 0,.int .u64 0,.int .u64 0,.int .u64 0] 144)):=(Keeps.refl _ w).alloc _
 have hr1:Sb (w.alloc (.cells #[.int .u64 0,.int .u64 0,.int .u64 0,.int .u64 0] 144)) w.heap.size (fun _=>0):=heap_alloc_new w _
 have c1:=hR1.c1
 have HB:Hid (((bt s p:Nat):Int)=120):=(by show _ = _; omega)
 have HV:Hid (hexv (bt s (p + 1))=none):=hv
 clear h hb hv
 go_enter Tryz.func130,Tryz.ntmps130
 go_wp2_with (first
  | (go_at_call 125; refine (next_yes hR1 hs hp).mono ?_; rintro e w2 ⟨rfl,hR2,hk2⟩; rw [HB.out]; replace hr1:=hr1.keeps hk2 (by omega); replace hk2:=hK1.trans hk2)
  | (go_at_call 148; refine (hexDigit_bad hR2 hs (by omega) HV.out).mono ?_; rintro e w3 ⟨rfl,hk3⟩))
 exact ⟨rfl,rfl,hk2.trans hk3⟩
set_option maxHeartbeats 1000000 in
theorem esc_x2 {w:World} {R:Nat} {s:ByteArray} {p a:Nat} {g d:Int} (h:Rc w R s p g d) (hs:s.size≤120) (hb:bt s p=120) (hp1:p + 1 < s.size) (hv:hexv (bt s (p + 1))=some a) (hv2:hexv (bt s (p + 2))=none) :
  Calls Tryz.prog 130 #[.pointer (some ⟨R,0,none⟩)] w (Faulted R (p + 2) w):=by
 have hp:=bt_some hb (by decide)
 have hne:=h.lt
 have hR1:Rc (w.alloc (.cells #[.int .u64 0,.int .u64 0,.int .u64 0,.int .u64 0] 144)) R s p g d:=h.keeps ((Keeps.refl (fun _=>False) w).alloc _) (fun h=>h)
 have hK1:Keeps (fun k=>k=R) w (w.alloc (.cells #[.int .u64 0,.int .u64 0,.int .u64 0,.int .u64 0] 144)):=(Keeps.refl _ w).alloc _
 have hr1:Sb (w.alloc (.cells #[.int .u64 0,.int .u64 0,.int .u64 0,.int .u64 0] 144)) w.heap.size (fun _=>0):=heap_alloc_new w _
 have c1:=hR1.c1
 have HB:Hid (((bt s p:Nat):Int)=120):=(by show _ = _; omega)
 have HV:Hid (hexv (bt s (p + 1))=some a):=hv
 have HV2:Hid (hexv (bt s (p + 2))=none):=hv2
 clear h hb hv hv2
 go_enter Tryz.func130,Tryz.ntmps130
 go_wp2_with (first
  | (go_at_call 125; refine (next_yes hR1 hs hp).mono ?_; rintro e w2 ⟨rfl,hR2,hk2⟩; rw [HB.out]; replace hr1:=hr1.keeps hk2 (by omega); replace hk2:=hK1.trans hk2)
  | (go_at_call 148; refine (hexDigit_yes hR2 hs hp1 HV.out).mono ?_; clear hR2; rintro e w3 ⟨rfl,hR3,hk3⟩)
  | (go_at_call 148; refine (hexDigit_bad hR3 hs (by omega) HV2.out).mono ?_; rintro e w4 ⟨rfl,hk4⟩))
 exact ⟨rfl,rfl,(hk2.trans hk3).trans hk4⟩
set_option maxHeartbeats 1000000 in
theorem esc_x {w:World} {R:Nat} {s:ByteArray} {p a b:Nat} {g d:Int} (h:Rc w R s p g d) (hs:s.size≤120) (hb:bt s p=120) (hp1:p + 1 < s.size) (hv:hexv (bt s (p + 1))=some a) (hp2:p + 2 < s.size) (hv2:hexv (bt s (p + 2))=some b) :
  Calls Tryz.prog 130 #[.pointer (some ⟨R,0,none⟩)] w (SetRead R s g d (one (a * 16 + b)) (p + 3) w):=by
 have hp:=bt_some hb (by decide)
 have hne:=h.lt
 have hR1:Rc (w.alloc (.cells #[.int .u64 0,.int .u64 0,.int .u64 0,.int .u64 0] 144)) R s p g d:=h.keeps ((Keeps.refl (fun _=>False) w).alloc _) (fun h=>h)
 have hK1:Keeps (fun k=>k=R) w (w.alloc (.cells #[.int .u64 0,.int .u64 0,.int .u64 0,.int .u64 0] 144)):=(Keeps.refl _ w).alloc _
 have hr1:Sb (w.alloc (.cells #[.int .u64 0,.int .u64 0,.int .u64 0,.int .u64 0] 144)) w.heap.size (fun _=>0):=heap_alloc_new w _
 have c1:=hR1.c1
 have HB:Hid (((bt s p:Nat):Int)=120):=(by show _ = _; omega)
 have HV:Hid (hexv (bt s (p + 1))=some a):=hv
 have HV2:Hid (hexv (bt s (p + 2))=some b):=hv2
 have ha:=hexv_lt hv
 have hb16:=hexv_lt hv2
 have haz:(a:Int) < 16:=by omega
 have hbz:(b:Int) < 16:=by omega
 clear h hb hv hv2
 go_enter Tryz.func130,Tryz.ntmps130
 go_wp2_with (first
  | (go_at_call 125; refine (next_yes hR1 hs hp).mono ?_; rintro e w2 ⟨rfl,hR2,hk2⟩; rw [HB.out]; replace hr1:=hr1.keeps hk2 (by omega); replace hk2:=hK1.trans hk2)
  | (go_at_call 148; refine (hexDigit_yes hR2 hs hp1 HV.out).mono ?_; clear hR2; rintro e w3 ⟨rfl,hR3,hk3⟩)
  | (go_at_call 148; refine (hexDigit_yes hR3 hs (by omega) HV2.out).mono ?_; clear hR3; rintro e w4 ⟨rfl,hR4,hk4⟩; replace hr1:=(hr1.keeps hk3 (by omega)).keeps hk4 (by omega))
  | (go_at_call 128; refine (only_int _ (by omega) (by omega)).mono ?_; rintro e w5 ⟨f,hf,rfl,hk⟩; replace hr1:=hr1.keeps hk (fun h=>h); have e0:=hr1.cell (q:=0) (by omega); have e1:=hr1.cell (q:=1) (by omega); have e2:=hr1.cell (q:=2) (by omega); have e3:=hr1.cell (q:=3) (by omega); have ef:=hr1.fz))
 refine bodyPost_ret (v:=.agg #[.int .u64 (f 0),.int .u64 (f 1),.int .u64 (f 2),.int .u64 (f 3)]) (by simp [results,Tryz.results130,go_sem,e0,e1,e2,e3]) rfl ?_
 have hn:((a:Int) * 16 + (b:Int)).toNat=a * 16 + b:=by omega
 rw [hn] at hf
 exact ⟨f,hf,rfl,(hR4.keeps hk (fun h=>h)).set4 (by omega),(((hk2.trans hk3).trans hk4).trans hk.none).set4 (by omega)⟩
def PartPost (R:Nat) (s:ByteArray) (g d:Int) (r:Except Nat (Bs×Option Nat×Nat)) (w:World) (e:Ending) (w':World):Prop :=
 match r with
 | .error x=>Faulted R x w e w'
 | .ok (S,_,q)=>SetRead R s g d S q w e w'
theorem hexv_in {s:ByteArray} {p v:Nat} (h:hexv (bt s p)=some v):p < s.size:=by
 by_cases hp:p < s.size
 ·exact hp
 ·rw [bt_out hp] at h; simp [hexv] at h
theorem iescape_any {w:World} {R:Nat} {s:ByteArray} {p:Nat} {g d:Int} (h:Rc w R s p g d) (hs:s.size≤120) (hp:p≤s.size) :
  Calls Tryz.prog 130 #[.pointer (some ⟨R,0,none⟩)] w (PartPost R s g d (escRef s p) w):=by
 unfold escRef
 by_cases h0:bt s p=256
 ·rw [if_pos h0]; exact esc_end h hs (by have:=bt_end.1 h0; omega)
 have hb:bt s p < 256:=by
  by_cases hlt:p < s.size
  ·exact bt_lt hlt
  ·exact absurd (bt_out hlt) h0
 rw [if_neg h0]
 by_cases h1:bt s p=100
 ·rw [if_pos h1]; exact esc_d h hs h1
 rw [if_neg h1]
 by_cases h2:bt s p=119
 ·rw [if_pos h2]; exact esc_w h hs h2
 rw [if_neg h2]
 by_cases h3:bt s p=115
 ·rw [if_pos h3]; exact esc_s h hs h3
 rw [if_neg h3]
 by_cases h4:bt s p=110
 ·rw [if_pos h4]; exact esc_n h hs h4
 rw [if_neg h4]
 by_cases h5:bt s p=116
 ·rw [if_pos h5]; exact esc_t h hs h5
 rw [if_neg h5]
 by_cases h6:bt s p=114
 ·rw [if_pos h6]; exact esc_r h hs h6
 rw [if_neg h6]
 by_cases h7:bt s p=120
 ·rw [if_pos h7]
  cases e1:hexv (bt s (p + 1)) with
  | none=>exact esc_x1 h hs h7 e1
  | some a =>
    cases e2:hexv (bt s (p + 2)) with
    | none=>exact esc_x2 h hs h7 (hexv_in e1) e1 e2
    | some b=>exact esc_x h hs h7 (hexv_in e1) e1 (hexv_in e2) e2
 rw [if_neg h7]
 cases h8:(letter (bt s p) || digit (bt s p) || !printed (bt s p)) with
 | true=>exact esc_bad h hs rfl hb ⟨h1,h2,h3,h4,h5,h6,h7⟩ h8
 | false=>exact esc_self h hs rfl hb h8
end Go.Proofs.YthkmmeamplmnhaaGreat
