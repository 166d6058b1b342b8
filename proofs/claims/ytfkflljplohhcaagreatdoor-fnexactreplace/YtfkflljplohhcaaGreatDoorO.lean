import Derived.Test.YtfkflljplohhcaaGreatDoorN
set_option maxHeartbeats 1000000
namespace Go.Proofs.YtfkflljplohhcaaGreatDoor
open Go.RowKit
set_option linter.unusedVariables false
def Rc (w:World) (R:Nat) (s:ByteArray) (a g d:Int):Prop :=
 w.heap[R]? = some (.cells #[.string s,.int .i64 a,.int .i64 g,.int .i64 d] 126 (0,0))
namespace Rc
variable {w:World} {R:Nat} {s:ByteArray} {a g d:Int}
theorem lt (h:Rc w R s a g d):R < w.heap.size:=lt_of_block h
theorem c0 (h:Rc w R s a g d):w.cell? ⟨R,0,none⟩=some (.string s):=by rw [Zc h]; rfl
theorem c1 (h:Rc w R s a g d):w.cell? ⟨R,1,none⟩=some (.int .i64 a):=by rw [Zc h]; rfl
theorem c2 (h:Rc w R s a g d):w.cell? ⟨R,2,none⟩=some (.int .i64 g):=by rw [Zc h]; rfl
theorem c3 (h:Rc w R s a g d):w.cell? ⟨R,3,none⟩=some (.int .i64 d):=by rw [Zc h]; rfl
theorem fz (h:Rc w R s a g d) (i:Nat):w.frozen? ⟨R,i,none⟩=false:=Zv h
theorem drewN (h:Rc w R s a g d) (n:Nat):Rc (w.drewN n) R s a g d:=h
theorem drew (h:Rc w R s a g d):Rc w.drew R s a g d:=h
theorem keeps {E:Nat->Prop} {w':World} (h:Rc w R s a g d) (k:Za E w w') (hE:¬ E R):Rc w' R s a g d:=by
 unfold Rc at h ⊢; rw [k.block R (lt_of_block h) hE]; exact h
theorem set1 (h:Rc w R s a g d) (x:Int):Rc (w.setCell ⟨R,1,none⟩ (.int .i64 x)) R s x g d:=by unfold Rc; rw [heap_setCell_same _ _ _ _ _ _ h]; rfl
theorem set2 (h:Rc w R s a g d) (x:Int):Rc (w.setCell ⟨R,2,none⟩ (.int .i64 x)) R s a x d:=by unfold Rc; rw [heap_setCell_same _ _ _ _ _ _ h]; rfl
theorem set3 (h:Rc w R s a g d) (x:Int):Rc (w.setCell ⟨R,3,none⟩ (.int .i64 x)) R s a g x:=by unfold Rc; rw [heap_setCell_same _ _ _ _ _ _ h]; rfl
end Rc
theorem Zf9 {w:World} {R:Nat} {s:ByteArray} {p:Nat} {g d:Int} (h:Rc w R s p g d) :
  Calls Tryz.prog 54 #[.pointer (some ⟨R,0,none⟩)] w fun e w'=>e = .returned (.bool (decide (p=s.size)))/\∃n,w'=w.drewN n:=by
 have c0:=h.c0;have c1:=h.c1;clear h;go_enter Tryz.func54,Tryz.ntmps54;go_wp2;go_quiet (fail);go_wp2;go_ret;exact ⟨Z4 (by rw [Bool.eq_iff_iff]; simp; omega),_,rfl⟩
theorem ZaZ {w:World} {R:Nat} {s:ByteArray} {p:Nat} {g d:Int} (h:Rc w R s p g d) (hp:p=s.size) :
  Calls Tryz.prog 54 #[.pointer (some ⟨R,0,none⟩)] w fun e w'=>e = .returned (.bool true)/\∃n,w'=w.drewN n:=by
 refine (Zf9 h).mono ?_;rintro e w' ⟨rfl,hn⟩;exact ⟨Z4 (by simp [hp]),hn⟩
theorem Jr {w:World} {R:Nat} {s:ByteArray} {p:Nat} {g d:Int} (h:Rc w R s p g d) (hp:p < s.size) :
  Calls Tryz.prog 54 #[.pointer (some ⟨R,0,none⟩)] w fun e w'=>e = .returned (.bool false)/\∃n,w'=w.drewN n:=by
 refine (Zf9 h).mono ?_;rintro e w' ⟨rfl,hn⟩;exact ⟨Z4 (by simp; omega),hn⟩
theorem Zez {w:World} {R:Nat} {s:ByteArray} {p b:Nat} {g d:Int} (h:Rc w R s p g d) (hs:s.size<=120) (hp:p<=s.size) (hb:b < 256) :
  Calls Tryz.prog 95 #[.pointer (some ⟨R,0,none⟩),.int .u8 b] w fun e w'=>e = .returned (.bool (decide (bt s p=b)))/\∃n,w'=w.drewN n:=by
 by_cases hlt:p < s.size
 ·have c0:=h.c0;have c1:=h.c1;have hpz:(p:Int) < (s.size:Int):=by omega
  have HR:Hid (Rc w R s p g d):=h;have HB:Hid (bt s p=s[p].toNat):=ZV hlt;clear h;go_enter Tryz.func95,Tryz.ntmps95;go_wp2;go_quiet ((go_at_call 54; exact Calls.quiet_of (Jr (HR.out.drewN _) hlt)));go_wp2;go_ret;exact ⟨Z4 (by rw [HB.out,Bool.eq_iff_iff]; simp; omega),_,rfl⟩
 ·have hpe:p=s.size:=by omega
  have HR:Hid (Rc w R s p g d):=h;have HB:Hid (bt s p=256):=Z7 hlt;have c0:=h.c0;have c1:=h.c1;clear h;go_enter Tryz.func95,Tryz.ntmps95;go_wp2;go_quiet ((go_at_call 54; exact Calls.quiet_of (ZaZ (HR.out.drewN _) hpe)));go_wp2;go_ret;exact ⟨Z4 (by rw [HB.out,Bool.eq_iff_iff]; simp; omega),_,rfl⟩
theorem Z2 {w:World} {R:Nat} {s:ByteArray} {p b:Nat} {g d:Int} (h:Rc w R s p g d) (hs:s.size<=120) (hp:p<=s.size) (hlt:b < 256) (hb:bt s p=b) :
  Calls Tryz.prog 76 #[.pointer (some ⟨R,0,none⟩),.int .u8 b] w fun e w'=>e = .returned (.bool true)/\Rc w' R s ((p + 1:Nat):Int) g d/\Za (fun k=>k=R) w w':=by
 have HR:Hid (Rc w R s p g d):=h;have HB:Hid (bt s p=b):=hb;clear h hb;go_enter Tryz.func76,Tryz.ntmps76;go_wp2_with (first
  | (go_at_call 95; refine (Zez HR.out hs hp hlt).mono ?_; rintro e w2 ⟨rfl,n,rfl⟩; rw [show decide (bt s p=b)=true from by simp [HB.out]]; have c1:=(HR.out.drewN n).c1; have f1:=(HR.out.drewN n).fz 1))
 go_ret;exact ⟨rfl,(HR.out.drewN _).set1 _,((Za.refl (fun k=>k=R) _).drewN _).setCell (fun _=>rfl) _⟩
theorem J9 {w:World} {R:Nat} {s:ByteArray} {p b:Nat} {g d:Int} (h:Rc w R s p g d) (hs:s.size<=120) (hp:p<=s.size) (hlt:b < 256) (hb:bt s p≠b) :
  Calls Tryz.prog 76 #[.pointer (some ⟨R,0,none⟩),.int .u8 b] w fun e w'=>e = .returned (.bool false)/\∃n,w'=w.drewN n:=by
 have HR:Hid (Rc w R s p g d):=h;have HB:Hid (bt s p≠b):=hb;clear h hb;go_enter Tryz.func76,Tryz.ntmps76;go_wp2_with (first
  | (go_at_call 95; refine (Zez HR.out hs hp hlt).mono ?_; rintro e w2 ⟨rfl,n,rfl⟩; rw [show decide (bt s p=b)=false from by simp [HB.out]]))
 go_ret;exact ⟨rfl,_,rfl⟩
theorem ZC {w:World} {R:Nat} {s:ByteArray} {p:Nat} {g d:Int} (h:Rc w R s p g d) (hs:s.size<=120) (hp:p < s.size) :
  Calls Tryz.prog 85 #[.pointer (some ⟨R,0,none⟩)] w fun e w'=>e = .returned (.int .u8 (bt s p))/\Rc w' R s ((p + 1:Nat):Int) g d/\Za (fun k=>k=R) w w':=by
 have HR:Hid (Rc w R s p g d):=h;have HB:Hid (bt s p=s[p].toNat):=ZV hp;have hpz:(p:Int) < (s.size:Int):=by omega
 clear h;go_enter Tryz.func85,Tryz.ntmps85;go_wp2_with (first
  | (go_at_call 54; refine (Jr HR.out hp).mono ?_; rintro e w2 ⟨rfl,n,hn⟩; have hR2:Rc w2 R s p g d:=(by rw [hn]; exact HR.out.drewN n); have hk2:Za (fun k=>k=R) w w2:=(by rw [hn]; exact (Za.refl _ _).drewN _); clear hn; have c0:=hR2.c0; have c1:=hR2.c1; have f1:=hR2.fz 1))
 go_quiet (fail);go_wp2;go_ret;exact ⟨Zaz (by rw [HB.out]),(hR2.drewN _).set1 _,(hk2.drewN _).setCell (fun _=>rfl) _⟩
theorem Zib {w:World} {R:Nat} {s:ByteArray} {p:Nat} {g d:Int} (h:Rc w R s p g d) (hs:s.size<=120) (hp:p=s.size) :
  Calls Tryz.prog 85 #[.pointer (some ⟨R,0,none⟩)] w fun e w'=>e = .panicked [{ v:=.iface 122 (.agg #[.int .i64 p]),recovered:=false }]/\∃n,w'=w.drewN n:=by
 have HR:Hid (Rc w R s p g d):=h;have HP:Hid (p=s.size):=hp;clear h hp;go_enter Tryz.func85,Tryz.ntmps85;go_wp2_with (first
  | (go_at_call 54; refine (ZaZ HR.out HP.out).mono ?_; rintro e w2 ⟨rfl,n,rfl⟩; have c0:=(HR.out.drewN n).c0; have c1:=(HR.out.drewN n).c1))
 exact ⟨rfl,rfl,n,rfl⟩
theorem JE {w:World} {R:Nat} {s:ByteArray} {p b:Nat} {g d:Int} (h:Rc w R s p g d) (hs:s.size<=120) (hp:p<=s.size) (hlt:b < 256) (hb:bt s p=b) :
  Calls Tryz.prog 144 #[.pointer (some ⟨R,0,none⟩),.int .u8 b] w fun e w'=>e = .returned (.tuple #[])/\Rc w' R s ((p + 1:Nat):Int) g d/\Za (fun k=>k=R) w w':=by
 have HR:Hid (Rc w R s p g d):=h;have HB:Hid (bt s p=b):=hb;clear h hb;go_enter Tryz.func144,Tryz.ntmps144;go_wp2_with (first
  | (go_at_call 76; refine (Z2 HR.out hs hp hlt HB.out).mono ?_; rintro e w2 ⟨rfl,hO,hk⟩))
 go_end0;exact ⟨rfl,hO,hk⟩
theorem ZeL {w:World} {R:Nat} {s:ByteArray} {p b:Nat} {g d:Int} (h:Rc w R s p g d) (hs:s.size<=120) (hp:p<=s.size) (hlt:b < 256) (hb:bt s p≠b) :
  Calls Tryz.prog 144 #[.pointer (some ⟨R,0,none⟩),.int .u8 b] w fun e w'=>e = .panicked [{ v:=.iface 122 (.agg #[.int .i64 p]),recovered:=false }]/\∃n,w'=w.drewN n:=by
 have HR:Hid (Rc w R s p g d):=h;have HB:Hid (bt s p≠b):=hb;clear h hb;go_enter Tryz.func144,Tryz.ntmps144;go_wp2_with (first
  | (go_at_call 76; refine (J9 HR.out hs hp hlt HB.out).mono ?_; rintro e w2 ⟨rfl,n,rfl⟩; have c1:=(HR.out.drewN n).c1))
 exact ⟨rfl,rfl,n,rfl⟩
theorem Zdq {w:World} {b:Nat} :
  Calls Tryz.prog 86 #[.int .u8 b] w fun e w'=>e = .returned (.bool (ZU b))/\∃n,w'=w.drewN n:=by
 go_enter Tryz.func86,Tryz.ntmps86;go_wp2
 all_goals go_ret
 all_goals exact ⟨Z4 (by rw [Bool.eq_iff_iff]; simp [ZU]; omega),0,rfl⟩
theorem Zjt {b v:Nat} (h:Jp b=some v):(ZU b=true/\48<=b/\b<=57/\v=b - 48)\/(ZU b=false/\97<=b/\b<=102/\v=b - 87):=by
 unfold Jp at h
 split at h
 ·rename_i hb;left;simp at h;exact ⟨by simp [ZU,hb],hb.1,hb.2,h.symm⟩
 ·split at h
  ·rename_i h1 hb;right;simp at h;exact ⟨by simp [ZU]; omega,hb.1,hb.2,h.symm⟩
  ·simp at h
theorem ZlJ {b:Nat} (h:Jp b=none):ZU b=false/\¬ (97<=b/\b<=102):=by
 unfold Jp at h
 split at h
 ·simp at h
 ·split at h
  ·simp at h
  ·rename_i h1 h2;exact ⟨by simp [ZU]; omega,h2⟩
def Zju (k:Nat):Nat:=if k < 10 then 48 + k else 87 + k
theorem ZqM {b v:Nat} (h:Jp b=some v):v < 16/\b=Zju v:=by
 rcases Zjt h with ⟨_,h1,h2,h3⟩ | ⟨_,h1,h2,h3⟩
 ·exact ⟨by omega,by unfold Zju; split <;> omega⟩
 ·exact ⟨by omega,by unfold Zju; split <;> omega⟩
theorem Zon {a b:Nat} (ha:a < 16) (hb:b < 16) (h:Zju a=Zju b):a=b:=by
 unfold Zju at h
 split at h <;> split at h <;> omega
theorem ZlM {b k:Nat} (h:Jp b=none) (hk:k < 16):b≠Zju k:=by
 obtain ⟨h1,h2⟩:=ZlJ h;simp [ZU] at h1;unfold Zju
 split <;> omega
theorem Zg8 {k:Nat} (hk:k < 16):Zju k < 256:=by unfold Zju; split <;> omega
theorem Zd4 (a:Nat) (h:a < 16) (w:World):Sem.run Tryz.prog (Instr.index 9 (.string { data:=#[48,49,50,51,52,53,54,55,56,57,97,98,99,100,101,102] }) (.int .i64 (a:Int))) w = .ok (.int .u8 ((Zju a:Nat):Int)) w:=by
 rcases (show a=0\/a=1\/a=2\/a=3\/a=4\/a=5\/a=6\/a=7\/a=8\/a=9\/a=10\/a=11\/a=12\/a=13\/a=14\/a=15 from by omega) with h | h | h | h | h | h | h | h | h | h | h | h | h | h | h | h <;> subst h <;> kernel_rfl
theorem Zgz {w:World} {R:Nat} {s:ByteArray} {p v:Nat} {g d:Int} (h:Rc w R s p g d) (hs:s.size<=120) (hp:p<=s.size) (hv:Jp (bt s p)=some v) :
  Calls Tryz.prog 160 #[.pointer (some ⟨R,0,none⟩)] w fun e w'=>e = .returned (.tuple #[.int .u8 v,.bool true])/\Rc w' R s ((p + 1:Nat):Int) g d/\Za (fun k=>k=R) w w':=by
 obtain ⟨hv16,hbv⟩:=ZqM hv;have HB:Hid (bt s p=Zju v):=hbv;have HR:Hid (Rc w R s p g d):=h;clear h hv hbv;go_enter Tryz.func160,Tryz.ntmps160;go_wp2;go_loopg [4,5] 17 (fun gl _ s5 wr =>∃k:Nat,k + gl=17/\k<=v/\s5 = .int .i64 (k:Int)/\∃n,wr=w.drewN n)
 case atStart=>exact ⟨0,by omega,by omega,rfl,0,rfl⟩
 case round =>
  obtain ⟨k,hgl,hk,rfl,n,rfl⟩:=hrel;have HG:Hid (k + gk=17):=hgl;clear hgl;have hz:(k:Int) < 16:=by omega
  have hidx:=Zd4 k (by omega);have hR1:=HR.out.drewN n
  by_cases hkv:k=v
  ·subst hkv;have hcall:=Z2 hR1 hs hp (Zg8 (by omega)) HB.out;have hwr:IntKind.u8.wrap (k:Int)=(k:Int):=IntWalk.u8_in _ ⟨by omega,by omega⟩;go_wp2_with (go_at_call 76; refine hcall.mono ?_; rintro e w2 ⟨rfl,hR2,hk2⟩);go_ret2;exact ⟨by first | rfl | (rw [hwr]),hR2,(((Za.refl _ _).drewN n).trans hk2)⟩
  ·have hcall:=J9 hR1 hs hp (Zg8 (k:=k) (by omega)) (by rw [HB.out]; exact fun e=>hkv (Zon (by omega) (by omega) e.symm));have hlt:k < v:=by omega
   go_wp2_with (go_at_call 76; refine hcall.mono ?_; rintro e w2 ⟨rfl,m,rfl⟩);go_roundg (gk - 1)
   case measure=>have:=HG.out; omega
   case rel=>exact ⟨k + 1,by have:=HG.out; omega,by omega,congrArg (Value.int .i64) (by omega),n + m,rfl⟩
theorem ZiU {w:World} {R:Nat} {s:ByteArray} {p:Nat} {g d:Int} (h:Rc w R s p g d) (hs:s.size<=120) (hp:p<=s.size) (hv:Jp (bt s p)=none) :
  Calls Tryz.prog 160 #[.pointer (some ⟨R,0,none⟩)] w fun e w'=>e = .returned (.tuple #[.int .u8 0,.bool false])/\∃n,w'=w.drewN n:=by
 have HB:Hid (∀k,k < 16->bt s p≠Zju k):=fun k hk=>ZlM hv hk;have HR:Hid (Rc w R s p g d):=h;clear h hv;go_enter Tryz.func160,Tryz.ntmps160;go_wp2;go_loopg [4,5] 17 (fun gl _ s5 wr =>∃k:Nat,k + gl=17/\k<=16/\s5 = .int .i64 (k:Int)/\∃n,wr=w.drewN n)
 case atStart=>exact ⟨0,by omega,by omega,rfl,0,rfl⟩
 case round =>
  obtain ⟨k,hgl,hk,rfl,n,rfl⟩:=hrel;have HG:Hid (k + gk=17):=hgl;clear hgl;have hR1:=HR.out.drewN n
  by_cases hlt:k < 16
  ·have hz:(k:Int) < 16:=by omega
   have hidx:=Zd4 k hlt;have hcall:=J9 hR1 hs hp (Zg8 (k:=k) (by omega)) (HB.out k hlt);go_wp2_with (go_at_call 76; refine hcall.mono ?_; rintro e w2 ⟨rfl,m,rfl⟩);go_roundg (gk - 1)
   case measure=>have:=HG.out; omega
   case rel=>exact ⟨k + 1,by have:=HG.out; omega,by omega,congrArg (Value.int .i64) (by omega),n + m,rfl⟩
  ·have hz:¬ (k:Int) < 16:=by omega
   go_wp2;go_ret2;exact ⟨rfl,n,rfl⟩
theorem ZaW {w:World} {R:Nat} {s:ByteArray} {p v:Nat} {g d:Int} (h:Rc w R s p g d) (hs:s.size<=120) (hp:p < s.size) (hv:Jp (bt s p)=some v) :
  Calls Tryz.prog 150 #[.pointer (some ⟨R,0,none⟩)] w fun e w'=>e = .returned (.int .u8 v)/\Rc w' R s ((p + 1:Nat):Int) g d/\Za (fun k=>k=R) w w':=by
 have hcall:=Zgz h hs (by omega) hv;clear h hv;go_enter Tryz.func150,Tryz.ntmps150;go_wp2_with (go_at_call 160; refine hcall.mono ?_; rintro e w2 ⟨rfl,hR2,hk2⟩);go_ret;exact ⟨rfl,hR2,hk2⟩
theorem Zcv {w:World} {R:Nat} {s:ByteArray} {p:Nat} {g d:Int} (h:Rc w R s p g d) (hs:s.size<=120) (hp:p<=s.size) (hv:Jp (bt s p)=none) :
  Calls Tryz.prog 150 #[.pointer (some ⟨R,0,none⟩)] w fun e w'=>e = .panicked [{ v:=.iface 122 (.agg #[.int .i64 p]),recovered:=false }]/\Za (fun k=>k=R) w w':=by
 have hcall:=ZiU h hs (by omega) hv;have HR:Hid (Rc w R s p g d):=h;clear h hv;go_enter Tryz.func150,Tryz.ntmps150;go_wp2_with (go_at_call 160; refine hcall.mono ?_; rintro e w2 ⟨rfl,n,rfl⟩; have c1:=(HR.out.drewN n).c1);exact ⟨rfl,rfl,(Za.refl _ _).drewN _⟩
def QP (R:Nat) (s:ByteArray) (g d:Int) (S:Bs) (q:Nat) (w:World) (e:Ending) (w':World):Prop :=
 ∃f,Bv S f/\e = .returned (.agg #[.int .u64 (f 0),.int .u64 (f 1),.int .u64 (f 2),.int .u64 (f 3)])/\Rc w' R s q g d/\Za (fun k=>k=R) w w'
def ZY (R:Nat) (x:Nat) (w:World) (e:Ending) (w':World):Prop :=
 e = .panicked [{ v:=.iface 122 (.agg #[.int .i64 x]),recovered:=false }]/\Za (fun k=>k=R) w w'
theorem Za.set4 {w w':World} {R P:Nat} (h:Za (fun k=>k=R) w w') (hP:w.heap.size<=P) {a b c d:Value}:Za (fun k=>k=R) w ((((w'.setCell ⟨P,0,none⟩ a).setCell ⟨P,1,none⟩ b).setCell ⟨P,2,none⟩ c).setCell ⟨P,3,none⟩ d) :=
 (((h.setCell (fun h=>absurd h (by simp; omega)) _).setCell (fun h=>absurd h (by simp; omega)) _).setCell (fun h=>absurd h (by simp; omega)) _).setCell (fun h=>absurd h (by simp; omega)) _
theorem Rc.set4 {w:World} {R P:Nat} {s:ByteArray} {x g y:Int} (h:Rc w R s x g y) (hP:R≠P) {a b c d:Value}:Rc ((((w.setCell ⟨P,0,none⟩ a).setCell ⟨P,1,none⟩ b).setCell ⟨P,2,none⟩ c).setCell ⟨P,3,none⟩ d) R s x g y :=
 h.keeps ((((((Za.refl (fun k=>k=P) w).setCell (fun _=>rfl) _).setCell (fun _=>rfl) _).setCell (fun _=>rfl) _).setCell (fun _=>rfl) _)) hP
theorem Za.none {E:Nat->Prop} {w w':World} (h:Za N0_ w w'):Za E w w':=h.mono (fun _ _ h=>h.elim)
theorem ZqT {w:World} {R:Nat} {s:ByteArray} {p:Nat} {g d:Int} (h:Rc w R s p g d) (hs:s.size<=120) (hp:p=s.size) :
  Calls Tryz.prog 137 #[.pointer (some ⟨R,0,none⟩)] w (ZY R p w):=by
 have hne:=h.lt;have hR1:Rc (w.alloc (.cells #[.int .u64 0,.int .u64 0,.int .u64 0,.int .u64 0] 170)) R s p g d:=h.keeps ((Za.refl N0_ w).alloc _) id;have hK1:Za (fun k=>k=R) w (w.alloc (.cells #[.int .u64 0,.int .u64 0,.int .u64 0,.int .u64 0] 170)):=(Za.refl _ w).alloc _;have hr1:Sb (w.alloc (.cells #[.int .u64 0,.int .u64 0,.int .u64 0,.int .u64 0] 170)) w.heap.size (fun _=>0):=heap_alloc_new w _;have c1:=hR1.c1;have HP:Hid (p=s.size):=hp;clear h hp;go_enter Tryz.func137,Tryz.ntmps137;go_wp2_with (first
  | (go_at_call 85; refine (Zib hR1 hs HP.out).mono ?_; rintro e w2 ⟨rfl,n,rfl⟩))
 exact ⟨rfl,rfl,hK1.drewN _⟩
theorem Ztb {w:World} {R:Nat} {s:ByteArray} {p:Nat} {g d:Int} (h:Rc w R s p g d) (hs:s.size<=120) (hb:bt s p=100) :
  Calls Tryz.prog 137 #[.pointer (some ⟨R,0,none⟩)] w (QP R s g d (rng 48 57) (p + 1) w):=by
 have hp:=Zt hb (by decide);have hne:=h.lt;have hR1:Rc (w.alloc (.cells #[.int .u64 0,.int .u64 0,.int .u64 0,.int .u64 0] 170)) R s p g d:=h.keeps ((Za.refl N0_ w).alloc _) id;have hK1:Za (fun k=>k=R) w (w.alloc (.cells #[.int .u64 0,.int .u64 0,.int .u64 0,.int .u64 0] 170)):=(Za.refl _ w).alloc _;have hr1:Sb (w.alloc (.cells #[.int .u64 0,.int .u64 0,.int .u64 0,.int .u64 0] 170)) w.heap.size (fun _=>0):=heap_alloc_new w _;have c1:=hR1.c1;have HB:Hid (((bt s p:Nat):Int)=100):=(by show _ = _; omega);clear h hb;go_enter Tryz.func137,Tryz.ntmps137;go_wp2_with (first
  | (go_at_call 85; refine (ZC hR1 hs hp).mono ?_; rintro e w2 ⟨rfl,hR2,hk2⟩; rw [HB.out]; replace hr1:=hr1.keeps hk2 (by omega); replace hk2:=hK1.trans hk2)
  | (go_at_call 147; refine (Zew _ _ (by omega) (by omega) (by omega) (by omega)).mono ?_; rintro e w3 ⟨f,hf,rfl,hk⟩; replace hr1:=hr1.keeps hk id; have e0:=hr1.cell (q:=0) (by omega); have e1:=hr1.cell (q:=1) (by omega); have e2:=hr1.cell (q:=2) (by omega); have e3:=hr1.cell (q:=3) (by omega); have ef:=hr1.fz))
 refine bodyPost_ret (v:=.agg #[.int .u64 (f 0),.int .u64 (f 1),.int .u64 (f 2),.int .u64 (f 3)]) (by simp [results,Tryz.results137,go_sem,e0,e1,e2,e3]) rfl ?_;exact ⟨f,hf,rfl,(hR2.keeps hk id).set4 (by omega),(hk2.trans hk.none).set4 (by omega)⟩
theorem Zs6 {w:World} {R:Nat} {s:ByteArray} {p:Nat} {g d:Int} (h:Rc w R s p g d) (hs:s.size<=120) (hb:bt s p=119) :
  Calls Tryz.prog 137 #[.pointer (some ⟨R,0,none⟩)] w (QP R s g d (Zry) (p + 1) w):=by
 have hp:=Zt hb (by decide);have hne:=h.lt;have hR1:Rc (w.alloc (.cells #[.int .u64 0,.int .u64 0,.int .u64 0,.int .u64 0] 170)) R s p g d:=h.keeps ((Za.refl N0_ w).alloc _) id;have hK1:Za (fun k=>k=R) w (w.alloc (.cells #[.int .u64 0,.int .u64 0,.int .u64 0,.int .u64 0] 170)):=(Za.refl _ w).alloc _;have hr1:Sb (w.alloc (.cells #[.int .u64 0,.int .u64 0,.int .u64 0,.int .u64 0] 170)) w.heap.size (fun _=>0):=heap_alloc_new w _;have c1:=hR1.c1;have HB:Hid (((bt s p:Nat):Int)=119):=(by show _ = _; omega);clear h hb;go_enter Tryz.func137,Tryz.ntmps137;go_wp2_with (first
  | (go_at_call 85; refine (ZC hR1 hs hp).mono ?_; rintro e w2 ⟨rfl,hR2,hk2⟩; rw [HB.out]; replace hr1:=hr1.keeps hk2 (by omega); replace hk2:=hK1.trans hk2)
  | (go_at_call 148; refine (Znh).mono ?_; rintro e w3 ⟨f,hf,rfl,hk⟩; replace hr1:=hr1.keeps hk id; have e0:=hr1.cell (q:=0) (by omega); have e1:=hr1.cell (q:=1) (by omega); have e2:=hr1.cell (q:=2) (by omega); have e3:=hr1.cell (q:=3) (by omega); have ef:=hr1.fz))
 refine bodyPost_ret (v:=.agg #[.int .u64 (f 0),.int .u64 (f 1),.int .u64 (f 2),.int .u64 (f 3)]) (by simp [results,Tryz.results137,go_sem,e0,e1,e2,e3]) rfl ?_;exact ⟨f,hf,rfl,(hR2.keeps hk id).set4 (by omega),(hk2.trans hk.none).set4 (by omega)⟩
theorem Zs8 {w:World} {R:Nat} {s:ByteArray} {p:Nat} {g d:Int} (h:Rc w R s p g d) (hs:s.size<=120) (hb:bt s p=115) :
  Calls Tryz.prog 137 #[.pointer (some ⟨R,0,none⟩)] w (QP R s g d (ZiY) (p + 1) w):=by
 have hp:=Zt hb (by decide);have hne:=h.lt;have hR1:Rc (w.alloc (.cells #[.int .u64 0,.int .u64 0,.int .u64 0,.int .u64 0] 170)) R s p g d:=h.keeps ((Za.refl N0_ w).alloc _) id;have hK1:Za (fun k=>k=R) w (w.alloc (.cells #[.int .u64 0,.int .u64 0,.int .u64 0,.int .u64 0] 170)):=(Za.refl _ w).alloc _;have hr1:Sb (w.alloc (.cells #[.int .u64 0,.int .u64 0,.int .u64 0,.int .u64 0] 170)) w.heap.size (fun _=>0):=heap_alloc_new w _;have c1:=hR1.c1;have HB:Hid (((bt s p:Nat):Int)=115):=(by show _ = _; omega);clear h hb;go_enter Tryz.func137,Tryz.ntmps137;go_wp2_with (first
  | (go_at_call 85; refine (ZC hR1 hs hp).mono ?_; rintro e w2 ⟨rfl,hR2,hk2⟩; rw [HB.out]; replace hr1:=hr1.keeps hk2 (by omega); replace hk2:=hK1.trans hk2)
  | (go_at_call 149; refine (Zkp).mono ?_; rintro e w3 ⟨f,hf,rfl,hk⟩; replace hr1:=hr1.keeps hk id; have e0:=hr1.cell (q:=0) (by omega); have e1:=hr1.cell (q:=1) (by omega); have e2:=hr1.cell (q:=2) (by omega); have e3:=hr1.cell (q:=3) (by omega); have ef:=hr1.fz))
 refine bodyPost_ret (v:=.agg #[.int .u64 (f 0),.int .u64 (f 1),.int .u64 (f 2),.int .u64 (f 3)]) (by simp [results,Tryz.results137,go_sem,e0,e1,e2,e3]) rfl ?_;exact ⟨f,hf,rfl,(hR2.keeps hk id).set4 (by omega),(hk2.trans hk.none).set4 (by omega)⟩
theorem Zta {w:World} {R:Nat} {s:ByteArray} {p:Nat} {g d:Int} (h:Rc w R s p g d) (hs:s.size<=120) (hb:bt s p=110) :
  Calls Tryz.prog 137 #[.pointer (some ⟨R,0,none⟩)] w (QP R s g d (one 10) (p + 1) w):=by
 have hp:=Zt hb (by decide);have hne:=h.lt;have hR1:Rc (w.alloc (.cells #[.int .u64 0,.int .u64 0,.int .u64 0,.int .u64 0] 170)) R s p g d:=h.keeps ((Za.refl N0_ w).alloc _) id;have hK1:Za (fun k=>k=R) w (w.alloc (.cells #[.int .u64 0,.int .u64 0,.int .u64 0,.int .u64 0] 170)):=(Za.refl _ w).alloc _;have hr1:Sb (w.alloc (.cells #[.int .u64 0,.int .u64 0,.int .u64 0,.int .u64 0] 170)) w.heap.size (fun _=>0):=heap_alloc_new w _;have c1:=hR1.c1;have HB:Hid (((bt s p:Nat):Int)=110):=(by show _ = _; omega);clear h hb;go_enter Tryz.func137,Tryz.ntmps137;go_wp2_with (first
  | (go_at_call 85; refine (ZC hR1 hs hp).mono ?_; rintro e w2 ⟨rfl,hR2,hk2⟩; rw [HB.out]; replace hr1:=hr1.keeps hk2 (by omega); replace hk2:=hK1.trans hk2)
  | (go_at_call 135; refine (ZaC _ (by omega) (by omega)).mono ?_; rintro e w3 ⟨f,hf,rfl,hk⟩; replace hr1:=hr1.keeps hk id; have e0:=hr1.cell (q:=0) (by omega); have e1:=hr1.cell (q:=1) (by omega); have e2:=hr1.cell (q:=2) (by omega); have e3:=hr1.cell (q:=3) (by omega); have ef:=hr1.fz))
 refine bodyPost_ret (v:=.agg #[.int .u64 (f 0),.int .u64 (f 1),.int .u64 (f 2),.int .u64 (f 3)]) (by simp [results,Tryz.results137,go_sem,e0,e1,e2,e3]) rfl ?_;exact ⟨f,hf,rfl,(hR2.keeps hk id).set4 (by omega),(hk2.trans hk.none).set4 (by omega)⟩
theorem Zs7 {w:World} {R:Nat} {s:ByteArray} {p:Nat} {g d:Int} (h:Rc w R s p g d) (hs:s.size<=120) (hb:bt s p=116) :
  Calls Tryz.prog 137 #[.pointer (some ⟨R,0,none⟩)] w (QP R s g d (one 9) (p + 1) w):=by
 have hp:=Zt hb (by decide);have hne:=h.lt;have hR1:Rc (w.alloc (.cells #[.int .u64 0,.int .u64 0,.int .u64 0,.int .u64 0] 170)) R s p g d:=h.keeps ((Za.refl N0_ w).alloc _) id;have hK1:Za (fun k=>k=R) w (w.alloc (.cells #[.int .u64 0,.int .u64 0,.int .u64 0,.int .u64 0] 170)):=(Za.refl _ w).alloc _;have hr1:Sb (w.alloc (.cells #[.int .u64 0,.int .u64 0,.int .u64 0,.int .u64 0] 170)) w.heap.size (fun _=>0):=heap_alloc_new w _;have c1:=hR1.c1;have HB:Hid (((bt s p:Nat):Int)=116):=(by show _ = _; omega);clear h hb;go_enter Tryz.func137,Tryz.ntmps137;go_wp2_with (first
  | (go_at_call 85; refine (ZC hR1 hs hp).mono ?_; rintro e w2 ⟨rfl,hR2,hk2⟩; rw [HB.out]; replace hr1:=hr1.keeps hk2 (by omega); replace hk2:=hK1.trans hk2)
  | (go_at_call 135; refine (ZaC _ (by omega) (by omega)).mono ?_; rintro e w3 ⟨f,hf,rfl,hk⟩; replace hr1:=hr1.keeps hk id; have e0:=hr1.cell (q:=0) (by omega); have e1:=hr1.cell (q:=1) (by omega); have e2:=hr1.cell (q:=2) (by omega); have e3:=hr1.cell (q:=3) (by omega); have ef:=hr1.fz))
 refine bodyPost_ret (v:=.agg #[.int .u64 (f 0),.int .u64 (f 1),.int .u64 (f 2),.int .u64 (f 3)]) (by simp [results,Tryz.results137,go_sem,e0,e1,e2,e3]) rfl ?_;exact ⟨f,hf,rfl,(hR2.keeps hk id).set4 (by omega),(hk2.trans hk.none).set4 (by omega)⟩
theorem Zs9 {w:World} {R:Nat} {s:ByteArray} {p:Nat} {g d:Int} (h:Rc w R s p g d) (hs:s.size<=120) (hb:bt s p=114) :
  Calls Tryz.prog 137 #[.pointer (some ⟨R,0,none⟩)] w (QP R s g d (one 13) (p + 1) w):=by
 have hp:=Zt hb (by decide);have hne:=h.lt;have hR1:Rc (w.alloc (.cells #[.int .u64 0,.int .u64 0,.int .u64 0,.int .u64 0] 170)) R s p g d:=h.keeps ((Za.refl N0_ w).alloc _) id;have hK1:Za (fun k=>k=R) w (w.alloc (.cells #[.int .u64 0,.int .u64 0,.int .u64 0,.int .u64 0] 170)):=(Za.refl _ w).alloc _;have hr1:Sb (w.alloc (.cells #[.int .u64 0,.int .u64 0,.int .u64 0,.int .u64 0] 170)) w.heap.size (fun _=>0):=heap_alloc_new w _;have c1:=hR1.c1;have HB:Hid (((bt s p:Nat):Int)=114):=(by show _ = _; omega);clear h hb;go_enter Tryz.func137,Tryz.ntmps137;go_wp2_with (first
  | (go_at_call 85; refine (ZC hR1 hs hp).mono ?_; rintro e w2 ⟨rfl,hR2,hk2⟩; rw [HB.out]; replace hr1:=hr1.keeps hk2 (by omega); replace hk2:=hK1.trans hk2)
  | (go_at_call 135; refine (ZaC _ (by omega) (by omega)).mono ?_; rintro e w3 ⟨f,hf,rfl,hk⟩; replace hr1:=hr1.keeps hk id; have e0:=hr1.cell (q:=0) (by omega); have e1:=hr1.cell (q:=1) (by omega); have e2:=hr1.cell (q:=2) (by omega); have e3:=hr1.cell (q:=3) (by omega); have ef:=hr1.fz))
 refine bodyPost_ret (v:=.agg #[.int .u64 (f 0),.int .u64 (f 1),.int .u64 (f 2),.int .u64 (f 3)]) (by simp [results,Tryz.results137,go_sem,e0,e1,e2,e3]) rfl ?_;exact ⟨f,hf,rfl,(hR2.keeps hk id).set4 (by omega),(hk2.trans hk.none).set4 (by omega)⟩
theorem Zd1 {w:World} {b:Nat} :
  Calls Tryz.prog 152 #[.int .u8 b] w fun e w'=>e = .returned (.bool (ZaK b))/\∃n,w'=w.drewN n:=by
 go_enter Tryz.func152,Tryz.ntmps152;go_wp2
 all_goals go_ret
 all_goals exact ⟨Z4 (by rw [Bool.eq_iff_iff]; simp [ZaK]; omega),0,rfl⟩
theorem Zc5 {w:World} {b:Nat} :
  Calls Tryz.prog 151 #[.int .u8 b] w fun e w'=>e = .returned (.bool (printed b))/\∃n,w'=w.drewN n:=by
 go_enter Tryz.func151,Tryz.ntmps151;go_wp2
 all_goals go_ret
 all_goals exact ⟨Z4 (by rw [Bool.eq_iff_iff]; simp [printed]; omega),0,rfl⟩
theorem ZoH {w:World} {R:Nat} {s:ByteArray} {p b:Nat} {g d:Int} (h:Rc w R s p g d) (hs:s.size<=120) (hb:bt s p=b) (hlt:b < 256) (hq:(ZaK b || ZU b || !printed b)=false) :
  Calls Tryz.prog 137 #[.pointer (some ⟨R,0,none⟩)] w (QP R s g d (one b) (p + 1) w):=by
 have hp:=Zt hb hlt;have hne:=h.lt;have hR1:Rc (w.alloc (.cells #[.int .u64 0,.int .u64 0,.int .u64 0,.int .u64 0] 170)) R s p g d:=h.keeps ((Za.refl N0_ w).alloc _) id;have hK1:Za (fun k=>k=R) w (w.alloc (.cells #[.int .u64 0,.int .u64 0,.int .u64 0,.int .u64 0] 170)):=(Za.refl _ w).alloc _;have hr1:Sb (w.alloc (.cells #[.int .u64 0,.int .u64 0,.int .u64 0,.int .u64 0] 170)) w.heap.size (fun _=>0):=heap_alloc_new w _;have c1:=hR1.c1;simp at hq;obtain ⟨⟨hl,hd⟩,hpr⟩:=hq;have HL:Hid (ZaK b=false):=hl;have HD:Hid (ZU b=false):=hd;have HP:Hid (printed b=true):=hpr;have HB:Hid (bt s p=b):=hb;have hx:¬ (97<=b/\b<=122):=by intro hh; simp [ZaK] at hl; omega
 clear h hb hl hd hpr;have n1:((b:Int) == 100)=false:=by simp; omega
 have n2:((b:Int) == 119)=false:=by simp; omega
 have n3:((b:Int) == 115)=false:=by simp; omega
 have n4:((b:Int) == 110)=false:=by simp; omega
 have n5:((b:Int) == 116)=false:=by simp; omega
 have n6:((b:Int) == 114)=false:=by simp; omega
 have n7:((b:Int) == 120)=false:=by simp; omega
 go_enter Tryz.func137,Tryz.ntmps137;go_wp2_with (first
  | (go_at_call 85; refine (ZC hR1 hs hp).mono ?_; rintro e w2 ⟨rfl,hR2,hk2⟩; rw [HB.out]; replace hr1:=hr1.keeps hk2 (by omega); replace hk2:=hK1.trans hk2)
  | (go_at_call 151; refine (Zc5).mono ?_; rintro e w3 ⟨rfl,n,rfl⟩; rw [HP.out])
  | (go_at_call 152; refine (Zd1).mono ?_; rintro e w3 ⟨rfl,n2,rfl⟩; rw [HL.out])
  | (go_at_call 86; refine (Zdq).mono ?_; rintro e w3 ⟨rfl,n3,rfl⟩; rw [HD.out])
  | (go_at_call 135; refine (ZbI b hlt).mono ?_; rintro e w3 ⟨f,hf,rfl,hk⟩; replace hk:=((Za.refl N0_ w2).drewN _).trans hk; replace hr1:=hr1.keeps hk id; have e0:=hr1.cell (q:=0) (by omega); have e1:=hr1.cell (q:=1) (by omega); have e2:=hr1.cell (q:=2) (by omega); have e3:=hr1.cell (q:=3) (by omega); have ef:=hr1.fz))
 refine bodyPost_ret (v:=.agg #[.int .u64 (f 0),.int .u64 (f 1),.int .u64 (f 2),.int .u64 (f 3)]) (by simp [results,Tryz.results137,go_sem,e0,e1,e2,e3]) rfl ?_;exact ⟨f,hf,rfl,(hR2.keeps hk id).set4 (by omega),(hk2.trans hk.none).set4 (by omega)⟩
theorem ZqU {w:World} {R:Nat} {s:ByteArray} {p b:Nat} {g d:Int} (h:Rc w R s p g d) (hs:s.size<=120) (hb:bt s p=b) (hlt:b < 256) (hx:b≠100/\b≠119/\b≠115/\b≠110/\b≠116/\b≠114/\b≠120) (hq:(ZaK b || ZU b || !printed b)=true) :
  Calls Tryz.prog 137 #[.pointer (some ⟨R,0,none⟩)] w (ZY R p w):=by
 have hp:=Zt hb hlt;have hne:=h.lt;have hR1:Rc (w.alloc (.cells #[.int .u64 0,.int .u64 0,.int .u64 0,.int .u64 0] 170)) R s p g d:=h.keeps ((Za.refl N0_ w).alloc _) id;have hK1:Za (fun k=>k=R) w (w.alloc (.cells #[.int .u64 0,.int .u64 0,.int .u64 0,.int .u64 0] 170)):=(Za.refl _ w).alloc _;have hr1:Sb (w.alloc (.cells #[.int .u64 0,.int .u64 0,.int .u64 0,.int .u64 0] 170)) w.heap.size (fun _=>0):=heap_alloc_new w _;have c1:=hR1.c1;have HQ:Hid ((ZaK b || ZU b || !printed b)=true):=hq;have HB:Hid (bt s p=b):=hb;clear h hb hq;have n1:((b:Int) == 100)=false:=by simp; omega
 have n2:((b:Int) == 119)=false:=by simp; omega
 have n3:((b:Int) == 115)=false:=by simp; omega
 have n4:((b:Int) == 110)=false:=by simp; omega
 have n5:((b:Int) == 116)=false:=by simp; omega
 have n6:((b:Int) == 114)=false:=by simp; omega
 have n7:((b:Int) == 120)=false:=by simp; omega
 go_enter Tryz.func137,Tryz.ntmps137;go_wp2_with (first
  | (go_at_call 85; refine (ZC hR1 hs hp).mono ?_; rintro e w2 ⟨rfl,hR2,hk2⟩; rw [HB.out]; replace hr1:=hr1.keeps hk2 (by omega); replace hk2:=hK1.trans hk2)
  | (go_at_call 151; refine (Zc5).mono ?_; rintro e w3 ⟨rfl,n,rfl⟩)
  | (go_at_call 152; refine (Zd1).mono ?_; rintro e w3 ⟨rfl,n2,rfl⟩)
  | (go_at_call 86; refine (Zdq).mono ?_; rintro e w3 ⟨rfl,n3,rfl⟩))
 all_goals first
  | exact ⟨rfl,rfl,hk2.drewN _⟩
  | (have hq:=HQ.out; exfalso; simp_all; done)
theorem Zsf {w:World} {R:Nat} {s:ByteArray} {p:Nat} {g d:Int} (h:Rc w R s p g d) (hs:s.size<=120) (hb:bt s p=120) (hv:Jp (bt s (p + 1))=none) :
  Calls Tryz.prog 137 #[.pointer (some ⟨R,0,none⟩)] w (ZY R (p + 1) w):=by
 have hp:=Zt hb (by decide);have hne:=h.lt;have hR1:Rc (w.alloc (.cells #[.int .u64 0,.int .u64 0,.int .u64 0,.int .u64 0] 170)) R s p g d:=h.keeps ((Za.refl N0_ w).alloc _) id;have hK1:Za (fun k=>k=R) w (w.alloc (.cells #[.int .u64 0,.int .u64 0,.int .u64 0,.int .u64 0] 170)):=(Za.refl _ w).alloc _;have hr1:Sb (w.alloc (.cells #[.int .u64 0,.int .u64 0,.int .u64 0,.int .u64 0] 170)) w.heap.size (fun _=>0):=heap_alloc_new w _;have c1:=hR1.c1;have HB:Hid (((bt s p:Nat):Int)=120):=(by show _ = _; omega);have HV:Hid (Jp (bt s (p + 1))=none):=hv;clear h hb hv;go_enter Tryz.func137,Tryz.ntmps137;go_wp2_with (first
  | (go_at_call 85; refine (ZC hR1 hs hp).mono ?_; rintro e w2 ⟨rfl,hR2,hk2⟩; rw [HB.out]; replace hr1:=hr1.keeps hk2 (by omega); replace hk2:=hK1.trans hk2)
  | (go_at_call 150; refine (Zcv hR2 hs (by omega) HV.out).mono ?_; rintro e w3 ⟨rfl,hk3⟩))
 exact ⟨rfl,rfl,hk2.trans hk3⟩
theorem Zse {w:World} {R:Nat} {s:ByteArray} {p a:Nat} {g d:Int} (h:Rc w R s p g d) (hs:s.size<=120) (hb:bt s p=120) (hp1:p + 1 < s.size) (hv:Jp (bt s (p + 1))=some a) (hv2:Jp (bt s (p + 2))=none) :
  Calls Tryz.prog 137 #[.pointer (some ⟨R,0,none⟩)] w (ZY R (p + 2) w):=by
 have hp:=Zt hb (by decide);have hne:=h.lt;have hR1:Rc (w.alloc (.cells #[.int .u64 0,.int .u64 0,.int .u64 0,.int .u64 0] 170)) R s p g d:=h.keeps ((Za.refl N0_ w).alloc _) id;have hK1:Za (fun k=>k=R) w (w.alloc (.cells #[.int .u64 0,.int .u64 0,.int .u64 0,.int .u64 0] 170)):=(Za.refl _ w).alloc _;have hr1:Sb (w.alloc (.cells #[.int .u64 0,.int .u64 0,.int .u64 0,.int .u64 0] 170)) w.heap.size (fun _=>0):=heap_alloc_new w _;have c1:=hR1.c1;have HB:Hid (((bt s p:Nat):Int)=120):=(by show _ = _; omega);have HV:Hid (Jp (bt s (p + 1))=some a):=hv;have HV2:Hid (Jp (bt s (p + 2))=none):=hv2;clear h hb hv hv2;go_enter Tryz.func137,Tryz.ntmps137;go_wp2_with (first
  | (go_at_call 85; refine (ZC hR1 hs hp).mono ?_; rintro e w2 ⟨rfl,hR2,hk2⟩; rw [HB.out]; replace hr1:=hr1.keeps hk2 (by omega); replace hk2:=hK1.trans hk2)
  | (go_at_call 150; refine (ZaW hR2 hs hp1 HV.out).mono ?_; clear hR2; rintro e w3 ⟨rfl,hR3,hk3⟩)
  | (go_at_call 150; refine (Zcv hR3 hs (by omega) HV2.out).mono ?_; rintro e w4 ⟨rfl,hk4⟩))
 exact ⟨rfl,rfl,(hk2.trans hk3).trans hk4⟩
theorem Zs5 {w:World} {R:Nat} {s:ByteArray} {p a b:Nat} {g d:Int} (h:Rc w R s p g d) (hs:s.size<=120) (hb:bt s p=120) (hp1:p + 1 < s.size) (hv:Jp (bt s (p + 1))=some a) (hp2:p + 2 < s.size) (hv2:Jp (bt s (p + 2))=some b) :
  Calls Tryz.prog 137 #[.pointer (some ⟨R,0,none⟩)] w (QP R s g d (one (a * 16 + b)) (p + 3) w):=by
 have hp:=Zt hb (by decide);have hne:=h.lt;have hR1:Rc (w.alloc (.cells #[.int .u64 0,.int .u64 0,.int .u64 0,.int .u64 0] 170)) R s p g d:=h.keeps ((Za.refl N0_ w).alloc _) id;have hK1:Za (fun k=>k=R) w (w.alloc (.cells #[.int .u64 0,.int .u64 0,.int .u64 0,.int .u64 0] 170)):=(Za.refl _ w).alloc _;have hr1:Sb (w.alloc (.cells #[.int .u64 0,.int .u64 0,.int .u64 0,.int .u64 0] 170)) w.heap.size (fun _=>0):=heap_alloc_new w _;have c1:=hR1.c1;have HB:Hid (((bt s p:Nat):Int)=120):=(by show _ = _; omega);have HV:Hid (Jp (bt s (p + 1))=some a):=hv;have HV2:Hid (Jp (bt s (p + 2))=some b):=hv2;have ha:=Jz hv;have hb16:=Jz hv2;have haz:(a:Int) < 16:=by omega
 have hbz:(b:Int) < 16:=by omega
 clear h hb hv hv2;go_enter Tryz.func137,Tryz.ntmps137;go_wp2_with (first
  | (go_at_call 85; refine (ZC hR1 hs hp).mono ?_; rintro e w2 ⟨rfl,hR2,hk2⟩; rw [HB.out]; replace hr1:=hr1.keeps hk2 (by omega); replace hk2:=hK1.trans hk2)
  | (go_at_call 150; refine (ZaW hR2 hs hp1 HV.out).mono ?_; clear hR2; rintro e w3 ⟨rfl,hR3,hk3⟩)
  | (go_at_call 150; refine (ZaW hR3 hs (by omega) HV2.out).mono ?_; clear hR3; rintro e w4 ⟨rfl,hR4,hk4⟩; replace hr1:=(hr1.keeps hk3 (by omega)).keeps hk4 (by omega))
  | (go_at_call 135; refine (ZaC _ (by omega) (by omega)).mono ?_; rintro e w5 ⟨f,hf,rfl,hk⟩; replace hr1:=hr1.keeps hk id; have e0:=hr1.cell (q:=0) (by omega); have e1:=hr1.cell (q:=1) (by omega); have e2:=hr1.cell (q:=2) (by omega); have e3:=hr1.cell (q:=3) (by omega); have ef:=hr1.fz))
 refine bodyPost_ret (v:=.agg #[.int .u64 (f 0),.int .u64 (f 1),.int .u64 (f 2),.int .u64 (f 3)]) (by simp [results,Tryz.results137,go_sem,e0,e1,e2,e3]) rfl ?_;have hn:((a:Int) * 16 + (b:Int)).toNat=a * 16 + b:=by omega
 rw [hn] at hf;exact ⟨f,hf,rfl,(hR4.keeps hk id).set4 (by omega),(((hk2.trans hk3).trans hk4).trans hk.none).set4 (by omega)⟩
def Zfg (R:Nat) (s:ByteArray) (g d:Int) (r:Except Nat (Bs×Option Nat×Nat)) (w:World) (e:Ending) (w':World):Prop :=
 match r with
 | .error x=>ZY R x w e w'
 | .ok (S,_,q)=>QP R s g d S q w e w'
theorem Zg7 {s:ByteArray} {p v:Nat} (h:Jp (bt s p)=some v):p < s.size:=by
 by_cases hp:p < s.size
 ·exact hp
 ·rw [Z7 hp] at h; simp [Jp] at h
theorem ZaD {w:World} {R:Nat} {s:ByteArray} {p:Nat} {g d:Int} (h:Rc w R s p g d) (hs:s.size<=120) (hp:p<=s.size) :
  Calls Tryz.prog 137 #[.pointer (some ⟨R,0,none⟩)] w (Zfg R s g d (Zz s p) w):=by
 unfold Zz
 by_cases h0:bt s p=256
 ·rw [if_pos h0]; exact ZqT h hs (by have:=ZiB.1 h0; omega)
 have hb:bt s p < 256:=by
  by_cases hlt:p < s.size
  ·exact Q9 hlt
  ·exact absurd (Z7 hlt) h0
 rw [if_neg h0]
 by_cases h1:bt s p=100
 ·rw [if_pos h1]; exact Ztb h hs h1
 rw [if_neg h1]
 by_cases h2:bt s p=119
 ·rw [if_pos h2]; exact Zs6 h hs h2
 rw [if_neg h2]
 by_cases h3:bt s p=115
 ·rw [if_pos h3]; exact Zs8 h hs h3
 rw [if_neg h3]
 by_cases h4:bt s p=110
 ·rw [if_pos h4]; exact Zta h hs h4
 rw [if_neg h4]
 by_cases h5:bt s p=116
 ·rw [if_pos h5]; exact Zs7 h hs h5
 rw [if_neg h5]
 by_cases h6:bt s p=114
 ·rw [if_pos h6]; exact Zs9 h hs h6
 rw [if_neg h6]
 by_cases h7:bt s p=120
 ·rw [if_pos h7]
  cases e1:Jp (bt s (p + 1)) with
  | none=>exact Zsf h hs h7 e1
  | some a =>
    cases e2:Jp (bt s (p + 2)) with
    | none=>exact Zse h hs h7 (Zg7 e1) e1 e2
    | some b=>exact Zs5 h hs h7 (Zg7 e1) e1 (Zg7 e2) e2
 rw [if_neg h7]
 cases h8:(ZaK (bt s p) || ZU (bt s p) || !printed (bt s p)) with
 | true=>exact ZqU h hs rfl hb ⟨h1,h2,h3,h4,h5,h6,h7⟩ h8
 | false=>exact ZoH h hs rfl hb h8
end Go.Proofs.YtfkflljplohhcaaGreatDoor
