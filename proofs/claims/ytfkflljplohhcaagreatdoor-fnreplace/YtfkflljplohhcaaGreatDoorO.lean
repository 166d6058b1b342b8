import Derived.Test.YtfkflljplohhcaaGreatDoorN
set_option linter.unusedVariables false
set_option maxHeartbeats 1000000
namespace Go.Proofs.YtfkflljplohhcaaGreatDoor
open Go.RowKit
def Rc (w:World) (R:Nat) (s:ByteArray) (a g d:Int):Prop :=
 w.heap[R]?=some (.cells #[.string s,.int .i64 a,.int .i64 g,.int .i64 d] 126 (0,0))
namespace Rc
variable {w:World}{R:Nat}{s:ByteArray}{a g d:Int}
theorem lt(h:Rc w R s a g d):R<w.heap.size:=lt_of_block h
theorem c0(h:Rc w R s a g d):w.cell? (ak R)=some (.string s):=by rw[Zc h];rfl
theorem c1(h:Rc w R s a g d):w.cell? ⟨R,1,none⟩=some (.int .i64 a):=by rw[Zc h];rfl
theorem c2(h:Rc w R s a g d):w.cell? ⟨R,2,none⟩=some (.int .i64 g):=by rw[Zc h];rfl
theorem c3(h:Rc w R s a g d):w.cell? ⟨R,3,none⟩=some (.int .i64 d):=by rw[Zc h];rfl
theorem fz(h:Rc w R s a g d)(i:Nat):w.frozen? ⟨R,i,none⟩=false:=Zv h
theorem drewN(h:Rc w R s a g d)(n:Nat):Rc (w.drewN n) R s a g d:=h
theorem drew(h:Rc w R s a g d):Rc w.drew R s a g d:=h
variable {E:Nat->Prop}{w':World}{p b v P:Nat}{c:Value}
theorem keeps(h:Rc w R s a g d)(k:Za E w w')(hE:¬E R):Rc w' R s a g d:=by
 unfold Rc at h ⊢;rw[k.block R (lt_of_block h) hE];exact h
theorem set1(h:Rc w R s a g d)(x:Int):Rc (w.setCell ⟨R,1,none⟩ (.int .i64 x)) R s x g d:=by unfold Rc;rw[heap_setCell_same _ _ _ _ _ _ h];rfl
theorem set2(h:Rc w R s a g d)(x:Int):Rc (w.setCell ⟨R,2,none⟩ (.int .i64 x)) R s a x d:=by unfold Rc;rw[heap_setCell_same _ _ _ _ _ _ h];rfl
theorem iQ(h:Rc w R s a g d)(x:Int):Rc (w.setCell ⟨R,3,none⟩ (.int .i64 x)) R s a g x:=by unfold Rc;rw[heap_setCell_same _ _ _ _ _ _ h];rfl
end Rc
variable {w w':World}{R p b v a P:Nat}{s:ByteArray}{g d:Int}{c:Value}
theorem ZgI(h:Rc w R s p g d):
  au 54 #[ae R] w fun e w'=>e=.returned (.bool (decide (p=s.size)))/\∃n,w'=w.drewN n:=by
 have c0:=h.c0;have c1:=h.c1;clear h;go_enter Tryz.func54,Tryz.ntmps54;go_wp2;go_quiet (fail);go_wp2;go_ret;exact⟨Z8 (by rw[Bool.eq_iff_iff];simp;omega),_,rfl⟩
theorem IP(h:Rc w R s p g d)(hp:p=s.size):
  au 54 #[ae R] w fun e w'=>e=.returned (.bool true)/\∃n,w'=w.drewN n:=by
 refine(ZgI h).mono ?_;rintro e w' ⟨rfl,hn⟩;exact⟨Z8 (by simp[hp]),hn⟩
theorem Ju(h:Rc w R s p g d)(hp:p<s.size):
  au 54 #[ae R] w fun e w'=>e=.returned (.bool false)/\∃n,w'=w.drewN n:=by
 refine(ZgI h).mono ?_;rintro e w' ⟨rfl,hn⟩;exact⟨Z8 (by simp;omega),hn⟩
theorem Tz(h:Rc w R s p g d)(hs:s.size<=120)(hp:p<=s.size)(hb:b<256):
  au 95 #[ae R,.int .u8 b] w fun e w'=>e=.returned (.bool (decide (bt s p=b)))/\∃n,w'=w.drewN n:=by
 by_cases hlt:p<s.size
 ·have c0:=h.c0;have c1:=h.c1;have hpz:(p:Int)<(s.size:Int):=by omega
  have HR:Hid (Rc w R s p g d):=h;have HB:Hid (bt s p=s[p].toNat):=ZX hlt;clear h;go_enter Tryz.func95,Tryz.ntmps95;go_wp2;go_quiet ((go_at_call 54;exact Calls.quiet_of (Ju (HR.out.drewN _) hlt)));go_wp2;go_ret;exact⟨Z8 (by rw[HB.out,Bool.eq_iff_iff];simp;omega),_,rfl⟩
 ·have hpe:p=s.size:=by omega
  have HR:Hid (Rc w R s p g d):=h;have HB:Hid (bt s p=256):=Z7 hlt;have c0:=h.c0;have c1:=h.c1;clear h;go_enter Tryz.func95,Tryz.ntmps95;go_wp2;go_quiet ((go_at_call 54;exact Calls.quiet_of (IP (HR.out.drewN _) hpe)));go_wp2;go_ret;exact⟨Z8 (by rw[HB.out,Bool.eq_iff_iff];simp;omega),_,rfl⟩
theorem Z4(h:Rc w R s p g d)(hs:s.size<=120)(hp:p<=s.size)(hlt:b<256)(hb:bt s p=b):
  au 76 #[ae R,.int .u8 b] w fun e w'=>e=.returned (.bool true)/\Rc w' R s ((p+1:Nat):Int) g d/\Za (·=R) w w':=by
 have HR:Hid (Rc w R s p g d):=h;have HB:Hid (bt s p=b):=hb;clear h hb;go_enter Tryz.func76,Tryz.ntmps76;go_wp2_with(first|(go_at_call 95;refine(Tz HR.out hs hp hlt).mono ?_;rintro e w2 ⟨rfl,n,rfl⟩;rw[show decide (bt s p=b)=true from by simp[HB.out]];have c1:=(HR.out.drewN n).c1;have f1:=(HR.out.drewN n).fz 1))
 go_ret;exact⟨rfl,(HR.out.drewN _).set1 _,((Za.refl (·=R) _).drewN _).setCell (fun _=>rfl) _⟩
theorem vU(h:Rc w R s p g d)(hs:s.size<=120)(hp:p<=s.size)(hlt:b<256)(hb:bt s p≠b):
  au 76 #[ae R,.int .u8 b] w fun e w'=>e=.returned (.bool false)/\∃n,w'=w.drewN n:=by
 have HR:Hid (Rc w R s p g d):=h;have HB:Hid (bt s p≠b):=hb;clear h hb;go_enter Tryz.func76,Tryz.ntmps76;go_wp2_with(first|(go_at_call 95;refine(Tz HR.out hs hp hlt).mono ?_;rintro e w2 ⟨rfl,n,rfl⟩;rw[show decide (bt s p=b)=false from by simp[HB.out]]))
 go_ret;exact⟨rfl,_,rfl⟩
theorem ZH(h:Rc w R s p g d)(hs:s.size<=120)(hp:p<s.size):
  au 85 #[ae R] w fun e w'=>e=.returned (.int .u8 (bt s p))/\Rc w' R s ((p+1:Nat):Int) g d/\Za (·=R) w w':=by
 have HR:Hid (Rc w R s p g d):=h;have HB:Hid (bt s p=s[p].toNat):=ZX hp;have hpz:(p:Int)<(s.size:Int):=by omega
 clear h;go_enter Tryz.func85,Tryz.ntmps85;go_wp2_with(first|(go_at_call 54;refine(Ju HR.out hp).mono ?_;rintro e w2 ⟨rfl,n,hn⟩;have hR2:Rc w2 R s p g d:=(by rw[hn];exact HR.out.drewN n);have hk2:Za (·=R) w w2:=(by rw[hn];exact(Za.refl _ _).drewN _);clear hn;have c0:=hR2.c0;have c1:=hR2.c1;have f1:=hR2.fz 1))
 go_quiet (fail);go_wp2;go_ret;exact⟨ym (by rw[HB.out]),(hR2.drewN _).set1 _,(hk2.drewN _).setCell (fun _=>rfl) _⟩
theorem ZiP(h:Rc w R s p g d)(hs:s.size<=120)(hp:p=s.size):
  au 85 #[ae R] w fun e w'=>e=.panicked [{ v:=.iface 122 (.agg #[.int .i64 p]),recovered:=false }]/\∃n,w'=w.drewN n:=by
 have HR:Hid (Rc w R s p g d):=h;have HP:Hid (p=s.size):=hp;clear h hp;go_enter Tryz.func85,Tryz.ntmps85;go_wp2_with(first|(go_at_call 54;refine(IP HR.out HP.out).mono ?_;rintro e w2 ⟨rfl,n,rfl⟩;have c0:=(HR.out.drewN n).c0;have c1:=(HR.out.drewN n).c1))
 exact⟨rfl,rfl,n,rfl⟩
theorem JM(h:Rc w R s p g d)(hs:s.size<=120)(hp:p<=s.size)(hlt:b<256)(hb:bt s p=b):
  au 144 #[ae R,.int .u8 b] w fun e w'=>e=.returned (.tuple #[])/\Rc w' R s ((p+1:Nat):Int) g d/\Za (·=R) w w':=by
 have HR:Hid (Rc w R s p g d):=h;have HB:Hid (bt s p=b):=hb;clear h hb;go_enter Tryz.func144,Tryz.ntmps144;go_wp2_with(first|(go_at_call 76;refine(Z4 HR.out hs hp hlt HB.out).mono ?_;rintro e w2 ⟨rfl,hO,hk⟩))
 go_end0;exact⟨rfl,hO,hk⟩
theorem Tn(h:Rc w R s p g d)(hs:s.size<=120)(hp:p<=s.size)(hlt:b<256)(hb:bt s p≠b):
  au 144 #[ae R,.int .u8 b] w fun e w'=>e=.panicked [{ v:=.iface 122 (.agg #[.int .i64 p]),recovered:=false }]/\∃n,w'=w.drewN n:=by
 have HR:Hid (Rc w R s p g d):=h;have HB:Hid (bt s p≠b):=hb;clear h hb;go_enter Tryz.func144,Tryz.ntmps144;go_wp2_with(first|(go_at_call 76;refine(vU HR.out hs hp hlt HB.out).mono ?_;rintro e w2 ⟨rfl,n,rfl⟩;have c1:=(HR.out.drewN n).c1))
 exact⟨rfl,rfl,n,rfl⟩
theorem T9:
  au 86 #[.int .u8 b] w fun e w'=>e=.returned (.bool (ZI b))/\∃n,w'=w.drewN n:=by
 go_enter Tryz.func86,Tryz.ntmps86;go_wp2
 all_goals go_ret
 all_goals exact⟨Z8 (by rw[Bool.eq_iff_iff];simp[ZI];omega),0,rfl⟩
theorem Zke(h:Jm b=some v):(ZI b=true/\48<=b/\b<=57/\v=b-48)\/(ZI b=false/\97<=b/\b<=102/\v=b-87):=by
 unfold Jm at h
 split at h
 ·rename_i hb;left;simp at h;exact⟨by simp[ZI,hb],hb.1,hb.2,h.symm⟩
 ·split at h
  ·rename_i h1 hb;right;simp at h;exact⟨by simp[ZI];omega,hb.1,hb.2,h.symm⟩
  ·simp at h
theorem ZmH(h:Jm b=none):ZI b=false/\¬(97<=b/\b<=102):=by
 unfold Jm at h
 split at h
 ·simp at h
 ·split at h
  ·simp at h
  ·rename_i h1 h2;exact⟨by simp[ZI];omega,h2⟩
def rz (k:Nat):Nat:=if k<10 then 48+k else 87+k
theorem Zsj(h:Jm b=some v):v<16/\b=rz v:=by
 rcases Zke h with⟨_,h1,h2,h3⟩ | ⟨_,h1,h2,h3⟩
 ·exact⟨by omega,by unfold rz;split <;> omega⟩
 ·exact⟨by omega,by unfold rz;split <;> omega⟩
theorem ZpD(ha:a<16)(hb:b<16)(h:rz a=rz b):a=b:=by
 unfold rz at h
 split at h <;> split at h <;> omega
theorem ZmK{k:Nat}(h:Jm b=none)(hk:k<16):b≠rz k:=by
 obtain⟨h1,h2⟩:=ZmH h;simp[ZI] at h1;unfold rz
 split <;> omega
theorem SY{k:Nat}(hk:k<16):rz k<256:=by unfold rz;split <;> omega
theorem Zes(a:Nat)(h:a<16)(w:World):Sem.run Tryz.prog (Instr.index 9 (.string { data:=#[48,49,50,51,52,53,54,55,56,57,97,98,99,100,101,102] }) (.int .i64 (a:Int))) w=.ok (.int .u8 ((rz a:Nat):Int)) w:=by
 rcases(show a=0\/a=1\/a=2\/a=3\/a=4\/a=5\/a=6\/a=7\/a=8\/a=9\/a=10\/a=11\/a=12\/a=13\/a=14\/a=15 from by omega) with h | h | h | h | h | h | h | h | h | h | h | h | h | h | h | h <;> subst h <;> kernel_rfl
theorem Zha(h:Rc w R s p g d)(hs:s.size<=120)(hp:p<=s.size)(hv:Jm (bt s p)=some v):
  au 160 #[ae R] w fun e w'=>e=.returned (.tuple #[.int .u8 v,.bool true])/\Rc w' R s ((p+1:Nat):Int) g d/\Za (·=R) w w':=by
 obtain⟨xaf,hbv⟩:=Zsj hv;have HB:Hid (bt s p=rz v):=hbv;have HR:Hid (Rc w R s p g d):=h;clear h hv hbv;go_enter Tryz.func160,Tryz.ntmps160;go_wp2;go_loopg [4,5] 17 (fun gl _ s5 wr =>∃k:Nat,k+gl=17/\k<=v/\s5=.int .i64 (k:Int)/\∃n,wr=w.drewN n)
 case atStart=>exact⟨0,by omega,by omega,rfl,0,rfl⟩
 case round =>
  obtain⟨k,hgl,hk,rfl,n,rfl⟩:=hrel;have HG:Hid (k+gk=17):=hgl;clear hgl;have hz:(k:Int)<16:=by omega
  have hidx:=Zes k (by omega);have aK:=HR.out.drewN n
  by_cases bO:k=v
  ·subst bO;have hcall:=Z4 aK hs hp (SY (by omega)) HB.out;have hwr:IntKind.u8.wrap (k:Int)=(k:Int):=IntWalk.u8_in _ ⟨by omega,by omega⟩;go_wp2_with(go_at_call 76;refine hcall.mono ?_;rintro e w2 ⟨rfl,hR2,hk2⟩);go_ret2;exact⟨by first | rfl |(rw[hwr]),hR2,(((Za.refl _ _).drewN n).trans hk2)⟩
  ·have hcall:=vU aK hs hp (SY (k:=k) (by omega)) (by rw[HB.out];exact fun e=>bO (ZpD (by omega) (by omega) e.symm));have hlt:k<v:=by omega
   go_wp2_with(go_at_call 76;refine hcall.mono ?_;rintro e w2 ⟨rfl,m,rfl⟩);go_roundg (gk-1)
   case measure=>have:=HG.out;omega
   case rel=>exact⟨k+1,by have:=HG.out;omega,by omega,congrArg (Value.int .i64) (by omega),n+m,rfl⟩
theorem ZjF(h:Rc w R s p g d)(hs:s.size<=120)(hp:p<=s.size)(hv:Jm (bt s p)=none):
  au 160 #[ae R] w fun e w'=>e=.returned (.tuple #[.int .u8 0,.bool false])/\∃n,w'=w.drewN n:=by
 have HB:Hid (∀k,k<16->bt s p≠rz k):=fun k hk=>ZmK hv hk;have HR:Hid (Rc w R s p g d):=h;clear h hv;go_enter Tryz.func160,Tryz.ntmps160;go_wp2;go_loopg [4,5] 17 (fun gl _ s5 wr =>∃k:Nat,k+gl=17/\k<=16/\s5=.int .i64 (k:Int)/\∃n,wr=w.drewN n)
 case atStart=>exact⟨0,by omega,by omega,rfl,0,rfl⟩
 case round =>
  obtain⟨k,hgl,hk,rfl,n,rfl⟩:=hrel;have HG:Hid (k+gk=17):=hgl;clear hgl;have aK:=HR.out.drewN n
  by_cases hlt:k<16
  ·have hz:(k:Int)<16:=by omega
   have hidx:=Zes k hlt;have hcall:=vU aK hs hp (SY (k:=k) (by omega)) (HB.out k hlt);go_wp2_with(go_at_call 76;refine hcall.mono ?_;rintro e w2 ⟨rfl,m,rfl⟩);go_roundg (gk-1)
   case measure=>have:=HG.out;omega
   case rel=>exact⟨k+1,by have:=HG.out;omega,by omega,congrArg (Value.int .i64) (by omega),n+m,rfl⟩
  ·have hz:¬(k:Int)<16:=by omega
   go_wp2;go_ret2;exact⟨rfl,n,rfl⟩
theorem UG(h:Rc w R s p g d)(hs:s.size<=120)(hp:p<s.size)(hv:Jm (bt s p)=some v):
  au 150 #[ae R] w fun e w'=>e=.returned (.int .u8 v)/\Rc w' R s ((p+1:Nat):Int) g d/\Za (·=R) w w':=by
 have hcall:=Zha h hs (by omega) hv;clear h hv;go_enter Tryz.func150,Tryz.ntmps150;go_wp2_with(go_at_call 160;refine hcall.mono ?_;rintro e w2 ⟨rfl,hR2,hk2⟩);go_ret;exact⟨rfl,hR2,hk2⟩
theorem ZcM(h:Rc w R s p g d)(hs:s.size<=120)(hp:p<=s.size)(hv:Jm (bt s p)=none):
  au 150 #[ae R] w fun e w'=>e=.panicked [{ v:=.iface 122 (.agg #[.int .i64 p]),recovered:=false }]/\Za (·=R) w w':=by
 have hcall:=ZjF h hs (by omega) hv;have HR:Hid (Rc w R s p g d):=h;clear h hv;go_enter Tryz.func150,Tryz.ntmps150;go_wp2_with(go_at_call 160;refine hcall.mono ?_;rintro e w2 ⟨rfl,n,rfl⟩;have c1:=(HR.out.drewN n).c1);exact⟨rfl,rfl,(Za.refl _ _).drewN _⟩
def QS (R:Nat) (s:ByteArray) (g d:Int) (S:Bs) (q:Nat) (w:World) (e:Ending) (w':World):Prop :=
 ∃f,Bv S f/\e=.returned (.agg #[.int .u64 (f 0),.int .u64 (f 1),.int .u64 (f 2),.int .u64 (f 3)])/\Rc w' R s q g d/\Za (·=R) w w'
def Z0 (R:Nat) (x:Nat) (w:World) (e:Ending) (w':World):Prop :=
 e=.panicked [{ v:=.iface 122 (.agg #[.int .i64 x]),recovered:=false }]/\Za (·=R) w w'
theorem Za.aX(h:Za (·=R) w w')(hP:w.heap.size<=P){a b d:Value}:Za (·=R) w ((((w'.setCell (ak P) a).setCell ⟨P,1,none⟩ b).setCell ⟨P,2,none⟩ c).setCell ⟨P,3,none⟩ d) :=
 (((h.setCell (fun h=>absurd h (by simp;omega)) _).setCell (fun h=>absurd h (by simp;omega)) _).setCell (fun h=>absurd h (by simp;omega)) _).setCell (fun h=>absurd h (by simp;omega)) _
theorem Rc.aX{x y:Int}(h:Rc w R s x g y)(hP:R≠P){a b d:Value}:Rc ((((w.setCell (ak P) a).setCell ⟨P,1,none⟩ b).setCell ⟨P,2,none⟩ c).setCell ⟨P,3,none⟩ d) R s x g y :=
 h.keeps ((((((Za.refl (·=P) w).setCell (fun _=>rfl) _).setCell (fun _=>rfl) _).setCell (fun _=>rfl) _).setCell (fun _=>rfl) _)) hP
variable {E:Nat->Prop}
theorem Za.none(h:Za ai w w'):Za E w w':=h.mono (fun _ _ h=>h.elim)
theorem Zst(h:Rc w R s p g d)(hs:s.size<=120)(hp:p=s.size):
  au 137 #[ae R] w (Z0 R p w):=by
 have hne:=h.lt;have aK:Rc (w.alloc (.cells #[.int .u64 0,.int .u64 0,.int .u64 0,.int .u64 0] 170)) R s p g d:=h.keeps ((Za.refl ai w).alloc _) id;have hK1:Za (·=R) w (w.alloc (.cells #[.int .u64 0,.int .u64 0,.int .u64 0,.int .u64 0] 170)):=(Za.refl _ w).alloc _;have hr1:Sb (w.alloc (.cells #[.int .u64 0,.int .u64 0,.int .u64 0,.int .u64 0] 170)) w.heap.size (fun _=>0):=heap_alloc_new w _;have c1:=aK.c1;have HP:Hid (p=s.size):=hp;clear h hp;go_enter Tryz.func137,Tryz.ntmps137;go_wp2_with(first|(go_at_call 85;refine(ZiP aK hs HP.out).mono ?_;rintro e w2 ⟨rfl,n,rfl⟩))
 exact⟨rfl,rfl,hK1.drewN _⟩
theorem Zu7(h:Rc w R s p g d)(hs:s.size<=120)(hb:bt s p=100):
  au 137 #[ae R] w (QS R s g d (eH 48 57) (p+1) w):=by
 have hp:=Zn hb (by decide);have hne:=h.lt;have aK:Rc (w.alloc (.cells #[.int .u64 0,.int .u64 0,.int .u64 0,.int .u64 0] 170)) R s p g d:=h.keeps ((Za.refl ai w).alloc _) id;have hK1:Za (·=R) w (w.alloc (.cells #[.int .u64 0,.int .u64 0,.int .u64 0,.int .u64 0] 170)):=(Za.refl _ w).alloc _;have hr1:Sb (w.alloc (.cells #[.int .u64 0,.int .u64 0,.int .u64 0,.int .u64 0] 170)) w.heap.size (fun _=>0):=heap_alloc_new w _;have c1:=aK.c1;have HB:Hid (((bt s p:Nat):Int)=100):=(by show _ = _;omega);clear h hb;go_enter Tryz.func137,Tryz.ntmps137;go_wp2_with(first|(go_at_call 85;refine(ZH aK hs hp).mono ?_;rintro e w2 ⟨rfl,hR2,hk2⟩;rw[HB.out];replace hr1:=hr1.keeps hk2 (by omega);replace hk2:=hK1.trans hk2)|(go_at_call 147;refine(TD _ _ (by omega) (by omega) (by omega) (by omega)).mono ?_;rintro e w3 ⟨f,hf,rfl,hk⟩;replace hr1:=hr1.keeps hk id;have e0:=hr1.cell (q:=0) (by omega);have e1:=hr1.cell (q:=1) (by omega);have e2:=hr1.cell (q:=2) (by omega);have e3:=hr1.cell (q:=3) (by omega);have ef:=hr1.fz))
 refine bodyPost_ret (v:=.agg #[.int .u64 (f 0),.int .u64 (f 1),.int .u64 (f 2),.int .u64 (f 3)]) (by simp[results,Tryz.results137,go_sem,e0,e1,e2,e3]) rfl ?_;exact⟨f,hf,rfl,(hR2.keeps hk id).aX (by omega),(hk2.trans hk.none).aX (by omega)⟩
theorem Zu2(h:Rc w R s p g d)(hs:s.size<=120)(hb:bt s p=119):
  au 137 #[ae R] w (QS R s g d (Dv) (p+1) w):=by
 have hp:=Zn hb (by decide);have hne:=h.lt;have aK:Rc (w.alloc (.cells #[.int .u64 0,.int .u64 0,.int .u64 0,.int .u64 0] 170)) R s p g d:=h.keeps ((Za.refl ai w).alloc _) id;have hK1:Za (·=R) w (w.alloc (.cells #[.int .u64 0,.int .u64 0,.int .u64 0,.int .u64 0] 170)):=(Za.refl _ w).alloc _;have hr1:Sb (w.alloc (.cells #[.int .u64 0,.int .u64 0,.int .u64 0,.int .u64 0] 170)) w.heap.size (fun _=>0):=heap_alloc_new w _;have c1:=aK.c1;have HB:Hid (((bt s p:Nat):Int)=119):=(by show _ = _;omega);clear h hb;go_enter Tryz.func137,Tryz.ntmps137;go_wp2_with(first|(go_at_call 85;refine(ZH aK hs hp).mono ?_;rintro e w2 ⟨rfl,hR2,hk2⟩;rw[HB.out];replace hr1:=hr1.keeps hk2 (by omega);replace hk2:=hK1.trans hk2)|(go_at_call 148;refine(Zol).mono ?_;rintro e w3 ⟨f,hf,rfl,hk⟩;replace hr1:=hr1.keeps hk id;have e0:=hr1.cell (q:=0) (by omega);have e1:=hr1.cell (q:=1) (by omega);have e2:=hr1.cell (q:=2) (by omega);have e3:=hr1.cell (q:=3) (by omega);have ef:=hr1.fz))
 refine bodyPost_ret (v:=.agg #[.int .u64 (f 0),.int .u64 (f 1),.int .u64 (f 2),.int .u64 (f 3)]) (by simp[results,Tryz.results137,go_sem,e0,e1,e2,e3]) rfl ?_;exact⟨f,hf,rfl,(hR2.keeps hk id).aX (by omega),(hk2.trans hk.none).aX (by omega)⟩
theorem Zu4(h:Rc w R s p g d)(hs:s.size<=120)(hb:bt s p=115):
  au 137 #[ae R] w (QS R s g d (DC) (p+1) w):=by
 have hp:=Zn hb (by decide);have hne:=h.lt;have aK:Rc (w.alloc (.cells #[.int .u64 0,.int .u64 0,.int .u64 0,.int .u64 0] 170)) R s p g d:=h.keeps ((Za.refl ai w).alloc _) id;have hK1:Za (·=R) w (w.alloc (.cells #[.int .u64 0,.int .u64 0,.int .u64 0,.int .u64 0] 170)):=(Za.refl _ w).alloc _;have hr1:Sb (w.alloc (.cells #[.int .u64 0,.int .u64 0,.int .u64 0,.int .u64 0] 170)) w.heap.size (fun _=>0):=heap_alloc_new w _;have c1:=aK.c1;have HB:Hid (((bt s p:Nat):Int)=115):=(by show _ = _;omega);clear h hb;go_enter Tryz.func137,Tryz.ntmps137;go_wp2_with(first|(go_at_call 85;refine(ZH aK hs hp).mono ?_;rintro e w2 ⟨rfl,hR2,hk2⟩;rw[HB.out];replace hr1:=hr1.keeps hk2 (by omega);replace hk2:=hK1.trans hk2)|(go_at_call 149;refine(Zli).mono ?_;rintro e w3 ⟨f,hf,rfl,hk⟩;replace hr1:=hr1.keeps hk id;have e0:=hr1.cell (q:=0) (by omega);have e1:=hr1.cell (q:=1) (by omega);have e2:=hr1.cell (q:=2) (by omega);have e3:=hr1.cell (q:=3) (by omega);have ef:=hr1.fz))
 refine bodyPost_ret (v:=.agg #[.int .u64 (f 0),.int .u64 (f 1),.int .u64 (f 2),.int .u64 (f 3)]) (by simp[results,Tryz.results137,go_sem,e0,e1,e2,e3]) rfl ?_;exact⟨f,hf,rfl,(hR2.keeps hk id).aX (by omega),(hk2.trans hk.none).aX (by omega)⟩
theorem Zu6(h:Rc w R s p g d)(hs:s.size<=120)(hb:bt s p=110):
  au 137 #[ae R] w (QS R s g d (one 10) (p+1) w):=by
 have hp:=Zn hb (by decide);have hne:=h.lt;have aK:Rc (w.alloc (.cells #[.int .u64 0,.int .u64 0,.int .u64 0,.int .u64 0] 170)) R s p g d:=h.keeps ((Za.refl ai w).alloc _) id;have hK1:Za (·=R) w (w.alloc (.cells #[.int .u64 0,.int .u64 0,.int .u64 0,.int .u64 0] 170)):=(Za.refl _ w).alloc _;have hr1:Sb (w.alloc (.cells #[.int .u64 0,.int .u64 0,.int .u64 0,.int .u64 0] 170)) w.heap.size (fun _=>0):=heap_alloc_new w _;have c1:=aK.c1;have HB:Hid (((bt s p:Nat):Int)=110):=(by show _ = _;omega);clear h hb;go_enter Tryz.func137,Tryz.ntmps137;go_wp2_with(first|(go_at_call 85;refine(ZH aK hs hp).mono ?_;rintro e w2 ⟨rfl,hR2,hk2⟩;rw[HB.out];replace hr1:=hr1.keeps hk2 (by omega);replace hk2:=hK1.trans hk2)|(go_at_call 135;refine(BV _ (by omega) (by omega)).mono ?_;rintro e w3 ⟨f,hf,rfl,hk⟩;replace hr1:=hr1.keeps hk id;have e0:=hr1.cell (q:=0) (by omega);have e1:=hr1.cell (q:=1) (by omega);have e2:=hr1.cell (q:=2) (by omega);have e3:=hr1.cell (q:=3) (by omega);have ef:=hr1.fz))
 refine bodyPost_ret (v:=.agg #[.int .u64 (f 0),.int .u64 (f 1),.int .u64 (f 2),.int .u64 (f 3)]) (by simp[results,Tryz.results137,go_sem,e0,e1,e2,e3]) rfl ?_;exact⟨f,hf,rfl,(hR2.keeps hk id).aX (by omega),(hk2.trans hk.none).aX (by omega)⟩
theorem Zu3(h:Rc w R s p g d)(hs:s.size<=120)(hb:bt s p=116):
  au 137 #[ae R] w (QS R s g d (one 9) (p+1) w):=by
 have hp:=Zn hb (by decide);have hne:=h.lt;have aK:Rc (w.alloc (.cells #[.int .u64 0,.int .u64 0,.int .u64 0,.int .u64 0] 170)) R s p g d:=h.keeps ((Za.refl ai w).alloc _) id;have hK1:Za (·=R) w (w.alloc (.cells #[.int .u64 0,.int .u64 0,.int .u64 0,.int .u64 0] 170)):=(Za.refl _ w).alloc _;have hr1:Sb (w.alloc (.cells #[.int .u64 0,.int .u64 0,.int .u64 0,.int .u64 0] 170)) w.heap.size (fun _=>0):=heap_alloc_new w _;have c1:=aK.c1;have HB:Hid (((bt s p:Nat):Int)=116):=(by show _ = _;omega);clear h hb;go_enter Tryz.func137,Tryz.ntmps137;go_wp2_with(first|(go_at_call 85;refine(ZH aK hs hp).mono ?_;rintro e w2 ⟨rfl,hR2,hk2⟩;rw[HB.out];replace hr1:=hr1.keeps hk2 (by omega);replace hk2:=hK1.trans hk2)|(go_at_call 135;refine(BV _ (by omega) (by omega)).mono ?_;rintro e w3 ⟨f,hf,rfl,hk⟩;replace hr1:=hr1.keeps hk id;have e0:=hr1.cell (q:=0) (by omega);have e1:=hr1.cell (q:=1) (by omega);have e2:=hr1.cell (q:=2) (by omega);have e3:=hr1.cell (q:=3) (by omega);have ef:=hr1.fz))
 refine bodyPost_ret (v:=.agg #[.int .u64 (f 0),.int .u64 (f 1),.int .u64 (f 2),.int .u64 (f 3)]) (by simp[results,Tryz.results137,go_sem,e0,e1,e2,e3]) rfl ?_;exact⟨f,hf,rfl,(hR2.keeps hk id).aX (by omega),(hk2.trans hk.none).aX (by omega)⟩
theorem Zu5(h:Rc w R s p g d)(hs:s.size<=120)(hb:bt s p=114):
  au 137 #[ae R] w (QS R s g d (one 13) (p+1) w):=by
 have hp:=Zn hb (by decide);have hne:=h.lt;have aK:Rc (w.alloc (.cells #[.int .u64 0,.int .u64 0,.int .u64 0,.int .u64 0] 170)) R s p g d:=h.keeps ((Za.refl ai w).alloc _) id;have hK1:Za (·=R) w (w.alloc (.cells #[.int .u64 0,.int .u64 0,.int .u64 0,.int .u64 0] 170)):=(Za.refl _ w).alloc _;have hr1:Sb (w.alloc (.cells #[.int .u64 0,.int .u64 0,.int .u64 0,.int .u64 0] 170)) w.heap.size (fun _=>0):=heap_alloc_new w _;have c1:=aK.c1;have HB:Hid (((bt s p:Nat):Int)=114):=(by show _ = _;omega);clear h hb;go_enter Tryz.func137,Tryz.ntmps137;go_wp2_with(first|(go_at_call 85;refine(ZH aK hs hp).mono ?_;rintro e w2 ⟨rfl,hR2,hk2⟩;rw[HB.out];replace hr1:=hr1.keeps hk2 (by omega);replace hk2:=hK1.trans hk2)|(go_at_call 135;refine(BV _ (by omega) (by omega)).mono ?_;rintro e w3 ⟨f,hf,rfl,hk⟩;replace hr1:=hr1.keeps hk id;have e0:=hr1.cell (q:=0) (by omega);have e1:=hr1.cell (q:=1) (by omega);have e2:=hr1.cell (q:=2) (by omega);have e3:=hr1.cell (q:=3) (by omega);have ef:=hr1.fz))
 refine bodyPost_ret (v:=.agg #[.int .u64 (f 0),.int .u64 (f 1),.int .u64 (f 2),.int .u64 (f 3)]) (by simp[results,Tryz.results137,go_sem,e0,e1,e2,e3]) rfl ?_;exact⟨f,hf,rfl,(hR2.keeps hk id).aX (by omega),(hk2.trans hk.none).aX (by omega)⟩
theorem Zep:
  au 152 #[.int .u8 b] w fun e w'=>e=.returned (.bool (JH b))/\∃n,w'=w.drewN n:=by
 go_enter Tryz.func152,Tryz.ntmps152;go_wp2
 all_goals go_ret
 all_goals exact⟨Z8 (by rw[Bool.eq_iff_iff];simp[JH];omega),0,rfl⟩
theorem Zdn:
  au 151 #[.int .u8 b] w fun e w'=>e=.returned (.bool (printed b))/\∃n,w'=w.drewN n:=by
 go_enter Tryz.func151,Tryz.ntmps151;go_wp2
 all_goals go_ret
 all_goals exact⟨Z8 (by rw[Bool.eq_iff_iff];simp[printed];omega),0,rfl⟩
theorem ZpY(h:Rc w R s p g d)(hs:s.size<=120)(hb:bt s p=b)(hlt:b<256)(hq:(JH b || ZI b || !printed b)=false):
  au 137 #[ae R] w (QS R s g d (one b) (p+1) w):=by
 have hp:=Zn hb hlt;have hne:=h.lt;have aK:Rc (w.alloc (.cells #[.int .u64 0,.int .u64 0,.int .u64 0,.int .u64 0] 170)) R s p g d:=h.keeps ((Za.refl ai w).alloc _) id;have hK1:Za (·=R) w (w.alloc (.cells #[.int .u64 0,.int .u64 0,.int .u64 0,.int .u64 0] 170)):=(Za.refl _ w).alloc _;have hr1:Sb (w.alloc (.cells #[.int .u64 0,.int .u64 0,.int .u64 0,.int .u64 0] 170)) w.heap.size (fun _=>0):=heap_alloc_new w _;have c1:=aK.c1;simp at hq;obtain⟨⟨hl,hd⟩,hpr⟩:=hq;have HL:Hid (JH b=false):=hl;have HD:Hid (ZI b=false):=hd;have HP:Hid (printed b=true):=hpr;have HB:Hid (bt s p=b):=hb;have hx:¬(97<=b/\b<=122):=by intro hh;simp[JH] at hl;omega
 clear h hb hl hd hpr;have n1:((b:Int) == 100)=false:=by simp;omega
 have n2:((b:Int) == 119)=false:=by simp;omega
 have n3:((b:Int) == 115)=false:=by simp;omega
 have n4:((b:Int) == 110)=false:=by simp;omega
 have n5:((b:Int) == 116)=false:=by simp;omega
 have n6:((b:Int) == 114)=false:=by simp;omega
 have n7:((b:Int) == 120)=false:=by simp;omega
 go_enter Tryz.func137,Tryz.ntmps137;go_wp2_with(first|(go_at_call 85;refine(ZH aK hs hp).mono ?_;rintro e w2 ⟨rfl,hR2,hk2⟩;rw[HB.out];replace hr1:=hr1.keeps hk2 (by omega);replace hk2:=hK1.trans hk2)|(go_at_call 151;refine(Zdn).mono ?_;rintro e w3 ⟨rfl,n,rfl⟩;rw[HP.out])|(go_at_call 152;refine(Zep).mono ?_;rintro e w3 ⟨rfl,n2,rfl⟩;rw[HL.out])|(go_at_call 86;refine(T9).mono ?_;rintro e w3 ⟨rfl,n3,rfl⟩;rw[HD.out])|(go_at_call 135;refine(Iz b hlt).mono ?_;rintro e w3 ⟨f,hf,rfl,hk⟩;replace hk:=((Za.refl ai w2).drewN _).trans hk;replace hr1:=hr1.keeps hk id;have e0:=hr1.cell (q:=0) (by omega);have e1:=hr1.cell (q:=1) (by omega);have e2:=hr1.cell (q:=2) (by omega);have e3:=hr1.cell (q:=3) (by omega);have ef:=hr1.fz))
 refine bodyPost_ret (v:=.agg #[.int .u64 (f 0),.int .u64 (f 1),.int .u64 (f 2),.int .u64 (f 3)]) (by simp[results,Tryz.results137,go_sem,e0,e1,e2,e3]) rfl ?_;exact⟨f,hf,rfl,(hR2.keeps hk id).aX (by omega),(hk2.trans hk.none).aX (by omega)⟩
theorem Zsu(h:Rc w R s p g d)(hs:s.size<=120)(hb:bt s p=b)(hlt:b<256)(hx:b≠100/\b≠119/\b≠115/\b≠110/\b≠116/\b≠114/\b≠120)(hq:(JH b || ZI b || !printed b)=true):
  au 137 #[ae R] w (Z0 R p w):=by
 have hp:=Zn hb hlt;have hne:=h.lt;have aK:Rc (w.alloc (.cells #[.int .u64 0,.int .u64 0,.int .u64 0,.int .u64 0] 170)) R s p g d:=h.keeps ((Za.refl ai w).alloc _) id;have hK1:Za (·=R) w (w.alloc (.cells #[.int .u64 0,.int .u64 0,.int .u64 0,.int .u64 0] 170)):=(Za.refl _ w).alloc _;have hr1:Sb (w.alloc (.cells #[.int .u64 0,.int .u64 0,.int .u64 0,.int .u64 0] 170)) w.heap.size (fun _=>0):=heap_alloc_new w _;have c1:=aK.c1;have HQ:Hid ((JH b || ZI b || !printed b)=true):=hq;have HB:Hid (bt s p=b):=hb;clear h hb hq;have n1:((b:Int) == 100)=false:=by simp;omega
 have n2:((b:Int) == 119)=false:=by simp;omega
 have n3:((b:Int) == 115)=false:=by simp;omega
 have n4:((b:Int) == 110)=false:=by simp;omega
 have n5:((b:Int) == 116)=false:=by simp;omega
 have n6:((b:Int) == 114)=false:=by simp;omega
 have n7:((b:Int) == 120)=false:=by simp;omega
 go_enter Tryz.func137,Tryz.ntmps137;go_wp2_with(first|(go_at_call 85;refine(ZH aK hs hp).mono ?_;rintro e w2 ⟨rfl,hR2,hk2⟩;rw[HB.out];replace hr1:=hr1.keeps hk2 (by omega);replace hk2:=hK1.trans hk2)|(go_at_call 151;refine(Zdn).mono ?_;rintro e w3 ⟨rfl,n,rfl⟩)|(go_at_call 152;refine(Zep).mono ?_;rintro e w3 ⟨rfl,n2,rfl⟩)|(go_at_call 86;refine(T9).mono ?_;rintro e w3 ⟨rfl,n3,rfl⟩))
 all_goals first
  | exact⟨rfl,rfl,hk2.drewN _⟩
  |(have hq:=HQ.out;exfalso;simp_all;done)
theorem Zt5(h:Rc w R s p g d)(hs:s.size<=120)(hb:bt s p=120)(hv:Jm (bt s (p+1))=none):
  au 137 #[ae R] w (Z0 R (p+1) w):=by
 have hp:=Zn hb (by decide);have hne:=h.lt;have aK:Rc (w.alloc (.cells #[.int .u64 0,.int .u64 0,.int .u64 0,.int .u64 0] 170)) R s p g d:=h.keeps ((Za.refl ai w).alloc _) id;have hK1:Za (·=R) w (w.alloc (.cells #[.int .u64 0,.int .u64 0,.int .u64 0,.int .u64 0] 170)):=(Za.refl _ w).alloc _;have hr1:Sb (w.alloc (.cells #[.int .u64 0,.int .u64 0,.int .u64 0,.int .u64 0] 170)) w.heap.size (fun _=>0):=heap_alloc_new w _;have c1:=aK.c1;have HB:Hid (((bt s p:Nat):Int)=120):=(by show _ = _;omega);have HV:Hid (Jm (bt s (p+1))=none):=hv;clear h hb hv;go_enter Tryz.func137,Tryz.ntmps137;go_wp2_with(first|(go_at_call 85;refine(ZH aK hs hp).mono ?_;rintro e w2 ⟨rfl,hR2,hk2⟩;rw[HB.out];replace hr1:=hr1.keeps hk2 (by omega);replace hk2:=hK1.trans hk2)|(go_at_call 150;refine(ZcM hR2 hs (by omega) HV.out).mono ?_;rintro e w3 ⟨rfl,hk3⟩))
 exact⟨rfl,rfl,hk2.trans hk3⟩
theorem Zt4(h:Rc w R s p g d)(hs:s.size<=120)(hb:bt s p=120)(hp1:p+1<s.size)(hv:Jm (bt s (p+1))=some a)(hv2:Jm (bt s (p+2))=none):
  au 137 #[ae R] w (Z0 R (p+2) w):=by
 have hp:=Zn hb (by decide);have hne:=h.lt;have aK:Rc (w.alloc (.cells #[.int .u64 0,.int .u64 0,.int .u64 0,.int .u64 0] 170)) R s p g d:=h.keeps ((Za.refl ai w).alloc _) id;have hK1:Za (·=R) w (w.alloc (.cells #[.int .u64 0,.int .u64 0,.int .u64 0,.int .u64 0] 170)):=(Za.refl _ w).alloc _;have hr1:Sb (w.alloc (.cells #[.int .u64 0,.int .u64 0,.int .u64 0,.int .u64 0] 170)) w.heap.size (fun _=>0):=heap_alloc_new w _;have c1:=aK.c1;have HB:Hid (((bt s p:Nat):Int)=120):=(by show _ = _;omega);have HV:Hid (Jm (bt s (p+1))=some a):=hv;have UU:Hid (Jm (bt s (p+2))=none):=hv2;clear h hb hv hv2;go_enter Tryz.func137,Tryz.ntmps137;go_wp2_with(first|(go_at_call 85;refine(ZH aK hs hp).mono ?_;rintro e w2 ⟨rfl,hR2,hk2⟩;rw[HB.out];replace hr1:=hr1.keeps hk2 (by omega);replace hk2:=hK1.trans hk2)|(go_at_call 150;refine(UG hR2 hs hp1 HV.out).mono ?_;clear hR2;rintro e w3 ⟨rfl,gB,hk3⟩)|(go_at_call 150;refine(ZcM gB hs (by omega) UU.out).mono ?_;rintro e w4 ⟨rfl,hk4⟩))
 exact⟨rfl,rfl,(hk2.trans hk3).trans hk4⟩
theorem Zu1(h:Rc w R s p g d)(hs:s.size<=120)(hb:bt s p=120)(hp1:p+1<s.size)(hv:Jm (bt s (p+1))=some a)(hp2:p+2<s.size)(hv2:Jm (bt s (p+2))=some b):
  au 137 #[ae R] w (QS R s g d (one (a*16+b)) (p+3) w):=by
 have hp:=Zn hb (by decide);have hne:=h.lt;have aK:Rc (w.alloc (.cells #[.int .u64 0,.int .u64 0,.int .u64 0,.int .u64 0] 170)) R s p g d:=h.keeps ((Za.refl ai w).alloc _) id;have hK1:Za (·=R) w (w.alloc (.cells #[.int .u64 0,.int .u64 0,.int .u64 0,.int .u64 0] 170)):=(Za.refl _ w).alloc _;have hr1:Sb (w.alloc (.cells #[.int .u64 0,.int .u64 0,.int .u64 0,.int .u64 0] 170)) w.heap.size (fun _=>0):=heap_alloc_new w _;have c1:=aK.c1;have HB:Hid (((bt s p:Nat):Int)=120):=(by show _ = _;omega);have HV:Hid (Jm (bt s (p+1))=some a):=hv;have UU:Hid (Jm (bt s (p+2))=some b):=hv2;have ha:=JC hv;have xaB:=JC hv2;have haz:(a:Int)<16:=by omega
 have hbz:(b:Int)<16:=by omega
 clear h hb hv hv2;go_enter Tryz.func137,Tryz.ntmps137;go_wp2_with(first|(go_at_call 85;refine(ZH aK hs hp).mono ?_;rintro e w2 ⟨rfl,hR2,hk2⟩;rw[HB.out];replace hr1:=hr1.keeps hk2 (by omega);replace hk2:=hK1.trans hk2)|(go_at_call 150;refine(UG hR2 hs hp1 HV.out).mono ?_;clear hR2;rintro e w3 ⟨rfl,gB,hk3⟩)|(go_at_call 150;refine(UG gB hs (by omega) UU.out).mono ?_;clear gB;rintro e w4 ⟨rfl,nR,hk4⟩;replace hr1:=(hr1.keeps hk3 (by omega)).keeps hk4 (by omega))|(go_at_call 135;refine(BV _ (by omega) (by omega)).mono ?_;rintro e w5 ⟨f,hf,rfl,hk⟩;replace hr1:=hr1.keeps hk id;have e0:=hr1.cell (q:=0) (by omega);have e1:=hr1.cell (q:=1) (by omega);have e2:=hr1.cell (q:=2) (by omega);have e3:=hr1.cell (q:=3) (by omega);have ef:=hr1.fz))
 refine bodyPost_ret (v:=.agg #[.int .u64 (f 0),.int .u64 (f 1),.int .u64 (f 2),.int .u64 (f 3)]) (by simp[results,Tryz.results137,go_sem,e0,e1,e2,e3]) rfl ?_;have hn:((a:Int)*16+(b:Int)).toNat=a*16+b:=by omega
 rw[hn] at hf;exact⟨f,hf,rfl,(nR.keeps hk id).aX (by omega),(((hk2.trans hk3).trans hk4).trans hk.none).aX (by omega)⟩
def Tu (R:Nat) (s:ByteArray) (g d:Int) (r:Except Nat (Bs×Option Nat×Nat)) (w:World) (e:Ending) (w':World):Prop :=
 match r with
 | .error x=>Z0 R x w e w'
 | .ok (S,_,q)=>QS R s g d S q w e w'
theorem S9(h:Jm (bt s p)=some v):p<s.size:=by
 by_cases hp:p<s.size
 ·exact hp
 ·rw[Z7 hp] at h;simp[Jm] at h
theorem MU(h:Rc w R s p g d)(hs:s.size<=120)(hp:p<=s.size):
  au 137 #[ae R] w (Tu R s g d (Zt s p) w):=by
 unfold Zt
 by_cases h0:bt s p=256
 ·rw[if_pos h0];exact Zst h hs (by have:=Lu.1 h0;omega)
 have hb:bt s p<256:=by
  by_cases hlt:p<s.size
  ·exact Jh hlt
  ·exact absurd (Z7 hlt) h0
 rw[if_neg h0]
 by_cases h1:bt s p=100
 ·rw[if_pos h1];exact Zu7 h hs h1
 rw[if_neg h1]
 by_cases h2:bt s p=119
 ·rw[if_pos h2];exact Zu2 h hs h2
 rw[if_neg h2]
 by_cases h3:bt s p=115
 ·rw[if_pos h3];exact Zu4 h hs h3
 rw[if_neg h3]
 by_cases h4:bt s p=110
 ·rw[if_pos h4];exact Zu6 h hs h4
 rw[if_neg h4]
 by_cases h5:bt s p=116
 ·rw[if_pos h5];exact Zu3 h hs h5
 rw[if_neg h5]
 by_cases h6:bt s p=114
 ·rw[if_pos h6];exact Zu5 h hs h6
 rw[if_neg h6]
 by_cases h7:bt s p=120
 ·rw[if_pos h7]
  cases e1:Jm (bt s (p+1)) with
  | none=>exact Zt5 h hs h7 e1
  | some a =>
    cases e2:Jm (bt s (p+2)) with
    | none=>exact Zt4 h hs h7 (S9 e1) e1 e2
    | some b=>exact Zu1 h hs h7 (S9 e1) e1 (S9 e2) e2
 rw[if_neg h7]
 cases h8:(JH (bt s p) || ZI (bt s p) || !printed (bt s p)) with
 | true=>exact Zsu h hs rfl hb ⟨h1,h2,h3,h4,h5,h6,h7⟩ h8
 | false=>exact ZpY h hs rfl hb h8
end Go.Proofs.YtfkflljplohhcaaGreatDoor
