import Derived.Test.YtfkflljplohhcaaGreatDoorO
import Derived.Deep.CutRange
set_option linter.unusedVariables false
set_option maxHeartbeats 400000
set_option maxRecDepth 100000
namespace Go.Proofs.YtfkflljplohhcaaGreatDoor
open Go.RowKit
variable {w:World}{R p b:Nat}{s:ByteArray}{g d:Int}{o:Option Nat}{fi:Bool}
theorem ZiM(h:Rc w R s p g d)(hs:s.size<=120)(hp:p=s.size):
  au 156 #[ae R] w (Z0 R p w):=by
 have hne:=h.lt;have aK:Rc (w.alloc (.cells #[.int .u64 0,.int .u64 0,.int .u64 0,.int .u64 0] 170)) R s p g d:=h.keeps ((Za.refl ai w).alloc _) id;have hK1:Za (·=R) w (w.alloc (.cells #[.int .u64 0,.int .u64 0,.int .u64 0,.int .u64 0] 170)):=(Za.refl _ w).alloc _;have hr1:Sb (w.alloc (.cells #[.int .u64 0,.int .u64 0,.int .u64 0,.int .u64 0] 170)) w.heap.size (fun _=>0):=heap_alloc_new w _;have HP:Hid (p=s.size):=hp;have HB:Hid (bt s p≠92):=(by show _≠_;rw[Z7 (by omega)];decide);have tT:p<=s.size:=by omega
 clear h hp;go_enter Tryz.func156,Tryz.ntmps156;go_wp2_with(first|(go_at_call 76;refine(vU aK hs tT (b:=92) (by decide) HB.out).mono ?_;rintro e w2 ⟨rfl,n,rfl⟩)|(go_at_call 85;refine(ZiP (aK.drewN n) hs HP.out).mono ?_;rintro e w3 ⟨rfl,n2,rfl⟩))
 exact⟨rfl,rfl,hK1.drewN _⟩
theorem Zo5(h:Rc w R s p g d)(hs:s.size<=120)(hp:p<s.size)(hb:bt s p=92):
  au 156 #[ae R] w (Tu R s g d (Zt s (p+1)) w):=by
 have hne:=h.lt;have aK:Rc (w.alloc (.cells #[.int .u64 0,.int .u64 0,.int .u64 0,.int .u64 0] 170)) R s p g d:=h.keeps ((Za.refl ai w).alloc _) id;have hK1:Za (·=R) w (w.alloc (.cells #[.int .u64 0,.int .u64 0,.int .u64 0,.int .u64 0] 170)):=(Za.refl _ w).alloc _;have hr1:Sb (w.alloc (.cells #[.int .u64 0,.int .u64 0,.int .u64 0,.int .u64 0] 170)) w.heap.size (fun _=>0):=heap_alloc_new w _;have HB:Hid (bt s p=92):=hb;clear h hb;obtain⟨r,hr⟩:∃r,Zt s (p+1)=r:=⟨_,rfl⟩;rw[hr];have HE:Hid (Zt s (p+1)=r):=hr;clear hr
 cases r with
 | error x =>
   go_enter Tryz.func156,Tryz.ntmps156;go_wp2_with(first|(go_at_call 76;refine(Z4 aK hs (by omega) (b:=92) (by decide) HB.out).mono ?_;rintro e w2 ⟨rfl,hR2,hk2⟩)|(go_at_call 137;refine(MU hR2 hs (by omega)).mono ?_;rw[HE.out];rintro e w3 ⟨rfl,hk3⟩))
   exact⟨rfl,rfl,(hK1.trans hk2).trans hk3⟩
 | ok o =>
   obtain⟨S,o,q⟩:=o;go_enter Tryz.func156,Tryz.ntmps156;go_wp2_with(first|(go_at_call 76;refine(Z4 aK hs (by omega) (b:=92) (by decide) HB.out).mono ?_;rintro e w2 ⟨rfl,hR2,hk2⟩;replace hr1:=hr1.keeps hk2 (by omega))|(go_at_call 137;refine(MU hR2 hs (by omega)).mono ?_;rw[HE.out];rintro e w3 ⟨f,hf,rfl,gB,hk3⟩;replace hr1:=hr1.keeps hk3 (by omega);have e0:=hr1.cell (q:=0) (by omega);have e1:=hr1.cell (q:=1) (by omega);have e2:=hr1.cell (q:=2) (by omega);have e3:=hr1.cell (q:=3) (by omega);have ef:=hr1.fz))
   refine bodyPost_ret (v:=.agg #[.int .u64 (f 0),.int .u64 (f 1),.int .u64 (f 2),.int .u64 (f 3)]) (by simp[results,Tryz.results156,go_sem,e0,e1,e2,e3]) rfl ?_;exact⟨f,hf,rfl,gB.aX (by omega),((hK1.trans hk2).trans hk3).aX (by omega)⟩
theorem Zo4(h:Rc w R s p g d)(hs:s.size<=120)(hp:p<s.size)(hb:bt s p≠92):
  au 156 #[ae R] w (QS R s g d (one (bt s p)) (p+1) w):=by
 have hne:=h.lt;have aK:Rc (w.alloc (.cells #[.int .u64 0,.int .u64 0,.int .u64 0,.int .u64 0] 170)) R s p g d:=h.keeps ((Za.refl ai w).alloc _) id;have hK1:Za (·=R) w (w.alloc (.cells #[.int .u64 0,.int .u64 0,.int .u64 0,.int .u64 0] 170)):=(Za.refl _ w).alloc _;have hr1:Sb (w.alloc (.cells #[.int .u64 0,.int .u64 0,.int .u64 0,.int .u64 0] 170)) w.heap.size (fun _=>0):=heap_alloc_new w _;have HB:Hid (bt s p≠92):=hb;have hlt:=Jh hp;clear h hb;go_enter Tryz.func156,Tryz.ntmps156;go_wp2_with(first|(go_at_call 76;refine(vU aK hs (by omega) (b:=92) (by decide) HB.out).mono ?_;rintro e w2 ⟨rfl,n,rfl⟩)|(go_at_call 85;refine(ZH (aK.drewN n) hs hp).mono ?_;rintro e w3 ⟨rfl,hR2,hk2⟩;replace hk2:=((Za.refl _ _).drewN _).trans hk2;replace hr1:=hr1.keeps hk2 (by omega))|(go_at_call 135;refine(Iz _ hlt).mono ?_;rintro e w5 ⟨f,hf,rfl,hk⟩;replace hr1:=hr1.keeps hk id;have e0:=hr1.cell (q:=0) (by omega);have e1:=hr1.cell (q:=1) (by omega);have e2:=hr1.cell (q:=2) (by omega);have e3:=hr1.cell (q:=3) (by omega);have ef:=hr1.fz))
 refine bodyPost_ret (v:=.agg #[.int .u64 (f 0),.int .u64 (f 1),.int .u64 (f 2),.int .u64 (f 3)]) (by simp[results,Tryz.results156,go_sem,e0,e1,e2,e3]) rfl ?_;exact⟨f,hf,rfl,(hR2.keeps hk id).aX (by omega),((hK1.trans hk2).trans hk.none).aX (by omega)⟩
theorem QZ(h:Rc w R s p g d)(hs:s.size<=120)(hp:p<s.size):
  au 156 #[ae R] w (Tu R s g d (Zl s p) w):=by
 unfold Zl
 by_cases hb:bt s p=92
 ·rw[if_pos hb];exact Zo5 h hs hp hb
 ·rw[if_neg hb];exact Zo4 h hs hp hb
theorem QD{t:Bool}(h:Rc w R s p g d)(hs:s.size<=120)(hp:p<=s.size)(hb:b<256)(ht:decide (bt s p=b)=t):
  au 95 #[ae R,.int .u8 b] w fun e w'=>e=.returned (.bool t)/\∃n,w'=w.drewN n:=by
 subst ht;exact Tz h hs hp hb
theorem Zf8(h:Rc w R s p g d)(hs:s.size<=120)(hp:p<=s.size)(hb:bt s p≠45):
  au 158 #[ae R] w fun e w'=>e=.returned (.bool false)/\∃n,w'=w.drewN n:=by
 have c0:=h.c0;have c1:=h.c1;have HR:Hid (Rc w R s p g d):=h;have HT:Hid (decide (bt s p=45)=false):=(by show _ = _;simp[hb]);clear h hb;go_enter Tryz.func158,Tryz.ntmps158;go_wp2;go_quiet ((go_at_call 95;exact Calls.quiet_of (QD (b:=45) (HR.out.drewN _) hs hp (by decide) HT.out)));go_wp2;go_ret;exact⟨rfl,_,rfl⟩
theorem Ze0(h:Rc w R s p g d)(hs:s.size<=120)(hb:bt s p=45)(hp:p+1=s.size):
  au 158 #[ae R] w fun e w'=>e=.returned (.bool true)/\∃n,w'=w.drewN n:=by
 have c0:=h.c0;have c1:=h.c1;have HR:Hid (Rc w R s p g d):=h;have HT:Hid (decide (bt s p=45)=true):=(by show _ = _;simp[hb]);have tT:p<=s.size:=by omega
 have hz:((p:Int)+1 == (s.size:Int))=true:=by simp;omega
 clear h hb hp;go_enter Tryz.func158,Tryz.ntmps158;go_wp2;go_quiet ((go_at_call 95;exact Calls.quiet_of (QD (b:=45) (HR.out.drewN _) hs tT (by decide) HT.out)));go_wp2;go_ret;exact⟨rfl,_,rfl⟩
theorem Zf9(h:Rc w R s p g d)(hs:s.size<=120)(hb:bt s p=45)(hp:p+1<s.size):
  au 158 #[ae R] w fun e w'=>e=.returned (.bool (decide (bt s (p+1)≠93)))/\∃n,w'=w.drewN n:=by
 have c0:=h.c0;have c1:=h.c1;have HR:Hid (Rc w R s p g d):=h;have HT:Hid (decide (bt s p=45)=true):=(by show _ = _;simp[hb]);have HB:Hid (bt s (p+1)=s[p+1].toNat):=ZX hp;have tT:p<=s.size:=by omega
 have hz:((p:Int)+1 == (s.size:Int))=false:=by simp;omega
 have hpz:(p:Int)+1<(s.size:Int):=by omega
 have hw:IntKind.i64.wrap ((p:Int)+1)=(p:Int)+1:=IntWalk.i64_in _ ⟨by omega,by omega⟩;have h0:(0:Int)<=(p:Int)+1:=by omega
 have htn:((p:Int)+1).toNat=p+1:=by omega
 clear h hb;go_enter Tryz.func158,Tryz.ntmps158;go_wp2;go_quiet ((go_at_call 95;exact Calls.quiet_of (QD (b:=45) (HR.out.drewN _) hs tT (by decide) HT.out)));go_wp2;go_ret;exact⟨Z8 (by rw[HB.out,Bool.eq_iff_iff];simp;omega),_,rfl⟩
theorem ZiS(hb:b<256):vQ (one b)=b :=
 Ym hb (by simp[one]) (fun y hy=>by simp[one];omega)
variable {S:Bs}
theorem Ut{a c:Nat}(ha:a<256)(hb:b<256)(hab:a≠b)(h1:S a=true)(h2:S b=true):¬∀x,x<256->S x=one c x:=by
 intro h;have e1:=h a ha;have e2:=h b hb;rw[h1] at e1;rw[h2] at e2;simp[one] at e1 e2;omega
theorem Zkt{q:Nat}(h:Zt s p=.ok (S,o,q)):
  (∃b,o=some b/\S=one b/\b<256)\/(o=none/\∀c,¬∀x,x<256->S x=one c x):=by
 unfold Zt at h
 by_cases h0:bt s p=256
 ·rw[if_pos h0] at h;simp at h
 have hb:bt s p<256:=by
  by_cases hlt:p<s.size
  ·exact Jh hlt
  ·exact absurd (Z7 hlt) h0
 rw[if_neg h0] at h
 by_cases h1:bt s p=100
 ·rw[if_pos h1] at h;simp at h;obtain⟨rfl,rfl,rfl⟩:=h;exact Or.inr ⟨rfl,fun c=>Ut (a:=48) (b:=49) (by decide) (by decide) (by decide) rfl rfl⟩
 rw[if_neg h1] at h
 by_cases h2:bt s p=119
 ·rw[if_pos h2] at h;simp at h;obtain⟨rfl,rfl,rfl⟩:=h;exact Or.inr ⟨rfl,fun c=>Ut (a:=48) (b:=49) (by decide) (by decide) (by decide) rfl rfl⟩
 rw[if_neg h2] at h
 by_cases h3:bt s p=115
 ·rw[if_pos h3] at h;simp at h;obtain⟨rfl,rfl,rfl⟩:=h;exact Or.inr ⟨rfl,fun c=>Ut (a:=9) (b:=10) (by decide) (by decide) (by decide) rfl rfl⟩
 rw[if_neg h3] at h
 by_cases h4:bt s p=110
 ·rw[if_pos h4] at h;simp at h;obtain⟨rfl,rfl,rfl⟩:=h;exact Or.inl ⟨_,rfl,rfl,by decide⟩
 rw[if_neg h4] at h
 by_cases h5:bt s p=116
 ·rw[if_pos h5] at h;simp at h;obtain⟨rfl,rfl,rfl⟩:=h;exact Or.inl ⟨_,rfl,rfl,by decide⟩
 rw[if_neg h5] at h
 by_cases h6:bt s p=114
 ·rw[if_pos h6] at h;simp at h;obtain⟨rfl,rfl,rfl⟩:=h;exact Or.inl ⟨_,rfl,rfl,by decide⟩
 rw[if_neg h6] at h
 by_cases h7:bt s p=120
 ·rw[if_pos h7] at h
  cases e1:Jm (bt s (p+1)) with
  | none=>rw[e1] at h;simp at h
  | some a =>
    rw[e1] at h
    cases e2:Jm (bt s (p+2)) with
    | none=>rw[e2] at h;simp at h
    | some b =>
      rw[e2] at h;simp at h;obtain⟨rfl,rfl,rfl⟩:=h;have ha:=JC e1;have hb:=JC e2;exact Or.inl ⟨_,rfl,rfl,by omega⟩
 rw[if_neg h7] at h
 cases h8:(JH (bt s p) || ZI (bt s p) || !printed (bt s p)) with
 | true=>rw[h8] at h;simp at h
 | false =>
   rw[h8] at h;simp at h;obtain⟨rfl,rfl,rfl⟩:=h;exact Or.inl ⟨_,rfl,rfl,hb⟩
theorem Zdr{q:Nat}(hp:p<s.size)(h:Zl s p=.ok (S,o,q)):
  (∃b,o=some b/\S=one b/\b<256)\/(o=none/\∀c,¬∀x,x<256->S x=one c x):=by
 unfold Zl at h
 by_cases hb:bt s p=92
 ·rw[if_pos hb] at h;exact Zkt h
 ·rw[if_neg hb] at h;simp at h;obtain⟨rfl,rfl,rfl⟩:=h;exact Or.inl ⟨_,rfl,rfl,Jh hp⟩
def Qz (s:ByteArray) (p:Nat):Except Nat (Bs×Nat) :=
 match Zl s p with
 | .error e => .error e
 | .ok (S,none,q) => .ok (S,q)
 | .ok (S,some lo,q) =>
   if bt s q=45/\bt s (q+1)≠93 then
    if bt s (q+1)=256 then .error (q+1) else
    match Zl s (q+1) with
    | .error e => .error e
    | .ok (_,none,_) => .error (q+1)
    | .ok (_,some hi,q2)=>if hi<lo then .error (q+1) else .ok (eH lo hi,q2)
   else .ok (S,q)
theorem Zti{lo hi:Nat}(h:¬hi<lo):un (one lo) (eH lo hi)=eH lo hi:=by
 funext x
 by_cases e:x=lo
 ·subst e;simp[un,one,eH];omega
 ·simp[un,one,eH,e]
theorem Zmn(hp:p<s.size):
  Qz s p=ZC s p\/(∃q S,Qz s p=.error (q+1)/\p<q/\q+1=s.size/\bt s q=45/\ZC s p=.ok (S,q)):=by
 cases e:Zl s p with
 | error x=>exact Or.inl (by simp[Qz,ZC,e])
 | ok v =>
   obtain⟨S,o,q⟩:=v;obtain⟨h1,h2,h3⟩:=ZU hp e
   cases o with
   | none=>exact Or.inl (by simp[Qz,ZC,e])
   | some lo =>
     obtain⟨hlo,rfl⟩:=h3 lo rfl
     by_cases hb:bt s q=45
     ·by_cases h9:bt s (q+1)=93
      ·exact Or.inl (by simp[Qz,ZC,e,hb,h9])
      ·by_cases qi:bt s (q+1)=256
       ·have hq:=Zn hb (by decide);have hq1:=Lu.1 qi;exact Or.inr ⟨q,one lo,by simp[Qz,e,hb,qi],h1,by omega,hb,by simp[ZC,e,hb,qi]⟩
       ·left;have c1:bt s q=45/\bt s (q+1)≠93:=⟨hb,h9⟩;have c2:bt s q=45/\bt s (q+1)≠256/\bt s (q+1)≠93:=⟨hb,qi,h9⟩;simp only[Qz,ZC,e];rw[if_pos c1,if_pos c2,if_neg qi]
        cases e2:Zl s (q+1) with
        | error x=>rfl
        | ok v =>
          obtain⟨S2,o2,q2⟩:=v
          cases o2 with
          | none=>rfl
          | some hi =>
            by_cases hl:hi<lo
            ·simp[hl]
            ·simp[hl,Zti hl]
     ·exact Or.inl (by simp[Qz,ZC,e,hb])
theorem UE{fu:Nat}(hp:p=s.size)(hf:0<fu):Zk s fu p S fi=.error p:=by
 obtain⟨f,rfl⟩:∃f,fu=f+1:=⟨fu-1,by omega⟩;have e:bt s p=256:=Z7 (by omega);simp[Zk,e]
theorem ZcU{fu:Nat}(hb:bt s p=93)(hf:0<fu):Zk s fu p S false=.ok (S,p+1):=by
 obtain⟨f,rfl⟩:∃f,fu=f+1:=⟨fu-1,by omega⟩;simp[Zk,hb]
theorem Zbt{f:Nat}(hp:p<s.size)(hc:bt s p≠93\/fi=true):
  Zk s (f+1) p S fi=match ZC s p with | .error e => .error e | .ok (S1,q)=>Zk s f q (un S S1) false:=by
 have h1:bt s p≠256:=by have:=Jh hp;omega
 rw[Zk,if_pos ⟨h1,hc⟩];rfl
theorem ZeC{fu:Nat}{r:Except Nat (Bs×Nat)}(hp:p<s.size)(hf:s.size+1<=fu+p)(hc:bt s p≠93\/fi=true)(h:Zk s fu p S fi=r):
  (∃x,Qz s p=.error x/\r=.error x)\/(∃S1 q f',fu=f'+1/\Qz s p=.ok (S1,q)/\Zk s f' q (un S S1) false=r/\p<q/\q<=s.size/\s.size+1<=f'+q):=by
 obtain⟨f,rfl⟩:∃f,fu=f+1:=⟨fu-1,by omega⟩;rw[Zbt hp hc] at h
 rcases Zmn hp with e | ⟨q,S1,e1,hq,hs,hb,e2⟩
 ·cases e2:ZC s p with
  | error x=>rw[e2] at e h;exact Or.inl ⟨x,e,h.symm⟩
  | ok v =>
    obtain⟨S1,q⟩:=v;rw[e2] at e h;obtain⟨h1,h2⟩:=ZdD hp e2;exact Or.inr ⟨S1,q,f,rfl,e,h,h1,h2,by omega⟩
 ·left;refine⟨q+1,e1,?_⟩;rw[e2] at h;simp only at h;obtain⟨f2,rfl⟩:∃f2,f=f2+1:=⟨f-1,by omega⟩;have qi:bt s (q+1)=256:=Z7 (by omega);have e3:ZC s q=.ok (one 45,q+1):=by simp[ZC,Zl,hb,qi]
  rw[Zbt (by omega) (Or.inl (by omega)),e3] at h;simp only at h;rw[UE hs (by omega)] at h;exact h.symm
def Md (R:Nat) (s:ByteArray) (g d:Int) (r:Except Nat (Bs×Nat)) (w:World) (e:Ending) (w':World):Prop :=
 match r with
 | .error x=>Z0 R x w e w'
 | .ok (S,q)=>QS R s g d S q w e w'
def jb (w:World) (f:Nat->Nat):World:=w.alloc (.cells #[.int .u64 (f 0),.int .u64 (f 1),.int .u64 (f 2),.int .u64 (f 3)] 170)
theorem uU(w:World)(f:Nat->Nat):Sb (jb w f) w.heap.size f:=heap_alloc_new w _
theorem QF{E:Nat->Prop}(w:World)(f:Nat->Nat):Za E w (jb w f):=(Za.refl _ w).alloc _
theorem Zpr{x:Nat}(h:Rc w R s p g d)(hs:s.size<=120)(hp:p<s.size)(he:Zl s p=.error x):
  au 145 #[ae R] w (Z0 R x w):=by
 have aK:Rc (w.alloc (.cells #[.int .u64 0,.int .u64 0,.int .u64 0,.int .u64 0] 170)) R s p g d:=h.keeps ((Za.refl ai w).alloc _) id;have hK1:Za (·=R) w (w.alloc (.cells #[.int .u64 0,.int .u64 0,.int .u64 0,.int .u64 0] 170)):=(Za.refl _ w).alloc _;have HE:Hid (Zl s p=.error x):=he;clear h he;go_enter Tryz.func145,Tryz.ntmps145;go_wp2_with(first|(go_at_call 156;refine(QZ aK hs hp).mono ?_;rw[HE.out];rintro e w2 ⟨rfl,hk2⟩))
 exact⟨rfl,rfl,hK1.trans hk2⟩
theorem ZiW(h:Rc w R s p g d)(hs:s.size<=120)(hp:p=s.size):
  au 145 #[ae R] w (Z0 R p w):=by
 have aK:Rc (w.alloc (.cells #[.int .u64 0,.int .u64 0,.int .u64 0,.int .u64 0] 170)) R s p g d:=h.keeps ((Za.refl ai w).alloc _) id;have hK1:Za (·=R) w (w.alloc (.cells #[.int .u64 0,.int .u64 0,.int .u64 0,.int .u64 0] 170)):=(Za.refl _ w).alloc _;have HP:Hid (p=s.size):=hp;clear h hp;go_enter Tryz.func145,Tryz.ntmps145;go_wp2_with(first|(go_at_call 156;refine(ZiM aK hs HP.out).mono ?_;rintro e w2 ⟨rfl,hk2⟩))
 exact⟨rfl,rfl,hK1.trans hk2⟩
theorem Zmq{q:Nat}(h:Rc w R s p g d)(hs:s.size<=120)(hp:p<s.size)(he:Zl s p=.ok (S,none,q)):
  au 145 #[ae R] w (QS R s g d S q w):=by
 have hne:=h.lt;have aK:Rc (w.alloc (.cells #[.int .u64 0,.int .u64 0,.int .u64 0,.int .u64 0] 170)) R s p g d:=h.keeps ((Za.refl ai w).alloc _) id;have hK1:Za (·=R) w (w.alloc (.cells #[.int .u64 0,.int .u64 0,.int .u64 0,.int .u64 0] 170)):=(Za.refl _ w).alloc _;have hr1:Sb (w.alloc (.cells #[.int .u64 0,.int .u64 0,.int .u64 0,.int .u64 0] 170)) w.heap.size (fun _=>0):=heap_alloc_new w _;have HE:Hid (Zl s p=.ok (S,none,q)):=he;have HN:Hid (¬∀x,x<256->S x=one (vQ S) x):=by
  rcases Zdr hp he with⟨b,h1,_⟩ | ⟨_,h1⟩
  ·simp at h1
  ·exact h1 _
 clear h he;go_enter Tryz.func145,Tryz.ntmps145;go_upto_region 2 with(go_at_call 156;refine(QZ aK hs hp).mono ?_;rw[HE.out];rintro e w2 ⟨f,hf,rfl,hR2,hk2⟩;replace hr1:=hr1.keeps hk2 (by omega);replace hk2:=hK1.trans hk2);obtain⟨w3,hw⟩:∃w3,w3=jb w2 f:=⟨_,rfl⟩;have hS:Sb w3 w2.heap.size f:=hw ▸ uU w2 f;have hk3:Za ai w2 w3:=hw ▸ QF w2 f
 delta jb at hw
 rw[<- hw];clear hw;replace hr1:=hr1.keeps hk3 id;replace hR2:=hR2.keeps hk3 id;have hs2:=hk2.size;replace hk2:=hk2.trans hk3.none;clear hk3;have c0:=hS.cell (q:=0) (by omega);have c1:=hS.cell (q:=1) (by omega);have c2:=hS.cell (q:=2) (by omega);have c3:=hS.cell (q:=3) (by omega);go_wp2_with(first|(go_at_call 157;refine(Ue hf).mono ?_;rintro e w4 ⟨b,rfl,hb,hk3⟩;obtain rfl:b=false:=(by cases b with | false=>rfl | true=>exact absurd (hb.1 rfl) HN.out);clear hb;replace hr1:=hr1.keeps hk3 id;replace hS:=hS.keeps hk3 id;have c0:=hS.cell (q:=0) (by omega);have c1:=hS.cell (q:=1) (by omega);have c2:=hS.cell (q:=2) (by omega);have c3:=hS.cell (q:=3) (by omega);have e0:=hr1.cell (q:=0) (by omega);have e1:=hr1.cell (q:=1) (by omega);have e2:=hr1.cell (q:=2) (by omega);have e3:=hr1.cell (q:=3) (by omega);have ef:=hr1.fz))
 refine bodyPost_ret (v:=.agg #[.int .u64 (f 0),.int .u64 (f 1),.int .u64 (f 2),.int .u64 (f 3)]) (by simp[results,Tryz.results145,go_sem,e0,e1,e2,e3]) rfl ?_;exact⟨f,hf,rfl,(hR2.keeps hk3 id).aX (by omega),(hk2.trans hk3.none).aX (by omega)⟩
end Go.Proofs.YtfkflljplohhcaaGreatDoor
