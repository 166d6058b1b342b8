import Derived.Test.YtfkflljplohhcaaGreatDoorO
import Derived.Deep.Cut
import Derived.Deep.CutRange
set_option maxHeartbeats 400000
set_option maxRecDepth 100000
namespace Go.Proofs.YtfkflljplohhcaaGreatDoor
open Go.RowKit
set_option linter.unusedVariables false
theorem Zh8 {w:World} {R:Nat} {s:ByteArray} {p:Nat} {g d:Int} (h:Rc w R s p g d) (hs:s.size<=120) (hp:p=s.size) :
  Calls Tryz.prog 156 #[.pointer (some ⟨R,0,none⟩)] w (ZY R p w):=by
 have hne:=h.lt;have hR1:Rc (w.alloc (.cells #[.int .u64 0,.int .u64 0,.int .u64 0,.int .u64 0] 170)) R s p g d:=h.keeps ((Za.refl N0_ w).alloc _) id;have hK1:Za (fun k=>k=R) w (w.alloc (.cells #[.int .u64 0,.int .u64 0,.int .u64 0,.int .u64 0] 170)):=(Za.refl _ w).alloc _;have hr1:Sb (w.alloc (.cells #[.int .u64 0,.int .u64 0,.int .u64 0,.int .u64 0] 170)) w.heap.size (fun _=>0):=heap_alloc_new w _;have HP:Hid (p=s.size):=hp;have HB:Hid (bt s p≠92):=(by show _≠_; rw [Z7 (by omega)]; decide);have hple:p<=s.size:=by omega
 clear h hp;go_enter Tryz.func156,Tryz.ntmps156;go_wp2_with (first
  | (go_at_call 76; refine (J9 hR1 hs hple (b:=92) (by decide) HB.out).mono ?_; rintro e w2 ⟨rfl,n,rfl⟩)
  | (go_at_call 85; refine (Zib (hR1.drewN n) hs HP.out).mono ?_; rintro e w3 ⟨rfl,n2,rfl⟩))
 exact ⟨rfl,rfl,hK1.drewN _⟩
theorem ZnS {w:World} {R:Nat} {s:ByteArray} {p:Nat} {g d:Int} (h:Rc w R s p g d) (hs:s.size<=120) (hp:p < s.size) (hb:bt s p=92) :
  Calls Tryz.prog 156 #[.pointer (some ⟨R,0,none⟩)] w (Zfg R s g d (Zz s (p + 1)) w):=by
 have hne:=h.lt;have hR1:Rc (w.alloc (.cells #[.int .u64 0,.int .u64 0,.int .u64 0,.int .u64 0] 170)) R s p g d:=h.keeps ((Za.refl N0_ w).alloc _) id;have hK1:Za (fun k=>k=R) w (w.alloc (.cells #[.int .u64 0,.int .u64 0,.int .u64 0,.int .u64 0] 170)):=(Za.refl _ w).alloc _;have hr1:Sb (w.alloc (.cells #[.int .u64 0,.int .u64 0,.int .u64 0,.int .u64 0] 170)) w.heap.size (fun _=>0):=heap_alloc_new w _;have HB:Hid (bt s p=92):=hb;clear h hb;obtain ⟨r,hr⟩ :∃r,Zz s (p + 1)=r:=⟨_,rfl⟩;rw [hr];have HE:Hid (Zz s (p + 1)=r):=hr;clear hr
 cases r with
 | error x =>
   go_enter Tryz.func156,Tryz.ntmps156;go_wp2_with (first
    | (go_at_call 76; refine (Z2 hR1 hs (by omega) (b:=92) (by decide) HB.out).mono ?_; rintro e w2 ⟨rfl,hR2,hk2⟩)
    | (go_at_call 137; refine (ZaD hR2 hs (by omega)).mono ?_; rw [HE.out]; rintro e w3 ⟨rfl,hk3⟩))
   exact ⟨rfl,rfl,(hK1.trans hk2).trans hk3⟩
 | ok o =>
   obtain ⟨S,o,q⟩:=o;go_enter Tryz.func156,Tryz.ntmps156;go_wp2_with (first
    | (go_at_call 76; refine (Z2 hR1 hs (by omega) (b:=92) (by decide) HB.out).mono ?_; rintro e w2 ⟨rfl,hR2,hk2⟩; replace hr1:=hr1.keeps hk2 (by omega))
    | (go_at_call 137; refine (ZaD hR2 hs (by omega)).mono ?_; rw [HE.out]; rintro e w3 ⟨f,hf,rfl,hR3,hk3⟩; replace hr1:=hr1.keeps hk3 (by omega); have e0:=hr1.cell (q:=0) (by omega); have e1:=hr1.cell (q:=1) (by omega); have e2:=hr1.cell (q:=2) (by omega); have e3:=hr1.cell (q:=3) (by omega); have ef:=hr1.fz))
   refine bodyPost_ret (v:=.agg #[.int .u64 (f 0),.int .u64 (f 1),.int .u64 (f 2),.int .u64 (f 3)]) (by simp [results,Tryz.results156,go_sem,e0,e1,e2,e3]) rfl ?_;exact ⟨f,hf,rfl,hR3.set4 (by omega),((hK1.trans hk2).trans hk3).set4 (by omega)⟩
theorem ZnR {w:World} {R:Nat} {s:ByteArray} {p:Nat} {g d:Int} (h:Rc w R s p g d) (hs:s.size<=120) (hp:p < s.size) (hb:bt s p≠92) :
  Calls Tryz.prog 156 #[.pointer (some ⟨R,0,none⟩)] w (QP R s g d (one (bt s p)) (p + 1) w):=by
 have hne:=h.lt;have hR1:Rc (w.alloc (.cells #[.int .u64 0,.int .u64 0,.int .u64 0,.int .u64 0] 170)) R s p g d:=h.keeps ((Za.refl N0_ w).alloc _) id;have hK1:Za (fun k=>k=R) w (w.alloc (.cells #[.int .u64 0,.int .u64 0,.int .u64 0,.int .u64 0] 170)):=(Za.refl _ w).alloc _;have hr1:Sb (w.alloc (.cells #[.int .u64 0,.int .u64 0,.int .u64 0,.int .u64 0] 170)) w.heap.size (fun _=>0):=heap_alloc_new w _;have HB:Hid (bt s p≠92):=hb;have hlt:=Q9 hp;clear h hb;go_enter Tryz.func156,Tryz.ntmps156;go_wp2_with (first
  | (go_at_call 76; refine (J9 hR1 hs (by omega) (b:=92) (by decide) HB.out).mono ?_; rintro e w2 ⟨rfl,n,rfl⟩)
  | (go_at_call 85; refine (ZC (hR1.drewN n) hs hp).mono ?_; rintro e w3 ⟨rfl,hR2,hk2⟩; replace hk2:=((Za.refl _ _).drewN _).trans hk2; replace hr1:=hr1.keeps hk2 (by omega))
  | (go_at_call 135; refine (ZbI _ hlt).mono ?_; rintro e w5 ⟨f,hf,rfl,hk⟩; replace hr1:=hr1.keeps hk id; have e0:=hr1.cell (q:=0) (by omega); have e1:=hr1.cell (q:=1) (by omega); have e2:=hr1.cell (q:=2) (by omega); have e3:=hr1.cell (q:=3) (by omega); have ef:=hr1.fz))
 refine bodyPost_ret (v:=.agg #[.int .u64 (f 0),.int .u64 (f 1),.int .u64 (f 2),.int .u64 (f 3)]) (by simp [results,Tryz.results156,go_sem,e0,e1,e2,e3]) rfl ?_;exact ⟨f,hf,rfl,(hR2.keeps hk id).set4 (by omega),((hK1.trans hk2).trans hk.none).set4 (by omega)⟩
theorem QS {w:World} {R:Nat} {s:ByteArray} {p:Nat} {g d:Int} (h:Rc w R s p g d) (hs:s.size<=120) (hp:p < s.size) :
  Calls Tryz.prog 156 #[.pointer (some ⟨R,0,none⟩)] w (Zfg R s g d (Zm s p) w):=by
 unfold Zm
 by_cases hb:bt s p=92
 ·rw [if_pos hb]; exact ZnS h hs hp hb
 ·rw [if_neg hb]; exact ZnR h hs hp hb
theorem QA {w:World} {R:Nat} {s:ByteArray} {p b:Nat} {g d:Int} {t:Bool} (h:Rc w R s p g d) (hs:s.size<=120) (hp:p<=s.size) (hb:b < 256) (ht:decide (bt s p=b)=t) :
  Calls Tryz.prog 95 #[.pointer (some ⟨R,0,none⟩),.int .u8 b] w fun e w'=>e = .returned (.bool t)/\∃n,w'=w.drewN n:=by
 subst ht; exact Zez h hs hp hb
theorem ZfC {w:World} {R:Nat} {s:ByteArray} {p:Nat} {g d:Int} (h:Rc w R s p g d) (hs:s.size<=120) (hp:p<=s.size) (hb:bt s p≠45) :
  Calls Tryz.prog 158 #[.pointer (some ⟨R,0,none⟩)] w fun e w'=>e = .returned (.bool false)/\∃n,w'=w.drewN n:=by
 have c0:=h.c0;have c1:=h.c1;have HR:Hid (Rc w R s p g d):=h;have HT:Hid (decide (bt s p=45)=false):=(by show _ = _; simp [hb]);clear h hb;go_enter Tryz.func158,Tryz.ntmps158;go_wp2;go_quiet ((go_at_call 95; exact Calls.quiet_of (QA (b:=45) (HR.out.drewN _) hs hp (by decide) HT.out)));go_wp2;go_ret;exact ⟨rfl,_,rfl⟩
theorem ZeA {w:World} {R:Nat} {s:ByteArray} {p:Nat} {g d:Int} (h:Rc w R s p g d) (hs:s.size<=120) (hb:bt s p=45) (hp:p + 1=s.size) :
  Calls Tryz.prog 158 #[.pointer (some ⟨R,0,none⟩)] w fun e w'=>e = .returned (.bool true)/\∃n,w'=w.drewN n:=by
 have c0:=h.c0;have c1:=h.c1;have HR:Hid (Rc w R s p g d):=h;have HT:Hid (decide (bt s p=45)=true):=(by show _ = _; simp [hb]);have hple:p<=s.size:=by omega
 have hz:((p:Int) + 1 == (s.size:Int))=true:=by simp; omega
 clear h hb hp;go_enter Tryz.func158,Tryz.ntmps158;go_wp2;go_quiet ((go_at_call 95; exact Calls.quiet_of (QA (b:=45) (HR.out.drewN _) hs hple (by decide) HT.out)));go_wp2;go_ret;exact ⟨rfl,_,rfl⟩
theorem ZfD {w:World} {R:Nat} {s:ByteArray} {p:Nat} {g d:Int} (h:Rc w R s p g d) (hs:s.size<=120) (hb:bt s p=45) (hp:p + 1 < s.size) :
  Calls Tryz.prog 158 #[.pointer (some ⟨R,0,none⟩)] w fun e w'=>e = .returned (.bool (decide (bt s (p + 1)≠93)))/\∃n,w'=w.drewN n:=by
 have c0:=h.c0;have c1:=h.c1;have HR:Hid (Rc w R s p g d):=h;have HT:Hid (decide (bt s p=45)=true):=(by show _ = _; simp [hb]);have HB:Hid (bt s (p + 1)=s[p + 1].toNat):=ZV hp;have hple:p<=s.size:=by omega
 have hz:((p:Int) + 1 == (s.size:Int))=false:=by simp; omega
 have hpz:(p:Int) + 1 < (s.size:Int):=by omega
 have hw:IntKind.i64.wrap ((p:Int) + 1)=(p:Int) + 1:=IntWalk.i64_in _ ⟨by omega,by omega⟩;have h0:(0:Int)<=(p:Int) + 1:=by omega
 have htn:((p:Int) + 1).toNat=p + 1:=by omega
 clear h hb;go_enter Tryz.func158,Tryz.ntmps158;go_wp2;go_quiet ((go_at_call 95; exact Calls.quiet_of (QA (b:=45) (HR.out.drewN _) hs hple (by decide) HT.out)));go_wp2;go_ret;exact ⟨Z4 (by rw [HB.out,Bool.eq_iff_iff]; simp; omega),_,rfl⟩
theorem Zie {b:Nat} (hb:b < 256):Zm6 (one b)=b :=
 Zln hb (by simp [one]) (fun y hy=>by simp [one]; omega)
theorem Zb1 {S:Bs} {a b c:Nat} (ha:a < 256) (hb:b < 256) (hab:a≠b) (h1:S a=true) (h2:S b=true):¬∀x,x < 256->S x=one c x:=by
 intro h;have e1:=h a ha;have e2:=h b hb;rw [h1] at e1;rw [h2] at e2;simp [one] at e1 e2;omega
theorem ZjG {s:ByteArray} {p q:Nat} {S:Bs} {o:Option Nat} (h:Zz s p = .ok (S,o,q)) :
  (∃b,o=some b/\S=one b/\b < 256)\/(o=none/\∀c,¬∀x,x < 256->S x=one c x):=by
 unfold Zz at h
 by_cases h0:bt s p=256
 ·rw [if_pos h0] at h; simp at h
 have hb:bt s p < 256:=by
  by_cases hlt:p < s.size
  ·exact Q9 hlt
  ·exact absurd (Z7 hlt) h0
 rw [if_neg h0] at h
 by_cases h1:bt s p=100
 ·rw [if_pos h1] at h; simp at h; obtain ⟨rfl,rfl,rfl⟩:=h;exact Or.inr ⟨rfl,fun c=>Zb1 (a:=48) (b:=49) (by decide) (by decide) (by decide) rfl rfl⟩
 rw [if_neg h1] at h
 by_cases h2:bt s p=119
 ·rw [if_pos h2] at h; simp at h; obtain ⟨rfl,rfl,rfl⟩:=h;exact Or.inr ⟨rfl,fun c=>Zb1 (a:=48) (b:=49) (by decide) (by decide) (by decide) rfl rfl⟩
 rw [if_neg h2] at h
 by_cases h3:bt s p=115
 ·rw [if_pos h3] at h; simp at h; obtain ⟨rfl,rfl,rfl⟩:=h;exact Or.inr ⟨rfl,fun c=>Zb1 (a:=9) (b:=10) (by decide) (by decide) (by decide) rfl rfl⟩
 rw [if_neg h3] at h
 by_cases h4:bt s p=110
 ·rw [if_pos h4] at h; simp at h; obtain ⟨rfl,rfl,rfl⟩:=h;exact Or.inl ⟨_,rfl,rfl,by decide⟩
 rw [if_neg h4] at h
 by_cases h5:bt s p=116
 ·rw [if_pos h5] at h; simp at h; obtain ⟨rfl,rfl,rfl⟩:=h;exact Or.inl ⟨_,rfl,rfl,by decide⟩
 rw [if_neg h5] at h
 by_cases h6:bt s p=114
 ·rw [if_pos h6] at h; simp at h; obtain ⟨rfl,rfl,rfl⟩:=h;exact Or.inl ⟨_,rfl,rfl,by decide⟩
 rw [if_neg h6] at h
 by_cases h7:bt s p=120
 ·rw [if_pos h7] at h
  cases e1:Jp (bt s (p + 1)) with
  | none=>rw [e1] at h; simp at h
  | some a =>
    rw [e1] at h
    cases e2:Jp (bt s (p + 2)) with
    | none=>rw [e2] at h; simp at h
    | some b =>
      rw [e2] at h; simp at h; obtain ⟨rfl,rfl,rfl⟩:=h;have ha:=Jz e1;have hb:=Jz e2;exact Or.inl ⟨_,rfl,rfl,by omega⟩
 rw [if_neg h7] at h
 cases h8:(ZaK (bt s p) || ZU (bt s p) || !printed (bt s p)) with
 | true=>rw [h8] at h; simp at h
 | false =>
   rw [h8] at h; simp at h; obtain ⟨rfl,rfl,rfl⟩:=h;exact Or.inl ⟨_,rfl,rfl,hb⟩
theorem Zc9 {s:ByteArray} {p q:Nat} {S:Bs} {o:Option Nat} (hp:p < s.size) (h:Zm s p = .ok (S,o,q)) :
  (∃b,o=some b/\S=one b/\b < 256)\/(o=none/\∀c,¬∀x,x < 256->S x=one c x):=by
 unfold Zm at h
 by_cases hb:bt s p=92
 ·rw [if_pos hb] at h; exact ZjG h
 ·rw [if_neg hb] at h; simp at h; obtain ⟨rfl,rfl,rfl⟩:=h;exact Or.inl ⟨_,rfl,rfl,Q9 hp⟩
def Qw (s:ByteArray) (p:Nat):Except Nat (Bs×Nat) :=
 match Zm s p with
 | .error e => .error e
 | .ok (S,none,q) => .ok (S,q)
 | .ok (S,some lo,q) =>
   if bt s q=45/\bt s (q + 1)≠93 then
    if bt s (q + 1)=256 then .error (q + 1) else
    match Zm s (q + 1) with
    | .error e => .error e
    | .ok (_,none,_) => .error (q + 1)
    | .ok (_,some hi,q2)=>if hi < lo then .error (q + 1) else .ok (rng lo hi,q2)
   else .ok (S,q)
theorem ZrC {lo hi:Nat} (h:¬ hi < lo):un (one lo) (rng lo hi)=rng lo hi:=by
 funext x
 by_cases e:x=lo
 ·subst e; simp [un,one,rng]; omega
 ·simp [un,one,rng,e]
theorem Zlq {s:ByteArray} {p:Nat} (hp:p < s.size) :
  Qw s p=ZN s p\/(∃q S,Qw s p = .error (q + 1)/\p < q/\q + 1=s.size/\bt s q=45/\ZN s p = .ok (S,q)):=by
 cases e:Zm s p with
 | error x=>exact Or.inl (by simp [Qw,ZN,e])
 | ok v =>
   obtain ⟨S,o,q⟩:=v;obtain ⟨h1,h2,h3⟩:=ZS hp e
   cases o with
   | none=>exact Or.inl (by simp [Qw,ZN,e])
   | some lo =>
     obtain ⟨hlo,rfl⟩:=h3 lo rfl
     by_cases hb:bt s q=45
     ·by_cases h9:bt s (q + 1)=93
      ·exact Or.inl (by simp [Qw,ZN,e,hb,h9])
      ·by_cases h25:bt s (q + 1)=256
       ·have hq:=Zt hb (by decide);have hq1:=ZiB.1 h25;exact Or.inr ⟨q,one lo,by simp [Qw,e,hb,h25],h1,by omega,hb,by simp [ZN,e,hb,h25]⟩
       ·left;have c1:bt s q=45/\bt s (q + 1)≠93:=⟨hb,h9⟩;have c2:bt s q=45/\bt s (q + 1)≠256/\bt s (q + 1)≠93:=⟨hb,h25,h9⟩;simp only [Qw,ZN,e];rw [if_pos c1,if_pos c2,if_neg h25]
        cases e2:Zm s (q + 1) with
        | error x=>rfl
        | ok v =>
          obtain ⟨S2,o2,q2⟩:=v
          cases o2 with
          | none=>rfl
          | some hi =>
            by_cases hl:hi < lo
            ·simp [hl]
            ·simp [hl,ZrC hl]
     ·exact Or.inl (by simp [Qw,ZN,e,hb])
theorem Zab {s:ByteArray} {fu:Nat} {S:Bs} {fi:Bool} {p:Nat} (hp:p=s.size) (hf:0 < fu):Zo s fu p S fi = .error p:=by
 obtain ⟨f,rfl⟩ :∃f,fu=f + 1:=⟨fu - 1,by omega⟩;have e:bt s p=256:=Z7 (by omega);simp [Zo,e]
theorem ZcC {s:ByteArray} {fu:Nat} {S:Bs} {p:Nat} (hb:bt s p=93) (hf:0 < fu):Zo s fu p S false = .ok (S,p + 1):=by
 obtain ⟨f,rfl⟩ :∃f,fu=f + 1:=⟨fu - 1,by omega⟩;simp [Zo,hb]
theorem Zbl {s:ByteArray} {f:Nat} {S:Bs} {fi:Bool} {p:Nat} (hp:p < s.size) (hc:bt s p≠93\/fi=true) :
  Zo s (f + 1) p S fi=match ZN s p with | .error e => .error e | .ok (S1,q)=>Zo s f q (un S S1) false:=by
 have h1:bt s p≠256:=by have:=Q9 hp; omega
 rw [Zo,if_pos ⟨h1,hc⟩];rfl
theorem Zef {s:ByteArray} {fu:Nat} {S:Bs} {fi:Bool} {p:Nat} {r:Except Nat (Bs×Nat)} (hp:p < s.size) (hf:s.size + 1<=fu + p) (hc:bt s p≠93\/fi=true) (h:Zo s fu p S fi=r) :
  (∃x,Qw s p = .error x/\r = .error x)\/(∃S1 q f',fu=f' + 1/\Qw s p = .ok (S1,q)/\Zo s f' q (un S S1) false=r/\p < q/\q<=s.size/\s.size + 1<=f' + q):=by
 obtain ⟨f,rfl⟩ :∃f,fu=f + 1:=⟨fu - 1,by omega⟩;rw [Zbl hp hc] at h
 rcases Zlq hp with e | ⟨q,S1,e1,hq,hs,hb,e2⟩
 ·cases e2:ZN s p with
  | error x=>rw [e2] at e h; exact Or.inl ⟨x,e,h.symm⟩
  | ok v =>
    obtain ⟨S1,q⟩:=v;rw [e2] at e h;obtain ⟨h1,h2⟩:=Zdj hp e2;exact Or.inr ⟨S1,q,f,rfl,e,h,h1,h2,by omega⟩
 ·left;refine ⟨q + 1,e1,?_⟩;rw [e2] at h;simp only at h;obtain ⟨f2,rfl⟩ :∃f2,f=f2 + 1:=⟨f - 1,by omega⟩;have h25:bt s (q + 1)=256:=Z7 (by omega);have e3:ZN s q = .ok (one 45,q + 1):=by simp [ZN,Zm,hb,h25]
  rw [Zbl (by omega) (Or.inl (by omega)),e3] at h;simp only at h;rw [Zab hs (by omega)] at h;exact h.symm
def ZcR (R:Nat) (s:ByteArray) (g d:Int) (r:Except Nat (Bs×Nat)) (w:World) (e:Ending) (w':World):Prop :=
 match r with
 | .error x=>ZY R x w e w'
 | .ok (S,q)=>QP R s g d S q w e w'
def ZcJ (w:World) (f:Nat->Nat):World:=w.alloc (.cells #[.int .u64 (f 0),.int .u64 (f 1),.int .u64 (f 2),.int .u64 (f 3)] 170)
theorem ZaQ (w:World) (f:Nat->Nat):Sb (ZcJ w f) w.heap.size f:=heap_alloc_new w _
theorem QC {E:Nat->Prop} (w:World) (f:Nat->Nat):Za E w (ZcJ w f):=(Za.refl _ w).alloc _
theorem Zoc {w:World} {R:Nat} {s:ByteArray} {p x:Nat} {g d:Int} (h:Rc w R s p g d) (hs:s.size<=120) (hp:p < s.size) (he:Zm s p = .error x) :
  Calls Tryz.prog 145 #[.pointer (some ⟨R,0,none⟩)] w (ZY R x w):=by
 have hR1:Rc (w.alloc (.cells #[.int .u64 0,.int .u64 0,.int .u64 0,.int .u64 0] 170)) R s p g d:=h.keeps ((Za.refl N0_ w).alloc _) id;have hK1:Za (fun k=>k=R) w (w.alloc (.cells #[.int .u64 0,.int .u64 0,.int .u64 0,.int .u64 0] 170)):=(Za.refl _ w).alloc _;have HE:Hid (Zm s p = .error x):=he;clear h he;go_enter Tryz.func145,Tryz.ntmps145;go_wp2_with (first
  | (go_at_call 156; refine (QS hR1 hs hp).mono ?_; rw [HE.out]; rintro e w2 ⟨rfl,hk2⟩))
 exact ⟨rfl,rfl,hK1.trans hk2⟩
theorem Zig {w:World} {R:Nat} {s:ByteArray} {p:Nat} {g d:Int} (h:Rc w R s p g d) (hs:s.size<=120) (hp:p=s.size) :
  Calls Tryz.prog 145 #[.pointer (some ⟨R,0,none⟩)] w (ZY R p w):=by
 have hR1:Rc (w.alloc (.cells #[.int .u64 0,.int .u64 0,.int .u64 0,.int .u64 0] 170)) R s p g d:=h.keeps ((Za.refl N0_ w).alloc _) id;have hK1:Za (fun k=>k=R) w (w.alloc (.cells #[.int .u64 0,.int .u64 0,.int .u64 0,.int .u64 0] 170)):=(Za.refl _ w).alloc _;have HP:Hid (p=s.size):=hp;clear h hp;go_enter Tryz.func145,Tryz.ntmps145;go_wp2_with (first
  | (go_at_call 156; refine (Zh8 hR1 hs HP.out).mono ?_; rintro e w2 ⟨rfl,hk2⟩))
 exact ⟨rfl,rfl,hK1.trans hk2⟩
theorem Zlt {w:World} {R:Nat} {s:ByteArray} {p q:Nat} {S:Bs} {g d:Int} (h:Rc w R s p g d) (hs:s.size<=120) (hp:p < s.size) (he:Zm s p = .ok (S,none,q)) :
  Calls Tryz.prog 145 #[.pointer (some ⟨R,0,none⟩)] w (QP R s g d S q w):=by
 have hne:=h.lt;have hR1:Rc (w.alloc (.cells #[.int .u64 0,.int .u64 0,.int .u64 0,.int .u64 0] 170)) R s p g d:=h.keeps ((Za.refl N0_ w).alloc _) id;have hK1:Za (fun k=>k=R) w (w.alloc (.cells #[.int .u64 0,.int .u64 0,.int .u64 0,.int .u64 0] 170)):=(Za.refl _ w).alloc _;have hr1:Sb (w.alloc (.cells #[.int .u64 0,.int .u64 0,.int .u64 0,.int .u64 0] 170)) w.heap.size (fun _=>0):=heap_alloc_new w _;have HE:Hid (Zm s p = .ok (S,none,q)):=he;have HN:Hid (¬∀x,x < 256->S x=one (Zm6 S) x):=by
  rcases Zc9 hp he with ⟨b,h1,_⟩ | ⟨_,h1⟩
  ·simp at h1
  ·exact h1 _
 clear h he;go_enter Tryz.func145,Tryz.ntmps145;go_upto_region 2 with (go_at_call 156; refine (QS hR1 hs hp).mono ?_; rw [HE.out]; rintro e w2 ⟨f,hf,rfl,hR2,hk2⟩; replace hr1:=hr1.keeps hk2 (by omega); replace hk2:=hK1.trans hk2);obtain ⟨w3,hw⟩ :∃w3,w3=ZcJ w2 f:=⟨_,rfl⟩;have hS:Sb w3 w2.heap.size f:=hw ▸ ZaQ w2 f;have hk3:Za N0_ w2 w3:=hw ▸ QC w2 f
 delta ZcJ at hw
 rw [<- hw];clear hw;replace hr1:=hr1.keeps hk3 id;replace hR2:=hR2.keeps hk3 id;have hs2:=hk2.size;replace hk2:=hk2.trans hk3.none;clear hk3;have c0:=hS.cell (q:=0) (by omega); have c1:=hS.cell (q:=1) (by omega); have c2:=hS.cell (q:=2) (by omega); have c3:=hS.cell (q:=3) (by omega);go_wp2_with (first
  | (go_at_call 157; refine (Zdl hf).mono ?_; rintro e w4 ⟨b,rfl,hb,hk3⟩; obtain rfl:b=false:=(by cases b with | false=>rfl | true=>exact absurd (hb.1 rfl) HN.out); clear hb; replace hr1:=hr1.keeps hk3 id; replace hS:=hS.keeps hk3 id; have c0:=hS.cell (q:=0) (by omega); have c1:=hS.cell (q:=1) (by omega); have c2:=hS.cell (q:=2) (by omega); have c3:=hS.cell (q:=3) (by omega); have e0:=hr1.cell (q:=0) (by omega); have e1:=hr1.cell (q:=1) (by omega); have e2:=hr1.cell (q:=2) (by omega); have e3:=hr1.cell (q:=3) (by omega); have ef:=hr1.fz))
 refine bodyPost_ret (v:=.agg #[.int .u64 (f 0),.int .u64 (f 1),.int .u64 (f 2),.int .u64 (f 3)]) (by simp [results,Tryz.results145,go_sem,e0,e1,e2,e3]) rfl ?_;exact ⟨f,hf,rfl,(hR2.keeps hk3 id).set4 (by omega),(hk2.trans hk3.none).set4 (by omega)⟩
end Go.Proofs.YtfkflljplohhcaaGreatDoor
