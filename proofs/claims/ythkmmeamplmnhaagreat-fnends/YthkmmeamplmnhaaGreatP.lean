import Derived.Test.YthkmmeamplmnhaaGreatO
import Derived.Deep.Cut
import Derived.Deep.CutRange
namespace Go.Proofs.YthkmmeamplmnhaaGreat
open Go.RowKit
set_option linter.unusedVariables false
set_option maxHeartbeats 400000 in
theorem part_end {w:World} {R:Nat} {s:ByteArray} {p:Nat} {g d:Int} (h:Rc w R s p g d) (hs:s.size≤120) (hp:p=s.size) :
  Calls Tryz.prog 153 #[.pointer (some ⟨R,0,none⟩)] w (Faulted R p w):=by
 have hne:=h.lt
 have hR1:Rc (w.alloc (.cells #[.int .u64 0,.int .u64 0,.int .u64 0,.int .u64 0] 144)) R s p g d:=h.keeps ((Keeps.refl (fun _=>False) w).alloc _) (fun h=>h)
 have hK1:Keeps (fun k=>k=R) w (w.alloc (.cells #[.int .u64 0,.int .u64 0,.int .u64 0,.int .u64 0] 144)):=(Keeps.refl _ w).alloc _
 have hr1:Sb (w.alloc (.cells #[.int .u64 0,.int .u64 0,.int .u64 0,.int .u64 0] 144)) w.heap.size (fun _=>0):=heap_alloc_new w _
 have HP:Hid (p=s.size):=hp
 have HB:Hid (bt s p≠92):=(by show _≠_; rw [bt_out (by omega)]; decide)
 have hple:p≤s.size:=by omega
 clear h hp
 go_enter Tryz.func153,Tryz.ntmps153
 go_wp2_with (first
  | (go_at_call 79; refine (take_no hR1 hs hple (b:=92) (by decide) HB.out).mono ?_; rintro e w2 ⟨rfl,n,rfl⟩)
  | (go_at_call 125; refine (next_bad (hR1.drewN n) hs HP.out).mono ?_; rintro e w3 ⟨rfl,n2,rfl⟩))
 exact ⟨rfl,rfl,hK1.drewN _⟩
set_option maxHeartbeats 400000 in
theorem part_esc {w:World} {R:Nat} {s:ByteArray} {p:Nat} {g d:Int} (h:Rc w R s p g d) (hs:s.size≤120) (hp:p < s.size) (hb:bt s p=92) :
  Calls Tryz.prog 153 #[.pointer (some ⟨R,0,none⟩)] w (PartPost R s g d (escRef s (p + 1)) w):=by
 have hne:=h.lt
 have hR1:Rc (w.alloc (.cells #[.int .u64 0,.int .u64 0,.int .u64 0,.int .u64 0] 144)) R s p g d:=h.keeps ((Keeps.refl (fun _=>False) w).alloc _) (fun h=>h)
 have hK1:Keeps (fun k=>k=R) w (w.alloc (.cells #[.int .u64 0,.int .u64 0,.int .u64 0,.int .u64 0] 144)):=(Keeps.refl _ w).alloc _
 have hr1:Sb (w.alloc (.cells #[.int .u64 0,.int .u64 0,.int .u64 0,.int .u64 0] 144)) w.heap.size (fun _=>0):=heap_alloc_new w _
 have HB:Hid (bt s p=92):=hb
 clear h hb
 obtain ⟨r,hr⟩ :∃r,escRef s (p + 1)=r:=⟨_,rfl⟩
 rw [hr]
 have HE:Hid (escRef s (p + 1)=r):=hr
 clear hr
 cases r with
 | error x =>
   go_enter Tryz.func153,Tryz.ntmps153
   go_wp2_with (first
    | (go_at_call 79; refine (take_yes hR1 hs (by omega) (b:=92) (by decide) HB.out).mono ?_; rintro e w2 ⟨rfl,hR2,hk2⟩)
    | (go_at_call 130; refine (iescape_any hR2 hs (by omega)).mono ?_; rw [HE.out]; rintro e w3 ⟨rfl,hk3⟩))
   exact ⟨rfl,rfl,(hK1.trans hk2).trans hk3⟩
 | ok o =>
   obtain ⟨S,o,q⟩:=o
   go_enter Tryz.func153,Tryz.ntmps153
   go_wp2_with (first
    | (go_at_call 79; refine (take_yes hR1 hs (by omega) (b:=92) (by decide) HB.out).mono ?_; rintro e w2 ⟨rfl,hR2,hk2⟩; replace hr1:=hr1.keeps hk2 (by omega))
    | (go_at_call 130; refine (iescape_any hR2 hs (by omega)).mono ?_; rw [HE.out]; rintro e w3 ⟨f,hf,rfl,hR3,hk3⟩; replace hr1:=hr1.keeps hk3 (by omega); have e0:=hr1.cell (q:=0) (by omega); have e1:=hr1.cell (q:=1) (by omega); have e2:=hr1.cell (q:=2) (by omega); have e3:=hr1.cell (q:=3) (by omega); have ef:=hr1.fz))
   refine bodyPost_ret (v:=.agg #[.int .u64 (f 0),.int .u64 (f 1),.int .u64 (f 2),.int .u64 (f 3)]) (by simp [results,Tryz.results153,go_sem,e0,e1,e2,e3]) rfl ?_
   exact ⟨f,hf,rfl,hR3.set4 (by omega),((hK1.trans hk2).trans hk3).set4 (by omega)⟩
set_option maxHeartbeats 400000 in
theorem part_one {w:World} {R:Nat} {s:ByteArray} {p:Nat} {g d:Int} (h:Rc w R s p g d) (hs:s.size≤120) (hp:p < s.size) (hb:bt s p≠92) :
  Calls Tryz.prog 153 #[.pointer (some ⟨R,0,none⟩)] w (SetRead R s g d (one (bt s p)) (p + 1) w):=by
 have hne:=h.lt
 have hR1:Rc (w.alloc (.cells #[.int .u64 0,.int .u64 0,.int .u64 0,.int .u64 0] 144)) R s p g d:=h.keeps ((Keeps.refl (fun _=>False) w).alloc _) (fun h=>h)
 have hK1:Keeps (fun k=>k=R) w (w.alloc (.cells #[.int .u64 0,.int .u64 0,.int .u64 0,.int .u64 0] 144)):=(Keeps.refl _ w).alloc _
 have hr1:Sb (w.alloc (.cells #[.int .u64 0,.int .u64 0,.int .u64 0,.int .u64 0] 144)) w.heap.size (fun _=>0):=heap_alloc_new w _
 have HB:Hid (bt s p≠92):=hb
 have hlt:=bt_lt hp
 clear h hb
 go_enter Tryz.func153,Tryz.ntmps153
 go_wp2_with (first
  | (go_at_call 79; refine (take_no hR1 hs (by omega) (b:=92) (by decide) HB.out).mono ?_; rintro e w2 ⟨rfl,n,rfl⟩)
  | (go_at_call 125; refine (next_yes (hR1.drewN n) hs hp).mono ?_; rintro e w3 ⟨rfl,hR2,hk2⟩; replace hk2:=((Keeps.refl _ _).drewN _).trans hk2; replace hr1:=hr1.keeps hk2 (by omega))
  | (go_at_call 128; refine (only_any _ hlt).mono ?_; rintro e w5 ⟨f,hf,rfl,hk⟩; replace hr1:=hr1.keeps hk (fun h=>h); have e0:=hr1.cell (q:=0) (by omega); have e1:=hr1.cell (q:=1) (by omega); have e2:=hr1.cell (q:=2) (by omega); have e3:=hr1.cell (q:=3) (by omega); have ef:=hr1.fz))
 refine bodyPost_ret (v:=.agg #[.int .u64 (f 0),.int .u64 (f 1),.int .u64 (f 2),.int .u64 (f 3)]) (by simp [results,Tryz.results153,go_sem,e0,e1,e2,e3]) rfl ?_
 exact ⟨f,hf,rfl,(hR2.keeps hk (fun h=>h)).set4 (by omega),((hK1.trans hk2).trans hk.none).set4 (by omega)⟩
theorem part_any {w:World} {R:Nat} {s:ByteArray} {p:Nat} {g d:Int} (h:Rc w R s p g d) (hs:s.size≤120) (hp:p < s.size) :
  Calls Tryz.prog 153 #[.pointer (some ⟨R,0,none⟩)] w (PartPost R s g d (partRef s p) w):=by
 unfold partRef
 by_cases hb:bt s p=92
 ·rw [if_pos hb]; exact part_esc h hs hp hb
 ·rw [if_neg hb]; exact part_one h hs hp hb
theorem sees_is {w:World} {R:Nat} {s:ByteArray} {p b:Nat} {g d:Int} {t:Bool} (h:Rc w R s p g d) (hs:s.size≤120) (hp:p≤s.size) (hb:b < 256) (ht:decide (bt s p=b)=t) :
  Calls Tryz.prog 90 #[.pointer (some ⟨R,0,none⟩),.int .u8 b] w fun e w'=>e = .returned (.bool t)∧∃n,w'=w.drewN n:=by
 subst ht; exact sees_any h hs hp hb
set_option maxHeartbeats 400000 in
theorem seesRange_no {w:World} {R:Nat} {s:ByteArray} {p:Nat} {g d:Int} (h:Rc w R s p g d) (hs:s.size≤120) (hp:p≤s.size) (hb:bt s p≠45) :
  Calls Tryz.prog 155 #[.pointer (some ⟨R,0,none⟩)] w fun e w'=>e = .returned (.bool false)∧∃n,w'=w.drewN n:=by
 have c0:=h.c0
 have c1:=h.c1
 have HR:Hid (Rc w R s p g d):=h
 have HT:Hid (decide (bt s p=45)=false):=(by show _ = _; simp [hb])
 clear h hb
 go_enter Tryz.func155,Tryz.ntmps155
 go_wp2
 go_quiet ((go_at_call 90; exact Calls.quiet_of (sees_is (b:=45) (HR.out.drewN _) hs hp (by decide) HT.out)))
 go_wp2
 go_ret
 exact ⟨rfl,_,rfl⟩
set_option maxHeartbeats 400000 in
theorem seesRange_end {w:World} {R:Nat} {s:ByteArray} {p:Nat} {g d:Int} (h:Rc w R s p g d) (hs:s.size≤120) (hb:bt s p=45) (hp:p + 1=s.size) :
  Calls Tryz.prog 155 #[.pointer (some ⟨R,0,none⟩)] w fun e w'=>e = .returned (.bool true)∧∃n,w'=w.drewN n:=by
 have c0:=h.c0
 have c1:=h.c1
 have HR:Hid (Rc w R s p g d):=h
 have HT:Hid (decide (bt s p=45)=true):=(by show _ = _; simp [hb])
 have hple:p≤s.size:=by omega
 have hz:((p:Int) + 1 == (s.size:Int))=true:=by simp; omega
 clear h hb hp
 go_enter Tryz.func155,Tryz.ntmps155
 go_wp2
 go_quiet ((go_at_call 90; exact Calls.quiet_of (sees_is (b:=45) (HR.out.drewN _) hs hple (by decide) HT.out)))
 go_wp2
 go_ret
 exact ⟨rfl,_,rfl⟩
set_option maxHeartbeats 400000 in
theorem seesRange_in {w:World} {R:Nat} {s:ByteArray} {p:Nat} {g d:Int} (h:Rc w R s p g d) (hs:s.size≤120) (hb:bt s p=45) (hp:p + 1 < s.size) :
  Calls Tryz.prog 155 #[.pointer (some ⟨R,0,none⟩)] w fun e w'=>e = .returned (.bool (decide (bt s (p + 1)≠93)))∧∃n,w'=w.drewN n:=by
 have c0:=h.c0
 have c1:=h.c1
 have HR:Hid (Rc w R s p g d):=h
 have HT:Hid (decide (bt s p=45)=true):=(by show _ = _; simp [hb])
 have HB:Hid (bt s (p + 1)=s[p + 1].toNat):=bt_in hp
 have hple:p≤s.size:=by omega
 have hz:((p:Int) + 1 == (s.size:Int))=false:=by simp; omega
 have hpz:(p:Int) + 1 < (s.size:Int):=by omega
 have hw:IntKind.i64.wrap ((p:Int) + 1)=(p:Int) + 1:=IntWalk.i64_in _ ⟨by omega,by omega⟩
 have h0:(0:Int)≤(p:Int) + 1:=by omega
 have htn:((p:Int) + 1).toNat=p + 1:=by omega
 clear h hb
 go_enter Tryz.func155,Tryz.ntmps155
 go_wp2
 go_quiet ((go_at_call 90; exact Calls.quiet_of (sees_is (b:=45) (HR.out.drewN _) hs hple (by decide) HT.out)))
 go_wp2
 go_ret
 exact ⟨ret_bool (by rw [HB.out,Bool.eq_iff_iff]; simp; omega),_,rfl⟩
theorem lowS_one {b:Nat} (hb:b < 256):lowS (one b)=b :=
 lowS_at hb (by simp [one]) (fun y hy=>by simp [one]; omega)
theorem two_notOne {S:Bs} {a b c:Nat} (ha:a < 256) (hb:b < 256) (hab:a≠b) (h1:S a=true) (h2:S b=true):¬∀x,x < 256→S x=one c x:=by
 intro h
 have e1:=h a ha
 have e2:=h b hb
 rw [h1] at e1
 rw [h2] at e2
 simp [one] at e1 e2
 omega
theorem escRef_one {s:ByteArray} {p q:Nat} {S:Bs} {o:Option Nat} (h:escRef s p = .ok (S,o,q)) :
  (∃b,o=some b∧S=one b∧b < 256)∨(o=none∧∀c,¬∀x,x < 256→S x=one c x):=by
 unfold escRef at h
 by_cases h0:bt s p=256
 ·rw [if_pos h0] at h; simp at h
 have hb:bt s p < 256:=by
  by_cases hlt:p < s.size
  ·exact bt_lt hlt
  ·exact absurd (bt_out hlt) h0
 rw [if_neg h0] at h
 by_cases h1:bt s p=100
 ·rw [if_pos h1] at h; simp at h; obtain ⟨rfl,rfl,rfl⟩:=h
  exact Or.inr ⟨rfl,fun c=>two_notOne (a:=48) (b:=49) (by decide) (by decide) (by decide) rfl rfl⟩
 rw [if_neg h1] at h
 by_cases h2:bt s p=119
 ·rw [if_pos h2] at h; simp at h; obtain ⟨rfl,rfl,rfl⟩:=h
  exact Or.inr ⟨rfl,fun c=>two_notOne (a:=48) (b:=49) (by decide) (by decide) (by decide) rfl rfl⟩
 rw [if_neg h2] at h
 by_cases h3:bt s p=115
 ·rw [if_pos h3] at h; simp at h; obtain ⟨rfl,rfl,rfl⟩:=h
  exact Or.inr ⟨rfl,fun c=>two_notOne (a:=9) (b:=10) (by decide) (by decide) (by decide) rfl rfl⟩
 rw [if_neg h3] at h
 by_cases h4:bt s p=110
 ·rw [if_pos h4] at h; simp at h; obtain ⟨rfl,rfl,rfl⟩:=h
  exact Or.inl ⟨_,rfl,rfl,by decide⟩
 rw [if_neg h4] at h
 by_cases h5:bt s p=116
 ·rw [if_pos h5] at h; simp at h; obtain ⟨rfl,rfl,rfl⟩:=h
  exact Or.inl ⟨_,rfl,rfl,by decide⟩
 rw [if_neg h5] at h
 by_cases h6:bt s p=114
 ·rw [if_pos h6] at h; simp at h; obtain ⟨rfl,rfl,rfl⟩:=h
  exact Or.inl ⟨_,rfl,rfl,by decide⟩
 rw [if_neg h6] at h
 by_cases h7:bt s p=120
 ·rw [if_pos h7] at h
  cases e1:hexv (bt s (p + 1)) with
  | none=>rw [e1] at h; simp at h
  | some a =>
    rw [e1] at h
    cases e2:hexv (bt s (p + 2)) with
    | none=>rw [e2] at h; simp at h
    | some b =>
      rw [e2] at h; simp at h; obtain ⟨rfl,rfl,rfl⟩:=h
      have ha:=hexv_lt e1
      have hb:=hexv_lt e2
      exact Or.inl ⟨_,rfl,rfl,by omega⟩
 rw [if_neg h7] at h
 cases h8:(letter (bt s p) || digit (bt s p) || !printed (bt s p)) with
 | true=>rw [h8] at h; simp at h
 | false =>
   rw [h8] at h; simp at h; obtain ⟨rfl,rfl,rfl⟩:=h
   exact Or.inl ⟨_,rfl,rfl,hb⟩
theorem partRef_one {s:ByteArray} {p q:Nat} {S:Bs} {o:Option Nat} (hp:p < s.size) (h:partRef s p = .ok (S,o,q)) :
  (∃b,o=some b∧S=one b∧b < 256)∨(o=none∧∀c,¬∀x,x < 256→S x=one c x):=by
 unfold partRef at h
 by_cases hb:bt s p=92
 ·rw [if_pos hb] at h; exact escRef_one h
 ·rw [if_neg hb] at h; simp at h; obtain ⟨rfl,rfl,rfl⟩:=h
  exact Or.inl ⟨_,rfl,rfl,bt_lt hp⟩
def itemImp (s:ByteArray) (p:Nat):Except Nat (Bs×Nat) :=
 match partRef s p with
 | .error e => .error e
 | .ok (S,none,q) => .ok (S,q)
 | .ok (S,some lo,q) =>
   if bt s q=45∧bt s (q + 1)≠93 then
    if bt s (q + 1)=256 then .error (q + 1) else
    match partRef s (q + 1) with
    | .error e => .error e
    | .ok (_,none,_) => .error (q + 1)
    | .ok (_,some hi,q2)=>if hi < lo then .error (q + 1) else .ok (rng lo hi,q2)
   else .ok (S,q)
theorem un_rng {lo hi:Nat} (h:¬ hi < lo):un (one lo) (rng lo hi)=rng lo hi:=by
 funext x
 by_cases e:x=lo
 ·subst e; simp [un,one,rng]; omega
 ·simp [un,one,rng,e]
theorem item_same {s:ByteArray} {p:Nat} (hp:p < s.size) :
  itemImp s p=itemRef s p∨(∃q S,itemImp s p = .error (q + 1)∧p < q∧q + 1=s.size∧bt s q=45∧itemRef s p = .ok (S,q)):=by
 cases e:partRef s p with
 | error x=>exact Or.inl (by simp [itemImp,itemRef,e])
 | ok v =>
   obtain ⟨S,o,q⟩:=v
   obtain ⟨h1,h2,h3⟩:=partRef_pos hp e
   cases o with
   | none=>exact Or.inl (by simp [itemImp,itemRef,e])
   | some lo =>
     obtain ⟨hlo,rfl⟩:=h3 lo rfl
     by_cases hb:bt s q=45
     ·by_cases h9:bt s (q + 1)=93
      ·exact Or.inl (by simp [itemImp,itemRef,e,hb,h9])
      ·by_cases h25:bt s (q + 1)=256
       ·have hq:=bt_some hb (by decide)
        have hq1:=bt_end.1 h25
        exact Or.inr ⟨q,one lo,by simp [itemImp,e,hb,h25],h1,by omega,hb,by simp [itemRef,e,hb,h25]⟩
       ·left
        have c1:bt s q=45∧bt s (q + 1)≠93:=⟨hb,h9⟩
        have c2:bt s q=45∧bt s (q + 1)≠256∧bt s (q + 1)≠93:=⟨hb,h25,h9⟩
        simp only [itemImp,itemRef,e]
        rw [if_pos c1,if_pos c2,if_neg h25]
        cases e2:partRef s (q + 1) with
        | error x=>rfl
        | ok v =>
          obtain ⟨S2,o2,q2⟩:=v
          cases o2 with
          | none=>rfl
          | some hi =>
            by_cases hl:hi < lo
            ·simp [hl]
            ·simp [hl,un_rng hl]
     ·exact Or.inl (by simp [itemImp,itemRef,e,hb])
theorem iclassLoop_end {s:ByteArray} {fu:Nat} {S:Bs} {fi:Bool} {p:Nat} (hp:p=s.size) (hf:0 < fu):classLoop s fu p S fi = .error p:=by
 obtain ⟨f,rfl⟩ :∃f,fu=f + 1:=⟨fu - 1,by omega⟩
 have e:bt s p=256:=bt_out (by omega)
 simp [classLoop,e]
theorem iclassLoop_close {s:ByteArray} {fu:Nat} {S:Bs} {p:Nat} (hb:bt s p=93) (hf:0 < fu):classLoop s fu p S false = .ok (S,p + 1):=by
 obtain ⟨f,rfl⟩ :∃f,fu=f + 1:=⟨fu - 1,by omega⟩
 simp [classLoop,hb]
theorem classLoop_item {s:ByteArray} {f:Nat} {S:Bs} {fi:Bool} {p:Nat} (hp:p < s.size) (hc:bt s p≠93∨fi=true) :
  classLoop s (f + 1) p S fi=match itemRef s p with | .error e => .error e | .ok (S1,q)=>classLoop s f q (un S S1) false:=by
 have h1:bt s p≠256:=by have:=bt_lt hp; omega
 rw [classLoop,if_pos ⟨h1,hc⟩]
 rfl
theorem class_step {s:ByteArray} {fu:Nat} {S:Bs} {fi:Bool} {p:Nat} {r:Except Nat (Bs×Nat)} (hp:p < s.size) (hf:s.size + 1≤fu + p) (hc:bt s p≠93∨fi=true) (h:classLoop s fu p S fi=r) :
  (∃x,itemImp s p = .error x∧r = .error x)∨(∃S1 q f',fu=f' + 1∧itemImp s p = .ok (S1,q)∧classLoop s f' q (un S S1) false=r∧p < q∧q≤s.size∧s.size + 1≤f' + q):=by
 obtain ⟨f,rfl⟩ :∃f,fu=f + 1:=⟨fu - 1,by omega⟩
 rw [classLoop_item hp hc] at h
 rcases item_same hp with e | ⟨q,S1,e1,hq,hs,hb,e2⟩
 ·cases e2:itemRef s p with
  | error x=>rw [e2] at e h; exact Or.inl ⟨x,e,h.symm⟩
  | ok v =>
    obtain ⟨S1,q⟩:=v
    rw [e2] at e h
    obtain ⟨h1,h2⟩:=itemRef_pos hp e2
    exact Or.inr ⟨S1,q,f,rfl,e,h,h1,h2,by omega⟩
 ·left
  refine ⟨q + 1,e1,?_⟩
  rw [e2] at h
  simp only at h
  obtain ⟨f2,rfl⟩ :∃f2,f=f2 + 1:=⟨f - 1,by omega⟩
  have h25:bt s (q + 1)=256:=bt_out (by omega)
  have e3:itemRef s q = .ok (one 45,q + 1):=by simp [itemRef,partRef,hb,h25]
  rw [classLoop_item (by omega) (Or.inl (by omega)),e3] at h
  simp only at h
  rw [iclassLoop_end hs (by omega)] at h
  exact h.symm
def ItemPost (R:Nat) (s:ByteArray) (g d:Int) (r:Except Nat (Bs×Nat)) (w:World) (e:Ending) (w':World):Prop :=
 match r with
 | .error x=>Faulted R x w e w'
 | .ok (S,q)=>SetRead R s g d S q w e w'
def new4 (w:World) (f:Nat→Nat):World:=w.alloc (.cells #[.int .u64 (f 0),.int .u64 (f 1),.int .u64 (f 2),.int .u64 (f 3)] 144)
theorem sb_new (w:World) (f:Nat→Nat):Sb (new4 w f) w.heap.size f:=heap_alloc_new w _
theorem keeps_new {E:Nat→Prop} (w:World) (f:Nat→Nat):Keeps E w (new4 w f):=(Keeps.refl _ w).alloc _
set_option maxHeartbeats 400000 in
theorem item_bad {w:World} {R:Nat} {s:ByteArray} {p x:Nat} {g d:Int} (h:Rc w R s p g d) (hs:s.size≤120) (hp:p < s.size) (he:partRef s p = .error x) :
  Calls Tryz.prog 143 #[.pointer (some ⟨R,0,none⟩)] w (Faulted R x w):=by
 have hR1:Rc (w.alloc (.cells #[.int .u64 0,.int .u64 0,.int .u64 0,.int .u64 0] 144)) R s p g d:=h.keeps ((Keeps.refl (fun _=>False) w).alloc _) (fun h=>h)
 have hK1:Keeps (fun k=>k=R) w (w.alloc (.cells #[.int .u64 0,.int .u64 0,.int .u64 0,.int .u64 0] 144)):=(Keeps.refl _ w).alloc _
 have HE:Hid (partRef s p = .error x):=he
 clear h he
 go_enter Tryz.func143,Tryz.ntmps143
 go_wp2_with (first
  | (go_at_call 153; refine (part_any hR1 hs hp).mono ?_; rw [HE.out]; rintro e w2 ⟨rfl,hk2⟩))
 exact ⟨rfl,rfl,hK1.trans hk2⟩
theorem item_end {w:World} {R:Nat} {s:ByteArray} {p:Nat} {g d:Int} (h:Rc w R s p g d) (hs:s.size≤120) (hp:p=s.size) :
  Calls Tryz.prog 143 #[.pointer (some ⟨R,0,none⟩)] w (Faulted R p w):=by
 have hR1:Rc (w.alloc (.cells #[.int .u64 0,.int .u64 0,.int .u64 0,.int .u64 0] 144)) R s p g d:=h.keeps ((Keeps.refl (fun _=>False) w).alloc _) (fun h=>h)
 have hK1:Keeps (fun k=>k=R) w (w.alloc (.cells #[.int .u64 0,.int .u64 0,.int .u64 0,.int .u64 0] 144)):=(Keeps.refl _ w).alloc _
 have HP:Hid (p=s.size):=hp
 clear h hp
 go_enter Tryz.func143,Tryz.ntmps143
 go_wp2_with (first
  | (go_at_call 153; refine (part_end hR1 hs HP.out).mono ?_; rintro e w2 ⟨rfl,hk2⟩))
 exact ⟨rfl,rfl,hK1.trans hk2⟩
set_option maxHeartbeats 400000 in
set_option maxRecDepth 100000 in
theorem item_many {w:World} {R:Nat} {s:ByteArray} {p q:Nat} {S:Bs} {g d:Int} (h:Rc w R s p g d) (hs:s.size≤120) (hp:p < s.size) (he:partRef s p = .ok (S,none,q)) :
  Calls Tryz.prog 143 #[.pointer (some ⟨R,0,none⟩)] w (SetRead R s g d S q w):=by
 have hne:=h.lt
 have hR1:Rc (w.alloc (.cells #[.int .u64 0,.int .u64 0,.int .u64 0,.int .u64 0] 144)) R s p g d:=h.keeps ((Keeps.refl (fun _=>False) w).alloc _) (fun h=>h)
 have hK1:Keeps (fun k=>k=R) w (w.alloc (.cells #[.int .u64 0,.int .u64 0,.int .u64 0,.int .u64 0] 144)):=(Keeps.refl _ w).alloc _
 have hr1:Sb (w.alloc (.cells #[.int .u64 0,.int .u64 0,.int .u64 0,.int .u64 0] 144)) w.heap.size (fun _=>0):=heap_alloc_new w _
 have HE:Hid (partRef s p = .ok (S,none,q)):=he
 have HN:Hid (¬∀x,x < 256→S x=one (lowS S) x):=by
  rcases partRef_one hp he with ⟨b,h1,_⟩ | ⟨_,h1⟩
  ·simp at h1
  ·exact h1 _
 clear h he
 go_enter Tryz.func143,Tryz.ntmps143
 go_upto_region 2 with (go_at_call 153; refine (part_any hR1 hs hp).mono ?_; rw [HE.out]; rintro e w2 ⟨f,hf,rfl,hR2,hk2⟩; replace hr1:=hr1.keeps hk2 (by omega); replace hk2:=hK1.trans hk2)
 obtain ⟨w3,hw⟩ :∃w3,w3=new4 w2 f:=⟨_,rfl⟩
 have hS:Sb w3 w2.heap.size f:=hw ▸ sb_new w2 f
 have hk3:Keeps (fun _=>False) w2 w3:=hw ▸ keeps_new w2 f
 delta new4 at hw
 rw [← hw]
 clear hw
 replace hr1:=hr1.keeps hk3 (fun h=>h)
 replace hR2:=hR2.keeps hk3 (fun h=>h)
 have hs2:=hk2.size
 replace hk2:=hk2.trans hk3.none
 clear hk3
 have c0:=hS.cell (q:=0) (by omega); have c1:=hS.cell (q:=1) (by omega); have c2:=hS.cell (q:=2) (by omega); have c3:=hS.cell (q:=3) (by omega)
 go_wp2_with (first
  | (go_at_call 154; refine (isOne_any hf).mono ?_; rintro e w4 ⟨b,rfl,hb,hk3⟩; obtain rfl:b=false:=(by cases b with | false=>rfl | true=>exact absurd (hb.1 rfl) HN.out); clear hb; replace hr1:=hr1.keeps hk3 (fun h=>h); replace hS:=hS.keeps hk3 (fun h=>h); have c0:=hS.cell (q:=0) (by omega); have c1:=hS.cell (q:=1) (by omega); have c2:=hS.cell (q:=2) (by omega); have c3:=hS.cell (q:=3) (by omega); have e0:=hr1.cell (q:=0) (by omega); have e1:=hr1.cell (q:=1) (by omega); have e2:=hr1.cell (q:=2) (by omega); have e3:=hr1.cell (q:=3) (by omega); have ef:=hr1.fz))
 refine bodyPost_ret (v:=.agg #[.int .u64 (f 0),.int .u64 (f 1),.int .u64 (f 2),.int .u64 (f 3)]) (by simp [results,Tryz.results143,go_sem,e0,e1,e2,e3]) rfl ?_
 exact ⟨f,hf,rfl,(hR2.keeps hk3 (fun h=>h)).set4 (by omega),(hk2.trans hk3.none).set4 (by omega)⟩
end Go.Proofs.YthkmmeamplmnhaaGreat
