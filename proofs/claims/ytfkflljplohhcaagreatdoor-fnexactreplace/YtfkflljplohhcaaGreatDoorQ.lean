import Derived.Test.YtfkflljplohhcaaGreatDoorP
set_option maxHeartbeats 1000000
set_option maxRecDepth 100000
namespace Go.Proofs.YtfkflljplohhcaaGreatDoor
open Go.RowKit
set_option linter.unusedVariables false
theorem JS {w:World} {b:Nat} {f:Nat->Nat} (h:Bv (one b) f) (hb:b < 256) :
  Calls Tryz.prog 157 #[.agg #[.int .u64 (f 0),.int .u64 (f 1),.int .u64 (f 2),.int .u64 (f 3)]] w fun e w'=>e = .returned (.bool true)/\Za N0_ w w' :=
 (Zdl h).mono fun e w' ⟨c,h1,h2,h3⟩=>by
  obtain rfl:c=true:=h2.2 (by rw [Zie hb]; exact fun _ _=>rfl);exact ⟨h1,h3⟩
theorem Zod {w:World} {S:Bs} {f:Nat->Nat} (h:Bv S f) (hn :∀c,¬∀x,x < 256->S x=one c x) :
  Calls Tryz.prog 157 #[.agg #[.int .u64 (f 0),.int .u64 (f 1),.int .u64 (f 2),.int .u64 (f 3)]] w fun e w'=>e = .returned (.bool false)/\Za N0_ w w' :=
 (Zdl h).mono fun e w' ⟨c,h1,h2,h3⟩=>by
  cases c with
  | false=>exact ⟨h1,h3⟩
  | true=>exact absurd (h2.1 rfl) (hn _)
theorem Zjk {w:World} {b:Nat} {f:Nat->Nat} (h:Bv (one b) f) (hb:b < 256) :
  Calls Tryz.prog 159 #[.agg #[.int .u64 (f 0),.int .u64 (f 1),.int .u64 (f 2),.int .u64 (f 3)]] w fun e w'=>e = .returned (.int .u8 b)/\Za N0_ w w' :=
 (Zd0 h).mono fun e w' ⟨h1,h2⟩=>⟨by rw [h1,Zie hb],h2⟩
theorem QF {w:World} {R:Nat} {s:ByteArray} {p:Nat} {g d:Int} {t:Bool} (h:Rc w R s p g d) (hs:s.size<=120) (hp:p<=s.size) (ht:decide (bt s p=45/\bt s (p + 1)≠93)=t) :
  Calls Tryz.prog 158 #[.pointer (some ⟨R,0,none⟩)] w fun e w'=>e = .returned (.bool t)/\∃n,w'=w.drewN n:=by
 subst ht
 by_cases hb:bt s p=45
 ·have hlt:=Zt hb (by decide)
  by_cases h1:p + 1=s.size
  ·have h25:bt s (p + 1)=256:=Z7 (by omega)
   have:=ZeA h hs hb h1
   simpa [hb,h25] using this
  ·have:=ZfD h hs hb (by omega)
   simpa [hb] using this
 ·have:=ZfC h hs hp hb
  simpa [hb] using this
theorem Zg5 {w:World} {R:Nat} {s:ByteArray} {p q lo:Nat} {S:Bs} {g d:Int} (h:Rc w R s p g d) (hs:s.size<=120) (hp:p < s.size) (he:Zm s p = .ok (S,some lo,q)) (hc:¬ (bt s q=45/\bt s (q + 1)≠93)) :
  Calls Tryz.prog 145 #[.pointer (some ⟨R,0,none⟩)] w (QP R s g d S q w):=by
 have hne:=h.lt;obtain ⟨hpq,hqs,hone⟩:=ZS hp he;obtain ⟨hlo,rfl⟩:=hone lo rfl;have hR1:Rc (w.alloc (.cells #[.int .u64 0,.int .u64 0,.int .u64 0,.int .u64 0] 170)) R s p g d:=h.keeps ((Za.refl N0_ w).alloc _) id;have hK1:Za (fun k=>k=R) w (w.alloc (.cells #[.int .u64 0,.int .u64 0,.int .u64 0,.int .u64 0] 170)):=(Za.refl _ w).alloc _;have hr1:Sb (w.alloc (.cells #[.int .u64 0,.int .u64 0,.int .u64 0,.int .u64 0] 170)) w.heap.size (fun _=>0):=heap_alloc_new w _;have HE:Hid (Zm s p = .ok (one lo,some lo,q)):=he;clear h he hone;have HT:Hid (decide (bt s q=45/\bt s (q + 1)≠93)=false):=(by show _ = _; exact decide_eq_false hc);clear hc;go_enter Tryz.func145,Tryz.ntmps145;go_upto_region 2 with (go_at_call 156; refine (QS hR1 hs hp).mono ?_; rw [HE.out]; rintro e w2 ⟨f,hf,rfl,hR2,hk2⟩; replace hr1:=hr1.keeps hk2 (by omega); replace hk2:=hK1.trans hk2);obtain ⟨w3,hw⟩ :∃w3,w3=ZcJ w2 f:=⟨_,rfl⟩;have hS:Sb w3 w2.heap.size f:=hw ▸ ZaQ w2 f;have hk3:Za N0_ w2 w3:=hw ▸ QC w2 f
 delta ZcJ at hw
 rw [<- hw];clear hw;replace hr1:=hr1.keeps hk3 id;replace hR2:=hR2.keeps hk3 id;have hs2:=hk2.size;replace hk2:=hk2.trans hk3.none;clear hk3 hR1 hK1;generalize hF:w2.heap.size=F at hS hs2 ⊢;clear hF;have c0:=hS.cell (q:=0) (by omega); have c1:=hS.cell (q:=1) (by omega); have c2:=hS.cell (q:=2) (by omega); have c3:=hS.cell (q:=3) (by omega);go_wp2_with (first
  | (go_at_call 157; refine (JS hf hlo).mono ?_; rintro e w4 ⟨rfl,hk3⟩; replace hr1:=hr1.keeps hk3 id; replace hS:=hS.keeps hk3 id; replace hR2:=hR2.keeps hk3 id; replace hk2:=hk2.trans hk3.none; clear hk3)
  | (go_at_call 158; refine (QF hR2 hs hqs HT.out).mono ?_; rintro e w5 ⟨rfl,n,hn⟩; have hk3:Za N0_ w4 w5:=(by rw [hn]; exact (Za.refl _ _).drewN _); clear hn; replace hr1:=hr1.keeps hk3 id; replace hS:=hS.keeps hk3 id; replace hR2:=hR2.keeps hk3 id; replace hk2:=hk2.trans hk3.none; clear hk3; have c0:=hS.cell (q:=0) (by omega); have c1:=hS.cell (q:=1) (by omega); have c2:=hS.cell (q:=2) (by omega); have c3:=hS.cell (q:=3) (by omega); have e0:=hr1.cell (q:=0) (by omega); have e1:=hr1.cell (q:=1) (by omega); have e2:=hr1.cell (q:=2) (by omega); have e3:=hr1.cell (q:=3) (by omega); have ef:=hr1.fz))
 refine bodyPost_ret (v:=.agg #[.int .u64 (f 0),.int .u64 (f 1),.int .u64 (f 2),.int .u64 (f 3)]) (by simp [results,Tryz.results145,go_sem,e0,e1,e2,e3]) rfl ?_;exact ⟨f,hf,rfl,hR2.set4 (by omega),hk2.set4 (by omega)⟩
theorem Zlw {w:World} {R:Nat} {s:ByteArray} {p q lo:Nat} {S:Bs} {g d:Int} (h:Rc w R s p g d) (hs:s.size<=120) (hp:p < s.size) (he:Zm s p = .ok (S,some lo,q)) (hc:bt s q=45/\bt s (q + 1)≠93) (hend:bt s (q + 1)=256) :
  Calls Tryz.prog 145 #[.pointer (some ⟨R,0,none⟩)] w (ZY R (q + 1) w):=by
 have hne:=h.lt;obtain ⟨hpq,hqs,hone⟩:=ZS hp he;obtain ⟨hlo,rfl⟩:=hone lo rfl;have hR1:Rc (w.alloc (.cells #[.int .u64 0,.int .u64 0,.int .u64 0,.int .u64 0] 170)) R s p g d:=h.keeps ((Za.refl N0_ w).alloc _) id;have hK1:Za (fun k=>k=R) w (w.alloc (.cells #[.int .u64 0,.int .u64 0,.int .u64 0,.int .u64 0] 170)):=(Za.refl _ w).alloc _;have hr1:Sb (w.alloc (.cells #[.int .u64 0,.int .u64 0,.int .u64 0,.int .u64 0] 170)) w.heap.size (fun _=>0):=heap_alloc_new w _;have HE:Hid (Zm s p = .ok (one lo,some lo,q)):=he;clear h he hone;have HT:Hid (decide (bt s q=45/\bt s (q + 1)≠93)=true):=(by show _ = _; exact decide_eq_true hc);have HQ:Hid (bt s q=45):=hc.1;have hqlt:=Zt hc.1 (by decide);have hq1:q + 1<=s.size:=hqlt;clear hc;have HP:Hid (q + 1=s.size):=(by show _ = _; have:=ZiB.1 hend; omega);clear hend;go_enter Tryz.func145,Tryz.ntmps145;go_upto_region 2 with (go_at_call 156; refine (QS hR1 hs hp).mono ?_; rw [HE.out]; rintro e w2 ⟨f,hf,rfl,hR2,hk2⟩; replace hr1:=hr1.keeps hk2 (by omega); replace hk2:=hK1.trans hk2);obtain ⟨w3,hw⟩ :∃w3,w3=ZcJ w2 f:=⟨_,rfl⟩;have hS:Sb w3 w2.heap.size f:=hw ▸ ZaQ w2 f;have hk3:Za N0_ w2 w3:=hw ▸ QC w2 f
 delta ZcJ at hw
 rw [<- hw];clear hw;replace hr1:=hr1.keeps hk3 id;replace hR2:=hR2.keeps hk3 id;have hs2:=hk2.size;replace hk2:=hk2.trans hk3.none;clear hk3 hR1 hK1;generalize hF:w2.heap.size=F at hS hs2 ⊢;clear hF;have c0:=hS.cell (q:=0) (by omega); have c1:=hS.cell (q:=1) (by omega); have c2:=hS.cell (q:=2) (by omega); have c3:=hS.cell (q:=3) (by omega);go_wp2_with (first
  | (go_at_call 157; refine (JS hf hlo).mono ?_; rintro e w4 ⟨rfl,hk3⟩; replace hr1:=hr1.keeps hk3 id; replace hS:=hS.keeps hk3 id; replace hR2:=hR2.keeps hk3 id; replace hk2:=hk2.trans hk3.none; clear hk3)
  | (go_at_call 158; refine (QF hR2 hs hqs HT.out).mono ?_; rintro e w5 ⟨rfl,n,hn⟩; have hk3:Za N0_ w4 w5:=(by rw [hn]; exact (Za.refl _ _).drewN _); clear hn; replace hr1:=hr1.keeps hk3 id; replace hS:=hS.keeps hk3 id; replace hR2:=hR2.keeps hk3 id; replace hk2:=hk2.trans hk3.none; clear hk3; skip)
  | (go_at_call 144; refine (JE hR2 hs hqs (b:=45) (by decide) HQ.out).mono ?_; clear hR2; rintro e w6 ⟨rfl,hR2,hk3⟩; replace hr1:=hr1.keeps hk3 (by omega); replace hS:=hS.keeps hk3 (by omega); replace hk2:=hk2.trans hk3; clear hk3; have g1:=hR2.c1)
  | (go_at_call 156; refine (Zh8 hR2 hs HP.out).mono ?_; rintro e w7 ⟨rfl,hk3⟩))
 exact ⟨rfl,rfl,hk2.trans hk3⟩
theorem ZdG {w:World} {R:Nat} {s:ByteArray} {p q lo x:Nat} {S:Bs} {g d:Int} (h:Rc w R s p g d) (hs:s.size<=120) (hp:p < s.size) (he:Zm s p = .ok (S,some lo,q)) (hc:bt s q=45/\bt s (q + 1)≠93) (hend:q + 1 < s.size) (he2:Zm s (q + 1) = .error x) :
  Calls Tryz.prog 145 #[.pointer (some ⟨R,0,none⟩)] w (ZY R x w):=by
 have hne:=h.lt;obtain ⟨hpq,hqs,hone⟩:=ZS hp he;obtain ⟨hlo,rfl⟩:=hone lo rfl;have hR1:Rc (w.alloc (.cells #[.int .u64 0,.int .u64 0,.int .u64 0,.int .u64 0] 170)) R s p g d:=h.keeps ((Za.refl N0_ w).alloc _) id;have hK1:Za (fun k=>k=R) w (w.alloc (.cells #[.int .u64 0,.int .u64 0,.int .u64 0,.int .u64 0] 170)):=(Za.refl _ w).alloc _;have hr1:Sb (w.alloc (.cells #[.int .u64 0,.int .u64 0,.int .u64 0,.int .u64 0] 170)) w.heap.size (fun _=>0):=heap_alloc_new w _;have HE:Hid (Zm s p = .ok (one lo,some lo,q)):=he;clear h he hone;have HT:Hid (decide (bt s q=45/\bt s (q + 1)≠93)=true):=(by show _ = _; exact decide_eq_true hc);have HQ:Hid (bt s q=45):=hc.1;have hqlt:=Zt hc.1 (by decide);have hq1:q + 1<=s.size:=hqlt;clear hc;have HE2:Hid (Zm s (q + 1) = .error x):=he2;clear he2;go_enter Tryz.func145,Tryz.ntmps145;go_upto_region 2 with (go_at_call 156; refine (QS hR1 hs hp).mono ?_; rw [HE.out]; rintro e w2 ⟨f,hf,rfl,hR2,hk2⟩; replace hr1:=hr1.keeps hk2 (by omega); replace hk2:=hK1.trans hk2);obtain ⟨w3,hw⟩ :∃w3,w3=ZcJ w2 f:=⟨_,rfl⟩;have hS:Sb w3 w2.heap.size f:=hw ▸ ZaQ w2 f;have hk3:Za N0_ w2 w3:=hw ▸ QC w2 f
 delta ZcJ at hw
 rw [<- hw];clear hw;replace hr1:=hr1.keeps hk3 id;replace hR2:=hR2.keeps hk3 id;have hs2:=hk2.size;replace hk2:=hk2.trans hk3.none;clear hk3 hR1 hK1;generalize hF:w2.heap.size=F at hS hs2 ⊢;clear hF;have c0:=hS.cell (q:=0) (by omega); have c1:=hS.cell (q:=1) (by omega); have c2:=hS.cell (q:=2) (by omega); have c3:=hS.cell (q:=3) (by omega);go_wp2_with (first
  | (go_at_call 157; refine (JS hf hlo).mono ?_; rintro e w4 ⟨rfl,hk3⟩; replace hr1:=hr1.keeps hk3 id; replace hS:=hS.keeps hk3 id; replace hR2:=hR2.keeps hk3 id; replace hk2:=hk2.trans hk3.none; clear hk3)
  | (go_at_call 158; refine (QF hR2 hs hqs HT.out).mono ?_; rintro e w5 ⟨rfl,n,hn⟩; have hk3:Za N0_ w4 w5:=(by rw [hn]; exact (Za.refl _ _).drewN _); clear hn; replace hr1:=hr1.keeps hk3 id; replace hS:=hS.keeps hk3 id; replace hR2:=hR2.keeps hk3 id; replace hk2:=hk2.trans hk3.none; clear hk3; skip)
  | (go_at_call 144; refine (JE hR2 hs hqs (b:=45) (by decide) HQ.out).mono ?_; clear hR2; rintro e w6 ⟨rfl,hR2,hk3⟩; replace hr1:=hr1.keeps hk3 (by omega); replace hS:=hS.keeps hk3 (by omega); replace hk2:=hk2.trans hk3; clear hk3; have g1:=hR2.c1)
  | (go_at_call 156; refine (QS hR2 hs hend).mono ?_; rw [HE2.out]; rintro e w7 ⟨rfl,hk3⟩))
 exact ⟨rfl,rfl,hk2.trans hk3⟩
theorem Zdi {w:World} {R:Nat} {s:ByteArray} {p q lo q2:Nat} {S S2:Bs} {g d:Int} (h:Rc w R s p g d) (hs:s.size<=120) (hp:p < s.size) (he:Zm s p = .ok (S,some lo,q)) (hc:bt s q=45/\bt s (q + 1)≠93) (hend:q + 1 < s.size) (he2:Zm s (q + 1) = .ok (S2,none,q2)) :
  Calls Tryz.prog 145 #[.pointer (some ⟨R,0,none⟩)] w (ZY R (q + 1) w):=by
 have hne:=h.lt;obtain ⟨hpq,hqs,hone⟩:=ZS hp he;obtain ⟨hlo,rfl⟩:=hone lo rfl;have hR1:Rc (w.alloc (.cells #[.int .u64 0,.int .u64 0,.int .u64 0,.int .u64 0] 170)) R s p g d:=h.keeps ((Za.refl N0_ w).alloc _) id;have hK1:Za (fun k=>k=R) w (w.alloc (.cells #[.int .u64 0,.int .u64 0,.int .u64 0,.int .u64 0] 170)):=(Za.refl _ w).alloc _;have hr1:Sb (w.alloc (.cells #[.int .u64 0,.int .u64 0,.int .u64 0,.int .u64 0] 170)) w.heap.size (fun _=>0):=heap_alloc_new w _;have HE:Hid (Zm s p = .ok (one lo,some lo,q)):=he;clear h he hone;have HT:Hid (decide (bt s q=45/\bt s (q + 1)≠93)=true):=(by show _ = _; exact decide_eq_true hc);have HQ:Hid (bt s q=45):=hc.1;have hqlt:=Zt hc.1 (by decide);have hq1:q + 1<=s.size:=hqlt;clear hc;have HN:Hid (∀c,¬∀x,x < 256->S2 x=one c x):=by
  rcases Zc9 hend he2 with ⟨b,h1,_⟩ | ⟨_,h1⟩
  ·simp at h1
  ·exact h1
 have HE2:Hid (Zm s (q + 1) = .ok (S2,none,q2)):=he2;clear he2;go_enter Tryz.func145,Tryz.ntmps145;go_upto_region 2 with (go_at_call 156; refine (QS hR1 hs hp).mono ?_; rw [HE.out]; rintro e w2 ⟨f,hf,rfl,hR2,hk2⟩; replace hr1:=hr1.keeps hk2 (by omega); replace hk2:=hK1.trans hk2);obtain ⟨w3,hw⟩ :∃w3,w3=ZcJ w2 f:=⟨_,rfl⟩;have hS:Sb w3 w2.heap.size f:=hw ▸ ZaQ w2 f;have hk3:Za N0_ w2 w3:=hw ▸ QC w2 f
 delta ZcJ at hw
 rw [<- hw];clear hw;replace hr1:=hr1.keeps hk3 id;replace hR2:=hR2.keeps hk3 id;have hs2:=hk2.size;replace hk2:=hk2.trans hk3.none;clear hk3 hR1 hK1;generalize hF:w2.heap.size=F at hS hs2 ⊢;clear hF;have c0:=hS.cell (q:=0) (by omega); have c1:=hS.cell (q:=1) (by omega); have c2:=hS.cell (q:=2) (by omega); have c3:=hS.cell (q:=3) (by omega);go_upto_region 7 with (first
  | (go_at_call 157; refine (JS hf hlo).mono ?_; rintro e w4 ⟨rfl,hk3⟩; replace hr1:=hr1.keeps hk3 id; replace hS:=hS.keeps hk3 id; replace hR2:=hR2.keeps hk3 id; replace hk2:=hk2.trans hk3.none; clear hk3)
  | (go_at_call 158; refine (QF hR2 hs hqs HT.out).mono ?_; rintro e w5 ⟨rfl,n,hn⟩; have hk3:Za N0_ w4 w5:=(by rw [hn]; exact (Za.refl _ _).drewN _); clear hn; replace hr1:=hr1.keeps hk3 id; replace hS:=hS.keeps hk3 id; replace hR2:=hR2.keeps hk3 id; replace hk2:=hk2.trans hk3.none; clear hk3; skip)
  | (go_at_call 144; refine (JE hR2 hs hqs (b:=45) (by decide) HQ.out).mono ?_; clear hR2; rintro e w6 ⟨rfl,hR2,hk3⟩; replace hr1:=hr1.keeps hk3 (by omega); replace hS:=hS.keeps hk3 (by omega); replace hk2:=hk2.trans hk3; clear hk3; have g1:=hR2.c1)
  | (go_at_call 156; refine (QS hR2 hs hend).mono ?_; rw [HE2.out]; clear hR2; rintro e w7 ⟨f2,hf2,rfl,hR2,hk3⟩; replace hr1:=hr1.keeps hk3 (by omega); replace hS:=hS.keeps hk3 (by omega); replace hk2:=hk2.trans hk3; clear hk3))
 obtain ⟨w8,hw⟩ :∃w8,w8=ZcJ w7 f2:=⟨_,rfl⟩;have hT:Sb w8 w7.heap.size f2:=hw ▸ ZaQ w7 f2;have hk3:Za N0_ w7 w8:=hw ▸ QC w7 f2
 delta ZcJ at hw
 rw [<- hw];clear hw;replace hr1:=hr1.keeps hk3 id;replace hR2:=hR2.keeps hk3 id;replace hS:=hS.keeps hk3 id;have hs3:=hk2.size;replace hk2:=hk2.trans hk3.none;clear hk3 g1 c0 c1 c2 c3;generalize hG:w7.heap.size=G at hT hs3 ⊢;clear hG;have c0:=hS.cell (q:=0) (by omega); have c1:=hS.cell (q:=1) (by omega); have c2:=hS.cell (q:=2) (by omega); have c3:=hS.cell (q:=3) (by omega);have d0:=hT.cell (q:=0) (by omega); have d1:=hT.cell (q:=1) (by omega); have d2:=hT.cell (q:=2) (by omega); have d3:=hT.cell (q:=3) (by omega);go_region_with (first
  | (go_at_call 157; refine (Zod hf2 HN.out).mono ?_; rintro e w9 ⟨rfl,hk3⟩; (try replace hk3:=hkd hk3); replace hr1:=hr1.keeps hk3 id; replace hS:=hS.keeps hk3 id; replace hT:=hT.keeps hk3 id; replace hR2:=hR2.keeps hk3 id; replace hk2:=hk2.trans hk3.none; clear hk3; have c0:=hS.cell (q:=0) (by omega); have c1:=hS.cell (q:=1) (by omega); have c2:=hS.cell (q:=2) (by omega); have c3:=hS.cell (q:=3) (by omega); have d0:=hT.cell (q:=0) (by omega); have d1:=hT.cell (q:=1) (by omega); have d2:=hT.cell (q:=2) (by omega); have d3:=hT.cell (q:=3) (by omega)))
 all_goals (try go_wp2)
 all_goals exact ⟨rfl,rfl,hk2⟩
end Go.Proofs.YtfkflljplohhcaaGreatDoor
