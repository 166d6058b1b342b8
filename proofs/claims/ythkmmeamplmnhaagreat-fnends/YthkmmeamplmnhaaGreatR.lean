import Derived.Test.YthkmmeamplmnhaaGreatQ
namespace Go.Proofs.YthkmmeamplmnhaaGreat
open Go.RowKit
set_option linter.unusedVariables false
structure OneAt (a b c d:Int) (x:Nat):Prop where
 out :∃f:Nat→Nat,Bv (one x) f∧x < 256∧a=f 0∧b=f 1∧c=f 2∧d=f 3
theorem lowest_at {w:World} {a b c d:Int} {x:Nat} (h:OneAt a b c d x) :
  Calls Tryz.prog 156 #[.agg #[.int .u64 a,.int .u64 b,.int .u64 c,.int .u64 d]] w fun e w'=>e = .returned (.int .u8 x)∧Keeps (fun _=>False) w w':=by
 obtain ⟨f,hf,hx,rfl,rfl,rfl,rfl⟩:=h.out
 exact lowest_one hf hx
theorem isOne_at {w:World} {a b c d:Int} {x:Nat} (h:OneAt a b c d x) :
  Calls Tryz.prog 154 #[.agg #[.int .u64 a,.int .u64 b,.int .u64 c,.int .u64 d]] w fun e w'=>e = .returned (.bool true)∧Keeps (fun _=>False) w w':=by
 obtain ⟨f,hf,hx,rfl,rfl,rfl,rfl⟩:=h.out
 exact isOne_yes hf hx
set_option maxHeartbeats 1000000 in
set_option maxRecDepth 100000 in
theorem item_range_low {w:World} {R:Nat} {s:ByteArray} {p q lo q2 hi:Nat} {S S2:Bs} {g d:Int} (h:Rc w R s p g d) (hs:s.size≤120) (hp:p < s.size) (he:partRef s p = .ok (S,some lo,q)) (hc:bt s q=45∧bt s (q + 1)≠93) (hend:q + 1 < s.size) (he2:partRef s (q + 1) = .ok (S2,some hi,q2)) (hl:hi < lo) :
  Calls Tryz.prog 143 #[.pointer (some ⟨R,0,none⟩)] w (Faulted R (q + 1) w):=by
 have hne:=h.lt
 obtain ⟨hpq,hqs,hone⟩:=partRef_pos hp he
 obtain ⟨hlo,rfl⟩:=hone lo rfl
 have hR1:Rc (w.alloc (.cells #[.int .u64 0,.int .u64 0,.int .u64 0,.int .u64 0] 144)) R s p g d:=h.keeps ((Keeps.refl (fun _=>False) w).alloc _) (fun h=>h)
 have hK1:Keeps (fun k=>k=R) w (w.alloc (.cells #[.int .u64 0,.int .u64 0,.int .u64 0,.int .u64 0] 144)):=(Keeps.refl _ w).alloc _
 have hr1:Sb (w.alloc (.cells #[.int .u64 0,.int .u64 0,.int .u64 0,.int .u64 0] 144)) w.heap.size (fun _=>0):=heap_alloc_new w _
 have HE:Hid (partRef s p = .ok (one lo,some lo,q)):=he
 clear h he hone
 have HT:Hid (decide (bt s q=45∧bt s (q + 1)≠93)=true):=(by show _ = _; exact decide_eq_true hc)
 have HQ:Hid (bt s q=45):=hc.1
 have hqlt:=bt_some hc.1 (by decide)
 have hq1:q + 1≤s.size:=hqlt
 clear hc
 obtain ⟨hpq2,hqs2,hone2⟩:=partRef_pos hend he2
 obtain ⟨hhi,rfl⟩:=hone2 hi rfl
 have HE2:Hid (partRef s (q + 1) = .ok (one hi,some hi,q2)):=he2
 clear he2 hone2
 have hlz:(hi:Int) < (lo:Int):=by omega
 go_enter Tryz.func143,Tryz.ntmps143
 go_upto_region 2 with (go_at_call 153; refine (part_any hR1 hs hp).mono ?_; rw [HE.out]; rintro e w2 ⟨f,hf,rfl,hR2,hk2⟩; replace hr1:=hr1.keeps hk2 (by omega); replace hk2:=hK1.trans hk2)
 obtain ⟨w3,hw⟩ :∃w3,w3=new4 w2 f:=⟨_,rfl⟩
 have hS:Sb w3 w2.heap.size f:=hw ▸ sb_new w2 f
 have hk3:Keeps (fun _=>False) w2 w3:=hw ▸ keeps_new w2 f
 delta new4 at hw
 rw [← hw]
 clear hw
 replace hr1:=hr1.keeps hk3 (fun h=>h)
 replace hR2:=hR2.keeps hk3 (fun h=>h)
 have hs2:=hk2.size
 replace hk2:=hk2.trans hk3.none
 clear hk3 hR1 hK1
 generalize hF:w2.heap.size=F at hS hs2 ⊢
 clear hF
 have c0:=hS.cell (q:=0) (by omega); have c1:=hS.cell (q:=1) (by omega); have c2:=hS.cell (q:=2) (by omega); have c3:=hS.cell (q:=3) (by omega)
 go_upto_region 7 with (first
  | (go_at_call 154; refine (isOne_yes hf hlo).mono ?_; rintro e w4 ⟨rfl,hk3⟩; replace hr1:=hr1.keeps hk3 (fun h=>h); replace hS:=hS.keeps hk3 (fun h=>h); replace hR2:=hR2.keeps hk3 (fun h=>h); replace hk2:=hk2.trans hk3.none; clear hk3)
  | (go_at_call 155; refine (seesRange_any hR2 hs hqs HT.out).mono ?_; rintro e w5 ⟨rfl,n,hn⟩; have hk3:Keeps (fun _=>False) w4 w5:=(by rw [hn]; exact (Keeps.refl _ _).drewN _); clear hn; replace hr1:=hr1.keeps hk3 (fun h=>h); replace hS:=hS.keeps hk3 (fun h=>h); replace hR2:=hR2.keeps hk3 (fun h=>h); replace hk2:=hk2.trans hk3.none; clear hk3; skip)
  | (go_at_call 142; refine (need_yes hR2 hs hqs (b:=45) (by decide) HQ.out).mono ?_; clear hR2; rintro e w6 ⟨rfl,hR2,hk3⟩; replace hr1:=hr1.keeps hk3 (by omega); replace hS:=hS.keeps hk3 (by omega); replace hk2:=hk2.trans hk3; clear hk3; have g1:=hR2.c1)
  | (go_at_call 153; refine (part_any hR2 hs hend).mono ?_; rw [HE2.out]; clear hR2; rintro e w7 ⟨f2,hf2,rfl,hR2,hk3⟩; replace hr1:=hr1.keeps hk3 (by omega); replace hS:=hS.keeps hk3 (by omega); replace hk2:=hk2.trans hk3; clear hk3))
 obtain ⟨w8,hw⟩ :∃w8,w8=new4 w7 f2:=⟨_,rfl⟩
 have hT:Sb w8 w7.heap.size f2:=hw ▸ sb_new w7 f2
 have hk3:Keeps (fun _=>False) w7 w8:=hw ▸ keeps_new w7 f2
 delta new4 at hw
 rw [← hw]
 clear hw
 replace hr1:=hr1.keeps hk3 (fun h=>h)
 replace hR2:=hR2.keeps hk3 (fun h=>h)
 replace hS:=hS.keeps hk3 (fun h=>h)
 have hs3:=hk2.size
 replace hk2:=hk2.trans hk3.none
 clear hk3 g1 c0 c1 c2 c3
 generalize hG:w7.heap.size=G at hT hs3 ⊢
 clear hG
 have c0:=hS.cell (q:=0) (by omega); have c1:=hS.cell (q:=1) (by omega); have c2:=hS.cell (q:=2) (by omega); have c3:=hS.cell (q:=3) (by omega)
 have d0:=hT.cell (q:=0) (by omega); have d1:=hT.cell (q:=1) (by omega); have d2:=hT.cell (q:=2) (by omega); have d3:=hT.cell (q:=3) (by omega)
 have O1:OneAt (f 0) (f 1) (f 2) (f 3) lo:=⟨f,hf,hlo,rfl,rfl,rfl,rfl⟩
 have O2:OneAt (f2 0) (f2 1) (f2 2) (f2 3) hi:=⟨f2,hf2,hhi,rfl,rfl,rfl,rfl⟩
 go_region_with (first
  | (go_at_call 154; refine (isOne_at (by assumption)).mono ?_; rintro e w9 ⟨rfl,hk3⟩; (try replace hk3:=hkd hk3); replace hr1:=hr1.keeps hk3 (fun h=>h); replace hS:=hS.keeps hk3 (fun h=>h); replace hT:=hT.keeps hk3 (fun h=>h); replace hR2:=hR2.keeps hk3 (fun h=>h); replace hk2:=hk2.trans hk3.none; clear hk3; have c0:=hS.cell (q:=0) (by omega); have c1:=hS.cell (q:=1) (by omega); have c2:=hS.cell (q:=2) (by omega); have c3:=hS.cell (q:=3) (by omega); have d0:=hT.cell (q:=0) (by omega); have d1:=hT.cell (q:=1) (by omega); have d2:=hT.cell (q:=2) (by omega); have d3:=hT.cell (q:=3) (by omega))
  | (go_at_call 156; refine (lowest_at (by assumption)).mono ?_; rintro e w9 ⟨rfl,hk3⟩; (try replace hk3:=hkd hk3); replace hr1:=hr1.keeps hk3 (fun h=>h); replace hS:=hS.keeps hk3 (fun h=>h); replace hT:=hT.keeps hk3 (fun h=>h); replace hR2:=hR2.keeps hk3 (fun h=>h); replace hk2:=hk2.trans hk3.none; clear hk3; have c0:=hS.cell (q:=0) (by omega); have c1:=hS.cell (q:=1) (by omega); have c2:=hS.cell (q:=2) (by omega); have c3:=hS.cell (q:=3) (by omega); have d0:=hT.cell (q:=0) (by omega); have d1:=hT.cell (q:=1) (by omega); have d2:=hT.cell (q:=2) (by omega); have d3:=hT.cell (q:=3) (by omega)))
 all_goals (try go_wp2)
 all_goals exact ⟨rfl,rfl,hk2⟩
set_option maxHeartbeats 1000000 in
set_option maxRecDepth 100000 in
theorem item_range {w:World} {R:Nat} {s:ByteArray} {p q lo q2 hi:Nat} {S S2:Bs} {g d:Int} (h:Rc w R s p g d) (hs:s.size≤120) (hp:p < s.size) (he:partRef s p = .ok (S,some lo,q)) (hc:bt s q=45∧bt s (q + 1)≠93) (hend:q + 1 < s.size) (he2:partRef s (q + 1) = .ok (S2,some hi,q2)) (hl:¬ hi < lo) :
  Calls Tryz.prog 143 #[.pointer (some ⟨R,0,none⟩)] w (SetRead R s g d (rng lo hi) q2 w):=by
 have hne:=h.lt
 obtain ⟨hpq,hqs,hone⟩:=partRef_pos hp he
 obtain ⟨hlo,rfl⟩:=hone lo rfl
 have hR1:Rc (w.alloc (.cells #[.int .u64 0,.int .u64 0,.int .u64 0,.int .u64 0] 144)) R s p g d:=h.keeps ((Keeps.refl (fun _=>False) w).alloc _) (fun h=>h)
 have hK1:Keeps (fun k=>k=R) w (w.alloc (.cells #[.int .u64 0,.int .u64 0,.int .u64 0,.int .u64 0] 144)):=(Keeps.refl _ w).alloc _
 have hr1:Sb (w.alloc (.cells #[.int .u64 0,.int .u64 0,.int .u64 0,.int .u64 0] 144)) w.heap.size (fun _=>0):=heap_alloc_new w _
 have HE:Hid (partRef s p = .ok (one lo,some lo,q)):=he
 clear h he hone
 have HT:Hid (decide (bt s q=45∧bt s (q + 1)≠93)=true):=(by show _ = _; exact decide_eq_true hc)
 have HQ:Hid (bt s q=45):=hc.1
 have hqlt:=bt_some hc.1 (by decide)
 have hq1:q + 1≤s.size:=hqlt
 clear hc
 obtain ⟨hpq2,hqs2,hone2⟩:=partRef_pos hend he2
 obtain ⟨hhi,rfl⟩:=hone2 hi rfl
 have HE2:Hid (partRef s (q + 1) = .ok (one hi,some hi,q2)):=he2
 clear he2 hone2
 have hlz:(lo:Int)≤(hi:Int):=by omega
 go_enter Tryz.func143,Tryz.ntmps143
 go_upto_region 2 with (go_at_call 153; refine (part_any hR1 hs hp).mono ?_; rw [HE.out]; rintro e w2 ⟨f,hf,rfl,hR2,hk2⟩; replace hr1:=hr1.keeps hk2 (by omega); replace hk2:=hK1.trans hk2)
 obtain ⟨w3,hw⟩ :∃w3,w3=new4 w2 f:=⟨_,rfl⟩
 have hS:Sb w3 w2.heap.size f:=hw ▸ sb_new w2 f
 have hk3:Keeps (fun _=>False) w2 w3:=hw ▸ keeps_new w2 f
 delta new4 at hw
 rw [← hw]
 clear hw
 replace hr1:=hr1.keeps hk3 (fun h=>h)
 replace hR2:=hR2.keeps hk3 (fun h=>h)
 have hs2:=hk2.size
 replace hk2:=hk2.trans hk3.none
 clear hk3 hR1 hK1
 generalize hF:w2.heap.size=F at hS hs2 ⊢
 clear hF
 have c0:=hS.cell (q:=0) (by omega); have c1:=hS.cell (q:=1) (by omega); have c2:=hS.cell (q:=2) (by omega); have c3:=hS.cell (q:=3) (by omega)
 go_upto_region 7 with (first
  | (go_at_call 154; refine (isOne_yes hf hlo).mono ?_; rintro e w4 ⟨rfl,hk3⟩; replace hr1:=hr1.keeps hk3 (fun h=>h); replace hS:=hS.keeps hk3 (fun h=>h); replace hR2:=hR2.keeps hk3 (fun h=>h); replace hk2:=hk2.trans hk3.none; clear hk3)
  | (go_at_call 155; refine (seesRange_any hR2 hs hqs HT.out).mono ?_; rintro e w5 ⟨rfl,n,hn⟩; have hk3:Keeps (fun _=>False) w4 w5:=(by rw [hn]; exact (Keeps.refl _ _).drewN _); clear hn; replace hr1:=hr1.keeps hk3 (fun h=>h); replace hS:=hS.keeps hk3 (fun h=>h); replace hR2:=hR2.keeps hk3 (fun h=>h); replace hk2:=hk2.trans hk3.none; clear hk3; skip)
  | (go_at_call 142; refine (need_yes hR2 hs hqs (b:=45) (by decide) HQ.out).mono ?_; clear hR2; rintro e w6 ⟨rfl,hR2,hk3⟩; replace hr1:=hr1.keeps hk3 (by omega); replace hS:=hS.keeps hk3 (by omega); replace hk2:=hk2.trans hk3; clear hk3; have g1:=hR2.c1)
  | (go_at_call 153; refine (part_any hR2 hs hend).mono ?_; rw [HE2.out]; clear hR2; rintro e w7 ⟨f2,hf2,rfl,hR2,hk3⟩; replace hr1:=hr1.keeps hk3 (by omega); replace hS:=hS.keeps hk3 (by omega); replace hk2:=hk2.trans hk3; clear hk3))
 obtain ⟨w8,hw⟩ :∃w8,w8=new4 w7 f2:=⟨_,rfl⟩
 have hT:Sb w8 w7.heap.size f2:=hw ▸ sb_new w7 f2
 have hk3:Keeps (fun _=>False) w7 w8:=hw ▸ keeps_new w7 f2
 delta new4 at hw
 rw [← hw]
 clear hw
 replace hr1:=hr1.keeps hk3 (fun h=>h)
 replace hR2:=hR2.keeps hk3 (fun h=>h)
 replace hS:=hS.keeps hk3 (fun h=>h)
 have hs3:=hk2.size
 replace hk2:=hk2.trans hk3.none
 clear hk3 g1 c0 c1 c2 c3
 generalize hG:w7.heap.size=G at hT hs3 ⊢
 clear hG
 have c0:=hS.cell (q:=0) (by omega); have c1:=hS.cell (q:=1) (by omega); have c2:=hS.cell (q:=2) (by omega); have c3:=hS.cell (q:=3) (by omega)
 have d0:=hT.cell (q:=0) (by omega); have d1:=hT.cell (q:=1) (by omega); have d2:=hT.cell (q:=2) (by omega); have d3:=hT.cell (q:=3) (by omega)
 have O1:OneAt (f 0) (f 1) (f 2) (f 3) lo:=⟨f,hf,hlo,rfl,rfl,rfl,rfl⟩
 have O2:OneAt (f2 0) (f2 1) (f2 2) (f2 3) hi:=⟨f2,hf2,hhi,rfl,rfl,rfl,rfl⟩
 clear c0 c1 c2 c3 d0 d1 d2 d3
 go_cut [37] from 6 (fun t37 wc=>t37 = .bool false∧Rc wc R s (q2:Nat) g d∧Sb wc w.heap.size (fun _=>0)∧Sb wc F f∧Sb wc G f2∧Keeps (fun k=>k=R) w wc)
 case first =>
  have c0:=hS.cell (q:=0) (by omega); have c1:=hS.cell (q:=1) (by omega); have c2:=hS.cell (q:=2) (by omega); have c3:=hS.cell (q:=3) (by omega)
  have d0:=hT.cell (q:=0) (by omega); have d1:=hT.cell (q:=1) (by omega); have d2:=hT.cell (q:=2) (by omega); have d3:=hT.cell (q:=3) (by omega)
  go_region_with (first
  | (go_at_call 154; refine (isOne_at (by assumption)).mono ?_; rintro e w9 ⟨rfl,hk3⟩; (try replace hk3:=hkd hk3); replace hr1:=hr1.keeps hk3 (fun h=>h); replace hS:=hS.keeps hk3 (fun h=>h); replace hT:=hT.keeps hk3 (fun h=>h); replace hR2:=hR2.keeps hk3 (fun h=>h); replace hk2:=hk2.trans hk3.none; clear hk3; have c0:=hS.cell (q:=0) (by omega); have c1:=hS.cell (q:=1) (by omega); have c2:=hS.cell (q:=2) (by omega); have c3:=hS.cell (q:=3) (by omega); have d0:=hT.cell (q:=0) (by omega); have d1:=hT.cell (q:=1) (by omega); have d2:=hT.cell (q:=2) (by omega); have d3:=hT.cell (q:=3) (by omega))
  | (go_at_call 156; refine (lowest_at (by assumption)).mono ?_; rintro e w9 ⟨rfl,hk3⟩; (try replace hk3:=hkd hk3); replace hr1:=hr1.keeps hk3 (fun h=>h); replace hS:=hS.keeps hk3 (fun h=>h); replace hT:=hT.keeps hk3 (fun h=>h); replace hR2:=hR2.keeps hk3 (fun h=>h); replace hk2:=hk2.trans hk3.none; clear hk3; have c0:=hS.cell (q:=0) (by omega); have c1:=hS.cell (q:=1) (by omega); have c2:=hS.cell (q:=2) (by omega); have c3:=hS.cell (q:=3) (by omega); have d0:=hT.cell (q:=0) (by omega); have d1:=hT.cell (q:=1) (by omega); have d2:=hT.cell (q:=2) (by omega); have d3:=hT.cell (q:=3) (by omega)))
  all_goals (go_wp2_with fail; go_meet; exact ⟨rfl,hR2,hr1,hS,hT,hk2⟩)
 case rest =>
  clear hR2 hr1 hS hT hk2
  obtain ⟨rfl,hR2,hr1,hS,hT,hk2⟩:=hcut
  have c0:=hS.cell (q:=0) (by omega); have c1:=hS.cell (q:=1) (by omega); have c2:=hS.cell (q:=2) (by omega); have c3:=hS.cell (q:=3) (by omega)
  have d0:=hT.cell (q:=0) (by omega); have d1:=hT.cell (q:=1) (by omega); have d2:=hT.cell (q:=2) (by omega); have d3:=hT.cell (q:=3) (by omega)
  go_wp2_with fail
  go_region_with (first
  | (go_at_call 154; refine (isOne_at (by assumption)).mono ?_; rintro e w9 ⟨rfl,hk3⟩; (try replace hk3:=hkd hk3); replace hr1:=hr1.keeps hk3 (fun h=>h); replace hS:=hS.keeps hk3 (fun h=>h); replace hT:=hT.keeps hk3 (fun h=>h); replace hR2:=hR2.keeps hk3 (fun h=>h); replace hk2:=hk2.trans hk3.none; clear hk3; have c0:=hS.cell (q:=0) (by omega); have c1:=hS.cell (q:=1) (by omega); have c2:=hS.cell (q:=2) (by omega); have c3:=hS.cell (q:=3) (by omega); have d0:=hT.cell (q:=0) (by omega); have d1:=hT.cell (q:=1) (by omega); have d2:=hT.cell (q:=2) (by omega); have d3:=hT.cell (q:=3) (by omega))
  | (go_at_call 156; refine (lowest_at (by assumption)).mono ?_; rintro e w9 ⟨rfl,hk3⟩; (try replace hk3:=hkd hk3); replace hr1:=hr1.keeps hk3 (fun h=>h); replace hS:=hS.keeps hk3 (fun h=>h); replace hT:=hT.keeps hk3 (fun h=>h); replace hR2:=hR2.keeps hk3 (fun h=>h); replace hk2:=hk2.trans hk3.none; clear hk3; have c0:=hS.cell (q:=0) (by omega); have c1:=hS.cell (q:=1) (by omega); have c2:=hS.cell (q:=2) (by omega); have c3:=hS.cell (q:=3) (by omega); have d0:=hT.cell (q:=0) (by omega); have d1:=hT.cell (q:=1) (by omega); have d2:=hT.cell (q:=2) (by omega); have d3:=hT.cell (q:=3) (by omega))
    | (go_at_call 145; refine (span_any lo hi hlo hhi).mono ?_; rintro e w9 ⟨f3,hf3,rfl,hk3⟩; (try replace hk3:=hkd hk3); replace hr1:=hr1.keeps hk3 (fun h=>h); replace hS:=hS.keeps hk3 (fun h=>h); replace hT:=hT.keeps hk3 (fun h=>h); replace hR2:=hR2.keeps hk3 (fun h=>h); replace hk2:=hk2.trans hk3.none; clear hk3; have c0:=hS.cell (q:=0) (by omega); have c1:=hS.cell (q:=1) (by omega); have c2:=hS.cell (q:=2) (by omega); have c3:=hS.cell (q:=3) (by omega); have d0:=hT.cell (q:=0) (by omega); have d1:=hT.cell (q:=1) (by omega); have d2:=hT.cell (q:=2) (by omega); have d3:=hT.cell (q:=3) (by omega); have e0:=hr1.cell (q:=0) (by omega); have e1:=hr1.cell (q:=1) (by omega); have e2:=hr1.cell (q:=2) (by omega); have e3:=hr1.cell (q:=3) (by omega); have ef:=hr1.fz))
  all_goals (try go_wp2)
  all_goals refine bodyPost_ret (v:=.agg #[.int .u64 (f3 0),.int .u64 (f3 1),.int .u64 (f3 2),.int .u64 (f3 3)]) (by simp [results,Tryz.results143,go_sem,e0,e1,e2,e3]) rfl ?_
  all_goals exact ⟨f3,hf3,rfl,hR2.set4 (by omega),hk2.set4 (by omega)⟩
end Go.Proofs.YthkmmeamplmnhaaGreat
