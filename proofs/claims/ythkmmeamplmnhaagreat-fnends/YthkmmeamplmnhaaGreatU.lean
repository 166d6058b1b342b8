import Derived.Test.YthkmmeamplmnhaaGreatT
set_option maxHeartbeats 1000000
set_option maxRecDepth 100000
namespace Go.Proofs.YthkmmeamplmnhaaGreat
open Go.RowKit
set_option linter.unusedVariables false
section
variable {w:World} {R:Nat} {s:ByteArray} {p q n x:Nat} {g d least:Int}
theorem inum_err (h:Rc w R s p g d) (hs:s.size≤120) (hp:p≤s.size) (he:numRef s p = .error x) :
  Calls Tryz.prog 152 #[.pointer (some ⟨R,0,none⟩),.int .i64 least] w (Faulted R x w) :=
 (inumber_any h hs hp).mono fun e w' hn=>by unfold INum at hn; rw [he] at hn; exact hn
theorem inum_bad (h:Rc w R s p g d) (hs:s.size≤120) (hp:p≤s.size) (he:numRef s p = .ok (n,q)) (hb:q=p∨(n:Int) < least) :
  Calls Tryz.prog 152 #[.pointer (some ⟨R,0,none⟩),.int .i64 least] w (Faulted R p w) :=
 (inumber_any h hs hp).mono fun e w' hn=>by unfold INum at hn; rw [he] at hn; dsimp only at hn; rw [if_pos hb] at hn; exact hn
theorem inum_good (h:Rc w R s p g d) (hs:s.size≤120) (hp:p≤s.size) (he:numRef s p = .ok (n,q)) (hb:¬ (q=p∨(n:Int) < least)) :
  Calls Tryz.prog 152 #[.pointer (some ⟨R,0,none⟩),.int .i64 least] w fun e w'=>e = .returned (.int .i64 n)∧Rc w' R s q g d∧Keeps (fun k=>k=R) w w' :=
 (inumber_any h hs hp).mono fun e w' hn=>by unfold INum at hn; rw [he] at hn; dsimp only at hn; rw [if_neg hb] at hn; exact hn
end
def ICntPost (R:Nat) (s:ByteArray) (g d:Int) (r:Except Nat (Int×Int×Nat)) (w:World) (e:Ending) (w':World):Prop :=
 match r with
 | .error x=>Faulted R x w e w'
 | .ok (lo,hi,q)=>e = .returned (.tuple #[.int .i64 lo,.int .i64 hi])∧Rc w' R s q g d∧Keeps (fun k=>k=R) w w'
theorem cntPost_err {R:Nat} {s:ByteArray} {g d:Int} {r:Except Nat (Int×Int×Nat)} {x:Nat} {w:World} {e:Ending} {w':World} (hr:r = .error x) (h:Faulted R x w e w'):ICntPost R s g d r w e w':=by
 subst hr; exact h
theorem cntPost_ok {R:Nat} {s:ByteArray} {g d:Int} {r:Except Nat (Int×Int×Nat)} {lo hi:Int} {q:Nat} {w w':World} (hr:r = .ok (lo,hi,q)) (hR:Rc w' R s q g d) (hK:Keeps (fun k=>k=R) w w'):ICntPost R s g d r w (.returned (.tuple #[.int .i64 lo,.int .i64 hi])) w':=by
 subst hr; exact ⟨rfl,hR,hK⟩
theorem braces_any {w:World} {R:Nat} {s:ByteArray} {p:Nat} {g d:Int} (h:Rc w R s p g d) (hs:s.size≤120) (hp:p≤s.size) :
  Calls Tryz.prog 141 #[.pointer (some ⟨R,0,none⟩)] w (ICntPost R s g d (countsRef s p) w):=by
 cases h1:numRef s p with
 | error x =>
   have HR:Hid (countsRef s p = .error x):=(by show _ = _; simp [countsRef,h1])
   have H1:Hid (numRef s p = .error x):=h1
   clear h1
   go_enter Tryz.func141,Tryz.ntmps141
   go_wp2_with (first
    | (go_at_call 152; refine (inum_err h hs hp H1.out).mono ?_; rintro e w2 ⟨rfl,hk2⟩))
   exact ⟨rfl,cntPost_err HR.out ⟨rfl,hk2⟩⟩
 | ok v =>
   obtain ⟨lo,q⟩:=v
   obtain ⟨hpq,hqs,hlo⟩:=numRef_pos hp h1
   have H1:Hid (numRef s p = .ok (lo,q)):=h1
   by_cases hqp:q=p
   ·have HR:Hid (countsRef s p = .error p):=(by show _ = _; simp [countsRef,h1,hqp])
    have HQ:Hid (q=p∨(lo:Int) < 0):=Or.inl hqp
    clear h1 hqp
    go_enter Tryz.func141,Tryz.ntmps141
    go_wp2_with (first
     | (go_at_call 152; refine (inum_bad h hs hp H1.out HQ.out).mono ?_; rintro e w2 ⟨rfl,hk2⟩))
    exact ⟨rfl,cntPost_err HR.out ⟨rfl,hk2⟩⟩
   ·have HQ:Hid (¬ (q=p∨(lo:Int) < 0)):=(by show ¬ _; omega)
    by_cases hc:bt s q=44
    ·have HC:Hid (bt s q=44):=hc
     have hqlt:=bt_some hc (by decide)
     have hq1:q + 1≤s.size:=hqlt
     by_cases hb:bt s (q + 1)=125
     ·have h2:numRef s (q + 1) = .ok (0,q + 1):=by
       unfold numRef; rw [inumLoop_done (by rw [hb]; decide)]
      have HR:Hid (countsRef s p = .ok ((lo:Int),-1,q + 1 + 1)):=(by show _ = _; simp [countsRef,h1,hqp,hc,h2,hb])
      have HB:Hid (bt s (q + 1)=125):=hb
      have HT:Hid (decide (bt s (q + 1)=125)=true):=(by show _ = _; simp [hb])
      clear h1 hqp hc hb h2
      go_enter Tryz.func141,Tryz.ntmps141
      go_wp2_with (first
       | (go_at_call 152; refine (inum_good h hs hp H1.out HQ.out).mono ?_; clear h; rintro e w2 ⟨rfl,hR,hK⟩)
       | (go_at_call 79; refine (take_yes hR hs hqs (b:=44) (by decide) HC.out).mono ?_; clear hR; rintro e w3 ⟨rfl,hR,hk2⟩; replace hK:=hK.trans hk2; clear hk2)
       | (go_at_call 90; refine (sees_is hR hs hq1 (b:=125) (by decide) HT.out).mono ?_; rintro e w4 ⟨rfl,n,hn⟩; have hk2:Keeps (fun _=>False) w3 w4:=(by rw [hn]; exact (Keeps.refl _ _).drewN _); clear hn; replace hR:=hR.keeps hk2 (fun h=>h); replace hK:=hK.trans hk2.none; clear hk2)
       | (go_at_call 142; refine (need_yes hR hs hq1 (b:=125) (by decide) HB.out).mono ?_; clear hR; rintro e w5 ⟨rfl,hR,hk2⟩; replace hK:=hK.trans hk2; clear hk2))
      go_ret2
      exact cntPost_ok HR.out hR hK
     ·have HT:Hid (decide (bt s (q + 1)=125)=false):=(by show _ = _; simp [hb])
      cases h2:numRef s (q + 1) with
      | error x =>
        have HR:Hid (countsRef s p = .error x):=(by show _ = _; simp [countsRef,h1,hqp,hc,h2])
        have H2:Hid (numRef s (q + 1) = .error x):=h2
        clear h1 hqp hc hb h2
        go_enter Tryz.func141,Tryz.ntmps141
        go_wp2_with (first
         | (go_at_call_of 152 (Value.int .i64 0); refine (inum_good h hs hp H1.out HQ.out).mono ?_; clear h; rintro e w2 ⟨rfl,hR,hK⟩)
         | (go_at_call 79; refine (take_yes hR hs hqs (b:=44) (by decide) HC.out).mono ?_; clear hR; rintro e w3 ⟨rfl,hR,hk2⟩; replace hK:=hK.trans hk2; clear hk2)
         | (go_at_call 90; refine (sees_is hR hs hq1 (b:=125) (by decide) HT.out).mono ?_; rintro e w4 ⟨rfl,n,hn⟩; have hk2:Keeps (fun _=>False) w3 w4:=(by rw [hn]; exact (Keeps.refl _ _).drewN _); clear hn; replace hR:=hR.keeps hk2 (fun h=>h); replace hK:=hK.trans hk2.none; clear hk2)
         | (go_at_call 152; refine (inum_err hR hs hq1 H2.out).mono ?_; rintro e w5 ⟨rfl,hk2⟩))
        exact ⟨rfl,cntPost_err HR.out ⟨rfl,hK.trans hk2⟩⟩
      | ok v =>
        obtain ⟨hi,q2⟩:=v
        obtain ⟨hpq2,hqs2,hhi⟩:=numRef_pos hq1 h2
        have H2:Hid (numRef s (q + 1) = .ok (hi,q2)):=h2
        by_cases hbad:q2=q + 1∨(hi:Int) < (lo:Int)
        ·have HR:Hid (countsRef s p = .error (q + 1)):=by
          show _ = _
          simp only [countsRef,h1,hqp,hc,h2]
          rw [if_neg (by simp),if_pos trivial]
          by_cases e:q2=q + 1
          ·subst e; simp [hb]
          ·have hl:hi < lo:=by omega
           simp [e,hl]
         have HBad:Hid (q2=q + 1∨(hi:Int) < (lo:Int)):=hbad
         clear h1 hqp hc hb h2 hbad
         go_enter Tryz.func141,Tryz.ntmps141
         go_wp2_with (first
          | (go_at_call_of 152 (Value.int .i64 0); refine (inum_good h hs hp H1.out HQ.out).mono ?_; clear h; rintro e w2 ⟨rfl,hR,hK⟩)
          | (go_at_call 79; refine (take_yes hR hs hqs (b:=44) (by decide) HC.out).mono ?_; clear hR; rintro e w3 ⟨rfl,hR,hk2⟩; replace hK:=hK.trans hk2; clear hk2)
          | (go_at_call 90; refine (sees_is hR hs hq1 (b:=125) (by decide) HT.out).mono ?_; rintro e w4 ⟨rfl,n,hn⟩; have hk2:Keeps (fun _=>False) w3 w4:=(by rw [hn]; exact (Keeps.refl _ _).drewN _); clear hn; replace hR:=hR.keeps hk2 (fun h=>h); replace hK:=hK.trans hk2.none; clear hk2)
          | (go_at_call 152; refine (inum_bad hR hs hq1 H2.out HBad.out).mono ?_; rintro e w5 ⟨rfl,hk2⟩))
         exact ⟨rfl,cntPost_err HR.out ⟨rfl,hK.trans hk2⟩⟩
        ·have HBad:Hid (¬ (q2=q + 1∨(hi:Int) < (lo:Int))):=hbad
         have hn1:¬ q2=q + 1:=by omega
         have hn2:¬ hi < lo:=by omega
         by_cases hb2:bt s q2=125
         ·have HR:Hid (countsRef s p = .ok ((lo:Int),(hi:Int),q2 + 1)):=(by show _ = _; simp [countsRef,h1,hqp,hc,h2,hn1,hn2,hb2])
          have HB2:Hid (bt s q2=125):=hb2
          clear h1 hqp hc hb h2 hbad hn1 hn2 hb2
          go_enter Tryz.func141,Tryz.ntmps141
          go_wp2_with (first
           | (go_at_call_of 152 (Value.int .i64 0); refine (inum_good h hs hp H1.out HQ.out).mono ?_; clear h; rintro e w2 ⟨rfl,hR,hK⟩)
           | (go_at_call 79; refine (take_yes hR hs hqs (b:=44) (by decide) HC.out).mono ?_; clear hR; rintro e w3 ⟨rfl,hR,hk2⟩; replace hK:=hK.trans hk2; clear hk2)
           | (go_at_call 90; refine (sees_is hR hs hq1 (b:=125) (by decide) HT.out).mono ?_; rintro e w4 ⟨rfl,n,hn⟩; have hk2:Keeps (fun _=>False) w3 w4:=(by rw [hn]; exact (Keeps.refl _ _).drewN _); clear hn; replace hR:=hR.keeps hk2 (fun h=>h); replace hK:=hK.trans hk2.none; clear hk2)
           | (go_at_call 152; refine (inum_good hR hs hq1 H2.out HBad.out).mono ?_; clear hR; rintro e w5 ⟨rfl,hR,hk2⟩; replace hK:=hK.trans hk2; clear hk2)
           | (go_at_call 142; refine (need_yes hR hs hqs2 (b:=125) (by decide) HB2.out).mono ?_; clear hR; rintro e w6 ⟨rfl,hR,hk2⟩; replace hK:=hK.trans hk2; clear hk2))
          go_ret2
          exact cntPost_ok HR.out hR hK
         ·have HR:Hid (countsRef s p = .error q2):=(by show _ = _; simp [countsRef,h1,hqp,hc,h2,hn1,hn2,hb2])
          have HB2:Hid (bt s q2≠125):=hb2
          clear h1 hqp hc hb h2 hbad hn1 hn2 hb2
          go_enter Tryz.func141,Tryz.ntmps141
          go_wp2_with (first
           | (go_at_call_of 152 (Value.int .i64 0); refine (inum_good h hs hp H1.out HQ.out).mono ?_; clear h; rintro e w2 ⟨rfl,hR,hK⟩)
           | (go_at_call 79; refine (take_yes hR hs hqs (b:=44) (by decide) HC.out).mono ?_; clear hR; rintro e w3 ⟨rfl,hR,hk2⟩; replace hK:=hK.trans hk2; clear hk2)
           | (go_at_call 90; refine (sees_is hR hs hq1 (b:=125) (by decide) HT.out).mono ?_; rintro e w4 ⟨rfl,n,hn⟩; have hk2:Keeps (fun _=>False) w3 w4:=(by rw [hn]; exact (Keeps.refl _ _).drewN _); clear hn; replace hR:=hR.keeps hk2 (fun h=>h); replace hK:=hK.trans hk2.none; clear hk2)
           | (go_at_call 152; refine (inum_good hR hs hq1 H2.out HBad.out).mono ?_; clear hR; rintro e w5 ⟨rfl,hR,hk2⟩; replace hK:=hK.trans hk2; clear hk2)
           | (go_at_call 142; refine (need_bad hR hs hqs2 (b:=125) (by decide) HB2.out).mono ?_; rintro e w6 ⟨rfl,n,hn⟩; have hk2:Keeps (fun _=>False) w5 w6:=(by rw [hn]; exact (Keeps.refl _ _).drewN _); clear hn; replace hK:=hK.trans hk2.none; clear hk2))
          exact ⟨rfl,cntPost_err HR.out ⟨rfl,hK⟩⟩
    ·have HC:Hid (bt s q≠44):=hc
     by_cases hb:bt s q=125
     ·have HR:Hid (countsRef s p = .ok ((lo:Int),(lo:Int),q + 1)):=(by show _ = _; simp [countsRef,h1,hqp,hb])
      have HB:Hid (bt s q=125):=hb
      clear h1 hqp hc hb
      go_enter Tryz.func141,Tryz.ntmps141
      go_wp2_with (first
       | (go_at_call 152; refine (inum_good h hs hp H1.out HQ.out).mono ?_; clear h; rintro e w2 ⟨rfl,hR,hK⟩)
       | (go_at_call 79; refine (take_no hR hs hqs (b:=44) (by decide) HC.out).mono ?_; rintro e w3 ⟨rfl,n,hn⟩; have hk2:Keeps (fun _=>False) w2 w3:=(by rw [hn]; exact (Keeps.refl _ _).drewN _); clear hn; replace hR:=hR.keeps hk2 (fun h=>h); replace hK:=hK.trans hk2.none; clear hk2)
       | (go_at_call 142; refine (need_yes hR hs hqs (b:=125) (by decide) HB.out).mono ?_; clear hR; rintro e w5 ⟨rfl,hR,hk2⟩; replace hK:=hK.trans hk2; clear hk2))
      go_ret2
      exact cntPost_ok HR.out hR hK
     ·have HR:Hid (countsRef s p = .error q):=(by show _ = _; simp [countsRef,h1,hqp,hc,hb])
      have HB:Hid (bt s q≠125):=hb
      clear h1 hqp hc hb
      go_enter Tryz.func141,Tryz.ntmps141
      go_wp2_with (first
       | (go_at_call 152; refine (inum_good h hs hp H1.out HQ.out).mono ?_; clear h; rintro e w2 ⟨rfl,hR,hK⟩)
       | (go_at_call 79; refine (take_no hR hs hqs (b:=44) (by decide) HC.out).mono ?_; rintro e w3 ⟨rfl,n,hn⟩; have hk2:Keeps (fun _=>False) w2 w3:=(by rw [hn]; exact (Keeps.refl _ _).drewN _); clear hn; replace hR:=hR.keeps hk2 (fun h=>h); replace hK:=hK.trans hk2.none; clear hk2)
       | (go_at_call 142; refine (need_bad hR hs hqs (b:=125) (by decide) HB.out).mono ?_; rintro e w6 ⟨rfl,n,hn⟩; have hk2:Keeps (fun _=>False) w3 w6:=(by rw [hn]; exact (Keeps.refl _ _).drewN _); clear hn; replace hK:=hK.trans hk2.none; clear hk2))
      exact ⟨rfl,cntPost_err HR.out ⟨rfl,hK⟩⟩
def CntsPost (R:Nat) (s:ByteArray) (g d:Int) (r:Except Nat (Option (Int×Int)×Nat)) (w:World) (e:Ending) (w':World):Prop :=
 match r with
 | .error x=>Faulted R x w e w'
 | .ok (none,q)=>e = .returned (.tuple #[.int .i64 0,.int .i64 0,.bool false])∧Rc w' R s q g d∧Keeps (fun k=>k=R) w w'
 | .ok (some (lo,hi),q)=>e = .returned (.tuple #[.int .i64 lo,.int .i64 hi,.bool true])∧Rc w' R s q g d∧Keeps (fun k=>k=R) w w'
theorem cntsPost_err {R:Nat} {s:ByteArray} {g d:Int} {r:Except Nat (Option (Int×Int)×Nat)} {x:Nat} {w:World} {e:Ending} {w':World} (hr:r = .error x) (h:Faulted R x w e w'):CntsPost R s g d r w e w':=by
 subst hr; exact h
theorem cntsPost_none {R:Nat} {s:ByteArray} {g d:Int} {r:Except Nat (Option (Int×Int)×Nat)} {q:Nat} {w w':World} (hr:r = .ok (none,q)) (hR:Rc w' R s q g d) (hK:Keeps (fun k=>k=R) w w'):CntsPost R s g d r w (.returned (.tuple #[.int .i64 0,.int .i64 0,.bool false])) w':=by
 subst hr; exact ⟨rfl,hR,hK⟩
theorem cntsPost_some {R:Nat} {s:ByteArray} {g d:Int} {r:Except Nat (Option (Int×Int)×Nat)} {lo hi:Int} {q:Nat} {w w':World} (hr:r = .ok (some (lo,hi),q)) (hR:Rc w' R s q g d) (hK:Keeps (fun k=>k=R) w w'):CntsPost R s g d r w (.returned (.tuple #[.int .i64 lo,.int .i64 hi,.bool true])) w':=by
 subst hr; exact ⟨rfl,hR,hK⟩
theorem drewN_keeps {w w':World} {n:Nat} (h:w'=w.drewN n):Keeps (fun _=>False) w w':=by subst h; exact (Keeps.refl _ _).drewN _
theorem take_is {w:World} {R:Nat} {s:ByteArray} {p b:Nat} {g d:Int} (h:Rc w R s p g d) (hs:s.size≤120) (hp:p≤s.size) (hlt:b < 256) (hb:bt s p≠b) :
  Calls Tryz.prog 79 #[.pointer (some ⟨R,0,none⟩),.int .u8 b] w fun e w'=>e = .returned (.bool false)∧Rc w' R s p g d∧Keeps (fun k=>k=R) w w' :=
 (take_no h hs hp hlt hb).mono fun e w' ⟨h1,n,hn⟩=>⟨h1,h.keeps (drewN_keeps hn) (fun h=>h),(drewN_keeps hn).none⟩
theorem counts_42 {w:World} {R:Nat} {s:ByteArray} {q:Nat} {g d:Int} (hR:Rc w R s q g d) (hs:s.size≤120) (hq:q≤s.size) (hb:bt s q=42) :
  Calls Tryz.prog 124 #[.pointer (some ⟨R,0,none⟩)] w (CntsPost R s g d (cntRef s q) w):=by
 have HR:Hid (cntRef s q = .ok (some ((0:Int),(-1:Int)),q + 1)):=(by show _ = _; simp [cntRef,hb])
 have HB:Hid (bt s q=42):=hb
 clear hb
 have hK:=Keeps.refl (fun k=>k=R) w
 go_enter Tryz.func124,Tryz.ntmps124
 go_wp2_with (first
  | (go_at_call_of 79 (Value.int .u8 42); refine (take_yes hR hs hq (b:=42) (by decide) HB.out).mono ?_; clear hR; rintro e w2 ⟨rfl,hR,hk2⟩; replace hK:=hK.trans hk2; clear hk2))
 refine bodyPost_ret (v:=.tuple #[.int .i64 0,.int .i64 (-1),.bool true]) (by simp [results,Tryz.results124,go_sem]) rfl ?_
 exact cntsPost_some HR.out hR hK
theorem counts_43 {w:World} {R:Nat} {s:ByteArray} {q:Nat} {g d:Int} (hR:Rc w R s q g d) (hs:s.size≤120) (hq:q≤s.size) (n42:bt s q≠42) (hb:bt s q=43) :
  Calls Tryz.prog 124 #[.pointer (some ⟨R,0,none⟩)] w (CntsPost R s g d (cntRef s q) w):=by
 have HR:Hid (cntRef s q = .ok (some ((1:Int),(-1:Int)),q + 1)):=(by show _ = _; simp [cntRef,hb])
 have N42:Hid (bt s q≠42):=n42
 have HB:Hid (bt s q=43):=hb
 clear n42 hb
 have hK:=Keeps.refl (fun k=>k=R) w
 go_enter Tryz.func124,Tryz.ntmps124
 go_wp2_with (first
  | (go_at_call_of 79 (Value.int .u8 42); refine (take_is hR hs hq (b:=42) (by decide) N42.out).mono ?_; clear hR; rintro e w2 ⟨rfl,hR,hk2⟩; replace hK:=hK.trans hk2; clear hk2)
  | (go_at_call_of 79 (Value.int .u8 43); refine (take_yes hR hs hq (b:=43) (by decide) HB.out).mono ?_; clear hR; rintro e w3 ⟨rfl,hR,hk2⟩; replace hK:=hK.trans hk2; clear hk2))
 refine bodyPost_ret (v:=.tuple #[.int .i64 1,.int .i64 (-1),.bool true]) (by simp [results,Tryz.results124,go_sem]) rfl ?_
 exact cntsPost_some HR.out hR hK
theorem counts_63 {w:World} {R:Nat} {s:ByteArray} {q:Nat} {g d:Int} (hR:Rc w R s q g d) (hs:s.size≤120) (hq:q≤s.size) (n42:bt s q≠42) (n43:bt s q≠43) (hb:bt s q=63) :
  Calls Tryz.prog 124 #[.pointer (some ⟨R,0,none⟩)] w (CntsPost R s g d (cntRef s q) w):=by
 have HR:Hid (cntRef s q = .ok (some ((0:Int),(1:Int)),q + 1)):=(by show _ = _; simp [cntRef,hb])
 have N42:Hid (bt s q≠42):=n42
 have N43:Hid (bt s q≠43):=n43
 have HB:Hid (bt s q=63):=hb
 clear n42 n43 hb
 have hK:=Keeps.refl (fun k=>k=R) w
 go_enter Tryz.func124,Tryz.ntmps124
 go_wp2_with (first
  | (go_at_call_of 79 (Value.int .u8 42); refine (take_is hR hs hq (b:=42) (by decide) N42.out).mono ?_; clear hR; rintro e w2 ⟨rfl,hR,hk2⟩; replace hK:=hK.trans hk2; clear hk2)
  | (go_at_call_of 79 (Value.int .u8 43); refine (take_is hR hs hq (b:=43) (by decide) N43.out).mono ?_; clear hR; rintro e w3 ⟨rfl,hR,hk2⟩; replace hK:=hK.trans hk2; clear hk2)
  | (go_at_call_of 79 (Value.int .u8 63); refine (take_yes hR hs hq (b:=63) (by decide) HB.out).mono ?_; clear hR; rintro e w4 ⟨rfl,hR,hk2⟩; replace hK:=hK.trans hk2; clear hk2))
 refine bodyPost_ret (v:=.tuple #[.int .i64 0,.int .i64 1,.bool true]) (by simp [results,Tryz.results124,go_sem]) rfl ?_
 exact cntsPost_some HR.out hR hK
theorem counts_123 {w:World} {R:Nat} {s:ByteArray} {q:Nat} {g d:Int} (hR:Rc w R s q g d) (hs:s.size≤120) (hq:q≤s.size) (n42:bt s q≠42) (n43:bt s q≠43) (n63:bt s q≠63) (hb:bt s q=123) :
  Calls Tryz.prog 124 #[.pointer (some ⟨R,0,none⟩)] w (CntsPost R s g d (cntRef s q) w):=by
 have N42:Hid (bt s q≠42):=n42
 have N43:Hid (bt s q≠43):=n43
 have N63:Hid (bt s q≠63):=n63
 have HB:Hid (bt s q=123):=hb
 have hlt:=bt_some hb (by decide)
 have hq1:q + 1≤s.size:=hlt
 have hK:=Keeps.refl (fun k=>k=R) w
 cases hc:countsRef s (q + 1) with
 | error x =>
   have HR:Hid (cntRef s q = .error x):=(by show _ = _; simp [cntRef,hb,hc])
   have HC:Hid (countsRef s (q + 1) = .error x):=hc
   clear hc n42 n43 n63 hb
   go_enter Tryz.func124,Tryz.ntmps124
   go_wp2_with (first
    | (go_at_call_of 79 (Value.int .u8 42); refine (take_is hR hs hq (b:=42) (by decide) N42.out).mono ?_; clear hR; rintro e w2 ⟨rfl,hR,hk2⟩; replace hK:=hK.trans hk2; clear hk2)
    | (go_at_call_of 79 (Value.int .u8 43); refine (take_is hR hs hq (b:=43) (by decide) N43.out).mono ?_; clear hR; rintro e w3 ⟨rfl,hR,hk2⟩; replace hK:=hK.trans hk2; clear hk2)
    | (go_at_call_of 79 (Value.int .u8 63); refine (take_is hR hs hq (b:=63) (by decide) N63.out).mono ?_; clear hR; rintro e w4 ⟨rfl,hR,hk2⟩; replace hK:=hK.trans hk2; clear hk2)
    | (go_at_call_of 79 (Value.int .u8 123); refine (take_yes hR hs hq (b:=123) (by decide) HB.out).mono ?_; clear hR; rintro e w5 ⟨rfl,hR,hk2⟩; replace hK:=hK.trans hk2; clear hk2)
    | (go_at_call 141; refine (braces_any hR hs hq1).mono ?_; rw [HC.out]; rintro e w6 ⟨rfl,hk2⟩))
   exact ⟨rfl,cntsPost_err HR.out ⟨rfl,hK.trans hk2⟩⟩
 | ok v =>
   obtain ⟨lo,hi,q2⟩:=v
   have HR:Hid (cntRef s q = .ok (some (lo,hi),q2)):=(by show _ = _; simp [cntRef,hb,hc])
   have HC:Hid (countsRef s (q + 1) = .ok (lo,hi,q2)):=hc
   clear hc n42 n43 n63 hb
   go_enter Tryz.func124,Tryz.ntmps124
   go_wp2_with (first
    | (go_at_call_of 79 (Value.int .u8 42); refine (take_is hR hs hq (b:=42) (by decide) N42.out).mono ?_; clear hR; rintro e w2 ⟨rfl,hR,hk2⟩; replace hK:=hK.trans hk2; clear hk2)
    | (go_at_call_of 79 (Value.int .u8 43); refine (take_is hR hs hq (b:=43) (by decide) N43.out).mono ?_; clear hR; rintro e w3 ⟨rfl,hR,hk2⟩; replace hK:=hK.trans hk2; clear hk2)
    | (go_at_call_of 79 (Value.int .u8 63); refine (take_is hR hs hq (b:=63) (by decide) N63.out).mono ?_; clear hR; rintro e w4 ⟨rfl,hR,hk2⟩; replace hK:=hK.trans hk2; clear hk2)
    | (go_at_call_of 79 (Value.int .u8 123); refine (take_yes hR hs hq (b:=123) (by decide) HB.out).mono ?_; clear hR; rintro e w5 ⟨rfl,hR,hk2⟩; replace hK:=hK.trans hk2; clear hk2)
    | (go_at_call 141; refine (braces_any hR hs hq1).mono ?_; rw [HC.out]; clear hR; rintro e w6 ⟨rfl,hR,hk2⟩; replace hK:=hK.trans hk2; clear hk2))
   refine bodyPost_ret (v:=.tuple #[.int .i64 lo,.int .i64 hi,.bool true]) (by simp [results,Tryz.results124,go_sem]) rfl ?_
   exact cntsPost_some HR.out hR hK
theorem counts_none {w:World} {R:Nat} {s:ByteArray} {q:Nat} {g d:Int} (hR:Rc w R s q g d) (hs:s.size≤120) (hq:q≤s.size) (n42:bt s q≠42) (n43:bt s q≠43) (n63:bt s q≠63) (n123:bt s q≠123) :
  Calls Tryz.prog 124 #[.pointer (some ⟨R,0,none⟩)] w (CntsPost R s g d (cntRef s q) w):=by
 have HR:Hid (cntRef s q = .ok (none,q)):=(by show _ = _; simp [cntRef,n42,n43,n63,n123])
 have N42:Hid (bt s q≠42):=n42
 have N43:Hid (bt s q≠43):=n43
 have N63:Hid (bt s q≠63):=n63
 have N123:Hid (bt s q≠123):=n123
 clear n42 n43 n63 n123
 have hK:=Keeps.refl (fun k=>k=R) w
 go_enter Tryz.func124,Tryz.ntmps124
 go_wp2_with (first
  | (go_at_call_of 79 (Value.int .u8 42); refine (take_is hR hs hq (b:=42) (by decide) N42.out).mono ?_; clear hR; rintro e w2 ⟨rfl,hR,hk2⟩; replace hK:=hK.trans hk2; clear hk2)
  | (go_at_call_of 79 (Value.int .u8 43); refine (take_is hR hs hq (b:=43) (by decide) N43.out).mono ?_; clear hR; rintro e w3 ⟨rfl,hR,hk2⟩; replace hK:=hK.trans hk2; clear hk2)
  | (go_at_call_of 79 (Value.int .u8 63); refine (take_is hR hs hq (b:=63) (by decide) N63.out).mono ?_; clear hR; rintro e w4 ⟨rfl,hR,hk2⟩; replace hK:=hK.trans hk2; clear hk2)
  | (go_at_call_of 79 (Value.int .u8 123); refine (take_is hR hs hq (b:=123) (by decide) N123.out).mono ?_; clear hR; rintro e w5 ⟨rfl,hR,hk2⟩; replace hK:=hK.trans hk2; clear hk2))
 refine bodyPost_ret (v:=.tuple #[.int .i64 0,.int .i64 0,.bool false]) (by simp [results,Tryz.results124,go_sem]) rfl ?_
 exact cntsPost_none HR.out hR hK
theorem icounts_any {w:World} {R:Nat} {s:ByteArray} {q:Nat} {g d:Int} (hR:Rc w R s q g d) (hs:s.size≤120) (hq:q≤s.size) :
  Calls Tryz.prog 124 #[.pointer (some ⟨R,0,none⟩)] w (CntsPost R s g d (cntRef s q) w):=by
 by_cases h1:bt s q=42
 ·exact counts_42 hR hs hq h1
 by_cases h2:bt s q=43
 ·exact counts_43 hR hs hq h1 h2
 by_cases h3:bt s q=63
 ·exact counts_63 hR hs hq h1 h2 h3
 by_cases h4:bt s q=123
 ·exact counts_123 hR hs hq h1 h2 h3 h4
 exact counts_none hR hs hq h1 h2 h3 h4
end Go.Proofs.YthkmmeamplmnhaaGreat
