import Derived.Test.YtfkflljplohhcaaGreatDoorT
set_option maxHeartbeats 1000000
set_option maxRecDepth 100000
namespace Go.Proofs.YtfkflljplohhcaaGreatDoor
open Go.RowKit
set_option linter.unusedVariables false
section
variable {w:World} {R:Nat} {s:ByteArray} {p q n x:Nat} {g d least:Int}
theorem Zik (h:Rc w R s p g d) (hs:s.size<=120) (hp:p<=s.size) (he:Zw s p = .error x) :
  Calls Tryz.prog 155 #[.pointer (some ⟨R,0,none⟩),.int .i64 least] w (ZY R x w) :=
 (Zbv h hs hp).mono fun e w' hn=>by unfold Zp1 at hn; rw [he] at hn; exact hn
theorem Zil (h:Rc w R s p g d) (hs:s.size<=120) (hp:p<=s.size) (he:Zw s p = .ok (n,q)) (hb:q=p\/(n:Int) < least) :
  Calls Tryz.prog 155 #[.pointer (some ⟨R,0,none⟩),.int .i64 least] w (ZY R p w) :=
 (Zbv h hs hp).mono fun e w' hn=>by unfold Zp1 at hn; rw [he] at hn; dsimp only at hn; rw [if_pos hb] at hn; exact hn
theorem Q7 (h:Rc w R s p g d) (hs:s.size<=120) (hp:p<=s.size) (he:Zw s p = .ok (n,q)) (hb:¬ (q=p\/(n:Int) < least)) :
  Calls Tryz.prog 155 #[.pointer (some ⟨R,0,none⟩),.int .i64 least] w fun e w'=>e = .returned (.int .i64 n)/\Rc w' R s q g d/\Za (fun k=>k=R) w w' :=
 (Zbv h hs hp).mono fun e w' hn=>by unfold Zp1 at hn; rw [he] at hn; dsimp only at hn; rw [if_neg hb] at hn; exact hn
end
def Zfh (R:Nat) (s:ByteArray) (g d:Int) (r:Except Nat (Int×Int×Nat)) (w:World) (e:Ending) (w':World):Prop :=
 match r with
 | .error x=>ZY R x w e w'
 | .ok (lo,hi,q)=>e = .returned (.tuple #[.int .i64 lo,.int .i64 hi])/\Rc w' R s q g d/\Za (fun k=>k=R) w w'
theorem Jm {R:Nat} {s:ByteArray} {g d:Int} {r:Except Nat (Int×Int×Nat)} {x:Nat} {w:World} {e:Ending} {w':World} (hr:r = .error x) (h:ZY R x w e w'):Zfh R s g d r w e w':=by
 subst hr; exact h
theorem Zcj {R:Nat} {s:ByteArray} {g d:Int} {r:Except Nat (Int×Int×Nat)} {lo hi:Int} {q:Nat} {w w':World} (hr:r = .ok (lo,hi,q)) (hR:Rc w' R s q g d) (hK:Za (fun k=>k=R) w w'):Zfh R s g d r w (.returned (.tuple #[.int .i64 lo,.int .i64 hi])) w':=by
 subst hr; exact ⟨rfl,hR,hK⟩
theorem Zeh {w:World} {R:Nat} {s:ByteArray} {p:Nat} {g d:Int} (h:Rc w R s p g d) (hs:s.size<=120) (hp:p<=s.size) :
  Calls Tryz.prog 143 #[.pointer (some ⟨R,0,none⟩)] w (Zfh R s g d (Zj s p) w):=by
 cases h1:Zw s p with
 | error x =>
   have HR:Hid (Zj s p = .error x):=(by show _ = _; simp [Zj,h1]);have H1:Hid (Zw s p = .error x):=h1;clear h1;go_enter Tryz.func143,Tryz.ntmps143;go_wp2_with (first
    | (go_at_call 155; refine (Zik h hs hp H1.out).mono ?_; rintro e w2 ⟨rfl,hk2⟩))
   exact ⟨rfl,Jm HR.out ⟨rfl,hk2⟩⟩
 | ok v =>
   obtain ⟨lo,q⟩:=v;obtain ⟨hpq,hqs,hlo⟩:=ZP hp h1;have H1:Hid (Zw s p = .ok (lo,q)):=h1
   by_cases hqp:q=p
   ·have HR:Hid (Zj s p = .error p):=(by show _ = _; simp [Zj,h1,hqp]);have HQ:Hid (q=p\/(lo:Int) < 0):=Or.inl hqp;clear h1 hqp;go_enter Tryz.func143,Tryz.ntmps143;go_wp2_with (first
     | (go_at_call 155; refine (Zil h hs hp H1.out HQ.out).mono ?_; rintro e w2 ⟨rfl,hk2⟩))
    exact ⟨rfl,Jm HR.out ⟨rfl,hk2⟩⟩
   ·have HQ:Hid (¬ (q=p\/(lo:Int) < 0)):=(by show ¬ _; omega)
    by_cases hc:bt s q=44
    ·have HC:Hid (bt s q=44):=hc;have hqlt:=Zt hc (by decide);have hq1:q + 1<=s.size:=hqlt
     by_cases hb:bt s (q + 1)=125
     ·have h2:Zw s (q + 1) = .ok (0,q + 1):=by
       unfold Zw; rw [ZbM (by rw [hb]; decide)]
      have HR:Hid (Zj s p = .ok ((lo:Int),-1,q + 1 + 1)):=(by show _ = _; simp [Zj,h1,hqp,hc,h2,hb]);have HB:Hid (bt s (q + 1)=125):=hb;have HT:Hid (decide (bt s (q + 1)=125)=true):=(by show _ = _; simp [hb]);clear h1 hqp hc hb h2;go_enter Tryz.func143,Tryz.ntmps143;go_wp2_with (first
       | (go_at_call 155; refine (Q7 h hs hp H1.out HQ.out).mono ?_; clear h; rintro e w2 ⟨rfl,hR,hK⟩)
       | (go_at_call 76; refine (Z2 hR hs hqs (b:=44) (by decide) HC.out).mono ?_; clear hR; rintro e w3 ⟨rfl,hR,hk2⟩; replace hK:=hK.trans hk2; clear hk2)
       | (go_at_call 95; refine (QA hR hs hq1 (b:=125) (by decide) HT.out).mono ?_; rintro e w4 ⟨rfl,n,hn⟩; have hk2:Za N0_ w3 w4:=(by rw [hn]; exact (Za.refl _ _).drewN _); clear hn; replace hR:=hR.keeps hk2 id; replace hK:=hK.trans hk2.none; clear hk2)
       | (go_at_call 144; refine (JE hR hs hq1 (b:=125) (by decide) HB.out).mono ?_; clear hR; rintro e w5 ⟨rfl,hR,hk2⟩; replace hK:=hK.trans hk2; clear hk2))
      go_ret2;exact Zcj HR.out hR hK
     ·have HT:Hid (decide (bt s (q + 1)=125)=false):=(by show _ = _; simp [hb])
      cases h2:Zw s (q + 1) with
      | error x =>
        have HR:Hid (Zj s p = .error x):=(by show _ = _; simp [Zj,h1,hqp,hc,h2]);have H2:Hid (Zw s (q + 1) = .error x):=h2;clear h1 hqp hc hb h2;go_enter Tryz.func143,Tryz.ntmps143;go_wp2_with (first
         | (go_at_call_of 155 (Value.int .i64 0); refine (Q7 h hs hp H1.out HQ.out).mono ?_; clear h; rintro e w2 ⟨rfl,hR,hK⟩)
         | (go_at_call 76; refine (Z2 hR hs hqs (b:=44) (by decide) HC.out).mono ?_; clear hR; rintro e w3 ⟨rfl,hR,hk2⟩; replace hK:=hK.trans hk2; clear hk2)
         | (go_at_call 95; refine (QA hR hs hq1 (b:=125) (by decide) HT.out).mono ?_; rintro e w4 ⟨rfl,n,hn⟩; have hk2:Za N0_ w3 w4:=(by rw [hn]; exact (Za.refl _ _).drewN _); clear hn; replace hR:=hR.keeps hk2 id; replace hK:=hK.trans hk2.none; clear hk2)
         | (go_at_call 155; refine (Zik hR hs hq1 H2.out).mono ?_; rintro e w5 ⟨rfl,hk2⟩))
        exact ⟨rfl,Jm HR.out ⟨rfl,hK.trans hk2⟩⟩
      | ok v =>
        obtain ⟨hi,q2⟩:=v;obtain ⟨hpq2,hqs2,hhi⟩:=ZP hq1 h2;have H2:Hid (Zw s (q + 1) = .ok (hi,q2)):=h2
        by_cases hbad:q2=q + 1\/(hi:Int) < (lo:Int)
        ·have HR:Hid (Zj s p = .error (q + 1)):=by
          show _ = _;simp only [Zj,h1,hqp,hc,h2];rw [if_neg (by simp),if_pos trivial]
          by_cases e:q2=q + 1
          ·subst e; simp [hb]
          ·have hl:hi < lo:=by omega
           simp [e,hl]
         have HBad:Hid (q2=q + 1\/(hi:Int) < (lo:Int)):=hbad;clear h1 hqp hc hb h2 hbad;go_enter Tryz.func143,Tryz.ntmps143;go_wp2_with (first
          | (go_at_call_of 155 (Value.int .i64 0); refine (Q7 h hs hp H1.out HQ.out).mono ?_; clear h; rintro e w2 ⟨rfl,hR,hK⟩)
          | (go_at_call 76; refine (Z2 hR hs hqs (b:=44) (by decide) HC.out).mono ?_; clear hR; rintro e w3 ⟨rfl,hR,hk2⟩; replace hK:=hK.trans hk2; clear hk2)
          | (go_at_call 95; refine (QA hR hs hq1 (b:=125) (by decide) HT.out).mono ?_; rintro e w4 ⟨rfl,n,hn⟩; have hk2:Za N0_ w3 w4:=(by rw [hn]; exact (Za.refl _ _).drewN _); clear hn; replace hR:=hR.keeps hk2 id; replace hK:=hK.trans hk2.none; clear hk2)
          | (go_at_call 155; refine (Zil hR hs hq1 H2.out HBad.out).mono ?_; rintro e w5 ⟨rfl,hk2⟩))
         exact ⟨rfl,Jm HR.out ⟨rfl,hK.trans hk2⟩⟩
        ·have HBad:Hid (¬ (q2=q + 1\/(hi:Int) < (lo:Int))):=hbad;have hn1:¬ q2=q + 1:=by omega
         have hn2:¬ hi < lo:=by omega
         by_cases hb2:bt s q2=125
         ·have HR:Hid (Zj s p = .ok ((lo:Int),(hi:Int),q2 + 1)):=(by show _ = _; simp [Zj,h1,hqp,hc,h2,hn1,hn2,hb2]);have HB2:Hid (bt s q2=125):=hb2;clear h1 hqp hc hb h2 hbad hn1 hn2 hb2;go_enter Tryz.func143,Tryz.ntmps143;go_wp2_with (first
           | (go_at_call_of 155 (Value.int .i64 0); refine (Q7 h hs hp H1.out HQ.out).mono ?_; clear h; rintro e w2 ⟨rfl,hR,hK⟩)
           | (go_at_call 76; refine (Z2 hR hs hqs (b:=44) (by decide) HC.out).mono ?_; clear hR; rintro e w3 ⟨rfl,hR,hk2⟩; replace hK:=hK.trans hk2; clear hk2)
           | (go_at_call 95; refine (QA hR hs hq1 (b:=125) (by decide) HT.out).mono ?_; rintro e w4 ⟨rfl,n,hn⟩; have hk2:Za N0_ w3 w4:=(by rw [hn]; exact (Za.refl _ _).drewN _); clear hn; replace hR:=hR.keeps hk2 id; replace hK:=hK.trans hk2.none; clear hk2)
           | (go_at_call 155; refine (Q7 hR hs hq1 H2.out HBad.out).mono ?_; clear hR; rintro e w5 ⟨rfl,hR,hk2⟩; replace hK:=hK.trans hk2; clear hk2)
           | (go_at_call 144; refine (JE hR hs hqs2 (b:=125) (by decide) HB2.out).mono ?_; clear hR; rintro e w6 ⟨rfl,hR,hk2⟩; replace hK:=hK.trans hk2; clear hk2))
          go_ret2;exact Zcj HR.out hR hK
         ·have HR:Hid (Zj s p = .error q2):=(by show _ = _; simp [Zj,h1,hqp,hc,h2,hn1,hn2,hb2]);have HB2:Hid (bt s q2≠125):=hb2;clear h1 hqp hc hb h2 hbad hn1 hn2 hb2;go_enter Tryz.func143,Tryz.ntmps143;go_wp2_with (first
           | (go_at_call_of 155 (Value.int .i64 0); refine (Q7 h hs hp H1.out HQ.out).mono ?_; clear h; rintro e w2 ⟨rfl,hR,hK⟩)
           | (go_at_call 76; refine (Z2 hR hs hqs (b:=44) (by decide) HC.out).mono ?_; clear hR; rintro e w3 ⟨rfl,hR,hk2⟩; replace hK:=hK.trans hk2; clear hk2)
           | (go_at_call 95; refine (QA hR hs hq1 (b:=125) (by decide) HT.out).mono ?_; rintro e w4 ⟨rfl,n,hn⟩; have hk2:Za N0_ w3 w4:=(by rw [hn]; exact (Za.refl _ _).drewN _); clear hn; replace hR:=hR.keeps hk2 id; replace hK:=hK.trans hk2.none; clear hk2)
           | (go_at_call 155; refine (Q7 hR hs hq1 H2.out HBad.out).mono ?_; clear hR; rintro e w5 ⟨rfl,hR,hk2⟩; replace hK:=hK.trans hk2; clear hk2)
           | (go_at_call 144; refine (ZeL hR hs hqs2 (b:=125) (by decide) HB2.out).mono ?_; rintro e w6 ⟨rfl,n,hn⟩; have hk2:Za N0_ w5 w6:=(by rw [hn]; exact (Za.refl _ _).drewN _); clear hn; replace hK:=hK.trans hk2.none; clear hk2))
          exact ⟨rfl,Jm HR.out ⟨rfl,hK⟩⟩
    ·have HC:Hid (bt s q≠44):=hc
     by_cases hb:bt s q=125
     ·have HR:Hid (Zj s p = .ok ((lo:Int),(lo:Int),q + 1)):=(by show _ = _; simp [Zj,h1,hqp,hb]);have HB:Hid (bt s q=125):=hb;clear h1 hqp hc hb;go_enter Tryz.func143,Tryz.ntmps143;go_wp2_with (first
       | (go_at_call 155; refine (Q7 h hs hp H1.out HQ.out).mono ?_; clear h; rintro e w2 ⟨rfl,hR,hK⟩)
       | (go_at_call 76; refine (J9 hR hs hqs (b:=44) (by decide) HC.out).mono ?_; rintro e w3 ⟨rfl,n,hn⟩; have hk2:Za N0_ w2 w3:=(by rw [hn]; exact (Za.refl _ _).drewN _); clear hn; replace hR:=hR.keeps hk2 id; replace hK:=hK.trans hk2.none; clear hk2)
       | (go_at_call 144; refine (JE hR hs hqs (b:=125) (by decide) HB.out).mono ?_; clear hR; rintro e w5 ⟨rfl,hR,hk2⟩; replace hK:=hK.trans hk2; clear hk2))
      go_ret2;exact Zcj HR.out hR hK
     ·have HR:Hid (Zj s p = .error q):=(by show _ = _; simp [Zj,h1,hqp,hc,hb]);have HB:Hid (bt s q≠125):=hb;clear h1 hqp hc hb;go_enter Tryz.func143,Tryz.ntmps143;go_wp2_with (first
       | (go_at_call 155; refine (Q7 h hs hp H1.out HQ.out).mono ?_; clear h; rintro e w2 ⟨rfl,hR,hK⟩)
       | (go_at_call 76; refine (J9 hR hs hqs (b:=44) (by decide) HC.out).mono ?_; rintro e w3 ⟨rfl,n,hn⟩; have hk2:Za N0_ w2 w3:=(by rw [hn]; exact (Za.refl _ _).drewN _); clear hn; replace hR:=hR.keeps hk2 id; replace hK:=hK.trans hk2.none; clear hk2)
       | (go_at_call 144; refine (ZeL hR hs hqs (b:=125) (by decide) HB.out).mono ?_; rintro e w6 ⟨rfl,n,hn⟩; have hk2:Za N0_ w3 w6:=(by rw [hn]; exact (Za.refl _ _).drewN _); clear hn; replace hK:=hK.trans hk2.none; clear hk2))
      exact ⟨rfl,Jm HR.out ⟨rfl,hK⟩⟩
def JI (R:Nat) (s:ByteArray) (g d:Int) (r:Except Nat (Option (Int×Int)×Nat)) (w:World) (e:Ending) (w':World):Prop :=
 match r with
 | .error x=>ZY R x w e w'
 | .ok (none,q)=>e = .returned (.tuple #[.int .i64 0,.int .i64 0,.bool false])/\Rc w' R s q g d/\Za (fun k=>k=R) w w'
 | .ok (some (lo,hi),q)=>e = .returned (.tuple #[.int .i64 lo,.int .i64 hi,.bool true])/\Rc w' R s q g d/\Za (fun k=>k=R) w w'
theorem Zgb {R:Nat} {s:ByteArray} {g d:Int} {r:Except Nat (Option (Int×Int)×Nat)} {x:Nat} {w:World} {e:Ending} {w':World} (hr:r = .error x) (h:ZY R x w e w'):JI R s g d r w e w':=by
 subst hr; exact h
theorem Ze3 {R:Nat} {s:ByteArray} {g d:Int} {r:Except Nat (Option (Int×Int)×Nat)} {q:Nat} {w w':World} (hr:r = .ok (none,q)) (hR:Rc w' R s q g d) (hK:Za (fun k=>k=R) w w'):JI R s g d r w (.returned (.tuple #[.int .i64 0,.int .i64 0,.bool false])) w':=by
 subst hr; exact ⟨rfl,hR,hK⟩
theorem JG {R:Nat} {s:ByteArray} {g d:Int} {r:Except Nat (Option (Int×Int)×Nat)} {lo hi:Int} {q:Nat} {w w':World} (hr:r = .ok (some (lo,hi),q)) (hR:Rc w' R s q g d) (hK:Za (fun k=>k=R) w w'):JI R s g d r w (.returned (.tuple #[.int .i64 lo,.int .i64 hi,.bool true])) w':=by
 subst hr; exact ⟨rfl,hR,hK⟩
theorem Ze {w w':World} {n:Nat} (h:w'=w.drewN n):Za N0_ w w':=by subst h; exact (Za.refl _ _).drewN _
theorem QM {w:World} {R:Nat} {s:ByteArray} {p b:Nat} {g d:Int} (h:Rc w R s p g d) (hs:s.size<=120) (hp:p<=s.size) (hlt:b < 256) (hb:bt s p≠b) :
  Calls Tryz.prog 76 #[.pointer (some ⟨R,0,none⟩),.int .u8 b] w fun e w'=>e = .returned (.bool false)/\Rc w' R s p g d/\Za (fun k=>k=R) w w' :=
 (J9 h hs hp hlt hb).mono fun e w' ⟨h1,n,hn⟩=>⟨h1,h.keeps (Ze hn) id,(Ze hn).none⟩
theorem Zmg {w:World} {R:Nat} {s:ByteArray} {q:Nat} {g d:Int} (hR:Rc w R s q g d) (hs:s.size<=120) (hq:q<=s.size) (hb:bt s q=42) :
  Calls Tryz.prog 132 #[.pointer (some ⟨R,0,none⟩)] w (JI R s g d (ZW s q) w):=by
 have HR:Hid (ZW s q = .ok (some ((0:Int),(-1:Int)),q + 1)):=(by show _ = _; simp [ZW,hb]);have HB:Hid (bt s q=42):=hb;clear hb;have hK:=Za.refl (fun k=>k=R) w;go_enter Tryz.func132,Tryz.ntmps132;go_wp2_with (first
  | (go_at_call_of 76 (Value.int .u8 42); refine (Z2 hR hs hq (b:=42) (by decide) HB.out).mono ?_; clear hR; rintro e w2 ⟨rfl,hR,hk2⟩; replace hK:=hK.trans hk2; clear hk2))
 refine bodyPost_ret (v:=.tuple #[.int .i64 0,.int .i64 (-1),.bool true]) (by simp [results,Tryz.results132,go_sem]) rfl ?_;exact JG HR.out hR hK
theorem Zmf {w:World} {R:Nat} {s:ByteArray} {q:Nat} {g d:Int} (hR:Rc w R s q g d) (hs:s.size<=120) (hq:q<=s.size) (n42:bt s q≠42) (hb:bt s q=43) :
  Calls Tryz.prog 132 #[.pointer (some ⟨R,0,none⟩)] w (JI R s g d (ZW s q) w):=by
 have HR:Hid (ZW s q = .ok (some ((1:Int),(-1:Int)),q + 1)):=(by show _ = _; simp [ZW,hb]);have N42:Hid (bt s q≠42):=n42;have HB:Hid (bt s q=43):=hb;clear n42 hb;have hK:=Za.refl (fun k=>k=R) w;go_enter Tryz.func132,Tryz.ntmps132;go_wp2_with (first
  | (go_at_call_of 76 (Value.int .u8 42); refine (QM hR hs hq (b:=42) (by decide) N42.out).mono ?_; clear hR; rintro e w2 ⟨rfl,hR,hk2⟩; replace hK:=hK.trans hk2; clear hk2)
  | (go_at_call_of 76 (Value.int .u8 43); refine (Z2 hR hs hq (b:=43) (by decide) HB.out).mono ?_; clear hR; rintro e w3 ⟨rfl,hR,hk2⟩; replace hK:=hK.trans hk2; clear hk2))
 refine bodyPost_ret (v:=.tuple #[.int .i64 1,.int .i64 (-1),.bool true]) (by simp [results,Tryz.results132,go_sem]) rfl ?_;exact JG HR.out hR hK
theorem Zme {w:World} {R:Nat} {s:ByteArray} {q:Nat} {g d:Int} (hR:Rc w R s q g d) (hs:s.size<=120) (hq:q<=s.size) (n42:bt s q≠42) (n43:bt s q≠43) (hb:bt s q=63) :
  Calls Tryz.prog 132 #[.pointer (some ⟨R,0,none⟩)] w (JI R s g d (ZW s q) w):=by
 have HR:Hid (ZW s q = .ok (some ((0:Int),(1:Int)),q + 1)):=(by show _ = _; simp [ZW,hb]);have N42:Hid (bt s q≠42):=n42;have N43:Hid (bt s q≠43):=n43;have HB:Hid (bt s q=63):=hb;clear n42 n43 hb;have hK:=Za.refl (fun k=>k=R) w;go_enter Tryz.func132,Tryz.ntmps132;go_wp2_with (first
  | (go_at_call_of 76 (Value.int .u8 42); refine (QM hR hs hq (b:=42) (by decide) N42.out).mono ?_; clear hR; rintro e w2 ⟨rfl,hR,hk2⟩; replace hK:=hK.trans hk2; clear hk2)
  | (go_at_call_of 76 (Value.int .u8 43); refine (QM hR hs hq (b:=43) (by decide) N43.out).mono ?_; clear hR; rintro e w3 ⟨rfl,hR,hk2⟩; replace hK:=hK.trans hk2; clear hk2)
  | (go_at_call_of 76 (Value.int .u8 63); refine (Z2 hR hs hq (b:=63) (by decide) HB.out).mono ?_; clear hR; rintro e w4 ⟨rfl,hR,hk2⟩; replace hK:=hK.trans hk2; clear hk2))
 refine bodyPost_ret (v:=.tuple #[.int .i64 0,.int .i64 1,.bool true]) (by simp [results,Tryz.results132,go_sem]) rfl ?_;exact JG HR.out hR hK
theorem ZjH {w:World} {R:Nat} {s:ByteArray} {q:Nat} {g d:Int} (hR:Rc w R s q g d) (hs:s.size<=120) (hq:q<=s.size) (n42:bt s q≠42) (n43:bt s q≠43) (n63:bt s q≠63) (hb:bt s q=123) :
  Calls Tryz.prog 132 #[.pointer (some ⟨R,0,none⟩)] w (JI R s g d (ZW s q) w):=by
 have N42:Hid (bt s q≠42):=n42;have N43:Hid (bt s q≠43):=n43;have N63:Hid (bt s q≠63):=n63;have HB:Hid (bt s q=123):=hb;have hlt:=Zt hb (by decide);have hq1:q + 1<=s.size:=hlt;have hK:=Za.refl (fun k=>k=R) w
 cases hc:Zj s (q + 1) with
 | error x =>
   have HR:Hid (ZW s q = .error x):=(by show _ = _; simp [ZW,hb,hc]);have HC:Hid (Zj s (q + 1) = .error x):=hc;clear hc n42 n43 n63 hb;go_enter Tryz.func132,Tryz.ntmps132;go_wp2_with (first
    | (go_at_call_of 76 (Value.int .u8 42); refine (QM hR hs hq (b:=42) (by decide) N42.out).mono ?_; clear hR; rintro e w2 ⟨rfl,hR,hk2⟩; replace hK:=hK.trans hk2; clear hk2)
    | (go_at_call_of 76 (Value.int .u8 43); refine (QM hR hs hq (b:=43) (by decide) N43.out).mono ?_; clear hR; rintro e w3 ⟨rfl,hR,hk2⟩; replace hK:=hK.trans hk2; clear hk2)
    | (go_at_call_of 76 (Value.int .u8 63); refine (QM hR hs hq (b:=63) (by decide) N63.out).mono ?_; clear hR; rintro e w4 ⟨rfl,hR,hk2⟩; replace hK:=hK.trans hk2; clear hk2)
    | (go_at_call_of 76 (Value.int .u8 123); refine (Z2 hR hs hq (b:=123) (by decide) HB.out).mono ?_; clear hR; rintro e w5 ⟨rfl,hR,hk2⟩; replace hK:=hK.trans hk2; clear hk2)
    | (go_at_call 143; refine (Zeh hR hs hq1).mono ?_; rw [HC.out]; rintro e w6 ⟨rfl,hk2⟩))
   exact ⟨rfl,Zgb HR.out ⟨rfl,hK.trans hk2⟩⟩
 | ok v =>
   obtain ⟨lo,hi,q2⟩:=v;have HR:Hid (ZW s q = .ok (some (lo,hi),q2)):=(by show _ = _; simp [ZW,hb,hc]);have HC:Hid (Zj s (q + 1) = .ok (lo,hi,q2)):=hc;clear hc n42 n43 n63 hb;go_enter Tryz.func132,Tryz.ntmps132;go_wp2_with (first
    | (go_at_call_of 76 (Value.int .u8 42); refine (QM hR hs hq (b:=42) (by decide) N42.out).mono ?_; clear hR; rintro e w2 ⟨rfl,hR,hk2⟩; replace hK:=hK.trans hk2; clear hk2)
    | (go_at_call_of 76 (Value.int .u8 43); refine (QM hR hs hq (b:=43) (by decide) N43.out).mono ?_; clear hR; rintro e w3 ⟨rfl,hR,hk2⟩; replace hK:=hK.trans hk2; clear hk2)
    | (go_at_call_of 76 (Value.int .u8 63); refine (QM hR hs hq (b:=63) (by decide) N63.out).mono ?_; clear hR; rintro e w4 ⟨rfl,hR,hk2⟩; replace hK:=hK.trans hk2; clear hk2)
    | (go_at_call_of 76 (Value.int .u8 123); refine (Z2 hR hs hq (b:=123) (by decide) HB.out).mono ?_; clear hR; rintro e w5 ⟨rfl,hR,hk2⟩; replace hK:=hK.trans hk2; clear hk2)
    | (go_at_call 143; refine (Zeh hR hs hq1).mono ?_; rw [HC.out]; clear hR; rintro e w6 ⟨rfl,hR,hk2⟩; replace hK:=hK.trans hk2; clear hk2))
   refine bodyPost_ret (v:=.tuple #[.int .i64 lo,.int .i64 hi,.bool true]) (by simp [results,Tryz.results132,go_sem]) rfl ?_;exact JG HR.out hR hK
theorem Zhl {w:World} {R:Nat} {s:ByteArray} {q:Nat} {g d:Int} (hR:Rc w R s q g d) (hs:s.size<=120) (hq:q<=s.size) (n42:bt s q≠42) (n43:bt s q≠43) (n63:bt s q≠63) (n123:bt s q≠123) :
  Calls Tryz.prog 132 #[.pointer (some ⟨R,0,none⟩)] w (JI R s g d (ZW s q) w):=by
 have HR:Hid (ZW s q = .ok (none,q)):=(by show _ = _; simp [ZW,n42,n43,n63,n123]);have N42:Hid (bt s q≠42):=n42;have N43:Hid (bt s q≠43):=n43;have N63:Hid (bt s q≠63):=n63;have N123:Hid (bt s q≠123):=n123;clear n42 n43 n63 n123;have hK:=Za.refl (fun k=>k=R) w;go_enter Tryz.func132,Tryz.ntmps132;go_wp2_with (first
  | (go_at_call_of 76 (Value.int .u8 42); refine (QM hR hs hq (b:=42) (by decide) N42.out).mono ?_; clear hR; rintro e w2 ⟨rfl,hR,hk2⟩; replace hK:=hK.trans hk2; clear hk2)
  | (go_at_call_of 76 (Value.int .u8 43); refine (QM hR hs hq (b:=43) (by decide) N43.out).mono ?_; clear hR; rintro e w3 ⟨rfl,hR,hk2⟩; replace hK:=hK.trans hk2; clear hk2)
  | (go_at_call_of 76 (Value.int .u8 63); refine (QM hR hs hq (b:=63) (by decide) N63.out).mono ?_; clear hR; rintro e w4 ⟨rfl,hR,hk2⟩; replace hK:=hK.trans hk2; clear hk2)
  | (go_at_call_of 76 (Value.int .u8 123); refine (QM hR hs hq (b:=123) (by decide) N123.out).mono ?_; clear hR; rintro e w5 ⟨rfl,hR,hk2⟩; replace hK:=hK.trans hk2; clear hk2))
 refine bodyPost_ret (v:=.tuple #[.int .i64 0,.int .i64 0,.bool false]) (by simp [results,Tryz.results132,go_sem]) rfl ?_;exact Ze3 HR.out hR hK
theorem ZaE {w:World} {R:Nat} {s:ByteArray} {q:Nat} {g d:Int} (hR:Rc w R s q g d) (hs:s.size<=120) (hq:q<=s.size) :
  Calls Tryz.prog 132 #[.pointer (some ⟨R,0,none⟩)] w (JI R s g d (ZW s q) w):=by
 by_cases h1:bt s q=42
 ·exact Zmg hR hs hq h1
 by_cases h2:bt s q=43
 ·exact Zmf hR hs hq h1 h2
 by_cases h3:bt s q=63
 ·exact Zme hR hs hq h1 h2 h3
 by_cases h4:bt s q=123
 ·exact ZjH hR hs hq h1 h2 h3 h4
 exact Zhl hR hs hq h1 h2 h3 h4
end Go.Proofs.YtfkflljplohhcaaGreatDoor
