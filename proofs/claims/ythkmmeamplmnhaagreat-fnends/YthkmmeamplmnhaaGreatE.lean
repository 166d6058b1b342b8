import Derived.Test.YthkmmeamplmnhaaGreatD
import Derived.Deep.Cut
import Derived.Deep.CutRange
set_option maxHeartbeats 1000000
set_option maxRecDepth 1000000
namespace Go.Proofs.YthkmmeamplmnhaaGreat
open Go.RowKit
set_option linter.unusedVariables false
structure Ok (w:World) (R:Nat) (s:ByteArray) (p:Nat) (g:Int) (v:Value):Prop where
 rd:Rd w R s p (-1) g v
structure Bad (w:World) (R:Nat) (s:ByteArray) (x:Nat) (v:Value):Prop where
 rd :∃a g,Rd w R s a x g v
theorem Ok.set1 {w:World} {R:Nat} {s:ByteArray} {p:Nat} {g:Int} {v:Value} (h:Ok w R s p g v) (q:Nat):Ok (w.setCell ⟨R,1,none⟩ (.int .i64 q)) R s q g v:=⟨h.rd.set1 _⟩
section
variable {w:World} {R:Nat} {s:ByteArray} {p x:Nat} {g:Int} {v:Value}
theorem number_err (hR:Ok w R s p g v) (hs:s.size≤120) (hp:p≤s.size) (h:numRef s p = .error x) :
  Calls Tryz.prog 135 #[.pointer (some ⟨R,0,none⟩)] w fun e w'=>e = .returned (.int .i64 0)∧Bad w' R s x v∧Keeps (fun k=>k=R) w w' :=
 (number_any hR.rd hs hp).mono fun e w' hn=>by unfold NumPost at hn; rw [h] at hn; exact ⟨hn.1,⟨_,_,hn.2.1⟩,hn.2.2⟩
theorem number_none (hR:Ok w R s p g v) (hs:s.size≤120) (hp:p≤s.size) {n:Nat} (h:numRef s p = .ok (n,p)) :
  Calls Tryz.prog 135 #[.pointer (some ⟨R,0,none⟩)] w fun e w'=>e = .returned (.int .i64 (-1))∧Ok w' R s p g v∧Keeps (fun k=>k=R) w w' :=
 (number_any hR.rd hs hp).mono fun e w' hn=>by unfold NumPost at hn; rw [h] at hn; simp only [if_pos] at hn; exact ⟨hn.1,⟨hn.2.1⟩,hn.2.2⟩
theorem number_some (hR:Ok w R s p g v) (hs:s.size≤120) (hp:p≤s.size) {n q:Nat} (h:numRef s p = .ok (n,q)) (hq:q≠p) :
  Calls Tryz.prog 135 #[.pointer (some ⟨R,0,none⟩)] w fun e w'=>e = .returned (.int .i64 n)∧Ok w' R s q g v∧Keeps (fun k=>k=R) w w' :=
 (number_any hR.rd hs hp).mono fun e w' hn=>by unfold NumPost at hn; rw [h] at hn; simp only [if_neg hq] at hn; exact ⟨hn.1,⟨hn.2.1⟩,hn.2.2⟩
theorem isY (hR:Ok w R s p g v) (hs:s.size≤120) {b:Int} (hb:(bt s p:Int)=b) (hlt:b < 256) :
  Calls Tryz.prog 62 #[.pointer (some ⟨R,0,none⟩),.int .u8 b] w fun e w'=>e = .returned (.bool true)∧Ok w' R s (p + 1) g v∧Keeps (fun k=>k=R) w w':=by
 subst hb
 exact (is_yes hR.rd hs rfl (by omega)).mono fun e w' ⟨h1,h2,h3⟩=>⟨h1,⟨h2⟩,h3⟩
theorem isN (hR:Ok w R s p g v) (hs:s.size≤120) {b:Int} (hb:(bt s p:Int)≠b) (h0:0≤b) :
  Calls Tryz.prog 62 #[.pointer (some ⟨R,0,none⟩),.int .u8 b] w fun e w'=>e = .returned (.bool false)∧Ok w' R s p g v∧Keeps (fun k=>k=R) w w':=by
 obtain ⟨m,rfl⟩:=Int.eq_ofNat_of_zero_le h0
 refine (is_no hR.rd hs (b:=m) (by omega)).mono ?_
 rintro e w' ⟨rfl,n,rfl⟩
 exact ⟨rfl,⟨hR.rd.drewN _⟩,(Keeps.refl _ _).drewN _⟩
theorem isB (hR:Bad w R s x v) {b:Int} (h0:0≤b) :
  Calls Tryz.prog 62 #[.pointer (some ⟨R,0,none⟩),.int .u8 b] w fun e w'=>e = .returned (.bool false)∧Bad w' R s x v∧Keeps (fun k=>k=R) w w':=by
 obtain ⟨m,rfl⟩:=Int.eq_ofNat_of_zero_le h0
 obtain ⟨a,g,h⟩:=hR.rd
 refine (is_bad h (b:=m)).mono ?_
 rintro e w' ⟨rfl,n,rfl⟩
 exact ⟨rfl,⟨_,_,h.drewN _⟩,(Keeps.refl _ _).drewN _⟩
theorem failO (hR:Ok w R s p g v) :
  Calls Tryz.prog 41 #[.pointer (some ⟨R,0,none⟩)] w fun e w'=>e = .returned (.tuple #[])∧Bad w' R s p v∧Keeps (fun k=>k=R) w w':=by
 refine (fail_ok hR.rd).mono ?_
 rintro e w' ⟨rfl,rfl⟩
 exact ⟨rfl,⟨_,_,hR.rd.set2 _⟩,(Keeps.refl (fun k=>k=R) _).setCell (fun _=>rfl) _⟩
theorem failB (hR:Bad w R s x v) :
  Calls Tryz.prog 41 #[.pointer (some ⟨R,0,none⟩)] w fun e w'=>e = .returned (.tuple #[])∧Bad w' R s x v∧Keeps (fun k=>k=R) w w':=by
 obtain ⟨a,g,h⟩:=hR.rd
 refine (fail_bad h).mono ?_
 rintro e w' ⟨rfl,rfl⟩
 exact ⟨rfl,hR,Keeps.refl _ _⟩
theorem moreY (hR:Ok w R s p g v) (hs:s.size≤120) (hp:p < s.size) :
  Calls Tryz.prog 40 #[.pointer (some ⟨R,0,none⟩)] w fun e w'=>e = .returned (.bool true)∧Ok w' R s p g v∧Keeps (fun k=>k=R) w w':=by
 refine (more_yes hR.rd hs hp).mono ?_
 rintro e w' ⟨rfl,n,rfl⟩
 exact ⟨rfl,⟨hR.rd.drewN _⟩,(Keeps.refl _ _).drewN _⟩
theorem moreN (hR:Ok w R s p g v) (hs:s.size≤120) (hp:¬ p < s.size) :
  Calls Tryz.prog 40 #[.pointer (some ⟨R,0,none⟩)] w fun e w'=>e = .returned (.bool false)∧Ok w' R s p g v∧Keeps (fun k=>k=R) w w':=by
 refine (more_no hR.rd hs hp).mono ?_
 rintro e w' ⟨rfl,n,rfl⟩
 exact ⟨rfl,⟨hR.rd.drewN _⟩,(Keeps.refl _ _).drewN _⟩
theorem moreB (hR:Bad w R s x v) :
  Calls Tryz.prog 40 #[.pointer (some ⟨R,0,none⟩)] w fun e w'=>e = .returned (.bool false)∧Bad w' R s x v∧Keeps (fun k=>k=R) w w':=by
 obtain ⟨a,g,h⟩:=hR.rd
 refine (more_bad h).mono ?_
 rintro e w' ⟨rfl,n,rfl⟩
 exact ⟨rfl,⟨_,_,h.drewN _⟩,(Keeps.refl _ _).drewN _⟩
end
def CntPost (s:ByteArray) (p R:Nat) (g:Int) (v:Value) (w:World) (e:Ending) (w':World):Prop :=
 match countsRef s p with
 | .ok (lo,hi,q)=>e = .returned (.tuple #[.int .i64 lo,.int .i64 hi])∧Ok w' R s q g v∧Keeps (fun k=>k=R) w w'
 | .error x=>(∃a b,e = .returned (.tuple #[.int .i64 a,.int .i64 b]))∧Bad w' R s x v∧Keeps (fun k=>k=R) w w'
theorem counts_ok {s:ByteArray} {p q lo:Nat} (h1:numRef s p = .ok (lo,q)) (hq:q≠p) (h2:bt s q≠44):countsRef s p=if bt s q=125 then .ok ((lo:Int),(lo:Int),q + 1) else .error q:=by
 simp [countsRef,h1,hq,h2]
theorem counts_two {s:ByteArray} {p q lo hi q2:Nat} (h1:numRef s p = .ok (lo,q)) (hq:q≠p) (h2:bt s q=44) (h3:numRef s (q + 1) = .ok (hi,q2)):countsRef s p =
  if q2=q + 1 then (if bt s q2=125 then .ok ((lo:Int),-1,q2 + 1) else .error q2)
    else if hi < lo then .error (q + 1)
    else if bt s q2=125 then .ok ((lo:Int),(hi:Int),q2 + 1) else .error q2:=by
 simp [countsRef,h1,hq,h2,h3]
theorem counts_a {w:World} {R:Nat} {s:ByteArray} {p x:Nat} {g:Int} {v:Value} (hR:Ok w R s p g v) (hs:s.size≤120) (hp:p≤s.size) (h1:numRef s p = .error x) :
  Calls Tryz.prog 94 #[.pointer (some ⟨R,0,none⟩)] w (CntPost s p R g v w):=by
 have HE:Hid (countsRef s p = .error x):=by show _ = _; simp [countsRef,h1]
 have H1:Hid (numRef s p = .error x):=h1
 have hK:Keeps (fun k=>k=R) w w:=Keeps.refl _ _
 clear h1
 go_enter Tryz.func94,Tryz.ntmps94
 go_wp2_with (first
  | (go_at_call 135; refine (number_err hR hs hp H1.out).mono ?_; rintro e w1 ⟨rfl,hB,hk⟩; replace hK:=hK.trans hk; clear hk)
  | (go_at_call 62; refine (isB hB (by omega)).mono ?_; clear hB; rintro e w2 ⟨rfl,hB,hk⟩; replace hK:=hK.trans hk; clear hk)
  | (go_at_call 41; refine (failB hB).mono ?_; clear hB; rintro e w2 ⟨rfl,hB,hk⟩; replace hK:=hK.trans hk; clear hk))
 go_ret2
 unfold CntPost; rw [HE.out]
 exact ⟨⟨_,_,rfl⟩,hB,hK⟩
theorem counts_b {w:World} {R:Nat} {s:ByteArray} {p lo:Nat} {g:Int} {v:Value} (hR:Ok w R s p g v) (hs:s.size≤120) (hp:p≤s.size) (h1:numRef s p = .ok (lo,p)) :
  Calls Tryz.prog 94 #[.pointer (some ⟨R,0,none⟩)] w (CntPost s p R g v w):=by
 have HE:Hid (countsRef s p = .error p):=by show _ = _; simp [countsRef,h1]
 have H1:Hid (numRef s p = .ok (lo,p)):=h1
 clear h1
 have hK:Keeps (fun k=>k=R) w w:=Keeps.refl _ _
 go_enter Tryz.func94,Tryz.ntmps94
 go_wp2_with (first
  | (go_at_call 135; refine (number_none hR hs hp H1.out).mono ?_; clear hR; rintro e w2 ⟨rfl,hO,hk⟩; replace hK:=hK.trans hk; clear hk)
  | (go_at_call 41; refine (failO hO).mono ?_; clear hO; rintro e w2 ⟨rfl,hB,hk⟩; replace hK:=hK.trans hk; clear hk))
 go_ret2
 unfold CntPost; rw [HE.out]
 exact ⟨⟨_,_,rfl⟩,hB,hK⟩
theorem counts_c {w:World} {R:Nat} {s:ByteArray} {p lo q:Nat} {g:Int} {v:Value} (hR:Ok w R s p g v) (hs:s.size≤120) (hp:p≤s.size) (h1:numRef s p = .ok (lo,q)) (hq:q≠p) (hc:bt s q≠44) (hd:bt s q=125) :
  Calls Tryz.prog 94 #[.pointer (some ⟨R,0,none⟩)] w (CntPost s p R g v w):=by
 have HE:Hid (countsRef s p = .ok ((lo:Int),(lo:Int),q + 1)):=by show _ = _; rw [counts_ok h1 hq hc,if_pos hd]
 have hpos:=numRef_pos hp h1
 have H1:Hid (numRef s p = .ok (lo,q)):=h1
 have HC:Hid (bt s q≠44):=hc
 have HD:Hid (bt s q=125):=hd
 clear h1 hc hd
 have hK:Keeps (fun k=>k=R) w w:=Keeps.refl _ _
 go_enter Tryz.func94,Tryz.ntmps94
 go_wp2_with (first
  | (go_at_call 135; refine (number_some hR hs hp H1.out hq).mono ?_; clear hR; rintro e w2 ⟨rfl,hO,hk⟩; replace hK:=hK.trans hk; clear hk)
  | (go_at_call 62; refine (isY hO hs (by have:=HD.out; omega) (by omega)).mono ?_; rintro e w2 ⟨rfl,hO2,hk⟩; replace hK:=hK.trans hk; clear hk)
  | (go_at_call 62; refine (isN hO hs (by have:=HC.out; omega) (by omega)).mono ?_; clear hO; rintro e w2 ⟨rfl,hO,hk⟩; replace hK:=hK.trans hk; clear hk; have hm:True:=trivial))
 go_ret2
 unfold CntPost; rw [HE.out]
 exact ⟨rfl,hO2,hK⟩
theorem counts_d {w:World} {R:Nat} {s:ByteArray} {p lo q:Nat} {g:Int} {v:Value} (hR:Ok w R s p g v) (hs:s.size≤120) (hp:p≤s.size) (h1:numRef s p = .ok (lo,q)) (hq:q≠p) (hc:bt s q≠44) (hd:bt s q≠125) :
  Calls Tryz.prog 94 #[.pointer (some ⟨R,0,none⟩)] w (CntPost s p R g v w):=by
 have HE:Hid (countsRef s p = .error q):=by show _ = _; rw [counts_ok h1 hq hc,if_neg hd]
 have hpos:=numRef_pos hp h1
 have H1:Hid (numRef s p = .ok (lo,q)):=h1
 have HC:Hid (bt s q≠44):=hc
 have HD:Hid (bt s q≠125):=hd
 clear h1 hc hd
 have hK:Keeps (fun k=>k=R) w w:=Keeps.refl _ _
 go_enter Tryz.func94,Tryz.ntmps94
 go_wp2_with (first
  | (go_at_call 135; refine (number_some hR hs hp H1.out hq).mono ?_; clear hR; rintro e w2 ⟨rfl,hO,hk⟩; replace hK:=hK.trans hk; clear hk)
  | (go_at_call 62; refine (isN hO hs (by first | (have:=HC.out; omega) | (have:=HD.out; omega)) (by omega)).mono ?_; clear hO; rintro e w2 ⟨rfl,hO,hk⟩; replace hK:=hK.trans hk; clear hk)
  | (go_at_call 41; refine (failO hO).mono ?_; clear hO; rintro e w2 ⟨rfl,hB,hk⟩; replace hK:=hK.trans hk; clear hk))
 go_ret2
 unfold CntPost; rw [HE.out]
 exact ⟨⟨_,_,rfl⟩,hB,hK⟩
theorem counts_e {w:World} {R:Nat} {s:ByteArray} {p lo q x:Nat} {g:Int} {v:Value} (hR:Ok w R s p g v) (hs:s.size≤120) (hp:p≤s.size) (h1:numRef s p = .ok (lo,q)) (hq:q≠p) (hc:bt s q=44) (h3:numRef s (q + 1) = .error x) :
  Calls Tryz.prog 94 #[.pointer (some ⟨R,0,none⟩)] w (CntPost s p R g v w):=by
 have HE:Hid (countsRef s p = .error x):=by show _ = _; simp [countsRef,h1,hq,hc,h3]
 have hpos:=numRef_pos hp h1
 have hq1:=bt_some hc (by omega)
 have H1:Hid (numRef s p = .ok (lo,q)):=h1
 have HC:Hid (bt s q=44):=hc
 have H3:Hid (numRef s (q + 1) = .error x):=h3
 clear h1 hc h3
 have hK:Keeps (fun k=>k=R) w w:=Keeps.refl _ _
 go_enter Tryz.func94,Tryz.ntmps94
 go_wp2_with (first
  | (go_at_call 135; refine (number_some hR hs hp H1.out hq).mono ?_; clear hR; rintro e w2 ⟨rfl,hO,hk⟩; replace hK:=hK.trans hk; clear hk)
  | (go_at_call 62; refine (isY hO hs (by have:=HC.out; omega) (by omega)).mono ?_; clear hO; rintro e w2 ⟨rfl,hP,hk⟩; replace hK:=hK.trans hk; clear hk; have c1:=hP.rd.c1)
  | (go_at_call 135; refine (number_err hP hs (by omega) H3.out).mono ?_; clear hP; rintro e w2 ⟨rfl,hB,hk⟩; replace hK:=hK.trans hk; clear hk; obtain ⟨a,g',hrd⟩:=hB.rd; have c2:=hrd.c2; have hx:decide ((x:Int) < 0)=false:=by simp)
  | (go_at_call 62; refine (isB hB (by omega)).mono ?_; clear hB; rintro e w2 ⟨rfl,hB,hk⟩; replace hK:=hK.trans hk; clear hk)
  | (go_at_call 41; refine (failB hB).mono ?_; clear hB; rintro e w2 ⟨rfl,hB,hk⟩; replace hK:=hK.trans hk; clear hk))
 go_ret2
 unfold CntPost; rw [HE.out]
 exact ⟨⟨_,_,rfl⟩,hB,hK⟩
theorem counts_f {w:World} {R:Nat} {s:ByteArray} {p lo q hi:Nat} {g:Int} {v:Value} (hR:Ok w R s p g v) (hs:s.size≤120) (hp:p≤s.size) (h1:numRef s p = .ok (lo,q)) (hq:q≠p) (hc:bt s q=44) (h3:numRef s (q + 1) = .ok (hi,q + 1)) (hd:bt s (q + 1)=125) :
  Calls Tryz.prog 94 #[.pointer (some ⟨R,0,none⟩)] w (CntPost s p R g v w):=by
 have HE:Hid (countsRef s p = .ok ((lo:Int),-1,q + 1 + 1)):=by show _ = _; rw [counts_two h1 hq hc h3,if_pos rfl]; simp [hd]
 have hpos:=numRef_pos hp h1
 have hq1:=bt_some hc (by omega)
 have H1:Hid (numRef s p = .ok (lo,q)):=h1
 have HC:Hid (bt s q=44):=hc
 have H3:Hid (numRef s (q + 1) = .ok (hi,q + 1)):=h3
 clear h1 hc h3
 have HD:Hid (bt s (q + 1)=125):=hd
 clear hd
 have hK:Keeps (fun k=>k=R) w w:=Keeps.refl _ _
 go_enter Tryz.func94,Tryz.ntmps94
 go_wp2_with (first
  | (go_at_call 135; refine (number_some hR hs hp H1.out hq).mono ?_; clear hR; rintro e w2 ⟨rfl,hO,hk⟩; replace hK:=hK.trans hk; clear hk)
  | (go_at_call 62; refine (isY hO hs (by have:=HC.out; omega) (by omega)).mono ?_; clear hO; rintro e w2 ⟨rfl,hP,hk⟩; replace hK:=hK.trans hk; clear hk; have c1:=hP.rd.c1)
  | (go_at_call 135; refine (number_none hP hs (by omega) H3.out).mono ?_; clear hP; rintro e w2 ⟨rfl,hP,hk⟩; replace hK:=hK.trans hk; clear hk; have c2:=hP.rd.c2)
  | (go_at_call 62; refine (isY hP hs (by have:=HD.out; omega) (by omega)).mono ?_; clear hP; rintro e w2 ⟨rfl,hQ,hk⟩; replace hK:=hK.trans hk; clear hk))
 go_ret2
 unfold CntPost; rw [HE.out]
 exact ⟨rfl,hQ,hK⟩
theorem counts_g {w:World} {R:Nat} {s:ByteArray} {p lo q hi:Nat} {g:Int} {v:Value} (hR:Ok w R s p g v) (hs:s.size≤120) (hp:p≤s.size) (h1:numRef s p = .ok (lo,q)) (hq:q≠p) (hc:bt s q=44) (h3:numRef s (q + 1) = .ok (hi,q + 1)) (hd:bt s (q + 1)≠125) :
  Calls Tryz.prog 94 #[.pointer (some ⟨R,0,none⟩)] w (CntPost s p R g v w):=by
 have HE:Hid (countsRef s p = .error (q + 1)):=by show _ = _; rw [counts_two h1 hq hc h3,if_pos rfl]; simp [hd]
 have hpos:=numRef_pos hp h1
 have hq1:=bt_some hc (by omega)
 have H1:Hid (numRef s p = .ok (lo,q)):=h1
 have HC:Hid (bt s q=44):=hc
 have H3:Hid (numRef s (q + 1) = .ok (hi,q + 1)):=h3
 clear h1 hc h3
 have HD:Hid (bt s (q + 1)≠125):=hd
 clear hd
 have hK:Keeps (fun k=>k=R) w w:=Keeps.refl _ _
 go_enter Tryz.func94,Tryz.ntmps94
 go_wp2_with (first
  | (go_at_call 135; refine (number_some hR hs hp H1.out hq).mono ?_; clear hR; rintro e w2 ⟨rfl,hO,hk⟩; replace hK:=hK.trans hk; clear hk)
  | (go_at_call 62; refine (isY hO hs (by have:=HC.out; omega) (by omega)).mono ?_; clear hO; rintro e w2 ⟨rfl,hP,hk⟩; replace hK:=hK.trans hk; clear hk; have c1:=hP.rd.c1)
  | (go_at_call 135; refine (number_none hP hs (by omega) H3.out).mono ?_; clear hP; rintro e w2 ⟨rfl,hP,hk⟩; replace hK:=hK.trans hk; clear hk; have c2:=hP.rd.c2)
  | (go_at_call 62; refine (isN hP hs (by have:=HD.out; omega) (by omega)).mono ?_; clear hP; rintro e w2 ⟨rfl,hP,hk⟩; replace hK:=hK.trans hk; clear hk)
  | (go_at_call 41; refine (failO hP).mono ?_; clear hP; rintro e w2 ⟨rfl,hB,hk⟩; replace hK:=hK.trans hk; clear hk))
 go_ret2
 unfold CntPost; rw [HE.out]
 exact ⟨⟨_,_,rfl⟩,hB,hK⟩
theorem counts_h {w:World} {R:Nat} {s:ByteArray} {p lo q hi q2:Nat} {g:Int} {v:Value} (hR:Ok w R s p g v) (hs:s.size≤120) (hp:p≤s.size) (h1:numRef s p = .ok (lo,q)) (hq:q≠p) (hc:bt s q=44) (h3:numRef s (q + 1) = .ok (hi,q2)) (hq2:q2≠q + 1) (hlt:hi < lo) :
  Calls Tryz.prog 94 #[.pointer (some ⟨R,0,none⟩)] w (CntPost s p R g v w):=by
 have HE:Hid (countsRef s p = .error (q + 1)):=by show _ = _; rw [counts_two h1 hq hc h3,if_neg hq2]; rw [if_pos hlt]
 have hpos:=numRef_pos hp h1
 have hq1:=bt_some hc (by omega)
 have H1:Hid (numRef s p = .ok (lo,q)):=h1
 have HC:Hid (bt s q=44):=hc
 have H3:Hid (numRef s (q + 1) = .ok (hi,q2)):=h3
 clear h1 hc h3
 have HQ:Hid (q2≠q + 1):=hq2
 have hpos3:=numRef_pos (by omega) H3.out
 clear hq2
 have hz:(hi:Int) < (lo:Int):=by omega
 have hK:Keeps (fun k=>k=R) w w:=Keeps.refl _ _
 go_enter Tryz.func94,Tryz.ntmps94
 go_wp2_with (first
  | (go_at_call 135; refine (number_some hR hs hp H1.out hq).mono ?_; clear hR; rintro e w2 ⟨rfl,hO,hk⟩; replace hK:=hK.trans hk; clear hk)
  | (go_at_call 62; refine (isY hO hs (by have:=HC.out; omega) (by omega)).mono ?_; clear hO; rintro e w2 ⟨rfl,hP,hk⟩; replace hK:=hK.trans hk; clear hk; have c1:=hP.rd.c1)
  | (go_at_call 135; refine (number_some hP hs (by omega) H3.out HQ.out).mono ?_; clear hP; rintro e w2 ⟨rfl,hP,hk⟩; replace hK:=hK.trans hk; clear hk; have c2:=hP.rd.c2; have f1:=hP.rd.fz 1; have c1':=hP.rd.c1)
  | (go_at_call 41; refine (failO (hP.set1 (q + 1))).mono ?_; rintro e w2 ⟨rfl,hB,hk⟩; replace hK:=(hK.setCell (fun _=>rfl) _).trans hk; clear hk)
  | (go_at_call 62; refine (isB hB (by omega)).mono ?_; clear hB; rintro e w2 ⟨rfl,hB,hk⟩; replace hK:=hK.trans hk; clear hk)
  | (go_at_call 41; refine (failB hB).mono ?_; clear hB; rintro e w2 ⟨rfl,hB,hk⟩; replace hK:=hK.trans hk; clear hk))
 go_ret2
 unfold CntPost; rw [HE.out]
 exact ⟨⟨_,_,rfl⟩,hB,hK⟩
theorem counts_i {w:World} {R:Nat} {s:ByteArray} {p lo q hi q2:Nat} {g:Int} {v:Value} (hR:Ok w R s p g v) (hs:s.size≤120) (hp:p≤s.size) (h1:numRef s p = .ok (lo,q)) (hq:q≠p) (hc:bt s q=44) (h3:numRef s (q + 1) = .ok (hi,q2)) (hq2:q2≠q + 1) (hlt:¬ hi < lo) (hd:bt s q2=125) :
  Calls Tryz.prog 94 #[.pointer (some ⟨R,0,none⟩)] w (CntPost s p R g v w):=by
 have HE:Hid (countsRef s p = .ok ((lo:Int),(hi:Int),q2 + 1)):=by show _ = _; rw [counts_two h1 hq hc h3,if_neg hq2]; rw [if_neg hlt]; simp [hd]
 have hpos:=numRef_pos hp h1
 have hq1:=bt_some hc (by omega)
 have H1:Hid (numRef s p = .ok (lo,q)):=h1
 have HC:Hid (bt s q=44):=hc
 have H3:Hid (numRef s (q + 1) = .ok (hi,q2)):=h3
 clear h1 hc h3
 have HQ:Hid (q2≠q + 1):=hq2
 have hpos3:=numRef_pos (by omega) H3.out
 clear hq2
 have hz:¬ (hi:Int) < (lo:Int):=by omega
 have HD:Hid (bt s q2=125):=hd
 clear hd
 have hK:Keeps (fun k=>k=R) w w:=Keeps.refl _ _
 go_enter Tryz.func94,Tryz.ntmps94
 go_wp2_with (first
  | (go_at_call 135; refine (number_some hR hs hp H1.out hq).mono ?_; clear hR; rintro e w2 ⟨rfl,hO,hk⟩; replace hK:=hK.trans hk; clear hk)
  | (go_at_call 62; refine (isY hO hs (by have:=HC.out; omega) (by omega)).mono ?_; clear hO; rintro e w2 ⟨rfl,hP,hk⟩; replace hK:=hK.trans hk; clear hk; have c1:=hP.rd.c1)
  | (go_at_call 135; refine (number_some hP hs (by omega) H3.out HQ.out).mono ?_; clear hP; rintro e w2 ⟨rfl,hP,hk⟩; replace hK:=hK.trans hk; clear hk; have c2:=hP.rd.c2; have f1:=hP.rd.fz 1; have c1':=hP.rd.c1)
  | (go_at_call 62; refine (isY hP hs (by have:=HD.out; omega) (by omega)).mono ?_; clear hP; rintro e w2 ⟨rfl,hQ,hk⟩; replace hK:=hK.trans hk; clear hk))
 go_ret2
 unfold CntPost; rw [HE.out]
 exact ⟨rfl,hQ,hK⟩
theorem counts_j {w:World} {R:Nat} {s:ByteArray} {p lo q hi q2:Nat} {g:Int} {v:Value} (hR:Ok w R s p g v) (hs:s.size≤120) (hp:p≤s.size) (h1:numRef s p = .ok (lo,q)) (hq:q≠p) (hc:bt s q=44) (h3:numRef s (q + 1) = .ok (hi,q2)) (hq2:q2≠q + 1) (hlt:¬ hi < lo) (hd:bt s q2≠125) :
  Calls Tryz.prog 94 #[.pointer (some ⟨R,0,none⟩)] w (CntPost s p R g v w):=by
 have HE:Hid (countsRef s p = .error q2):=by show _ = _; rw [counts_two h1 hq hc h3,if_neg hq2]; rw [if_neg hlt]; simp [hd]
 have hpos:=numRef_pos hp h1
 have hq1:=bt_some hc (by omega)
 have H1:Hid (numRef s p = .ok (lo,q)):=h1
 have HC:Hid (bt s q=44):=hc
 have H3:Hid (numRef s (q + 1) = .ok (hi,q2)):=h3
 clear h1 hc h3
 have HQ:Hid (q2≠q + 1):=hq2
 have hpos3:=numRef_pos (by omega) H3.out
 clear hq2
 have hz:¬ (hi:Int) < (lo:Int):=by omega
 have HD:Hid (bt s q2≠125):=hd
 clear hd
 have hK:Keeps (fun k=>k=R) w w:=Keeps.refl _ _
 go_enter Tryz.func94,Tryz.ntmps94
 go_wp2_with (first
  | (go_at_call 135; refine (number_some hR hs hp H1.out hq).mono ?_; clear hR; rintro e w2 ⟨rfl,hO,hk⟩; replace hK:=hK.trans hk; clear hk)
  | (go_at_call 62; refine (isY hO hs (by have:=HC.out; omega) (by omega)).mono ?_; clear hO; rintro e w2 ⟨rfl,hP,hk⟩; replace hK:=hK.trans hk; clear hk; have c1:=hP.rd.c1)
  | (go_at_call 135; refine (number_some hP hs (by omega) H3.out HQ.out).mono ?_; clear hP; rintro e w2 ⟨rfl,hP,hk⟩; replace hK:=hK.trans hk; clear hk; have c2:=hP.rd.c2; have f1:=hP.rd.fz 1; have c1':=hP.rd.c1)
  | (go_at_call 62; refine (isN hP hs (by have:=HD.out; omega) (by omega)).mono ?_; clear hP; rintro e w2 ⟨rfl,hP,hk⟩; replace hK:=hK.trans hk; clear hk)
  | (go_at_call 41; refine (failO hP).mono ?_; clear hP; rintro e w2 ⟨rfl,hB,hk⟩; replace hK:=hK.trans hk; clear hk))
 go_ret2
 unfold CntPost; rw [HE.out]
 exact ⟨⟨_,_,rfl⟩,hB,hK⟩
theorem counts_any {w:World} {R:Nat} {s:ByteArray} {p:Nat} {g:Int} {v:Value} (hR:Ok w R s p g v) (hs:s.size≤120) (hp:p≤s.size) :
  Calls Tryz.prog 94 #[.pointer (some ⟨R,0,none⟩)] w (CntPost s p R g v w):=by
 cases h1:numRef s p with
 | error x=>exact counts_a hR hs hp h1
 | ok r =>
   obtain ⟨lo,q⟩:=r
   by_cases hq:q=p
   ·subst hq; exact counts_b hR hs hp h1
   ·by_cases hc:bt s q=44
    ·cases h3:numRef s (q + 1) with
     | error x=>exact counts_e hR hs hp h1 hq hc h3
     | ok r =>
       obtain ⟨hi,q2⟩:=r
       by_cases hq2:q2=q + 1
       ·subst hq2
        by_cases hd:bt s (q + 1)=125
        ·exact counts_f hR hs hp h1 hq hc h3 hd
        ·exact counts_g hR hs hp h1 hq hc h3 hd
       ·by_cases hlt:hi < lo
        ·exact counts_h hR hs hp h1 hq hc h3 hq2 hlt
        ·by_cases hd:bt s q2=125
         ·exact counts_i hR hs hp h1 hq hc h3 hq2 hlt hd
         ·exact counts_j hR hs hp h1 hq hc h3 hq2 hlt hd
    ·by_cases hd:bt s q=125
     ·exact counts_c hR hs hp h1 hq hc hd
     ·exact counts_d hR hs hp h1 hq hc hd
section
variable {w:World} {R I:Nat} {s:ByteArray} {p x:Nat} {g:Int} {v:Value} {S:Bs}
theorem Ok.keeps {E:Nat→Prop} {w':World} (h:Ok w R s p g v) (k:Keeps E w w') (hE:¬ E R):Ok w' R s p g v:=⟨h.rd.keeps k hE⟩
theorem Bad.keeps {E:Nat→Prop} {w':World} (h:Bad w R s x v) (k:Keeps E w w') (hE:¬ E R):Bad w' R s x v:=by
 obtain ⟨a,g,h⟩:=h.rd
 exact ⟨a,g,h.keeps k hE⟩
theorem escapeO (hR:Ok w R s p g v) (hI:In w I S) (hne:R≠I) (hs:s.size≤120) {T:Bs} {o:Option Nat} {q:Nat} (h:escRef s p = .ok (T,o,q)) :
  Calls Tryz.prog 133 #[.pointer (some ⟨R,0,none⟩),.slice (some ⟨I,0,none⟩) 256 256] w fun e w' =>
   e = .returned (.tuple #[.int .i64 ((o.getD 0:Nat):Int),.bool o.isSome])∧Ok w' R s q g v∧In w' I (un S T)∧Keeps (Er R I) w w' :=
 (escape_any hR.rd hI hne hs).mono fun e w' hn=>by unfold EscPost at hn; rw [h] at hn; exact ⟨hn.1,⟨hn.2.1⟩,hn.2.2⟩
theorem escapeE (hR:Ok w R s p g v) (hI:In w I S) (hne:R≠I) (hs:s.size≤120) (h:escRef s p = .error x) :
  Calls Tryz.prog 133 #[.pointer (some ⟨R,0,none⟩),.slice (some ⟨I,0,none⟩) 256 256] w fun e w' =>
   e = .returned (.tuple #[.int .i64 0,.bool false])∧Bad w' R s x v∧(∃S',In w' I S')∧Keeps (Er R I) w w' :=
 (escape_any hR.rd hI hne hs).mono fun e w' hn=>by unfold EscPost at hn; rw [h] at hn; exact ⟨hn.1,⟨_,_,hn.2.1⟩,hn.2.2⟩
end
theorem isA {w:World} {R:Nat} {s:ByteArray} {p:Nat} {g:Int} {v:Value} (hR:Ok w R s p g v) (hs:s.size≤120) {b:Int} (h0:0≤b) (hlt:b < 256) :
  Calls Tryz.prog 62 #[.pointer (some ⟨R,0,none⟩),.int .u8 b] w fun e w' =>∃c:Bool,e = .returned (.bool c)∧
   Aside ((c=true∧(bt s p:Int)=b∧Ok w' R s (p + 1) g v)∨(c=false∧(bt s p:Int)≠b∧Ok w' R s p g v))∧Keeps (fun k=>k=R) w w':=by
 by_cases h:(bt s p:Int)=b
 ·exact (isY hR hs h hlt).mono fun e w' ⟨h1,h2,h3⟩=>⟨true,h1,Or.inl ⟨rfl,h,h2⟩,h3⟩
 ·exact (isN hR hs h h0).mono fun e w' ⟨h1,h2,h3⟩=>⟨false,h1,Or.inr ⟨rfl,h,h2⟩,h3⟩
theorem Tryz.infoBool:(Tryz.prog.info? 4).map (fun i=>(i.zero,i.size,i.bytes))=some (some (.bool false),1,1):=by kernel_rfl
theorem in_made {w:World} {base I:Nat} (h:w.ownsRow base 4 1 (.slice (some ⟨I,0,none⟩) 256 256) 256 (madeCells (Value.bool false).cells (256 * 1)).toList):In w I none':=by
 obtain ⟨_,⟨h1,_⟩ | ⟨g,cap,cur,h1,_,hh,_,_,hc,ht⟩⟩:=h
 ·simp at h1
 ·simp only [Value.slice.injEq,Option.some.injEq,Addr.mk.injEq,and_true,true_and] at h1
  obtain ⟨rfl,rfl⟩:=h1
  unfold In
  rw [hh]
  have e1:cur.toList=List.replicate 256 (Value.bool false):=by
   rw [List.take_of_length_le (by simp; omega)] at ht
   rw [ht]
   exact toList_madeCells_one _ _
  have e2:cur=boolArr none':=by
   apply Array.toList_inj.1
   rw [e1]
   show _=(List.range 256).map fun _=>Value.bool false
   rw [List.map_const',List.length_range]
  rw [e2]
theorem partRef_esc {s:ByteArray} {q:Nat} (h:bt s q=92):partRef s q=escRef s (q + 1):=by simp [partRef,h]
theorem partRef_self {s:ByteArray} {q:Nat} (h:bt s q≠92):partRef s q = .ok (one (bt s q),some (bt s q),q + 1):=by simp [partRef,h]
def PartAt (s:ByteArray) (q R I:Nat) (g:Int) (v:Value) (S:Bs) (lo on:Value) (w':World):Prop :=
 match partRef s q with
 | .ok (T,o,q1)=>lo = .int .i64 ((o.getD 0:Nat):Int)∧on = .bool o.isSome∧Ok w' R s q1 g v∧In w' I (un S T)
 | .error x=>lo = .int .i64 0∧on = .bool false∧Bad w' R s x v∧∃S',In w' I S'
theorem partAt_ok {s:ByteArray} {q R I:Nat} {g:Int} {v:Value} {S:Bs} {lo on:Value} {w':World} {T:Bs} {o:Option Nat} {q1:Nat} (h:partRef s q = .ok (T,o,q1))
  (h1:lo = .int .i64 ((o.getD 0:Nat):Int)) (h2:on = .bool o.isSome) (h3:Ok w' R s q1 g v) (h4:In w' I (un S T)):PartAt s q R I g v S lo on w':=by
 unfold PartAt; rw [h]; exact ⟨h1,h2,h3,h4⟩
theorem partAt_err {s:ByteArray} {q R I:Nat} {g:Int} {v:Value} {S:Bs} {lo on:Value} {w':World} {x:Nat} (h:partRef s q = .error x)
  (h1:lo = .int .i64 0) (h2:on = .bool false) (h3:Bad w' R s x v) (h4 :∃S',In w' I S'):PartAt s q R I g v S lo on w':=by
 unfold PartAt; rw [h]; exact ⟨h1,h2,h3,h4⟩
def ClsAt (s:ByteArray) (R I:Nat) (g:Int) (v:Value) (res:Except Nat (Bs×Nat)) (fu:Nat) (cnt:Value) (w':World):Prop :=
 (∃q S n,cnt = .int .i64 ((n:Nat):Int)∧n + fu≤121∧q≤s.size∧s.size - q < fu∧classLoop s fu q S (decide (n=0))=res∧Ok w' R s q g v∧In w' I S)∨
 (∃x S n,cnt = .int .i64 ((n:Nat):Int)∧n≤1000∧res = .error x∧Bad w' R s x v∧In w' I S)
theorem classLoop_err {s:ByteArray} {fu q x:Nat} {S:Bs} {fi:Bool} (hq:q < s.size) (h:bt s q≠93∨fi=true) (hi:itemRef s q = .error x):classLoop s (fu + 1) q S fi = .error x:=by
 have hb:=bt_lt hq
 rw [classLoop,if_pos ⟨by omega,h⟩,hi]
theorem classLoop_more {s:ByteArray} {fu q q1:Nat} {S S1:Bs} {fi:Bool} (hq:q < s.size) (h:bt s q≠93∨fi=true) (hi:itemRef s q = .ok (S1,q1)):classLoop s (fu + 1) q S fi=classLoop s fu q1 (un S S1) false:=by
 have hb:=bt_lt hq
 rw [classLoop,if_pos ⟨by omega,h⟩,hi]
theorem classLoop_close {s:ByteArray} {fu q:Nat} {S:Bs} (hb:bt s q=93):classLoop s (fu + 1) q S false = .ok (S,q + 1):=by
 simp [classLoop,hb]
theorem classLoop_end {s:ByteArray} {fu q:Nat} {S:Bs} {fi:Bool} (hq:¬ q < s.size):classLoop s (fu + 1) q S fi = .error q:=by
 have hb:=bt_out hq
 simp [classLoop,hb]
def Part2At (s:ByteArray) (q R I:Nat) (g:Int) (v:Value) (S:Bs) (lo on:Value) (w':World):Prop :=
 match partRef s q with
 | .ok (T,o,q1)=>lo = .int .i64 ((o.getD 0:Nat):Int)∧on = .bool o.isSome∧Ok w' R s q1 g v∧In w' I S
 | .error x=>lo = .int .i64 0∧on = .bool false∧Bad w' R s x v∧In w' I S
theorem part2At_ok {s:ByteArray} {q R I:Nat} {g:Int} {v:Value} {S:Bs} {lo on:Value} {w':World} {T:Bs} {o:Option Nat} {q1:Nat} (h:partRef s q = .ok (T,o,q1))
  (h1:lo = .int .i64 ((o.getD 0:Nat):Int)) (h2:on = .bool o.isSome) (h3:Ok w' R s q1 g v) (h4:In w' I S):Part2At s q R I g v S lo on w':=by
 unfold Part2At; rw [h]; exact ⟨h1,h2,h3,h4⟩
theorem part2At_err {s:ByteArray} {q R I:Nat} {g:Int} {v:Value} {S:Bs} {lo on:Value} {w':World} {x:Nat} (h:partRef s q = .error x)
  (h1:lo = .int .i64 0) (h2:on = .bool false) (h3:Bad w' R s x v) (h4:In w' I S):Part2At s q R I g v S lo on w':=by
 unfold Part2At; rw [h]; exact ⟨h1,h2,h3,h4⟩
theorem item_err1 {s:ByteArray} {q x:Nat} (h:partRef s q = .error x):itemRef s q = .error x:=by simp [itemRef,h]
theorem item_none {s:ByteArray} {q q1:Nat} {T:Bs} (h:partRef s q = .ok (T,none,q1)):itemRef s q = .ok (T,q1):=by simp [itemRef,h]
theorem item_one {s:ByteArray} {q q1 lo:Nat} {T:Bs} (h:partRef s q = .ok (T,some lo,q1)) (hc:¬ (bt s q1=45∧bt s (q1 + 1)≠256∧bt s (q1 + 1)≠93)):itemRef s q = .ok (T,q1):=by simp only [itemRef,h]; rw [if_neg hc]
theorem item_rng {s:ByteArray} {q q1 lo:Nat} {T:Bs} (h:partRef s q = .ok (T,some lo,q1)) (hc:bt s q1=45∧bt s (q1 + 1)≠256∧bt s (q1 + 1)≠93) {T2:Bs} {hi q2:Nat} (h2:partRef s (q1 + 1) = .ok (T2,some hi,q2)) (hl:¬ hi < lo):itemRef s q = .ok (un T (rng lo hi),q2):=by
 simp only [itemRef,h]; rw [if_pos hc]; simp only [h2]; rw [if_neg hl]
theorem item_low {s:ByteArray} {q q1 lo:Nat} {T:Bs} (h:partRef s q = .ok (T,some lo,q1)) (hc:bt s q1=45∧bt s (q1 + 1)≠256∧bt s (q1 + 1)≠93) {T2:Bs} {hi q2:Nat} (h2:partRef s (q1 + 1) = .ok (T2,some hi,q2)) (hl:hi < lo):itemRef s q = .error (q1 + 1):=by
 simp only [itemRef,h]; rw [if_pos hc]; simp only [h2]; rw [if_pos hl]
theorem item_several {s:ByteArray} {q q1 lo:Nat} {T:Bs} (h:partRef s q = .ok (T,some lo,q1)) (hc:bt s q1=45∧bt s (q1 + 1)≠256∧bt s (q1 + 1)≠93) {T2:Bs} {q2:Nat} (h2:partRef s (q1 + 1) = .ok (T2,none,q2)):itemRef s q = .error (q1 + 1):=by
 simp only [itemRef,h]; rw [if_pos hc]; simp only [h2]
theorem item_err2 {s:ByteArray} {q q1 lo x:Nat} {T:Bs} (h:partRef s q = .ok (T,some lo,q1)) (hc:bt s q1=45∧bt s (q1 + 1)≠256∧bt s (q1 + 1)≠93) (h2:partRef s (q1 + 1) = .error x):itemRef s q = .error x:=by
 simp only [itemRef,h]; rw [if_pos hc]; simp only [h2]
end Go.Proofs.YthkmmeamplmnhaaGreat
