import Derived.Test.YthkmmeamplmnhaaGreatB
set_option maxHeartbeats 1000000
set_option maxRecDepth 1000000
namespace Go.Proofs.YthkmmeamplmnhaaGreat
open Go.RowKit
set_option linter.unusedVariables false
def Er (R I:Nat):Nat→Prop:=fun k=>k=R∨k=I
theorem l1range_at {w:World} {I:Nat} {S:Bs} (h:In w I S) (a b:Int) (a0:0≤a) (a1:a≤255) (b0:0≤b) (b1:b≤255) :
  Calls Tryz.prog 132 #[.slice (some ⟨I,0,none⟩) 256 256,.int .i64 a,.int .i64 b] w fun e w'=>e = .returned (.tuple #[])∧In w' I (un S (rng a.toNat b.toNat))∧Keeps (fun k=>k=I) w w':=by
 obtain ⟨m,rfl⟩:=Int.eq_ofNat_of_zero_le a0
 obtain ⟨n,rfl⟩:=Int.eq_ofNat_of_zero_le b0
 exact l1range_any h m n (by omega) (by omega)
def EscPost (s:ByteArray) (p R I:Nat) (g:Int) (v:Value) (S:Bs) (w:World) (e:Ending) (w':World):Prop :=
 match escRef s p with
 | .ok (T,o,q)=>e = .returned (.tuple #[.int .i64 ((o.getD 0:Nat):Int),.bool o.isSome])∧Rd w' R s q (-1) g v∧In w' I (un S T)∧Keeps (Er R I) w w'
 | .error x=>e = .returned (.tuple #[.int .i64 0,.bool false])∧Rd w' R s x x g v∧(∃S',In w' I S')∧Keeps (Er R I) w w'
theorem kR {R I:Nat} {w w1 w2:World} (h:Keeps (Er R I) w w1) (k:Keeps (fun k=>k=R) w1 w2):Keeps (Er R I) w w2:=h.trans (k.mono fun _ _ h=>Or.inl h)
theorem kI {R I:Nat} {w w1 w2:World} (h:Keeps (Er R I) w w1) (k:Keeps (fun k=>k=I) w1 w2):Keeps (Er R I) w w2:=h.trans (k.mono fun _ _ h=>Or.inr h)
theorem kN {R I:Nat} {w w1 w2:World} (h:Keeps (Er R I) w w1) (k :∃n,w2=w1.drewN n):Keeps (Er R I) w w2:=by obtain ⟨n,rfl⟩:=k; exact h.drewN n
theorem escape_end {w:World} {R I:Nat} {s:ByteArray} {p:Nat} {g:Int} {v:Value} {S:Bs} (hR:Rd w R s p (-1) g v) (hI:In w I S) (hne:R≠I) (hs:s.size≤120) (hp:¬ p < s.size) :
  Calls Tryz.prog 133 #[.pointer (some ⟨R,0,none⟩),.slice (some ⟨I,0,none⟩) 256 256] w (EscPost s p R I g v S w):=by
 have HE:Hid (escRef s p = .error p):=by show _ = _; unfold escRef; rw [if_pos (bt_out hp)]
 go_enter Tryz.func133,Tryz.ntmps133
 go_wp2_with (first
  | (go_at_call 40; refine (more_no hR hs hp).mono ?_; rintro e w1 ⟨rfl,n,rfl⟩)
  | (go_at_call 41; refine (fail_ok (hR.drewN _)).mono ?_; rintro e w1 ⟨rfl,rfl⟩))
 go_ret2
 unfold EscPost; rw [HE.out]
 exact ⟨rfl,(hR.drewN _).set2 _,⟨S,hI.keeps (((Keeps.refl (fun k=>k=R) w).drewN _).setCell (fun _=>rfl) _) (fun h=>hne h.symm)⟩,((Keeps.refl _ _).drewN _).setCell (fun _=>Or.inl rfl) _⟩
theorem escape_d {w:World} {R I:Nat} {s:ByteArray} {p:Nat} {g:Int} {v:Value} {S:Bs} (hR:Rd w R s p (-1) g v) (hI:In w I S) (hne:R≠I) (hs:s.size≤120) (hp:p < s.size) (hb:bt s p=100) :
  Calls Tryz.prog 133 #[.pointer (some ⟨R,0,none⟩),.slice (some ⟨I,0,none⟩) 256 256] w (EscPost s p R I g v S w):=by
 have HE:Hid (escRef s p = .ok (rng 48 57,none,p + 1)):=by show _ = _; unfold escRef; simp [hb]
 have c0:=hR.c0
 have c1:=hR.c1
 have hpz:(p:Int) < (s.size:Int):=by omega
 have hbz:(s[p].toNat:Int)=100:=by rw [bt_in hp] at hb; omega
 clear hb
 go_enter Tryz.func133,Tryz.ntmps133
 go_wp2_with (first
  | (go_at_call 40; refine (more_yes hR hs hp).mono ?_; rintro e w1 ⟨rfl,n,rfl⟩))
 go_quiet (fail)
 have hR1:Rd ((w.drewN n).drewN nq) R s p (-1) g v:=hR
 have hI1:In ((w.drewN n).drewN nq) I S:=hI
 have hK1:Keeps (Er R I) w ((w.drewN n).drewN nq):=((Keeps.refl _ _).drewN _).drewN _
 clear c0 c1 hI
 generalize (w.drewN n).drewN nq=w1 at hR1 hI1 hK1 ⊢
 have c0:=hR1.c0
 have c1:=hR1.c1
 have f1:=hR1.fz 1
 go_wp2_with (first
  | (go_at_call 132; refine (l1range_at (by assumption) _ _ (by omega) (by omega) (by omega) (by omega)).mono ?_; rintro e w2 ⟨rfl,hI2,hk2⟩; have hR2:=Rd.keeps (by assumption) hk2 hne; have hK2:=kI (by assumption) hk2; have c2:=hR2.c1; have f2:=hR2.fz 1))
 go_ret2
 unfold EscPost; rw [HE.out]
 exact ⟨rfl,hR2.set1 _,(hI2.keeps ((Keeps.refl (fun k=>k=R) _).setCell (fun _=>rfl) _) (fun h=>hne h.symm)).congr (fun x _=>by simp [un]),hK2.setCell (fun _=>Or.inl rfl) _⟩
theorem escape_w {w:World} {R I:Nat} {s:ByteArray} {p:Nat} {g:Int} {v:Value} {S:Bs} (hR:Rd w R s p (-1) g v) (hI:In w I S) (hne:R≠I) (hs:s.size≤120) (hp:p < s.size) (hb:bt s p=119) :
  Calls Tryz.prog 133 #[.pointer (some ⟨R,0,none⟩),.slice (some ⟨I,0,none⟩) 256 256] w (EscPost s p R I g v S w):=by
 have HE:Hid (escRef s p = .ok (word,none,p + 1)):=by show _ = _; unfold escRef; simp [hb]
 have c0:=hR.c0
 have c1:=hR.c1
 have hpz:(p:Int) < (s.size:Int):=by omega
 have hbz:(s[p].toNat:Int)=119:=by rw [bt_in hp] at hb; omega
 clear hb
 go_enter Tryz.func133,Tryz.ntmps133
 go_wp2_with (first
  | (go_at_call 40; refine (more_yes hR hs hp).mono ?_; rintro e w1 ⟨rfl,n,rfl⟩))
 go_quiet (fail)
 have hR1:Rd ((w.drewN n).drewN nq) R s p (-1) g v:=hR
 have hI1:In ((w.drewN n).drewN nq) I S:=hI
 have hK1:Keeps (Er R I) w ((w.drewN n).drewN nq):=((Keeps.refl _ _).drewN _).drewN _
 clear c0 c1 hI
 generalize (w.drewN n).drewN nq=w1 at hR1 hI1 hK1 ⊢
 have c0:=hR1.c0
 have c1:=hR1.c1
 have f1:=hR1.fz 1
 go_wp2_with (first
  | (go_at_call 132; refine (l1range_at (by assumption) _ _ (by omega) (by omega) (by omega) (by omega)).mono ?_; rintro e w2 ⟨rfl,hI2,hk2⟩; have hR2:=Rd.keeps (by assumption) hk2 hne; have hK2:=kI (by assumption) hk2; have c2:=hR2.c1; have f2:=hR2.fz 1))
 go_ret2
 unfold EscPost; rw [HE.out]
 exact ⟨rfl,hR2.set1 _,(hI2.keeps ((Keeps.refl (fun k=>k=R) _).setCell (fun _=>rfl) _) (fun h=>hne h.symm)).congr (fun x _=>by simp [un,word,Bool.or_assoc]),hK2.setCell (fun _=>Or.inl rfl) _⟩
theorem escape_s {w:World} {R I:Nat} {s:ByteArray} {p:Nat} {g:Int} {v:Value} {S:Bs} (hR:Rd w R s p (-1) g v) (hI:In w I S) (hne:R≠I) (hs:s.size≤120) (hp:p < s.size) (hb:bt s p=115) :
  Calls Tryz.prog 133 #[.pointer (some ⟨R,0,none⟩),.slice (some ⟨I,0,none⟩) 256 256] w (EscPost s p R I g v S w):=by
 have HE:Hid (escRef s p = .ok (space,none,p + 1)):=by show _ = _; unfold escRef; simp [hb]
 have c0:=hR.c0
 have c1:=hR.c1
 have hpz:(p:Int) < (s.size:Int):=by omega
 have hbz:(s[p].toNat:Int)=115:=by rw [bt_in hp] at hb; omega
 clear hb
 go_enter Tryz.func133,Tryz.ntmps133
 go_wp2_with (first
  | (go_at_call 40; refine (more_yes hR hs hp).mono ?_; rintro e w1 ⟨rfl,n,rfl⟩))
 go_quiet (fail)
 have hR1:Rd ((w.drewN n).drewN nq) R s p (-1) g v:=hR
 have hI1:In ((w.drewN n).drewN nq) I S:=hI
 have hK1:Keeps (Er R I) w ((w.drewN n).drewN nq):=((Keeps.refl _ _).drewN _).drewN _
 clear c0 c1 hI
 generalize (w.drewN n).drewN nq=w1 at hR1 hI1 hK1 ⊢
 have c0:=hR1.c0
 have c1:=hR1.c1
 have f1:=hR1.fz 1
 go_wp2_with (first
  | (go_at_call 132; refine (l1range_at (by assumption) _ _ (by omega) (by omega) (by omega) (by omega)).mono ?_; rintro e w2 ⟨rfl,hI2,hk2⟩; have hR2:=Rd.keeps (by assumption) hk2 hne; have hK2:=kI (by assumption) hk2; have c2:=hR2.c1; have f2:=hR2.fz 1))
 go_ret2
 unfold EscPost; rw [HE.out]
 exact ⟨rfl,hR2.set1 _,(hI2.keeps ((Keeps.refl (fun k=>k=R) _).setCell (fun _=>rfl) _) (fun h=>hne h.symm)).congr (fun x _=>by simp [un,space,Bool.or_assoc]),hK2.setCell (fun _=>Or.inl rfl) _⟩
theorem escape_n {w:World} {R I:Nat} {s:ByteArray} {p:Nat} {g:Int} {v:Value} {S:Bs} (hR:Rd w R s p (-1) g v) (hI:In w I S) (hne:R≠I) (hs:s.size≤120) (hp:p < s.size) (hb:bt s p=110) :
  Calls Tryz.prog 133 #[.pointer (some ⟨R,0,none⟩),.slice (some ⟨I,0,none⟩) 256 256] w (EscPost s p R I g v S w):=by
 have HE:Hid (escRef s p = .ok (one 10,some 10,p + 1)):=by show _ = _; unfold escRef; simp [hb]
 have c0:=hR.c0
 have c1:=hR.c1
 have hpz:(p:Int) < (s.size:Int):=by omega
 have hbz:(s[p].toNat:Int)=110:=by rw [bt_in hp] at hb; omega
 clear hb
 go_enter Tryz.func133,Tryz.ntmps133
 go_wp2_with (first
  | (go_at_call 40; refine (more_yes hR hs hp).mono ?_; rintro e w1 ⟨rfl,n,rfl⟩))
 go_quiet (fail)
 have hR1:Rd ((w.drewN n).drewN nq) R s p (-1) g v:=hR
 have hI1:In ((w.drewN n).drewN nq) I S:=hI
 have hK1:Keeps (Er R I) w ((w.drewN n).drewN nq):=((Keeps.refl _ _).drewN _).drewN _
 clear c0 c1 hI
 generalize (w.drewN n).drewN nq=w1 at hR1 hI1 hK1 ⊢
 have c0:=hR1.c0
 have c1:=hR1.c1
 have f1:=hR1.fz 1
 have d1:(w1.setCell ⟨R,1,none⟩ (.int .i64 (p + 1))).cell? ⟨I,10,none⟩=some (.bool (S 10)):=by
  rw [World.cell?_setCell_other _ _ _ _ (by intro h; injection h with h1; exact hne h1)]; exact hI1.cell (by decide)
 have d2:(w1.setCell ⟨R,1,none⟩ (.int .i64 (p + 1))).frozen? ⟨I,10,none⟩=false:=by
  rw [World.frozen?_setCell]; exact hI1.fz _
 go_wp2
 go_ret2
 unfold EscPost; rw [HE.out]
 exact ⟨rfl,(hR1.set1 _).keeps ((Keeps.refl (fun k=>k=I) _).setCell (fun _=>rfl) _) hne,(hI1.keeps ((Keeps.refl (fun k=>k=R) _).setCell (fun _=>rfl) _) (fun h=>hne h.symm)).setOne 10,(hK1.setCell (fun _=>Or.inl rfl) _).setCell (fun _=>Or.inr rfl) _⟩
theorem escape_t {w:World} {R I:Nat} {s:ByteArray} {p:Nat} {g:Int} {v:Value} {S:Bs} (hR:Rd w R s p (-1) g v) (hI:In w I S) (hne:R≠I) (hs:s.size≤120) (hp:p < s.size) (hb:bt s p=116) :
  Calls Tryz.prog 133 #[.pointer (some ⟨R,0,none⟩),.slice (some ⟨I,0,none⟩) 256 256] w (EscPost s p R I g v S w):=by
 have HE:Hid (escRef s p = .ok (one 9,some 9,p + 1)):=by show _ = _; unfold escRef; simp [hb]
 have c0:=hR.c0
 have c1:=hR.c1
 have hpz:(p:Int) < (s.size:Int):=by omega
 have hbz:(s[p].toNat:Int)=116:=by rw [bt_in hp] at hb; omega
 clear hb
 go_enter Tryz.func133,Tryz.ntmps133
 go_wp2_with (first
  | (go_at_call 40; refine (more_yes hR hs hp).mono ?_; rintro e w1 ⟨rfl,n,rfl⟩))
 go_quiet (fail)
 have hR1:Rd ((w.drewN n).drewN nq) R s p (-1) g v:=hR
 have hI1:In ((w.drewN n).drewN nq) I S:=hI
 have hK1:Keeps (Er R I) w ((w.drewN n).drewN nq):=((Keeps.refl _ _).drewN _).drewN _
 clear c0 c1 hI
 generalize (w.drewN n).drewN nq=w1 at hR1 hI1 hK1 ⊢
 have c0:=hR1.c0
 have c1:=hR1.c1
 have f1:=hR1.fz 1
 have d1:(w1.setCell ⟨R,1,none⟩ (.int .i64 (p + 1))).cell? ⟨I,9,none⟩=some (.bool (S 9)):=by
  rw [World.cell?_setCell_other _ _ _ _ (by intro h; injection h with h1; exact hne h1)]; exact hI1.cell (by decide)
 have d2:(w1.setCell ⟨R,1,none⟩ (.int .i64 (p + 1))).frozen? ⟨I,9,none⟩=false:=by
  rw [World.frozen?_setCell]; exact hI1.fz _
 go_wp2
 go_ret2
 unfold EscPost; rw [HE.out]
 exact ⟨rfl,(hR1.set1 _).keeps ((Keeps.refl (fun k=>k=I) _).setCell (fun _=>rfl) _) hne,(hI1.keeps ((Keeps.refl (fun k=>k=R) _).setCell (fun _=>rfl) _) (fun h=>hne h.symm)).setOne 9,(hK1.setCell (fun _=>Or.inl rfl) _).setCell (fun _=>Or.inr rfl) _⟩
theorem escape_r {w:World} {R I:Nat} {s:ByteArray} {p:Nat} {g:Int} {v:Value} {S:Bs} (hR:Rd w R s p (-1) g v) (hI:In w I S) (hne:R≠I) (hs:s.size≤120) (hp:p < s.size) (hb:bt s p=114) :
  Calls Tryz.prog 133 #[.pointer (some ⟨R,0,none⟩),.slice (some ⟨I,0,none⟩) 256 256] w (EscPost s p R I g v S w):=by
 have HE:Hid (escRef s p = .ok (one 13,some 13,p + 1)):=by show _ = _; unfold escRef; simp [hb]
 have c0:=hR.c0
 have c1:=hR.c1
 have hpz:(p:Int) < (s.size:Int):=by omega
 have hbz:(s[p].toNat:Int)=114:=by rw [bt_in hp] at hb; omega
 clear hb
 go_enter Tryz.func133,Tryz.ntmps133
 go_wp2_with (first
  | (go_at_call 40; refine (more_yes hR hs hp).mono ?_; rintro e w1 ⟨rfl,n,rfl⟩))
 go_quiet (fail)
 have hR1:Rd ((w.drewN n).drewN nq) R s p (-1) g v:=hR
 have hI1:In ((w.drewN n).drewN nq) I S:=hI
 have hK1:Keeps (Er R I) w ((w.drewN n).drewN nq):=((Keeps.refl _ _).drewN _).drewN _
 clear c0 c1 hI
 generalize (w.drewN n).drewN nq=w1 at hR1 hI1 hK1 ⊢
 have c0:=hR1.c0
 have c1:=hR1.c1
 have f1:=hR1.fz 1
 have d1:(w1.setCell ⟨R,1,none⟩ (.int .i64 (p + 1))).cell? ⟨I,13,none⟩=some (.bool (S 13)):=by
  rw [World.cell?_setCell_other _ _ _ _ (by intro h; injection h with h1; exact hne h1)]; exact hI1.cell (by decide)
 have d2:(w1.setCell ⟨R,1,none⟩ (.int .i64 (p + 1))).frozen? ⟨I,13,none⟩=false:=by
  rw [World.frozen?_setCell]; exact hI1.fz _
 go_wp2
 go_ret2
 unfold EscPost; rw [HE.out]
 exact ⟨rfl,(hR1.set1 _).keeps ((Keeps.refl (fun k=>k=I) _).setCell (fun _=>rfl) _) hne,(hI1.keeps ((Keeps.refl (fun k=>k=R) _).setCell (fun _=>rfl) _) (fun h=>hne h.symm)).setOne 13,(hK1.setCell (fun _=>Or.inl rfl) _).setCell (fun _=>Or.inr rfl) _⟩
theorem escape_self {w:World} {R I:Nat} {s:ByteArray} {p:Nat} {g:Int} {v:Value} {S:Bs} (hR:Rd w R s p (-1) g v) (hI:In w I S) (hne:R≠I) (hs:s.size≤120) (hp:p < s.size)
  (hb:33≤bt s p∧bt s p < 48∨57 < bt s p∧bt s p < 65∨90 < bt s p∧bt s p < 97∨122 < bt s p∧bt s p≤126) :
  Calls Tryz.prog 133 #[.pointer (some ⟨R,0,none⟩),.slice (some ⟨I,0,none⟩) 256 256] w (EscPost s p R I g v S w):=by
 have HE:Hid (escRef s p = .ok (one (bt s p),some (bt s p),p + 1)):=by
  show _ = _; unfold escRef
  rw [if_neg (by omega),if_neg (by omega),if_neg (by omega),if_neg (by omega),if_neg (by omega),if_neg (by omega),if_neg (by omega),if_neg (by omega),if_neg]
  simp [letter,digit,printed]; omega
 have c0:=hR.c0
 have c1:=hR.c1
 have hpz:(p:Int) < (s.size:Int):=by omega
 have hc:s[p].toNat=bt s p:=(bt_in hp).symm
 have hlt:=bt_lt hp
 obtain ⟨c,hcc⟩ :∃c,bt s p=c:=⟨_,rfl⟩
 rw [hcc] at HE hb hc hlt
 clear hcc
 rcases hb with hb | hb | hb | hb <;>
 ·obtain ⟨hb1,hb2⟩:=hb
  have hcz:(c:Int) < 256:=by omega
  go_enter Tryz.func133,Tryz.ntmps133
  go_wp2_with (first
   | (go_at_call 40; refine (more_yes hR hs hp).mono ?_; rintro e w1 ⟨rfl,n,rfl⟩))
  go_quiet (fail)
  have hR1:Rd ((w.drewN n).drewN nq) R s p (-1) g v:=hR
  have hI1:In ((w.drewN n).drewN nq) I S:=hI
  have hK1:Keeps (Er R I) w ((w.drewN n).drewN nq):=((Keeps.refl _ _).drewN _).drewN _
  clear c0 c1 hI
  generalize (w.drewN n).drewN nq=w1 at hR1 hI1 hK1 ⊢
  have c0:=hR1.c0
  have c1:=hR1.c1
  have f1:=hR1.fz 1
  have d1:(w1.setCell ⟨R,1,none⟩ (.int .i64 (p + 1))).cell? ⟨I,c,none⟩=some (.bool (S c)):=by
   rw [World.cell?_setCell_other _ _ _ _ (by intro h; injection h with h1; exact hne h1)]; exact hI1.cell hlt
  have d2:(w1.setCell ⟨R,1,none⟩ (.int .i64 (p + 1))).frozen? ⟨I,c,none⟩=false:=by
   rw [World.frozen?_setCell]; exact hI1.fz _
  go_wp2
  go_ret2
  unfold EscPost; rw [HE.out]
  exact ⟨rfl,(hR1.set1 _).keeps ((Keeps.refl (fun k=>k=I) _).setCell (fun _=>rfl) _) hne,(hI1.keeps ((Keeps.refl (fun k=>k=R) _).setCell (fun _=>rfl) _) (fun h=>hne h.symm)).setOne c,(hK1.setCell (fun _=>Or.inl rfl) _).setCell (fun _=>Or.inr rfl) _⟩
theorem escape_not {w:World} {R I:Nat} {s:ByteArray} {p:Nat} {g:Int} {v:Value} {S:Bs} (hR:Rd w R s p (-1) g v) (hI:In w I S) (hne:R≠I) (hs:s.size≤120) (hp:p < s.size)
  (hb:(bt s p < 33∨126 < bt s p∨48≤bt s p∧bt s p≤57∨65≤bt s p∧bt s p≤90∨97≤bt s p∧bt s p≤122)∧bt s p≠100∧bt s p≠119∧bt s p≠115∧bt s p≠110∧bt s p≠116∧bt s p≠114∧bt s p≠120) :
  Calls Tryz.prog 133 #[.pointer (some ⟨R,0,none⟩),.slice (some ⟨I,0,none⟩) 256 256] w (EscPost s p R I g v S w):=by
 have HE:Hid (escRef s p = .error p):=by
  have hlt:=bt_lt hp
  show _ = _; unfold escRef
  rw [if_neg (by omega),if_neg (by omega),if_neg (by omega),if_neg (by omega),if_neg (by omega),if_neg (by omega),if_neg (by omega),if_neg (by omega),if_pos]
  simp [letter,digit,printed]; omega
 have c0:=hR.c0
 have c1:=hR.c1
 have hpz:(p:Int) < (s.size:Int):=by omega
 have hc:s[p].toNat=bt s p:=(bt_in hp).symm
 have hlt:=bt_lt hp
 obtain ⟨c,hcc⟩ :∃c,bt s p=c:=⟨_,rfl⟩
 rw [hcc] at hb hc hlt
 clear hcc
 obtain ⟨hb,n1,n2,n3,n4,n5,n6,n7⟩:=hb
 rcases hb with hb | hb | hb | hb | hb <;>
 ·go_enter Tryz.func133,Tryz.ntmps133
  go_wp2_with (first
   | (go_at_call 40; refine (more_yes hR hs hp).mono ?_; rintro e w1 ⟨rfl,n,rfl⟩))
  go_quiet (fail)
  have hR1:Rd ((w.drewN n).drewN nq) R s p (-1) g v:=hR
  have hI1:In ((w.drewN n).drewN nq) I S:=hI
  have hK1:Keeps (Er R I) w ((w.drewN n).drewN nq):=((Keeps.refl _ _).drewN _).drewN _
  clear c0 c1 hI
  generalize (w.drewN n).drewN nq=w1 at hR1 hI1 hK1 ⊢
  have c0:=hR1.c0
  have c1:=hR1.c1
  have f1:=hR1.fz 1
  go_wp2_with (first
   | (go_at_call 41; refine (fail_ok hR1).mono ?_; rintro e w2 ⟨rfl,rfl⟩))
  go_ret2
  unfold EscPost; rw [HE.out]
  exact ⟨rfl,hR1.set2 _,⟨S,hI1.keeps ((Keeps.refl (fun k=>k=R) _).setCell (fun _=>rfl) _) (fun h=>hne h.symm)⟩,hK1.setCell (fun _=>Or.inl rfl) _⟩
def hexAcc (s:ByteArray) (p k:Nat) (n:Int):Prop :=
 (k=0∧n=0)∨(k=1∧∃a,hexv (bt s (p + 1))=some a∧n=(a:Int))∨(k=2∧∃a b,hexv (bt s (p + 1))=some a∧hexv (bt s (p + 2))=some b∧n=((a * 16 + b:Nat):Int))
theorem hexAcc_bd {s:ByteArray} {p k:Nat} {n:Int} (h:hexAcc s p k n):0≤n∧n≤255∧(k≤1→n≤15):=by
 rcases h with ⟨_,rfl⟩ | ⟨_,a,ha,rfl⟩ | ⟨_,a,b,ha,hb,rfl⟩
 ·omega
 ·have:=hexv_lt ha; omega
 ·have:=hexv_lt ha; have:=hexv_lt hb; omega
theorem escRef_x0 {s:ByteArray} {p:Nat} (hb:bt s p=120) (h1:hexv (bt s (p + 1))=none):escRef s p = .error (p + 1):=by
 unfold escRef; simp [hb,h1]
theorem escRef_x1 {s:ByteArray} {p a:Nat} (hb:bt s p=120) (h1:hexv (bt s (p + 1))=some a) (h2:hexv (bt s (p + 2))=none):escRef s p = .error (p + 2):=by
 unfold escRef; simp [hb,h1,h2]
theorem escRef_x2 {s:ByteArray} {p a b:Nat} (hb:bt s p=120) (h1:hexv (bt s (p + 1))=some a) (h2:hexv (bt s (p + 2))=some b):escRef s p = .ok (one (a * 16 + b),some (a * 16 + b),p + 3):=by
 unfold escRef; simp [hb,h1,h2]
theorem hexAcc_err {s:ByteArray} {p k:Nat} {n:Int} (hb:bt s p=120) (h:hexAcc s p k n) (hk:k < 2) (hx:hexv (bt s (p + 1 + k))=none):escRef s p = .error (p + 1 + k):=by
 rcases h with ⟨rfl,rfl⟩ | ⟨rfl,a,ha,rfl⟩ | ⟨rfl,_⟩
 ·exact escRef_x0 hb hx
 ·exact escRef_x1 hb ha hx
 ·omega
theorem hexAcc_ok {s:ByteArray} {p:Nat} {n:Int} (hb:bt s p=120) (h:hexAcc s p 2 n) :∃m:Nat,m < 256∧n=(m:Int)∧escRef s p = .ok (one m,some m,p + 3):=by
 rcases h with ⟨h,_⟩ | ⟨h,_⟩ | ⟨_,a,b,ha,hb',rfl⟩
 ·omega
 ·omega
 ·have:=hexv_lt ha; have:=hexv_lt hb'
  exact ⟨a * 16 + b,by omega,rfl,escRef_x2 hb ha hb'⟩
theorem hexAcc_step {s:ByteArray} {p k a:Nat} {n:Int} (h:hexAcc s p k n) (hk:k < 2) (hx:hexv (bt s (p + 1 + k))=some a):hexAcc s p (k + 1) (n * 16 + (a:Int)):=by
 rcases h with ⟨rfl,rfl⟩ | ⟨rfl,b,hb,rfl⟩ | ⟨rfl,_⟩
 ·exact Or.inr (Or.inl ⟨rfl,a,hx,by omega⟩)
 ·exact Or.inr (Or.inr ⟨rfl,b,a,hb,hx,by omega⟩)
 ·omega
theorem hexi_none {b:Nat} (h:hexv b=none):hexi b = -1:=by simp [hexi,h]
theorem hexi_some {b v:Nat} (h:hexv b=some v):hexi b=(v:Int):=by simp [hexi,h]
theorem hexv_end:hexv 256=none:=by decide
theorem escape_x {w:World} {R I:Nat} {s:ByteArray} {p:Nat} {g:Int} {v:Value} {S:Bs} (hR:Rd w R s p (-1) g v) (hI:In w I S) (hne:R≠I) (hs:s.size≤120) (hp:p < s.size) (hb:bt s p=120) :
  Calls Tryz.prog 133 #[.pointer (some ⟨R,0,none⟩),.slice (some ⟨I,0,none⟩) 256 256] w (EscPost s p R I g v S w):=by
 have c0:=hR.c0
 have c1:=hR.c1
 have hpz:(p:Int) < (s.size:Int):=by omega
 have hbz:(s[p].toNat:Int)=120:=by rw [bt_in hp] at hb; omega
 have HB:Hid (bt s p=120):=hb
 clear hb
 go_enter Tryz.func133,Tryz.ntmps133
 go_wp2_with (first
  | (go_at_call 40; refine (more_yes hR hs hp).mono ?_; rintro e w1 ⟨rfl,n,rfl⟩))
 go_quiet (fail)
 have hR1:Rd ((w.drewN n).drewN nq) R s p (-1) g v:=hR
 have hI1:In ((w.drewN n).drewN nq) I S:=hI
 have hK1:Keeps (Er R I) w ((w.drewN n).drewN nq):=((Keeps.refl _ _).drewN _).drewN _
 clear c0 c1 hI
 generalize (w.drewN n).drewN nq=w1 at hR1 hI1 hK1 ⊢
 have c0:=hR1.c0
 have c1:=hR1.c1
 have f1:=hR1.fz 1
 go_wp2
 go_loopw [8,9] (fun x y wr =>∃(k:Nat) (n:Int),k≤2∧y = .int .i64 k∧x = .int .i64 n∧hexAcc s p k n∧Rd wr R s ((p + 1 + k:Nat):Int) (-1) g v∧In wr I S∧Keeps (Er R I) w wr) (fun _ y _=>2 - (intOf y).toNat)
 case atStart=>exact ⟨0,0,by omega,rfl,rfl,Or.inl ⟨rfl,rfl⟩,hR1.set1 _,hI1.keeps ((Keeps.refl (fun k=>k=R) _).setCell (fun _=>rfl) _) (fun h=>hne h.symm),hK1.setCell (fun _=>Or.inl rfl) _⟩
 case round =>
  clear c0 c1 f1 hR1 hI1 hK1 hpz hbz
  obtain ⟨k,n,hk,rfl,rfl,hacc,hR2,hI2,hK2⟩:=hrel
  have hbd:=hexAcc_bd hacc
  obtain ⟨q,hq⟩ :∃q,p + 1 + k=q:=⟨_,rfl⟩
  rw [hq] at hR2
  have c0:=hR2.c0
  have c1:=hR2.c1
  have f1:=hR2.fz 1
  have HA:Hid (hexAcc s p k n):=hacc
  have HQ:Hid (p + 1 + k=q):=hq
  have hq':p + 1 + k≤q∧q≤p + 3:=by omega
  clear hacc hq
  by_cases hlt:k < 2
  ·by_cases hin:q < s.size
   ·have hqz:(q:Int) < (s.size:Int):=by omega
    have hc:s[q].toNat=bt s q:=(bt_in hin).symm
    have hcl:=bt_lt hin
    cases hx:hexv (bt s q) with
    | none =>
      have hi:hexi (bt s q) = -1:=hexi_none hx
      have HE:Hid (escRef s p = .error q):=by
       have e:=HQ.out
       subst e
       exact hexAcc_err HB.out HA.out hlt hx
      clear hx
      go_wp2
      go_quiet (first
       | (go_at_call 40; exact Calls.quiet_of (more_yes (hR2.drewN _) hs hin))
       | (go_at_call 149; exact Calls.quiet_of_same (l1hex_any _ _ hcl)))
      go_wp2_with (first
       | (go_at_call 41; refine (fail_ok (hR2.drewN _)).mono ?_; rintro e w2 ⟨rfl,rfl⟩))
      go_ret2
      unfold EscPost; rw [HE.out]
      exact ⟨rfl,(hR2.drewN _).set2 _,⟨S,hI2.keeps (((Keeps.refl (fun k=>k=R) _).drewN _).setCell (fun _=>rfl) _) (fun h=>hne h.symm)⟩,(hK2.drewN _).setCell (fun _=>Or.inl rfl) _⟩
    | some d =>
      have hi:hexi (bt s q)=(d:Int):=hexi_some hx
      have hd:=hexv_lt hx
      have HX:Hid (hexv (bt s q)=some d):=hx
      have hn:n≤15:=hbd.2.2 (by omega)
      obtain ⟨hn0,_,_⟩:=hbd
      clear hx
      go_wp2
      go_quiet (first
       | (go_at_call 40; exact Calls.quiet_of (more_yes (hR2.drewN _) hs hin))
       | (go_at_call 149; exact Calls.quiet_of_same (l1hex_any _ _ hcl)))
      replace hR2:=hR2.drewN nq
      replace hI2:=hI2.drewN nq
      replace hK2:=hK2.drewN nq
      clear c0 c1 f1
      generalize wr.drewN nq=w3 at hR2 hI2 hK2 ⊢
      have c0:=hR2.c0
      have c1:=hR2.c1
      have f1:=hR2.fz 1
      go_wp2
      go_quiet ((go_at_call 149; exact Calls.quiet_of_same (l1hex_any _ _ hcl)))
      go_wp2
      go_roundw
      case rel =>
       refine ⟨k + 1,n * 16 + (d:Int),by omega,by go_num,by go_num,?_,?_,?_,?_⟩
       ·have e:=HQ.out
        have hx:=HX.out
        rw [← e] at hx
        exact hexAcc_step HA.out hlt hx
       ·have e:=HQ.out
        have:=(hR2.drewN nq).set1 ((q:Int) + 1)
        have e2:((q:Int) + 1)=((p + 1 + (k + 1):Nat):Int):=by omega
        rw [← e2]
        exact this
       ·exact hI2.keeps (((Keeps.refl (fun k=>k=R) _).drewN _).setCell (fun _=>rfl) _) (fun h=>hne h.symm)
       ·exact (hK2.drewN _).setCell (fun _=>Or.inl rfl) _
      case measure=>simp [intOf]; omega
   ·have HE:Hid (escRef s p = .error q):=by
     have e:=HQ.out
     have hx:hexv (bt s q)=none:=by rw [bt_out hin]; exact hexv_end
     subst e
     exact hexAcc_err HB.out HA.out hlt hx
    go_wp2
    go_quiet ((go_at_call 40; exact Calls.quiet_of (more_no (hR2.drewN _) hs hin)))
    go_wp2_with (first
     | (go_at_call 41; refine (fail_ok (hR2.drewN _)).mono ?_; rintro e w2 ⟨rfl,rfl⟩))
    go_ret2
    unfold EscPost; rw [HE.out]
    exact ⟨rfl,(hR2.drewN _).set2 _,⟨S,hI2.keeps (((Keeps.refl (fun k=>k=R) _).drewN _).setCell (fun _=>rfl) _) (fun h=>hne h.symm)⟩,(hK2.drewN _).setCell (fun _=>Or.inl rfl) _⟩
  ·obtain rfl:k=2:=by omega
   obtain ⟨m,hm,hnm,he⟩:=hexAcc_ok HB.out HA.out
   have HE:Hid (escRef s p = .ok (one m,some m,p + 3)):=he
   have hmz:(m:Int) < 256:=by omega
   obtain rfl:q=p + 3:=by have:=HQ.out; omega
   have d1:=hI2.cell hm
   have d2:=hI2.fz m
   subst hnm
   clear he
   go_wp2
   go_ret2
   unfold EscPost; rw [HE.out]
   exact ⟨rfl,hR2.keeps ((Keeps.refl (fun k=>k=I) _).setCell (fun _=>rfl) _) hne,hI2.setOne m,hK2.setCell (fun _=>Or.inr rfl) _⟩
theorem escape_any {w:World} {R I:Nat} {s:ByteArray} {p:Nat} {g:Int} {v:Value} {S:Bs} (hR:Rd w R s p (-1) g v) (hI:In w I S) (hne:R≠I) (hs:s.size≤120) :
  Calls Tryz.prog 133 #[.pointer (some ⟨R,0,none⟩),.slice (some ⟨I,0,none⟩) 256 256] w (EscPost s p R I g v S w):=by
 by_cases hp:p < s.size
 ·by_cases h1:bt s p=100
  ·exact escape_d hR hI hne hs hp h1
  by_cases h2:bt s p=119
  ·exact escape_w hR hI hne hs hp h2
  by_cases h3:bt s p=115
  ·exact escape_s hR hI hne hs hp h3
  by_cases h4:bt s p=110
  ·exact escape_n hR hI hne hs hp h4
  by_cases h5:bt s p=116
  ·exact escape_t hR hI hne hs hp h5
  by_cases h6:bt s p=114
  ·exact escape_r hR hI hne hs hp h6
  by_cases h7:bt s p=120
  ·exact escape_x hR hI hne hs hp h7
  by_cases h8:bt s p < 33∨126 < bt s p∨48≤bt s p∧bt s p≤57∨65≤bt s p∧bt s p≤90∨97≤bt s p∧bt s p≤122
  ·exact escape_not hR hI hne hs hp ⟨h8,h1,h2,h3,h4,h5,h6,h7⟩
  ·exact escape_self hR hI hne hs hp (by omega)
 ·exact escape_end hR hI hne hs hp
def NumPost (s:ByteArray) (p R:Nat) (g:Int) (v:Value) (w:World) (e:Ending) (w':World):Prop :=
 match numRef s p with
 | .ok (n,q)=>e = .returned (.int .i64 (if q=p then -1 else (n:Int)))∧Rd w' R s q (-1) g v∧Keeps (fun k=>k=R) w w'
 | .error x=>e = .returned (.int .i64 0)∧Rd w' R s x x g v∧Keeps (fun k=>k=R) w w'
theorem numLoop_done {s:ByteArray} {from_ fu p n:Nat} (h:digit (bt s p)=false):numLoop s from_ (fu + 1) p n = .ok (n,p):=by simp [numLoop,h]
theorem numLoop_big {s:ByteArray} {from_ fu p n:Nat} (h:digit (bt s p)=true) (hb:50 < n * 10 + (bt s p - 48)):numLoop s from_ (fu + 1) p n = .error from_:=by simp [numLoop,h,hb]
theorem numLoop_more {s:ByteArray} {from_ fu p n:Nat} (h:digit (bt s p)=true) (hb:¬ 50 < n * 10 + (bt s p - 48)):numLoop s from_ (fu + 1) p n=numLoop s from_ fu (p + 1) (n * 10 + (bt s p - 48)):=by simp [numLoop,h,hb]
theorem number_any {w:World} {R:Nat} {s:ByteArray} {p:Nat} {g:Int} {v:Value} (hR:Rd w R s p (-1) g v) (hs:s.size≤120) (hp:p≤s.size) :
  Calls Tryz.prog 135 #[.pointer (some ⟨R,0,none⟩)] w (NumPost s p R g v w):=by
 have c1:=hR.c1
 go_enter Tryz.func135,Tryz.ntmps135
 go_wp2
 go_loopg [3] (s.size + 1) (fun fu x wr =>∃n q:Nat,n≤50∧p≤q∧q≤s.size∧s.size - q < fu∧x = .int .i64 n∧Aside (numLoop s p fu q n=numRef s p)∧Rd wr R s q (-1) g v∧Keeps (fun k=>k=R) w wr)
 case atStart=>exact ⟨0,p,by omega,by omega,hp,by omega,rfl,rfl,hR,Keeps.refl _ _⟩
 case round =>
  clear c1
  obtain ⟨n,q,hn,hpq,hq,hfu,rfl,HN,hR2,hK2⟩:=hrel
  obtain ⟨fu,rfl⟩ :∃f,gk=f + 1:=⟨gk - 1,by omega⟩
  have c0:=hR2.c0
  have c1:=hR2.c1
  have f1:=hR2.fz 1
  by_cases hd:digit (bt s q)=true
  ·have hin:=digit_in hd
   have hqz:(q:Int) < (s.size:Int):=by omega
   have hc:s[q].toNat=bt s q:=(bt_in hin).symm
   have hcl:=bt_lt hin
   have hd':48≤bt s q∧bt s q≤57:=by simpa [digit] using hd
   obtain ⟨d1,d2⟩:=hd'
   obtain ⟨d,hdd⟩ :∃d,bt s q=d:=⟨_,rfl⟩
   rw [hdd] at hc hcl d1 d2
   have z1:(48:Int)≤(d:Int):=by omega
   have z2:(d:Int)≤57:=by omega
   go_wp2
   go_quiet ((go_at_call 40; exact Calls.quiet_of (more_yes (hR2.drewN _) hs hin)))
   replace hR2:=hR2.drewN nq
   replace hK2:=hK2.drewN nq
   clear c0 c1 f1
   generalize wr.drewN nq=w3 at hR2 hK2 ⊢
   have c0:=hR2.c0
   have c1:=hR2.c1
   have f1:=hR2.fz 1
   go_wp2
   go_quiet (fail)
   replace hR2:=hR2.drewN nq
   replace hK2:=hK2.drewN nq
   clear c0 c1 f1
   generalize w3.drewN nq=w4 at hR2 hK2 ⊢
   have c1:=hR2.c1
   have f1:=hR2.fz 1
   by_cases hbig:50 < n * 10 + (d - 48)
   ·have HE:Hid (numRef s p = .error p):=by
     have:=HN.out
     show _ = _; rw [← this]; exact numLoop_big hd (by rw [hdd]; exact hbig)
    go_wp2_with (first
     | (go_at_call 41; refine (fail_ok (hR2.set1 _)).mono ?_; rintro e w5 ⟨rfl,rfl⟩))
    go_ret
    unfold NumPost; rw [HE.out]
    exact ⟨rfl,(hR2.set1 _).set2 _,(hK2.setCell (fun _=>rfl) _).setCell (fun _=>rfl) _⟩
   ·have HE:Hid (numLoop s p fu (q + 1) (n * 10 + (d - 48))=numRef s p):=by
     have:=HN.out
     show _ = _; rw [← this]; rw [numLoop_more hd (by rw [hdd]; exact hbig),hdd]
    go_wp2
    go_roundg fu
    case measure=>omega
    case rel =>
     refine ⟨n * 10 + (d - 48),q + 1,by omega,by omega,by omega,by omega,by go_num,HE,?_,hK2.setCell (fun _=>rfl) _⟩
     have:=hR2.set1 ((q:Int) + 1)
     have e2:((q:Int) + 1)=((q + 1:Nat):Int):=by omega
     rw [← e2]; exact this
  ·have hd':digit (bt s q)=false:=by simpa using hd
   have HE:Hid (numRef s p = .ok (n,q)):=by
    have:=HN.out
    show _ = _; rw [← this]; exact numLoop_done hd'
   by_cases hin:q < s.size
   ·have hqz:(q:Int) < (s.size:Int):=by omega
    have hc:s[q].toNat=bt s q:=(bt_in hin).symm
    have hcl:=bt_lt hin
    obtain ⟨d,hdd⟩ :∃d,bt s q=d:=⟨_,rfl⟩
    rw [hdd] at hc hcl hd'
    clear hd hdd
    rcases (show (¬ (48:Int)≤(d:Int))∨((48:Int)≤(d:Int)∧¬ (d:Int)≤57) from by simp [digit] at hd'; omega) with z1 | ⟨z1,z2⟩
    ·have z1':decide ((48:Int)≤(d:Int))=false:=by simpa using z1
     go_wp2
     go_quiet ((go_at_call 40; exact Calls.quiet_of (more_yes (hR2.drewN _) hs hin)))
     by_cases hqp:q=p
     ·subst hqp
      go_wp2
      go_ret
      unfold NumPost; rw [HE.out]
      exact ⟨ret_int (by simp),hR2.drewN _,hK2.drewN _⟩
     ·go_wp2
      go_ret
      unfold NumPost; rw [HE.out]
      exact ⟨ret_int (by simp [hqp]),hR2.drewN _,hK2.drewN _⟩
    ·have z2':decide ((d:Int)≤57)=false:=by simpa using z2
     go_wp2
     go_quiet ((go_at_call 40; exact Calls.quiet_of (more_yes (hR2.drewN _) hs hin)))
     by_cases hqp:q=p
     ·subst hqp
      go_wp2
      go_ret
      unfold NumPost; rw [HE.out]
      exact ⟨ret_int (by simp),hR2.drewN _,hK2.drewN _⟩
     ·go_wp2
      go_ret
      unfold NumPost; rw [HE.out]
      exact ⟨ret_int (by simp [hqp]),hR2.drewN _,hK2.drewN _⟩
   ·go_wp2
    go_quiet ((go_at_call 40; exact Calls.quiet_of (more_no (hR2.drewN _) hs hin)))
    by_cases hqp:q=p
    ·subst hqp
     go_wp2
     go_ret
     unfold NumPost; rw [HE.out]
     exact ⟨ret_int (by simp),hR2.drewN _,hK2.drewN _⟩
    ·go_wp2
     go_ret
     unfold NumPost; rw [HE.out]
     exact ⟨ret_int (by simp [hqp]),hR2.drewN _,hK2.drewN _⟩
end Go.Proofs.YthkmmeamplmnhaaGreat
