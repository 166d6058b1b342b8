import Derived.Test.YthkmmeamplmnhaaGreatF
import Derived.Test.YthkmmeamplmnhaaGreatG
set_option maxHeartbeats 1000000
set_option maxRecDepth 1000000
namespace Go.Proofs.YthkmmeamplmnhaaGreat
open Go.RowKit
set_option linter.unusedVariables false
section
variable {w:World} {R p x:Nat} {s:ByteArray} {g:Int} {v:Value}
theorem classO (hR:Ok w R s p g v) (hs:s.size≤120) (hp:p≤s.size) {S:Bs} {q:Nat} (h:classRef s p = .ok (S,q)) :
  Calls Tryz.prog 131 #[.pointer (some ⟨R,0,none⟩)] w fun e w' =>∃sv,e = .returned sv∧Ok w' R s q g v∧w'.ownsRow w.heap.size 102 2 sv (ranges S).length (flatR (ranges S))∧Keeps (fun k=>k=R) w w' :=
 (class_any hR hs hp).mono fun e w' hn=>by unfold ClsPost at hn; rw [h] at hn; exact hn
theorem classE (hR:Ok w R s p g v) (hs:s.size≤120) (hp:p≤s.size) (h:classRef s p = .error x) :
  Calls Tryz.prog 131 #[.pointer (some ⟨R,0,none⟩)] w fun e w'=>e = .returned (.slice none 0 0)∧Bad w' R s x v∧Keeps (fun k=>k=R) w w' :=
 (class_any hR hs hp).mono fun e w' hn=>by unfold ClsPost at hn; rw [h] at hn; exact hn
end
theorem atom_set {w:World} {R p g deep B:Nat} {s:ByteArray} {v:Value} {L:List Pm} {alt:Nat→Nat→Rd3} {room:Bool} (S:Sp w R s p (-1) g v L) (hs:s.size≤120) (hp:p < s.size) (hL:L.length≤2000) (hB:L.length + 1≤B) (hb:bt s p=91) {T:Bs} {q:Nat} (he:classRef s (p + 1) = .ok (T,q)) :
  Calls Tryz.prog 93 #[.pointer (some ⟨R,0,none⟩),.int .i64 deep] w (Post (atomRef alt room s p g) R s B w v L):=by
 obtain ⟨i0,hi,hz0,hz1,hz2⟩:=info_parts Tryz.infoBool
 have HE:Hid (atomRef alt room s p g = .ok (setPf T,q,g)):=by show _ = _; simp [atomRef,hb,he]
 have HX:Hid (classRef s (p + 1) = .ok (T,q)):=he
 clear he
 have c0:=S.rd.c0
 have c1:=S.rd.c1
 have hpz:(p:Int) < (s.size:Int):=by omega
 have hc:s[p].toNat=91:=by rw [← hb,bt_in hp]
 clear hb
 go_enter Tryz.func93,Tryz.ntmps93
 go_wp2
 go_quiet (fail)
 have st:Stp R w v (w.drewN nq) v:=(Stp.refl _ _ _).same ((Keeps.refl _ _).drewN _)
 have S1:Sp (w.drewN nq) R s p (-1) g v L:=S.drewN nq
 have hwI:w.heap.size≤(w.drewN nq).heap.size:=Nat.le_refl _
 clear c0 c1 S
 generalize w.drewN nq=w1 at st S1 hwI ⊢
 go_wp2_with (first
  | (at_make; refine wpList_make_full _ rfl _ _ 45 rfl w1.heap.size 4 i0 (.bool false) 1 Tryz.underlying45 hi hz0 hz1 _ _ _ _ 256 rfl rfl rfl rfl (by rw [hz2]; decide) (by unfold maxLen; omega) (Nat.le_refl _) ?_; intro w2 ho hg; replace st:=st.same ((Keeps.refl (fun _=>False) _).grown hg (by simp)); have S2:=S1.same ((Keeps.refl (fun _=>False) _).grown hg (by simp)); have hI2:=in_made ho; have c1:=S2.rd.c1; have f1:=S2.rd.fz 1)
  | (go_at_call 131; refine (classO ⟨S2.inc.rd⟩ hs (by omega) HX.out).mono ?_; rintro e w4 ⟨sv,rfl,hO4,hown,hk4⟩; obtain ⟨ao,cap,rfl⟩:=own_form hown; have S4:=S2.inc.atR hk4 hO4.rd; have st4:=(st.onR (keepsR w2 R 1 (.int .i64 ((p:Int) + 1)))).onR hk4)
  | (go_at_call 63; refine (addP S4 (setPc _,.slice ao _ cap,.slice none 0 0) (owned_set hown) (by omega) st4 (New.refl _ _) (by simp [Value.ownBlock])).mono ?_; rintro e w6 ⟨rfl,v6,S6,st6,hn6⟩))
 go_ret
 exact post_ok HE.out S6 (by simp [setPf]) (by simp [setPf]) st6 hn6
theorem atom_setbad {w:World} {R p g deep B:Nat} {s:ByteArray} {v:Value} {L:List Pm} {alt:Nat→Nat→Rd3} {room:Bool} (S:Sp w R s p (-1) g v L) (hs:s.size≤120) (hp:p < s.size) (hL:L.length≤2000) (hB:L.length + 1≤B) (hb:bt s p=91) {x:Nat} (he:classRef s (p + 1) = .error x) :
  Calls Tryz.prog 93 #[.pointer (some ⟨R,0,none⟩),.int .i64 deep] w (Post (atomRef alt room s p g) R s B w v L):=by
 obtain ⟨i0,hi,hz0,hz1,hz2⟩:=info_parts Tryz.infoBool
 have HE:Hid (atomRef alt room s p g = .error x):=by show _ = _; simp [atomRef,hb,he]
 have HX:Hid (classRef s (p + 1) = .error x):=he
 clear he
 have c0:=S.rd.c0
 have c1:=S.rd.c1
 have hpz:(p:Int) < (s.size:Int):=by omega
 have hc:s[p].toNat=91:=by rw [← hb,bt_in hp]
 clear hb
 go_enter Tryz.func93,Tryz.ntmps93
 go_wp2
 go_quiet (fail)
 have st:Stp R w v (w.drewN nq) v:=(Stp.refl _ _ _).same ((Keeps.refl _ _).drewN _)
 have S1:Sp (w.drewN nq) R s p (-1) g v L:=S.drewN nq
 have hwI:w.heap.size≤(w.drewN nq).heap.size:=Nat.le_refl _
 clear c0 c1 S
 generalize w.drewN nq=w1 at st S1 hwI ⊢
 go_wp2_with (first
  | (at_make; refine wpList_make_full _ rfl _ _ 45 rfl w1.heap.size 4 i0 (.bool false) 1 Tryz.underlying45 hi hz0 hz1 _ _ _ _ 256 rfl rfl rfl rfl (by rw [hz2]; decide) (by unfold maxLen; omega) (Nat.le_refl _) ?_; intro w2 ho hg; replace st:=st.same ((Keeps.refl (fun _=>False) _).grown hg (by simp)); have S2:=S1.same ((Keeps.refl (fun _=>False) _).grown hg (by simp)); have hI2:=in_made ho; have c1:=S2.rd.c1; have f1:=S2.rd.fz 1)
  | (go_at_call 131; refine (classE ⟨S2.inc.rd⟩ hs (by omega) HX.out).mono ?_; rintro e w4 ⟨rfl,hB4,hk4⟩; obtain ⟨a4,g4,r4⟩:=hB4.rd; have S4:=S2.inc.atR hk4 r4; have st4:=(st.onR (keepsR w2 R 1 (.int .i64 ((p:Int) + 1)))).onR hk4)
  | (go_at_call 63; refine (addP S4 (plainPc 1,.slice none 0 0,.slice none 0 0) (owned_plain _ _) (by omega) st4 (New.refl _ _) (by simp [Value.ownBlock])).mono ?_; rintro e w6 ⟨rfl,v6,S6,st6,hn6⟩))
 go_ret
 exact post_err HE.out S6 (by simp; omega) st6 hn6
theorem atom_grpno {w:World} {R p g deep B:Nat} {s:ByteArray} {v:Value} {L:List Pm} {alt:Nat→Nat→Rd3} {room:Bool} (S:Sp w R s p (-1) g v L) (hs:s.size≤120) (hp:p < s.size) (hL:L.length≤2000) (hB:L.length + 1≤B) (hb:bt s p=40) (he:g=9∨room=false) (hroom:room=false→deep=6) :
  Calls Tryz.prog 93 #[.pointer (some ⟨R,0,none⟩),.int .i64 deep] w (Post (atomRef alt room s p g) R s B w v L):=by
 obtain ⟨i0,hi,hz0,hz1,hz2⟩:=info_parts Tryz.infoBool
 have HE:Hid (atomRef alt room s p g = .error p):=by show _ = _; unfold atomRef; rw [if_pos hb,if_pos he]
 have c0:=S.rd.c0
 have c1:=S.rd.c1
 have hno:g=9∨(g≠9∧deep=6):=by
  by_cases e:g=9
  ·exact Or.inl e
  ·exact Or.inr ⟨e,hroom (he.resolve_left e)⟩
 clear he hroom
 have hpz:(p:Int) < (s.size:Int):=by omega
 have hc:s[p].toNat=40:=by rw [← hb,bt_in hp]
 clear hb
 go_enter Tryz.func93,Tryz.ntmps93
 go_wp2
 go_quiet (fail)
 have st:Stp R w v (w.drewN nq) v:=(Stp.refl _ _ _).same ((Keeps.refl _ _).drewN _)
 have S1:Sp (w.drewN nq) R s p (-1) g v L:=S.drewN nq
 have hwI:w.heap.size≤(w.drewN nq).heap.size:=Nat.le_refl _
 clear c0 c1 S
 generalize w.drewN nq=w1 at st S1 hwI ⊢
 rcases hno with rfl | ⟨hg9,rfl⟩
 ·go_wp2_with (first
   | (at_make; refine wpList_make_full _ rfl _ _ 45 rfl w1.heap.size 4 i0 (.bool false) 1 Tryz.underlying45 hi hz0 hz1 _ _ _ _ 256 rfl rfl rfl rfl (by rw [hz2]; decide) (by unfold maxLen; omega) (Nat.le_refl _) ?_; intro w2 ho hg; replace st:=st.same ((Keeps.refl (fun _=>False) _).grown hg (by simp)); have S2:=S1.same ((Keeps.refl (fun _=>False) _).grown hg (by simp)); have hI2:=in_made ho; have c1:=S2.rd.c1; have f1:=S2.rd.fz 1; have c3:=S2.rd.c3)
   | (go_at_call 41; refine (failO ⟨S2.rd⟩).mono ?_; rintro e w3 ⟨rfl,hB3,hk⟩))
  go_ret
  obtain ⟨a3,g3,r3⟩:=hB3.rd
  exact post_err HE.out (S2.atR hk r3) (by omega) (st.onR hk) (New.refl _ _)
 ·have hgz:((g:Int) == 9)=false:=by
   have:¬ (g:Int)=9:=by omega
   simpa using this
  go_wp2_with (first
   | (at_make; refine wpList_make_full _ rfl _ _ 45 rfl w1.heap.size 4 i0 (.bool false) 1 Tryz.underlying45 hi hz0 hz1 _ _ _ _ 256 rfl rfl rfl rfl (by rw [hz2]; decide) (by unfold maxLen; omega) (Nat.le_refl _) ?_; intro w2 ho hg; replace st:=st.same ((Keeps.refl (fun _=>False) _).grown hg (by simp)); have S2:=S1.same ((Keeps.refl (fun _=>False) _).grown hg (by simp)); have hI2:=in_made ho; have c1:=S2.rd.c1; have f1:=S2.rd.fz 1; have c3:=S2.rd.c3)
   | (go_at_call 41; refine (failO ⟨S2.rd⟩).mono ?_; rintro e w3 ⟨rfl,hB3,hk⟩))
  go_ret
  obtain ⟨a3,g3,r3⟩:=hB3.rd
  exact post_err HE.out (S2.atR hk r3) (by omega) (st.onR hk) (New.refl _ _)
theorem Sp.incg {w:World} {R g:Nat} {s:ByteArray} {a b:Int} {v:Value} {L:List Pm} (h:Sp w R s a b g v L):Sp (w.setCell ⟨R,3,none⟩ (.int .i64 ((g:Int) + 1))) R s a b ((g + 1:Nat):Int) v L :=
 h.atR ((Keeps.refl (fun k=>k=R) _).setCell (fun _=>rfl) _) (h.rd.set3 _)
theorem owned_kid (w:World) (c:Pc) (r:Int) (hs:c.set = []) (hk:c.kids = [r]):Owned (w.alloc (.cells #[.int .i64 r] 3)) (c,.slice none 0 0,.slice (some ⟨w.heap.size,0,none⟩) 1 1):=by
 refine ⟨by rw [hs]; exact own_nil _ _ _,?_⟩
 rw [hk]
 exact World.ownsRow_lit w #[.int .i64 r] 1 (Nat.zero_le _) (by unfold maxLen; omega) rfl
def grpPc (num r:Int):Pc := { kind:=5,set := [],min:=0,max:=0,lazy:=false,num:=num,kids := [r] }
def AltC (s:ByteArray) (alt:Nat→Nat→Rd3) (deep B:Nat):Prop :=
 ∀ (w:World) (R p g:Nat) (v:Value) (L:List Pm),Sp w R s p (-1) g v L→s.size≤120→p≤s.size→g≤9→L.length + 3 * (s.size - p)≤1000→
   Calls Tryz.prog 39 #[.pointer (some ⟨R,0,none⟩),.int .i64 deep] w (Post (alt p g) R s B w v L)
theorem post_len {f:Pf} {L L':List Pm} (h:L'.map (·.1)=L.map (·.1) ++ f L.length):L'.length=L.length + (f L.length).length:=by
 have:=congrArg List.length h
 simpa using this
theorem atom_grpA {w:World} {R p g deep B:Nat} {s:ByteArray} {v:Value} {L:List Pm} {alt:Nat→Nat→Rd3} {room:Bool} (S:Sp w R s p (-1) g v L) (hs:s.size≤120) (hp:p < s.size) (G:Good s alt) (hb:bt s p=40) (hg:g≤9) (hg9:g≠9) (hroom:room=true) (hdeep:deep < 6) (hF:L.length + 3 * (s.size - p)≤1000) {BA:Nat} (hA:AltC s alt (deep + 1) BA) (hBA:BA + 1≤B) (hB2:1005≤B) (hBA2:BA≤5000) {x:Nat} (he:alt (p + 1) (g + 1) = .error x) :
  Calls Tryz.prog 93 #[.pointer (some ⟨R,0,none⟩),.int .i64 deep] w (Post (atomRef alt room s p g) R s B w v L):=by
 obtain ⟨i0,hi,hz0,hz1,hz2⟩:=info_parts Tryz.infoBool
 have HE:Hid (atomRef alt room s p g = .error x):=by
  show _ = _; unfold atomRef; rw [if_pos hb,if_neg (by simp [hg9,hroom]),he]
 have HX:Hid (alt (p + 1) (g + 1) = .error x):=he
 clear he
 have c0:=S.rd.c0
 have c1:=S.rd.c1
 have hpz:(p:Int) < (s.size:Int):=by omega
 have hc:s[p].toNat=40:=by rw [← hb,bt_in hp]
 clear hb
 have hgz:((g:Int) == 9)=false:=by
  have:¬ (g:Int)=9:=by omega
  simpa using this
 have hdz:((deep:Int) == 6)=false:=by
  have:¬ (deep:Int)=6:=by omega
  simpa using this
 go_enter Tryz.func93,Tryz.ntmps93
 go_wp2
 go_quiet (fail)
 have st:Stp R w v (w.drewN nq) v:=(Stp.refl _ _ _).same ((Keeps.refl _ _).drewN _)
 have S1:Sp (w.drewN nq) R s p (-1) g v L:=S.drewN nq
 have hwI:w.heap.size≤(w.drewN nq).heap.size:=Nat.le_refl _
 clear c0 c1 S
 generalize w.drewN nq=w1 at st S1 hwI ⊢
 go_wp2_with (first
  | (at_make; refine wpList_make_full _ rfl _ _ 45 rfl w1.heap.size 4 i0 (.bool false) 1 Tryz.underlying45 hi hz0 hz1 _ _ _ _ 256 rfl rfl rfl rfl (by rw [hz2]; decide) (by unfold maxLen; omega) (Nat.le_refl _) ?_; intro w2 ho hg; replace st:=st.same ((Keeps.refl (fun _=>False) _).grown hg (by simp)); have S2:=S1.same ((Keeps.refl (fun _=>False) _).grown hg (by simp)); have hI2:=in_made ho; have c1:=S2.rd.c1; have f1:=S2.rd.fz 1; have c30:=S2.rd.c3; have c3:=S2.inc.rd.c3; have f3:=S2.inc.rd.fz 3; have S3:=S2.inc.incg; have c3':=S3.rd.c3; have st3:=(st.onR (keepsR w2 R 1 (.int .i64 ((p:Int) + 1)))).onR (keepsR _ R 3 (.int .i64 ((g:Int) + 1))))
  | (go_at_call 39; refine (hA _ _ _ _ _ _ S3 hs (by omega) (by omega) (by omega)).mono ?_; intro e w4 hpo; unfold Post at hpo; rw [HX.out] at hpo; obtain ⟨r,v4,L4,rfl,hS4,hB4,st4,hn4⟩:=hpo; obtain ⟨a4,g4,S4⟩:=hS4; replace st4:=st3.trans st4; replace hn4:New w L L4:=(New.refl w L).trans hn4 st3.keeps.size)
  | (go_at_call 62; refine (isB ⟨_,_,S4.rd⟩ (by omega)).mono ?_; rintro e w5 ⟨rfl,hb5,hk5⟩; obtain ⟨a5,g5,r5⟩:=hb5.rd; have S4':=S4.atR hk5 r5; have st4':=st4.onR hk5)
  | (go_at_call 41; refine (failB ⟨_,_,S4'.rd⟩).mono ?_; rintro e w5 ⟨rfl,hb5,hk5⟩; obtain ⟨a5,g5,r5⟩:=hb5.rd; have S5:=S4'.atR hk5 r5; have st5:=st4'.onR hk5)
  | (go_at_call 63; refine (addP (S5.alloc _) (grpPc _ _,.slice none 0 0,.slice (some ⟨_,0,none⟩) 1 1) (owned_kid _ _ _ rfl rfl) (by omega) (st5.same ((Keeps.refl (fun _=>False) _).alloc _)) hn4 (by intro k hk; simp [Value.ownBlock] at hk; subst hk; exact st5.keeps.size)).mono ?_; rintro e w6 ⟨rfl,v6,S6,st6,hn6⟩))
 go_ret
 exact post_err HE.out S6 (by simp; omega) st6 hn6
theorem atom_grpB {w:World} {R p g deep B:Nat} {s:ByteArray} {v:Value} {L:List Pm} {alt:Nat→Nat→Rd3} {room:Bool} (S:Sp w R s p (-1) g v L) (hs:s.size≤120) (hp:p < s.size) (G:Good s alt) (hb:bt s p=40) (hg:g≤9) (hg9:g≠9) (hroom:room=true) (hdeep:deep < 6) (hF:L.length + 3 * (s.size - p)≤1000) {BA:Nat} (hA:AltC s alt (deep + 1) BA) (hBA:BA + 1≤B) (hB2:1005≤B) (hBA2:BA≤5000) {f:Pf} {q g':Nat} (he:alt (p + 1) (g + 1) = .ok (f,q,g')) (hq:bt s q≠41) :
  Calls Tryz.prog 93 #[.pointer (some ⟨R,0,none⟩),.int .i64 deep] w (Post (atomRef alt room s p g) R s B w v L):=by
 obtain ⟨i0,hi,hz0,hz1,hz2⟩:=info_parts Tryz.infoBool
 have hpos:=G _ _ _ _ _ (by omega) (by omega) he
 have hlen:=hpos.2.2.2 L.length
 have HE:Hid (atomRef alt room s p g = .error q):=by
  show _ = _; unfold atomRef; rw [if_pos hb,if_neg (by simp [hg9,hroom]),he]; simp only; rw [if_neg hq]
 have HX:Hid (alt (p + 1) (g + 1) = .ok (f,q,g')):=he
 have HQ:Hid (bt s q≠41):=hq
 clear he hq
 have c0:=S.rd.c0
 have c1:=S.rd.c1
 have hpz:(p:Int) < (s.size:Int):=by omega
 have hc:s[p].toNat=40:=by rw [← hb,bt_in hp]
 clear hb
 have hgz:((g:Int) == 9)=false:=by
  have:¬ (g:Int)=9:=by omega
  simpa using this
 have hdz:((deep:Int) == 6)=false:=by
  have:¬ (deep:Int)=6:=by omega
  simpa using this
 go_enter Tryz.func93,Tryz.ntmps93
 go_wp2
 go_quiet (fail)
 have st:Stp R w v (w.drewN nq) v:=(Stp.refl _ _ _).same ((Keeps.refl _ _).drewN _)
 have S1:Sp (w.drewN nq) R s p (-1) g v L:=S.drewN nq
 have hwI:w.heap.size≤(w.drewN nq).heap.size:=Nat.le_refl _
 clear c0 c1 S
 generalize w.drewN nq=w1 at st S1 hwI ⊢
 go_wp2_with (first
  | (at_make; refine wpList_make_full _ rfl _ _ 45 rfl w1.heap.size 4 i0 (.bool false) 1 Tryz.underlying45 hi hz0 hz1 _ _ _ _ 256 rfl rfl rfl rfl (by rw [hz2]; decide) (by unfold maxLen; omega) (Nat.le_refl _) ?_; intro w2 ho hg; replace st:=st.same ((Keeps.refl (fun _=>False) _).grown hg (by simp)); have S2:=S1.same ((Keeps.refl (fun _=>False) _).grown hg (by simp)); have hI2:=in_made ho; have c1:=S2.rd.c1; have f1:=S2.rd.fz 1; have c30:=S2.rd.c3; have c3:=S2.inc.rd.c3; have f3:=S2.inc.rd.fz 3; have S3:=S2.inc.incg; have c3':=S3.rd.c3; have st3:=(st.onR (keepsR w2 R 1 (.int .i64 ((p:Int) + 1)))).onR (keepsR _ R 3 (.int .i64 ((g:Int) + 1))))
  | (go_at_call 39; refine (hA _ _ _ _ _ _ S3 hs (by omega) (by omega) (by omega)).mono ?_; intro e w4 hpo; unfold Post at hpo; rw [HX.out] at hpo; obtain ⟨v4,L4,rfl,S4,hm4,st4,hn4⟩:=hpo; replace st4:=st3.trans st4; replace hn4:New w L L4:=(New.refl w L).trans hn4 st3.keeps.size)
  | (go_at_call 62; refine (isN ⟨S4.rd⟩ hs (by have:=HQ.out; omega) (by omega)).mono ?_; rintro e w5 ⟨rfl,hb5,hk5⟩; have S4':=S4.atR hk5 hb5.rd; have st4':=st4.onR hk5)
  | (go_at_call 41; refine (failO ⟨S4'.rd⟩).mono ?_; rintro e w5 ⟨rfl,hb5,hk5⟩; obtain ⟨a5,g5,r5⟩:=hb5.rd; have S5:=S4'.atR hk5 r5; have st5:=st4'.onR hk5)
  | (go_at_call 63; refine (addP (S5.alloc _) (grpPc _ _,.slice none 0 0,.slice (some ⟨_,0,none⟩) 1 1) (owned_kid _ _ _ rfl rfl) (by have:=post_len hm4; omega) (st5.same ((Keeps.refl (fun _=>False) _).alloc _)) hn4 (by intro k hk; simp [Value.ownBlock] at hk; subst hk; exact st5.keeps.size)).mono ?_; rintro e w6 ⟨rfl,v6,S6,st6,hn6⟩))
 go_ret
 exact post_err HE.out S6 (by have:=post_len hm4; simp; omega) st6 hn6
theorem atom_grpC {w:World} {R p g deep B:Nat} {s:ByteArray} {v:Value} {L:List Pm} {alt:Nat→Nat→Rd3} {room:Bool} (S:Sp w R s p (-1) g v L) (hs:s.size≤120) (hp:p < s.size) (G:Good s alt) (hb:bt s p=40) (hg:g≤9) (hg9:g≠9) (hroom:room=true) (hdeep:deep < 6) (hF:L.length + 3 * (s.size - p)≤1000) {BA:Nat} (hA:AltC s alt (deep + 1) BA) (hBA:BA + 1≤B) (hB2:1005≤B) (hBA2:BA≤5000) {f:Pf} {q g':Nat} (he:alt (p + 1) (g + 1) = .ok (f,q,g')) (hq:bt s q=41) :
  Calls Tryz.prog 93 #[.pointer (some ⟨R,0,none⟩),.int .i64 deep] w (Post (atomRef alt room s p g) R s B w v L):=by
 obtain ⟨i0,hi,hz0,hz1,hz2⟩:=info_parts Tryz.infoBool
 have hpos:=G _ _ _ _ _ (by omega) (by omega) he
 have hlen:=hpos.2.2.2 L.length
 have HE:Hid (atomRef alt room s p g = .ok (grpPf ((g:Int) + 1) f,q + 1,g')):=by
  show _ = _; unfold atomRef; rw [if_pos hb,if_neg (by simp [hg9,hroom]),he]; simp only; rw [if_pos hq]
 have HX:Hid (alt (p + 1) (g + 1) = .ok (f,q,g')):=he
 have HQ:Hid (bt s q=41):=hq
 clear he hq
 have c0:=S.rd.c0
 have c1:=S.rd.c1
 have hpz:(p:Int) < (s.size:Int):=by omega
 have hc:s[p].toNat=40:=by rw [← hb,bt_in hp]
 clear hb
 have hgz:((g:Int) == 9)=false:=by
  have:¬ (g:Int)=9:=by omega
  simpa using this
 have hdz:((deep:Int) == 6)=false:=by
  have:¬ (deep:Int)=6:=by omega
  simpa using this
 go_enter Tryz.func93,Tryz.ntmps93
 go_wp2
 go_quiet (fail)
 have st:Stp R w v (w.drewN nq) v:=(Stp.refl _ _ _).same ((Keeps.refl _ _).drewN _)
 have S1:Sp (w.drewN nq) R s p (-1) g v L:=S.drewN nq
 have hwI:w.heap.size≤(w.drewN nq).heap.size:=Nat.le_refl _
 clear c0 c1 S
 generalize w.drewN nq=w1 at st S1 hwI ⊢
 go_wp2_with (first
  | (at_make; refine wpList_make_full _ rfl _ _ 45 rfl w1.heap.size 4 i0 (.bool false) 1 Tryz.underlying45 hi hz0 hz1 _ _ _ _ 256 rfl rfl rfl rfl (by rw [hz2]; decide) (by unfold maxLen; omega) (Nat.le_refl _) ?_; intro w2 ho hg; replace st:=st.same ((Keeps.refl (fun _=>False) _).grown hg (by simp)); have S2:=S1.same ((Keeps.refl (fun _=>False) _).grown hg (by simp)); have hI2:=in_made ho; have c1:=S2.rd.c1; have f1:=S2.rd.fz 1; have c30:=S2.rd.c3; have c3:=S2.inc.rd.c3; have f3:=S2.inc.rd.fz 3; have S3:=S2.inc.incg; have c3':=S3.rd.c3; have st3:=(st.onR (keepsR w2 R 1 (.int .i64 ((p:Int) + 1)))).onR (keepsR _ R 3 (.int .i64 ((g:Int) + 1))))
  | (go_at_call 39; refine (hA _ _ _ _ _ _ S3 hs (by omega) (by omega) (by omega)).mono ?_; intro e w4 hpo; unfold Post at hpo; rw [HX.out] at hpo; obtain ⟨v4,L4,rfl,S4,hm4,st4,hn4⟩:=hpo; replace st4:=st3.trans st4; replace hn4:New w L L4:=(New.refl w L).trans hn4 st3.keeps.size)
  | (go_at_call 62; refine (isY ⟨S4.rd⟩ hs (by have:=HQ.out; omega) (by omega)).mono ?_; rintro e w5 ⟨rfl,hb5,hk5⟩; have S5:=S4.atR hk5 hb5.rd; have st5:=st4.onR hk5)
  | (go_at_call 63; refine (addP (S5.alloc _) (grpPc _ _,.slice none 0 0,.slice (some ⟨_,0,none⟩) 1 1) (owned_kid _ _ _ rfl rfl) (by have:=post_len hm4; omega) (st5.same ((Keeps.refl (fun _=>False) _).alloc _)) hn4 (by intro k hk; simp [Value.ownBlock] at hk; subst hk; exact st5.keeps.size)).mono ?_; rintro e w6 ⟨rfl,v6,S6,st6,hn6⟩))
 go_ret
 refine post_ok HE.out S6 ?_ (by have:=post_len hm4; simp [grpPf]; omega) st6 hn6
 rw [List.map_append,hm4]
 simp [grpPf,grpPc]
theorem atom_any {w:World} {R p g deep B BA:Nat} {s:ByteArray} {v:Value} {L:List Pm} {alt:Nat→Nat→Rd3} {room:Bool} (S:Sp w R s p (-1) g v L) (hs:s.size≤120) (hp:p < s.size) (G:Good s alt) (hg:g≤9)
  (hF:L.length + 3 * (s.size - p)≤1000) (hd:deep≤6) (hr:room=decide (deep < 6)) (hA:room=true→AltC s alt (deep + 1) BA) (hBA:BA + 1≤B) (hB2:1005≤B) (hBA2:BA≤5000) :
  Calls Tryz.prog 93 #[.pointer (some ⟨R,0,none⟩),.int .i64 deep] w (Post (atomRef alt room s p g) R s B w v L):=by
 have hL:L.length≤2000:=by omega
 have hB:L.length + 1≤B:=by omega
 by_cases h1:bt s p=40
 ·by_cases h2:g=9∨room=false
  ·exact atom_grpno S hs hp hL hB h1 h2 (fun h=>by rw [h] at hr; have:¬ deep < 6:=by simpa using hr.symm
                                                   omega)
  ·have hg9:g≠9:=fun h=>h2 (Or.inl h)
   have hroom:room=true:=by cases room <;> simp_all
   have hdeep:deep < 6:=by rw [hroom] at hr; simpa using hr.symm
   cases he:alt (p + 1) (g + 1) with
   | error x=>exact atom_grpA S hs hp G h1 hg hg9 hroom hdeep hF (hA hroom) hBA hB2 hBA2 he
   | ok r =>
     obtain ⟨f,q,g'⟩:=r
     by_cases hq:bt s q=41
     ·exact atom_grpC S hs hp G h1 hg hg9 hroom hdeep hF (hA hroom) hBA hB2 hBA2 he hq
     ·exact atom_grpB S hs hp G h1 hg hg9 hroom hdeep hF (hA hroom) hBA hB2 hBA2 he hq
 by_cases h2:bt s p=91
 ·cases he:classRef s (p + 1) with
  | error x=>exact atom_setbad S hs hp hL hB h2 he
  | ok r=>obtain ⟨T,q⟩:=r; exact atom_set S hs hp hL hB h2 he
 by_cases h3:bt s p=94
 ·exact atom_start S hs hp hL hB h3
 by_cases h4:bt s p=36
 ·exact atom_end S hs hp hL hB h4
 by_cases h5:bt s p=46
 ·exact atom_dot S hs hp hL hB h5
 by_cases h6:bt s p=92
 ·cases he:escRef s (p + 1) with
  | error x=>exact atom_escbad S hs hp hL hB h6 he
  | ok r=>obtain ⟨T,o,q⟩:=r; exact atom_esc S hs hp hL hB h6 he
 by_cases h7:bt s p=42
 ·exact atom_b1 S hs hp hL hB h7
 by_cases h8:bt s p=43
 ·exact atom_b2 S hs hp hL hB h8
 by_cases h9:bt s p=63
 ·exact atom_b3 S hs hp hL hB h9
 by_cases h10:bt s p=123
 ·exact atom_b4 S hs hp hL hB h10
 by_cases h11:bt s p=125
 ·exact atom_b5 S hs hp hL hB h11
 by_cases h12:bt s p=93
 ·exact atom_b6 S hs hp hL hB h12
 exact atom_self S hs hp hL hB ⟨⟨h1,h2,h3,h4,h5,h6⟩,h7,h8,h9,h10,h11,h12⟩
def AtomC (s:ByteArray) (alt:Nat→Nat→Rd3) (room:Bool) (deep B:Nat):Prop :=
 ∀ (w:World) (R p g:Nat) (v:Value) (L:List Pm),Sp w R s p (-1) g v L→s.size≤120→p < s.size→g≤9→L.length + 3 * (s.size - p)≤1000→
   Calls Tryz.prog 93 #[.pointer (some ⟨R,0,none⟩),.int .i64 deep] w (Post (atomRef alt room s p g) R s B w v L)
def Pb (w:World) (P:Nat) (c:Pc) (sv kv:Value):Prop :=
 w.heap[P]? = some (.cells #[.int .i64 c.kind,sv,.int .i64 c.min,.int .i64 c.max,.bool c.lazy,.int .i64 c.num,kv] 100 (0,0))
theorem Pb.keeps {E:Nat→Prop} {w w':World} {P:Nat} {c:Pc} {sv kv:Value} (h:Pb w P c sv kv) (k:Keeps E w w') (hE:¬ E P):Pb w' P c sv kv:=by
 unfold Pb at h ⊢; rw [k.block P (lt_of_block h) hE]; exact h
theorem Sp.atP {w w':World} {R P:Nat} {s:ByteArray} {a b g:Int} {v:Value} {L:List Pm} {c:Pc} {sv kv:Value} (h:Sp w R s a b g v L) (hP:Pb w P c sv kv) (hv:¬ v.ownBlock=some P) (hk:Keeps (fun k=>k=P) w w'):Sp w' R s a b g v L:=by
 have hT :∀k,k=P→k < w.heap.size→∃cs t,w.heap[k]? = some (.cells cs t (0,0))∧t≠102∧t≠3:=by
  rintro k rfl _
  exact ⟨_,_,hP,by decide,by decide⟩
 refine ⟨h.rd.keeps hk (by rintro rfl; have h1:=h.rd; have h2:=hP; unfold Rd at h1; unfold Pb at h2; rw [h1] at h2; simp at h2),ownsRow_keeps h.row hk (by rintro k hk1 rfl; exact hv hk1),fun x hx=>(h.rows x hx).byTypes hk hT⟩
theorem Pb.facts {w:World} {P:Nat} {c:Pc} {sv kv:Value} (h:Pb w P c sv kv):w.cell? ⟨P,0,none⟩=some (.int .i64 c.kind)∧w.cell? ⟨P,1,none⟩=some sv∧w.cell? ⟨P,2,none⟩=some (.int .i64 c.min)∧w.cell? ⟨P,3,none⟩=some (.int .i64 c.max)∧
  w.cell? ⟨P,4,none⟩=some (.bool c.lazy)∧w.cell? ⟨P,5,none⟩=some (.int .i64 c.num)∧w.cell? ⟨P,6,none⟩=some kv∧∀i,w.frozen? ⟨P,i,none⟩=false :=
 ⟨by rw [cell_of h]; rfl,by rw [cell_of h]; rfl,by rw [cell_of h]; rfl,by rw [cell_of h]; rfl,by rw [cell_of h]; rfl,by rw [cell_of h]; rfl,by rw [cell_of h]; rfl,fun i=>free_of h⟩
theorem keepsP (w:World) (P i:Nat) (u:Value):Keeps (fun k=>k=P) w (w.setCell ⟨P,i,none⟩ u):=(Keeps.refl (fun k=>k=P) _).setCell (fun _=>rfl) _
theorem Pb.set2 {w:World} {P:Nat} {c:Pc} {sv kv:Value} (h:Pb w P c sv kv) (x:Int):Pb (w.setCell ⟨P,2,none⟩ (.int .i64 x)) P { c with min:=x } sv kv:=by unfold Pb; rw [heap_setCell_same _ _ _ _ _ _ h]; rfl
theorem Pb.set3 {w:World} {P:Nat} {c:Pc} {sv kv:Value} (h:Pb w P c sv kv) (x:Int):Pb (w.setCell ⟨P,3,none⟩ (.int .i64 x)) P { c with max:=x } sv kv:=by unfold Pb; rw [heap_setCell_same _ _ _ _ _ _ h]; rfl
theorem Pb.set4 {w:World} {P:Nat} {c:Pc} {sv kv:Value} (h:Pb w P c sv kv) (x:Bool):Pb (w.setCell ⟨P,4,none⟩ (.bool x)) P { c with lazy:=x } sv kv:=by unfold Pb; rw [heap_setCell_same _ _ _ _ _ _ h]; rfl
theorem Pb.set6 {w:World} {P:Nat} {c:Pc} {sv kv:Value} (h:Pb w P c sv kv) (x:Value):Pb (w.setCell ⟨P,6,none⟩ x) P c sv x:=by unfold Pb; rw [heap_setCell_same _ _ _ _ _ _ h]; rfl
theorem Sp.fin {w:World} {R P:Nat} {s:ByteArray} {a b g:Int} {v:Value} {L:List Pm} {c:Pc} (S:Sp w R s a b g v L) (hP:Pb w P c (.slice none 0 0) (.slice none 0 0)) (hv:¬ v.ownBlock=some P) (hc:c.set = []) (lz:Bool) (r:Int) :
  Sp (((w.setCell ⟨P,4,none⟩ (.bool lz)).alloc (.cells #[.int .i64 r] 3)).setCell ⟨P,6,none⟩ (.slice (some ⟨w.heap.size,0,none⟩) 1 1)) R s a b g v L∧
  Owned (((w.setCell ⟨P,4,none⟩ (.bool lz)).alloc (.cells #[.int .i64 r] 3)).setCell ⟨P,6,none⟩ (.slice (some ⟨w.heap.size,0,none⟩) 1 1)) ({ c with lazy:=lz,kids := [r] },.slice none 0 0,.slice (some ⟨w.heap.size,0,none⟩) 1 1)∧
  Keeps (fun k=>k=P) w (((w.setCell ⟨P,4,none⟩ (.bool lz)).alloc (.cells #[.int .i64 r] 3)).setCell ⟨P,6,none⟩ (.slice (some ⟨w.heap.size,0,none⟩) 1 1)):=by
 have e:(w.setCell ⟨P,4,none⟩ (.bool lz)).heap.size=w.heap.size:=by simp [World.setCell]
 have hP1:=hP.set4 lz
 have S1:=S.atP hP hv (keepsP w P 4 (.bool lz))
 have hk2:Keeps (fun _=>False) (w.setCell ⟨P,4,none⟩ (.bool lz)) ((w.setCell ⟨P,4,none⟩ (.bool lz)).alloc (.cells #[.int .i64 r] 3)):=(Keeps.refl _ _).alloc _
 have hP2:=hP1.keeps hk2 (fun h=>h)
 have S2:=S1.same hk2
 have o2:=owned_kid (w.setCell ⟨P,4,none⟩ (.bool lz)) { c with lazy:=lz,kids := [r] } r hc rfl
 rw [e] at o2
 refine ⟨S2.atP hP2 hv (keepsP _ P 6 _),?_,((keepsP w P 4 (.bool lz)).trans (hk2.mono fun _ _ h=>h.elim)).trans (keepsP _ P 6 _)⟩
 exact o2.byTypes (keepsP _ P 6 _) (by rintro k rfl _; exact ⟨_,_,hP2,by decide,by decide⟩)
def repPc (lo hi:Int) (lz:Bool) (kids:List Int):Pc := { kind:=4,set := [],min:=lo,max:=hi,lazy:=lz,num:=0,kids:=kids }
theorem Pb.made (w:World):Pb (w.alloc (.cells #[.int .i64 4,.slice none 0 0,.int .i64 0,.int .i64 (-1),.bool false,.int .i64 0,.slice none 0 0] 100)) w.heap.size (repPc 0 (-1) false []) (.slice none 0 0) (.slice none 0 0):=heap_alloc_new _ _
theorem own_ne {w:World} {R:Nat} {s:ByteArray} {a b g:Int} {v:Value} {L:List Pm} (S:Sp w R s a b g v L):¬ v.ownBlock=some w.heap.size:=by
 intro h
 have:=(S.row.lt _ h).2
 omega
theorem piece_bad {w:World} {R p g deep B:Nat} {s:ByteArray} {v:Value} {L:List Pm} {alt:Nat→Nat→Rd3} {room:Bool} (S:Sp w R s p (-1) g v L) (hs:s.size≤120) (hp:p < s.size) (G:Good s alt) (hg:g≤9)
  (hF:L.length + 3 * (s.size - p)≤1000) (hA:AtomC s alt room deep B) (hB:1005≤B) (hB5:B≤6000) {x:Nat} (he:atomRef alt room s p g = .error x) :
  Calls Tryz.prog 80 #[.pointer (some ⟨R,0,none⟩),.int .i64 deep] w (Post (pieceRef alt room s p g) R s (B + 1) w v L):=by
 have HE:Hid (pieceRef alt room s p g = .error x):=by show _ = _; simp [pieceRef,he]
 have HX:Hid (atomRef alt room s p g = .error x):=he
 clear he
 go_enter Tryz.func80,Tryz.ntmps80
 go_wp2_with (first
  | (go_at_call 93; refine (hA _ _ _ _ _ _ S hs hp hg hF).mono ?_; intro e w4 hpo; unfold Post at hpo; rw [HX.out] at hpo; obtain ⟨r,v4,L4,rfl,hS4,hB4,st4,hn4⟩:=hpo; obtain ⟨a4,g4,S4⟩:=hS4; have S5:=S4.alloc (.cells #[.int .i64 4,.slice none 0 0,.int .i64 0,.int .i64 (-1),.bool false,.int .i64 0,.slice none 0 0] 100); have st5:=st4.same ((Keeps.refl (fun _=>False) w4).alloc (.cells #[.int .i64 4,.slice none 0 0,.int .i64 0,.int .i64 (-1),.bool false,.int .i64 0,.slice none 0 0] 100)); have hP:=Pb.made w4; have hv:=own_ne S4; have hPR:¬ w4.heap.size=R:=by have:=S4.rd.lt; omega)
  | (go_at_call 62; refine (isB ⟨_,_,S5.rd⟩ (by omega)).mono ?_; rintro e w5 ⟨rfl,hb5,hk5⟩; obtain ⟨a5,g5,r5⟩:=hb5.rd; replace S5:=S5.atR hk5 r5; replace st5:=st5.onR hk5; replace hP:=hP.keeps hk5 hPR; clear hb5 hk5 r5))
 go_ret
 exact post_err HE.out S5 (by omega) st5 hn4
theorem piece_none {w:World} {R p g deep B:Nat} {s:ByteArray} {v:Value} {L:List Pm} {alt:Nat→Nat→Rd3} {room:Bool} (S:Sp w R s p (-1) g v L) (hs:s.size≤120) (hp:p < s.size) (G:Good s alt) (hg:g≤9)
  (hF:L.length + 3 * (s.size - p)≤1000) (hA:AtomC s alt room deep B) (hB:1005≤B) (hB5:B≤6000) {f:Pf} {q g':Nat} (he:atomRef alt room s p g = .ok (f,q,g')) (hq:bt s q≠42∧bt s q≠43∧bt s q≠63∧bt s q≠123) :
  Calls Tryz.prog 80 #[.pointer (some ⟨R,0,none⟩),.int .i64 deep] w (Post (pieceRef alt room s p g) R s (B + 1) w v L):=by
 have hpos:=atomRef_pos G hp hg he
 have hlen:=hpos.2.2.2 L.length
 have HE:Hid (pieceRef alt room s p g = .ok (f,q,g')):=by show _ = _; simp [pieceRef,he,cntRef,hq.1,hq.2.1,hq.2.2.1,hq.2.2.2]
 have HX:Hid (atomRef alt room s p g = .ok (f,q,g')):=he
 have HQ:Hid (bt s q≠42∧bt s q≠43∧bt s q≠63∧bt s q≠123):=hq
 clear hq
 clear he
 go_enter Tryz.func80,Tryz.ntmps80
 go_wp2_with (first
  | (go_at_call 93; refine (hA _ _ _ _ _ _ S hs hp hg hF).mono ?_; intro e w4 hpo; unfold Post at hpo; rw [HX.out] at hpo; obtain ⟨v4,L4,rfl,S4,hm4,st4,hn4⟩:=hpo; have S5:=S4.alloc (.cells #[.int .i64 4,.slice none 0 0,.int .i64 0,.int .i64 (-1),.bool false,.int .i64 0,.slice none 0 0] 100); have st5:=st4.same ((Keeps.refl (fun _=>False) w4).alloc (.cells #[.int .i64 4,.slice none 0 0,.int .i64 0,.int .i64 (-1),.bool false,.int .i64 0,.slice none 0 0] 100)); have hP:=Pb.made w4; have hv:=own_ne S4; have hPR:¬ w4.heap.size=R:=by have:=S4.rd.lt; omega)
  | (go_at_call 62; refine (isN ⟨S5.rd⟩ hs (by have:=HQ.out; omega) (by omega)).mono ?_; rintro e w5 ⟨rfl,hb5,hk5⟩; replace S5:=S5.atR hk5 hb5.rd; replace st5:=st5.onR hk5; replace hP:=hP.keeps hk5 hPR; clear hb5 hk5))
 go_ret
 exact post_ok HE.out S5 hm4 rfl st5 hn4
theorem piece_starT {w:World} {R p g deep B:Nat} {s:ByteArray} {v:Value} {L:List Pm} {alt:Nat→Nat→Rd3} {room:Bool} (S:Sp w R s p (-1) g v L) (hs:s.size≤120) (hp:p < s.size) (G:Good s alt) (hg:g≤9)
  (hF:L.length + 3 * (s.size - p)≤1000) (hA:AtomC s alt room deep B) (hB:1005≤B) (hB5:B≤6000) {f:Pf} {q g':Nat} (he:atomRef alt room s p g = .ok (f,q,g')) (hq:bt s q=42) (hl:bt s (q + 1)=63) :
  Calls Tryz.prog 80 #[.pointer (some ⟨R,0,none⟩),.int .i64 deep] w (Post (pieceRef alt room s p g) R s (B + 1) w v L):=by
 have hpos:=atomRef_pos G hp hg he
 have hlen:=hpos.2.2.2 L.length
 have HE:Hid (pieceRef alt room s p g = .ok (repPf 0 (-1) true f,q + 1 + 1,g')):=by show _ = _; simp [pieceRef,he,cntRef,hq,hl]
 have HX:Hid (atomRef alt room s p g = .ok (f,q,g')):=he
 have HQ:Hid (bt s q=42∧bt s (q + 1)=63):=⟨hq,hl⟩
 clear hq hl
 clear he
 go_enter Tryz.func80,Tryz.ntmps80
 go_wp2_with (first
  | (go_at_call 93; refine (hA _ _ _ _ _ _ S hs hp hg hF).mono ?_; intro e w4 hpo; unfold Post at hpo; rw [HX.out] at hpo; obtain ⟨v4,L4,rfl,S4,hm4,st4,hn4⟩:=hpo; have S5:=S4.alloc (.cells #[.int .i64 4,.slice none 0 0,.int .i64 0,.int .i64 (-1),.bool false,.int .i64 0,.slice none 0 0] 100); have st5:=st4.same ((Keeps.refl (fun _=>False) w4).alloc (.cells #[.int .i64 4,.slice none 0 0,.int .i64 0,.int .i64 (-1),.bool false,.int .i64 0,.slice none 0 0] 100)); have hP:=Pb.made w4; have hv:=own_ne S4; have hPR:¬ w4.heap.size=R:=by have:=S4.rd.lt; omega)
  | (go_at_call 62; refine (isY ⟨S5.rd⟩ hs (by have:=HQ.out; omega) (by omega)).mono ?_; rintro e w5 ⟨rfl,hb5,hk5⟩; replace S5:=S5.atR hk5 hb5.rd; replace st5:=st5.onR hk5; replace hP:=hP.keeps hk5 hPR; clear hb5 hk5; obtain ⟨d0,d1,d2,d3,d4,d5,d6,df⟩:=hP.facts; have hP2:=(hP.set4 true).keeps ((Keeps.refl (fun _=>False) _).alloc (.cells #[.int .i64 ((L.length:Int) + (f L.length).length - 1)] 3)) (fun h=>h); obtain ⟨e0,e1,e2,e3,e4,e5,e6,ef⟩:=hP2.facts; clear hP2)
  | (go_at_call 63; refine (addP (S5.fin hP hv rfl true _).1 _ (S5.fin hP hv rfl true _).2.1 (by have:=post_len hm4; omega) (st5.on (S5.fin hP hv rfl true _).2.2 (fun i hi' h=>by have:=st4.keeps.size; omega)) hn4 (by intro k hk; simp [Value.ownBlock] at hk; subst hk; exact st5.keeps.size)).mono ?_; rintro e w6 ⟨rfl,v6,S6,st6,hn6⟩))
 go_ret
 refine post_ok HE.out S6 ?_ (by have:=post_len hm4; simp [repPf]; omega) st6 hn6
 rw [List.map_append,hm4]
 simp [repPf,repPc]
theorem piece_plusT {w:World} {R p g deep B:Nat} {s:ByteArray} {v:Value} {L:List Pm} {alt:Nat→Nat→Rd3} {room:Bool} (S:Sp w R s p (-1) g v L) (hs:s.size≤120) (hp:p < s.size) (G:Good s alt) (hg:g≤9)
  (hF:L.length + 3 * (s.size - p)≤1000) (hA:AtomC s alt room deep B) (hB:1005≤B) (hB5:B≤6000) {f:Pf} {q g':Nat} (he:atomRef alt room s p g = .ok (f,q,g')) (hq:bt s q=43) (hl:bt s (q + 1)=63) :
  Calls Tryz.prog 80 #[.pointer (some ⟨R,0,none⟩),.int .i64 deep] w (Post (pieceRef alt room s p g) R s (B + 1) w v L):=by
 have hpos:=atomRef_pos G hp hg he
 have hlen:=hpos.2.2.2 L.length
 have HE:Hid (pieceRef alt room s p g = .ok (repPf 1 (-1) true f,q + 1 + 1,g')):=by show _ = _; simp [pieceRef,he,cntRef,hq,hl]
 have HX:Hid (atomRef alt room s p g = .ok (f,q,g')):=he
 have HQ:Hid (bt s q=43∧bt s (q + 1)=63):=⟨hq,hl⟩
 clear hq hl
 clear he
 go_enter Tryz.func80,Tryz.ntmps80
 go_wp2_with (first
  | (go_at_call 93; refine (hA _ _ _ _ _ _ S hs hp hg hF).mono ?_; intro e w4 hpo; unfold Post at hpo; rw [HX.out] at hpo; obtain ⟨v4,L4,rfl,S4,hm4,st4,hn4⟩:=hpo; have S5:=S4.alloc (.cells #[.int .i64 4,.slice none 0 0,.int .i64 0,.int .i64 (-1),.bool false,.int .i64 0,.slice none 0 0] 100); have st5:=st4.same ((Keeps.refl (fun _=>False) w4).alloc (.cells #[.int .i64 4,.slice none 0 0,.int .i64 0,.int .i64 (-1),.bool false,.int .i64 0,.slice none 0 0] 100)); have hP:=Pb.made w4; have hv:=own_ne S4; have hPR:¬ w4.heap.size=R:=by have:=S4.rd.lt; omega)
  | (go_at_call 62; refine (isY (p:=q) ⟨S5.rd⟩ hs (by have:=HQ.out; omega) (by omega)).mono ?_; rintro e w5 ⟨rfl,hb5,hk5⟩; replace S5:=S5.atR hk5 hb5.rd; replace st5:=st5.onR hk5; replace hP:=hP.keeps hk5 hPR; clear hb5 hk5; obtain ⟨d0,d1,d2,d3,d4,d5,d6,df⟩:=hP.facts; have hP2:=(hP.set4 true).keeps ((Keeps.refl (fun _=>False) _).alloc (.cells #[.int .i64 ((L.length:Int) + (f L.length).length - 1)] 3)) (fun h=>h); obtain ⟨e0,e1,e2,e3,e4,e5,e6,ef⟩:=hP2.facts; clear hP2; replace S5:=S5.atP hP hv (keepsP _ _ 2 (.int .i64 1)); replace st5:=st5.on (keepsP w5 w4.heap.size 2 (.int .i64 1)) (fun i hi' h=>by have:=st4.keeps.size; omega); replace hP:=hP.set2 1)
  | (go_at_call 62; refine (isY (p:=q + 1) ⟨S5.rd⟩ hs (by have:=HQ.out; omega) (by omega)).mono ?_; rintro e w5 ⟨rfl,hb5,hk5⟩; replace S5:=S5.atR hk5 hb5.rd; replace st5:=st5.onR hk5; replace hP:=hP.keeps hk5 hPR; clear hb5 hk5; obtain ⟨d0,d1,d2,d3,d4,d5,d6,df⟩:=hP.facts; have hP2:=(hP.set4 true).keeps ((Keeps.refl (fun _=>False) _).alloc (.cells #[.int .i64 ((L.length:Int) + (f L.length).length - 1)] 3)) (fun h=>h); obtain ⟨e0,e1,e2,e3,e4,e5,e6,ef⟩:=hP2.facts; clear hP2)
  | (go_at_call 62; refine (isN (p:=q) ⟨S5.rd⟩ hs (by have:=HQ.out; omega) (by omega)).mono ?_; rintro e w5 ⟨rfl,hb5,hk5⟩; replace S5:=S5.atR hk5 hb5.rd; replace st5:=st5.onR hk5; replace hP:=hP.keeps hk5 hPR; clear hb5 hk5)
  | (go_at_call 63; refine (addP (S5.fin hP hv rfl true _).1 _ (S5.fin hP hv rfl true _).2.1 (by have:=post_len hm4; omega) (st5.on (S5.fin hP hv rfl true _).2.2 (fun i hi' h=>by have:=st4.keeps.size; omega)) hn4 (by intro k hk; simp [Value.ownBlock] at hk; subst hk; exact st5.keeps.size)).mono ?_; rintro e w6 ⟨rfl,v6,S6,st6,hn6⟩))
 go_ret
 refine post_ok HE.out S6 ?_ (by have:=post_len hm4; simp [repPf]; omega) st6 hn6
 rw [List.map_append,hm4]
 simp [repPf,repPc]
theorem piece_optT {w:World} {R p g deep B:Nat} {s:ByteArray} {v:Value} {L:List Pm} {alt:Nat→Nat→Rd3} {room:Bool} (S:Sp w R s p (-1) g v L) (hs:s.size≤120) (hp:p < s.size) (G:Good s alt) (hg:g≤9)
  (hF:L.length + 3 * (s.size - p)≤1000) (hA:AtomC s alt room deep B) (hB:1005≤B) (hB5:B≤6000) {f:Pf} {q g':Nat} (he:atomRef alt room s p g = .ok (f,q,g')) (hq:bt s q=63) (hl:bt s (q + 1)=63) :
  Calls Tryz.prog 80 #[.pointer (some ⟨R,0,none⟩),.int .i64 deep] w (Post (pieceRef alt room s p g) R s (B + 1) w v L):=by
 have hpos:=atomRef_pos G hp hg he
 have hlen:=hpos.2.2.2 L.length
 have HE:Hid (pieceRef alt room s p g = .ok (repPf 0 (1) true f,q + 1 + 1,g')):=by show _ = _; simp [pieceRef,he,cntRef,hq,hl]
 have HX:Hid (atomRef alt room s p g = .ok (f,q,g')):=he
 have HQ:Hid (bt s q=63∧bt s (q + 1)=63):=⟨hq,hl⟩
 clear hq hl
 clear he
 go_enter Tryz.func80,Tryz.ntmps80
 go_wp2_with (first
  | (go_at_call 93; refine (hA _ _ _ _ _ _ S hs hp hg hF).mono ?_; intro e w4 hpo; unfold Post at hpo; rw [HX.out] at hpo; obtain ⟨v4,L4,rfl,S4,hm4,st4,hn4⟩:=hpo; have S5:=S4.alloc (.cells #[.int .i64 4,.slice none 0 0,.int .i64 0,.int .i64 (-1),.bool false,.int .i64 0,.slice none 0 0] 100); have st5:=st4.same ((Keeps.refl (fun _=>False) w4).alloc (.cells #[.int .i64 4,.slice none 0 0,.int .i64 0,.int .i64 (-1),.bool false,.int .i64 0,.slice none 0 0] 100)); have hP:=Pb.made w4; have hv:=own_ne S4; have hPR:¬ w4.heap.size=R:=by have:=S4.rd.lt; omega)
  | (go_at_call 62; refine (isY (p:=q) ⟨S5.rd⟩ hs (by have:=HQ.out; omega) (by omega)).mono ?_; rintro e w5 ⟨rfl,hb5,hk5⟩; replace S5:=S5.atR hk5 hb5.rd; replace st5:=st5.onR hk5; replace hP:=hP.keeps hk5 hPR; clear hb5 hk5; obtain ⟨d0,d1,d2,d3,d4,d5,d6,df⟩:=hP.facts; have hP2:=(hP.set4 true).keeps ((Keeps.refl (fun _=>False) _).alloc (.cells #[.int .i64 ((L.length:Int) + (f L.length).length - 1)] 3)) (fun h=>h); obtain ⟨e0,e1,e2,e3,e4,e5,e6,ef⟩:=hP2.facts; clear hP2; replace S5:=S5.atP hP hv (keepsP _ _ 3 (.int .i64 1)); replace st5:=st5.on (keepsP w5 w4.heap.size 3 (.int .i64 1)) (fun i hi' h=>by have:=st4.keeps.size; omega); replace hP:=hP.set3 1)
  | (go_at_call 62; refine (isY (p:=q + 1) ⟨S5.rd⟩ hs (by have:=HQ.out; omega) (by omega)).mono ?_; rintro e w5 ⟨rfl,hb5,hk5⟩; replace S5:=S5.atR hk5 hb5.rd; replace st5:=st5.onR hk5; replace hP:=hP.keeps hk5 hPR; clear hb5 hk5; obtain ⟨d0,d1,d2,d3,d4,d5,d6,df⟩:=hP.facts; have hP2:=(hP.set4 true).keeps ((Keeps.refl (fun _=>False) _).alloc (.cells #[.int .i64 ((L.length:Int) + (f L.length).length - 1)] 3)) (fun h=>h); obtain ⟨e0,e1,e2,e3,e4,e5,e6,ef⟩:=hP2.facts; clear hP2)
  | (go_at_call 62; refine (isN (p:=q) ⟨S5.rd⟩ hs (by have:=HQ.out; omega) (by omega)).mono ?_; rintro e w5 ⟨rfl,hb5,hk5⟩; replace S5:=S5.atR hk5 hb5.rd; replace st5:=st5.onR hk5; replace hP:=hP.keeps hk5 hPR; clear hb5 hk5)
  | (go_at_call 63; refine (addP (S5.fin hP hv rfl true _).1 _ (S5.fin hP hv rfl true _).2.1 (by have:=post_len hm4; omega) (st5.on (S5.fin hP hv rfl true _).2.2 (fun i hi' h=>by have:=st4.keeps.size; omega)) hn4 (by intro k hk; simp [Value.ownBlock] at hk; subst hk; exact st5.keeps.size)).mono ?_; rintro e w6 ⟨rfl,v6,S6,st6,hn6⟩))
 go_ret
 refine post_ok HE.out S6 ?_ (by have:=post_len hm4; simp [repPf]; omega) st6 hn6
 rw [List.map_append,hm4]
 simp [repPf,repPc]
theorem piece_starF {w:World} {R p g deep B:Nat} {s:ByteArray} {v:Value} {L:List Pm} {alt:Nat→Nat→Rd3} {room:Bool} (S:Sp w R s p (-1) g v L) (hs:s.size≤120) (hp:p < s.size) (G:Good s alt) (hg:g≤9)
  (hF:L.length + 3 * (s.size - p)≤1000) (hA:AtomC s alt room deep B) (hB:1005≤B) (hB5:B≤6000) {f:Pf} {q g':Nat} (he:atomRef alt room s p g = .ok (f,q,g')) (hq:bt s q=42) (hl:bt s (q + 1)≠63) :
  Calls Tryz.prog 80 #[.pointer (some ⟨R,0,none⟩),.int .i64 deep] w (Post (pieceRef alt room s p g) R s (B + 1) w v L):=by
 have hpos:=atomRef_pos G hp hg he
 have hlen:=hpos.2.2.2 L.length
 have HE:Hid (pieceRef alt room s p g = .ok (repPf 0 (-1) false f,q + 1,g')):=by show _ = _; simp [pieceRef,he,cntRef,hq,hl]
 have HX:Hid (atomRef alt room s p g = .ok (f,q,g')):=he
 have HQ:Hid (bt s q=42∧bt s (q + 1)≠63):=⟨hq,hl⟩
 clear hq hl
 clear he
 go_enter Tryz.func80,Tryz.ntmps80
 go_wp2_with (first
  | (go_at_call 93; refine (hA _ _ _ _ _ _ S hs hp hg hF).mono ?_; intro e w4 hpo; unfold Post at hpo; rw [HX.out] at hpo; obtain ⟨v4,L4,rfl,S4,hm4,st4,hn4⟩:=hpo; have S5:=S4.alloc (.cells #[.int .i64 4,.slice none 0 0,.int .i64 0,.int .i64 (-1),.bool false,.int .i64 0,.slice none 0 0] 100); have st5:=st4.same ((Keeps.refl (fun _=>False) w4).alloc (.cells #[.int .i64 4,.slice none 0 0,.int .i64 0,.int .i64 (-1),.bool false,.int .i64 0,.slice none 0 0] 100)); have hP:=Pb.made w4; have hv:=own_ne S4; have hPR:¬ w4.heap.size=R:=by have:=S4.rd.lt; omega)
  | (go_at_call 62; refine (isY ⟨S5.rd⟩ hs (by have:=HQ.out; omega) (by omega)).mono ?_; rintro e w5 ⟨rfl,hb5,hk5⟩; replace S5:=S5.atR hk5 hb5.rd; replace st5:=st5.onR hk5; replace hP:=hP.keeps hk5 hPR; clear hb5 hk5; obtain ⟨d0,d1,d2,d3,d4,d5,d6,df⟩:=hP.facts; have hP2:=(hP.set4 false).keeps ((Keeps.refl (fun _=>False) _).alloc (.cells #[.int .i64 ((L.length:Int) + (f L.length).length - 1)] 3)) (fun h=>h); obtain ⟨e0,e1,e2,e3,e4,e5,e6,ef⟩:=hP2.facts; clear hP2)
  | (go_at_call 62; refine (isN ⟨S5.rd⟩ hs (by have:=HQ.out; omega) (by omega)).mono ?_; rintro e w5 ⟨rfl,hb5,hk5⟩; replace S5:=S5.atR hk5 hb5.rd; replace st5:=st5.onR hk5; replace hP:=hP.keeps hk5 hPR; clear hb5 hk5; obtain ⟨d0,d1,d2,d3,d4,d5,d6,df⟩:=hP.facts; have hP2:=(hP.set4 false).keeps ((Keeps.refl (fun _=>False) _).alloc (.cells #[.int .i64 ((L.length:Int) + (f L.length).length - 1)] 3)) (fun h=>h); obtain ⟨e0,e1,e2,e3,e4,e5,e6,ef⟩:=hP2.facts; clear hP2)
  | (go_at_call 63; refine (addP (S5.fin hP hv rfl false _).1 _ (S5.fin hP hv rfl false _).2.1 (by have:=post_len hm4; omega) (st5.on (S5.fin hP hv rfl false _).2.2 (fun i hi' h=>by have:=st4.keeps.size; omega)) hn4 (by intro k hk; simp [Value.ownBlock] at hk; subst hk; exact st5.keeps.size)).mono ?_; rintro e w6 ⟨rfl,v6,S6,st6,hn6⟩))
 go_ret
 refine post_ok HE.out S6 ?_ (by have:=post_len hm4; simp [repPf]; omega) st6 hn6
 rw [List.map_append,hm4]
 simp [repPf,repPc]
theorem piece_plusF {w:World} {R p g deep B:Nat} {s:ByteArray} {v:Value} {L:List Pm} {alt:Nat→Nat→Rd3} {room:Bool} (S:Sp w R s p (-1) g v L) (hs:s.size≤120) (hp:p < s.size) (G:Good s alt) (hg:g≤9)
  (hF:L.length + 3 * (s.size - p)≤1000) (hA:AtomC s alt room deep B) (hB:1005≤B) (hB5:B≤6000) {f:Pf} {q g':Nat} (he:atomRef alt room s p g = .ok (f,q,g')) (hq:bt s q=43) (hl:bt s (q + 1)≠63) :
  Calls Tryz.prog 80 #[.pointer (some ⟨R,0,none⟩),.int .i64 deep] w (Post (pieceRef alt room s p g) R s (B + 1) w v L):=by
 have hpos:=atomRef_pos G hp hg he
 have hlen:=hpos.2.2.2 L.length
 have HE:Hid (pieceRef alt room s p g = .ok (repPf 1 (-1) false f,q + 1,g')):=by show _ = _; simp [pieceRef,he,cntRef,hq,hl]
 have HX:Hid (atomRef alt room s p g = .ok (f,q,g')):=he
 have HQ:Hid (bt s q=43∧bt s (q + 1)≠63):=⟨hq,hl⟩
 clear hq hl
 clear he
 go_enter Tryz.func80,Tryz.ntmps80
 go_wp2_with (first
  | (go_at_call 93; refine (hA _ _ _ _ _ _ S hs hp hg hF).mono ?_; intro e w4 hpo; unfold Post at hpo; rw [HX.out] at hpo; obtain ⟨v4,L4,rfl,S4,hm4,st4,hn4⟩:=hpo; have S5:=S4.alloc (.cells #[.int .i64 4,.slice none 0 0,.int .i64 0,.int .i64 (-1),.bool false,.int .i64 0,.slice none 0 0] 100); have st5:=st4.same ((Keeps.refl (fun _=>False) w4).alloc (.cells #[.int .i64 4,.slice none 0 0,.int .i64 0,.int .i64 (-1),.bool false,.int .i64 0,.slice none 0 0] 100)); have hP:=Pb.made w4; have hv:=own_ne S4; have hPR:¬ w4.heap.size=R:=by have:=S4.rd.lt; omega)
  | (go_at_call 62; refine (isY (p:=q) ⟨S5.rd⟩ hs (by have:=HQ.out; omega) (by omega)).mono ?_; rintro e w5 ⟨rfl,hb5,hk5⟩; replace S5:=S5.atR hk5 hb5.rd; replace st5:=st5.onR hk5; replace hP:=hP.keeps hk5 hPR; clear hb5 hk5; obtain ⟨d0,d1,d2,d3,d4,d5,d6,df⟩:=hP.facts; have hP2:=(hP.set4 false).keeps ((Keeps.refl (fun _=>False) _).alloc (.cells #[.int .i64 ((L.length:Int) + (f L.length).length - 1)] 3)) (fun h=>h); obtain ⟨e0,e1,e2,e3,e4,e5,e6,ef⟩:=hP2.facts; clear hP2; replace S5:=S5.atP hP hv (keepsP _ _ 2 (.int .i64 1)); replace st5:=st5.on (keepsP w5 w4.heap.size 2 (.int .i64 1)) (fun i hi' h=>by have:=st4.keeps.size; omega); replace hP:=hP.set2 1)
  | (go_at_call 62; refine (isN (p:=q + 1) ⟨S5.rd⟩ hs (by have:=HQ.out; omega) (by omega)).mono ?_; rintro e w5 ⟨rfl,hb5,hk5⟩; replace S5:=S5.atR hk5 hb5.rd; replace st5:=st5.onR hk5; replace hP:=hP.keeps hk5 hPR; clear hb5 hk5; obtain ⟨d0,d1,d2,d3,d4,d5,d6,df⟩:=hP.facts; have hP2:=(hP.set4 false).keeps ((Keeps.refl (fun _=>False) _).alloc (.cells #[.int .i64 ((L.length:Int) + (f L.length).length - 1)] 3)) (fun h=>h); obtain ⟨e0,e1,e2,e3,e4,e5,e6,ef⟩:=hP2.facts; clear hP2)
  | (go_at_call 62; refine (isN (p:=q) ⟨S5.rd⟩ hs (by have:=HQ.out; omega) (by omega)).mono ?_; rintro e w5 ⟨rfl,hb5,hk5⟩; replace S5:=S5.atR hk5 hb5.rd; replace st5:=st5.onR hk5; replace hP:=hP.keeps hk5 hPR; clear hb5 hk5)
  | (go_at_call 63; refine (addP (S5.fin hP hv rfl false _).1 _ (S5.fin hP hv rfl false _).2.1 (by have:=post_len hm4; omega) (st5.on (S5.fin hP hv rfl false _).2.2 (fun i hi' h=>by have:=st4.keeps.size; omega)) hn4 (by intro k hk; simp [Value.ownBlock] at hk; subst hk; exact st5.keeps.size)).mono ?_; rintro e w6 ⟨rfl,v6,S6,st6,hn6⟩))
 go_ret
 refine post_ok HE.out S6 ?_ (by have:=post_len hm4; simp [repPf]; omega) st6 hn6
 rw [List.map_append,hm4]
 simp [repPf,repPc]
theorem piece_optF {w:World} {R p g deep B:Nat} {s:ByteArray} {v:Value} {L:List Pm} {alt:Nat→Nat→Rd3} {room:Bool} (S:Sp w R s p (-1) g v L) (hs:s.size≤120) (hp:p < s.size) (G:Good s alt) (hg:g≤9)
  (hF:L.length + 3 * (s.size - p)≤1000) (hA:AtomC s alt room deep B) (hB:1005≤B) (hB5:B≤6000) {f:Pf} {q g':Nat} (he:atomRef alt room s p g = .ok (f,q,g')) (hq:bt s q=63) (hl:bt s (q + 1)≠63) :
  Calls Tryz.prog 80 #[.pointer (some ⟨R,0,none⟩),.int .i64 deep] w (Post (pieceRef alt room s p g) R s (B + 1) w v L):=by
 have hpos:=atomRef_pos G hp hg he
 have hlen:=hpos.2.2.2 L.length
 have HE:Hid (pieceRef alt room s p g = .ok (repPf 0 (1) false f,q + 1,g')):=by show _ = _; simp [pieceRef,he,cntRef,hq,hl]
 have HX:Hid (atomRef alt room s p g = .ok (f,q,g')):=he
 have HQ:Hid (bt s q=63∧bt s (q + 1)≠63):=⟨hq,hl⟩
 clear hq hl
 clear he
 go_enter Tryz.func80,Tryz.ntmps80
 go_wp2_with (first
  | (go_at_call 93; refine (hA _ _ _ _ _ _ S hs hp hg hF).mono ?_; intro e w4 hpo; unfold Post at hpo; rw [HX.out] at hpo; obtain ⟨v4,L4,rfl,S4,hm4,st4,hn4⟩:=hpo; have S5:=S4.alloc (.cells #[.int .i64 4,.slice none 0 0,.int .i64 0,.int .i64 (-1),.bool false,.int .i64 0,.slice none 0 0] 100); have st5:=st4.same ((Keeps.refl (fun _=>False) w4).alloc (.cells #[.int .i64 4,.slice none 0 0,.int .i64 0,.int .i64 (-1),.bool false,.int .i64 0,.slice none 0 0] 100)); have hP:=Pb.made w4; have hv:=own_ne S4; have hPR:¬ w4.heap.size=R:=by have:=S4.rd.lt; omega)
  | (go_at_call 62; refine (isY (p:=q) ⟨S5.rd⟩ hs (by have:=HQ.out; omega) (by omega)).mono ?_; rintro e w5 ⟨rfl,hb5,hk5⟩; replace S5:=S5.atR hk5 hb5.rd; replace st5:=st5.onR hk5; replace hP:=hP.keeps hk5 hPR; clear hb5 hk5; obtain ⟨d0,d1,d2,d3,d4,d5,d6,df⟩:=hP.facts; have hP2:=(hP.set4 false).keeps ((Keeps.refl (fun _=>False) _).alloc (.cells #[.int .i64 ((L.length:Int) + (f L.length).length - 1)] 3)) (fun h=>h); obtain ⟨e0,e1,e2,e3,e4,e5,e6,ef⟩:=hP2.facts; clear hP2; replace S5:=S5.atP hP hv (keepsP _ _ 3 (.int .i64 1)); replace st5:=st5.on (keepsP w5 w4.heap.size 3 (.int .i64 1)) (fun i hi' h=>by have:=st4.keeps.size; omega); replace hP:=hP.set3 1)
  | (go_at_call 62; refine (isN (p:=q + 1) ⟨S5.rd⟩ hs (by have:=HQ.out; omega) (by omega)).mono ?_; rintro e w5 ⟨rfl,hb5,hk5⟩; replace S5:=S5.atR hk5 hb5.rd; replace st5:=st5.onR hk5; replace hP:=hP.keeps hk5 hPR; clear hb5 hk5; obtain ⟨d0,d1,d2,d3,d4,d5,d6,df⟩:=hP.facts; have hP2:=(hP.set4 false).keeps ((Keeps.refl (fun _=>False) _).alloc (.cells #[.int .i64 ((L.length:Int) + (f L.length).length - 1)] 3)) (fun h=>h); obtain ⟨e0,e1,e2,e3,e4,e5,e6,ef⟩:=hP2.facts; clear hP2)
  | (go_at_call 62; refine (isN (p:=q) ⟨S5.rd⟩ hs (by have:=HQ.out; omega) (by omega)).mono ?_; rintro e w5 ⟨rfl,hb5,hk5⟩; replace S5:=S5.atR hk5 hb5.rd; replace st5:=st5.onR hk5; replace hP:=hP.keeps hk5 hPR; clear hb5 hk5)
  | (go_at_call 63; refine (addP (S5.fin hP hv rfl false _).1 _ (S5.fin hP hv rfl false _).2.1 (by have:=post_len hm4; omega) (st5.on (S5.fin hP hv rfl false _).2.2 (fun i hi' h=>by have:=st4.keeps.size; omega)) hn4 (by intro k hk; simp [Value.ownBlock] at hk; subst hk; exact st5.keeps.size)).mono ?_; rintro e w6 ⟨rfl,v6,S6,st6,hn6⟩))
 go_ret
 refine post_ok HE.out S6 ?_ (by have:=post_len hm4; simp [repPf]; omega) st6 hn6
 rw [List.map_append,hm4]
 simp [repPf,repPc]
end Go.Proofs.YthkmmeamplmnhaaGreat
