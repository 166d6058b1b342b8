import Derived.Test.YthkmmeamplmnhaaGreatE
set_option maxHeartbeats 1000000
set_option maxRecDepth 1000000
namespace Go.Proofs.YthkmmeamplmnhaaGreat
open Go.RowKit
set_option linter.unusedVariables false
structure Stp (R:Nat) (w:World) (v:Value) (w':World) (v':Value):Prop where
 keeps:Keeps (Ex R v) w w'
 blk:Blk w v v'
def New (w:World) (L L':List Pm):Prop :=∃M,L'=L ++ M∧∀x∈M,∀k,x.2.2.ownBlock=some k→w.heap.size≤k
theorem New.refl (w:World) (L:List Pm):New w L L:=⟨[],by simp,by simp⟩
theorem New.trans {w w1:World} {L L1 L2:List Pm} (h:New w L L1) (k:New w1 L1 L2) (hs:w.heap.size≤w1.heap.size):New w L L2:=by
 obtain ⟨M,rfl,hM⟩:=h
 obtain ⟨M',rfl,hM'⟩:=k
 refine ⟨M ++ M',by simp,?_⟩
 intro x hx k hk
 rw [List.mem_append] at hx
 rcases hx with hx | hx
 ·exact hM x hx k hk
 ·exact Nat.le_trans hs (hM' x hx k hk)
theorem New.snoc {w:World} {L L1:List Pm} (h:New w L L1) (x:Pm) (hx :∀k,x.2.2.ownBlock=some k→w.heap.size≤k):New w L (L1 ++ [x]):=by
 obtain ⟨M,rfl,hM⟩:=h
 refine ⟨M ++ [x],by simp,?_⟩
 intro y hy k hk
 rw [List.mem_append] at hy
 rcases hy with hy | hy
 ·exact hM y hy k hk
 ·simp at hy; subst hy; exact hx k hk
namespace Stp
variable {R:Nat} {w w1 w2:World} {v v1 v2:Value}
theorem refl (R:Nat) (w:World) (v:Value):Stp R w v w v:=⟨Keeps.refl _ _,fun k hk _=>hk⟩
theorem trans (h:Stp R w v w1 v1) (k:Stp R w1 v1 w2 v2):Stp R w v w2 v2 :=
 ⟨h.keeps.trans' k.keeps (fun i hi he=>he.elim Or.inl (fun hb=>Or.inr (h.blk i hb hi))),
  fun i hi hlt=>h.blk i (k.blk i hi (Nat.lt_of_lt_of_le hlt h.keeps.size)) hlt⟩
theorem on {E:Nat→Prop} (h:Stp R w v w1 v1) (k:Keeps E w1 w2) (hE :∀i,i < w.heap.size→E i→i=R):Stp R w v w2 v1 :=
 ⟨h.keeps.trans' k (fun i hi he=>Or.inl (hE i hi he)),h.blk⟩
end Stp
theorem Owned.byTypes {E:Nat→Prop} {w w':World} {x:Pm} (h:Owned w x) (hk:Keeps E w w') (hE :∀k,E k→k < w.heap.size→∃cs t,w.heap[k]? = some (.cells cs t (0,0))∧t≠102∧t≠3):Owned w' x:=by
 refine ⟨ownsRow_keeps h.1 hk ?_,ownsRow_keeps h.2 hk ?_⟩
 ·intro k hk1 he
  obtain ⟨cur,hh⟩:=own_block h.1 hk1
  obtain ⟨cs,t,h1,h2,_⟩:=hE k he (lt_of_block hh)
  rw [h1] at hh; simp at hh; exact h2 hh.2
 ·intro k hk1 he
  obtain ⟨cur,hh⟩:=own_block h.2 hk1
  obtain ⟨cs,t,h1,_,h3⟩:=hE k he (lt_of_block hh)
  rw [h1] at hh; simp at hh; exact h3 hh.2
namespace Sp
variable {w w':World} {R I:Nat} {s:ByteArray} {a b g a' b' g':Int} {v:Value} {L:List Pm} {S:Bs}
theorem atRI (h:Sp w R s a b g v L) (hI:In w I S) (hk:Keeps (Er R I) w w') (hr:Rd w' R s a' b' g' v):Sp w' R s a' b' g' v L:=by
 have hT :∀k,Er R I k→k < w.heap.size→∃cs t,w.heap[k]? = some (.cells cs t (0,0))∧t≠102∧t≠3:=by
  rintro k (rfl | rfl) _
  ·exact ⟨_,_,h.rd,by decide,by decide⟩
  ·exact ⟨_,_,hI,by decide,by decide⟩
 refine ⟨hr,ownsRow_keeps h.row hk ?_,fun x hx=>(h.rows x hx).byTypes hk hT⟩
 rintro k hk1 (rfl | rfl)
 ·exact own_not_at h.row h.rd (by decide) hk1
 ·exact own_not_at h.row hI (by decide) hk1
end Sp
def Post (ref:Rd3) (R:Nat) (s:ByteArray) (B:Nat) (w:World) (v:Value) (L:List Pm) (e:Ending) (w':World):Prop :=
 match ref with
 | .ok (f,q,g') =>∃v' L',e = .returned (.int .i64 ((L.length:Int) + (f L.length).length - 1))∧Sp w' R s q (-1) g' v' L'∧L'.map (·.1)=L.map (·.1) ++ f L.length∧Stp R w v w' v'∧New w L L'
 | .error x =>∃r v' L',e = .returned (.int .i64 r)∧(∃a g,Sp w' R s a x g v' L')∧L'.length≤B∧Stp R w v w' v'∧New w L L'
theorem post_err {ref:Rd3} {R x B:Nat} {s:ByteArray} {w w':World} {v v':Value} {L L':List Pm} {r a g:Int} (h:ref = .error x) (hS:Sp w' R s a x g v' L') (hB:L'.length≤B) (hst:Stp R w v w' v') (hn:New w L L') :
  Post ref R s B w v L (.returned (.int .i64 r)) w':=by
 unfold Post; rw [h]; exact ⟨r,v',L',rfl,⟨a,g,hS⟩,hB,hst,hn⟩
theorem post_ok {ref:Rd3} {R q g B:Nat} {f:Pf} {s:ByteArray} {w w':World} {v v':Value} {L L':List Pm} {r:Int} (h:ref = .ok (f,q,g)) (hS:Sp w' R s q (-1) g v' L') (hm:L'.map (·.1)=L.map (·.1) ++ f L.length)
  (hr:r=(L.length:Int) + (f L.length).length - 1) (hst:Stp R w v w' v') (hn:New w L L') :
  Post ref R s B w v L (.returned (.int .i64 r)) w':=by
 unfold Post; rw [h]; exact ⟨v',L',by rw [hr],hS,hm,hst,hn⟩
theorem own_nil (w:World) (e size:Nat):w.ownsRow 0 e size (.slice none 0 0) 0 []:=World.ownsRow_nil _ _ _ _
theorem addP {w w1:World} {R:Nat} {s:ByteArray} {a b g:Int} {v v1:Value} {L L1:List Pm} (S:Sp w1 R s a b g v1 L1) (x:Pm) (hx:Owned w1 x) (hL:L1.length≤100000)
  (hst:Stp R w v w1 v1) (hn:New w L L1) (hxn :∀k,x.2.2.ownBlock=some k→w.heap.size≤k) :
  Calls Tryz.prog 63 #[.pointer (some ⟨R,0,none⟩),.agg #[.int .i64 x.1.kind,x.2.1,.int .i64 x.1.min,.int .i64 x.1.max,.bool x.1.lazy,.int .i64 x.1.num,x.2.2]] w1 fun e w2 =>
   e = .returned (.int .i64 L1.length)∧∃v2,Sp w2 R s a b g v2 (L1 ++ [x])∧Stp R w v w2 v2∧New w L (L1 ++ [x]):=by
 refine (add_any S x hx hL).mono ?_
 rintro e w2 ⟨rfl,v2,hS,hk,hb⟩
 exact ⟨rfl,v2,hS,hst.trans ⟨hk,hb⟩,hn.snoc x hxn⟩
end Go.Proofs.YthkmmeamplmnhaaGreat
namespace Go.Proofs.YthkmmeamplmnhaaGreat
open Go.RowKit
set_option linter.unusedVariables false
theorem Sp.inc {w:World} {R p:Nat} {s:ByteArray} {g:Int} {v:Value} {L:List Pm} (h:Sp w R s p (-1) g v L):Sp (w.setCell ⟨R,1,none⟩ (.int .i64 ((p:Int) + 1))) R s ((p + 1:Nat):Int) (-1) g v L :=
 h.atR ((Keeps.refl (fun k=>k=R) _).setCell (fun _=>rfl) _) (h.rd.set1 _)
theorem keepsR (w:World) (R i:Nat) (u:Value):Keeps (fun k=>k=R) w (w.setCell ⟨R,i,none⟩ u):=(Keeps.refl (fun k=>k=R) _).setCell (fun _=>rfl) _
theorem Stp.onR {R:Nat} {w w1 w2:World} {v v1:Value} (h:Stp R w v w1 v1) (k:Keeps (fun k=>k=R) w1 w2):Stp R w v w2 v1:=h.on k (fun _ _ h=>h)
theorem Stp.same {R:Nat} {w w1 w2:World} {v v1:Value} (h:Stp R w v w1 v1) (k:Keeps (fun _=>False) w1 w2):Stp R w v w2 v1:=h.on k (fun _ _ h=>h.elim)
def plainPc (kind:Int):Pc := { kind:=kind,set := [],min:=0,max:=0,lazy:=false,num:=0,kids := [] }
theorem owned_plain (w:World) (kind:Int):Owned w (plainPc kind,.slice none 0 0,.slice none 0 0):=⟨own_nil _ _ _,own_nil _ _ _⟩
theorem owned_set {w:World} {base:Nat} {sv:Value} {S:Bs} (h:w.ownsRow base 102 2 sv (ranges S).length (flatR (ranges S))):Owned w (setPc S,sv,.slice none 0 0) :=
 ⟨ownsRow_base h (fun _ _=>Nat.zero_le _),own_nil _ _ _⟩
theorem atom_start {w:World} {R p g deep B:Nat} {s:ByteArray} {v:Value} {L:List Pm} {alt:Nat→Nat→Rd3} {room:Bool} (S:Sp w R s p (-1) g v L) (hs:s.size≤120) (hp:p < s.size) (hL:L.length≤2000) (hB:L.length + 1≤B) (hb:bt s p=94) :
  Calls Tryz.prog 93 #[.pointer (some ⟨R,0,none⟩),.int .i64 deep] w (Post (atomRef alt room s p g) R s B w v L):=by
 obtain ⟨i0,hi,hz0,hz1,hz2⟩:=info_parts Tryz.infoBool
 have HE:Hid (atomRef alt room s p g = .ok (startPf,p + 1,g)):=by show _ = _; simp [atomRef,hb]
 have c0:=S.rd.c0
 have c1:=S.rd.c1
 have hpz:(p:Int) < (s.size:Int):=by omega
 have hc:s[p].toNat=94:=by rw [← hb,bt_in hp]
 clear hb
 go_enter Tryz.func93,Tryz.ntmps93
 go_wp2
 go_quiet (fail)
 have st:Stp R w v (w.drewN nq) v:=(Stp.refl _ _ _).same ((Keeps.refl _ _).drewN _)
 have S1:Sp (w.drewN nq) R s p (-1) g v L:=S.drewN nq
 have hwI:w.heap.size≤(w.drewN nq).heap.size:=Nat.le_refl _
 clear c0 c1 S
 generalize w.drewN nq=w1 at st S1 hwI ⊢
 go_wp2_with (first
  | (at_make; refine wpList_make_full _ rfl _ _ 45 rfl w1.heap.size 4 i0 (.bool false) 1 Tryz.underlying45 hi hz0 hz1 _ _ _ _ 256 rfl rfl rfl rfl (by rw [hz2]; decide) (by unfold maxLen; omega) (Nat.le_refl _) ?_; intro w2 ho hg; replace st:=st.same ((Keeps.refl (fun _=>False) _).grown hg (by simp)); have S2:=S1.same ((Keeps.refl (fun _=>False) _).grown hg (by simp)); have hI2:=in_made ho; have c1:=S2.rd.c1; have f1:=S2.rd.fz 1)
  | (go_at_call 63; refine (addP (S2.inc) (plainPc 6,.slice none 0 0,.slice none 0 0) (owned_plain _ _) (by omega) (st.onR (keepsR _ _ _ _)) (New.refl _ _) (by simp [Value.ownBlock])).mono ?_; rintro e w3 ⟨rfl,v3,S3,st3,hn3⟩))
 go_ret
 exact post_ok HE.out S3 (by simp [startPf,plainPc]) (by simp [startPf]) st3 hn3
theorem atom_end {w:World} {R p g deep B:Nat} {s:ByteArray} {v:Value} {L:List Pm} {alt:Nat→Nat→Rd3} {room:Bool} (S:Sp w R s p (-1) g v L) (hs:s.size≤120) (hp:p < s.size) (hL:L.length≤2000) (hB:L.length + 1≤B) (hb:bt s p=36) :
  Calls Tryz.prog 93 #[.pointer (some ⟨R,0,none⟩),.int .i64 deep] w (Post (atomRef alt room s p g) R s B w v L):=by
 obtain ⟨i0,hi,hz0,hz1,hz2⟩:=info_parts Tryz.infoBool
 have HE:Hid (atomRef alt room s p g = .ok (endPf,p + 1,g)):=by show _ = _; simp [atomRef,hb]
 have c0:=S.rd.c0
 have c1:=S.rd.c1
 have hpz:(p:Int) < (s.size:Int):=by omega
 have hc:s[p].toNat=36:=by rw [← hb,bt_in hp]
 clear hb
 go_enter Tryz.func93,Tryz.ntmps93
 go_wp2
 go_quiet (fail)
 have st:Stp R w v (w.drewN nq) v:=(Stp.refl _ _ _).same ((Keeps.refl _ _).drewN _)
 have S1:Sp (w.drewN nq) R s p (-1) g v L:=S.drewN nq
 have hwI:w.heap.size≤(w.drewN nq).heap.size:=Nat.le_refl _
 clear c0 c1 S
 generalize w.drewN nq=w1 at st S1 hwI ⊢
 go_wp2_with (first
  | (at_make; refine wpList_make_full _ rfl _ _ 45 rfl w1.heap.size 4 i0 (.bool false) 1 Tryz.underlying45 hi hz0 hz1 _ _ _ _ 256 rfl rfl rfl rfl (by rw [hz2]; decide) (by unfold maxLen; omega) (Nat.le_refl _) ?_; intro w2 ho hg; replace st:=st.same ((Keeps.refl (fun _=>False) _).grown hg (by simp)); have S2:=S1.same ((Keeps.refl (fun _=>False) _).grown hg (by simp)); have hI2:=in_made ho; have c1:=S2.rd.c1; have f1:=S2.rd.fz 1)
  | (go_at_call 63; refine (addP (S2.inc) (plainPc 7,.slice none 0 0,.slice none 0 0) (owned_plain _ _) (by omega) (st.onR (keepsR _ _ _ _)) (New.refl _ _) (by simp [Value.ownBlock])).mono ?_; rintro e w3 ⟨rfl,v3,S3,st3,hn3⟩))
 go_ret
 exact post_ok HE.out S3 (by simp [endPf,plainPc]) (by simp [endPf]) st3 hn3
theorem atom_b1 {w:World} {R p g deep B:Nat} {s:ByteArray} {v:Value} {L:List Pm} {alt:Nat→Nat→Rd3} {room:Bool} (S:Sp w R s p (-1) g v L) (hs:s.size≤120) (hp:p < s.size) (hL:L.length≤2000) (hB:L.length + 1≤B) (hb:bt s p=42) :
  Calls Tryz.prog 93 #[.pointer (some ⟨R,0,none⟩),.int .i64 deep] w (Post (atomRef alt room s p g) R s B w v L):=by
 obtain ⟨i0,hi,hz0,hz1,hz2⟩:=info_parts Tryz.infoBool
 have HE:Hid (atomRef alt room s p g = .error p):=by show _ = _; simp [atomRef,hb]
 have c0:=S.rd.c0
 have c1:=S.rd.c1
 have hpz:(p:Int) < (s.size:Int):=by omega
 have hc:s[p].toNat=42:=by rw [← hb,bt_in hp]
 clear hb
 go_enter Tryz.func93,Tryz.ntmps93
 go_wp2
 go_quiet (fail)
 have st:Stp R w v (w.drewN nq) v:=(Stp.refl _ _ _).same ((Keeps.refl _ _).drewN _)
 have S1:Sp (w.drewN nq) R s p (-1) g v L:=S.drewN nq
 have hwI:w.heap.size≤(w.drewN nq).heap.size:=Nat.le_refl _
 clear c0 c1 S
 generalize w.drewN nq=w1 at st S1 hwI ⊢
 go_wp2_with (first
  | (at_make; refine wpList_make_full _ rfl _ _ 45 rfl w1.heap.size 4 i0 (.bool false) 1 Tryz.underlying45 hi hz0 hz1 _ _ _ _ 256 rfl rfl rfl rfl (by rw [hz2]; decide) (by unfold maxLen; omega) (Nat.le_refl _) ?_; intro w2 ho hg; replace st:=st.same ((Keeps.refl (fun _=>False) _).grown hg (by simp)); have S2:=S1.same ((Keeps.refl (fun _=>False) _).grown hg (by simp)); have hI2:=in_made ho; have c1:=S2.rd.c1; have f1:=S2.rd.fz 1)
  | (go_at_call 41; refine (failO ⟨S2.rd⟩).mono ?_; rintro e w3 ⟨rfl,hB3,hk⟩))
 go_ret
 obtain ⟨a3,g3,r3⟩:=hB3.rd
 exact post_err HE.out (S2.atR hk r3) (by omega) (st.onR hk) (New.refl _ _)
theorem atom_b2 {w:World} {R p g deep B:Nat} {s:ByteArray} {v:Value} {L:List Pm} {alt:Nat→Nat→Rd3} {room:Bool} (S:Sp w R s p (-1) g v L) (hs:s.size≤120) (hp:p < s.size) (hL:L.length≤2000) (hB:L.length + 1≤B) (hb:bt s p=43) :
  Calls Tryz.prog 93 #[.pointer (some ⟨R,0,none⟩),.int .i64 deep] w (Post (atomRef alt room s p g) R s B w v L):=by
 obtain ⟨i0,hi,hz0,hz1,hz2⟩:=info_parts Tryz.infoBool
 have HE:Hid (atomRef alt room s p g = .error p):=by show _ = _; simp [atomRef,hb]
 have c0:=S.rd.c0
 have c1:=S.rd.c1
 have hpz:(p:Int) < (s.size:Int):=by omega
 have hc:s[p].toNat=43:=by rw [← hb,bt_in hp]
 clear hb
 go_enter Tryz.func93,Tryz.ntmps93
 go_wp2
 go_quiet (fail)
 have st:Stp R w v (w.drewN nq) v:=(Stp.refl _ _ _).same ((Keeps.refl _ _).drewN _)
 have S1:Sp (w.drewN nq) R s p (-1) g v L:=S.drewN nq
 have hwI:w.heap.size≤(w.drewN nq).heap.size:=Nat.le_refl _
 clear c0 c1 S
 generalize w.drewN nq=w1 at st S1 hwI ⊢
 go_wp2_with (first
  | (at_make; refine wpList_make_full _ rfl _ _ 45 rfl w1.heap.size 4 i0 (.bool false) 1 Tryz.underlying45 hi hz0 hz1 _ _ _ _ 256 rfl rfl rfl rfl (by rw [hz2]; decide) (by unfold maxLen; omega) (Nat.le_refl _) ?_; intro w2 ho hg; replace st:=st.same ((Keeps.refl (fun _=>False) _).grown hg (by simp)); have S2:=S1.same ((Keeps.refl (fun _=>False) _).grown hg (by simp)); have hI2:=in_made ho; have c1:=S2.rd.c1; have f1:=S2.rd.fz 1)
  | (go_at_call 41; refine (failO ⟨S2.rd⟩).mono ?_; rintro e w3 ⟨rfl,hB3,hk⟩))
 go_ret
 obtain ⟨a3,g3,r3⟩:=hB3.rd
 exact post_err HE.out (S2.atR hk r3) (by omega) (st.onR hk) (New.refl _ _)
theorem atom_b3 {w:World} {R p g deep B:Nat} {s:ByteArray} {v:Value} {L:List Pm} {alt:Nat→Nat→Rd3} {room:Bool} (S:Sp w R s p (-1) g v L) (hs:s.size≤120) (hp:p < s.size) (hL:L.length≤2000) (hB:L.length + 1≤B) (hb:bt s p=63) :
  Calls Tryz.prog 93 #[.pointer (some ⟨R,0,none⟩),.int .i64 deep] w (Post (atomRef alt room s p g) R s B w v L):=by
 obtain ⟨i0,hi,hz0,hz1,hz2⟩:=info_parts Tryz.infoBool
 have HE:Hid (atomRef alt room s p g = .error p):=by show _ = _; simp [atomRef,hb]
 have c0:=S.rd.c0
 have c1:=S.rd.c1
 have hpz:(p:Int) < (s.size:Int):=by omega
 have hc:s[p].toNat=63:=by rw [← hb,bt_in hp]
 clear hb
 go_enter Tryz.func93,Tryz.ntmps93
 go_wp2
 go_quiet (fail)
 have st:Stp R w v (w.drewN nq) v:=(Stp.refl _ _ _).same ((Keeps.refl _ _).drewN _)
 have S1:Sp (w.drewN nq) R s p (-1) g v L:=S.drewN nq
 have hwI:w.heap.size≤(w.drewN nq).heap.size:=Nat.le_refl _
 clear c0 c1 S
 generalize w.drewN nq=w1 at st S1 hwI ⊢
 go_wp2_with (first
  | (at_make; refine wpList_make_full _ rfl _ _ 45 rfl w1.heap.size 4 i0 (.bool false) 1 Tryz.underlying45 hi hz0 hz1 _ _ _ _ 256 rfl rfl rfl rfl (by rw [hz2]; decide) (by unfold maxLen; omega) (Nat.le_refl _) ?_; intro w2 ho hg; replace st:=st.same ((Keeps.refl (fun _=>False) _).grown hg (by simp)); have S2:=S1.same ((Keeps.refl (fun _=>False) _).grown hg (by simp)); have hI2:=in_made ho; have c1:=S2.rd.c1; have f1:=S2.rd.fz 1)
  | (go_at_call 41; refine (failO ⟨S2.rd⟩).mono ?_; rintro e w3 ⟨rfl,hB3,hk⟩))
 go_ret
 obtain ⟨a3,g3,r3⟩:=hB3.rd
 exact post_err HE.out (S2.atR hk r3) (by omega) (st.onR hk) (New.refl _ _)
theorem atom_b4 {w:World} {R p g deep B:Nat} {s:ByteArray} {v:Value} {L:List Pm} {alt:Nat→Nat→Rd3} {room:Bool} (S:Sp w R s p (-1) g v L) (hs:s.size≤120) (hp:p < s.size) (hL:L.length≤2000) (hB:L.length + 1≤B) (hb:bt s p=123) :
  Calls Tryz.prog 93 #[.pointer (some ⟨R,0,none⟩),.int .i64 deep] w (Post (atomRef alt room s p g) R s B w v L):=by
 obtain ⟨i0,hi,hz0,hz1,hz2⟩:=info_parts Tryz.infoBool
 have HE:Hid (atomRef alt room s p g = .error p):=by show _ = _; simp [atomRef,hb]
 have c0:=S.rd.c0
 have c1:=S.rd.c1
 have hpz:(p:Int) < (s.size:Int):=by omega
 have hc:s[p].toNat=123:=by rw [← hb,bt_in hp]
 clear hb
 go_enter Tryz.func93,Tryz.ntmps93
 go_wp2
 go_quiet (fail)
 have st:Stp R w v (w.drewN nq) v:=(Stp.refl _ _ _).same ((Keeps.refl _ _).drewN _)
 have S1:Sp (w.drewN nq) R s p (-1) g v L:=S.drewN nq
 have hwI:w.heap.size≤(w.drewN nq).heap.size:=Nat.le_refl _
 clear c0 c1 S
 generalize w.drewN nq=w1 at st S1 hwI ⊢
 go_wp2_with (first
  | (at_make; refine wpList_make_full _ rfl _ _ 45 rfl w1.heap.size 4 i0 (.bool false) 1 Tryz.underlying45 hi hz0 hz1 _ _ _ _ 256 rfl rfl rfl rfl (by rw [hz2]; decide) (by unfold maxLen; omega) (Nat.le_refl _) ?_; intro w2 ho hg; replace st:=st.same ((Keeps.refl (fun _=>False) _).grown hg (by simp)); have S2:=S1.same ((Keeps.refl (fun _=>False) _).grown hg (by simp)); have hI2:=in_made ho; have c1:=S2.rd.c1; have f1:=S2.rd.fz 1)
  | (go_at_call 41; refine (failO ⟨S2.rd⟩).mono ?_; rintro e w3 ⟨rfl,hB3,hk⟩))
 go_ret
 obtain ⟨a3,g3,r3⟩:=hB3.rd
 exact post_err HE.out (S2.atR hk r3) (by omega) (st.onR hk) (New.refl _ _)
theorem atom_b5 {w:World} {R p g deep B:Nat} {s:ByteArray} {v:Value} {L:List Pm} {alt:Nat→Nat→Rd3} {room:Bool} (S:Sp w R s p (-1) g v L) (hs:s.size≤120) (hp:p < s.size) (hL:L.length≤2000) (hB:L.length + 1≤B) (hb:bt s p=125) :
  Calls Tryz.prog 93 #[.pointer (some ⟨R,0,none⟩),.int .i64 deep] w (Post (atomRef alt room s p g) R s B w v L):=by
 obtain ⟨i0,hi,hz0,hz1,hz2⟩:=info_parts Tryz.infoBool
 have HE:Hid (atomRef alt room s p g = .error p):=by show _ = _; simp [atomRef,hb]
 have c0:=S.rd.c0
 have c1:=S.rd.c1
 have hpz:(p:Int) < (s.size:Int):=by omega
 have hc:s[p].toNat=125:=by rw [← hb,bt_in hp]
 clear hb
 go_enter Tryz.func93,Tryz.ntmps93
 go_wp2
 go_quiet (fail)
 have st:Stp R w v (w.drewN nq) v:=(Stp.refl _ _ _).same ((Keeps.refl _ _).drewN _)
 have S1:Sp (w.drewN nq) R s p (-1) g v L:=S.drewN nq
 have hwI:w.heap.size≤(w.drewN nq).heap.size:=Nat.le_refl _
 clear c0 c1 S
 generalize w.drewN nq=w1 at st S1 hwI ⊢
 go_wp2_with (first
  | (at_make; refine wpList_make_full _ rfl _ _ 45 rfl w1.heap.size 4 i0 (.bool false) 1 Tryz.underlying45 hi hz0 hz1 _ _ _ _ 256 rfl rfl rfl rfl (by rw [hz2]; decide) (by unfold maxLen; omega) (Nat.le_refl _) ?_; intro w2 ho hg; replace st:=st.same ((Keeps.refl (fun _=>False) _).grown hg (by simp)); have S2:=S1.same ((Keeps.refl (fun _=>False) _).grown hg (by simp)); have hI2:=in_made ho; have c1:=S2.rd.c1; have f1:=S2.rd.fz 1)
  | (go_at_call 41; refine (failO ⟨S2.rd⟩).mono ?_; rintro e w3 ⟨rfl,hB3,hk⟩))
 go_ret
 obtain ⟨a3,g3,r3⟩:=hB3.rd
 exact post_err HE.out (S2.atR hk r3) (by omega) (st.onR hk) (New.refl _ _)
theorem atom_b6 {w:World} {R p g deep B:Nat} {s:ByteArray} {v:Value} {L:List Pm} {alt:Nat→Nat→Rd3} {room:Bool} (S:Sp w R s p (-1) g v L) (hs:s.size≤120) (hp:p < s.size) (hL:L.length≤2000) (hB:L.length + 1≤B) (hb:bt s p=93) :
  Calls Tryz.prog 93 #[.pointer (some ⟨R,0,none⟩),.int .i64 deep] w (Post (atomRef alt room s p g) R s B w v L):=by
 obtain ⟨i0,hi,hz0,hz1,hz2⟩:=info_parts Tryz.infoBool
 have HE:Hid (atomRef alt room s p g = .error p):=by show _ = _; simp [atomRef,hb]
 have c0:=S.rd.c0
 have c1:=S.rd.c1
 have hpz:(p:Int) < (s.size:Int):=by omega
 have hc:s[p].toNat=93:=by rw [← hb,bt_in hp]
 clear hb
 go_enter Tryz.func93,Tryz.ntmps93
 go_wp2
 go_quiet (fail)
 have st:Stp R w v (w.drewN nq) v:=(Stp.refl _ _ _).same ((Keeps.refl _ _).drewN _)
 have S1:Sp (w.drewN nq) R s p (-1) g v L:=S.drewN nq
 have hwI:w.heap.size≤(w.drewN nq).heap.size:=Nat.le_refl _
 clear c0 c1 S
 generalize w.drewN nq=w1 at st S1 hwI ⊢
 go_wp2_with (first
  | (at_make; refine wpList_make_full _ rfl _ _ 45 rfl w1.heap.size 4 i0 (.bool false) 1 Tryz.underlying45 hi hz0 hz1 _ _ _ _ 256 rfl rfl rfl rfl (by rw [hz2]; decide) (by unfold maxLen; omega) (Nat.le_refl _) ?_; intro w2 ho hg; replace st:=st.same ((Keeps.refl (fun _=>False) _).grown hg (by simp)); have S2:=S1.same ((Keeps.refl (fun _=>False) _).grown hg (by simp)); have hI2:=in_made ho; have c1:=S2.rd.c1; have f1:=S2.rd.fz 1)
  | (go_at_call 41; refine (failO ⟨S2.rd⟩).mono ?_; rintro e w3 ⟨rfl,hB3,hk⟩))
 go_ret
 obtain ⟨a3,g3,r3⟩:=hB3.rd
 exact post_err HE.out (S2.atR hk r3) (by omega) (st.onR hk) (New.refl _ _)
theorem Sp.atI {w w':World} {R I:Nat} {s:ByteArray} {a b g:Int} {v:Value} {L:List Pm} {S:Bs} (h:Sp w R s a b g v L) (hI:In w I S) (hk:Keeps (fun k=>k=I) w w'):Sp w' R s a b g v L :=
 h.atRI hI (hk.mono fun _ _ h=>Or.inr h) (h.rd.keeps hk (by rintro rfl; have h1:=h.rd; have h2:=hI; unfold Rd at h1; unfold In at h2; rw [h1] at h2; simp at h2))
theorem atom_dot {w:World} {R p g deep B:Nat} {s:ByteArray} {v:Value} {L:List Pm} {alt:Nat→Nat→Rd3} {room:Bool} (S:Sp w R s p (-1) g v L) (hs:s.size≤120) (hp:p < s.size) (hL:L.length≤2000) (hB:L.length + 1≤B) (hb:bt s p=46) :
  Calls Tryz.prog 93 #[.pointer (some ⟨R,0,none⟩),.int .i64 deep] w (Post (atomRef alt room s p g) R s B w v L):=by
 obtain ⟨i0,hi,hz0,hz1,hz2⟩:=info_parts Tryz.infoBool
 have HE:Hid (atomRef alt room s p g = .ok (setPf dot,p + 1,g)):=by show _ = _; simp [atomRef,hb]
 have c0:=S.rd.c0
 have c1:=S.rd.c1
 have hpz:(p:Int) < (s.size:Int):=by omega
 have hc:s[p].toNat=46:=by rw [← hb,bt_in hp]
 clear hb
 go_enter Tryz.func93,Tryz.ntmps93
 go_wp2
 go_quiet (fail)
 have st:Stp R w v (w.drewN nq) v:=(Stp.refl _ _ _).same ((Keeps.refl _ _).drewN _)
 have S1:Sp (w.drewN nq) R s p (-1) g v L:=S.drewN nq
 have hwI:w.heap.size≤(w.drewN nq).heap.size:=Nat.le_refl _
 clear c0 c1 S
 generalize w.drewN nq=w1 at st S1 hwI ⊢
 go_wp2_with (first
  | (at_make; refine wpList_make_full _ rfl _ _ 45 rfl w1.heap.size 4 i0 (.bool false) 1 Tryz.underlying45 hi hz0 hz1 _ _ _ _ 256 rfl rfl rfl rfl (by rw [hz2]; decide) (by unfold maxLen; omega) (Nat.le_refl _) ?_; intro w2 ho hg; replace st:=st.same ((Keeps.refl (fun _=>False) _).grown hg (by simp)); have S2:=S1.same ((Keeps.refl (fun _=>False) _).grown hg (by simp)); have hI2:=in_made ho; have c1:=S2.rd.c1; have f1:=S2.rd.fz 1)
  | (go_at_call 132; refine (l1range_at hI2 _ _ (by omega) (by omega) (by omega) (by omega)).mono ?_; rintro e w3 ⟨rfl,hI3,hk3⟩; have S3:=S2.atI hI2 hk3; have st3:=st.on hk3 (fun i hi' h=>by omega); have d1:=hI3.cell (x:=10) (by omega); have d2:=hI3.fz 10; have kI:Keeps (fun k=>k=w1.heap.size) w3 (w3.setCell ⟨w1.heap.size,10,none⟩ (.bool false)):=(Keeps.refl (fun k=>k=w1.heap.size) _).setCell (fun _=>rfl) _; have S4a:=S3.atI hI3 kI; have c2:=S4a.rd.c1; have f2:=S4a.rd.fz 1; have S4:=S4a.inc; have st4:=(st3.on kI (fun i hi' h=>by omega)).onR (keepsR _ R 1 (.int .i64 ((p:Int) + 1))); have hI4:=(hI3.set 10 false).keeps (keepsR _ R 1 (.int .i64 ((p:Int) + 1))) (fun h=>by have:=S1.rd.lt; omega))
  | (go_at_call 134; refine (l1set_any hI4).mono ?_; rintro e w5 ⟨sv,rfl,hown,hk5⟩; obtain ⟨ao,cap,rfl⟩:=own_form hown)
  | (go_at_call 63; refine (addP (S4.same hk5) (setPc _,.slice ao _ cap,.slice none 0 0) (owned_set hown) (by omega) (st4.same hk5) (New.refl _ _) (by simp [Value.ownBlock])).mono ?_; rintro e w6 ⟨rfl,v6,S6,st6,hn6⟩))
 go_ret
 refine post_ok HE.out S6 ?_ (by simp [setPf]) st6 hn6
 rw [List.map_append]
 congr 1
theorem atom_self {w:World} {R p g deep B:Nat} {s:ByteArray} {v:Value} {L:List Pm} {alt:Nat→Nat→Rd3} {room:Bool} (S:Sp w R s p (-1) g v L) (hs:s.size≤120) (hp:p < s.size) (hL:L.length≤2000) (hB:L.length + 1≤B) (hb:(bt s p≠40∧bt s p≠91∧bt s p≠94∧bt s p≠36∧bt s p≠46∧bt s p≠92)∧bt s p≠42∧bt s p≠43∧bt s p≠63∧bt s p≠123∧bt s p≠125∧bt s p≠93) :
  Calls Tryz.prog 93 #[.pointer (some ⟨R,0,none⟩),.int .i64 deep] w (Post (atomRef alt room s p g) R s B w v L):=by
 obtain ⟨i0,hi,hz0,hz1,hz2⟩:=info_parts Tryz.infoBool
 have HE:Hid (atomRef alt room s p g = .ok (setPf (one (bt s p)),p + 1,g)):=by
  show _ = _; unfold atomRef
  rw [if_neg (by omega),if_neg (by omega),if_neg (by omega),if_neg (by omega),if_neg (by omega),if_neg (by omega),if_neg (by omega)]
 have c0:=S.rd.c0
 have c1:=S.rd.c1
 have hpz:(p:Int) < (s.size:Int):=by omega
 have hc:s[p].toNat=bt s p:=(bt_in hp).symm
 have hcl:=bt_lt hp
 obtain ⟨c,hcc⟩ :∃c,bt s p=c:=⟨_,rfl⟩
 rw [hcc] at HE hb hc hcl
 obtain ⟨⟨n1,n2,n3,n4,n5,n6⟩,n7,n8,n9,n10,n11,n12⟩:=hb
 have hcz:(c:Int) < 256:=by omega
 clear hcc
 go_enter Tryz.func93,Tryz.ntmps93
 go_wp2
 go_quiet (fail)
 have st:Stp R w v (w.drewN nq) v:=(Stp.refl _ _ _).same ((Keeps.refl _ _).drewN _)
 have S1:Sp (w.drewN nq) R s p (-1) g v L:=S.drewN nq
 have hwI:w.heap.size≤(w.drewN nq).heap.size:=Nat.le_refl _
 clear c0 c1 S
 generalize w.drewN nq=w1 at st S1 hwI ⊢
 go_wp2_with (first
  | (at_make; refine wpList_make_full _ rfl _ _ 45 rfl w1.heap.size 4 i0 (.bool false) 1 Tryz.underlying45 hi hz0 hz1 _ _ _ _ 256 rfl rfl rfl rfl (by rw [hz2]; decide) (by unfold maxLen; omega) (Nat.le_refl _) ?_; intro w2 ho hg; replace st:=st.same ((Keeps.refl (fun _=>False) _).grown hg (by simp)); have S2:=S1.same ((Keeps.refl (fun _=>False) _).grown hg (by simp)); have hI2:=in_made ho; have c1:=S2.rd.c1; have f1:=S2.rd.fz 1; have d1:=hI2.cell hcl; have d2:=hI2.fz c; have kI:Keeps (fun k=>k=w1.heap.size) w2 (w2.setCell ⟨w1.heap.size,c,none⟩ (.bool true)):=(Keeps.refl (fun k=>k=w1.heap.size) _).setCell (fun _=>rfl) _; have S4a:=S2.atI hI2 kI; have c2:=S4a.rd.c1; have f2:=S4a.rd.fz 1; have S4:=S4a.inc; have st4:=(st.on kI (fun i hi' h=>by omega)).onR (keepsR _ R 1 (.int .i64 ((p:Int) + 1))); have hI4:=(hI2.setOne c).keeps (keepsR _ R 1 (.int .i64 ((p:Int) + 1))) (fun h=>by have:=S1.rd.lt; omega))
  | (go_at_call 134; refine (l1set_any hI4).mono ?_; rintro e w5 ⟨sv,rfl,hown,hk5⟩; obtain ⟨ao,cap,rfl⟩:=own_form hown)
  | (go_at_call 63; refine (addP (S4.same hk5) (setPc _,.slice ao _ cap,.slice none 0 0) (owned_set hown) (by omega) (st4.same hk5) (New.refl _ _) (by simp [Value.ownBlock])).mono ?_; rintro e w6 ⟨rfl,v6,S6,st6,hn6⟩))
 go_ret
 refine post_ok HE.out S6 ?_ (by simp [setPf]) st6 hn6
 have e2:ranges (un none' (one c))=ranges (one c):=rangesTo_congr _ (fun x _=>by simp [un,none'])
 simp [setPf,setPc,e2]
theorem atom_esc {w:World} {R p g deep B:Nat} {s:ByteArray} {v:Value} {L:List Pm} {alt:Nat→Nat→Rd3} {room:Bool} (S:Sp w R s p (-1) g v L) (hs:s.size≤120) (hp:p < s.size) (hL:L.length≤2000) (hB:L.length + 1≤B) (hb:bt s p=92) {T:Bs} {o:Option Nat} {q:Nat} (he:escRef s (p + 1) = .ok (T,o,q)) :
  Calls Tryz.prog 93 #[.pointer (some ⟨R,0,none⟩),.int .i64 deep] w (Post (atomRef alt room s p g) R s B w v L):=by
 obtain ⟨i0,hi,hz0,hz1,hz2⟩:=info_parts Tryz.infoBool
 have HE:Hid (atomRef alt room s p g = .ok (setPf T,q,g)):=by show _ = _; simp [atomRef,hb,he]
 have HX:Hid (escRef s (p + 1) = .ok (T,o,q)):=he
 clear he
 have c0:=S.rd.c0
 have c1:=S.rd.c1
 have hpz:(p:Int) < (s.size:Int):=by omega
 have hc:s[p].toNat=92:=by rw [← hb,bt_in hp]
 clear hb
 go_enter Tryz.func93,Tryz.ntmps93
 go_wp2
 go_quiet (fail)
 have st:Stp R w v (w.drewN nq) v:=(Stp.refl _ _ _).same ((Keeps.refl _ _).drewN _)
 have S1:Sp (w.drewN nq) R s p (-1) g v L:=S.drewN nq
 have hwI:w.heap.size≤(w.drewN nq).heap.size:=Nat.le_refl _
 clear c0 c1 S
 generalize w.drewN nq=w1 at st S1 hwI ⊢
 go_wp2_with (first
  | (at_make; refine wpList_make_full _ rfl _ _ 45 rfl w1.heap.size 4 i0 (.bool false) 1 Tryz.underlying45 hi hz0 hz1 _ _ _ _ 256 rfl rfl rfl rfl (by rw [hz2]; decide) (by unfold maxLen; omega) (Nat.le_refl _) ?_; intro w2 ho hg; replace st:=st.same ((Keeps.refl (fun _=>False) _).grown hg (by simp)); have S2:=S1.same ((Keeps.refl (fun _=>False) _).grown hg (by simp)); have hI2:=in_made ho; have c1:=S2.rd.c1; have f1:=S2.rd.fz 1)
  | (go_at_call 133; refine (escapeO ⟨S2.inc.rd⟩ (hI2.keeps (keepsR _ _ _ _) (fun h=>by have:=S1.rd.lt; omega)) (by have:=S1.rd.lt; omega) hs HX.out).mono ?_; rintro e w4 ⟨rfl,hO4,hI4,hk4⟩; have S4:=S2.inc.atRI (hI2.keeps (keepsR _ _ _ _) (fun h=>by have:=S1.rd.lt; omega)) hk4 hO4.rd; have st4:=(st.onR (keepsR w2 R 1 (.int .i64 ((p:Int) + 1)))).on hk4 (fun i hi' h=>h.elim (fun h=>h) (fun h=>by omega)))
  | (go_at_call 134; refine (l1set_any hI4).mono ?_; rintro e w5 ⟨sv,rfl,hown,hk5⟩; obtain ⟨ao,cap,rfl⟩:=own_form hown)
  | (go_at_call 63; refine (addP (S4.same hk5) (setPc _,.slice ao _ cap,.slice none 0 0) (owned_set hown) (by omega) (st4.same hk5) (New.refl _ _) (by simp [Value.ownBlock])).mono ?_; rintro e w6 ⟨rfl,v6,S6,st6,hn6⟩))
 go_ret
 refine post_ok HE.out S6 ?_ (by simp [setPf]) st6 hn6
 have e2:ranges (un none' T)=ranges T:=rangesTo_congr _ (fun x _=>by simp [un,none'])
 simp [setPf,setPc,e2]
theorem atom_escbad {w:World} {R p g deep B:Nat} {s:ByteArray} {v:Value} {L:List Pm} {alt:Nat→Nat→Rd3} {room:Bool} (S:Sp w R s p (-1) g v L) (hs:s.size≤120) (hp:p < s.size) (hL:L.length≤2000) (hB:L.length + 1≤B) (hb:bt s p=92) {x:Nat} (he:escRef s (p + 1) = .error x) :
  Calls Tryz.prog 93 #[.pointer (some ⟨R,0,none⟩),.int .i64 deep] w (Post (atomRef alt room s p g) R s B w v L):=by
 obtain ⟨i0,hi,hz0,hz1,hz2⟩:=info_parts Tryz.infoBool
 have HE:Hid (atomRef alt room s p g = .error x):=by show _ = _; simp [atomRef,hb,he]
 have HX:Hid (escRef s (p + 1) = .error x):=he
 clear he
 have c0:=S.rd.c0
 have c1:=S.rd.c1
 have hpz:(p:Int) < (s.size:Int):=by omega
 have hc:s[p].toNat=92:=by rw [← hb,bt_in hp]
 clear hb
 go_enter Tryz.func93,Tryz.ntmps93
 go_wp2
 go_quiet (fail)
 have st:Stp R w v (w.drewN nq) v:=(Stp.refl _ _ _).same ((Keeps.refl _ _).drewN _)
 have S1:Sp (w.drewN nq) R s p (-1) g v L:=S.drewN nq
 have hwI:w.heap.size≤(w.drewN nq).heap.size:=Nat.le_refl _
 clear c0 c1 S
 generalize w.drewN nq=w1 at st S1 hwI ⊢
 go_wp2_with (first
  | (at_make; refine wpList_make_full _ rfl _ _ 45 rfl w1.heap.size 4 i0 (.bool false) 1 Tryz.underlying45 hi hz0 hz1 _ _ _ _ 256 rfl rfl rfl rfl (by rw [hz2]; decide) (by unfold maxLen; omega) (Nat.le_refl _) ?_; intro w2 ho hg; replace st:=st.same ((Keeps.refl (fun _=>False) _).grown hg (by simp)); have S2:=S1.same ((Keeps.refl (fun _=>False) _).grown hg (by simp)); have hI2:=in_made ho; have c1:=S2.rd.c1; have f1:=S2.rd.fz 1)
  | (go_at_call 133; refine (escapeE ⟨S2.inc.rd⟩ (hI2.keeps (keepsR _ _ _ _) (fun h=>by have:=S1.rd.lt; omega)) (by have:=S1.rd.lt; omega) hs HX.out).mono ?_; rintro e w4 ⟨rfl,hB4,hI4e,hk4⟩; obtain ⟨T,hI4⟩:=hI4e; obtain ⟨a4,g4,r4⟩:=hB4.rd; have S4:=S2.inc.atRI (hI2.keeps (keepsR _ _ _ _) (fun h=>by have:=S1.rd.lt; omega)) hk4 r4; have st4:=(st.onR (keepsR w2 R 1 (.int .i64 ((p:Int) + 1)))).on hk4 (fun i hi' h=>h.elim (fun h=>h) (fun h=>by omega)))
  | (go_at_call 134; refine (l1set_any hI4).mono ?_; rintro e w5 ⟨sv,rfl,hown,hk5⟩; obtain ⟨ao,cap,rfl⟩:=own_form hown)
  | (go_at_call 63; refine (addP (S4.same hk5) (setPc _,.slice ao _ cap,.slice none 0 0) (owned_set hown) (by omega) (st4.same hk5) (New.refl _ _) (by simp [Value.ownBlock])).mono ?_; rintro e w6 ⟨rfl,v6,S6,st6,hn6⟩))
 go_ret
 exact post_err HE.out S6 (by simp; omega) st6 hn6
end Go.Proofs.YthkmmeamplmnhaaGreat
