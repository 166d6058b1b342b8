import Derived.Test.YtfkflljplohhcaaGreatDoorD
import Derived.Test.YtfkflljplohhcaaGreatDoorF
set_option maxHeartbeats 1000000
set_option maxRecDepth 1000000
namespace Go.Proofs.YtfkflljplohhcaaGreatDoor
open Go.RowKit
set_option linter.unusedVariables false
structure Stp (R:Nat) (w:World) (v:Value) (w':World) (v':Value):Prop where
 keeps:Za (Ex R v) w w'
 blk:Blk w v v'
def New (w:World) (L L':List Pm):Prop :=∃M,L'=L ++ M/\∀x∈M,∀k,x.2.2.ownBlock=some k->w.heap.size<=k
theorem New.refl (w:World) (L:List Pm):New w L L:=⟨[],by simp,by simp⟩
theorem New.trans {w w1:World} {L L1 L2:List Pm} (h:New w L L1) (k:New w1 L1 L2) (hs:w.heap.size<=w1.heap.size):New w L L2:=by
 obtain ⟨M,rfl,hM⟩:=h;obtain ⟨M',rfl,hM'⟩:=k;refine ⟨M ++ M',by simp,?_⟩;intro x hx k hk;rw [List.mem_append] at hx
 rcases hx with hx | hx
 ·exact hM x hx k hk
 ·exact Nat.le_trans hs (hM' x hx k hk)
theorem New.snoc {w:World} {L L1:List Pm} (h:New w L L1) (x:Pm) (hx :∀k,x.2.2.ownBlock=some k->w.heap.size<=k):New w L (L1 ++ [x]):=by
 obtain ⟨M,rfl,hM⟩:=h;refine ⟨M ++ [x],by simp,?_⟩;intro y hy k hk;rw [List.mem_append] at hy
 rcases hy with hy | hy
 ·exact hM y hy k hk
 ·simp at hy; subst hy; exact hx k hk
namespace Stp
variable {R:Nat} {w w1 w2:World} {v v1 v2:Value}
theorem refl (R:Nat) (w:World) (v:Value):Stp R w v w v:=⟨Za.refl _ _,fun k hk _=>hk⟩
theorem trans (h:Stp R w v w1 v1) (k:Stp R w1 v1 w2 v2):Stp R w v w2 v2 :=
 ⟨h.keeps.trans' k.keeps (fun i hi he=>he.elim Or.inl (fun hb=>Or.inr (h.blk i hb hi))),
  fun i hi hlt=>h.blk i (k.blk i hi (Nat.lt_of_lt_of_le hlt h.keeps.size)) hlt⟩
theorem on {E:Nat->Prop} (h:Stp R w v w1 v1) (k:Za E w1 w2) (hE :∀i,i < w.heap.size->E i->i=R):Stp R w v w2 v1 :=
 ⟨h.keeps.trans' k (fun i hi he=>Or.inl (hE i hi he)),h.blk⟩
end Stp
theorem Je.byTypes {E:Nat->Prop} {w w':World} {x:Pm} (h:Je w x) (hk:Za E w w') (hE :∀k,E k->k < w.heap.size->∃cs t,w.heap[k]? = some (.cells cs t (0,0))/\t≠250/\t≠3):Je w' x:=by
 refine ⟨Zb h.1 hk ?_,Zb h.2 hk ?_⟩
 ·intro k hk1 he;obtain ⟨cur,hh⟩:=Zu h.1 hk1;obtain ⟨cs,t,h1,h2,_⟩:=hE k he (lt_of_block hh);rw [h1] at hh; simp at hh; exact h2 hh.2
 ·intro k hk1 he;obtain ⟨cur,hh⟩:=Zu h.2 hk1;obtain ⟨cs,t,h1,_,h3⟩:=hE k he (lt_of_block hh);rw [h1] at hh; simp at hh; exact h3 hh.2
namespace Sp
variable {w w':World} {R I:Nat} {s:ByteArray} {a b g a' b' g':Int} {v:Value} {L:List Pm} {S:Bs}
theorem atRI (h:Sp w R s a b g v L) (hI:In w I S) (hk:Za (Er R I) w w') (hr:Rd w' R s a' b' g' v):Sp w' R s a' b' g' v L:=by
 have hT :∀k,Er R I k->k < w.heap.size->∃cs t,w.heap[k]? = some (.cells cs t (0,0))/\t≠250/\t≠3:=by
  rintro k (rfl | rfl) _
  ·exact ⟨_,_,h.rd,by decide,by decide⟩
  ·exact ⟨_,_,hI,by decide,by decide⟩
 refine ⟨hr,Zb h.row hk ?_,fun x hx=>(h.rows x hx).byTypes hk hT⟩;rintro k hk1 (rfl | rfl)
 ·exact Zi h.row h.rd (by decide) hk1
 ·exact Zi h.row hI (by decide) hk1
end Sp
def QI (ref:Rd3) (R:Nat) (s:ByteArray) (B:Nat) (w:World) (v:Value) (L:List Pm) (e:Ending) (w':World):Prop :=
 match ref with
 | .ok (f,q,g') =>∃v' L',e = .returned (.int .i64 ((L.length:Int) + (f L.length).length - 1))/\Sp w' R s q (-1) g' v' L'/\L'.map (·.1)=L.map (·.1) ++ f L.length/\Stp R w v w' v'/\New w L L'
 | .error x =>∃r v' L',e = .returned (.int .i64 r)/\(∃a g,Sp w' R s a x g v' L')/\L'.length<=B/\Stp R w v w' v'/\New w L L'
theorem Ql {ref:Rd3} {R x B:Nat} {s:ByteArray} {w w':World} {v v':Value} {L L':List Pm} {r a g:Int} (h:ref = .error x) (hS:Sp w' R s a x g v' L') (hB:L'.length<=B) (hst:Stp R w v w' v') (hn:New w L L') :
  QI ref R s B w v L (.returned (.int .i64 r)) w':=by
 unfold QI; rw [h]; exact ⟨r,v',L',rfl,⟨a,g,hS⟩,hB,hst,hn⟩
theorem Qg {ref:Rd3} {R q g B:Nat} {f:Pf} {s:ByteArray} {w w':World} {v v':Value} {L L':List Pm} {r:Int} (h:ref = .ok (f,q,g)) (hS:Sp w' R s q (-1) g v' L') (hm:L'.map (·.1)=L.map (·.1) ++ f L.length)
  (hr:r=(L.length:Int) + (f L.length).length - 1) (hst:Stp R w v w' v') (hn:New w L L') :
  QI ref R s B w v L (.returned (.int .i64 r)) w':=by
 unfold QI; rw [h]; exact ⟨v',L',by rw [hr],hS,hm,hst,hn⟩
theorem Zcc (w:World) (e size:Nat):w.ownsRow 0 e size (.slice none 0 0) 0 []:=World.ownsRow_nil _ _ _ _
theorem Zcz {w w1:World} {R:Nat} {s:ByteArray} {a b g:Int} {v v1:Value} {L L1:List Pm} (S:Sp w1 R s a b g v1 L1) (x:Pm) (hx:Je w1 x) (hL:L1.length<=100000)
  (hst:Stp R w v w1 v1) (hn:New w L L1) (hxn :∀k,x.2.2.ownBlock=some k->w.heap.size<=k) :
  Calls Tryz.prog 49 #[.pointer (some ⟨R,0,none⟩),.agg #[.int .i64 x.1.kind,x.2.1,.int .i64 x.1.min,.int .i64 x.1.max,.bool x.1.lazy,.int .i64 x.1.num,x.2.2]] w1 fun e w2 =>
   e = .returned (.int .i64 L1.length)/\∃v2,Sp w2 R s a b g v2 (L1 ++ [x])/\Stp R w v w2 v2/\New w L (L1 ++ [x]):=by
 refine (Zru S x hx hL).mono ?_;rintro e w2 ⟨rfl,v2,hS,hk,hb⟩;exact ⟨rfl,v2,hS,hst.trans ⟨hk,hb⟩,hn.snoc x hxn⟩
theorem Sp.inc {w:World} {R p:Nat} {s:ByteArray} {g:Int} {v:Value} {L:List Pm} (h:Sp w R s p (-1) g v L):Sp (w.setCell ⟨R,1,none⟩ (.int .i64 ((p:Int) + 1))) R s ((p + 1:Nat):Int) (-1) g v L :=
 h.atR ((Za.refl (fun k=>k=R) _).setCell (fun _=>rfl) _) (h.rd.set1 _)
theorem QW (w:World) (R i:Nat) (u:Value):Za (fun k=>k=R) w (w.setCell ⟨R,i,none⟩ u):=(Za.refl (fun k=>k=R) _).setCell (fun _=>rfl) _
theorem Stp.onR {R:Nat} {w w1 w2:World} {v v1:Value} (h:Stp R w v w1 v1) (k:Za (fun k=>k=R) w1 w2):Stp R w v w2 v1:=h.on k (fun _ _ h=>h)
theorem Stp.same {R:Nat} {w w1 w2:World} {v v1:Value} (h:Stp R w v w1 v1) (k:Za N0_ w1 w2):Stp R w v w2 v1:=h.on k (fun _ _ h=>h.elim)
def Zca (kind:Int):Pc := { kind:=kind,set := [],min:=0,max:=0,lazy:=false,num:=0,kids := [] }
theorem Zbs (w:World) (kind:Int):Je w (Zca kind,.slice none 0 0,.slice none 0 0):=⟨Zcc _ _ _,Zcc _ _ _⟩
theorem ZaT {w:World} {base:Nat} {sv:Value} {S:Bs} (h:w.ownsRow base 250 2 sv (Q2 S).length (ZB (Q2 S))):Je w (Zau S,sv,.slice none 0 0) :=
 ⟨Zr h (fun _ _=>Nat.zero_le _),Zcc _ _ _⟩
theorem ZjS {w:World} {R p g deep B:Nat} {s:ByteArray} {v:Value} {L:List Pm} {alt:Nat->Nat->Rd3} {room:Bool} (S:Sp w R s p (-1) g v L) (hs:s.size<=120) (hp:p < s.size) (hL:L.length<=2000) (hB:L.length + 1<=B) (hb:bt s p=94) :
  Calls Tryz.prog 92 #[.pointer (some ⟨R,0,none⟩),.int .i64 deep] w (QI (Zg alt room s p g) R s B w v L):=by
 obtain ⟨i0,hi,hz0,hz1,hz2⟩:=info_parts Tryz.infoBool;have HE:Hid (Zg alt room s p g = .ok (QN,p + 1,g)):=by show _ = _; simp [Zg,hb]
 have c0:=S.rd.c0;have c1:=S.rd.c1;have hpz:(p:Int) < (s.size:Int):=by omega
 have hc:s[p].toNat=94:=by rw [<- hb,ZV hp]
 clear hb;go_enter Tryz.func92,Tryz.ntmps92;go_wp2;go_quiet (fail);have st:Stp R w v (w.drewN nq) v:=(Stp.refl _ _ _).same ((Za.refl _ _).drewN _);have S1:Sp (w.drewN nq) R s p (-1) g v L:=S.drewN nq;have hwI:w.heap.size<=(w.drewN nq).heap.size:=Nat.le_refl _;clear c0 c1 S;generalize w.drewN nq=w1 at st S1 hwI ⊢;go_wp2_with (first
  | (at_make; refine wpList_make_full _ rfl _ _ 74 rfl w1.heap.size 4 i0 (.bool false) 1 Tryz.underlying74 hi hz0 hz1 _ _ _ _ 256 rfl rfl rfl rfl (by rw [hz2]; decide) (by unfold maxLen; omega) (Nat.le_refl _) ?_; intro w2 ho hg; replace st:=st.same ((Za.refl N0_ _).grown hg (by simp)); have S2:=S1.same ((Za.refl N0_ _).grown hg (by simp)); have hI2:=Qi ho; have c1:=S2.rd.c1; have f1:=S2.rd.fz 1)
  | (go_at_call 49; refine (Zcz (S2.inc) (Zca 6,.slice none 0 0,.slice none 0 0) (Zbs _ _) (by omega) (st.onR (QW _ _ _ _)) (New.refl _ _) (by simp [Value.ownBlock])).mono ?_; rintro e w3 ⟨rfl,v3,S3,st3,hn3⟩))
 go_ret;exact Qg HE.out S3 (by simp [QN,Zca]) (by simp [QN]) st3 hn3
theorem Zo9 {w:World} {R p g deep B:Nat} {s:ByteArray} {v:Value} {L:List Pm} {alt:Nat->Nat->Rd3} {room:Bool} (S:Sp w R s p (-1) g v L) (hs:s.size<=120) (hp:p < s.size) (hL:L.length<=2000) (hB:L.length + 1<=B) (hb:bt s p=36) :
  Calls Tryz.prog 92 #[.pointer (some ⟨R,0,none⟩),.int .i64 deep] w (QI (Zg alt room s p g) R s B w v L):=by
 obtain ⟨i0,hi,hz0,hz1,hz2⟩:=info_parts Tryz.infoBool;have HE:Hid (Zg alt room s p g = .ok (Zbh,p + 1,g)):=by show _ = _; simp [Zg,hb]
 have c0:=S.rd.c0;have c1:=S.rd.c1;have hpz:(p:Int) < (s.size:Int):=by omega
 have hc:s[p].toNat=36:=by rw [<- hb,ZV hp]
 clear hb;go_enter Tryz.func92,Tryz.ntmps92;go_wp2;go_quiet (fail);have st:Stp R w v (w.drewN nq) v:=(Stp.refl _ _ _).same ((Za.refl _ _).drewN _);have S1:Sp (w.drewN nq) R s p (-1) g v L:=S.drewN nq;have hwI:w.heap.size<=(w.drewN nq).heap.size:=Nat.le_refl _;clear c0 c1 S;generalize w.drewN nq=w1 at st S1 hwI ⊢;go_wp2_with (first
  | (at_make; refine wpList_make_full _ rfl _ _ 74 rfl w1.heap.size 4 i0 (.bool false) 1 Tryz.underlying74 hi hz0 hz1 _ _ _ _ 256 rfl rfl rfl rfl (by rw [hz2]; decide) (by unfold maxLen; omega) (Nat.le_refl _) ?_; intro w2 ho hg; replace st:=st.same ((Za.refl N0_ _).grown hg (by simp)); have S2:=S1.same ((Za.refl N0_ _).grown hg (by simp)); have hI2:=Qi ho; have c1:=S2.rd.c1; have f1:=S2.rd.fz 1)
  | (go_at_call 49; refine (Zcz (S2.inc) (Zca 7,.slice none 0 0,.slice none 0 0) (Zbs _ _) (by omega) (st.onR (QW _ _ _ _)) (New.refl _ _) (by simp [Value.ownBlock])).mono ?_; rintro e w3 ⟨rfl,v3,S3,st3,hn3⟩))
 go_ret;exact Qg HE.out S3 (by simp [Zbh,Zca]) (by simp [Zbh]) st3 hn3
theorem Zrf {w:World} {R p g deep B:Nat} {s:ByteArray} {v:Value} {L:List Pm} {alt:Nat->Nat->Rd3} {room:Bool} (S:Sp w R s p (-1) g v L) (hs:s.size<=120) (hp:p < s.size) (hL:L.length<=2000) (hB:L.length + 1<=B) (hb:bt s p=42) :
  Calls Tryz.prog 92 #[.pointer (some ⟨R,0,none⟩),.int .i64 deep] w (QI (Zg alt room s p g) R s B w v L):=by
 obtain ⟨i0,hi,hz0,hz1,hz2⟩:=info_parts Tryz.infoBool;have HE:Hid (Zg alt room s p g = .error p):=by show _ = _; simp [Zg,hb]
 have c0:=S.rd.c0;have c1:=S.rd.c1;have hpz:(p:Int) < (s.size:Int):=by omega
 have hc:s[p].toNat=42:=by rw [<- hb,ZV hp]
 clear hb;go_enter Tryz.func92,Tryz.ntmps92;go_wp2;go_quiet (fail);have st:Stp R w v (w.drewN nq) v:=(Stp.refl _ _ _).same ((Za.refl _ _).drewN _);have S1:Sp (w.drewN nq) R s p (-1) g v L:=S.drewN nq;have hwI:w.heap.size<=(w.drewN nq).heap.size:=Nat.le_refl _;clear c0 c1 S;generalize w.drewN nq=w1 at st S1 hwI ⊢;go_wp2_with (first
  | (at_make; refine wpList_make_full _ rfl _ _ 74 rfl w1.heap.size 4 i0 (.bool false) 1 Tryz.underlying74 hi hz0 hz1 _ _ _ _ 256 rfl rfl rfl rfl (by rw [hz2]; decide) (by unfold maxLen; omega) (Nat.le_refl _) ?_; intro w2 ho hg; replace st:=st.same ((Za.refl N0_ _).grown hg (by simp)); have S2:=S1.same ((Za.refl N0_ _).grown hg (by simp)); have hI2:=Qi ho; have c1:=S2.rd.c1; have f1:=S2.rd.fz 1)
  | (go_at_call 28; refine (ZaN ⟨S2.rd⟩).mono ?_; rintro e w3 ⟨rfl,hB3,hk⟩))
 go_ret;obtain ⟨a3,g3,r3⟩:=hB3.rd;exact Ql HE.out (S2.atR hk r3) (by omega) (st.onR hk) (New.refl _ _)
theorem Zre {w:World} {R p g deep B:Nat} {s:ByteArray} {v:Value} {L:List Pm} {alt:Nat->Nat->Rd3} {room:Bool} (S:Sp w R s p (-1) g v L) (hs:s.size<=120) (hp:p < s.size) (hL:L.length<=2000) (hB:L.length + 1<=B) (hb:bt s p=43) :
  Calls Tryz.prog 92 #[.pointer (some ⟨R,0,none⟩),.int .i64 deep] w (QI (Zg alt room s p g) R s B w v L):=by
 obtain ⟨i0,hi,hz0,hz1,hz2⟩:=info_parts Tryz.infoBool;have HE:Hid (Zg alt room s p g = .error p):=by show _ = _; simp [Zg,hb]
 have c0:=S.rd.c0;have c1:=S.rd.c1;have hpz:(p:Int) < (s.size:Int):=by omega
 have hc:s[p].toNat=43:=by rw [<- hb,ZV hp]
 clear hb;go_enter Tryz.func92,Tryz.ntmps92;go_wp2;go_quiet (fail);have st:Stp R w v (w.drewN nq) v:=(Stp.refl _ _ _).same ((Za.refl _ _).drewN _);have S1:Sp (w.drewN nq) R s p (-1) g v L:=S.drewN nq;have hwI:w.heap.size<=(w.drewN nq).heap.size:=Nat.le_refl _;clear c0 c1 S;generalize w.drewN nq=w1 at st S1 hwI ⊢;go_wp2_with (first
  | (at_make; refine wpList_make_full _ rfl _ _ 74 rfl w1.heap.size 4 i0 (.bool false) 1 Tryz.underlying74 hi hz0 hz1 _ _ _ _ 256 rfl rfl rfl rfl (by rw [hz2]; decide) (by unfold maxLen; omega) (Nat.le_refl _) ?_; intro w2 ho hg; replace st:=st.same ((Za.refl N0_ _).grown hg (by simp)); have S2:=S1.same ((Za.refl N0_ _).grown hg (by simp)); have hI2:=Qi ho; have c1:=S2.rd.c1; have f1:=S2.rd.fz 1)
  | (go_at_call 28; refine (ZaN ⟨S2.rd⟩).mono ?_; rintro e w3 ⟨rfl,hB3,hk⟩))
 go_ret;obtain ⟨a3,g3,r3⟩:=hB3.rd;exact Ql HE.out (S2.atR hk r3) (by omega) (st.onR hk) (New.refl _ _)
theorem Zrd {w:World} {R p g deep B:Nat} {s:ByteArray} {v:Value} {L:List Pm} {alt:Nat->Nat->Rd3} {room:Bool} (S:Sp w R s p (-1) g v L) (hs:s.size<=120) (hp:p < s.size) (hL:L.length<=2000) (hB:L.length + 1<=B) (hb:bt s p=63) :
  Calls Tryz.prog 92 #[.pointer (some ⟨R,0,none⟩),.int .i64 deep] w (QI (Zg alt room s p g) R s B w v L):=by
 obtain ⟨i0,hi,hz0,hz1,hz2⟩:=info_parts Tryz.infoBool;have HE:Hid (Zg alt room s p g = .error p):=by show _ = _; simp [Zg,hb]
 have c0:=S.rd.c0;have c1:=S.rd.c1;have hpz:(p:Int) < (s.size:Int):=by omega
 have hc:s[p].toNat=63:=by rw [<- hb,ZV hp]
 clear hb;go_enter Tryz.func92,Tryz.ntmps92;go_wp2;go_quiet (fail);have st:Stp R w v (w.drewN nq) v:=(Stp.refl _ _ _).same ((Za.refl _ _).drewN _);have S1:Sp (w.drewN nq) R s p (-1) g v L:=S.drewN nq;have hwI:w.heap.size<=(w.drewN nq).heap.size:=Nat.le_refl _;clear c0 c1 S;generalize w.drewN nq=w1 at st S1 hwI ⊢;go_wp2_with (first
  | (at_make; refine wpList_make_full _ rfl _ _ 74 rfl w1.heap.size 4 i0 (.bool false) 1 Tryz.underlying74 hi hz0 hz1 _ _ _ _ 256 rfl rfl rfl rfl (by rw [hz2]; decide) (by unfold maxLen; omega) (Nat.le_refl _) ?_; intro w2 ho hg; replace st:=st.same ((Za.refl N0_ _).grown hg (by simp)); have S2:=S1.same ((Za.refl N0_ _).grown hg (by simp)); have hI2:=Qi ho; have c1:=S2.rd.c1; have f1:=S2.rd.fz 1)
  | (go_at_call 28; refine (ZaN ⟨S2.rd⟩).mono ?_; rintro e w3 ⟨rfl,hB3,hk⟩))
 go_ret;obtain ⟨a3,g3,r3⟩:=hB3.rd;exact Ql HE.out (S2.atR hk r3) (by omega) (st.onR hk) (New.refl _ _)
theorem Zrc {w:World} {R p g deep B:Nat} {s:ByteArray} {v:Value} {L:List Pm} {alt:Nat->Nat->Rd3} {room:Bool} (S:Sp w R s p (-1) g v L) (hs:s.size<=120) (hp:p < s.size) (hL:L.length<=2000) (hB:L.length + 1<=B) (hb:bt s p=123) :
  Calls Tryz.prog 92 #[.pointer (some ⟨R,0,none⟩),.int .i64 deep] w (QI (Zg alt room s p g) R s B w v L):=by
 obtain ⟨i0,hi,hz0,hz1,hz2⟩:=info_parts Tryz.infoBool;have HE:Hid (Zg alt room s p g = .error p):=by show _ = _; simp [Zg,hb]
 have c0:=S.rd.c0;have c1:=S.rd.c1;have hpz:(p:Int) < (s.size:Int):=by omega
 have hc:s[p].toNat=123:=by rw [<- hb,ZV hp]
 clear hb;go_enter Tryz.func92,Tryz.ntmps92;go_wp2;go_quiet (fail);have st:Stp R w v (w.drewN nq) v:=(Stp.refl _ _ _).same ((Za.refl _ _).drewN _);have S1:Sp (w.drewN nq) R s p (-1) g v L:=S.drewN nq;have hwI:w.heap.size<=(w.drewN nq).heap.size:=Nat.le_refl _;clear c0 c1 S;generalize w.drewN nq=w1 at st S1 hwI ⊢;go_wp2_with (first
  | (at_make; refine wpList_make_full _ rfl _ _ 74 rfl w1.heap.size 4 i0 (.bool false) 1 Tryz.underlying74 hi hz0 hz1 _ _ _ _ 256 rfl rfl rfl rfl (by rw [hz2]; decide) (by unfold maxLen; omega) (Nat.le_refl _) ?_; intro w2 ho hg; replace st:=st.same ((Za.refl N0_ _).grown hg (by simp)); have S2:=S1.same ((Za.refl N0_ _).grown hg (by simp)); have hI2:=Qi ho; have c1:=S2.rd.c1; have f1:=S2.rd.fz 1)
  | (go_at_call 28; refine (ZaN ⟨S2.rd⟩).mono ?_; rintro e w3 ⟨rfl,hB3,hk⟩))
 go_ret;obtain ⟨a3,g3,r3⟩:=hB3.rd;exact Ql HE.out (S2.atR hk r3) (by omega) (st.onR hk) (New.refl _ _)
theorem Zrb {w:World} {R p g deep B:Nat} {s:ByteArray} {v:Value} {L:List Pm} {alt:Nat->Nat->Rd3} {room:Bool} (S:Sp w R s p (-1) g v L) (hs:s.size<=120) (hp:p < s.size) (hL:L.length<=2000) (hB:L.length + 1<=B) (hb:bt s p=125) :
  Calls Tryz.prog 92 #[.pointer (some ⟨R,0,none⟩),.int .i64 deep] w (QI (Zg alt room s p g) R s B w v L):=by
 obtain ⟨i0,hi,hz0,hz1,hz2⟩:=info_parts Tryz.infoBool;have HE:Hid (Zg alt room s p g = .error p):=by show _ = _; simp [Zg,hb]
 have c0:=S.rd.c0;have c1:=S.rd.c1;have hpz:(p:Int) < (s.size:Int):=by omega
 have hc:s[p].toNat=125:=by rw [<- hb,ZV hp]
 clear hb;go_enter Tryz.func92,Tryz.ntmps92;go_wp2;go_quiet (fail);have st:Stp R w v (w.drewN nq) v:=(Stp.refl _ _ _).same ((Za.refl _ _).drewN _);have S1:Sp (w.drewN nq) R s p (-1) g v L:=S.drewN nq;have hwI:w.heap.size<=(w.drewN nq).heap.size:=Nat.le_refl _;clear c0 c1 S;generalize w.drewN nq=w1 at st S1 hwI ⊢;go_wp2_with (first
  | (at_make; refine wpList_make_full _ rfl _ _ 74 rfl w1.heap.size 4 i0 (.bool false) 1 Tryz.underlying74 hi hz0 hz1 _ _ _ _ 256 rfl rfl rfl rfl (by rw [hz2]; decide) (by unfold maxLen; omega) (Nat.le_refl _) ?_; intro w2 ho hg; replace st:=st.same ((Za.refl N0_ _).grown hg (by simp)); have S2:=S1.same ((Za.refl N0_ _).grown hg (by simp)); have hI2:=Qi ho; have c1:=S2.rd.c1; have f1:=S2.rd.fz 1)
  | (go_at_call 28; refine (ZaN ⟨S2.rd⟩).mono ?_; rintro e w3 ⟨rfl,hB3,hk⟩))
 go_ret;obtain ⟨a3,g3,r3⟩:=hB3.rd;exact Ql HE.out (S2.atR hk r3) (by omega) (st.onR hk) (New.refl _ _)
theorem Zra {w:World} {R p g deep B:Nat} {s:ByteArray} {v:Value} {L:List Pm} {alt:Nat->Nat->Rd3} {room:Bool} (S:Sp w R s p (-1) g v L) (hs:s.size<=120) (hp:p < s.size) (hL:L.length<=2000) (hB:L.length + 1<=B) (hb:bt s p=93) :
  Calls Tryz.prog 92 #[.pointer (some ⟨R,0,none⟩),.int .i64 deep] w (QI (Zg alt room s p g) R s B w v L):=by
 obtain ⟨i0,hi,hz0,hz1,hz2⟩:=info_parts Tryz.infoBool;have HE:Hid (Zg alt room s p g = .error p):=by show _ = _; simp [Zg,hb]
 have c0:=S.rd.c0;have c1:=S.rd.c1;have hpz:(p:Int) < (s.size:Int):=by omega
 have hc:s[p].toNat=93:=by rw [<- hb,ZV hp]
 clear hb;go_enter Tryz.func92,Tryz.ntmps92;go_wp2;go_quiet (fail);have st:Stp R w v (w.drewN nq) v:=(Stp.refl _ _ _).same ((Za.refl _ _).drewN _);have S1:Sp (w.drewN nq) R s p (-1) g v L:=S.drewN nq;have hwI:w.heap.size<=(w.drewN nq).heap.size:=Nat.le_refl _;clear c0 c1 S;generalize w.drewN nq=w1 at st S1 hwI ⊢;go_wp2_with (first
  | (at_make; refine wpList_make_full _ rfl _ _ 74 rfl w1.heap.size 4 i0 (.bool false) 1 Tryz.underlying74 hi hz0 hz1 _ _ _ _ 256 rfl rfl rfl rfl (by rw [hz2]; decide) (by unfold maxLen; omega) (Nat.le_refl _) ?_; intro w2 ho hg; replace st:=st.same ((Za.refl N0_ _).grown hg (by simp)); have S2:=S1.same ((Za.refl N0_ _).grown hg (by simp)); have hI2:=Qi ho; have c1:=S2.rd.c1; have f1:=S2.rd.fz 1)
  | (go_at_call 28; refine (ZaN ⟨S2.rd⟩).mono ?_; rintro e w3 ⟨rfl,hB3,hk⟩))
 go_ret;obtain ⟨a3,g3,r3⟩:=hB3.rd;exact Ql HE.out (S2.atR hk r3) (by omega) (st.onR hk) (New.refl _ _)
theorem Sp.atI {w w':World} {R I:Nat} {s:ByteArray} {a b g:Int} {v:Value} {L:List Pm} {S:Bs} (h:Sp w R s a b g v L) (hI:In w I S) (hk:Za (fun k=>k=I) w w'):Sp w' R s a b g v L :=
 h.atRI hI (hk.mono fun _ _ h=>Or.inr h) (h.rd.keeps hk (by rintro rfl; have h1:=h.rd; have h2:=hI; unfold Rd at h1; unfold In at h2; rw [h1] at h2; simp at h2))
theorem Zpa {w:World} {R p g deep B:Nat} {s:ByteArray} {v:Value} {L:List Pm} {alt:Nat->Nat->Rd3} {room:Bool} (S:Sp w R s p (-1) g v L) (hs:s.size<=120) (hp:p < s.size) (hL:L.length<=2000) (hB:L.length + 1<=B) (hb:bt s p=46) :
  Calls Tryz.prog 92 #[.pointer (some ⟨R,0,none⟩),.int .i64 deep] w (QI (Zg alt room s p g) R s B w v L):=by
 obtain ⟨i0,hi,hz0,hz1,hz2⟩:=info_parts Tryz.infoBool;have HE:Hid (Zg alt room s p g = .ok (Qv dot,p + 1,g)):=by show _ = _; simp [Zg,hb]
 have c0:=S.rd.c0;have c1:=S.rd.c1;have hpz:(p:Int) < (s.size:Int):=by omega
 have hc:s[p].toNat=46:=by rw [<- hb,ZV hp]
 clear hb;go_enter Tryz.func92,Tryz.ntmps92;go_wp2;go_quiet (fail);have st:Stp R w v (w.drewN nq) v:=(Stp.refl _ _ _).same ((Za.refl _ _).drewN _);have S1:Sp (w.drewN nq) R s p (-1) g v L:=S.drewN nq;have hwI:w.heap.size<=(w.drewN nq).heap.size:=Nat.le_refl _;clear c0 c1 S;generalize w.drewN nq=w1 at st S1 hwI ⊢;go_wp2_with (first
  | (at_make; refine wpList_make_full _ rfl _ _ 74 rfl w1.heap.size 4 i0 (.bool false) 1 Tryz.underlying74 hi hz0 hz1 _ _ _ _ 256 rfl rfl rfl rfl (by rw [hz2]; decide) (by unfold maxLen; omega) (Nat.le_refl _) ?_; intro w2 ho hg; replace st:=st.same ((Za.refl N0_ _).grown hg (by simp)); have S2:=S1.same ((Za.refl N0_ _).grown hg (by simp)); have hI2:=Qi ho; have c1:=S2.rd.c1; have f1:=S2.rd.fz 1)
  | (go_at_call 121; refine (Za9 hI2 _ _ (by omega) (by omega) (by omega) (by omega)).mono ?_; rintro e w3 ⟨rfl,hI3,hk3⟩; have S3:=S2.atI hI2 hk3; have st3:=st.on hk3 (fun i hi' h=>by omega); have d1:=hI3.cell (x:=10) (by omega); have d2:=hI3.fz 10; have kI:Za (fun k=>k=w1.heap.size) w3 (w3.setCell ⟨w1.heap.size,10,none⟩ (.bool false)):=(Za.refl (fun k=>k=w1.heap.size) _).setCell (fun _=>rfl) _; have S4a:=S3.atI hI3 kI; have c2:=S4a.rd.c1; have f2:=S4a.rd.fz 1; have S4:=S4a.inc; have st4:=(st3.on kI (fun i hi' h=>by omega)).onR (QW _ R 1 (.int .i64 ((p:Int) + 1))); have hI4:=(hI3.set 10 false).keeps (QW _ R 1 (.int .i64 ((p:Int) + 1))) (fun h=>by have:=S1.rd.lt; omega))
  | (go_at_call 123; refine (Zam hI4).mono ?_; rintro e w5 ⟨sv,rfl,hown,hk5⟩; obtain ⟨ao,cap,rfl⟩:=Zd hown)
  | (go_at_call 49; refine (Zcz (S4.same hk5) (Zau _,.slice ao _ cap,.slice none 0 0) (ZaT hown) (by omega) (st4.same hk5) (New.refl _ _) (by simp [Value.ownBlock])).mono ?_; rintro e w6 ⟨rfl,v6,S6,st6,hn6⟩))
 go_ret;refine Qg HE.out S6 ?_ (by simp [Qv]) st6 hn6;rw [List.map_append]
 congr 1
theorem ZmC {w:World} {R p g deep B:Nat} {s:ByteArray} {v:Value} {L:List Pm} {alt:Nat->Nat->Rd3} {room:Bool} (S:Sp w R s p (-1) g v L) (hs:s.size<=120) (hp:p < s.size) (hL:L.length<=2000) (hB:L.length + 1<=B) (hb:(bt s p≠40/\bt s p≠91/\bt s p≠94/\bt s p≠36/\bt s p≠46/\bt s p≠92)/\bt s p≠42/\bt s p≠43/\bt s p≠63/\bt s p≠123/\bt s p≠125/\bt s p≠93) :
  Calls Tryz.prog 92 #[.pointer (some ⟨R,0,none⟩),.int .i64 deep] w (QI (Zg alt room s p g) R s B w v L):=by
 obtain ⟨i0,hi,hz0,hz1,hz2⟩:=info_parts Tryz.infoBool;have HE:Hid (Zg alt room s p g = .ok (Qv (one (bt s p)),p + 1,g)):=by
  show _ = _; unfold Zg;rw [if_neg (by omega),if_neg (by omega),if_neg (by omega),if_neg (by omega),if_neg (by omega),if_neg (by omega),if_neg (by omega)]
 have c0:=S.rd.c0;have c1:=S.rd.c1;have hpz:(p:Int) < (s.size:Int):=by omega
 have hc:s[p].toNat=bt s p:=(ZV hp).symm;have hcl:=Q9 hp;obtain ⟨c,hcc⟩ :∃c,bt s p=c:=⟨_,rfl⟩;rw [hcc] at HE hb hc hcl;obtain ⟨⟨n1,n2,n3,n4,n5,n6⟩,n7,n8,n9,n10,n11,n12⟩:=hb;have hcz:(c:Int) < 256:=by omega
 clear hcc;go_enter Tryz.func92,Tryz.ntmps92;go_wp2;go_quiet (fail);have st:Stp R w v (w.drewN nq) v:=(Stp.refl _ _ _).same ((Za.refl _ _).drewN _);have S1:Sp (w.drewN nq) R s p (-1) g v L:=S.drewN nq;have hwI:w.heap.size<=(w.drewN nq).heap.size:=Nat.le_refl _;clear c0 c1 S;generalize w.drewN nq=w1 at st S1 hwI ⊢;go_wp2_with (first
  | (at_make; refine wpList_make_full _ rfl _ _ 74 rfl w1.heap.size 4 i0 (.bool false) 1 Tryz.underlying74 hi hz0 hz1 _ _ _ _ 256 rfl rfl rfl rfl (by rw [hz2]; decide) (by unfold maxLen; omega) (Nat.le_refl _) ?_; intro w2 ho hg; replace st:=st.same ((Za.refl N0_ _).grown hg (by simp)); have S2:=S1.same ((Za.refl N0_ _).grown hg (by simp)); have hI2:=Qi ho; have c1:=S2.rd.c1; have f1:=S2.rd.fz 1; have d1:=hI2.cell hcl; have d2:=hI2.fz c; have kI:Za (fun k=>k=w1.heap.size) w2 (w2.setCell ⟨w1.heap.size,c,none⟩ (.bool true)):=(Za.refl (fun k=>k=w1.heap.size) _).setCell (fun _=>rfl) _; have S4a:=S2.atI hI2 kI; have c2:=S4a.rd.c1; have f2:=S4a.rd.fz 1; have S4:=S4a.inc; have st4:=(st.on kI (fun i hi' h=>by omega)).onR (QW _ R 1 (.int .i64 ((p:Int) + 1))); have hI4:=(hI2.setOne c).keeps (QW _ R 1 (.int .i64 ((p:Int) + 1))) (fun h=>by have:=S1.rd.lt; omega))
  | (go_at_call 123; refine (Zam hI4).mono ?_; rintro e w5 ⟨sv,rfl,hown,hk5⟩; obtain ⟨ao,cap,rfl⟩:=Zd hown)
  | (go_at_call 49; refine (Zcz (S4.same hk5) (Zau _,.slice ao _ cap,.slice none 0 0) (ZaT hown) (by omega) (st4.same hk5) (New.refl _ _) (by simp [Value.ownBlock])).mono ?_; rintro e w6 ⟨rfl,v6,S6,st6,hn6⟩))
 go_ret;refine Qg HE.out S6 ?_ (by simp [Qv]) st6 hn6;have e2:Q2 (un JR (one c))=Q2 (one c):=Zbk _ (fun x _=>by simp [un,JR]);simp [Qv,Zau,e2]
theorem Zo8 {w:World} {R p g deep B:Nat} {s:ByteArray} {v:Value} {L:List Pm} {alt:Nat->Nat->Rd3} {room:Bool} (S:Sp w R s p (-1) g v L) (hs:s.size<=120) (hp:p < s.size) (hL:L.length<=2000) (hB:L.length + 1<=B) (hb:bt s p=92) {T:Bs} {o:Option Nat} {q:Nat} (he:Zz s (p + 1) = .ok (T,o,q)) :
  Calls Tryz.prog 92 #[.pointer (some ⟨R,0,none⟩),.int .i64 deep] w (QI (Zg alt room s p g) R s B w v L):=by
 obtain ⟨i0,hi,hz0,hz1,hz2⟩:=info_parts Tryz.infoBool;have HE:Hid (Zg alt room s p g = .ok (Qv T,q,g)):=by show _ = _; simp [Zg,hb,he]
 have HX:Hid (Zz s (p + 1) = .ok (T,o,q)):=he;clear he;have c0:=S.rd.c0;have c1:=S.rd.c1;have hpz:(p:Int) < (s.size:Int):=by omega
 have hc:s[p].toNat=92:=by rw [<- hb,ZV hp]
 clear hb;go_enter Tryz.func92,Tryz.ntmps92;go_wp2;go_quiet (fail);have st:Stp R w v (w.drewN nq) v:=(Stp.refl _ _ _).same ((Za.refl _ _).drewN _);have S1:Sp (w.drewN nq) R s p (-1) g v L:=S.drewN nq;have hwI:w.heap.size<=(w.drewN nq).heap.size:=Nat.le_refl _;clear c0 c1 S;generalize w.drewN nq=w1 at st S1 hwI ⊢;go_wp2_with (first
  | (at_make; refine wpList_make_full _ rfl _ _ 74 rfl w1.heap.size 4 i0 (.bool false) 1 Tryz.underlying74 hi hz0 hz1 _ _ _ _ 256 rfl rfl rfl rfl (by rw [hz2]; decide) (by unfold maxLen; omega) (Nat.le_refl _) ?_; intro w2 ho hg; replace st:=st.same ((Za.refl N0_ _).grown hg (by simp)); have S2:=S1.same ((Za.refl N0_ _).grown hg (by simp)); have hI2:=Qi ho; have c1:=S2.rd.c1; have f1:=S2.rd.fz 1)
  | (go_at_call 122; refine (Zhg ⟨S2.inc.rd⟩ (hI2.keeps (QW _ _ _ _) (fun h=>by have:=S1.rd.lt; omega)) (by have:=S1.rd.lt; omega) hs HX.out).mono ?_; rintro e w4 ⟨rfl,hO4,hI4,hk4⟩; have S4:=S2.inc.atRI (hI2.keeps (QW _ _ _ _) (fun h=>by have:=S1.rd.lt; omega)) hk4 hO4.rd; have st4:=(st.onR (QW w2 R 1 (.int .i64 ((p:Int) + 1)))).on hk4 (fun i hi' h=>h.elim id (fun h=>by omega)))
  | (go_at_call 123; refine (Zam hI4).mono ?_; rintro e w5 ⟨sv,rfl,hown,hk5⟩; obtain ⟨ao,cap,rfl⟩:=Zd hown)
  | (go_at_call 49; refine (Zcz (S4.same hk5) (Zau _,.slice ao _ cap,.slice none 0 0) (ZaT hown) (by omega) (st4.same hk5) (New.refl _ _) (by simp [Value.ownBlock])).mono ?_; rintro e w6 ⟨rfl,v6,S6,st6,hn6⟩))
 go_ret;refine Qg HE.out S6 ?_ (by simp [Qv]) st6 hn6;have e2:Q2 (un JR T)=Q2 T:=Zbk _ (fun x _=>by simp [un,JR]);simp [Qv,Zau,e2]
theorem ZhA {w:World} {R p g deep B:Nat} {s:ByteArray} {v:Value} {L:List Pm} {alt:Nat->Nat->Rd3} {room:Bool} (S:Sp w R s p (-1) g v L) (hs:s.size<=120) (hp:p < s.size) (hL:L.length<=2000) (hB:L.length + 1<=B) (hb:bt s p=92) {x:Nat} (he:Zz s (p + 1) = .error x) :
  Calls Tryz.prog 92 #[.pointer (some ⟨R,0,none⟩),.int .i64 deep] w (QI (Zg alt room s p g) R s B w v L):=by
 obtain ⟨i0,hi,hz0,hz1,hz2⟩:=info_parts Tryz.infoBool;have HE:Hid (Zg alt room s p g = .error x):=by show _ = _; simp [Zg,hb,he]
 have HX:Hid (Zz s (p + 1) = .error x):=he;clear he;have c0:=S.rd.c0;have c1:=S.rd.c1;have hpz:(p:Int) < (s.size:Int):=by omega
 have hc:s[p].toNat=92:=by rw [<- hb,ZV hp]
 clear hb;go_enter Tryz.func92,Tryz.ntmps92;go_wp2;go_quiet (fail);have st:Stp R w v (w.drewN nq) v:=(Stp.refl _ _ _).same ((Za.refl _ _).drewN _);have S1:Sp (w.drewN nq) R s p (-1) g v L:=S.drewN nq;have hwI:w.heap.size<=(w.drewN nq).heap.size:=Nat.le_refl _;clear c0 c1 S;generalize w.drewN nq=w1 at st S1 hwI ⊢;go_wp2_with (first
  | (at_make; refine wpList_make_full _ rfl _ _ 74 rfl w1.heap.size 4 i0 (.bool false) 1 Tryz.underlying74 hi hz0 hz1 _ _ _ _ 256 rfl rfl rfl rfl (by rw [hz2]; decide) (by unfold maxLen; omega) (Nat.le_refl _) ?_; intro w2 ho hg; replace st:=st.same ((Za.refl N0_ _).grown hg (by simp)); have S2:=S1.same ((Za.refl N0_ _).grown hg (by simp)); have hI2:=Qi ho; have c1:=S2.rd.c1; have f1:=S2.rd.fz 1)
  | (go_at_call 122; refine (Zhh ⟨S2.inc.rd⟩ (hI2.keeps (QW _ _ _ _) (fun h=>by have:=S1.rd.lt; omega)) (by have:=S1.rd.lt; omega) hs HX.out).mono ?_; rintro e w4 ⟨rfl,hB4,hI4e,hk4⟩; obtain ⟨T,hI4⟩:=hI4e; obtain ⟨a4,g4,r4⟩:=hB4.rd; have S4:=S2.inc.atRI (hI2.keeps (QW _ _ _ _) (fun h=>by have:=S1.rd.lt; omega)) hk4 r4; have st4:=(st.onR (QW w2 R 1 (.int .i64 ((p:Int) + 1)))).on hk4 (fun i hi' h=>h.elim id (fun h=>by omega)))
  | (go_at_call 123; refine (Zam hI4).mono ?_; rintro e w5 ⟨sv,rfl,hown,hk5⟩; obtain ⟨ao,cap,rfl⟩:=Zd hown)
  | (go_at_call 49; refine (Zcz (S4.same hk5) (Zau _,.slice ao _ cap,.slice none 0 0) (ZaT hown) (by omega) (st4.same hk5) (New.refl _ _) (by simp [Value.ownBlock])).mono ?_; rintro e w6 ⟨rfl,v6,S6,st6,hn6⟩))
 go_ret;exact Ql HE.out S6 (by simp; omega) st6 hn6
section
variable {w:World} {R p x:Nat} {s:ByteArray} {g:Int} {v:Value}
theorem Zsk (hR:Ok w R s p g v) (hs:s.size<=120) (hp:p<=s.size) {S:Bs} {q:Nat} (h:Zx s p = .ok (S,q)) :
  Calls Tryz.prog 120 #[.pointer (some ⟨R,0,none⟩)] w fun e w' =>∃sv,e = .returned sv/\Ok w' R s q g v/\w'.ownsRow w.heap.size 250 2 sv (Q2 S).length (ZB (Q2 S))/\Za (fun k=>k=R) w w' :=
 (Zgc hR hs hp).mono fun e w' hn=>by unfold ZbA at hn; rw [h] at hn; exact hn
theorem Zsl (hR:Ok w R s p g v) (hs:s.size<=120) (hp:p<=s.size) (h:Zx s p = .error x) :
  Calls Tryz.prog 120 #[.pointer (some ⟨R,0,none⟩)] w fun e w'=>e = .returned (.slice none 0 0)/\Bad w' R s x v/\Za (fun k=>k=R) w w' :=
 (Zgc hR hs hp).mono fun e w' hn=>by unfold ZbA at hn; rw [h] at hn; exact hn
end
theorem Zo7 {w:World} {R p g deep B:Nat} {s:ByteArray} {v:Value} {L:List Pm} {alt:Nat->Nat->Rd3} {room:Bool} (S:Sp w R s p (-1) g v L) (hs:s.size<=120) (hp:p < s.size) (hL:L.length<=2000) (hB:L.length + 1<=B) (hb:bt s p=91) {T:Bs} {q:Nat} (he:Zx s (p + 1) = .ok (T,q)) :
  Calls Tryz.prog 92 #[.pointer (some ⟨R,0,none⟩),.int .i64 deep] w (QI (Zg alt room s p g) R s B w v L):=by
 obtain ⟨i0,hi,hz0,hz1,hz2⟩:=info_parts Tryz.infoBool;have HE:Hid (Zg alt room s p g = .ok (Qv T,q,g)):=by show _ = _; simp [Zg,hb,he]
 have HX:Hid (Zx s (p + 1) = .ok (T,q)):=he;clear he;have c0:=S.rd.c0;have c1:=S.rd.c1;have hpz:(p:Int) < (s.size:Int):=by omega
 have hc:s[p].toNat=91:=by rw [<- hb,ZV hp]
 clear hb;go_enter Tryz.func92,Tryz.ntmps92;go_wp2;go_quiet (fail);have st:Stp R w v (w.drewN nq) v:=(Stp.refl _ _ _).same ((Za.refl _ _).drewN _);have S1:Sp (w.drewN nq) R s p (-1) g v L:=S.drewN nq;have hwI:w.heap.size<=(w.drewN nq).heap.size:=Nat.le_refl _;clear c0 c1 S;generalize w.drewN nq=w1 at st S1 hwI ⊢;go_wp2_with (first
  | (at_make; refine wpList_make_full _ rfl _ _ 74 rfl w1.heap.size 4 i0 (.bool false) 1 Tryz.underlying74 hi hz0 hz1 _ _ _ _ 256 rfl rfl rfl rfl (by rw [hz2]; decide) (by unfold maxLen; omega) (Nat.le_refl _) ?_; intro w2 ho hg; replace st:=st.same ((Za.refl N0_ _).grown hg (by simp)); have S2:=S1.same ((Za.refl N0_ _).grown hg (by simp)); have hI2:=Qi ho; have c1:=S2.rd.c1; have f1:=S2.rd.fz 1)
  | (go_at_call 120; refine (Zsk ⟨S2.inc.rd⟩ hs (by omega) HX.out).mono ?_; rintro e w4 ⟨sv,rfl,hO4,hown,hk4⟩; obtain ⟨ao,cap,rfl⟩:=Zd hown; have S4:=S2.inc.atR hk4 hO4.rd; have st4:=(st.onR (QW w2 R 1 (.int .i64 ((p:Int) + 1)))).onR hk4)
  | (go_at_call 49; refine (Zcz S4 (Zau _,.slice ao _ cap,.slice none 0 0) (ZaT hown) (by omega) st4 (New.refl _ _) (by simp [Value.ownBlock])).mono ?_; rintro e w6 ⟨rfl,v6,S6,st6,hn6⟩))
 go_ret;exact Qg HE.out S6 (by simp [Qv]) (by simp [Qv]) st6 hn6
theorem Zhz {w:World} {R p g deep B:Nat} {s:ByteArray} {v:Value} {L:List Pm} {alt:Nat->Nat->Rd3} {room:Bool} (S:Sp w R s p (-1) g v L) (hs:s.size<=120) (hp:p < s.size) (hL:L.length<=2000) (hB:L.length + 1<=B) (hb:bt s p=91) {x:Nat} (he:Zx s (p + 1) = .error x) :
  Calls Tryz.prog 92 #[.pointer (some ⟨R,0,none⟩),.int .i64 deep] w (QI (Zg alt room s p g) R s B w v L):=by
 obtain ⟨i0,hi,hz0,hz1,hz2⟩:=info_parts Tryz.infoBool;have HE:Hid (Zg alt room s p g = .error x):=by show _ = _; simp [Zg,hb,he]
 have HX:Hid (Zx s (p + 1) = .error x):=he;clear he;have c0:=S.rd.c0;have c1:=S.rd.c1;have hpz:(p:Int) < (s.size:Int):=by omega
 have hc:s[p].toNat=91:=by rw [<- hb,ZV hp]
 clear hb;go_enter Tryz.func92,Tryz.ntmps92;go_wp2;go_quiet (fail);have st:Stp R w v (w.drewN nq) v:=(Stp.refl _ _ _).same ((Za.refl _ _).drewN _);have S1:Sp (w.drewN nq) R s p (-1) g v L:=S.drewN nq;have hwI:w.heap.size<=(w.drewN nq).heap.size:=Nat.le_refl _;clear c0 c1 S;generalize w.drewN nq=w1 at st S1 hwI ⊢;go_wp2_with (first
  | (at_make; refine wpList_make_full _ rfl _ _ 74 rfl w1.heap.size 4 i0 (.bool false) 1 Tryz.underlying74 hi hz0 hz1 _ _ _ _ 256 rfl rfl rfl rfl (by rw [hz2]; decide) (by unfold maxLen; omega) (Nat.le_refl _) ?_; intro w2 ho hg; replace st:=st.same ((Za.refl N0_ _).grown hg (by simp)); have S2:=S1.same ((Za.refl N0_ _).grown hg (by simp)); have hI2:=Qi ho; have c1:=S2.rd.c1; have f1:=S2.rd.fz 1)
  | (go_at_call 120; refine (Zsl ⟨S2.inc.rd⟩ hs (by omega) HX.out).mono ?_; rintro e w4 ⟨rfl,hB4,hk4⟩; obtain ⟨a4,g4,r4⟩:=hB4.rd; have S4:=S2.inc.atR hk4 r4; have st4:=(st.onR (QW w2 R 1 (.int .i64 ((p:Int) + 1)))).onR hk4)
  | (go_at_call 49; refine (Zcz S4 (Zca 1,.slice none 0 0,.slice none 0 0) (Zbs _ _) (by omega) st4 (New.refl _ _) (by simp [Value.ownBlock])).mono ?_; rintro e w6 ⟨rfl,v6,S6,st6,hn6⟩))
 go_ret;exact Ql HE.out S6 (by simp; omega) st6 hn6
theorem ZjT {w:World} {R p g deep B:Nat} {s:ByteArray} {v:Value} {L:List Pm} {alt:Nat->Nat->Rd3} {room:Bool} (S:Sp w R s p (-1) g v L) (hs:s.size<=120) (hp:p < s.size) (hL:L.length<=2000) (hB:L.length + 1<=B) (hb:bt s p=40) (he:g=9\/room=false) (hroom:room=false->deep=6) :
  Calls Tryz.prog 92 #[.pointer (some ⟨R,0,none⟩),.int .i64 deep] w (QI (Zg alt room s p g) R s B w v L):=by
 obtain ⟨i0,hi,hz0,hz1,hz2⟩:=info_parts Tryz.infoBool;have HE:Hid (Zg alt room s p g = .error p):=by show _ = _; unfold Zg; rw [if_pos hb,if_pos he]
 have c0:=S.rd.c0;have c1:=S.rd.c1;have hno:g=9\/(g≠9/\deep=6):=by
  by_cases e:g=9
  ·exact Or.inl e
  ·exact Or.inr ⟨e,hroom (he.resolve_left e)⟩
 clear he hroom;have hpz:(p:Int) < (s.size:Int):=by omega
 have hc:s[p].toNat=40:=by rw [<- hb,ZV hp]
 clear hb;go_enter Tryz.func92,Tryz.ntmps92;go_wp2;go_quiet (fail);have st:Stp R w v (w.drewN nq) v:=(Stp.refl _ _ _).same ((Za.refl _ _).drewN _);have S1:Sp (w.drewN nq) R s p (-1) g v L:=S.drewN nq;have hwI:w.heap.size<=(w.drewN nq).heap.size:=Nat.le_refl _;clear c0 c1 S;generalize w.drewN nq=w1 at st S1 hwI ⊢
 rcases hno with rfl | ⟨hg9,rfl⟩
 ·go_wp2_with (first
   | (at_make; refine wpList_make_full _ rfl _ _ 74 rfl w1.heap.size 4 i0 (.bool false) 1 Tryz.underlying74 hi hz0 hz1 _ _ _ _ 256 rfl rfl rfl rfl (by rw [hz2]; decide) (by unfold maxLen; omega) (Nat.le_refl _) ?_; intro w2 ho hg; replace st:=st.same ((Za.refl N0_ _).grown hg (by simp)); have S2:=S1.same ((Za.refl N0_ _).grown hg (by simp)); have hI2:=Qi ho; have c1:=S2.rd.c1; have f1:=S2.rd.fz 1; have c3:=S2.rd.c3)
   | (go_at_call 28; refine (ZaN ⟨S2.rd⟩).mono ?_; rintro e w3 ⟨rfl,hB3,hk⟩))
  go_ret;obtain ⟨a3,g3,r3⟩:=hB3.rd;exact Ql HE.out (S2.atR hk r3) (by omega) (st.onR hk) (New.refl _ _)
 ·have hgz:((g:Int) == 9)=false:=by
   have:¬ (g:Int)=9:=by omega
   simpa using this
  go_wp2_with (first
   | (at_make; refine wpList_make_full _ rfl _ _ 74 rfl w1.heap.size 4 i0 (.bool false) 1 Tryz.underlying74 hi hz0 hz1 _ _ _ _ 256 rfl rfl rfl rfl (by rw [hz2]; decide) (by unfold maxLen; omega) (Nat.le_refl _) ?_; intro w2 ho hg; replace st:=st.same ((Za.refl N0_ _).grown hg (by simp)); have S2:=S1.same ((Za.refl N0_ _).grown hg (by simp)); have hI2:=Qi ho; have c1:=S2.rd.c1; have f1:=S2.rd.fz 1; have c3:=S2.rd.c3)
   | (go_at_call 28; refine (ZaN ⟨S2.rd⟩).mono ?_; rintro e w3 ⟨rfl,hB3,hk⟩))
  go_ret;obtain ⟨a3,g3,r3⟩:=hB3.rd;exact Ql HE.out (S2.atR hk r3) (by omega) (st.onR hk) (New.refl _ _)
theorem Sp.incg {w:World} {R g:Nat} {s:ByteArray} {a b:Int} {v:Value} {L:List Pm} (h:Sp w R s a b g v L):Sp (w.setCell ⟨R,3,none⟩ (.int .i64 ((g:Int) + 1))) R s a b ((g + 1:Nat):Int) v L :=
 h.atR ((Za.refl (fun k=>k=R) _).setCell (fun _=>rfl) _) (h.rd.set3 _)
theorem ZbG (w:World) (c:Pc) (r:Int) (hs:c.set = []) (hk:c.kids = [r]):Je (w.alloc (.cells #[.int .i64 r] 3)) (c,.slice none 0 0,.slice (some ⟨w.heap.size,0,none⟩) 1 1):=by
 refine ⟨by rw [hs]; exact Zcc _ _ _,?_⟩;rw [hk];exact World.ownsRow_lit w #[.int .i64 r] 1 (Nat.zero_le _) (by unfold maxLen; omega) rfl
def Zop (num r:Int):Pc := { kind:=5,set := [],min:=0,max:=0,lazy:=false,num:=num,kids := [r] }
def ZsO (s:ByteArray) (alt:Nat->Nat->Rd3) (deep B:Nat):Prop :=
 ∀ (w:World) (R p g:Nat) (v:Value) (L:List Pm),Sp w R s p (-1) g v L->s.size<=120->p<=s.size->g<=9->L.length + 3 * (s.size - p)<=1000->
   Calls Tryz.prog 26 #[.pointer (some ⟨R,0,none⟩),.int .i64 deep] w (QI (alt p g) R s B w v L)
theorem ZG {f:Pf} {L L':List Pm} (h:L'.map (·.1)=L.map (·.1) ++ f L.length):L'.length=L.length + (f L.length).length:=by
 have:=congrArg List.length h
 simpa using this
theorem ZmG {w:World} {R p g deep B:Nat} {s:ByteArray} {v:Value} {L:List Pm} {alt:Nat->Nat->Rd3} {room:Bool} (S:Sp w R s p (-1) g v L) (hs:s.size<=120) (hp:p < s.size) (G:Zad s alt) (hb:bt s p=40) (hg:g<=9) (hg9:g≠9) (hroom:room=true) (hdeep:deep < 6) (hF:L.length + 3 * (s.size - p)<=1000) {BA:Nat} (hA:ZsO s alt (deep + 1) BA) (hBA:BA + 1<=B) (hB2:1005<=B) (hBA2:BA<=5000) {x:Nat} (he:alt (p + 1) (g + 1) = .error x) :
  Calls Tryz.prog 92 #[.pointer (some ⟨R,0,none⟩),.int .i64 deep] w (QI (Zg alt room s p g) R s B w v L):=by
 obtain ⟨i0,hi,hz0,hz1,hz2⟩:=info_parts Tryz.infoBool;have HE:Hid (Zg alt room s p g = .error x):=by
  show _ = _; unfold Zg; rw [if_pos hb,if_neg (by simp [hg9,hroom]),he]
 have HX:Hid (alt (p + 1) (g + 1) = .error x):=he;clear he;have c0:=S.rd.c0;have c1:=S.rd.c1;have hpz:(p:Int) < (s.size:Int):=by omega
 have hc:s[p].toNat=40:=by rw [<- hb,ZV hp]
 clear hb;have hgz:((g:Int) == 9)=false:=by
  have:¬ (g:Int)=9:=by omega
  simpa using this
 have hdz:((deep:Int) == 6)=false:=by
  have:¬ (deep:Int)=6:=by omega
  simpa using this
 go_enter Tryz.func92,Tryz.ntmps92;go_wp2;go_quiet (fail);have st:Stp R w v (w.drewN nq) v:=(Stp.refl _ _ _).same ((Za.refl _ _).drewN _);have S1:Sp (w.drewN nq) R s p (-1) g v L:=S.drewN nq;have hwI:w.heap.size<=(w.drewN nq).heap.size:=Nat.le_refl _;clear c0 c1 S;generalize w.drewN nq=w1 at st S1 hwI ⊢;go_wp2_with (first
  | (at_make; refine wpList_make_full _ rfl _ _ 74 rfl w1.heap.size 4 i0 (.bool false) 1 Tryz.underlying74 hi hz0 hz1 _ _ _ _ 256 rfl rfl rfl rfl (by rw [hz2]; decide) (by unfold maxLen; omega) (Nat.le_refl _) ?_; intro w2 ho hg; replace st:=st.same ((Za.refl N0_ _).grown hg (by simp)); have S2:=S1.same ((Za.refl N0_ _).grown hg (by simp)); have hI2:=Qi ho; have c1:=S2.rd.c1; have f1:=S2.rd.fz 1; have c30:=S2.rd.c3; have c3:=S2.inc.rd.c3; have f3:=S2.inc.rd.fz 3; have S3:=S2.inc.incg; have c3':=S3.rd.c3; have st3:=(st.onR (QW w2 R 1 (.int .i64 ((p:Int) + 1)))).onR (QW _ R 3 (.int .i64 ((g:Int) + 1))))
  | (go_at_call 26; refine (hA _ _ _ _ _ _ S3 hs (by omega) (by omega) (by omega)).mono ?_; intro e w4 hpo; unfold QI at hpo; rw [HX.out] at hpo; obtain ⟨r,v4,L4,rfl,hS4,hB4,st4,hn4⟩:=hpo; obtain ⟨a4,g4,S4⟩:=hS4; replace st4:=st3.trans st4; replace hn4:New w L L4:=(New.refl w L).trans hn4 st3.keeps.size)
  | (go_at_call 48; refine (isB ⟨_,_,S4.rd⟩ (by omega)).mono ?_; rintro e w5 ⟨rfl,hb5,hk5⟩; obtain ⟨a5,g5,r5⟩:=hb5.rd; have S4':=S4.atR hk5 r5; have st4':=st4.onR hk5)
  | (go_at_call 28; refine (Zl6 ⟨_,_,S4'.rd⟩).mono ?_; rintro e w5 ⟨rfl,hb5,hk5⟩; obtain ⟨a5,g5,r5⟩:=hb5.rd; have S5:=S4'.atR hk5 r5; have st5:=st4'.onR hk5)
  | (go_at_call 49; refine (Zcz (S5.alloc _) (Zop _ _,.slice none 0 0,.slice (some ⟨_,0,none⟩) 1 1) (ZbG _ _ _ rfl rfl) (by omega) (st5.same ((Za.refl N0_ _).alloc _)) hn4 (by intro k hk; simp [Value.ownBlock] at hk; subst hk; exact st5.keeps.size)).mono ?_; rintro e w6 ⟨rfl,v6,S6,st6,hn6⟩))
 go_ret;exact Ql HE.out S6 (by simp; omega) st6 hn6
theorem ZmF {w:World} {R p g deep B:Nat} {s:ByteArray} {v:Value} {L:List Pm} {alt:Nat->Nat->Rd3} {room:Bool} (S:Sp w R s p (-1) g v L) (hs:s.size<=120) (hp:p < s.size) (G:Zad s alt) (hb:bt s p=40) (hg:g<=9) (hg9:g≠9) (hroom:room=true) (hdeep:deep < 6) (hF:L.length + 3 * (s.size - p)<=1000) {BA:Nat} (hA:ZsO s alt (deep + 1) BA) (hBA:BA + 1<=B) (hB2:1005<=B) (hBA2:BA<=5000) {f:Pf} {q g':Nat} (he:alt (p + 1) (g + 1) = .ok (f,q,g')) (hq:bt s q≠41) :
  Calls Tryz.prog 92 #[.pointer (some ⟨R,0,none⟩),.int .i64 deep] w (QI (Zg alt room s p g) R s B w v L):=by
 obtain ⟨i0,hi,hz0,hz1,hz2⟩:=info_parts Tryz.infoBool;have hpos:=G _ _ _ _ _ (by omega) (by omega) he;have hlen:=hpos.2.2.2 L.length;have HE:Hid (Zg alt room s p g = .error q):=by
  show _ = _; unfold Zg; rw [if_pos hb,if_neg (by simp [hg9,hroom]),he]; simp only; rw [if_neg hq]
 have HX:Hid (alt (p + 1) (g + 1) = .ok (f,q,g')):=he;have HQ:Hid (bt s q≠41):=hq;clear he hq;have c0:=S.rd.c0;have c1:=S.rd.c1;have hpz:(p:Int) < (s.size:Int):=by omega
 have hc:s[p].toNat=40:=by rw [<- hb,ZV hp]
 clear hb;have hgz:((g:Int) == 9)=false:=by
  have:¬ (g:Int)=9:=by omega
  simpa using this
 have hdz:((deep:Int) == 6)=false:=by
  have:¬ (deep:Int)=6:=by omega
  simpa using this
 go_enter Tryz.func92,Tryz.ntmps92;go_wp2;go_quiet (fail);have st:Stp R w v (w.drewN nq) v:=(Stp.refl _ _ _).same ((Za.refl _ _).drewN _);have S1:Sp (w.drewN nq) R s p (-1) g v L:=S.drewN nq;have hwI:w.heap.size<=(w.drewN nq).heap.size:=Nat.le_refl _;clear c0 c1 S;generalize w.drewN nq=w1 at st S1 hwI ⊢;go_wp2_with (first
  | (at_make; refine wpList_make_full _ rfl _ _ 74 rfl w1.heap.size 4 i0 (.bool false) 1 Tryz.underlying74 hi hz0 hz1 _ _ _ _ 256 rfl rfl rfl rfl (by rw [hz2]; decide) (by unfold maxLen; omega) (Nat.le_refl _) ?_; intro w2 ho hg; replace st:=st.same ((Za.refl N0_ _).grown hg (by simp)); have S2:=S1.same ((Za.refl N0_ _).grown hg (by simp)); have hI2:=Qi ho; have c1:=S2.rd.c1; have f1:=S2.rd.fz 1; have c30:=S2.rd.c3; have c3:=S2.inc.rd.c3; have f3:=S2.inc.rd.fz 3; have S3:=S2.inc.incg; have c3':=S3.rd.c3; have st3:=(st.onR (QW w2 R 1 (.int .i64 ((p:Int) + 1)))).onR (QW _ R 3 (.int .i64 ((g:Int) + 1))))
  | (go_at_call 26; refine (hA _ _ _ _ _ _ S3 hs (by omega) (by omega) (by omega)).mono ?_; intro e w4 hpo; unfold QI at hpo; rw [HX.out] at hpo; obtain ⟨v4,L4,rfl,S4,hm4,st4,hn4⟩:=hpo; replace st4:=st3.trans st4; replace hn4:New w L L4:=(New.refl w L).trans hn4 st3.keeps.size)
  | (go_at_call 48; refine (isN ⟨S4.rd⟩ hs (by have:=HQ.out; omega) (by omega)).mono ?_; rintro e w5 ⟨rfl,hb5,hk5⟩; have S4':=S4.atR hk5 hb5.rd; have st4':=st4.onR hk5)
  | (go_at_call 28; refine (ZaN ⟨S4'.rd⟩).mono ?_; rintro e w5 ⟨rfl,hb5,hk5⟩; obtain ⟨a5,g5,r5⟩:=hb5.rd; have S5:=S4'.atR hk5 r5; have st5:=st4'.onR hk5)
  | (go_at_call 49; refine (Zcz (S5.alloc _) (Zop _ _,.slice none 0 0,.slice (some ⟨_,0,none⟩) 1 1) (ZbG _ _ _ rfl rfl) (by have:=ZG hm4; omega) (st5.same ((Za.refl N0_ _).alloc _)) hn4 (by intro k hk; simp [Value.ownBlock] at hk; subst hk; exact st5.keeps.size)).mono ?_; rintro e w6 ⟨rfl,v6,S6,st6,hn6⟩))
 go_ret;exact Ql HE.out S6 (by have:=ZG hm4; simp; omega) st6 hn6
theorem ZmE {w:World} {R p g deep B:Nat} {s:ByteArray} {v:Value} {L:List Pm} {alt:Nat->Nat->Rd3} {room:Bool} (S:Sp w R s p (-1) g v L) (hs:s.size<=120) (hp:p < s.size) (G:Zad s alt) (hb:bt s p=40) (hg:g<=9) (hg9:g≠9) (hroom:room=true) (hdeep:deep < 6) (hF:L.length + 3 * (s.size - p)<=1000) {BA:Nat} (hA:ZsO s alt (deep + 1) BA) (hBA:BA + 1<=B) (hB2:1005<=B) (hBA2:BA<=5000) {f:Pf} {q g':Nat} (he:alt (p + 1) (g + 1) = .ok (f,q,g')) (hq:bt s q=41) :
  Calls Tryz.prog 92 #[.pointer (some ⟨R,0,none⟩),.int .i64 deep] w (QI (Zg alt room s p g) R s B w v L):=by
 obtain ⟨i0,hi,hz0,hz1,hz2⟩:=info_parts Tryz.infoBool;have hpos:=G _ _ _ _ _ (by omega) (by omega) he;have hlen:=hpos.2.2.2 L.length;have HE:Hid (Zg alt room s p g = .ok (JT ((g:Int) + 1) f,q + 1,g')):=by
  show _ = _; unfold Zg; rw [if_pos hb,if_neg (by simp [hg9,hroom]),he]; simp only; rw [if_pos hq]
 have HX:Hid (alt (p + 1) (g + 1) = .ok (f,q,g')):=he;have HQ:Hid (bt s q=41):=hq;clear he hq;have c0:=S.rd.c0;have c1:=S.rd.c1;have hpz:(p:Int) < (s.size:Int):=by omega
 have hc:s[p].toNat=40:=by rw [<- hb,ZV hp]
 clear hb;have hgz:((g:Int) == 9)=false:=by
  have:¬ (g:Int)=9:=by omega
  simpa using this
 have hdz:((deep:Int) == 6)=false:=by
  have:¬ (deep:Int)=6:=by omega
  simpa using this
 go_enter Tryz.func92,Tryz.ntmps92;go_wp2;go_quiet (fail);have st:Stp R w v (w.drewN nq) v:=(Stp.refl _ _ _).same ((Za.refl _ _).drewN _);have S1:Sp (w.drewN nq) R s p (-1) g v L:=S.drewN nq;have hwI:w.heap.size<=(w.drewN nq).heap.size:=Nat.le_refl _;clear c0 c1 S;generalize w.drewN nq=w1 at st S1 hwI ⊢;go_wp2_with (first
  | (at_make; refine wpList_make_full _ rfl _ _ 74 rfl w1.heap.size 4 i0 (.bool false) 1 Tryz.underlying74 hi hz0 hz1 _ _ _ _ 256 rfl rfl rfl rfl (by rw [hz2]; decide) (by unfold maxLen; omega) (Nat.le_refl _) ?_; intro w2 ho hg; replace st:=st.same ((Za.refl N0_ _).grown hg (by simp)); have S2:=S1.same ((Za.refl N0_ _).grown hg (by simp)); have hI2:=Qi ho; have c1:=S2.rd.c1; have f1:=S2.rd.fz 1; have c30:=S2.rd.c3; have c3:=S2.inc.rd.c3; have f3:=S2.inc.rd.fz 3; have S3:=S2.inc.incg; have c3':=S3.rd.c3; have st3:=(st.onR (QW w2 R 1 (.int .i64 ((p:Int) + 1)))).onR (QW _ R 3 (.int .i64 ((g:Int) + 1))))
  | (go_at_call 26; refine (hA _ _ _ _ _ _ S3 hs (by omega) (by omega) (by omega)).mono ?_; intro e w4 hpo; unfold QI at hpo; rw [HX.out] at hpo; obtain ⟨v4,L4,rfl,S4,hm4,st4,hn4⟩:=hpo; replace st4:=st3.trans st4; replace hn4:New w L L4:=(New.refl w L).trans hn4 st3.keeps.size)
  | (go_at_call 48; refine (isY ⟨S4.rd⟩ hs (by have:=HQ.out; omega) (by omega)).mono ?_; rintro e w5 ⟨rfl,hb5,hk5⟩; have S5:=S4.atR hk5 hb5.rd; have st5:=st4.onR hk5)
  | (go_at_call 49; refine (Zcz (S5.alloc _) (Zop _ _,.slice none 0 0,.slice (some ⟨_,0,none⟩) 1 1) (ZbG _ _ _ rfl rfl) (by have:=ZG hm4; omega) (st5.same ((Za.refl N0_ _).alloc _)) hn4 (by intro k hk; simp [Value.ownBlock] at hk; subst hk; exact st5.keeps.size)).mono ?_; rintro e w6 ⟨rfl,v6,S6,st6,hn6⟩))
 go_ret;refine Qg HE.out S6 ?_ (by have:=ZG hm4; simp [JT]; omega) st6 hn6;rw [List.map_append,hm4];simp [JT,Zop]
theorem ZiF {w:World} {R p g deep B BA:Nat} {s:ByteArray} {v:Value} {L:List Pm} {alt:Nat->Nat->Rd3} {room:Bool} (S:Sp w R s p (-1) g v L) (hs:s.size<=120) (hp:p < s.size) (G:Zad s alt) (hg:g<=9)
  (hF:L.length + 3 * (s.size - p)<=1000) (hd:deep<=6) (hr:room=decide (deep < 6)) (hA:room=true->ZsO s alt (deep + 1) BA) (hBA:BA + 1<=B) (hB2:1005<=B) (hBA2:BA<=5000) :
  Calls Tryz.prog 92 #[.pointer (some ⟨R,0,none⟩),.int .i64 deep] w (QI (Zg alt room s p g) R s B w v L):=by
 have hL:L.length<=2000:=by omega
 have hB:L.length + 1<=B:=by omega
 by_cases h1:bt s p=40
 ·by_cases h2:g=9\/room=false
  ·exact ZjT S hs hp hL hB h1 h2 (fun h=>by rw [h] at hr; have:¬ deep < 6:=(by simpa using hr.symm); omega)
  ·have hg9:g≠9:=fun h=>h2 (Or.inl h);have hroom:room=true:=by cases room <;> simp_all
   have hdeep:deep < 6:=by rw [hroom] at hr; simpa using hr.symm
   cases he:alt (p + 1) (g + 1) with
   | error x=>exact ZmG S hs hp G h1 hg hg9 hroom hdeep hF (hA hroom) hBA hB2 hBA2 he
   | ok r =>
     obtain ⟨f,q,g'⟩:=r
     by_cases hq:bt s q=41
     ·exact ZmE S hs hp G h1 hg hg9 hroom hdeep hF (hA hroom) hBA hB2 hBA2 he hq
     ·exact ZmF S hs hp G h1 hg hg9 hroom hdeep hF (hA hroom) hBA hB2 hBA2 he hq
 by_cases h2:bt s p=91
 ·cases he:Zx s (p + 1) with
  | error x=>exact Zhz S hs hp hL hB h2 he
  | ok r=>obtain ⟨T,q⟩:=r; exact Zo7 S hs hp hL hB h2 he
 by_cases h3:bt s p=94
 ·exact ZjS S hs hp hL hB h3
 by_cases h4:bt s p=36
 ·exact Zo9 S hs hp hL hB h4
 by_cases h5:bt s p=46
 ·exact Zpa S hs hp hL hB h5
 by_cases h6:bt s p=92
 ·cases he:Zz s (p + 1) with
  | error x=>exact ZhA S hs hp hL hB h6 he
  | ok r=>obtain ⟨T,o,q⟩:=r; exact Zo8 S hs hp hL hB h6 he
 by_cases h7:bt s p=42
 ·exact Zrf S hs hp hL hB h7
 by_cases h8:bt s p=43
 ·exact Zre S hs hp hL hB h8
 by_cases h9:bt s p=63
 ·exact Zrd S hs hp hL hB h9
 by_cases h10:bt s p=123
 ·exact Zrc S hs hp hL hB h10
 by_cases h11:bt s p=125
 ·exact Zrb S hs hp hL hB h11
 by_cases h12:bt s p=93
 ·exact Zra S hs hp hL hB h12
 exact ZmC S hs hp hL hB ⟨⟨h1,h2,h3,h4,h5,h6⟩,h7,h8,h9,h10,h11,h12⟩
def ZbY (s:ByteArray) (alt:Nat->Nat->Rd3) (room:Bool) (deep B:Nat):Prop :=
 ∀ (w:World) (R p g:Nat) (v:Value) (L:List Pm),Sp w R s p (-1) g v L->s.size<=120->p < s.size->g<=9->L.length + 3 * (s.size - p)<=1000->
   Calls Tryz.prog 92 #[.pointer (some ⟨R,0,none⟩),.int .i64 deep] w (QI (Zg alt room s p g) R s B w v L)
def Pb (w:World) (P:Nat) (c:Pc) (sv kv:Value):Prop :=
 w.heap[P]? = some (.cells #[.int .i64 c.kind,sv,.int .i64 c.min,.int .i64 c.max,.bool c.lazy,.int .i64 c.num,kv] 114 (0,0))
theorem Pb.keeps {E:Nat->Prop} {w w':World} {P:Nat} {c:Pc} {sv kv:Value} (h:Pb w P c sv kv) (k:Za E w w') (hE:¬ E P):Pb w' P c sv kv:=by
 unfold Pb at h ⊢; rw [k.block P (lt_of_block h) hE]; exact h
theorem Sp.atP {w w':World} {R P:Nat} {s:ByteArray} {a b g:Int} {v:Value} {L:List Pm} {c:Pc} {sv kv:Value} (h:Sp w R s a b g v L) (hP:Pb w P c sv kv) (hv:¬ v.ownBlock=some P) (hk:Za (fun k=>k=P) w w'):Sp w' R s a b g v L:=by
 have hT :∀k,k=P->k < w.heap.size->∃cs t,w.heap[k]? = some (.cells cs t (0,0))/\t≠250/\t≠3:=by
  rintro k rfl _;exact ⟨_,_,hP,by decide,by decide⟩
 refine ⟨h.rd.keeps hk (by rintro rfl; have h1:=h.rd; have h2:=hP; unfold Rd at h1; unfold Pb at h2; rw [h1] at h2; simp at h2),Zb h.row hk (by rintro k hk1 rfl; exact hv hk1),fun x hx=>(h.rows x hx).byTypes hk hT⟩
theorem Pb.facts {w:World} {P:Nat} {c:Pc} {sv kv:Value} (h:Pb w P c sv kv):w.cell? ⟨P,0,none⟩=some (.int .i64 c.kind)/\w.cell? ⟨P,1,none⟩=some sv/\w.cell? ⟨P,2,none⟩=some (.int .i64 c.min)/\w.cell? ⟨P,3,none⟩=some (.int .i64 c.max)/\
  w.cell? ⟨P,4,none⟩=some (.bool c.lazy)/\w.cell? ⟨P,5,none⟩=some (.int .i64 c.num)/\w.cell? ⟨P,6,none⟩=some kv/\∀i,w.frozen? ⟨P,i,none⟩=false :=
 ⟨by rw [Zc h]; rfl,by rw [Zc h]; rfl,by rw [Zc h]; rfl,by rw [Zc h]; rfl,by rw [Zc h]; rfl,by rw [Zc h]; rfl,by rw [Zc h]; rfl,fun i=>Zv h⟩
theorem ZL (w:World) (P i:Nat) (u:Value):Za (fun k=>k=P) w (w.setCell ⟨P,i,none⟩ u):=(Za.refl (fun k=>k=P) _).setCell (fun _=>rfl) _
theorem Pb.set2 {w:World} {P:Nat} {c:Pc} {sv kv:Value} (h:Pb w P c sv kv) (x:Int):Pb (w.setCell ⟨P,2,none⟩ (.int .i64 x)) P { c with min:=x } sv kv:=by unfold Pb; rw [heap_setCell_same _ _ _ _ _ _ h]; rfl
theorem Pb.set3 {w:World} {P:Nat} {c:Pc} {sv kv:Value} (h:Pb w P c sv kv) (x:Int):Pb (w.setCell ⟨P,3,none⟩ (.int .i64 x)) P { c with max:=x } sv kv:=by unfold Pb; rw [heap_setCell_same _ _ _ _ _ _ h]; rfl
theorem Pb.set4 {w:World} {P:Nat} {c:Pc} {sv kv:Value} (h:Pb w P c sv kv) (x:Bool):Pb (w.setCell ⟨P,4,none⟩ (.bool x)) P { c with lazy:=x } sv kv:=by unfold Pb; rw [heap_setCell_same _ _ _ _ _ _ h]; rfl
theorem Pb.set6 {w:World} {P:Nat} {c:Pc} {sv kv:Value} (h:Pb w P c sv kv) (x:Value):Pb (w.setCell ⟨P,6,none⟩ x) P c sv x:=by unfold Pb; rw [heap_setCell_same _ _ _ _ _ _ h]; rfl
theorem Sp.fin {w:World} {R P:Nat} {s:ByteArray} {a b g:Int} {v:Value} {L:List Pm} {c:Pc} (S:Sp w R s a b g v L) (hP:Pb w P c (.slice none 0 0) (.slice none 0 0)) (hv:¬ v.ownBlock=some P) (hc:c.set = []) (lz:Bool) (r:Int) :
  Sp (((w.setCell ⟨P,4,none⟩ (.bool lz)).alloc (.cells #[.int .i64 r] 3)).setCell ⟨P,6,none⟩ (.slice (some ⟨w.heap.size,0,none⟩) 1 1)) R s a b g v L/\
  Je (((w.setCell ⟨P,4,none⟩ (.bool lz)).alloc (.cells #[.int .i64 r] 3)).setCell ⟨P,6,none⟩ (.slice (some ⟨w.heap.size,0,none⟩) 1 1)) ({ c with lazy:=lz,kids := [r] },.slice none 0 0,.slice (some ⟨w.heap.size,0,none⟩) 1 1)/\
  Za (fun k=>k=P) w (((w.setCell ⟨P,4,none⟩ (.bool lz)).alloc (.cells #[.int .i64 r] 3)).setCell ⟨P,6,none⟩ (.slice (some ⟨w.heap.size,0,none⟩) 1 1)):=by
 have e:(w.setCell ⟨P,4,none⟩ (.bool lz)).heap.size=w.heap.size:=by simp [World.setCell]
 have hP1:=hP.set4 lz;have S1:=S.atP hP hv (ZL w P 4 (.bool lz));have hk2:Za N0_ (w.setCell ⟨P,4,none⟩ (.bool lz)) ((w.setCell ⟨P,4,none⟩ (.bool lz)).alloc (.cells #[.int .i64 r] 3)):=(Za.refl _ _).alloc _;have hP2:=hP1.keeps hk2 id;have S2:=S1.same hk2;have o2:=ZbG (w.setCell ⟨P,4,none⟩ (.bool lz)) { c with lazy:=lz,kids := [r] } r hc rfl;rw [e] at o2;refine ⟨S2.atP hP2 hv (ZL _ P 6 _),?_,((ZL w P 4 (.bool lz)).trans (hk2.mono fun _ _ h=>h.elim)).trans (ZL _ P 6 _)⟩;exact o2.byTypes (ZL _ P 6 _) (by rintro k rfl _; exact ⟨_,_,hP2,by decide,by decide⟩)
def ZeF (lo hi:Int) (lz:Bool) (kids:List Int):Pc := { kind:=4,set := [],min:=lo,max:=hi,lazy:=lz,num:=0,kids:=kids }
theorem Pb.made (w:World):Pb (w.alloc (.cells #[.int .i64 4,.slice none 0 0,.int .i64 0,.int .i64 (-1),.bool false,.int .i64 0,.slice none 0 0] 114)) w.heap.size (ZeF 0 (-1) false []) (.slice none 0 0) (.slice none 0 0):=heap_alloc_new _ _
theorem ZaJ {w:World} {R:Nat} {s:ByteArray} {a b g:Int} {v:Value} {L:List Pm} (S:Sp w R s a b g v L):¬ v.ownBlock=some w.heap.size:=by
 intro h
 have:=(S.row.lt _ h).2
 omega
theorem ZkW {w:World} {R p g deep B:Nat} {s:ByteArray} {v:Value} {L:List Pm} {alt:Nat->Nat->Rd3} {room:Bool} (S:Sp w R s p (-1) g v L) (hs:s.size<=120) (hp:p < s.size) (G:Zad s alt) (hg:g<=9)
  (hF:L.length + 3 * (s.size - p)<=1000) (hA:ZbY s alt room deep B) (hB:1005<=B) (hB5:B<=6000) {x:Nat} (he:Zg alt room s p g = .error x) :
  Calls Tryz.prog 73 #[.pointer (some ⟨R,0,none⟩),.int .i64 deep] w (QI (Zn alt room s p g) R s (B + 1) w v L):=by
 have HE:Hid (Zn alt room s p g = .error x):=by show _ = _; simp [Zn,he]
 have HX:Hid (Zg alt room s p g = .error x):=he;clear he;go_enter Tryz.func73,Tryz.ntmps73;go_wp2_with (first
  | (go_at_call 92; refine (hA _ _ _ _ _ _ S hs hp hg hF).mono ?_; intro e w4 hpo; unfold QI at hpo; rw [HX.out] at hpo; obtain ⟨r,v4,L4,rfl,hS4,hB4,st4,hn4⟩:=hpo; obtain ⟨a4,g4,S4⟩:=hS4; have S5:=S4.alloc (.cells #[.int .i64 4,.slice none 0 0,.int .i64 0,.int .i64 (-1),.bool false,.int .i64 0,.slice none 0 0] 114); have st5:=st4.same ((Za.refl N0_ w4).alloc (.cells #[.int .i64 4,.slice none 0 0,.int .i64 0,.int .i64 (-1),.bool false,.int .i64 0,.slice none 0 0] 114)); have hP:=Pb.made w4; have hv:=ZaJ S4; have hPR:¬ w4.heap.size=R:=by have:=S4.rd.lt; omega)
  | (go_at_call 48; refine (isB ⟨_,_,S5.rd⟩ (by omega)).mono ?_; rintro e w5 ⟨rfl,hb5,hk5⟩; obtain ⟨a5,g5,r5⟩:=hb5.rd; replace S5:=S5.atR hk5 r5; replace st5:=st5.onR hk5; replace hP:=hP.keeps hk5 hPR; clear hb5 hk5 r5))
 go_ret;exact Ql HE.out S5 (by omega) st5 hn4
theorem Zi7 {w:World} {R p g deep B:Nat} {s:ByteArray} {v:Value} {L:List Pm} {alt:Nat->Nat->Rd3} {room:Bool} (S:Sp w R s p (-1) g v L) (hs:s.size<=120) (hp:p < s.size) (G:Zad s alt) (hg:g<=9)
  (hF:L.length + 3 * (s.size - p)<=1000) (hA:ZbY s alt room deep B) (hB:1005<=B) (hB5:B<=6000) {f:Pf} {q g':Nat} (he:Zg alt room s p g = .ok (f,q,g')) (hq:bt s q≠42/\bt s q≠43/\bt s q≠63/\bt s q≠123) :
  Calls Tryz.prog 73 #[.pointer (some ⟨R,0,none⟩),.int .i64 deep] w (QI (Zn alt room s p g) R s (B + 1) w v L):=by
 have hpos:=ZX G hp hg he;have hlen:=hpos.2.2.2 L.length;have HE:Hid (Zn alt room s p g = .ok (f,q,g')):=by show _ = _; simp [Zn,he,ZW,hq.1,hq.2.1,hq.2.2.1,hq.2.2.2]
 have HX:Hid (Zg alt room s p g = .ok (f,q,g')):=he;have HQ:Hid (bt s q≠42/\bt s q≠43/\bt s q≠63/\bt s q≠123):=hq;clear hq;clear he;go_enter Tryz.func73,Tryz.ntmps73;go_wp2_with (first
  | (go_at_call 92; refine (hA _ _ _ _ _ _ S hs hp hg hF).mono ?_; intro e w4 hpo; unfold QI at hpo; rw [HX.out] at hpo; obtain ⟨v4,L4,rfl,S4,hm4,st4,hn4⟩:=hpo; have S5:=S4.alloc (.cells #[.int .i64 4,.slice none 0 0,.int .i64 0,.int .i64 (-1),.bool false,.int .i64 0,.slice none 0 0] 114); have st5:=st4.same ((Za.refl N0_ w4).alloc (.cells #[.int .i64 4,.slice none 0 0,.int .i64 0,.int .i64 (-1),.bool false,.int .i64 0,.slice none 0 0] 114)); have hP:=Pb.made w4; have hv:=ZaJ S4; have hPR:¬ w4.heap.size=R:=by have:=S4.rd.lt; omega)
  | (go_at_call 48; refine (isN ⟨S5.rd⟩ hs (by have:=HQ.out; omega) (by omega)).mono ?_; rintro e w5 ⟨rfl,hb5,hk5⟩; replace S5:=S5.atR hk5 hb5.rd; replace st5:=st5.onR hk5; replace hP:=hP.keeps hk5 hPR; clear hb5 hk5))
 go_ret;exact Qg HE.out S5 hm4 rfl st5 hn4
theorem ZgL {w:World} {R p g deep B:Nat} {s:ByteArray} {v:Value} {L:List Pm} {alt:Nat->Nat->Rd3} {room:Bool} (S:Sp w R s p (-1) g v L) (hs:s.size<=120) (hp:p < s.size) (G:Zad s alt) (hg:g<=9)
  (hF:L.length + 3 * (s.size - p)<=1000) (hA:ZbY s alt room deep B) (hB:1005<=B) (hB5:B<=6000) {f:Pf} {q g':Nat} (he:Zg alt room s p g = .ok (f,q,g')) (hq:bt s q=42) (hl:bt s (q + 1)=63) :
  Calls Tryz.prog 73 #[.pointer (some ⟨R,0,none⟩),.int .i64 deep] w (QI (Zn alt room s p g) R s (B + 1) w v L):=by
 have hpos:=ZX G hp hg he;have hlen:=hpos.2.2.2 L.length;have HE:Hid (Zn alt room s p g = .ok (Z9 0 (-1) true f,q + 1 + 1,g')):=by show _ = _; simp [Zn,he,ZW,hq,hl]
 have HX:Hid (Zg alt room s p g = .ok (f,q,g')):=he;have HQ:Hid (bt s q=42/\bt s (q + 1)=63):=⟨hq,hl⟩;clear hq hl;clear he;go_enter Tryz.func73,Tryz.ntmps73;go_wp2_with (first
  | (go_at_call 92; refine (hA _ _ _ _ _ _ S hs hp hg hF).mono ?_; intro e w4 hpo; unfold QI at hpo; rw [HX.out] at hpo; obtain ⟨v4,L4,rfl,S4,hm4,st4,hn4⟩:=hpo; have S5:=S4.alloc (.cells #[.int .i64 4,.slice none 0 0,.int .i64 0,.int .i64 (-1),.bool false,.int .i64 0,.slice none 0 0] 114); have st5:=st4.same ((Za.refl N0_ w4).alloc (.cells #[.int .i64 4,.slice none 0 0,.int .i64 0,.int .i64 (-1),.bool false,.int .i64 0,.slice none 0 0] 114)); have hP:=Pb.made w4; have hv:=ZaJ S4; have hPR:¬ w4.heap.size=R:=by have:=S4.rd.lt; omega)
  | (go_at_call 48; refine (isY ⟨S5.rd⟩ hs (by have:=HQ.out; omega) (by omega)).mono ?_; rintro e w5 ⟨rfl,hb5,hk5⟩; replace S5:=S5.atR hk5 hb5.rd; replace st5:=st5.onR hk5; replace hP:=hP.keeps hk5 hPR; clear hb5 hk5; obtain ⟨d0,d1,d2,d3,d4,d5,d6,df⟩:=hP.facts; have hP2:=(hP.set4 true).keeps ((Za.refl N0_ _).alloc (.cells #[.int .i64 ((L.length:Int) + (f L.length).length - 1)] 3)) id; obtain ⟨e0,e1,e2,e3,e4,e5,e6,ef⟩:=hP2.facts; clear hP2)
  | (go_at_call 49; refine (Zcz (S5.fin hP hv rfl true _).1 _ (S5.fin hP hv rfl true _).2.1 (by have:=ZG hm4; omega) (st5.on (S5.fin hP hv rfl true _).2.2 (fun i hi' h=>by have:=st4.keeps.size; omega)) hn4 (by intro k hk; simp [Value.ownBlock] at hk; subst hk; exact st5.keeps.size)).mono ?_; rintro e w6 ⟨rfl,v6,S6,st6,hn6⟩))
 go_ret;refine Qg HE.out S6 ?_ (by have:=ZG hm4; simp [Z9]; omega) st6 hn6;rw [List.map_append,hm4];simp [Z9,ZeF]
theorem ZgN {w:World} {R p g deep B:Nat} {s:ByteArray} {v:Value} {L:List Pm} {alt:Nat->Nat->Rd3} {room:Bool} (S:Sp w R s p (-1) g v L) (hs:s.size<=120) (hp:p < s.size) (G:Zad s alt) (hg:g<=9)
  (hF:L.length + 3 * (s.size - p)<=1000) (hA:ZbY s alt room deep B) (hB:1005<=B) (hB5:B<=6000) {f:Pf} {q g':Nat} (he:Zg alt room s p g = .ok (f,q,g')) (hq:bt s q=43) (hl:bt s (q + 1)=63) :
  Calls Tryz.prog 73 #[.pointer (some ⟨R,0,none⟩),.int .i64 deep] w (QI (Zn alt room s p g) R s (B + 1) w v L):=by
 have hpos:=ZX G hp hg he;have hlen:=hpos.2.2.2 L.length;have HE:Hid (Zn alt room s p g = .ok (Z9 1 (-1) true f,q + 1 + 1,g')):=by show _ = _; simp [Zn,he,ZW,hq,hl]
 have HX:Hid (Zg alt room s p g = .ok (f,q,g')):=he;have HQ:Hid (bt s q=43/\bt s (q + 1)=63):=⟨hq,hl⟩;clear hq hl;clear he;go_enter Tryz.func73,Tryz.ntmps73;go_wp2_with (first
  | (go_at_call 92; refine (hA _ _ _ _ _ _ S hs hp hg hF).mono ?_; intro e w4 hpo; unfold QI at hpo; rw [HX.out] at hpo; obtain ⟨v4,L4,rfl,S4,hm4,st4,hn4⟩:=hpo; have S5:=S4.alloc (.cells #[.int .i64 4,.slice none 0 0,.int .i64 0,.int .i64 (-1),.bool false,.int .i64 0,.slice none 0 0] 114); have st5:=st4.same ((Za.refl N0_ w4).alloc (.cells #[.int .i64 4,.slice none 0 0,.int .i64 0,.int .i64 (-1),.bool false,.int .i64 0,.slice none 0 0] 114)); have hP:=Pb.made w4; have hv:=ZaJ S4; have hPR:¬ w4.heap.size=R:=by have:=S4.rd.lt; omega)
  | (go_at_call 48; refine (isY (p:=q) ⟨S5.rd⟩ hs (by have:=HQ.out; omega) (by omega)).mono ?_; rintro e w5 ⟨rfl,hb5,hk5⟩; replace S5:=S5.atR hk5 hb5.rd; replace st5:=st5.onR hk5; replace hP:=hP.keeps hk5 hPR; clear hb5 hk5; obtain ⟨d0,d1,d2,d3,d4,d5,d6,df⟩:=hP.facts; have hP2:=(hP.set4 true).keeps ((Za.refl N0_ _).alloc (.cells #[.int .i64 ((L.length:Int) + (f L.length).length - 1)] 3)) id; obtain ⟨e0,e1,e2,e3,e4,e5,e6,ef⟩:=hP2.facts; clear hP2; replace S5:=S5.atP hP hv (ZL _ _ 2 (.int .i64 1)); replace st5:=st5.on (ZL w5 w4.heap.size 2 (.int .i64 1)) (fun i hi' h=>by have:=st4.keeps.size; omega); replace hP:=hP.set2 1)
  | (go_at_call 48; refine (isY (p:=q + 1) ⟨S5.rd⟩ hs (by have:=HQ.out; omega) (by omega)).mono ?_; rintro e w5 ⟨rfl,hb5,hk5⟩; replace S5:=S5.atR hk5 hb5.rd; replace st5:=st5.onR hk5; replace hP:=hP.keeps hk5 hPR; clear hb5 hk5; obtain ⟨d0,d1,d2,d3,d4,d5,d6,df⟩:=hP.facts; have hP2:=(hP.set4 true).keeps ((Za.refl N0_ _).alloc (.cells #[.int .i64 ((L.length:Int) + (f L.length).length - 1)] 3)) id; obtain ⟨e0,e1,e2,e3,e4,e5,e6,ef⟩:=hP2.facts; clear hP2)
  | (go_at_call 48; refine (isN (p:=q) ⟨S5.rd⟩ hs (by have:=HQ.out; omega) (by omega)).mono ?_; rintro e w5 ⟨rfl,hb5,hk5⟩; replace S5:=S5.atR hk5 hb5.rd; replace st5:=st5.onR hk5; replace hP:=hP.keeps hk5 hPR; clear hb5 hk5)
  | (go_at_call 49; refine (Zcz (S5.fin hP hv rfl true _).1 _ (S5.fin hP hv rfl true _).2.1 (by have:=ZG hm4; omega) (st5.on (S5.fin hP hv rfl true _).2.2 (fun i hi' h=>by have:=st4.keeps.size; omega)) hn4 (by intro k hk; simp [Value.ownBlock] at hk; subst hk; exact st5.keeps.size)).mono ?_; rintro e w6 ⟨rfl,v6,S6,st6,hn6⟩))
 go_ret;refine Qg HE.out S6 ?_ (by have:=ZG hm4; simp [Z9]; omega) st6 hn6;rw [List.map_append,hm4];simp [Z9,ZeF]
theorem Zi5 {w:World} {R p g deep B:Nat} {s:ByteArray} {v:Value} {L:List Pm} {alt:Nat->Nat->Rd3} {room:Bool} (S:Sp w R s p (-1) g v L) (hs:s.size<=120) (hp:p < s.size) (G:Zad s alt) (hg:g<=9)
  (hF:L.length + 3 * (s.size - p)<=1000) (hA:ZbY s alt room deep B) (hB:1005<=B) (hB5:B<=6000) {f:Pf} {q g':Nat} (he:Zg alt room s p g = .ok (f,q,g')) (hq:bt s q=63) (hl:bt s (q + 1)=63) :
  Calls Tryz.prog 73 #[.pointer (some ⟨R,0,none⟩),.int .i64 deep] w (QI (Zn alt room s p g) R s (B + 1) w v L):=by
 have hpos:=ZX G hp hg he;have hlen:=hpos.2.2.2 L.length;have HE:Hid (Zn alt room s p g = .ok (Z9 0 (1) true f,q + 1 + 1,g')):=by show _ = _; simp [Zn,he,ZW,hq,hl]
 have HX:Hid (Zg alt room s p g = .ok (f,q,g')):=he;have HQ:Hid (bt s q=63/\bt s (q + 1)=63):=⟨hq,hl⟩;clear hq hl;clear he;go_enter Tryz.func73,Tryz.ntmps73;go_wp2_with (first
  | (go_at_call 92; refine (hA _ _ _ _ _ _ S hs hp hg hF).mono ?_; intro e w4 hpo; unfold QI at hpo; rw [HX.out] at hpo; obtain ⟨v4,L4,rfl,S4,hm4,st4,hn4⟩:=hpo; have S5:=S4.alloc (.cells #[.int .i64 4,.slice none 0 0,.int .i64 0,.int .i64 (-1),.bool false,.int .i64 0,.slice none 0 0] 114); have st5:=st4.same ((Za.refl N0_ w4).alloc (.cells #[.int .i64 4,.slice none 0 0,.int .i64 0,.int .i64 (-1),.bool false,.int .i64 0,.slice none 0 0] 114)); have hP:=Pb.made w4; have hv:=ZaJ S4; have hPR:¬ w4.heap.size=R:=by have:=S4.rd.lt; omega)
  | (go_at_call 48; refine (isY (p:=q) ⟨S5.rd⟩ hs (by have:=HQ.out; omega) (by omega)).mono ?_; rintro e w5 ⟨rfl,hb5,hk5⟩; replace S5:=S5.atR hk5 hb5.rd; replace st5:=st5.onR hk5; replace hP:=hP.keeps hk5 hPR; clear hb5 hk5; obtain ⟨d0,d1,d2,d3,d4,d5,d6,df⟩:=hP.facts; have hP2:=(hP.set4 true).keeps ((Za.refl N0_ _).alloc (.cells #[.int .i64 ((L.length:Int) + (f L.length).length - 1)] 3)) id; obtain ⟨e0,e1,e2,e3,e4,e5,e6,ef⟩:=hP2.facts; clear hP2; replace S5:=S5.atP hP hv (ZL _ _ 3 (.int .i64 1)); replace st5:=st5.on (ZL w5 w4.heap.size 3 (.int .i64 1)) (fun i hi' h=>by have:=st4.keeps.size; omega); replace hP:=hP.set3 1)
  | (go_at_call 48; refine (isY (p:=q + 1) ⟨S5.rd⟩ hs (by have:=HQ.out; omega) (by omega)).mono ?_; rintro e w5 ⟨rfl,hb5,hk5⟩; replace S5:=S5.atR hk5 hb5.rd; replace st5:=st5.onR hk5; replace hP:=hP.keeps hk5 hPR; clear hb5 hk5; obtain ⟨d0,d1,d2,d3,d4,d5,d6,df⟩:=hP.facts; have hP2:=(hP.set4 true).keeps ((Za.refl N0_ _).alloc (.cells #[.int .i64 ((L.length:Int) + (f L.length).length - 1)] 3)) id; obtain ⟨e0,e1,e2,e3,e4,e5,e6,ef⟩:=hP2.facts; clear hP2)
  | (go_at_call 48; refine (isN (p:=q) ⟨S5.rd⟩ hs (by have:=HQ.out; omega) (by omega)).mono ?_; rintro e w5 ⟨rfl,hb5,hk5⟩; replace S5:=S5.atR hk5 hb5.rd; replace st5:=st5.onR hk5; replace hP:=hP.keeps hk5 hPR; clear hb5 hk5)
  | (go_at_call 49; refine (Zcz (S5.fin hP hv rfl true _).1 _ (S5.fin hP hv rfl true _).2.1 (by have:=ZG hm4; omega) (st5.on (S5.fin hP hv rfl true _).2.2 (fun i hi' h=>by have:=st4.keeps.size; omega)) hn4 (by intro k hk; simp [Value.ownBlock] at hk; subst hk; exact st5.keeps.size)).mono ?_; rintro e w6 ⟨rfl,v6,S6,st6,hn6⟩))
 go_ret;refine Qg HE.out S6 ?_ (by have:=ZG hm4; simp [Z9]; omega) st6 hn6;rw [List.map_append,hm4];simp [Z9,ZeF]
theorem ZgM {w:World} {R p g deep B:Nat} {s:ByteArray} {v:Value} {L:List Pm} {alt:Nat->Nat->Rd3} {room:Bool} (S:Sp w R s p (-1) g v L) (hs:s.size<=120) (hp:p < s.size) (G:Zad s alt) (hg:g<=9)
  (hF:L.length + 3 * (s.size - p)<=1000) (hA:ZbY s alt room deep B) (hB:1005<=B) (hB5:B<=6000) {f:Pf} {q g':Nat} (he:Zg alt room s p g = .ok (f,q,g')) (hq:bt s q=42) (hl:bt s (q + 1)≠63) :
  Calls Tryz.prog 73 #[.pointer (some ⟨R,0,none⟩),.int .i64 deep] w (QI (Zn alt room s p g) R s (B + 1) w v L):=by
 have hpos:=ZX G hp hg he;have hlen:=hpos.2.2.2 L.length;have HE:Hid (Zn alt room s p g = .ok (Z9 0 (-1) false f,q + 1,g')):=by show _ = _; simp [Zn,he,ZW,hq,hl]
 have HX:Hid (Zg alt room s p g = .ok (f,q,g')):=he;have HQ:Hid (bt s q=42/\bt s (q + 1)≠63):=⟨hq,hl⟩;clear hq hl;clear he;go_enter Tryz.func73,Tryz.ntmps73;go_wp2_with (first
  | (go_at_call 92; refine (hA _ _ _ _ _ _ S hs hp hg hF).mono ?_; intro e w4 hpo; unfold QI at hpo; rw [HX.out] at hpo; obtain ⟨v4,L4,rfl,S4,hm4,st4,hn4⟩:=hpo; have S5:=S4.alloc (.cells #[.int .i64 4,.slice none 0 0,.int .i64 0,.int .i64 (-1),.bool false,.int .i64 0,.slice none 0 0] 114); have st5:=st4.same ((Za.refl N0_ w4).alloc (.cells #[.int .i64 4,.slice none 0 0,.int .i64 0,.int .i64 (-1),.bool false,.int .i64 0,.slice none 0 0] 114)); have hP:=Pb.made w4; have hv:=ZaJ S4; have hPR:¬ w4.heap.size=R:=by have:=S4.rd.lt; omega)
  | (go_at_call 48; refine (isY ⟨S5.rd⟩ hs (by have:=HQ.out; omega) (by omega)).mono ?_; rintro e w5 ⟨rfl,hb5,hk5⟩; replace S5:=S5.atR hk5 hb5.rd; replace st5:=st5.onR hk5; replace hP:=hP.keeps hk5 hPR; clear hb5 hk5; obtain ⟨d0,d1,d2,d3,d4,d5,d6,df⟩:=hP.facts; have hP2:=(hP.set4 false).keeps ((Za.refl N0_ _).alloc (.cells #[.int .i64 ((L.length:Int) + (f L.length).length - 1)] 3)) id; obtain ⟨e0,e1,e2,e3,e4,e5,e6,ef⟩:=hP2.facts; clear hP2)
  | (go_at_call 48; refine (isN ⟨S5.rd⟩ hs (by have:=HQ.out; omega) (by omega)).mono ?_; rintro e w5 ⟨rfl,hb5,hk5⟩; replace S5:=S5.atR hk5 hb5.rd; replace st5:=st5.onR hk5; replace hP:=hP.keeps hk5 hPR; clear hb5 hk5; obtain ⟨d0,d1,d2,d3,d4,d5,d6,df⟩:=hP.facts; have hP2:=(hP.set4 false).keeps ((Za.refl N0_ _).alloc (.cells #[.int .i64 ((L.length:Int) + (f L.length).length - 1)] 3)) id; obtain ⟨e0,e1,e2,e3,e4,e5,e6,ef⟩:=hP2.facts; clear hP2)
  | (go_at_call 49; refine (Zcz (S5.fin hP hv rfl false _).1 _ (S5.fin hP hv rfl false _).2.1 (by have:=ZG hm4; omega) (st5.on (S5.fin hP hv rfl false _).2.2 (fun i hi' h=>by have:=st4.keeps.size; omega)) hn4 (by intro k hk; simp [Value.ownBlock] at hk; subst hk; exact st5.keeps.size)).mono ?_; rintro e w6 ⟨rfl,v6,S6,st6,hn6⟩))
 go_ret;refine Qg HE.out S6 ?_ (by have:=ZG hm4; simp [Z9]; omega) st6 hn6;rw [List.map_append,hm4];simp [Z9,ZeF]
theorem ZgO {w:World} {R p g deep B:Nat} {s:ByteArray} {v:Value} {L:List Pm} {alt:Nat->Nat->Rd3} {room:Bool} (S:Sp w R s p (-1) g v L) (hs:s.size<=120) (hp:p < s.size) (G:Zad s alt) (hg:g<=9)
  (hF:L.length + 3 * (s.size - p)<=1000) (hA:ZbY s alt room deep B) (hB:1005<=B) (hB5:B<=6000) {f:Pf} {q g':Nat} (he:Zg alt room s p g = .ok (f,q,g')) (hq:bt s q=43) (hl:bt s (q + 1)≠63) :
  Calls Tryz.prog 73 #[.pointer (some ⟨R,0,none⟩),.int .i64 deep] w (QI (Zn alt room s p g) R s (B + 1) w v L):=by
 have hpos:=ZX G hp hg he;have hlen:=hpos.2.2.2 L.length;have HE:Hid (Zn alt room s p g = .ok (Z9 1 (-1) false f,q + 1,g')):=by show _ = _; simp [Zn,he,ZW,hq,hl]
 have HX:Hid (Zg alt room s p g = .ok (f,q,g')):=he;have HQ:Hid (bt s q=43/\bt s (q + 1)≠63):=⟨hq,hl⟩;clear hq hl;clear he;go_enter Tryz.func73,Tryz.ntmps73;go_wp2_with (first
  | (go_at_call 92; refine (hA _ _ _ _ _ _ S hs hp hg hF).mono ?_; intro e w4 hpo; unfold QI at hpo; rw [HX.out] at hpo; obtain ⟨v4,L4,rfl,S4,hm4,st4,hn4⟩:=hpo; have S5:=S4.alloc (.cells #[.int .i64 4,.slice none 0 0,.int .i64 0,.int .i64 (-1),.bool false,.int .i64 0,.slice none 0 0] 114); have st5:=st4.same ((Za.refl N0_ w4).alloc (.cells #[.int .i64 4,.slice none 0 0,.int .i64 0,.int .i64 (-1),.bool false,.int .i64 0,.slice none 0 0] 114)); have hP:=Pb.made w4; have hv:=ZaJ S4; have hPR:¬ w4.heap.size=R:=by have:=S4.rd.lt; omega)
  | (go_at_call 48; refine (isY (p:=q) ⟨S5.rd⟩ hs (by have:=HQ.out; omega) (by omega)).mono ?_; rintro e w5 ⟨rfl,hb5,hk5⟩; replace S5:=S5.atR hk5 hb5.rd; replace st5:=st5.onR hk5; replace hP:=hP.keeps hk5 hPR; clear hb5 hk5; obtain ⟨d0,d1,d2,d3,d4,d5,d6,df⟩:=hP.facts; have hP2:=(hP.set4 false).keeps ((Za.refl N0_ _).alloc (.cells #[.int .i64 ((L.length:Int) + (f L.length).length - 1)] 3)) id; obtain ⟨e0,e1,e2,e3,e4,e5,e6,ef⟩:=hP2.facts; clear hP2; replace S5:=S5.atP hP hv (ZL _ _ 2 (.int .i64 1)); replace st5:=st5.on (ZL w5 w4.heap.size 2 (.int .i64 1)) (fun i hi' h=>by have:=st4.keeps.size; omega); replace hP:=hP.set2 1)
  | (go_at_call 48; refine (isN (p:=q + 1) ⟨S5.rd⟩ hs (by have:=HQ.out; omega) (by omega)).mono ?_; rintro e w5 ⟨rfl,hb5,hk5⟩; replace S5:=S5.atR hk5 hb5.rd; replace st5:=st5.onR hk5; replace hP:=hP.keeps hk5 hPR; clear hb5 hk5; obtain ⟨d0,d1,d2,d3,d4,d5,d6,df⟩:=hP.facts; have hP2:=(hP.set4 false).keeps ((Za.refl N0_ _).alloc (.cells #[.int .i64 ((L.length:Int) + (f L.length).length - 1)] 3)) id; obtain ⟨e0,e1,e2,e3,e4,e5,e6,ef⟩:=hP2.facts; clear hP2)
  | (go_at_call 48; refine (isN (p:=q) ⟨S5.rd⟩ hs (by have:=HQ.out; omega) (by omega)).mono ?_; rintro e w5 ⟨rfl,hb5,hk5⟩; replace S5:=S5.atR hk5 hb5.rd; replace st5:=st5.onR hk5; replace hP:=hP.keeps hk5 hPR; clear hb5 hk5)
  | (go_at_call 49; refine (Zcz (S5.fin hP hv rfl false _).1 _ (S5.fin hP hv rfl false _).2.1 (by have:=ZG hm4; omega) (st5.on (S5.fin hP hv rfl false _).2.2 (fun i hi' h=>by have:=st4.keeps.size; omega)) hn4 (by intro k hk; simp [Value.ownBlock] at hk; subst hk; exact st5.keeps.size)).mono ?_; rintro e w6 ⟨rfl,v6,S6,st6,hn6⟩))
 go_ret;refine Qg HE.out S6 ?_ (by have:=ZG hm4; simp [Z9]; omega) st6 hn6;rw [List.map_append,hm4];simp [Z9,ZeF]
theorem Zi6 {w:World} {R p g deep B:Nat} {s:ByteArray} {v:Value} {L:List Pm} {alt:Nat->Nat->Rd3} {room:Bool} (S:Sp w R s p (-1) g v L) (hs:s.size<=120) (hp:p < s.size) (G:Zad s alt) (hg:g<=9)
  (hF:L.length + 3 * (s.size - p)<=1000) (hA:ZbY s alt room deep B) (hB:1005<=B) (hB5:B<=6000) {f:Pf} {q g':Nat} (he:Zg alt room s p g = .ok (f,q,g')) (hq:bt s q=63) (hl:bt s (q + 1)≠63) :
  Calls Tryz.prog 73 #[.pointer (some ⟨R,0,none⟩),.int .i64 deep] w (QI (Zn alt room s p g) R s (B + 1) w v L):=by
 have hpos:=ZX G hp hg he;have hlen:=hpos.2.2.2 L.length;have HE:Hid (Zn alt room s p g = .ok (Z9 0 (1) false f,q + 1,g')):=by show _ = _; simp [Zn,he,ZW,hq,hl]
 have HX:Hid (Zg alt room s p g = .ok (f,q,g')):=he;have HQ:Hid (bt s q=63/\bt s (q + 1)≠63):=⟨hq,hl⟩;clear hq hl;clear he;go_enter Tryz.func73,Tryz.ntmps73;go_wp2_with (first
  | (go_at_call 92; refine (hA _ _ _ _ _ _ S hs hp hg hF).mono ?_; intro e w4 hpo; unfold QI at hpo; rw [HX.out] at hpo; obtain ⟨v4,L4,rfl,S4,hm4,st4,hn4⟩:=hpo; have S5:=S4.alloc (.cells #[.int .i64 4,.slice none 0 0,.int .i64 0,.int .i64 (-1),.bool false,.int .i64 0,.slice none 0 0] 114); have st5:=st4.same ((Za.refl N0_ w4).alloc (.cells #[.int .i64 4,.slice none 0 0,.int .i64 0,.int .i64 (-1),.bool false,.int .i64 0,.slice none 0 0] 114)); have hP:=Pb.made w4; have hv:=ZaJ S4; have hPR:¬ w4.heap.size=R:=by have:=S4.rd.lt; omega)
  | (go_at_call 48; refine (isY (p:=q) ⟨S5.rd⟩ hs (by have:=HQ.out; omega) (by omega)).mono ?_; rintro e w5 ⟨rfl,hb5,hk5⟩; replace S5:=S5.atR hk5 hb5.rd; replace st5:=st5.onR hk5; replace hP:=hP.keeps hk5 hPR; clear hb5 hk5; obtain ⟨d0,d1,d2,d3,d4,d5,d6,df⟩:=hP.facts; have hP2:=(hP.set4 false).keeps ((Za.refl N0_ _).alloc (.cells #[.int .i64 ((L.length:Int) + (f L.length).length - 1)] 3)) id; obtain ⟨e0,e1,e2,e3,e4,e5,e6,ef⟩:=hP2.facts; clear hP2; replace S5:=S5.atP hP hv (ZL _ _ 3 (.int .i64 1)); replace st5:=st5.on (ZL w5 w4.heap.size 3 (.int .i64 1)) (fun i hi' h=>by have:=st4.keeps.size; omega); replace hP:=hP.set3 1)
  | (go_at_call 48; refine (isN (p:=q + 1) ⟨S5.rd⟩ hs (by have:=HQ.out; omega) (by omega)).mono ?_; rintro e w5 ⟨rfl,hb5,hk5⟩; replace S5:=S5.atR hk5 hb5.rd; replace st5:=st5.onR hk5; replace hP:=hP.keeps hk5 hPR; clear hb5 hk5; obtain ⟨d0,d1,d2,d3,d4,d5,d6,df⟩:=hP.facts; have hP2:=(hP.set4 false).keeps ((Za.refl N0_ _).alloc (.cells #[.int .i64 ((L.length:Int) + (f L.length).length - 1)] 3)) id; obtain ⟨e0,e1,e2,e3,e4,e5,e6,ef⟩:=hP2.facts; clear hP2)
  | (go_at_call 48; refine (isN (p:=q) ⟨S5.rd⟩ hs (by have:=HQ.out; omega) (by omega)).mono ?_; rintro e w5 ⟨rfl,hb5,hk5⟩; replace S5:=S5.atR hk5 hb5.rd; replace st5:=st5.onR hk5; replace hP:=hP.keeps hk5 hPR; clear hb5 hk5)
  | (go_at_call 49; refine (Zcz (S5.fin hP hv rfl false _).1 _ (S5.fin hP hv rfl false _).2.1 (by have:=ZG hm4; omega) (st5.on (S5.fin hP hv rfl false _).2.2 (fun i hi' h=>by have:=st4.keeps.size; omega)) hn4 (by intro k hk; simp [Value.ownBlock] at hk; subst hk; exact st5.keeps.size)).mono ?_; rintro e w6 ⟨rfl,v6,S6,st6,hn6⟩))
 go_ret;refine Qg HE.out S6 ?_ (by have:=ZG hm4; simp [Z9]; omega) st6 hn6;rw [List.map_append,hm4];simp [Z9,ZeF]
end Go.Proofs.YtfkflljplohhcaaGreatDoor
