import Derived.Test.YtfkflljplohhcaaGreatDoorF
set_option linter.unusedVariables false
set_option maxHeartbeats 1000000
set_option maxRecDepth 1000000
namespace Go.Proofs.YtfkflljplohhcaaGreatDoor
open Go.RowKit
structure Stp (R:Nat) (w:World) (v:Value) (w':World) (v':Value):Prop where
 keeps:Za (Ex R v) w w'
 blk:jP w v v'
def New (w:World) (L L':List Pm):Prop :=∃M,L'=L++M/\∀x∈M,∀k,x.2.2.ownBlock=some k->w.heap.size<=k
theorem New.refl(w:World)(L:List Pm):New w L L:=⟨[],by simp,by simp⟩
variable {w w1 w' w2:World}{L L1:List Pm}{x R B g p deep BA g' P:Nat}{s:ByteArray}{v v' v1 sv kv:Value}{r a b:Int}
theorem New.trans{L2:List Pm}(h:New w L L1)(k:New w1 L1 L2)(hs:w.heap.size<=w1.heap.size):New w L L2:=by
 obtain⟨M,rfl,hM⟩:=h;obtain⟨M',rfl,hM'⟩:=k;refine⟨M++M',by simp,?_⟩;intro x hx k hk;rw[List.mem_append] at hx
 rcases hx with hx | hx
 ·exact hM x hx k hk
 ·exact Nat.le_trans hs (hM' x hx k hk)
theorem New.snoc(h:New w L L1)(x:Pm)(hx:∀k,x.2.2.ownBlock=some k->w.heap.size<=k):New w L (L1++[x]):=by
 obtain⟨M,rfl,hM⟩:=h;refine⟨M++[x],by simp,?_⟩;intro y hy k hk;rw[List.mem_append] at hy
 rcases hy with hy | hy
 ·exact hM y hy k hk
 ·simp at hy;subst hy;exact hx k hk
namespace Stp
variable {R:Nat}{w w1 w2:World}{v v1 v2:Value}
theorem refl(R:Nat)(w:World)(v:Value):Stp R w v w v:=⟨Za.refl _ _,fun k hk _=>hk⟩
theorem trans(h:Stp R w v w1 v1)(k:Stp R w1 v1 w2 v2):Stp R w v w2 v2 :=
 ⟨h.keeps.trans' k.keeps (fun i hi he=>he.elim Or.inl (fun hb=>Or.inr (h.blk i hb hi))),
  fun i hi hlt=>h.blk i (k.blk i hi (Nat.lt_of_lt_of_le hlt h.keeps.size)) hlt⟩
variable {E:Nat->Prop}
theorem on(h:Stp R w v w1 v1)(k:Za E w1 w2)(hE:∀i,i<w.heap.size->E i->i=R):Stp R w v w2 v1 :=
 ⟨h.keeps.trans' k (fun i hi he=>Or.inl (hE i hi he)),h.blk⟩
end Stp
variable {E:Nat->Prop}
theorem Jl.byTypes{x:Pm}(h:Jl w x)(hk:Za E w w')(hE:∀k,E k->k<w.heap.size->∃cs t,w.heap[k]?=some (.cells cs t (0,0))/\t≠250/\t≠3):Jl w' x:=by
 refine⟨Zb h.1 hk ?_,Zb h.2 hk ?_⟩
 ·intro k hk1 he;obtain⟨cur,hh⟩:=Zx h.1 hk1;obtain⟨cs,t,h1,h2,_⟩:=hE k he (lt_of_block hh);rw[h1] at hh;simp at hh;exact h2 hh.2
 ·intro k hk1 he;obtain⟨cur,hh⟩:=Zx h.2 hk1;obtain⟨cs,t,h1,_,h3⟩:=hE k he (lt_of_block hh);rw[h1] at hh;simp at hh;exact h3 hh.2
namespace Sp
variable {w w':World}{R I:Nat}{s:ByteArray}{a b g a' b' g':Int}{v:Value}{L:List Pm}{S:Bs}
theorem Bw(h:Sp w R s a b g v L)(hI:In w I S)(hk:Za (Er R I) w w')(hr:Rd w' R s a' b' g' v):Sp w' R s a' b' g' v L:=by
 have hT:∀k,Er R I k->k<w.heap.size->∃cs t,w.heap[k]?=some (.cells cs t (0,0))/\t≠250/\t≠3:=by
  rintro k (rfl | rfl) _
  ·exact⟨_,_,h.rd,by decide,by decide⟩
  ·exact⟨_,_,hI,by decide,by decide⟩
 refine⟨hr,Zb h.row hk ?_,fun x hx=>(h.rows x hx).byTypes hk hT⟩;rintro k hk1 (rfl | rfl)
 ·exact Zi h.row h.rd (by decide) hk1
 ·exact Zi h.row hI (by decide) hk1
end Sp
def QM (ref:aS) (R:Nat) (s:ByteArray) (B:Nat) (w:World) (v:Value) (L:List Pm) (e:Ending) (w':World):Prop :=
 match ref with
 | .ok (f,q,g') =>∃v' L',e=.returned (.int .i64 ((L.length:Int)+(f L.length).length-1))/\Sp w' R s q (-1) g' v' L'/\L'.map (·.1)=L.map (·.1)++f L.length/\Stp R w v w' v'/\New w L L'
 | .error x =>∃r v' L',e=.returned (.int .i64 r)/\(∃a g,Sp w' R s a x g v' L')/\L'.length<=B/\Stp R w v w' v'/\New w L L'
variable {ref:aS}{L':List Pm}
theorem Qm{g:Int}(h:ref=.error x)(hS:Sp w' R s a x g v' L')(hB:L'.length<=B)(hst:Stp R w v w' v')(hn:New w L L'):
  QM ref R s B w v L (.returned (.int .i64 r)) w':=by
 unfold QM;rw[h];exact⟨r,v',L',rfl,⟨a,g,hS⟩,hB,hst,hn⟩
variable {f:Pf}
theorem Qi{q:Nat}(h:ref=.ok (f,q,g))(hS:Sp w' R s q (-1) g v' L')(hm:L'.map (·.1)=L.map (·.1)++f L.length)
  (hr:r=(L.length:Int)+(f L.length).length-1) (hst:Stp R w v w' v') (hn:New w L L') :
  QM ref R s B w v L (.returned (.int .i64 r)) w':=by
 unfold QM;rw[h];exact⟨v',L',by rw[hr],hS,hm,hst,hn⟩
theorem DV(w:World)(e size:Nat):w.ownsRow 0 e size (.slice none 0 0) 0 []:=World.ownsRow_nil _ _ _ _
theorem iM{g:Int}(S:Sp w1 R s a b g v1 L1)(x:Pm)(hx:Jl w1 x)(hL:L1.length<=100000)
  (hst:Stp R w v w1 v1) (hn:New w L L1) (wV:∀k,x.2.2.ownBlock=some k->w.heap.size<=k) :
  au 49 #[ae R,.agg #[.int .i64 x.1.kind,x.2.1,.int .i64 x.1.min,.int .i64 x.1.max,.bool x.1.lazy,.int .i64 x.1.num,x.2.2]] w1 fun e w2 =>
   e=.returned (.int .i64 L1.length)/\∃v2,Sp w2 R s a b g v2 (L1++[x])/\Stp R w v w2 v2/\New w L (L1++[x]):=by
 refine(Zs7 S x hx hL).mono ?_;rintro e w2 ⟨rfl,v2,hS,hk,hb⟩;exact⟨rfl,v2,hS,hst.trans ⟨hk,hb⟩,hn.snoc x wV⟩
theorem Sp.inc{g:Int}(h:Sp w R s p (-1) g v L):Sp (w.setCell ⟨R,1,none⟩ (.int .i64 ((p:Int)+1))) R s ((p+1:Nat):Int) (-1) g v L :=
 h.atR ((Za.refl (·=R) _).setCell (fun _=>rfl) _) (h.rd.set1 _)
theorem Q4(w:World)(R i:Nat)(u:Value):Za (·=R) w (w.setCell ⟨R,i,none⟩ u):=(Za.refl (·=R) _).setCell (fun _=>rfl) _
theorem Stp.bW(h:Stp R w v w1 v1)(k:Za (·=R) w1 w2):Stp R w v w2 v1:=h.on k (fun _ _ h=>h)
theorem Stp.same(h:Stp R w v w1 v1)(k:Za ai w1 w2):Stp R w v w2 v1:=h.on k (fun _ _ h=>h.elim)
def DW (kind:Int):Pc := { kind:=kind,set := [],min:=0,max:=0,lazy:=false,num:=0,kids := [] }
theorem UC(w:World)(kind:Int):Jl w (DW kind,.slice none 0 0,.slice none 0 0):=⟨DV _ _ _,DV _ _ _⟩
variable {S:Bs}
theorem IU{base:Nat}(h:w.ownsRow base 250 2 sv (Ja S).length (ZD (Ja S))):Jl w (lQ S,sv,.slice none 0 0) :=
 ⟨Zp h (fun _ _=>Nat.zero_le _),DV _ _ _⟩
theorem ZkF{alt:Nat->Nat->aS}{room:Bool}(S:Sp w R s p (-1) g v L)(hs:s.size<=120)(hp:p<s.size)(hL:L.length<=2000)(hB:L.length+1<=B)(hb:bt s p=94):
  au 92 #[ae R,.int .i64 deep] w (QM (Zd alt room s p g) R s B w v L):=by
 obtain⟨i0,hi,hz0,hz1,hz2⟩:=info_parts Tryz.aQ;have HE:Hid (Zd alt room s p g=.ok (QQ,p+1,g)):=by show _ = _;simp[Zd,hb]
 have c0:=S.rd.c0;have c1:=S.rd.c1;have hpz:(p:Int)<(s.size:Int):=by omega
 have hc:s[p].toNat=94:=by rw[<- hb,ZX hp]
 clear hb;go_enter Tryz.func92,Tryz.ntmps92;go_wp2;go_quiet (fail);have st:Stp R w v (w.drewN nq) v:=(Stp.refl _ _ _).same ((Za.refl _ _).drewN _);have S1:Sp (w.drewN nq) R s p (-1) g v L:=S.drewN nq;have fH:w.heap.size<=(w.drewN nq).heap.size:=Nat.le_refl _;clear c0 c1 S;generalize w.drewN nq=w1 at st S1 fH ⊢;go_wp2_with(first|(at_make;refine wpList_make_full _ rfl _ _ 74 rfl w1.heap.size 4 i0 (.bool false) 1 Tryz.underlying74 hi hz0 hz1 _ _ _ _ 256 rfl rfl rfl rfl (by rw[hz2];decide) (by unfold maxLen;omega) (Nat.le_refl _) ?_;intro w2 ho hg;replace st:=st.same ((Za.refl ai _).grown hg (by simp));have S2:=S1.same ((Za.refl ai _).grown hg (by simp));have hI2:=Qj ho;have c1:=S2.rd.c1;have f1:=S2.rd.fz 1)|(go_at_call 49;refine(iM (S2.inc) (DW 6,.slice none 0 0,.slice none 0 0) (UC _ _) (by omega) (st.bW (Q4 _ _ _ _)) (New.refl _ _) (by simp[Value.ownBlock])).mono ?_;rintro e w3 ⟨rfl,v3,S3,nO,vD⟩))
 go_ret;exact Qi HE.out S3 (by simp[QQ,DW]) (by simp[QQ]) nO vD
theorem Zqu{alt:Nat->Nat->aS}{room:Bool}(S:Sp w R s p (-1) g v L)(hs:s.size<=120)(hp:p<s.size)(hL:L.length<=2000)(hB:L.length+1<=B)(hb:bt s p=36):
  au 92 #[ae R,.int .i64 deep] w (QM (Zd alt room s p g) R s B w v L):=by
 obtain⟨i0,hi,hz0,hz1,hz2⟩:=info_parts Tryz.aQ;have HE:Hid (Zd alt room s p g=.ok (oh,p+1,g)):=by show _ = _;simp[Zd,hb]
 have c0:=S.rd.c0;have c1:=S.rd.c1;have hpz:(p:Int)<(s.size:Int):=by omega
 have hc:s[p].toNat=36:=by rw[<- hb,ZX hp]
 clear hb;go_enter Tryz.func92,Tryz.ntmps92;go_wp2;go_quiet (fail);have st:Stp R w v (w.drewN nq) v:=(Stp.refl _ _ _).same ((Za.refl _ _).drewN _);have S1:Sp (w.drewN nq) R s p (-1) g v L:=S.drewN nq;have fH:w.heap.size<=(w.drewN nq).heap.size:=Nat.le_refl _;clear c0 c1 S;generalize w.drewN nq=w1 at st S1 fH ⊢;go_wp2_with(first|(at_make;refine wpList_make_full _ rfl _ _ 74 rfl w1.heap.size 4 i0 (.bool false) 1 Tryz.underlying74 hi hz0 hz1 _ _ _ _ 256 rfl rfl rfl rfl (by rw[hz2];decide) (by unfold maxLen;omega) (Nat.le_refl _) ?_;intro w2 ho hg;replace st:=st.same ((Za.refl ai _).grown hg (by simp));have S2:=S1.same ((Za.refl ai _).grown hg (by simp));have hI2:=Qj ho;have c1:=S2.rd.c1;have f1:=S2.rd.fz 1)|(go_at_call 49;refine(iM (S2.inc) (DW 7,.slice none 0 0,.slice none 0 0) (UC _ _) (by omega) (st.bW (Q4 _ _ _ _)) (New.refl _ _) (by simp[Value.ownBlock])).mono ?_;rintro e w3 ⟨rfl,v3,S3,nO,vD⟩))
 go_ret;exact Qi HE.out S3 (by simp[oh,DW]) (by simp[oh]) nO vD
theorem ZsR{alt:Nat->Nat->aS}{room:Bool}(S:Sp w R s p (-1) g v L)(hs:s.size<=120)(hp:p<s.size)(hL:L.length<=2000)(hB:L.length+1<=B)(hb:bt s p=42):
  au 92 #[ae R,.int .i64 deep] w (QM (Zd alt room s p g) R s B w v L):=by
 obtain⟨i0,hi,hz0,hz1,hz2⟩:=info_parts Tryz.aQ;have HE:Hid (Zd alt room s p g=.error p):=by show _ = _;simp[Zd,hb]
 have c0:=S.rd.c0;have c1:=S.rd.c1;have hpz:(p:Int)<(s.size:Int):=by omega
 have hc:s[p].toNat=42:=by rw[<- hb,ZX hp]
 clear hb;go_enter Tryz.func92,Tryz.ntmps92;go_wp2;go_quiet (fail);have st:Stp R w v (w.drewN nq) v:=(Stp.refl _ _ _).same ((Za.refl _ _).drewN _);have S1:Sp (w.drewN nq) R s p (-1) g v L:=S.drewN nq;have fH:w.heap.size<=(w.drewN nq).heap.size:=Nat.le_refl _;clear c0 c1 S;generalize w.drewN nq=w1 at st S1 fH ⊢;go_wp2_with(first|(at_make;refine wpList_make_full _ rfl _ _ 74 rfl w1.heap.size 4 i0 (.bool false) 1 Tryz.underlying74 hi hz0 hz1 _ _ _ _ 256 rfl rfl rfl rfl (by rw[hz2];decide) (by unfold maxLen;omega) (Nat.le_refl _) ?_;intro w2 ho hg;replace st:=st.same ((Za.refl ai _).grown hg (by simp));have S2:=S1.same ((Za.refl ai _).grown hg (by simp));have hI2:=Qj ho;have c1:=S2.rd.c1;have f1:=S2.rd.fz 1)|(go_at_call 28;refine(lX ⟨S2.rd⟩).mono ?_;rintro e w3 ⟨rfl,hB3,hk⟩))
 go_ret;obtain⟨a3,g3,r3⟩:=hB3.rd;exact Qm HE.out (S2.atR hk r3) (by omega) (st.bW hk) (New.refl _ _)
theorem ZsQ{alt:Nat->Nat->aS}{room:Bool}(S:Sp w R s p (-1) g v L)(hs:s.size<=120)(hp:p<s.size)(hL:L.length<=2000)(hB:L.length+1<=B)(hb:bt s p=43):
  au 92 #[ae R,.int .i64 deep] w (QM (Zd alt room s p g) R s B w v L):=by
 obtain⟨i0,hi,hz0,hz1,hz2⟩:=info_parts Tryz.aQ;have HE:Hid (Zd alt room s p g=.error p):=by show _ = _;simp[Zd,hb]
 have c0:=S.rd.c0;have c1:=S.rd.c1;have hpz:(p:Int)<(s.size:Int):=by omega
 have hc:s[p].toNat=43:=by rw[<- hb,ZX hp]
 clear hb;go_enter Tryz.func92,Tryz.ntmps92;go_wp2;go_quiet (fail);have st:Stp R w v (w.drewN nq) v:=(Stp.refl _ _ _).same ((Za.refl _ _).drewN _);have S1:Sp (w.drewN nq) R s p (-1) g v L:=S.drewN nq;have fH:w.heap.size<=(w.drewN nq).heap.size:=Nat.le_refl _;clear c0 c1 S;generalize w.drewN nq=w1 at st S1 fH ⊢;go_wp2_with(first|(at_make;refine wpList_make_full _ rfl _ _ 74 rfl w1.heap.size 4 i0 (.bool false) 1 Tryz.underlying74 hi hz0 hz1 _ _ _ _ 256 rfl rfl rfl rfl (by rw[hz2];decide) (by unfold maxLen;omega) (Nat.le_refl _) ?_;intro w2 ho hg;replace st:=st.same ((Za.refl ai _).grown hg (by simp));have S2:=S1.same ((Za.refl ai _).grown hg (by simp));have hI2:=Qj ho;have c1:=S2.rd.c1;have f1:=S2.rd.fz 1)|(go_at_call 28;refine(lX ⟨S2.rd⟩).mono ?_;rintro e w3 ⟨rfl,hB3,hk⟩))
 go_ret;obtain⟨a3,g3,r3⟩:=hB3.rd;exact Qm HE.out (S2.atR hk r3) (by omega) (st.bW hk) (New.refl _ _)
theorem ZsP{alt:Nat->Nat->aS}{room:Bool}(S:Sp w R s p (-1) g v L)(hs:s.size<=120)(hp:p<s.size)(hL:L.length<=2000)(hB:L.length+1<=B)(hb:bt s p=63):
  au 92 #[ae R,.int .i64 deep] w (QM (Zd alt room s p g) R s B w v L):=by
 obtain⟨i0,hi,hz0,hz1,hz2⟩:=info_parts Tryz.aQ;have HE:Hid (Zd alt room s p g=.error p):=by show _ = _;simp[Zd,hb]
 have c0:=S.rd.c0;have c1:=S.rd.c1;have hpz:(p:Int)<(s.size:Int):=by omega
 have hc:s[p].toNat=63:=by rw[<- hb,ZX hp]
 clear hb;go_enter Tryz.func92,Tryz.ntmps92;go_wp2;go_quiet (fail);have st:Stp R w v (w.drewN nq) v:=(Stp.refl _ _ _).same ((Za.refl _ _).drewN _);have S1:Sp (w.drewN nq) R s p (-1) g v L:=S.drewN nq;have fH:w.heap.size<=(w.drewN nq).heap.size:=Nat.le_refl _;clear c0 c1 S;generalize w.drewN nq=w1 at st S1 fH ⊢;go_wp2_with(first|(at_make;refine wpList_make_full _ rfl _ _ 74 rfl w1.heap.size 4 i0 (.bool false) 1 Tryz.underlying74 hi hz0 hz1 _ _ _ _ 256 rfl rfl rfl rfl (by rw[hz2];decide) (by unfold maxLen;omega) (Nat.le_refl _) ?_;intro w2 ho hg;replace st:=st.same ((Za.refl ai _).grown hg (by simp));have S2:=S1.same ((Za.refl ai _).grown hg (by simp));have hI2:=Qj ho;have c1:=S2.rd.c1;have f1:=S2.rd.fz 1)|(go_at_call 28;refine(lX ⟨S2.rd⟩).mono ?_;rintro e w3 ⟨rfl,hB3,hk⟩))
 go_ret;obtain⟨a3,g3,r3⟩:=hB3.rd;exact Qm HE.out (S2.atR hk r3) (by omega) (st.bW hk) (New.refl _ _)
theorem ZsO{alt:Nat->Nat->aS}{room:Bool}(S:Sp w R s p (-1) g v L)(hs:s.size<=120)(hp:p<s.size)(hL:L.length<=2000)(hB:L.length+1<=B)(hb:bt s p=123):
  au 92 #[ae R,.int .i64 deep] w (QM (Zd alt room s p g) R s B w v L):=by
 obtain⟨i0,hi,hz0,hz1,hz2⟩:=info_parts Tryz.aQ;have HE:Hid (Zd alt room s p g=.error p):=by show _ = _;simp[Zd,hb]
 have c0:=S.rd.c0;have c1:=S.rd.c1;have hpz:(p:Int)<(s.size:Int):=by omega
 have hc:s[p].toNat=123:=by rw[<- hb,ZX hp]
 clear hb;go_enter Tryz.func92,Tryz.ntmps92;go_wp2;go_quiet (fail);have st:Stp R w v (w.drewN nq) v:=(Stp.refl _ _ _).same ((Za.refl _ _).drewN _);have S1:Sp (w.drewN nq) R s p (-1) g v L:=S.drewN nq;have fH:w.heap.size<=(w.drewN nq).heap.size:=Nat.le_refl _;clear c0 c1 S;generalize w.drewN nq=w1 at st S1 fH ⊢;go_wp2_with(first|(at_make;refine wpList_make_full _ rfl _ _ 74 rfl w1.heap.size 4 i0 (.bool false) 1 Tryz.underlying74 hi hz0 hz1 _ _ _ _ 256 rfl rfl rfl rfl (by rw[hz2];decide) (by unfold maxLen;omega) (Nat.le_refl _) ?_;intro w2 ho hg;replace st:=st.same ((Za.refl ai _).grown hg (by simp));have S2:=S1.same ((Za.refl ai _).grown hg (by simp));have hI2:=Qj ho;have c1:=S2.rd.c1;have f1:=S2.rd.fz 1)|(go_at_call 28;refine(lX ⟨S2.rd⟩).mono ?_;rintro e w3 ⟨rfl,hB3,hk⟩))
 go_ret;obtain⟨a3,g3,r3⟩:=hB3.rd;exact Qm HE.out (S2.atR hk r3) (by omega) (st.bW hk) (New.refl _ _)
theorem ZsN{alt:Nat->Nat->aS}{room:Bool}(S:Sp w R s p (-1) g v L)(hs:s.size<=120)(hp:p<s.size)(hL:L.length<=2000)(hB:L.length+1<=B)(hb:bt s p=125):
  au 92 #[ae R,.int .i64 deep] w (QM (Zd alt room s p g) R s B w v L):=by
 obtain⟨i0,hi,hz0,hz1,hz2⟩:=info_parts Tryz.aQ;have HE:Hid (Zd alt room s p g=.error p):=by show _ = _;simp[Zd,hb]
 have c0:=S.rd.c0;have c1:=S.rd.c1;have hpz:(p:Int)<(s.size:Int):=by omega
 have hc:s[p].toNat=125:=by rw[<- hb,ZX hp]
 clear hb;go_enter Tryz.func92,Tryz.ntmps92;go_wp2;go_quiet (fail);have st:Stp R w v (w.drewN nq) v:=(Stp.refl _ _ _).same ((Za.refl _ _).drewN _);have S1:Sp (w.drewN nq) R s p (-1) g v L:=S.drewN nq;have fH:w.heap.size<=(w.drewN nq).heap.size:=Nat.le_refl _;clear c0 c1 S;generalize w.drewN nq=w1 at st S1 fH ⊢;go_wp2_with(first|(at_make;refine wpList_make_full _ rfl _ _ 74 rfl w1.heap.size 4 i0 (.bool false) 1 Tryz.underlying74 hi hz0 hz1 _ _ _ _ 256 rfl rfl rfl rfl (by rw[hz2];decide) (by unfold maxLen;omega) (Nat.le_refl _) ?_;intro w2 ho hg;replace st:=st.same ((Za.refl ai _).grown hg (by simp));have S2:=S1.same ((Za.refl ai _).grown hg (by simp));have hI2:=Qj ho;have c1:=S2.rd.c1;have f1:=S2.rd.fz 1)|(go_at_call 28;refine(lX ⟨S2.rd⟩).mono ?_;rintro e w3 ⟨rfl,hB3,hk⟩))
 go_ret;obtain⟨a3,g3,r3⟩:=hB3.rd;exact Qm HE.out (S2.atR hk r3) (by omega) (st.bW hk) (New.refl _ _)
theorem ZsM{alt:Nat->Nat->aS}{room:Bool}(S:Sp w R s p (-1) g v L)(hs:s.size<=120)(hp:p<s.size)(hL:L.length<=2000)(hB:L.length+1<=B)(hb:bt s p=93):
  au 92 #[ae R,.int .i64 deep] w (QM (Zd alt room s p g) R s B w v L):=by
 obtain⟨i0,hi,hz0,hz1,hz2⟩:=info_parts Tryz.aQ;have HE:Hid (Zd alt room s p g=.error p):=by show _ = _;simp[Zd,hb]
 have c0:=S.rd.c0;have c1:=S.rd.c1;have hpz:(p:Int)<(s.size:Int):=by omega
 have hc:s[p].toNat=93:=by rw[<- hb,ZX hp]
 clear hb;go_enter Tryz.func92,Tryz.ntmps92;go_wp2;go_quiet (fail);have st:Stp R w v (w.drewN nq) v:=(Stp.refl _ _ _).same ((Za.refl _ _).drewN _);have S1:Sp (w.drewN nq) R s p (-1) g v L:=S.drewN nq;have fH:w.heap.size<=(w.drewN nq).heap.size:=Nat.le_refl _;clear c0 c1 S;generalize w.drewN nq=w1 at st S1 fH ⊢;go_wp2_with(first|(at_make;refine wpList_make_full _ rfl _ _ 74 rfl w1.heap.size 4 i0 (.bool false) 1 Tryz.underlying74 hi hz0 hz1 _ _ _ _ 256 rfl rfl rfl rfl (by rw[hz2];decide) (by unfold maxLen;omega) (Nat.le_refl _) ?_;intro w2 ho hg;replace st:=st.same ((Za.refl ai _).grown hg (by simp));have S2:=S1.same ((Za.refl ai _).grown hg (by simp));have hI2:=Qj ho;have c1:=S2.rd.c1;have f1:=S2.rd.fz 1)|(go_at_call 28;refine(lX ⟨S2.rd⟩).mono ?_;rintro e w3 ⟨rfl,hB3,hk⟩))
 go_ret;obtain⟨a3,g3,r3⟩:=hB3.rd;exact Qm HE.out (S2.atR hk r3) (by omega) (st.bW hk) (New.refl _ _)
theorem Sp.R5{I:Nat}{g:Int}(h:Sp w R s a b g v L)(hI:In w I S)(hk:Za (·=I) w w'):Sp w' R s a b g v L :=
 h.Bw hI (hk.mono fun _ _ h=>Or.inr h) (h.rd.keeps hk (by rintro rfl;have h1:=h.rd;have h2:=hI;unfold Rd at h1;unfold In at h2;rw[h1] at h2;simp at h2))
theorem Zqv{alt:Nat->Nat->aS}{room:Bool}(S:Sp w R s p (-1) g v L)(hs:s.size<=120)(hp:p<s.size)(hL:L.length<=2000)(hB:L.length+1<=B)(hb:bt s p=46):
  au 92 #[ae R,.int .i64 deep] w (QM (Zd alt room s p g) R s B w v L):=by
 obtain⟨i0,hi,hz0,hz1,hz2⟩:=info_parts Tryz.aQ;have HE:Hid (Zd alt room s p g=.ok (Qy dot,p+1,g)):=by show _ = _;simp[Zd,hb]
 have c0:=S.rd.c0;have c1:=S.rd.c1;have hpz:(p:Int)<(s.size:Int):=by omega
 have hc:s[p].toNat=46:=by rw[<- hb,ZX hp]
 clear hb;go_enter Tryz.func92,Tryz.ntmps92;go_wp2;go_quiet (fail);have st:Stp R w v (w.drewN nq) v:=(Stp.refl _ _ _).same ((Za.refl _ _).drewN _);have S1:Sp (w.drewN nq) R s p (-1) g v L:=S.drewN nq;have fH:w.heap.size<=(w.drewN nq).heap.size:=Nat.le_refl _;clear c0 c1 S;generalize w.drewN nq=w1 at st S1 fH ⊢;go_wp2_with(first|(at_make;refine wpList_make_full _ rfl _ _ 74 rfl w1.heap.size 4 i0 (.bool false) 1 Tryz.underlying74 hi hz0 hz1 _ _ _ _ 256 rfl rfl rfl rfl (by rw[hz2];decide) (by unfold maxLen;omega) (Nat.le_refl _) ?_;intro w2 ho hg;replace st:=st.same ((Za.refl ai _).grown hg (by simp));have S2:=S1.same ((Za.refl ai _).grown hg (by simp));have hI2:=Qj ho;have c1:=S2.rd.c1;have f1:=S2.rd.fz 1)|(go_at_call 121;refine(Mv hI2 _ _ (by omega) (by omega) (by omega) (by omega)).mono ?_;rintro e w3 ⟨rfl,yX,hk3⟩;have S3:=S2.R5 hI2 hk3;have nO:=st.on hk3 (fun i hi' h=>by omega);have d1:=yX.cell (x:=10) (by omega);have d2:=yX.fz 10;have kI:Za (·=w1.heap.size) w3 (w3.setCell ⟨w1.heap.size,10,none⟩ (.bool false)):=(Za.refl (·=w1.heap.size) _).setCell (fun _=>rfl) _;have Cc:=S3.R5 yX kI;have c2:=Cc.rd.c1;have f2:=Cc.rd.fz 1;have S4:=Cc.inc;have aU:=(nO.on kI (fun i hi' h=>by omega)).bW (Q4 _ R 1 (.int .i64 ((p:Int)+1)));have xE:=(yX.set 10 false).keeps (Q4 _ R 1 (.int .i64 ((p:Int)+1))) (fun h=>by have:=S1.rd.lt;omega))|(go_at_call 123;refine(Eh xE).mono ?_;rintro e w5 ⟨sv,rfl,hown,hk5⟩;obtain⟨ao,cap,rfl⟩:=aj hown)|(go_at_call 49;refine(iM (S4.same hk5) (lQ _,.slice ao _ cap,.slice none 0 0) (IU hown) (by omega) (aU.same hk5) (New.refl _ _) (by simp[Value.ownBlock])).mono ?_;rintro e w6 ⟨rfl,v6,S6,dI,dR⟩))
 go_ret;refine Qi HE.out S6 ?_ (by simp[Qy]) dI dR;rw[List.map_append]
 congr 1
theorem ZnF{alt:Nat->Nat->aS}{room:Bool}(S:Sp w R s p (-1) g v L)(hs:s.size<=120)(hp:p<s.size)(hL:L.length<=2000)(hB:L.length+1<=B)(hb:(bt s p≠40/\bt s p≠91/\bt s p≠94/\bt s p≠36/\bt s p≠46/\bt s p≠92)/\bt s p≠42/\bt s p≠43/\bt s p≠63/\bt s p≠123/\bt s p≠125/\bt s p≠93):
  au 92 #[ae R,.int .i64 deep] w (QM (Zd alt room s p g) R s B w v L):=by
 obtain⟨i0,hi,hz0,hz1,hz2⟩:=info_parts Tryz.aQ;have HE:Hid (Zd alt room s p g=.ok (Qy (one (bt s p)),p+1,g)):=by
  show _ = _;unfold Zd;rw[if_neg (by omega),if_neg (by omega),if_neg (by omega),if_neg (by omega),if_neg (by omega),if_neg (by omega),if_neg (by omega)]
 have c0:=S.rd.c0;have c1:=S.rd.c1;have hpz:(p:Int)<(s.size:Int):=by omega
 have hc:s[p].toNat=bt s p:=(ZX hp).symm;have hcl:=Jh hp;obtain⟨c,hcc⟩:∃c,bt s p=c:=⟨_,rfl⟩;rw[hcc] at HE hb hc hcl;obtain⟨⟨n1,n2,n3,n4,n5,n6⟩,n7,n8,n9,n10,n11,n12⟩:=hb;have hcz:(c:Int)<256:=by omega
 clear hcc;go_enter Tryz.func92,Tryz.ntmps92;go_wp2;go_quiet (fail);have st:Stp R w v (w.drewN nq) v:=(Stp.refl _ _ _).same ((Za.refl _ _).drewN _);have S1:Sp (w.drewN nq) R s p (-1) g v L:=S.drewN nq;have fH:w.heap.size<=(w.drewN nq).heap.size:=Nat.le_refl _;clear c0 c1 S;generalize w.drewN nq=w1 at st S1 fH ⊢;go_wp2_with(first|(at_make;refine wpList_make_full _ rfl _ _ 74 rfl w1.heap.size 4 i0 (.bool false) 1 Tryz.underlying74 hi hz0 hz1 _ _ _ _ 256 rfl rfl rfl rfl (by rw[hz2];decide) (by unfold maxLen;omega) (Nat.le_refl _) ?_;intro w2 ho hg;replace st:=st.same ((Za.refl ai _).grown hg (by simp));have S2:=S1.same ((Za.refl ai _).grown hg (by simp));have hI2:=Qj ho;have c1:=S2.rd.c1;have f1:=S2.rd.fz 1;have d1:=hI2.cell hcl;have d2:=hI2.fz c;have kI:Za (·=w1.heap.size) w2 (w2.setCell ⟨w1.heap.size,c,none⟩ (.bool true)):=(Za.refl (·=w1.heap.size) _).setCell (fun _=>rfl) _;have Cc:=S2.R5 hI2 kI;have c2:=Cc.rd.c1;have f2:=Cc.rd.fz 1;have S4:=Cc.inc;have aU:=(st.on kI (fun i hi' h=>by omega)).bW (Q4 _ R 1 (.int .i64 ((p:Int)+1)));have xE:=(hI2.gM c).keeps (Q4 _ R 1 (.int .i64 ((p:Int)+1))) (fun h=>by have:=S1.rd.lt;omega))|(go_at_call 123;refine(Eh xE).mono ?_;rintro e w5 ⟨sv,rfl,hown,hk5⟩;obtain⟨ao,cap,rfl⟩:=aj hown)|(go_at_call 49;refine(iM (S4.same hk5) (lQ _,.slice ao _ cap,.slice none 0 0) (IU hown) (by omega) (aU.same hk5) (New.refl _ _) (by simp[Value.ownBlock])).mono ?_;rintro e w6 ⟨rfl,v6,S6,dI,dR⟩))
 go_ret;refine Qi HE.out S6 ?_ (by simp[Qy]) dI dR;have e2:Ja (un J3 (one c))=Ja (one c):=Zbs _ (fun x _=>by simp[un,J3]);simp[Qy,lQ,e2]
variable {T:Bs}
theorem Zqt{alt:Nat->Nat->aS}{room:Bool}(S:Sp w R s p (-1) g v L)(hs:s.size<=120)(hp:p<s.size)(hL:L.length<=2000)(hB:L.length+1<=B)(hb:bt s p=92){o:Option Nat}{q:Nat}(he:Zt s (p+1)=.ok (T,o,q)):
  au 92 #[ae R,.int .i64 deep] w (QM (Zd alt room s p g) R s B w v L):=by
 obtain⟨i0,hi,hz0,hz1,hz2⟩:=info_parts Tryz.aQ;have HE:Hid (Zd alt room s p g=.ok (Qy T,q,g)):=by show _ = _;simp[Zd,hb,he]
 have HX:Hid (Zt s (p+1)=.ok (T,o,q)):=he;clear he;have c0:=S.rd.c0;have c1:=S.rd.c1;have hpz:(p:Int)<(s.size:Int):=by omega
 have hc:s[p].toNat=92:=by rw[<- hb,ZX hp]
 clear hb;go_enter Tryz.func92,Tryz.ntmps92;go_wp2;go_quiet (fail);have st:Stp R w v (w.drewN nq) v:=(Stp.refl _ _ _).same ((Za.refl _ _).drewN _);have S1:Sp (w.drewN nq) R s p (-1) g v L:=S.drewN nq;have fH:w.heap.size<=(w.drewN nq).heap.size:=Nat.le_refl _;clear c0 c1 S;generalize w.drewN nq=w1 at st S1 fH ⊢;go_wp2_with(first|(at_make;refine wpList_make_full _ rfl _ _ 74 rfl w1.heap.size 4 i0 (.bool false) 1 Tryz.underlying74 hi hz0 hz1 _ _ _ _ 256 rfl rfl rfl rfl (by rw[hz2];decide) (by unfold maxLen;omega) (Nat.le_refl _) ?_;intro w2 ho hg;replace st:=st.same ((Za.refl ai _).grown hg (by simp));have S2:=S1.same ((Za.refl ai _).grown hg (by simp));have hI2:=Qj ho;have c1:=S2.rd.c1;have f1:=S2.rd.fz 1)|(go_at_call 122;refine(SS ⟨S2.inc.rd⟩ (hI2.keeps (Q4 _ _ _ _) (fun h=>by have:=S1.rd.lt;omega)) (by have:=S1.rd.lt;omega) hs HX.out).mono ?_;rintro e w4 ⟨rfl,hO4,xE,hk4⟩;have S4:=S2.inc.Bw (hI2.keeps (Q4 _ _ _ _) (fun h=>by have:=S1.rd.lt;omega)) hk4 hO4.rd;have aU:=(st.bW (Q4 w2 R 1 (.int .i64 ((p:Int)+1)))).on hk4 (fun i hi' h=>h.elim id (fun h=>by omega)))|(go_at_call 123;refine(Eh xE).mono ?_;rintro e w5 ⟨sv,rfl,hown,hk5⟩;obtain⟨ao,cap,rfl⟩:=aj hown)|(go_at_call 49;refine(iM (S4.same hk5) (lQ _,.slice ao _ cap,.slice none 0 0) (IU hown) (by omega) (aU.same hk5) (New.refl _ _) (by simp[Value.ownBlock])).mono ?_;rintro e w6 ⟨rfl,v6,S6,dI,dR⟩))
 go_ret;refine Qi HE.out S6 ?_ (by simp[Qy]) dI dR;have e2:Ja (un J3 T)=Ja T:=Zbs _ (fun x _=>by simp[un,J3]);simp[Qy,lQ,e2]
theorem Zib{alt:Nat->Nat->aS}{room:Bool}(S:Sp w R s p (-1) g v L)(hs:s.size<=120)(hp:p<s.size)(hL:L.length<=2000)(hB:L.length+1<=B)(hb:bt s p=92)(he:Zt s (p+1)=.error x):
  au 92 #[ae R,.int .i64 deep] w (QM (Zd alt room s p g) R s B w v L):=by
 obtain⟨i0,hi,hz0,hz1,hz2⟩:=info_parts Tryz.aQ;have HE:Hid (Zd alt room s p g=.error x):=by show _ = _;simp[Zd,hb,he]
 have HX:Hid (Zt s (p+1)=.error x):=he;clear he;have c0:=S.rd.c0;have c1:=S.rd.c1;have hpz:(p:Int)<(s.size:Int):=by omega
 have hc:s[p].toNat=92:=by rw[<- hb,ZX hp]
 clear hb;go_enter Tryz.func92,Tryz.ntmps92;go_wp2;go_quiet (fail);have st:Stp R w v (w.drewN nq) v:=(Stp.refl _ _ _).same ((Za.refl _ _).drewN _);have S1:Sp (w.drewN nq) R s p (-1) g v L:=S.drewN nq;have fH:w.heap.size<=(w.drewN nq).heap.size:=Nat.le_refl _;clear c0 c1 S;generalize w.drewN nq=w1 at st S1 fH ⊢;go_wp2_with(first|(at_make;refine wpList_make_full _ rfl _ _ 74 rfl w1.heap.size 4 i0 (.bool false) 1 Tryz.underlying74 hi hz0 hz1 _ _ _ _ 256 rfl rfl rfl rfl (by rw[hz2];decide) (by unfold maxLen;omega) (Nat.le_refl _) ?_;intro w2 ho hg;replace st:=st.same ((Za.refl ai _).grown hg (by simp));have S2:=S1.same ((Za.refl ai _).grown hg (by simp));have hI2:=Qj ho;have c1:=S2.rd.c1;have f1:=S2.rd.fz 1)|(go_at_call 122;refine(SQ ⟨S2.inc.rd⟩ (hI2.keeps (Q4 _ _ _ _) (fun h=>by have:=S1.rd.lt;omega)) (by have:=S1.rd.lt;omega) hs HX.out).mono ?_;rintro e w4 ⟨rfl,hB4,Rh,hk4⟩;obtain⟨T,xE⟩:=Rh;obtain⟨a4,g4,r4⟩:=hB4.rd;have S4:=S2.inc.Bw (hI2.keeps (Q4 _ _ _ _) (fun h=>by have:=S1.rd.lt;omega)) hk4 r4;have aU:=(st.bW (Q4 w2 R 1 (.int .i64 ((p:Int)+1)))).on hk4 (fun i hi' h=>h.elim id (fun h=>by omega)))|(go_at_call 123;refine(Eh xE).mono ?_;rintro e w5 ⟨sv,rfl,hown,hk5⟩;obtain⟨ao,cap,rfl⟩:=aj hown)|(go_at_call 49;refine(iM (S4.same hk5) (lQ _,.slice ao _ cap,.slice none 0 0) (IU hown) (by omega) (aU.same hk5) (New.refl _ _) (by simp[Value.ownBlock])).mono ?_;rintro e w6 ⟨rfl,v6,S6,dI,dR⟩))
 go_ret;exact Qm HE.out S6 (by simp;omega) dI dR
section
variable {w:World}{R p x:Nat}{s:ByteArray}{g:Int}{v:Value}
theorem Zua(hR:Ok w R s p g v)(hs:s.size<=120)(hp:p<=s.size){q:Nat}(h:Zq s p=.ok (S,q)):
  au 120 #[ae R] w fun e w' =>∃sv,e=.returned sv/\Ok w' R s q g v/\w'.ownsRow w.heap.size 250 2 sv (Ja S).length (ZD (Ja S))/\Za (·=R) w w' :=
 (ZgN hR hs hp).mono fun e w' hn=>by unfold BO at hn;rw[h] at hn;exact hn
theorem Zub(hR:Ok w R s p g v)(hs:s.size<=120)(hp:p<=s.size)(h:Zq s p=.error x):
  au 120 #[ae R] w fun e w'=>e=.returned (.slice none 0 0)/\jA w' R s x v/\Za (·=R) w w' :=
 (ZgN hR hs hp).mono fun e w' hn=>by unfold BO at hn;rw[h] at hn;exact hn
end
theorem Zqr{alt:Nat->Nat->aS}{room:Bool}(S:Sp w R s p (-1) g v L)(hs:s.size<=120)(hp:p<s.size)(hL:L.length<=2000)(hB:L.length+1<=B)(hb:bt s p=91){q:Nat}(he:Zq s (p+1)=.ok (T,q)):
  au 92 #[ae R,.int .i64 deep] w (QM (Zd alt room s p g) R s B w v L):=by
 obtain⟨i0,hi,hz0,hz1,hz2⟩:=info_parts Tryz.aQ;have HE:Hid (Zd alt room s p g=.ok (Qy T,q,g)):=by show _ = _;simp[Zd,hb,he]
 have HX:Hid (Zq s (p+1)=.ok (T,q)):=he;clear he;have c0:=S.rd.c0;have c1:=S.rd.c1;have hpz:(p:Int)<(s.size:Int):=by omega
 have hc:s[p].toNat=91:=by rw[<- hb,ZX hp]
 clear hb;go_enter Tryz.func92,Tryz.ntmps92;go_wp2;go_quiet (fail);have st:Stp R w v (w.drewN nq) v:=(Stp.refl _ _ _).same ((Za.refl _ _).drewN _);have S1:Sp (w.drewN nq) R s p (-1) g v L:=S.drewN nq;have fH:w.heap.size<=(w.drewN nq).heap.size:=Nat.le_refl _;clear c0 c1 S;generalize w.drewN nq=w1 at st S1 fH ⊢;go_wp2_with(first|(at_make;refine wpList_make_full _ rfl _ _ 74 rfl w1.heap.size 4 i0 (.bool false) 1 Tryz.underlying74 hi hz0 hz1 _ _ _ _ 256 rfl rfl rfl rfl (by rw[hz2];decide) (by unfold maxLen;omega) (Nat.le_refl _) ?_;intro w2 ho hg;replace st:=st.same ((Za.refl ai _).grown hg (by simp));have S2:=S1.same ((Za.refl ai _).grown hg (by simp));have hI2:=Qj ho;have c1:=S2.rd.c1;have f1:=S2.rd.fz 1)|(go_at_call 120;refine(Zua ⟨S2.inc.rd⟩ hs (by omega) HX.out).mono ?_;rintro e w4 ⟨sv,rfl,hO4,hown,hk4⟩;obtain⟨ao,cap,rfl⟩:=aj hown;have S4:=S2.inc.atR hk4 hO4.rd;have aU:=(st.bW (Q4 w2 R 1 (.int .i64 ((p:Int)+1)))).bW hk4)|(go_at_call 49;refine(iM S4 (lQ _,.slice ao _ cap,.slice none 0 0) (IU hown) (by omega) aU (New.refl _ _) (by simp[Value.ownBlock])).mono ?_;rintro e w6 ⟨rfl,v6,S6,dI,dR⟩))
 go_ret;exact Qi HE.out S6 (by simp[Qy]) (by simp[Qy]) dI dR
theorem Zia{alt:Nat->Nat->aS}{room:Bool}(S:Sp w R s p (-1) g v L)(hs:s.size<=120)(hp:p<s.size)(hL:L.length<=2000)(hB:L.length+1<=B)(hb:bt s p=91)(he:Zq s (p+1)=.error x):
  au 92 #[ae R,.int .i64 deep] w (QM (Zd alt room s p g) R s B w v L):=by
 obtain⟨i0,hi,hz0,hz1,hz2⟩:=info_parts Tryz.aQ;have HE:Hid (Zd alt room s p g=.error x):=by show _ = _;simp[Zd,hb,he]
 have HX:Hid (Zq s (p+1)=.error x):=he;clear he;have c0:=S.rd.c0;have c1:=S.rd.c1;have hpz:(p:Int)<(s.size:Int):=by omega
 have hc:s[p].toNat=91:=by rw[<- hb,ZX hp]
 clear hb;go_enter Tryz.func92,Tryz.ntmps92;go_wp2;go_quiet (fail);have st:Stp R w v (w.drewN nq) v:=(Stp.refl _ _ _).same ((Za.refl _ _).drewN _);have S1:Sp (w.drewN nq) R s p (-1) g v L:=S.drewN nq;have fH:w.heap.size<=(w.drewN nq).heap.size:=Nat.le_refl _;clear c0 c1 S;generalize w.drewN nq=w1 at st S1 fH ⊢;go_wp2_with(first|(at_make;refine wpList_make_full _ rfl _ _ 74 rfl w1.heap.size 4 i0 (.bool false) 1 Tryz.underlying74 hi hz0 hz1 _ _ _ _ 256 rfl rfl rfl rfl (by rw[hz2];decide) (by unfold maxLen;omega) (Nat.le_refl _) ?_;intro w2 ho hg;replace st:=st.same ((Za.refl ai _).grown hg (by simp));have S2:=S1.same ((Za.refl ai _).grown hg (by simp));have hI2:=Qj ho;have c1:=S2.rd.c1;have f1:=S2.rd.fz 1)|(go_at_call 120;refine(Zub ⟨S2.inc.rd⟩ hs (by omega) HX.out).mono ?_;rintro e w4 ⟨rfl,hB4,hk4⟩;obtain⟨a4,g4,r4⟩:=hB4.rd;have S4:=S2.inc.atR hk4 r4;have aU:=(st.bW (Q4 w2 R 1 (.int .i64 ((p:Int)+1)))).bW hk4)|(go_at_call 49;refine(iM S4 (DW 1,.slice none 0 0,.slice none 0 0) (UC _ _) (by omega) aU (New.refl _ _) (by simp[Value.ownBlock])).mono ?_;rintro e w6 ⟨rfl,v6,S6,dI,dR⟩))
 go_ret;exact Qm HE.out S6 (by simp;omega) dI dR
theorem ZkG{alt:Nat->Nat->aS}{room:Bool}(S:Sp w R s p (-1) g v L)(hs:s.size<=120)(hp:p<s.size)(hL:L.length<=2000)(hB:L.length+1<=B)(hb:bt s p=40)(he:g=9\/room=false)(hroom:room=false->deep=6):
  au 92 #[ae R,.int .i64 deep] w (QM (Zd alt room s p g) R s B w v L):=by
 obtain⟨i0,hi,hz0,hz1,hz2⟩:=info_parts Tryz.aQ;have HE:Hid (Zd alt room s p g=.error p):=by show _ = _;unfold Zd;rw[if_pos hb,if_pos he]
 have c0:=S.rd.c0;have c1:=S.rd.c1;have hno:g=9\/(g≠9/\deep=6):=by
  by_cases e:g=9
  ·exact Or.inl e
  ·exact Or.inr ⟨e,hroom (he.resolve_left e)⟩
 clear he hroom;have hpz:(p:Int)<(s.size:Int):=by omega
 have hc:s[p].toNat=40:=by rw[<- hb,ZX hp]
 clear hb;go_enter Tryz.func92,Tryz.ntmps92;go_wp2;go_quiet (fail);have st:Stp R w v (w.drewN nq) v:=(Stp.refl _ _ _).same ((Za.refl _ _).drewN _);have S1:Sp (w.drewN nq) R s p (-1) g v L:=S.drewN nq;have fH:w.heap.size<=(w.drewN nq).heap.size:=Nat.le_refl _;clear c0 c1 S;generalize w.drewN nq=w1 at st S1 fH ⊢
 rcases hno with rfl | ⟨dH,rfl⟩
 ·go_wp2_with(first|(at_make;refine wpList_make_full _ rfl _ _ 74 rfl w1.heap.size 4 i0 (.bool false) 1 Tryz.underlying74 hi hz0 hz1 _ _ _ _ 256 rfl rfl rfl rfl (by rw[hz2];decide) (by unfold maxLen;omega) (Nat.le_refl _) ?_;intro w2 ho hg;replace st:=st.same ((Za.refl ai _).grown hg (by simp));have S2:=S1.same ((Za.refl ai _).grown hg (by simp));have hI2:=Qj ho;have c1:=S2.rd.c1;have f1:=S2.rd.fz 1;have c3:=S2.rd.c3)|(go_at_call 28;refine(lX ⟨S2.rd⟩).mono ?_;rintro e w3 ⟨rfl,hB3,hk⟩))
  go_ret;obtain⟨a3,g3,r3⟩:=hB3.rd;exact Qm HE.out (S2.atR hk r3) (by omega) (st.bW hk) (New.refl _ _)
 ·have hgz:((g:Int) == 9)=false:=by
   have:¬(g:Int)=9:=by omega
   simpa using this
  go_wp2_with(first|(at_make;refine wpList_make_full _ rfl _ _ 74 rfl w1.heap.size 4 i0 (.bool false) 1 Tryz.underlying74 hi hz0 hz1 _ _ _ _ 256 rfl rfl rfl rfl (by rw[hz2];decide) (by unfold maxLen;omega) (Nat.le_refl _) ?_;intro w2 ho hg;replace st:=st.same ((Za.refl ai _).grown hg (by simp));have S2:=S1.same ((Za.refl ai _).grown hg (by simp));have hI2:=Qj ho;have c1:=S2.rd.c1;have f1:=S2.rd.fz 1;have c3:=S2.rd.c3)|(go_at_call 28;refine(lX ⟨S2.rd⟩).mono ?_;rintro e w3 ⟨rfl,hB3,hk⟩))
  go_ret;obtain⟨a3,g3,r3⟩:=hB3.rd;exact Qm HE.out (S2.atR hk r3) (by omega) (st.bW hk) (New.refl _ _)
theorem Sp.zY(h:Sp w R s a b g v L):Sp (w.setCell ⟨R,3,none⟩ (.int .i64 ((g:Int)+1))) R s a b ((g+1:Nat):Int) v L :=
 h.atR ((Za.refl (·=R) _).setCell (fun _=>rfl) _) (h.rd.iQ _)
theorem MB(w:World)(c:Pc)(r:Int)(hs:c.set = [])(hk:c.kids = [r]):Jl (w.alloc (.cells #[.int .i64 r] 3)) (c,.slice none 0 0,.slice (some ⟨w.heap.size,0,none⟩) 1 1):=by
 refine⟨by rw[hs];exact DV _ _ _,?_⟩;rw[hk];exact World.ownsRow_lit w #[.int .i64 r] 1 (Nat.zero_le _) (by unfold maxLen;omega) rfl
def Lj (num r:Int):Pc := { kind:=5,set := [],min:=0,max:=0,lazy:=false,num:=num,kids := [r] }
def Hz (s:ByteArray) (alt:Nat->Nat->aS) (deep B:Nat):Prop :=
 ∀ (w:World) (R p g:Nat) (v:Value) (L:List Pm),Sp w R s p (-1) g v L->s.size<=120->p<=s.size->g<=9->L.length+3*(s.size-p)<=1000->
   au 26 #[ae R,.int .i64 deep] w (QM (alt p g) R s B w v L)
theorem ZK(h:L'.map (·.1)=L.map (·.1)++f L.length):L'.length=L.length+(f L.length).length:=by
 have:=congrArg List.length h
 simpa using this
theorem ZnJ{alt:Nat->Nat->aS}{room:Bool}(S:Sp w R s p (-1) g v L)(hs:s.size<=120)(hp:p<s.size)(G:ed s alt)(hb:bt s p=40)(hg:g<=9)(dH:g≠9)(hroom:room=true)(jW:deep<6)(hF:L.length+3*(s.size-p)<=1000)(hA:Hz s alt (deep+1) BA)(xL:BA+1<=B)(hB2:1005<=B)(qZ:BA<=5000)(he:alt (p+1) (g+1)=.error x):
  au 92 #[ae R,.int .i64 deep] w (QM (Zd alt room s p g) R s B w v L):=by
 obtain⟨i0,hi,hz0,hz1,hz2⟩:=info_parts Tryz.aQ;have HE:Hid (Zd alt room s p g=.error x):=by
  show _ = _;unfold Zd;rw[if_pos hb,if_neg (by simp[dH,hroom]),he]
 have HX:Hid (alt (p+1) (g+1)=.error x):=he;clear he;have c0:=S.rd.c0;have c1:=S.rd.c1;have hpz:(p:Int)<(s.size:Int):=by omega
 have hc:s[p].toNat=40:=by rw[<- hb,ZX hp]
 clear hb;have hgz:((g:Int) == 9)=false:=by
  have:¬(g:Int)=9:=by omega
  simpa using this
 have hdz:((deep:Int) == 6)=false:=by
  have:¬(deep:Int)=6:=by omega
  simpa using this
 go_enter Tryz.func92,Tryz.ntmps92;go_wp2;go_quiet (fail);have st:Stp R w v (w.drewN nq) v:=(Stp.refl _ _ _).same ((Za.refl _ _).drewN _);have S1:Sp (w.drewN nq) R s p (-1) g v L:=S.drewN nq;have fH:w.heap.size<=(w.drewN nq).heap.size:=Nat.le_refl _;clear c0 c1 S;generalize w.drewN nq=w1 at st S1 fH ⊢;go_wp2_with(first|(at_make;refine wpList_make_full _ rfl _ _ 74 rfl w1.heap.size 4 i0 (.bool false) 1 Tryz.underlying74 hi hz0 hz1 _ _ _ _ 256 rfl rfl rfl rfl (by rw[hz2];decide) (by unfold maxLen;omega) (Nat.le_refl _) ?_;intro w2 ho hg;replace st:=st.same ((Za.refl ai _).grown hg (by simp));have S2:=S1.same ((Za.refl ai _).grown hg (by simp));have hI2:=Qj ho;have c1:=S2.rd.c1;have f1:=S2.rd.fz 1;have Xf:=S2.rd.c3;have c3:=S2.inc.rd.c3;have f3:=S2.inc.rd.fz 3;have S3:=S2.inc.zY;have c3':=S3.rd.c3;have nO:=(st.bW (Q4 w2 R 1 (.int .i64 ((p:Int)+1)))).bW (Q4 _ R 3 (.int .i64 ((g:Int)+1))))|(go_at_call 26;refine(hA _ _ _ _ _ _ S3 hs (by omega) (by omega) (by omega)).mono ?_;intro e w4 hpo;unfold QM at hpo;rw[HX.out] at hpo;obtain⟨r,v4,L4,rfl,dE,hB4,aU,dw⟩:=hpo;obtain⟨a4,g4,S4⟩:=dE;replace aU:=nO.trans aU;replace dw:New w L L4:=(New.refl w L).trans dw nO.keeps.size)|(go_at_call 48;refine(yL ⟨_,_,S4.rd⟩ (by omega)).mono ?_;rintro e w5 ⟨rfl,hb5,hk5⟩;obtain⟨a5,g5,r5⟩:=hb5.rd;have IZ:=S4.atR hk5 r5;have zQ:=aU.bW hk5)|(go_at_call 28;refine(Ic ⟨_,_,IZ.rd⟩).mono ?_;rintro e w5 ⟨rfl,hb5,hk5⟩;obtain⟨a5,g5,r5⟩:=hb5.rd;have S5:=IZ.atR hk5 r5;have aL:=zQ.bW hk5)|(go_at_call 49;refine(iM (S5.alloc _) (Lj _ _,.slice none 0 0,.slice (some ⟨_,0,none⟩) 1 1) (MB _ _ _ rfl rfl) (by omega) (aL.same ((Za.refl ai _).alloc _)) dw (by intro k hk;simp[Value.ownBlock] at hk;subst hk;exact aL.keeps.size)).mono ?_;rintro e w6 ⟨rfl,v6,S6,dI,dR⟩))
 go_ret;exact Qm HE.out S6 (by simp;omega) dI dR
theorem ZnI{alt:Nat->Nat->aS}{room:Bool}(S:Sp w R s p (-1) g v L)(hs:s.size<=120)(hp:p<s.size)(G:ed s alt)(hb:bt s p=40)(hg:g<=9)(dH:g≠9)(hroom:room=true)(jW:deep<6)(hF:L.length+3*(s.size-p)<=1000)(hA:Hz s alt (deep+1) BA)(xL:BA+1<=B)(hB2:1005<=B)(qZ:BA<=5000){q:Nat}(he:alt (p+1) (g+1)=.ok (f,q,g'))(hq:bt s q≠41):
  au 92 #[ae R,.int .i64 deep] w (QM (Zd alt room s p g) R s B w v L):=by
 obtain⟨i0,hi,hz0,hz1,hz2⟩:=info_parts Tryz.aQ;have hpos:=G _ _ _ _ _ (by omega) (by omega) he;have hlen:=hpos.2.2.2 L.length;have HE:Hid (Zd alt room s p g=.error q):=by
  show _ = _;unfold Zd;rw[if_pos hb,if_neg (by simp[dH,hroom]),he];simp only;rw[if_neg hq]
 have HX:Hid (alt (p+1) (g+1)=.ok (f,q,g')):=he;have HQ:Hid (bt s q≠41):=hq;clear he hq;have c0:=S.rd.c0;have c1:=S.rd.c1;have hpz:(p:Int)<(s.size:Int):=by omega
 have hc:s[p].toNat=40:=by rw[<- hb,ZX hp]
 clear hb;have hgz:((g:Int) == 9)=false:=by
  have:¬(g:Int)=9:=by omega
  simpa using this
 have hdz:((deep:Int) == 6)=false:=by
  have:¬(deep:Int)=6:=by omega
  simpa using this
 go_enter Tryz.func92,Tryz.ntmps92;go_wp2;go_quiet (fail);have st:Stp R w v (w.drewN nq) v:=(Stp.refl _ _ _).same ((Za.refl _ _).drewN _);have S1:Sp (w.drewN nq) R s p (-1) g v L:=S.drewN nq;have fH:w.heap.size<=(w.drewN nq).heap.size:=Nat.le_refl _;clear c0 c1 S;generalize w.drewN nq=w1 at st S1 fH ⊢;go_wp2_with(first|(at_make;refine wpList_make_full _ rfl _ _ 74 rfl w1.heap.size 4 i0 (.bool false) 1 Tryz.underlying74 hi hz0 hz1 _ _ _ _ 256 rfl rfl rfl rfl (by rw[hz2];decide) (by unfold maxLen;omega) (Nat.le_refl _) ?_;intro w2 ho hg;replace st:=st.same ((Za.refl ai _).grown hg (by simp));have S2:=S1.same ((Za.refl ai _).grown hg (by simp));have hI2:=Qj ho;have c1:=S2.rd.c1;have f1:=S2.rd.fz 1;have Xf:=S2.rd.c3;have c3:=S2.inc.rd.c3;have f3:=S2.inc.rd.fz 3;have S3:=S2.inc.zY;have c3':=S3.rd.c3;have nO:=(st.bW (Q4 w2 R 1 (.int .i64 ((p:Int)+1)))).bW (Q4 _ R 3 (.int .i64 ((g:Int)+1))))|(go_at_call 26;refine(hA _ _ _ _ _ _ S3 hs (by omega) (by omega) (by omega)).mono ?_;intro e w4 hpo;unfold QM at hpo;rw[HX.out] at hpo;obtain⟨v4,L4,rfl,S4,cO,aU,dw⟩:=hpo;replace aU:=nO.trans aU;replace dw:New w L L4:=(New.refl w L).trans dw nO.keeps.size)|(go_at_call 48;refine(jJ ⟨S4.rd⟩ hs (by have:=HQ.out;omega) (by omega)).mono ?_;rintro e w5 ⟨rfl,hb5,hk5⟩;have IZ:=S4.atR hk5 hb5.rd;have zQ:=aU.bW hk5)|(go_at_call 28;refine(lX ⟨IZ.rd⟩).mono ?_;rintro e w5 ⟨rfl,hb5,hk5⟩;obtain⟨a5,g5,r5⟩:=hb5.rd;have S5:=IZ.atR hk5 r5;have aL:=zQ.bW hk5)|(go_at_call 49;refine(iM (S5.alloc _) (Lj _ _,.slice none 0 0,.slice (some ⟨_,0,none⟩) 1 1) (MB _ _ _ rfl rfl) (by have:=ZK cO;omega) (aL.same ((Za.refl ai _).alloc _)) dw (by intro k hk;simp[Value.ownBlock] at hk;subst hk;exact aL.keeps.size)).mono ?_;rintro e w6 ⟨rfl,v6,S6,dI,dR⟩))
 go_ret;exact Qm HE.out S6 (by have:=ZK cO;simp;omega) dI dR
theorem ZnH{alt:Nat->Nat->aS}{room:Bool}(S:Sp w R s p (-1) g v L)(hs:s.size<=120)(hp:p<s.size)(G:ed s alt)(hb:bt s p=40)(hg:g<=9)(dH:g≠9)(hroom:room=true)(jW:deep<6)(hF:L.length+3*(s.size-p)<=1000)(hA:Hz s alt (deep+1) BA)(xL:BA+1<=B)(hB2:1005<=B)(qZ:BA<=5000){q:Nat}(he:alt (p+1) (g+1)=.ok (f,q,g'))(hq:bt s q=41):
  au 92 #[ae R,.int .i64 deep] w (QM (Zd alt room s p g) R s B w v L):=by
 obtain⟨i0,hi,hz0,hz1,hz2⟩:=info_parts Tryz.aQ;have hpos:=G _ _ _ _ _ (by omega) (by omega) he;have hlen:=hpos.2.2.2 L.length;have HE:Hid (Zd alt room s p g=.ok (JN ((g:Int)+1) f,q+1,g')):=by
  show _ = _;unfold Zd;rw[if_pos hb,if_neg (by simp[dH,hroom]),he];simp only;rw[if_pos hq]
 have HX:Hid (alt (p+1) (g+1)=.ok (f,q,g')):=he;have HQ:Hid (bt s q=41):=hq;clear he hq;have c0:=S.rd.c0;have c1:=S.rd.c1;have hpz:(p:Int)<(s.size:Int):=by omega
 have hc:s[p].toNat=40:=by rw[<- hb,ZX hp]
 clear hb;have hgz:((g:Int) == 9)=false:=by
  have:¬(g:Int)=9:=by omega
  simpa using this
 have hdz:((deep:Int) == 6)=false:=by
  have:¬(deep:Int)=6:=by omega
  simpa using this
 go_enter Tryz.func92,Tryz.ntmps92;go_wp2;go_quiet (fail);have st:Stp R w v (w.drewN nq) v:=(Stp.refl _ _ _).same ((Za.refl _ _).drewN _);have S1:Sp (w.drewN nq) R s p (-1) g v L:=S.drewN nq;have fH:w.heap.size<=(w.drewN nq).heap.size:=Nat.le_refl _;clear c0 c1 S;generalize w.drewN nq=w1 at st S1 fH ⊢;go_wp2_with(first|(at_make;refine wpList_make_full _ rfl _ _ 74 rfl w1.heap.size 4 i0 (.bool false) 1 Tryz.underlying74 hi hz0 hz1 _ _ _ _ 256 rfl rfl rfl rfl (by rw[hz2];decide) (by unfold maxLen;omega) (Nat.le_refl _) ?_;intro w2 ho hg;replace st:=st.same ((Za.refl ai _).grown hg (by simp));have S2:=S1.same ((Za.refl ai _).grown hg (by simp));have hI2:=Qj ho;have c1:=S2.rd.c1;have f1:=S2.rd.fz 1;have Xf:=S2.rd.c3;have c3:=S2.inc.rd.c3;have f3:=S2.inc.rd.fz 3;have S3:=S2.inc.zY;have c3':=S3.rd.c3;have nO:=(st.bW (Q4 w2 R 1 (.int .i64 ((p:Int)+1)))).bW (Q4 _ R 3 (.int .i64 ((g:Int)+1))))|(go_at_call 26;refine(hA _ _ _ _ _ _ S3 hs (by omega) (by omega) (by omega)).mono ?_;intro e w4 hpo;unfold QM at hpo;rw[HX.out] at hpo;obtain⟨v4,L4,rfl,S4,cO,aU,dw⟩:=hpo;replace aU:=nO.trans aU;replace dw:New w L L4:=(New.refl w L).trans dw nO.keeps.size)|(go_at_call 48;refine(iC ⟨S4.rd⟩ hs (by have:=HQ.out;omega) (by omega)).mono ?_;rintro e w5 ⟨rfl,hb5,hk5⟩;have S5:=S4.atR hk5 hb5.rd;have aL:=aU.bW hk5)|(go_at_call 49;refine(iM (S5.alloc _) (Lj _ _,.slice none 0 0,.slice (some ⟨_,0,none⟩) 1 1) (MB _ _ _ rfl rfl) (by have:=ZK cO;omega) (aL.same ((Za.refl ai _).alloc _)) dw (by intro k hk;simp[Value.ownBlock] at hk;subst hk;exact aL.keeps.size)).mono ?_;rintro e w6 ⟨rfl,v6,S6,dI,dR⟩))
 go_ret;refine Qi HE.out S6 ?_ (by have:=ZK cO;simp[JN];omega) dI dR;rw[List.map_append,cO];simp[JN,Lj]
theorem Zjl{alt:Nat->Nat->aS}{room:Bool}(S:Sp w R s p (-1) g v L)(hs:s.size<=120)(hp:p<s.size)(G:ed s alt)(hg:g<=9)
  (hF:L.length+3*(s.size-p)<=1000) (hd:deep<=6) (hr:room=decide (deep<6)) (hA:room=true->Hz s alt (deep+1) BA) (xL:BA+1<=B) (hB2:1005<=B) (qZ:BA<=5000) :
  au 92 #[ae R,.int .i64 deep] w (QM (Zd alt room s p g) R s B w v L):=by
 have hL:L.length<=2000:=by omega
 have hB:L.length+1<=B:=by omega
 by_cases h1:bt s p=40
 ·by_cases h2:g=9\/room=false
  ·exact ZkG S hs hp hL hB h1 h2 (fun h=>by rw[h] at hr;have:¬deep<6:=(by simpa using hr.symm);omega)
  ·have dH:g≠9:=fun h=>h2 (Or.inl h);have hroom:room=true:=by cases room <;> simp_all
   have jW:deep<6:=by rw[hroom] at hr;simpa using hr.symm
   cases he:alt (p+1) (g+1) with
   | error x=>exact ZnJ S hs hp G h1 hg dH hroom jW hF (hA hroom) xL hB2 qZ he
   | ok r =>
     obtain⟨f,q,g'⟩:=r
     by_cases hq:bt s q=41
     ·exact ZnH S hs hp G h1 hg dH hroom jW hF (hA hroom) xL hB2 qZ he hq
     ·exact ZnI S hs hp G h1 hg dH hroom jW hF (hA hroom) xL hB2 qZ he hq
 by_cases h2:bt s p=91
 ·cases he:Zq s (p+1) with
  | error x=>exact Zia S hs hp hL hB h2 he
  | ok r=>obtain⟨T,q⟩:=r;exact Zqr S hs hp hL hB h2 he
 by_cases h3:bt s p=94
 ·exact ZkF S hs hp hL hB h3
 by_cases h4:bt s p=36
 ·exact Zqu S hs hp hL hB h4
 by_cases h5:bt s p=46
 ·exact Zqv S hs hp hL hB h5
 by_cases h6:bt s p=92
 ·cases he:Zt s (p+1) with
  | error x=>exact Zib S hs hp hL hB h6 he
  | ok r=>obtain⟨T,o,q⟩:=r;exact Zqt S hs hp hL hB h6 he
 by_cases h7:bt s p=42
 ·exact ZsR S hs hp hL hB h7
 by_cases h8:bt s p=43
 ·exact ZsQ S hs hp hL hB h8
 by_cases h9:bt s p=63
 ·exact ZsP S hs hp hL hB h9
 by_cases h10:bt s p=123
 ·exact ZsO S hs hp hL hB h10
 by_cases h11:bt s p=125
 ·exact ZsN S hs hp hL hB h11
 by_cases h12:bt s p=93
 ·exact ZsM S hs hp hL hB h12
 exact ZnF S hs hp hL hB ⟨⟨h1,h2,h3,h4,h5,h6⟩,h7,h8,h9,h10,h11,h12⟩
def qw (s:ByteArray) (alt:Nat->Nat->aS) (room:Bool) (deep B:Nat):Prop :=
 ∀ (w:World) (R p g:Nat) (v:Value) (L:List Pm),Sp w R s p (-1) g v L->s.size<=120->p<s.size->g<=9->L.length+3*(s.size-p)<=1000->
   au 92 #[ae R,.int .i64 deep] w (QM (Zd alt room s p g) R s B w v L)
def Pb (w:World) (P:Nat) (c:Pc) (sv kv:Value):Prop :=
 w.heap[P]?=some (.cells #[.int .i64 c.kind,sv,.int .i64 c.min,.int .i64 c.max,.bool c.lazy,.int .i64 c.num,kv] 114 (0,0))
variable {c:Pc}
theorem Pb.keeps(h:Pb w P c sv kv)(k:Za E w w')(hE:¬E P):Pb w' P c sv kv:=by
 unfold Pb at h ⊢;rw[k.block P (lt_of_block h) hE];exact h
theorem Sp.ry{g:Int}(h:Sp w R s a b g v L)(hP:Pb w P c sv kv)(hv:¬v.ownBlock=some P)(hk:Za (·=P) w w'):Sp w' R s a b g v L:=by
 have hT:∀k,k=P->k<w.heap.size->∃cs t,w.heap[k]?=some (.cells cs t (0,0))/\t≠250/\t≠3:=by
  rintro k rfl _;exact⟨_,_,hP,by decide,by decide⟩
 refine⟨h.rd.keeps hk (by rintro rfl;have h1:=h.rd;have h2:=hP;unfold Rd at h1;unfold Pb at h2;rw[h1] at h2;simp at h2),Zb h.row hk (by rintro k hk1 rfl;exact hv hk1),fun x hx=>(h.rows x hx).byTypes hk hT⟩
theorem Pb.facts(h:Pb w P c sv kv):w.cell? (ak P)=some (.int .i64 c.kind)/\w.cell? ⟨P,1,none⟩=some sv/\w.cell? ⟨P,2,none⟩=some (.int .i64 c.min)/\w.cell? ⟨P,3,none⟩=some (.int .i64 c.max)/\
  w.cell? ⟨P,4,none⟩=some (.bool c.lazy)/\w.cell? ⟨P,5,none⟩=some (.int .i64 c.num)/\w.cell? ⟨P,6,none⟩=some kv/\∀i,w.frozen? ⟨P,i,none⟩=false :=
 ⟨by rw[Zc h];rfl,by rw[Zc h];rfl,by rw[Zc h];rfl,by rw[Zc h];rfl,by rw[Zc h];rfl,by rw[Zc h];rfl,by rw[Zc h];rfl,fun i=>Zv h⟩
theorem ZO(w:World)(P i:Nat)(u:Value):Za (·=P) w (w.setCell ⟨P,i,none⟩ u):=(Za.refl (·=P) _).setCell (fun _=>rfl) _
theorem Pb.set2(h:Pb w P c sv kv)(x:Int):Pb (w.setCell ⟨P,2,none⟩ (.int .i64 x)) P { c with min:=x } sv kv:=by unfold Pb;rw[heap_setCell_same _ _ _ _ _ _ h];rfl
theorem Pb.iQ(h:Pb w P c sv kv)(x:Int):Pb (w.setCell ⟨P,3,none⟩ (.int .i64 x)) P { c with max:=x } sv kv:=by unfold Pb;rw[heap_setCell_same _ _ _ _ _ _ h];rfl
theorem Pb.aX(h:Pb w P c sv kv)(x:Bool):Pb (w.setCell ⟨P,4,none⟩ (.bool x)) P { c with lazy:=x } sv kv:=by unfold Pb;rw[heap_setCell_same _ _ _ _ _ _ h];rfl
theorem Pb.Ny(h:Pb w P c sv kv)(x:Value):Pb (w.setCell ⟨P,6,none⟩ x) P c sv x:=by unfold Pb;rw[heap_setCell_same _ _ _ _ _ _ h];rfl
theorem Sp.fin{g:Int}(S:Sp w R s a b g v L)(hP:Pb w P c (.slice none 0 0) (.slice none 0 0))(hv:¬v.ownBlock=some P)(hc:c.set = [])(lz:Bool)(r:Int):
  Sp (((w.setCell ⟨P,4,none⟩ (.bool lz)).alloc (.cells #[.int .i64 r] 3)).setCell ⟨P,6,none⟩ (.slice (some ⟨w.heap.size,0,none⟩) 1 1)) R s a b g v L/\
  Jl (((w.setCell ⟨P,4,none⟩ (.bool lz)).alloc (.cells #[.int .i64 r] 3)).setCell ⟨P,6,none⟩ (.slice (some ⟨w.heap.size,0,none⟩) 1 1)) ({ c with lazy:=lz,kids := [r] },.slice none 0 0,.slice (some ⟨w.heap.size,0,none⟩) 1 1)/\
  Za (·=P) w (((w.setCell ⟨P,4,none⟩ (.bool lz)).alloc (.cells #[.int .i64 r] 3)).setCell ⟨P,6,none⟩ (.slice (some ⟨w.heap.size,0,none⟩) 1 1)):=by
 have e:(w.setCell ⟨P,4,none⟩ (.bool lz)).heap.size=w.heap.size:=by simp[World.setCell]
 have hP1:=hP.aX lz;have S1:=S.ry hP hv (ZO w P 4 (.bool lz));have hk2:Za ai (w.setCell ⟨P,4,none⟩ (.bool lz)) ((w.setCell ⟨P,4,none⟩ (.bool lz)).alloc (.cells #[.int .i64 r] 3)):=QT;have hP2:=hP1.keeps hk2 id;have S2:=S1.same hk2;have o2:=MB (w.setCell ⟨P,4,none⟩ (.bool lz)) { c with lazy:=lz,kids := [r] } r hc rfl;rw[e] at o2;refine⟨S2.ry hP2 hv (ZO _ P 6 _),?_,((ZO w P 4 (.bool lz)).trans (hk2.mono fun _ _ h=>h.elim)).trans (ZO _ P 6 _)⟩;exact o2.byTypes (ZO _ P 6 _) (by rintro k rfl _;exact⟨_,_,hP2,by decide,by decide⟩)
def x9 (lo hi:Int) (lz:Bool) (kids:List Int):Pc := { kind:=4,set := [],min:=lo,max:=hi,lazy:=lz,num:=0,kids:=kids }
theorem Pb.made(w:World):Pb (w.alloc (.cells #[.int .i64 4,.slice none 0 0,.int .i64 0,.int .i64 (-1),.bool false,.int .i64 0,.slice none 0 0] 114)) w.heap.size (x9 0 (-1) false []) (.slice none 0 0) (.slice none 0 0):=heap_alloc_new _ _
theorem rY{g:Int}(S:Sp w R s a b g v L):¬v.ownBlock=some w.heap.size:=by
 intro h
 have:=(S.row.lt _ h).2
 omega
theorem ZlR{alt:Nat->Nat->aS}{room:Bool}(S:Sp w R s p (-1) g v L)(hs:s.size<=120)(hp:p<s.size)(G:ed s alt)(hg:g<=9)
  (hF:L.length+3*(s.size-p)<=1000) (hA:qw s alt room deep B) (hB:1005<=B) (fE:B<=6000) {x:Nat} (he:Zd alt room s p g=.error x) :
  au 73 #[ae R,.int .i64 deep] w (QM (Zm alt room s p g) R s (B+1) w v L):=by
 have HE:Hid (Zm alt room s p g=.error x):=by show _ = _;simp[Zm,he]
 have HX:Hid (Zd alt room s p g=.error x):=he;clear he;go_enter Tryz.func73,Tryz.ntmps73;go_wp2_with(first|(go_at_call 92;refine(hA _ _ _ _ _ _ S hs hp hg hF).mono ?_;intro e w4 hpo;unfold QM at hpo;rw[HX.out] at hpo;obtain⟨r,v4,L4,rfl,dE,hB4,aU,dw⟩:=hpo;obtain⟨a4,g4,S4⟩:=dE;have S5:=S4.alloc (.cells #[.int .i64 4,.slice none 0 0,.int .i64 0,.int .i64 (-1),.bool false,.int .i64 0,.slice none 0 0] 114);have aL:=aU.same ((Za.refl ai w4).alloc (.cells #[.int .i64 4,.slice none 0 0,.int .i64 0,.int .i64 (-1),.bool false,.int .i64 0,.slice none 0 0] 114));have hP:=Pb.made w4;have hv:=rY S4;have dL:¬w4.heap.size=R:=by have:=S4.rd.lt;omega)|(go_at_call 48;refine(yL ⟨_,_,S5.rd⟩ (by omega)).mono ?_;rintro e w5 ⟨rfl,hb5,hk5⟩;obtain⟨a5,g5,r5⟩:=hb5.rd;replace S5:=S5.atR hk5 r5;replace aL:=aL.bW hk5;replace hP:=hP.keeps hk5 dL;clear hb5 hk5 r5))
 go_ret;exact Qm HE.out S5 (by omega) aL dw
theorem ZjS{alt:Nat->Nat->aS}{room:Bool}(S:Sp w R s p (-1) g v L)(hs:s.size<=120)(hp:p<s.size)(G:ed s alt)(hg:g<=9)
  (hF:L.length+3*(s.size-p)<=1000) (hA:qw s alt room deep B) (hB:1005<=B) (fE:B<=6000) {f:Pf} {q g':Nat} (he:Zd alt room s p g=.ok (f,q,g')) (hq:bt s q≠42/\bt s q≠43/\bt s q≠63/\bt s q≠123) :
  au 73 #[ae R,.int .i64 deep] w (QM (Zm alt room s p g) R s (B+1) w v L):=by
 have hpos:=ZZ G hp hg he;have hlen:=hpos.2.2.2 L.length;have HE:Hid (Zm alt room s p g=.ok (f,q,g')):=by show _ = _;simp[Zm,he,ZG,hq.1,hq.2.1,hq.2.2.1,hq.2.2.2]
 have HX:Hid (Zd alt room s p g=.ok (f,q,g')):=he;have HQ:Hid (bt s q≠42/\bt s q≠43/\bt s q≠63/\bt s q≠123):=hq;clear hq;clear he;go_enter Tryz.func73,Tryz.ntmps73;go_wp2_with(first|(go_at_call 92;refine(hA _ _ _ _ _ _ S hs hp hg hF).mono ?_;intro e w4 hpo;unfold QM at hpo;rw[HX.out] at hpo;obtain⟨v4,L4,rfl,S4,cO,aU,dw⟩:=hpo;have S5:=S4.alloc (.cells #[.int .i64 4,.slice none 0 0,.int .i64 0,.int .i64 (-1),.bool false,.int .i64 0,.slice none 0 0] 114);have aL:=aU.same ((Za.refl ai w4).alloc (.cells #[.int .i64 4,.slice none 0 0,.int .i64 0,.int .i64 (-1),.bool false,.int .i64 0,.slice none 0 0] 114));have hP:=Pb.made w4;have hv:=rY S4;have dL:¬w4.heap.size=R:=by have:=S4.rd.lt;omega)|(go_at_call 48;refine(jJ ⟨S5.rd⟩ hs (by have:=HQ.out;omega) (by omega)).mono ?_;rintro e w5 ⟨rfl,hb5,hk5⟩;replace S5:=S5.atR hk5 hb5.rd;replace aL:=aL.bW hk5;replace hP:=hP.keeps hk5 dL;clear hb5 hk5))
 go_ret;exact Qi HE.out S5 cO rfl aL dw
theorem Zhn{alt:Nat->Nat->aS}{room:Bool}(S:Sp w R s p (-1) g v L)(hs:s.size<=120)(hp:p<s.size)(G:ed s alt)(hg:g<=9)
  (hF:L.length+3*(s.size-p)<=1000) (hA:qw s alt room deep B) (hB:1005<=B) (fE:B<=6000) {f:Pf} {q g':Nat} (he:Zd alt room s p g=.ok (f,q,g')) (hq:bt s q=42) (hl:bt s (q+1)=63) :
  au 73 #[ae R,.int .i64 deep] w (QM (Zm alt room s p g) R s (B+1) w v L):=by
 have hpos:=ZZ G hp hg he;have hlen:=hpos.2.2.2 L.length;have HE:Hid (Zm alt room s p g=.ok (Z5 0 (-1) true f,q+1+1,g')):=by show _ = _;simp[Zm,he,ZG,hq,hl]
 have HX:Hid (Zd alt room s p g=.ok (f,q,g')):=he;have HQ:Hid (bt s q=42/\bt s (q+1)=63):=⟨hq,hl⟩;clear hq hl;clear he;go_enter Tryz.func73,Tryz.ntmps73;go_wp2_with(first|(go_at_call 92;refine(hA _ _ _ _ _ _ S hs hp hg hF).mono ?_;intro e w4 hpo;unfold QM at hpo;rw[HX.out] at hpo;obtain⟨v4,L4,rfl,S4,cO,aU,dw⟩:=hpo;have S5:=S4.alloc (.cells #[.int .i64 4,.slice none 0 0,.int .i64 0,.int .i64 (-1),.bool false,.int .i64 0,.slice none 0 0] 114);have aL:=aU.same ((Za.refl ai w4).alloc (.cells #[.int .i64 4,.slice none 0 0,.int .i64 0,.int .i64 (-1),.bool false,.int .i64 0,.slice none 0 0] 114));have hP:=Pb.made w4;have hv:=rY S4;have dL:¬w4.heap.size=R:=by have:=S4.rd.lt;omega)|(go_at_call 48;refine(iC ⟨S5.rd⟩ hs (by have:=HQ.out;omega) (by omega)).mono ?_;rintro e w5 ⟨rfl,hb5,hk5⟩;replace S5:=S5.atR hk5 hb5.rd;replace aL:=aL.bW hk5;replace hP:=hP.keeps hk5 dL;clear hb5 hk5;obtain⟨d0,d1,d2,d3,d4,d5,d6,df⟩:=hP.facts;have hP2:=(hP.aX true).keeps ((Za.refl ai _).alloc (.cells #[.int .i64 ((L.length:Int)+(f L.length).length-1)] 3)) id;obtain⟨e0,e1,e2,e3,e4,e5,e6,ef⟩:=hP2.facts;clear hP2)|(go_at_call 49;refine(iM (S5.fin hP hv rfl true _).1 _ (S5.fin hP hv rfl true _).2.1 (by have:=ZK cO;omega) (aL.on (S5.fin hP hv rfl true _).2.2 (fun i hi' h=>by have:=aU.keeps.size;omega)) dw (by intro k hk;simp[Value.ownBlock] at hk;subst hk;exact aL.keeps.size)).mono ?_;rintro e w6 ⟨rfl,v6,S6,dI,dR⟩))
 go_ret;refine Qi HE.out S6 ?_ (by have:=ZK cO;simp[Z5];omega) dI dR;rw[List.map_append,cO];simp[Z5,x9]
theorem Zhp{alt:Nat->Nat->aS}{room:Bool}(S:Sp w R s p (-1) g v L)(hs:s.size<=120)(hp:p<s.size)(G:ed s alt)(hg:g<=9)
  (hF:L.length+3*(s.size-p)<=1000) (hA:qw s alt room deep B) (hB:1005<=B) (fE:B<=6000) {f:Pf} {q g':Nat} (he:Zd alt room s p g=.ok (f,q,g')) (hq:bt s q=43) (hl:bt s (q+1)=63) :
  au 73 #[ae R,.int .i64 deep] w (QM (Zm alt room s p g) R s (B+1) w v L):=by
 have hpos:=ZZ G hp hg he;have hlen:=hpos.2.2.2 L.length;have HE:Hid (Zm alt room s p g=.ok (Z5 1 (-1) true f,q+1+1,g')):=by show _ = _;simp[Zm,he,ZG,hq,hl]
 have HX:Hid (Zd alt room s p g=.ok (f,q,g')):=he;have HQ:Hid (bt s q=43/\bt s (q+1)=63):=⟨hq,hl⟩;clear hq hl;clear he;go_enter Tryz.func73,Tryz.ntmps73;go_wp2_with(first|(go_at_call 92;refine(hA _ _ _ _ _ _ S hs hp hg hF).mono ?_;intro e w4 hpo;unfold QM at hpo;rw[HX.out] at hpo;obtain⟨v4,L4,rfl,S4,cO,aU,dw⟩:=hpo;have S5:=S4.alloc (.cells #[.int .i64 4,.slice none 0 0,.int .i64 0,.int .i64 (-1),.bool false,.int .i64 0,.slice none 0 0] 114);have aL:=aU.same ((Za.refl ai w4).alloc (.cells #[.int .i64 4,.slice none 0 0,.int .i64 0,.int .i64 (-1),.bool false,.int .i64 0,.slice none 0 0] 114));have hP:=Pb.made w4;have hv:=rY S4;have dL:¬w4.heap.size=R:=by have:=S4.rd.lt;omega)|(go_at_call 48;refine(iC (p:=q) ⟨S5.rd⟩ hs (by have:=HQ.out;omega) (by omega)).mono ?_;rintro e w5 ⟨rfl,hb5,hk5⟩;replace S5:=S5.atR hk5 hb5.rd;replace aL:=aL.bW hk5;replace hP:=hP.keeps hk5 dL;clear hb5 hk5;obtain⟨d0,d1,d2,d3,d4,d5,d6,df⟩:=hP.facts;have hP2:=(hP.aX true).keeps ((Za.refl ai _).alloc (.cells #[.int .i64 ((L.length:Int)+(f L.length).length-1)] 3)) id;obtain⟨e0,e1,e2,e3,e4,e5,e6,ef⟩:=hP2.facts;clear hP2;replace S5:=S5.ry hP hv (ZO _ _ 2 (.int .i64 1));replace aL:=aL.on (ZO w5 w4.heap.size 2 (.int .i64 1)) (fun i hi' h=>by have:=aU.keeps.size;omega);replace hP:=hP.set2 1)|(go_at_call 48;refine(iC (p:=q+1) ⟨S5.rd⟩ hs (by have:=HQ.out;omega) (by omega)).mono ?_;rintro e w5 ⟨rfl,hb5,hk5⟩;replace S5:=S5.atR hk5 hb5.rd;replace aL:=aL.bW hk5;replace hP:=hP.keeps hk5 dL;clear hb5 hk5;obtain⟨d0,d1,d2,d3,d4,d5,d6,df⟩:=hP.facts;have hP2:=(hP.aX true).keeps ((Za.refl ai _).alloc (.cells #[.int .i64 ((L.length:Int)+(f L.length).length-1)] 3)) id;obtain⟨e0,e1,e2,e3,e4,e5,e6,ef⟩:=hP2.facts;clear hP2)|(go_at_call 48;refine(jJ (p:=q) ⟨S5.rd⟩ hs (by have:=HQ.out;omega) (by omega)).mono ?_;rintro e w5 ⟨rfl,hb5,hk5⟩;replace S5:=S5.atR hk5 hb5.rd;replace aL:=aL.bW hk5;replace hP:=hP.keeps hk5 dL;clear hb5 hk5)|(go_at_call 49;refine(iM (S5.fin hP hv rfl true _).1 _ (S5.fin hP hv rfl true _).2.1 (by have:=ZK cO;omega) (aL.on (S5.fin hP hv rfl true _).2.2 (fun i hi' h=>by have:=aU.keeps.size;omega)) dw (by intro k hk;simp[Value.ownBlock] at hk;subst hk;exact aL.keeps.size)).mono ?_;rintro e w6 ⟨rfl,v6,S6,dI,dR⟩))
 go_ret;refine Qi HE.out S6 ?_ (by have:=ZK cO;simp[Z5];omega) dI dR;rw[List.map_append,cO];simp[Z5,x9]
theorem ZjQ{alt:Nat->Nat->aS}{room:Bool}(S:Sp w R s p (-1) g v L)(hs:s.size<=120)(hp:p<s.size)(G:ed s alt)(hg:g<=9)
  (hF:L.length+3*(s.size-p)<=1000) (hA:qw s alt room deep B) (hB:1005<=B) (fE:B<=6000) {f:Pf} {q g':Nat} (he:Zd alt room s p g=.ok (f,q,g')) (hq:bt s q=63) (hl:bt s (q+1)=63) :
  au 73 #[ae R,.int .i64 deep] w (QM (Zm alt room s p g) R s (B+1) w v L):=by
 have hpos:=ZZ G hp hg he;have hlen:=hpos.2.2.2 L.length;have HE:Hid (Zm alt room s p g=.ok (Z5 0 (1) true f,q+1+1,g')):=by show _ = _;simp[Zm,he,ZG,hq,hl]
 have HX:Hid (Zd alt room s p g=.ok (f,q,g')):=he;have HQ:Hid (bt s q=63/\bt s (q+1)=63):=⟨hq,hl⟩;clear hq hl;clear he;go_enter Tryz.func73,Tryz.ntmps73;go_wp2_with(first|(go_at_call 92;refine(hA _ _ _ _ _ _ S hs hp hg hF).mono ?_;intro e w4 hpo;unfold QM at hpo;rw[HX.out] at hpo;obtain⟨v4,L4,rfl,S4,cO,aU,dw⟩:=hpo;have S5:=S4.alloc (.cells #[.int .i64 4,.slice none 0 0,.int .i64 0,.int .i64 (-1),.bool false,.int .i64 0,.slice none 0 0] 114);have aL:=aU.same ((Za.refl ai w4).alloc (.cells #[.int .i64 4,.slice none 0 0,.int .i64 0,.int .i64 (-1),.bool false,.int .i64 0,.slice none 0 0] 114));have hP:=Pb.made w4;have hv:=rY S4;have dL:¬w4.heap.size=R:=by have:=S4.rd.lt;omega)|(go_at_call 48;refine(iC (p:=q) ⟨S5.rd⟩ hs (by have:=HQ.out;omega) (by omega)).mono ?_;rintro e w5 ⟨rfl,hb5,hk5⟩;replace S5:=S5.atR hk5 hb5.rd;replace aL:=aL.bW hk5;replace hP:=hP.keeps hk5 dL;clear hb5 hk5;obtain⟨d0,d1,d2,d3,d4,d5,d6,df⟩:=hP.facts;have hP2:=(hP.aX true).keeps ((Za.refl ai _).alloc (.cells #[.int .i64 ((L.length:Int)+(f L.length).length-1)] 3)) id;obtain⟨e0,e1,e2,e3,e4,e5,e6,ef⟩:=hP2.facts;clear hP2;replace S5:=S5.ry hP hv (ZO _ _ 3 (.int .i64 1));replace aL:=aL.on (ZO w5 w4.heap.size 3 (.int .i64 1)) (fun i hi' h=>by have:=aU.keeps.size;omega);replace hP:=hP.iQ 1)|(go_at_call 48;refine(iC (p:=q+1) ⟨S5.rd⟩ hs (by have:=HQ.out;omega) (by omega)).mono ?_;rintro e w5 ⟨rfl,hb5,hk5⟩;replace S5:=S5.atR hk5 hb5.rd;replace aL:=aL.bW hk5;replace hP:=hP.keeps hk5 dL;clear hb5 hk5;obtain⟨d0,d1,d2,d3,d4,d5,d6,df⟩:=hP.facts;have hP2:=(hP.aX true).keeps ((Za.refl ai _).alloc (.cells #[.int .i64 ((L.length:Int)+(f L.length).length-1)] 3)) id;obtain⟨e0,e1,e2,e3,e4,e5,e6,ef⟩:=hP2.facts;clear hP2)|(go_at_call 48;refine(jJ (p:=q) ⟨S5.rd⟩ hs (by have:=HQ.out;omega) (by omega)).mono ?_;rintro e w5 ⟨rfl,hb5,hk5⟩;replace S5:=S5.atR hk5 hb5.rd;replace aL:=aL.bW hk5;replace hP:=hP.keeps hk5 dL;clear hb5 hk5)|(go_at_call 49;refine(iM (S5.fin hP hv rfl true _).1 _ (S5.fin hP hv rfl true _).2.1 (by have:=ZK cO;omega) (aL.on (S5.fin hP hv rfl true _).2.2 (fun i hi' h=>by have:=aU.keeps.size;omega)) dw (by intro k hk;simp[Value.ownBlock] at hk;subst hk;exact aL.keeps.size)).mono ?_;rintro e w6 ⟨rfl,v6,S6,dI,dR⟩))
 go_ret;refine Qi HE.out S6 ?_ (by have:=ZK cO;simp[Z5];omega) dI dR;rw[List.map_append,cO];simp[Z5,x9]
theorem Zho{alt:Nat->Nat->aS}{room:Bool}(S:Sp w R s p (-1) g v L)(hs:s.size<=120)(hp:p<s.size)(G:ed s alt)(hg:g<=9)
  (hF:L.length+3*(s.size-p)<=1000) (hA:qw s alt room deep B) (hB:1005<=B) (fE:B<=6000) {f:Pf} {q g':Nat} (he:Zd alt room s p g=.ok (f,q,g')) (hq:bt s q=42) (hl:bt s (q+1)≠63) :
  au 73 #[ae R,.int .i64 deep] w (QM (Zm alt room s p g) R s (B+1) w v L):=by
 have hpos:=ZZ G hp hg he;have hlen:=hpos.2.2.2 L.length;have HE:Hid (Zm alt room s p g=.ok (Z5 0 (-1) false f,q+1,g')):=by show _ = _;simp[Zm,he,ZG,hq,hl]
 have HX:Hid (Zd alt room s p g=.ok (f,q,g')):=he;have HQ:Hid (bt s q=42/\bt s (q+1)≠63):=⟨hq,hl⟩;clear hq hl;clear he;go_enter Tryz.func73,Tryz.ntmps73;go_wp2_with(first|(go_at_call 92;refine(hA _ _ _ _ _ _ S hs hp hg hF).mono ?_;intro e w4 hpo;unfold QM at hpo;rw[HX.out] at hpo;obtain⟨v4,L4,rfl,S4,cO,aU,dw⟩:=hpo;have S5:=S4.alloc (.cells #[.int .i64 4,.slice none 0 0,.int .i64 0,.int .i64 (-1),.bool false,.int .i64 0,.slice none 0 0] 114);have aL:=aU.same ((Za.refl ai w4).alloc (.cells #[.int .i64 4,.slice none 0 0,.int .i64 0,.int .i64 (-1),.bool false,.int .i64 0,.slice none 0 0] 114));have hP:=Pb.made w4;have hv:=rY S4;have dL:¬w4.heap.size=R:=by have:=S4.rd.lt;omega)|(go_at_call 48;refine(iC ⟨S5.rd⟩ hs (by have:=HQ.out;omega) (by omega)).mono ?_;rintro e w5 ⟨rfl,hb5,hk5⟩;replace S5:=S5.atR hk5 hb5.rd;replace aL:=aL.bW hk5;replace hP:=hP.keeps hk5 dL;clear hb5 hk5;obtain⟨d0,d1,d2,d3,d4,d5,d6,df⟩:=hP.facts;have hP2:=(hP.aX false).keeps ((Za.refl ai _).alloc (.cells #[.int .i64 ((L.length:Int)+(f L.length).length-1)] 3)) id;obtain⟨e0,e1,e2,e3,e4,e5,e6,ef⟩:=hP2.facts;clear hP2)|(go_at_call 48;refine(jJ ⟨S5.rd⟩ hs (by have:=HQ.out;omega) (by omega)).mono ?_;rintro e w5 ⟨rfl,hb5,hk5⟩;replace S5:=S5.atR hk5 hb5.rd;replace aL:=aL.bW hk5;replace hP:=hP.keeps hk5 dL;clear hb5 hk5;obtain⟨d0,d1,d2,d3,d4,d5,d6,df⟩:=hP.facts;have hP2:=(hP.aX false).keeps ((Za.refl ai _).alloc (.cells #[.int .i64 ((L.length:Int)+(f L.length).length-1)] 3)) id;obtain⟨e0,e1,e2,e3,e4,e5,e6,ef⟩:=hP2.facts;clear hP2)|(go_at_call 49;refine(iM (S5.fin hP hv rfl false _).1 _ (S5.fin hP hv rfl false _).2.1 (by have:=ZK cO;omega) (aL.on (S5.fin hP hv rfl false _).2.2 (fun i hi' h=>by have:=aU.keeps.size;omega)) dw (by intro k hk;simp[Value.ownBlock] at hk;subst hk;exact aL.keeps.size)).mono ?_;rintro e w6 ⟨rfl,v6,S6,dI,dR⟩))
 go_ret;refine Qi HE.out S6 ?_ (by have:=ZK cO;simp[Z5];omega) dI dR;rw[List.map_append,cO];simp[Z5,x9]
theorem Zhq{alt:Nat->Nat->aS}{room:Bool}(S:Sp w R s p (-1) g v L)(hs:s.size<=120)(hp:p<s.size)(G:ed s alt)(hg:g<=9)
  (hF:L.length+3*(s.size-p)<=1000) (hA:qw s alt room deep B) (hB:1005<=B) (fE:B<=6000) {f:Pf} {q g':Nat} (he:Zd alt room s p g=.ok (f,q,g')) (hq:bt s q=43) (hl:bt s (q+1)≠63) :
  au 73 #[ae R,.int .i64 deep] w (QM (Zm alt room s p g) R s (B+1) w v L):=by
 have hpos:=ZZ G hp hg he;have hlen:=hpos.2.2.2 L.length;have HE:Hid (Zm alt room s p g=.ok (Z5 1 (-1) false f,q+1,g')):=by show _ = _;simp[Zm,he,ZG,hq,hl]
 have HX:Hid (Zd alt room s p g=.ok (f,q,g')):=he;have HQ:Hid (bt s q=43/\bt s (q+1)≠63):=⟨hq,hl⟩;clear hq hl;clear he;go_enter Tryz.func73,Tryz.ntmps73;go_wp2_with(first|(go_at_call 92;refine(hA _ _ _ _ _ _ S hs hp hg hF).mono ?_;intro e w4 hpo;unfold QM at hpo;rw[HX.out] at hpo;obtain⟨v4,L4,rfl,S4,cO,aU,dw⟩:=hpo;have S5:=S4.alloc (.cells #[.int .i64 4,.slice none 0 0,.int .i64 0,.int .i64 (-1),.bool false,.int .i64 0,.slice none 0 0] 114);have aL:=aU.same ((Za.refl ai w4).alloc (.cells #[.int .i64 4,.slice none 0 0,.int .i64 0,.int .i64 (-1),.bool false,.int .i64 0,.slice none 0 0] 114));have hP:=Pb.made w4;have hv:=rY S4;have dL:¬w4.heap.size=R:=by have:=S4.rd.lt;omega)|(go_at_call 48;refine(iC (p:=q) ⟨S5.rd⟩ hs (by have:=HQ.out;omega) (by omega)).mono ?_;rintro e w5 ⟨rfl,hb5,hk5⟩;replace S5:=S5.atR hk5 hb5.rd;replace aL:=aL.bW hk5;replace hP:=hP.keeps hk5 dL;clear hb5 hk5;obtain⟨d0,d1,d2,d3,d4,d5,d6,df⟩:=hP.facts;have hP2:=(hP.aX false).keeps ((Za.refl ai _).alloc (.cells #[.int .i64 ((L.length:Int)+(f L.length).length-1)] 3)) id;obtain⟨e0,e1,e2,e3,e4,e5,e6,ef⟩:=hP2.facts;clear hP2;replace S5:=S5.ry hP hv (ZO _ _ 2 (.int .i64 1));replace aL:=aL.on (ZO w5 w4.heap.size 2 (.int .i64 1)) (fun i hi' h=>by have:=aU.keeps.size;omega);replace hP:=hP.set2 1)|(go_at_call 48;refine(jJ (p:=q+1) ⟨S5.rd⟩ hs (by have:=HQ.out;omega) (by omega)).mono ?_;rintro e w5 ⟨rfl,hb5,hk5⟩;replace S5:=S5.atR hk5 hb5.rd;replace aL:=aL.bW hk5;replace hP:=hP.keeps hk5 dL;clear hb5 hk5;obtain⟨d0,d1,d2,d3,d4,d5,d6,df⟩:=hP.facts;have hP2:=(hP.aX false).keeps ((Za.refl ai _).alloc (.cells #[.int .i64 ((L.length:Int)+(f L.length).length-1)] 3)) id;obtain⟨e0,e1,e2,e3,e4,e5,e6,ef⟩:=hP2.facts;clear hP2)|(go_at_call 48;refine(jJ (p:=q) ⟨S5.rd⟩ hs (by have:=HQ.out;omega) (by omega)).mono ?_;rintro e w5 ⟨rfl,hb5,hk5⟩;replace S5:=S5.atR hk5 hb5.rd;replace aL:=aL.bW hk5;replace hP:=hP.keeps hk5 dL;clear hb5 hk5)|(go_at_call 49;refine(iM (S5.fin hP hv rfl false _).1 _ (S5.fin hP hv rfl false _).2.1 (by have:=ZK cO;omega) (aL.on (S5.fin hP hv rfl false _).2.2 (fun i hi' h=>by have:=aU.keeps.size;omega)) dw (by intro k hk;simp[Value.ownBlock] at hk;subst hk;exact aL.keeps.size)).mono ?_;rintro e w6 ⟨rfl,v6,S6,dI,dR⟩))
 go_ret;refine Qi HE.out S6 ?_ (by have:=ZK cO;simp[Z5];omega) dI dR;rw[List.map_append,cO];simp[Z5,x9]
theorem ZjR{alt:Nat->Nat->aS}{room:Bool}(S:Sp w R s p (-1) g v L)(hs:s.size<=120)(hp:p<s.size)(G:ed s alt)(hg:g<=9)
  (hF:L.length+3*(s.size-p)<=1000) (hA:qw s alt room deep B) (hB:1005<=B) (fE:B<=6000) {f:Pf} {q g':Nat} (he:Zd alt room s p g=.ok (f,q,g')) (hq:bt s q=63) (hl:bt s (q+1)≠63) :
  au 73 #[ae R,.int .i64 deep] w (QM (Zm alt room s p g) R s (B+1) w v L):=by
 have hpos:=ZZ G hp hg he;have hlen:=hpos.2.2.2 L.length;have HE:Hid (Zm alt room s p g=.ok (Z5 0 (1) false f,q+1,g')):=by show _ = _;simp[Zm,he,ZG,hq,hl]
 have HX:Hid (Zd alt room s p g=.ok (f,q,g')):=he;have HQ:Hid (bt s q=63/\bt s (q+1)≠63):=⟨hq,hl⟩;clear hq hl;clear he;go_enter Tryz.func73,Tryz.ntmps73;go_wp2_with(first|(go_at_call 92;refine(hA _ _ _ _ _ _ S hs hp hg hF).mono ?_;intro e w4 hpo;unfold QM at hpo;rw[HX.out] at hpo;obtain⟨v4,L4,rfl,S4,cO,aU,dw⟩:=hpo;have S5:=S4.alloc (.cells #[.int .i64 4,.slice none 0 0,.int .i64 0,.int .i64 (-1),.bool false,.int .i64 0,.slice none 0 0] 114);have aL:=aU.same ((Za.refl ai w4).alloc (.cells #[.int .i64 4,.slice none 0 0,.int .i64 0,.int .i64 (-1),.bool false,.int .i64 0,.slice none 0 0] 114));have hP:=Pb.made w4;have hv:=rY S4;have dL:¬w4.heap.size=R:=by have:=S4.rd.lt;omega)|(go_at_call 48;refine(iC (p:=q) ⟨S5.rd⟩ hs (by have:=HQ.out;omega) (by omega)).mono ?_;rintro e w5 ⟨rfl,hb5,hk5⟩;replace S5:=S5.atR hk5 hb5.rd;replace aL:=aL.bW hk5;replace hP:=hP.keeps hk5 dL;clear hb5 hk5;obtain⟨d0,d1,d2,d3,d4,d5,d6,df⟩:=hP.facts;have hP2:=(hP.aX false).keeps ((Za.refl ai _).alloc (.cells #[.int .i64 ((L.length:Int)+(f L.length).length-1)] 3)) id;obtain⟨e0,e1,e2,e3,e4,e5,e6,ef⟩:=hP2.facts;clear hP2;replace S5:=S5.ry hP hv (ZO _ _ 3 (.int .i64 1));replace aL:=aL.on (ZO w5 w4.heap.size 3 (.int .i64 1)) (fun i hi' h=>by have:=aU.keeps.size;omega);replace hP:=hP.iQ 1)|(go_at_call 48;refine(jJ (p:=q+1) ⟨S5.rd⟩ hs (by have:=HQ.out;omega) (by omega)).mono ?_;rintro e w5 ⟨rfl,hb5,hk5⟩;replace S5:=S5.atR hk5 hb5.rd;replace aL:=aL.bW hk5;replace hP:=hP.keeps hk5 dL;clear hb5 hk5;obtain⟨d0,d1,d2,d3,d4,d5,d6,df⟩:=hP.facts;have hP2:=(hP.aX false).keeps ((Za.refl ai _).alloc (.cells #[.int .i64 ((L.length:Int)+(f L.length).length-1)] 3)) id;obtain⟨e0,e1,e2,e3,e4,e5,e6,ef⟩:=hP2.facts;clear hP2)|(go_at_call 48;refine(jJ (p:=q) ⟨S5.rd⟩ hs (by have:=HQ.out;omega) (by omega)).mono ?_;rintro e w5 ⟨rfl,hb5,hk5⟩;replace S5:=S5.atR hk5 hb5.rd;replace aL:=aL.bW hk5;replace hP:=hP.keeps hk5 dL;clear hb5 hk5)|(go_at_call 49;refine(iM (S5.fin hP hv rfl false _).1 _ (S5.fin hP hv rfl false _).2.1 (by have:=ZK cO;omega) (aL.on (S5.fin hP hv rfl false _).2.2 (fun i hi' h=>by have:=aU.keeps.size;omega)) dw (by intro k hk;simp[Value.ownBlock] at hk;subst hk;exact aL.keeps.size)).mono ?_;rintro e w6 ⟨rfl,v6,S6,dI,dR⟩))
 go_ret;refine Qi HE.out S6 ?_ (by have:=ZK cO;simp[Z5];omega) dI dR;rw[List.map_append,cO];simp[Z5,x9]
end Go.Proofs.YtfkflljplohhcaaGreatDoor
