import Derived.Test.YtfkflljplohhcaaGreatDoorB
import Derived.Deep.CutRange
set_option linter.unusedVariables false
set_option maxHeartbeats 1000000
set_option maxRecDepth 1000000
namespace Go.Proofs.YtfkflljplohhcaaGreatDoor
open Go.RowKit
def Er (R I:Nat):Nat->Prop:=fun k=>k=R\/k=I
variable {w w1 w2 w':World}{I R p a from_ lo hi q2 x q1:Nat}{S:Bs}{s:ByteArray}{g b:Int}{v:Value}{o:Option Nat}{fi:Bool}
theorem Mv(h:In w I S)(a b:Int)(a0:0<=a)(a1:a<=255)(b0:0<=b)(b1:b<=255):
  au 121 #[.slice (some ⟨I,0,none⟩) 256 256,.int .i64 a,.int .i64 b] w fun e w'=>e=.returned (.tuple #[])/\In w' I (un S (eH a.toNat b.toNat))/\Za (·=I) w w':=by
 obtain⟨m,rfl⟩:=Int.eq_ofNat_of_zero_le a0;obtain⟨n,rfl⟩:=Int.eq_ofNat_of_zero_le b0;exact Zdy h m n (by omega) (by omega)
def Z6 (s:ByteArray) (p R I:Nat) (g:Int) (v:Value) (S:Bs) (w:World) (e:Ending) (w':World):Prop :=
 match Zt s p with
 | .ok (T,o,q)=>e=.returned (.tuple #[.int .i64 ((o.getD 0:Nat):Int),.bool o.isSome])/\Rd w' R s q (-1) g v/\In w' I (un S T)/\Za (Er R I) w w'
 | .error x=>e=.returned (.tuple #[.int .i64 0,.bool false])/\Rd w' R s x x g v/\(∃S',In w' I S')/\Za (Er R I) w w'
theorem kR(h:Za (Er R I) w w1)(k:Za (·=R) w1 w2):Za (Er R I) w w2:=h.trans (k.mono fun _ _ h=>Or.inl h)
theorem kI(h:Za (Er R I) w w1)(k:Za (·=I) w1 w2):Za (Er R I) w w2:=h.trans (k.mono fun _ _ h=>Or.inr h)
theorem kN(h:Za (Er R I) w w1)(k:∃n,w2=w1.drewN n):Za (Er R I) w w2:=by obtain⟨n,rfl⟩:=k;exact h.drewN n
theorem Zks(hR:Rd w R s p (-1) g v)(hI:In w I S)(hne:R≠I)(hs:s.size<=120)(hp:¬p<s.size):
  au 122 #[ae R,.slice (some ⟨I,0,none⟩) 256 256] w (Z6 s p R I g v S w):=by
 have HE:Hid (Zt s p=.error p):=by show _ = _;unfold Zt;rw[if_pos (Z7 hp)]
 go_enter Tryz.func122,Tryz.ntmps122;go_wp2_with(first|(go_at_call 27;refine(zB hR hs hp).mono ?_;rintro e w1 ⟨rfl,n,rfl⟩)|(go_at_call 28;refine(DU (hR.drewN _)).mono ?_;rintro e w1 ⟨rfl,rfl⟩))
 go_ret2;unfold Z6;rw[HE.out];exact⟨rfl,(hR.drewN _).set2 _,⟨S,hI.keeps (((Za.refl (·=R) w).drewN _).setCell (fun _=>rfl) _) (fun h=>hne h.symm)⟩,((Za.refl _ _).drewN _).setCell (fun _=>Or.inl rfl) _⟩
theorem ZpX(hR:Rd w R s p (-1) g v)(hI:In w I S)(hne:R≠I)(hs:s.size<=120)(hp:p<s.size)(hb:bt s p=100):
  au 122 #[ae R,.slice (some ⟨I,0,none⟩) 256 256] w (Z6 s p R I g v S w):=by
 have HE:Hid (Zt s p=.ok (eH 48 57,none,p+1)):=by show _ = _;unfold Zt;simp[hb]
 have c0:=hR.c0;have c1:=hR.c1;have hpz:(p:Int)<(s.size:Int):=by omega
 have hbz:(s[p].toNat:Int)=100:=by rw[ZX hp] at hb;omega
 clear hb;go_enter Tryz.func122,Tryz.ntmps122;go_wp2_with(first|(go_at_call 27;refine(ZN hR hs hp).mono ?_;rintro e w1 ⟨rfl,n,rfl⟩))
 go_quiet (fail);have aK:Rd ((w.drewN n).drewN nq) R s p (-1) g v:=hR;have hI1:In ((w.drewN n).drewN nq) I S:=hI;have hK1:Za (Er R I) w ((w.drewN n).drewN nq):=((Za.refl _ _).drewN _).drewN _;clear c0 c1 hI;generalize (w.drewN n).drewN nq=w1 at aK hI1 hK1 ⊢;have c0:=aK.c0;have c1:=aK.c1;have f1:=aK.fz 1;go_wp2_with(first|(go_at_call 121;refine(Mv (by assumption) _ _ (by omega) (by omega) (by omega) (by omega)).mono ?_;rintro e w2 ⟨rfl,hI2,hk2⟩;have hR2:=Rd.keeps (by assumption) hk2 hne;have hK2:=kI (by assumption) hk2;have c2:=hR2.c1;have f2:=hR2.fz 1))
 go_ret2;unfold Z6;rw[HE.out];exact⟨rfl,hR2.set1 _,(hI2.keeps ((Za.refl (·=R) _).setCell (fun _=>rfl) _) (fun h=>hne h.symm)).congr (fun x _=>by simp[un]),hK2.setCell (fun _=>Or.inl rfl) _⟩
theorem ZpS(hR:Rd w R s p (-1) g v)(hI:In w I S)(hne:R≠I)(hs:s.size<=120)(hp:p<s.size)(hb:bt s p=119):
  au 122 #[ae R,.slice (some ⟨I,0,none⟩) 256 256] w (Z6 s p R I g v S w):=by
 have HE:Hid (Zt s p=.ok (Dv,none,p+1)):=by show _ = _;unfold Zt;simp[hb]
 have c0:=hR.c0;have c1:=hR.c1;have hpz:(p:Int)<(s.size:Int):=by omega
 have hbz:(s[p].toNat:Int)=119:=by rw[ZX hp] at hb;omega
 clear hb;go_enter Tryz.func122,Tryz.ntmps122;go_wp2_with(first|(go_at_call 27;refine(ZN hR hs hp).mono ?_;rintro e w1 ⟨rfl,n,rfl⟩))
 go_quiet (fail);have aK:Rd ((w.drewN n).drewN nq) R s p (-1) g v:=hR;have hI1:In ((w.drewN n).drewN nq) I S:=hI;have hK1:Za (Er R I) w ((w.drewN n).drewN nq):=((Za.refl _ _).drewN _).drewN _;clear c0 c1 hI;generalize (w.drewN n).drewN nq=w1 at aK hI1 hK1 ⊢;have c0:=aK.c0;have c1:=aK.c1;have f1:=aK.fz 1;go_wp2_with(first|(go_at_call 121;refine(Mv (by assumption) _ _ (by omega) (by omega) (by omega) (by omega)).mono ?_;rintro e w2 ⟨rfl,hI2,hk2⟩;have hR2:=Rd.keeps (by assumption) hk2 hne;have hK2:=kI (by assumption) hk2;have c2:=hR2.c1;have f2:=hR2.fz 1))
 go_ret2;unfold Z6;rw[HE.out];exact⟨rfl,hR2.set1 _,(hI2.keeps ((Za.refl (·=R) _).setCell (fun _=>rfl) _) (fun h=>hne h.symm)).congr (fun x _=>by simp[un,Dv,Bool.or_assoc]),hK2.setCell (fun _=>Or.inl rfl) _⟩
theorem ZpU(hR:Rd w R s p (-1) g v)(hI:In w I S)(hne:R≠I)(hs:s.size<=120)(hp:p<s.size)(hb:bt s p=115):
  au 122 #[ae R,.slice (some ⟨I,0,none⟩) 256 256] w (Z6 s p R I g v S w):=by
 have HE:Hid (Zt s p=.ok (DC,none,p+1)):=by show _ = _;unfold Zt;simp[hb]
 have c0:=hR.c0;have c1:=hR.c1;have hpz:(p:Int)<(s.size:Int):=by omega
 have hbz:(s[p].toNat:Int)=115:=by rw[ZX hp] at hb;omega
 clear hb;go_enter Tryz.func122,Tryz.ntmps122;go_wp2_with(first|(go_at_call 27;refine(ZN hR hs hp).mono ?_;rintro e w1 ⟨rfl,n,rfl⟩))
 go_quiet (fail);have aK:Rd ((w.drewN n).drewN nq) R s p (-1) g v:=hR;have hI1:In ((w.drewN n).drewN nq) I S:=hI;have hK1:Za (Er R I) w ((w.drewN n).drewN nq):=((Za.refl _ _).drewN _).drewN _;clear c0 c1 hI;generalize (w.drewN n).drewN nq=w1 at aK hI1 hK1 ⊢;have c0:=aK.c0;have c1:=aK.c1;have f1:=aK.fz 1;go_wp2_with(first|(go_at_call 121;refine(Mv (by assumption) _ _ (by omega) (by omega) (by omega) (by omega)).mono ?_;rintro e w2 ⟨rfl,hI2,hk2⟩;have hR2:=Rd.keeps (by assumption) hk2 hne;have hK2:=kI (by assumption) hk2;have c2:=hR2.c1;have f2:=hR2.fz 1))
 go_ret2;unfold Z6;rw[HE.out];exact⟨rfl,hR2.set1 _,(hI2.keeps ((Za.refl (·=R) _).setCell (fun _=>rfl) _) (fun h=>hne h.symm)).congr (fun x _=>by simp[un,DC,Bool.or_assoc]),hK2.setCell (fun _=>Or.inl rfl) _⟩
theorem ZpW(hR:Rd w R s p (-1) g v)(hI:In w I S)(hne:R≠I)(hs:s.size<=120)(hp:p<s.size)(hb:bt s p=110):
  au 122 #[ae R,.slice (some ⟨I,0,none⟩) 256 256] w (Z6 s p R I g v S w):=by
 have HE:Hid (Zt s p=.ok (one 10,some 10,p+1)):=by show _ = _;unfold Zt;simp[hb]
 have c0:=hR.c0;have c1:=hR.c1;have hpz:(p:Int)<(s.size:Int):=by omega
 have hbz:(s[p].toNat:Int)=110:=by rw[ZX hp] at hb;omega
 clear hb;go_enter Tryz.func122,Tryz.ntmps122;go_wp2_with(first|(go_at_call 27;refine(ZN hR hs hp).mono ?_;rintro e w1 ⟨rfl,n,rfl⟩))
 go_quiet (fail);have aK:Rd ((w.drewN n).drewN nq) R s p (-1) g v:=hR;have hI1:In ((w.drewN n).drewN nq) I S:=hI;have hK1:Za (Er R I) w ((w.drewN n).drewN nq):=((Za.refl _ _).drewN _).drewN _;clear c0 c1 hI;generalize (w.drewN n).drewN nq=w1 at aK hI1 hK1 ⊢;have c0:=aK.c0;have c1:=aK.c1;have f1:=aK.fz 1;have d1:(w1.setCell ⟨R,1,none⟩ (.int .i64 (p+1))).cell? ⟨I,10,none⟩=some (.bool (S 10)):=by
  rw[World.cell?_setCell_other _ _ _ _ (by intro h;injection h with h1;exact hne h1)];exact hI1.cell (by decide)
 have d2:(w1.setCell ⟨R,1,none⟩ (.int .i64 (p+1))).frozen? ⟨I,10,none⟩=false:=by
  rw[World.frozen?_setCell];exact hI1.fz _
 go_wp2;go_ret2;unfold Z6;rw[HE.out];exact⟨rfl,(aK.set1 _).keeps ((Za.refl (·=I) _).setCell (fun _=>rfl) _) hne,(hI1.keeps ((Za.refl (·=R) _).setCell (fun _=>rfl) _) (fun h=>hne h.symm)).gM 10,(hK1.setCell (fun _=>Or.inl rfl) _).setCell (fun _=>Or.inr rfl) _⟩
theorem ZpT(hR:Rd w R s p (-1) g v)(hI:In w I S)(hne:R≠I)(hs:s.size<=120)(hp:p<s.size)(hb:bt s p=116):
  au 122 #[ae R,.slice (some ⟨I,0,none⟩) 256 256] w (Z6 s p R I g v S w):=by
 have HE:Hid (Zt s p=.ok (one 9,some 9,p+1)):=by show _ = _;unfold Zt;simp[hb]
 have c0:=hR.c0;have c1:=hR.c1;have hpz:(p:Int)<(s.size:Int):=by omega
 have hbz:(s[p].toNat:Int)=116:=by rw[ZX hp] at hb;omega
 clear hb;go_enter Tryz.func122,Tryz.ntmps122;go_wp2_with(first|(go_at_call 27;refine(ZN hR hs hp).mono ?_;rintro e w1 ⟨rfl,n,rfl⟩))
 go_quiet (fail);have aK:Rd ((w.drewN n).drewN nq) R s p (-1) g v:=hR;have hI1:In ((w.drewN n).drewN nq) I S:=hI;have hK1:Za (Er R I) w ((w.drewN n).drewN nq):=((Za.refl _ _).drewN _).drewN _;clear c0 c1 hI;generalize (w.drewN n).drewN nq=w1 at aK hI1 hK1 ⊢;have c0:=aK.c0;have c1:=aK.c1;have f1:=aK.fz 1;have d1:(w1.setCell ⟨R,1,none⟩ (.int .i64 (p+1))).cell? ⟨I,9,none⟩=some (.bool (S 9)):=by
  rw[World.cell?_setCell_other _ _ _ _ (by intro h;injection h with h1;exact hne h1)];exact hI1.cell (by decide)
 have d2:(w1.setCell ⟨R,1,none⟩ (.int .i64 (p+1))).frozen? ⟨I,9,none⟩=false:=by
  rw[World.frozen?_setCell];exact hI1.fz _
 go_wp2;go_ret2;unfold Z6;rw[HE.out];exact⟨rfl,(aK.set1 _).keeps ((Za.refl (·=I) _).setCell (fun _=>rfl) _) hne,(hI1.keeps ((Za.refl (·=R) _).setCell (fun _=>rfl) _) (fun h=>hne h.symm)).gM 9,(hK1.setCell (fun _=>Or.inl rfl) _).setCell (fun _=>Or.inr rfl) _⟩
theorem ZpV(hR:Rd w R s p (-1) g v)(hI:In w I S)(hne:R≠I)(hs:s.size<=120)(hp:p<s.size)(hb:bt s p=114):
  au 122 #[ae R,.slice (some ⟨I,0,none⟩) 256 256] w (Z6 s p R I g v S w):=by
 have HE:Hid (Zt s p=.ok (one 13,some 13,p+1)):=by show _ = _;unfold Zt;simp[hb]
 have c0:=hR.c0;have c1:=hR.c1;have hpz:(p:Int)<(s.size:Int):=by omega
 have hbz:(s[p].toNat:Int)=114:=by rw[ZX hp] at hb;omega
 clear hb;go_enter Tryz.func122,Tryz.ntmps122;go_wp2_with(first|(go_at_call 27;refine(ZN hR hs hp).mono ?_;rintro e w1 ⟨rfl,n,rfl⟩))
 go_quiet (fail);have aK:Rd ((w.drewN n).drewN nq) R s p (-1) g v:=hR;have hI1:In ((w.drewN n).drewN nq) I S:=hI;have hK1:Za (Er R I) w ((w.drewN n).drewN nq):=((Za.refl _ _).drewN _).drewN _;clear c0 c1 hI;generalize (w.drewN n).drewN nq=w1 at aK hI1 hK1 ⊢;have c0:=aK.c0;have c1:=aK.c1;have f1:=aK.fz 1;have d1:(w1.setCell ⟨R,1,none⟩ (.int .i64 (p+1))).cell? ⟨I,13,none⟩=some (.bool (S 13)):=by
  rw[World.cell?_setCell_other _ _ _ _ (by intro h;injection h with h1;exact hne h1)];exact hI1.cell (by decide)
 have d2:(w1.setCell ⟨R,1,none⟩ (.int .i64 (p+1))).frozen? ⟨I,13,none⟩=false:=by
  rw[World.frozen?_setCell];exact hI1.fz _
 go_wp2;go_ret2;unfold Z6;rw[HE.out];exact⟨rfl,(aK.set1 _).keeps ((Za.refl (·=I) _).setCell (fun _=>rfl) _) hne,(hI1.keeps ((Za.refl (·=R) _).setCell (fun _=>rfl) _) (fun h=>hne h.symm)).gM 13,(hK1.setCell (fun _=>Or.inl rfl) _).setCell (fun _=>Or.inr rfl) _⟩
theorem ZhQ(hR:Rd w R s p (-1) g v)(hI:In w I S)(hne:R≠I)(hs:s.size<=120)(hp:p<s.size)
  (hb:33<=bt s p/\bt s p<48\/57<bt s p/\bt s p<65\/90<bt s p/\bt s p<97\/122<bt s p/\bt s p<=126) :
  au 122 #[ae R,.slice (some ⟨I,0,none⟩) 256 256] w (Z6 s p R I g v S w):=by
 have HE:Hid (Zt s p=.ok (one (bt s p),some (bt s p),p+1)):=by
  show _ = _;unfold Zt;rw[if_neg (by omega),if_neg (by omega),if_neg (by omega),if_neg (by omega),if_neg (by omega),if_neg (by omega),if_neg (by omega),if_neg (by omega),if_neg];simp[JH,ZI,printed];omega
 have c0:=hR.c0;have c1:=hR.c1;have hpz:(p:Int)<(s.size:Int):=by omega
 have hc:s[p].toNat=bt s p:=(ZX hp).symm;have hlt:=Jh hp;obtain⟨c,hcc⟩:∃c,bt s p=c:=⟨_,rfl⟩;rw[hcc] at HE hb hc hlt;clear hcc
 rcases hb with hb | hb | hb | hb <;>
 ·obtain⟨hb1,hb2⟩:=hb;have hcz:(c:Int)<256:=by omega
  go_enter Tryz.func122,Tryz.ntmps122;go_wp2_with(first|(go_at_call 27;refine(ZN hR hs hp).mono ?_;rintro e w1 ⟨rfl,n,rfl⟩))
  go_quiet (fail);have aK:Rd ((w.drewN n).drewN nq) R s p (-1) g v:=hR;have hI1:In ((w.drewN n).drewN nq) I S:=hI;have hK1:Za (Er R I) w ((w.drewN n).drewN nq):=((Za.refl _ _).drewN _).drewN _;clear c0 c1 hI;generalize (w.drewN n).drewN nq=w1 at aK hI1 hK1 ⊢;have c0:=aK.c0;have c1:=aK.c1;have f1:=aK.fz 1;have d1:(w1.setCell ⟨R,1,none⟩ (.int .i64 (p+1))).cell? ⟨I,c,none⟩=some (.bool (S c)):=by
   rw[World.cell?_setCell_other _ _ _ _ (by intro h;injection h with h1;exact hne h1)];exact hI1.cell hlt
  have d2:(w1.setCell ⟨R,1,none⟩ (.int .i64 (p+1))).frozen? ⟨I,c,none⟩=false:=by
   rw[World.frozen?_setCell];exact hI1.fz _
  go_wp2;go_ret2;unfold Z6;rw[HE.out];exact⟨rfl,(aK.set1 _).keeps ((Za.refl (·=I) _).setCell (fun _=>rfl) _) hne,(hI1.keeps ((Za.refl (·=R) _).setCell (fun _=>rfl) _) (fun h=>hne h.symm)).gM c,(hK1.setCell (fun _=>Or.inl rfl) _).setCell (fun _=>Or.inr rfl) _⟩
theorem Zkr(hR:Rd w R s p (-1) g v)(hI:In w I S)(hne:R≠I)(hs:s.size<=120)(hp:p<s.size)
  (hb:(bt s p<33\/126<bt s p\/48<=bt s p/\bt s p<=57\/65<=bt s p/\bt s p<=90\/97<=bt s p/\bt s p<=122)/\bt s p≠100/\bt s p≠119/\bt s p≠115/\bt s p≠110/\bt s p≠116/\bt s p≠114/\bt s p≠120) :
  au 122 #[ae R,.slice (some ⟨I,0,none⟩) 256 256] w (Z6 s p R I g v S w):=by
 have HE:Hid (Zt s p=.error p):=by
  have hlt:=Jh hp;show _ = _;unfold Zt;rw[if_neg (by omega),if_neg (by omega),if_neg (by omega),if_neg (by omega),if_neg (by omega),if_neg (by omega),if_neg (by omega),if_neg (by omega),if_pos];simp[JH,ZI,printed];omega
 have c0:=hR.c0;have c1:=hR.c1;have hpz:(p:Int)<(s.size:Int):=by omega
 have hc:s[p].toNat=bt s p:=(ZX hp).symm;have hlt:=Jh hp;obtain⟨c,hcc⟩:∃c,bt s p=c:=⟨_,rfl⟩;rw[hcc] at hb hc hlt;clear hcc;obtain⟨hb,n1,n2,n3,n4,n5,n6,n7⟩:=hb
 rcases hb with hb | hb | hb | hb | hb <;>
 ·go_enter Tryz.func122,Tryz.ntmps122;go_wp2_with(first|(go_at_call 27;refine(ZN hR hs hp).mono ?_;rintro e w1 ⟨rfl,n,rfl⟩))
  go_quiet (fail);have aK:Rd ((w.drewN n).drewN nq) R s p (-1) g v:=hR;have hI1:In ((w.drewN n).drewN nq) I S:=hI;have hK1:Za (Er R I) w ((w.drewN n).drewN nq):=((Za.refl _ _).drewN _).drewN _;clear c0 c1 hI;generalize (w.drewN n).drewN nq=w1 at aK hI1 hK1 ⊢;have c0:=aK.c0;have c1:=aK.c1;have f1:=aK.fz 1;go_wp2_with(first|(go_at_call 28;refine(DU aK).mono ?_;rintro e w2 ⟨rfl,rfl⟩))
  go_ret2;unfold Z6;rw[HE.out];exact⟨rfl,aK.set2 _,⟨S,hI1.keeps ((Za.refl (·=R) _).setCell (fun _=>rfl) _) (fun h=>hne h.symm)⟩,hK1.setCell (fun _=>Or.inl rfl) _⟩
def BM (s:ByteArray) (p k:Nat) (n:Int):Prop :=
 (k=0/\n=0)\/(k=1/\∃a,Jm (bt s (p+1))=some a/\n=(a:Int))\/(k=2/\∃a b,Jm (bt s (p+1))=some a/\Jm (bt s (p+2))=some b/\n=((a*16+b:Nat):Int))
theorem ZmM{k:Nat}{n:Int}(h:BM s p k n):0<=n/\n<=255/\(k<=1->n<=15):=by
 rcases h with⟨_,rfl⟩ | ⟨_,a,ha,rfl⟩ | ⟨_,a,b,ha,hb,rfl⟩
 ·omega
 ·have:=JC ha;omega
 ·have:=JC ha;have:=JC hb;omega
theorem Zm7(hb:bt s p=120)(h1:Jm (bt s (p+1))=none):Zt s p=.error (p+1):=by
 unfold Zt;simp[hb,h1]
theorem Zm6(hb:bt s p=120)(h1:Jm (bt s (p+1))=some a)(h2:Jm (bt s (p+2))=none):Zt s p=.error (p+2):=by
 unfold Zt;simp[hb,h1,h2]
theorem Zm5{b:Nat}(hb:bt s p=120)(h1:Jm (bt s (p+1))=some a)(h2:Jm (bt s (p+2))=some b):Zt s p=.ok (one (a*16+b),some (a*16+b),p+3):=by
 unfold Zt;simp[hb,h1,h2]
theorem Zet{k:Nat}{n:Int}(hb:bt s p=120)(h:BM s p k n)(hk:k<2)(hx:Jm (bt s (p+1+k))=none):Zt s p=.error (p+1+k):=by
 rcases h with⟨rfl,rfl⟩ | ⟨rfl,a,ha,rfl⟩ | ⟨rfl,_⟩
 ·exact Zm7 hb hx
 ·exact Zm6 hb ha hx
 ·omega
theorem ZmL{n:Int}(hb:bt s p=120)(h:BM s p 2 n):∃m:Nat,m<256/\n=(m:Int)/\Zt s p=.ok (one m,some m,p+3):=by
 rcases h with⟨h,_⟩ | ⟨h,_⟩ | ⟨_,a,b,ha,hb',rfl⟩
 ·omega
 ·omega
 ·have:=JC ha;have:=JC hb'
  exact⟨a*16+b,by omega,rfl,Zm5 hb ha hb'⟩
theorem ZhK{k:Nat}{n:Int}(h:BM s p k n)(hk:k<2)(hx:Jm (bt s (p+1+k))=some a):BM s p (k+1) (n*16+(a:Int)):=by
 rcases h with⟨rfl,rfl⟩ | ⟨rfl,b,hb,rfl⟩ | ⟨rfl,_⟩
 ·exact Or.inr (Or.inl ⟨rfl,a,hx,by omega⟩)
 ·exact Or.inr (Or.inr ⟨rfl,b,a,hb,hx,by omega⟩)
 ·omega
theorem ZmJ{b:Nat}(h:Jm b=none):nz b = -1:=by simp[nz,h]
theorem ZmI{b v:Nat}(h:Jm b=some v):nz b=(v:Int):=by simp[nz,h]
theorem ZpC:Jm 256=none:=by decide
theorem ZpR(hR:Rd w R s p (-1) g v)(hI:In w I S)(hne:R≠I)(hs:s.size<=120)(hp:p<s.size)(hb:bt s p=120):
  au 122 #[ae R,.slice (some ⟨I,0,none⟩) 256 256] w (Z6 s p R I g v S w):=by
 have c0:=hR.c0;have c1:=hR.c1;have hpz:(p:Int)<(s.size:Int):=by omega
 have hbz:(s[p].toNat:Int)=120:=by rw[ZX hp] at hb;omega
 have HB:Hid (bt s p=120):=hb;clear hb;go_enter Tryz.func122,Tryz.ntmps122;go_wp2_with(first|(go_at_call 27;refine(ZN hR hs hp).mono ?_;rintro e w1 ⟨rfl,n,rfl⟩))
 go_quiet (fail);have aK:Rd ((w.drewN n).drewN nq) R s p (-1) g v:=hR;have hI1:In ((w.drewN n).drewN nq) I S:=hI;have hK1:Za (Er R I) w ((w.drewN n).drewN nq):=((Za.refl _ _).drewN _).drewN _;clear c0 c1 hI;generalize (w.drewN n).drewN nq=w1 at aK hI1 hK1 ⊢;have c0:=aK.c0;have c1:=aK.c1;have f1:=aK.fz 1;go_wp2;go_loopw [8,9] (fun x y wr =>∃(k:Nat) (n:Int),k<=2/\y=.int .i64 k/\x=.int .i64 n/\BM s p k n/\Rd wr R s ((p+1+k:Nat):Int) (-1) g v/\In wr I S/\Za (Er R I) w wr) (fun _ y _=>2-(intOf y).toNat)
 case atStart=>exact⟨0,0,by omega,rfl,rfl,Or.inl ⟨rfl,rfl⟩,aK.set1 _,hI1.keeps ((Za.refl (·=R) _).setCell (fun _=>rfl) _) (fun h=>hne h.symm),hK1.setCell (fun _=>Or.inl rfl) _⟩
 case round =>
  clear c0 c1 f1 aK hI1 hK1 hpz hbz;obtain⟨k,n,hk,rfl,rfl,hacc,hR2,hI2,hK2⟩:=hrel;have hbd:=ZmM hacc;obtain⟨q,hq⟩:∃q,p+1+k=q:=⟨_,rfl⟩;rw[hq] at hR2;have c0:=hR2.c0;have c1:=hR2.c1;have f1:=hR2.fz 1;have HA:Hid (BM s p k n):=hacc;have HQ:Hid (p+1+k=q):=hq;have hq':p+1+k<=q/\q<=p+3:=by omega
  clear hacc hq
  by_cases hlt:k<2
  ·by_cases hin:q<s.size
   ·have hqz:(q:Int)<(s.size:Int):=by omega
    have hc:s[q].toNat=bt s q:=(ZX hin).symm;have hcl:=Jh hin
    cases hx:Jm (bt s q) with
    | none =>
      have hi:nz (bt s q) = -1:=ZmJ hx;have HE:Hid (Zt s p=.error q):=by
       have e:=HQ.out;subst e;exact Zet HB.out HA.out hlt hx
      clear hx;go_wp2;go_quiet (first|(go_at_call 27;exact Calls.quiet_of (ZN (hR2.drewN _) hs hin))|(go_at_call 142;exact Calls.quiet_of_same (TM _ _ hcl)))
      go_wp2_with(first|(go_at_call 28;refine(DU (hR2.drewN _)).mono ?_;rintro e w2 ⟨rfl,rfl⟩))
      go_ret2;unfold Z6;rw[HE.out];exact⟨rfl,(hR2.drewN _).set2 _,⟨S,hI2.keeps (((Za.refl (·=R) _).drewN _).setCell (fun _=>rfl) _) (fun h=>hne h.symm)⟩,(hK2.drewN _).setCell (fun _=>Or.inl rfl) _⟩
    | some d =>
      have hi:nz (bt s q)=(d:Int):=ZmI hx;have hd:=JC hx;have HX:Hid (Jm (bt s q)=some d):=hx;have hn:n<=15:=hbd.2.2 (by omega);obtain⟨hn0,_,_⟩:=hbd;clear hx;go_wp2;go_quiet (first|(go_at_call 27;exact Calls.quiet_of (ZN (hR2.drewN _) hs hin))|(go_at_call 142;exact Calls.quiet_of_same (TM _ _ hcl)))
      replace hR2:=hR2.drewN nq;replace hI2:=hI2.drewN nq;replace hK2:=hK2.drewN nq;clear c0 c1 f1;generalize wr.drewN nq=w3 at hR2 hI2 hK2 ⊢;have c0:=hR2.c0;have c1:=hR2.c1;have f1:=hR2.fz 1;go_wp2;go_quiet ((go_at_call 142;exact Calls.quiet_of_same (TM _ _ hcl)));go_wp2;go_roundw
      case rel =>
       refine⟨k+1,n*16+(d:Int),by omega,by go_num,by go_num,?_,?_,?_,?_⟩
       ·have e:=HQ.out;have hx:=HX.out;rw[<- e] at hx;exact ZhK HA.out hlt hx
       ·have e:=HQ.out
        have:=(hR2.drewN nq).set1 ((q:Int)+1)
        have e2:((q:Int)+1)=((p+1+(k+1):Nat):Int):=by omega
        rw[<- e2];exact this
       ·exact hI2.keeps (((Za.refl (·=R) _).drewN _).setCell (fun _=>rfl) _) (fun h=>hne h.symm)
       ·exact(hK2.drewN _).setCell (fun _=>Or.inl rfl) _
      case measure=>simp[intOf];omega
   ·have HE:Hid (Zt s p=.error q):=by
     have e:=HQ.out;have hx:Jm (bt s q)=none:=by rw[Z7 hin];exact ZpC
     subst e;exact Zet HB.out HA.out hlt hx
    go_wp2;go_quiet ((go_at_call 27;exact Calls.quiet_of (zB (hR2.drewN _) hs hin)));go_wp2_with(first|(go_at_call 28;refine(DU (hR2.drewN _)).mono ?_;rintro e w2 ⟨rfl,rfl⟩))
    go_ret2;unfold Z6;rw[HE.out];exact⟨rfl,(hR2.drewN _).set2 _,⟨S,hI2.keeps (((Za.refl (·=R) _).drewN _).setCell (fun _=>rfl) _) (fun h=>hne h.symm)⟩,(hK2.drewN _).setCell (fun _=>Or.inl rfl) _⟩
  ·obtain rfl:k=2:=by omega
   obtain⟨m,hm,hnm,he⟩:=ZmL HB.out HA.out;have HE:Hid (Zt s p=.ok (one m,some m,p+3)):=he;have hmz:(m:Int)<256:=by omega
   obtain rfl:q=p+3:=by have:=HQ.out;omega
   have d1:=hI2.cell hm;have d2:=hI2.fz m;subst hnm;clear he;go_wp2;go_ret2;unfold Z6;rw[HE.out];exact⟨rfl,hR2.keeps ((Za.refl (·=I) _).setCell (fun _=>rfl) _) hne,hI2.gM m,hK2.setCell (fun _=>Or.inr rfl) _⟩
theorem Zew(hR:Rd w R s p (-1) g v)(hI:In w I S)(hne:R≠I)(hs:s.size<=120):
  au 122 #[ae R,.slice (some ⟨I,0,none⟩) 256 256] w (Z6 s p R I g v S w):=by
 by_cases hp:p<s.size
 ·by_cases h1:bt s p=100
  ·exact ZpX hR hI hne hs hp h1
  by_cases h2:bt s p=119
  ·exact ZpS hR hI hne hs hp h2
  by_cases h3:bt s p=115
  ·exact ZpU hR hI hne hs hp h3
  by_cases h4:bt s p=110
  ·exact ZpW hR hI hne hs hp h4
  by_cases h5:bt s p=116
  ·exact ZpT hR hI hne hs hp h5
  by_cases h6:bt s p=114
  ·exact ZpV hR hI hne hs hp h6
  by_cases h7:bt s p=120
  ·exact ZpR hR hI hne hs hp h7
  by_cases h8:bt s p<33\/126<bt s p\/48<=bt s p/\bt s p<=57\/65<=bt s p/\bt s p<=90\/97<=bt s p/\bt s p<=122
  ·exact Zkr hR hI hne hs hp ⟨h8,h1,h2,h3,h4,h5,h6,h7⟩
  ·exact ZhQ hR hI hne hs hp (by omega)
 ·exact Zks hR hI hne hs hp
def J7 (s:ByteArray) (p R:Nat) (g:Int) (v:Value) (w:World) (e:Ending) (w':World):Prop :=
 match Zu s p with
 | .ok (n,q)=>e=.returned (.int .i64 (if q=p then -1 else (n:Int)))/\Rd w' R s q (-1) g v/\Za (·=R) w w'
 | .error x=>e=.returned (.int .i64 0)/\Rd w' R s x x g v/\Za (·=R) w w'
theorem Zgo{fu n:Nat}(h:ZI (bt s p)=false):ZV s from_ (fu+1) p n=.ok (n,p):=by simp[ZV,h]
theorem Zhz{fu n:Nat}(h:ZI (bt s p)=true)(hb:50<n*10+(bt s p-48)):ZV s from_ (fu+1) p n=.error from_:=by simp[ZV,h,hb]
theorem Zgn{fu n:Nat}(h:ZI (bt s p)=true)(hb:¬50<n*10+(bt s p-48)):ZV s from_ (fu+1) p n=ZV s from_ fu (p+1) (n*10+(bt s p-48)):=by simp[ZV,h,hb]
theorem Ul(hR:Rd w R s p (-1) g v)(hs:s.size<=120)(hp:p<=s.size):
  au 124 #[ae R] w (J7 s p R g v w):=by
 have c1:=hR.c1;go_enter Tryz.func124,Tryz.ntmps124;go_wp2;go_loopg [3] (s.size+1) (fun fu x wr =>∃n q:Nat,n<=50/\p<=q/\q<=s.size/\s.size-q<fu/\x=.int .i64 n/\Aside (ZV s p fu q n=Zu s p)/\Rd wr R s q (-1) g v/\Za (·=R) w wr)
 case atStart=>exact⟨0,p,by omega,by omega,hp,by omega,rfl,rfl,hR,Za.refl _ _⟩
 case round =>
  clear c1;obtain⟨n,q,hn,hpq,hq,hfu,rfl,HN,hR2,hK2⟩:=hrel;obtain⟨fu,rfl⟩:∃f,gk=f+1:=⟨gk-1,by omega⟩;have c0:=hR2.c0;have c1:=hR2.c1;have f1:=hR2.fz 1
  by_cases hd:ZI (bt s q)=true
  ·have hin:=Zi9 hd;have hqz:(q:Int)<(s.size:Int):=by omega
   have hc:s[q].toNat=bt s q:=(ZX hin).symm;have hcl:=Jh hin;have hd':48<=bt s q/\bt s q<=57:=by simpa [ZI] using hd
   obtain⟨d1,d2⟩:=hd';obtain⟨d,hdd⟩:∃d,bt s q=d:=⟨_,rfl⟩;rw[hdd] at hc hcl d1 d2;have z1:(48:Int)<=(d:Int):=by omega
   have z2:(d:Int)<=57:=by omega
   go_wp2;go_quiet ((go_at_call 27;exact Calls.quiet_of (ZN (hR2.drewN _) hs hin)));replace hR2:=hR2.drewN nq;replace hK2:=hK2.drewN nq;clear c0 c1 f1;generalize wr.drewN nq=w3 at hR2 hK2 ⊢;have c0:=hR2.c0;have c1:=hR2.c1;have f1:=hR2.fz 1;go_wp2;go_quiet (fail);replace hR2:=hR2.drewN nq;replace hK2:=hK2.drewN nq;clear c0 c1 f1;generalize w3.drewN nq=w4 at hR2 hK2 ⊢;have c1:=hR2.c1;have f1:=hR2.fz 1
   by_cases hbig:50<n*10+(d-48)
   ·have HE:Hid (Zu s p=.error p):=by
     have:=HN.out
     show _ = _;rw[<- this];exact Zhz hd (by rw[hdd];exact hbig)
    go_wp2_with(first|(go_at_call 28;refine(DU (hR2.set1 _)).mono ?_;rintro e w5 ⟨rfl,rfl⟩))
    go_ret;unfold J7;rw[HE.out];exact⟨rfl,(hR2.set1 _).set2 _,(hK2.setCell (fun _=>rfl) _).setCell (fun _=>rfl) _⟩
   ·have HE:Hid (ZV s p fu (q+1) (n*10+(d-48))=Zu s p):=by
     have:=HN.out
     show _ = _;rw[<- this];rw[Zgn hd (by rw[hdd];exact hbig),hdd]
    go_wp2;go_roundg fu
    case measure=>omega
    case rel =>
     refine⟨n*10+(d-48),q+1,by omega,by omega,by omega,by omega,by go_num,HE,?_,hK2.setCell (fun _=>rfl) _⟩
     have:=hR2.set1 ((q:Int)+1)
     have e2:((q:Int)+1)=((q+1:Nat):Int):=by omega
     rw[<- e2];exact this
  ·have hd':ZI (bt s q)=false:=by simpa using hd
   have HE:Hid (Zu s p=.ok (n,q)):=by
    have:=HN.out
    show _ = _;rw[<- this];exact Zgo hd'
   by_cases hin:q<s.size
   ·have hqz:(q:Int)<(s.size:Int):=by omega
    have hc:s[q].toNat=bt s q:=(ZX hin).symm;have hcl:=Jh hin;obtain⟨d,hdd⟩:∃d,bt s q=d:=⟨_,rfl⟩;rw[hdd] at hc hcl hd';clear hd hdd
    rcases(show (¬(48:Int)<=(d:Int))\/((48:Int)<=(d:Int)/\¬(d:Int)<=57) from by simp[ZI] at hd';omega) with z1 | ⟨z1,z2⟩
    ·have z1':decide ((48:Int)<=(d:Int))=false:=by simpa using z1
     go_wp2;go_quiet ((go_at_call 27;exact Calls.quiet_of (ZN (hR2.drewN _) hs hin)))
     by_cases eO:q=p
     ·subst eO;go_wp2;go_ret;unfold J7;rw[HE.out];exact⟨ym (by simp),hR2.drewN _,hK2.drewN _⟩
     ·go_wp2;go_ret;unfold J7;rw[HE.out];exact⟨ym (by simp[eO]),hR2.drewN _,hK2.drewN _⟩
    ·have z2':decide ((d:Int)<=57)=false:=by simpa using z2
     go_wp2;go_quiet ((go_at_call 27;exact Calls.quiet_of (ZN (hR2.drewN _) hs hin)))
     by_cases eO:q=p
     ·subst eO;go_wp2;go_ret;unfold J7;rw[HE.out];exact⟨ym (by simp),hR2.drewN _,hK2.drewN _⟩
     ·go_wp2;go_ret;unfold J7;rw[HE.out];exact⟨ym (by simp[eO]),hR2.drewN _,hK2.drewN _⟩
   ·go_wp2;go_quiet ((go_at_call 27;exact Calls.quiet_of (zB (hR2.drewN _) hs hin)))
    by_cases eO:q=p
    ·subst eO;go_wp2;go_ret;unfold J7;rw[HE.out];exact⟨ym (by simp),hR2.drewN _,hK2.drewN _⟩
    ·go_wp2;go_ret;unfold J7;rw[HE.out];exact⟨ym (by simp[eO]),hR2.drewN _,hK2.drewN _⟩
structure Ok (w:World) (R:Nat) (s:ByteArray) (p:Nat) (g:Int) (v:Value):Prop where
 rd:Rd w R s p (-1) g v
structure jA (w:World) (R:Nat) (s:ByteArray) (x:Nat) (v:Value):Prop where
 rd:∃a g,Rd w R s a x g v
theorem Ok.set1(h:Ok w R s p g v)(q:Nat):Ok (w.setCell ⟨R,1,none⟩ (.int .i64 q)) R s q g v:=⟨h.rd.set1 _⟩
section
variable {w:World}{R:Nat}{s:ByteArray}{p x:Nat}{g:Int}{v:Value}
theorem Zej(hR:Ok w R s p g v)(hs:s.size<=120)(hp:p<=s.size)(h:Zu s p=.error x):
  au 124 #[ae R] w fun e w'=>e=.returned (.int .i64 0)/\jA w' R s x v/\Za (·=R) w w' :=
 (Ul hR.rd hs hp).mono fun e w' hn=>by unfold J7 at hn;rw[h] at hn;exact⟨hn.1,⟨_,_,hn.2.1⟩,hn.2.2⟩
theorem UB(hR:Ok w R s p g v)(hs:s.size<=120)(hp:p<=s.size){n:Nat}(h:Zu s p=.ok (n,p)):
  au 124 #[ae R] w fun e w'=>e=.returned (.int .i64 (-1))/\Ok w' R s p g v/\Za (·=R) w w' :=
 (Ul hR.rd hs hp).mono fun e w' hn=>by unfold J7 at hn;rw[h] at hn;simp only[if_pos] at hn;exact⟨hn.1,⟨hn.2.1⟩,hn.2.2⟩
theorem Qe(hR:Ok w R s p g v)(hs:s.size<=120)(hp:p<=s.size){n q:Nat}(h:Zu s p=.ok (n,q))(hq:q≠p):
  au 124 #[ae R] w fun e w'=>e=.returned (.int .i64 n)/\Ok w' R s q g v/\Za (·=R) w w' :=
 (Ul hR.rd hs hp).mono fun e w' hn=>by unfold J7 at hn;rw[h] at hn;simp only[if_neg hq] at hn;exact⟨hn.1,⟨hn.2.1⟩,hn.2.2⟩
theorem iC(hR:Ok w R s p g v)(hs:s.size<=120)(hb:(bt s p:Int)=b)(hlt:b<256):
  au 48 #[ae R,.int .u8 b] w fun e w'=>e=.returned (.bool true)/\Ok w' R s (p+1) g v/\Za (·=R) w w':=by
 subst hb;exact(ZtQ hR.rd hs rfl (by omega)).mono fun e w' ⟨h1,h2,h3⟩=>⟨h1,⟨h2⟩,h3⟩
theorem jJ(hR:Ok w R s p g v)(hs:s.size<=120)(hb:(bt s p:Int)≠b)(h0:0<=b):
  au 48 #[ae R,.int .u8 b] w fun e w'=>e=.returned (.bool false)/\Ok w' R s p g v/\Za (·=R) w w':=by
 obtain⟨m,rfl⟩:=Int.eq_ofNat_of_zero_le h0;refine(ZuX hR.rd hs (b:=m) (by omega)).mono ?_;rintro e w' ⟨rfl,n,rfl⟩;exact⟨rfl,⟨hR.rd.drewN _⟩,(Za.refl _ _).drewN _⟩
theorem yL(hR:jA w R s x v)(h0:0<=b):
  au 48 #[ae R,.int .u8 b] w fun e w'=>e=.returned (.bool false)/\jA w' R s x v/\Za (·=R) w w':=by
 obtain⟨m,rfl⟩:=Int.eq_ofNat_of_zero_le h0;obtain⟨a,g,h⟩:=hR.rd;refine(ZtR h (b:=m)).mono ?_;rintro e w' ⟨rfl,n,rfl⟩;exact⟨rfl,⟨_,_,h.drewN _⟩,(Za.refl _ _).drewN _⟩
theorem lX(hR:Ok w R s p g v):
  au 28 #[ae R] w fun e w'=>e=.returned (.tuple #[])/\jA w' R s p v/\Za (·=R) w w':=by
 refine(DU hR.rd).mono ?_;rintro e w' ⟨rfl,rfl⟩;exact⟨rfl,⟨_,_,hR.rd.set2 _⟩,(Za.refl (·=R) _).setCell (fun _=>rfl) _⟩
theorem Ic(hR:jA w R s x v):
  au 28 #[ae R] w fun e w'=>e=.returned (.tuple #[])/\jA w' R s x v/\Za (·=R) w w':=by
 obtain⟨a,g,h⟩:=hR.rd;refine(ZpO h).mono ?_;rintro e w' ⟨rfl,rfl⟩;exact⟨rfl,hR,Za.refl _ _⟩
theorem ZuT(hR:Ok w R s p g v)(hs:s.size<=120)(hp:p<s.size):
  au 27 #[ae R] w fun e w'=>e=.returned (.bool true)/\Ok w' R s p g v/\Za (·=R) w w':=by
 refine(ZN hR.rd hs hp).mono ?_;rintro e w' ⟨rfl,n,rfl⟩;exact⟨rfl,⟨hR.rd.drewN _⟩,(Za.refl _ _).drewN _⟩
theorem ZuU(hR:Ok w R s p g v)(hs:s.size<=120)(hp:¬p<s.size):
  au 27 #[ae R] w fun e w'=>e=.returned (.bool false)/\Ok w' R s p g v/\Za (·=R) w w':=by
 refine(zB hR.rd hs hp).mono ?_;rintro e w' ⟨rfl,n,rfl⟩;exact⟨rfl,⟨hR.rd.drewN _⟩,(Za.refl _ _).drewN _⟩
theorem ZuV(hR:jA w R s x v):
  au 27 #[ae R] w fun e w'=>e=.returned (.bool false)/\jA w' R s x v/\Za (·=R) w w':=by
 obtain⟨a,g,h⟩:=hR.rd;refine(Iy h).mono ?_;rintro e w' ⟨rfl,n,rfl⟩;exact⟨rfl,⟨_,_,h.drewN _⟩,(Za.refl _ _).drewN _⟩
end
def Qh (s:ByteArray) (p R:Nat) (g:Int) (v:Value) (w:World) (e:Ending) (w':World):Prop :=
 match Zg s p with
 | .ok (lo,hi,q)=>e=.returned (.tuple #[.int .i64 lo,.int .i64 hi])/\Ok w' R s q g v/\Za (·=R) w w'
 | .error x=>(∃a b,e=.returned (.tuple #[.int .i64 a,.int .i64 b]))/\jA w' R s x v/\Za (·=R) w w'
theorem ZgK{q:Nat}(h1:Zu s p=.ok (lo,q))(hq:q≠p)(h2:bt s q≠44):Zg s p=if bt s q=125 then .ok ((lo:Int),(lo:Int),q+1) else .error q:=by
 simp[Zg,h1,hq,h2]
theorem IC{q:Nat}(h1:Zu s p=.ok (lo,q))(hq:q≠p)(h2:bt s q=44)(h3:Zu s (q+1)=.ok (hi,q2)):Zg s p =
  if q2=q+1 then (if bt s q2=125 then .ok ((lo:Int),-1,q2+1) else .error q2)
    else if hi<lo then .error (q+1)
    else if bt s q2=125 then .ok ((lo:Int),(hi:Int),q2+1) else .error q2:=by
 simp[Zg,h1,hq,h2,h3]
theorem Zqg(hR:Ok w R s p g v)(hs:s.size<=120)(hp:p<=s.size)(h1:Zu s p=.error x):
  au 93 #[ae R] w (Qh s p R g v w):=by
 have HE:Hid (Zg s p=.error x):=by show _ = _;simp[Zg,h1]
 have H1:Hid (Zu s p=.error x):=h1;have hK:Za (·=R) w w:=Za.refl _ _;clear h1;go_enter Tryz.func93,Tryz.ntmps93;go_wp2_with(first|(go_at_call 124;refine(Zej hR hs hp H1.out).mono ?_;rintro e w1 ⟨rfl,hB,hk⟩;replace hK:=hK.trans hk;clear hk)|(go_at_call 48;refine(yL hB (by omega)).mono ?_;clear hB;rintro e w2 ⟨rfl,hB,hk⟩;replace hK:=hK.trans hk;clear hk)|(go_at_call 28;refine(Ic hB).mono ?_;clear hB;rintro e w2 ⟨rfl,hB,hk⟩;replace hK:=hK.trans hk;clear hk))
 go_ret2;unfold Qh;rw[HE.out];exact⟨⟨_,_,rfl⟩,hB,hK⟩
theorem Zqf(hR:Ok w R s p g v)(hs:s.size<=120)(hp:p<=s.size)(h1:Zu s p=.ok (lo,p)):
  au 93 #[ae R] w (Qh s p R g v w):=by
 have HE:Hid (Zg s p=.error p):=by show _ = _;simp[Zg,h1]
 have H1:Hid (Zu s p=.ok (lo,p)):=h1;clear h1;have hK:Za (·=R) w w:=Za.refl _ _;go_enter Tryz.func93,Tryz.ntmps93;go_wp2_with(first|(go_at_call 124;refine(UB hR hs hp H1.out).mono ?_;clear hR;rintro e w2 ⟨rfl,hO,hk⟩;replace hK:=hK.trans hk;clear hk)|(go_at_call 28;refine(lX hO).mono ?_;clear hO;rintro e w2 ⟨rfl,hB,hk⟩;replace hK:=hK.trans hk;clear hk))
 go_ret2;unfold Qh;rw[HE.out];exact⟨⟨_,_,rfl⟩,hB,hK⟩
theorem Zqe{q:Nat}(hR:Ok w R s p g v)(hs:s.size<=120)(hp:p<=s.size)(h1:Zu s p=.ok (lo,q))(hq:q≠p)(hc:bt s q≠44)(hd:bt s q=125):
  au 93 #[ae R] w (Qh s p R g v w):=by
 have HE:Hid (Zg s p=.ok ((lo:Int),(lo:Int),q+1)):=by show _ = _;rw[ZgK h1 hq hc,if_pos hd]
 have hpos:=ZS hp h1;have H1:Hid (Zu s p=.ok (lo,q)):=h1;have HC:Hid (bt s q≠44):=hc;have HD:Hid (bt s q=125):=hd;clear h1 hc hd;have hK:Za (·=R) w w:=Za.refl _ _;go_enter Tryz.func93,Tryz.ntmps93;go_wp2_with(first|(go_at_call 124;refine(Qe hR hs hp H1.out hq).mono ?_;clear hR;rintro e w2 ⟨rfl,hO,hk⟩;replace hK:=hK.trans hk;clear hk)|(go_at_call 48;refine(iC hO hs (by have:=HD.out;omega) (by omega)).mono ?_;rintro e w2 ⟨rfl,hO2,hk⟩;replace hK:=hK.trans hk;clear hk)|(go_at_call 48;refine(jJ hO hs (by have:=HC.out;omega) (by omega)).mono ?_;clear hO;rintro e w2 ⟨rfl,hO,hk⟩;replace hK:=hK.trans hk;clear hk;have hm:True:=trivial))
 go_ret2;unfold Qh;rw[HE.out];exact⟨rfl,hO2,hK⟩
theorem Zqd{q:Nat}(hR:Ok w R s p g v)(hs:s.size<=120)(hp:p<=s.size)(h1:Zu s p=.ok (lo,q))(hq:q≠p)(hc:bt s q≠44)(hd:bt s q≠125):
  au 93 #[ae R] w (Qh s p R g v w):=by
 have HE:Hid (Zg s p=.error q):=by show _ = _;rw[ZgK h1 hq hc,if_neg hd]
 have hpos:=ZS hp h1;have H1:Hid (Zu s p=.ok (lo,q)):=h1;have HC:Hid (bt s q≠44):=hc;have HD:Hid (bt s q≠125):=hd;clear h1 hc hd;have hK:Za (·=R) w w:=Za.refl _ _;go_enter Tryz.func93,Tryz.ntmps93;go_wp2_with(first|(go_at_call 124;refine(Qe hR hs hp H1.out hq).mono ?_;clear hR;rintro e w2 ⟨rfl,hO,hk⟩;replace hK:=hK.trans hk;clear hk)|(go_at_call 48;refine(jJ hO hs (by first |(have:=HC.out;omega) |(have:=HD.out;omega)) (by omega)).mono ?_;clear hO;rintro e w2 ⟨rfl,hO,hk⟩;replace hK:=hK.trans hk;clear hk)|(go_at_call 28;refine(lX hO).mono ?_;clear hO;rintro e w2 ⟨rfl,hB,hk⟩;replace hK:=hK.trans hk;clear hk))
 go_ret2;unfold Qh;rw[HE.out];exact⟨⟨_,_,rfl⟩,hB,hK⟩
theorem Zqc{q:Nat}(hR:Ok w R s p g v)(hs:s.size<=120)(hp:p<=s.size)(h1:Zu s p=.ok (lo,q))(hq:q≠p)(hc:bt s q=44)(h3:Zu s (q+1)=.error x):
  au 93 #[ae R] w (Qh s p R g v w):=by
 have HE:Hid (Zg s p=.error x):=by show _ = _;simp[Zg,h1,hq,hc,h3]
 have hpos:=ZS hp h1;have hq1:=Zn hc (by omega);have H1:Hid (Zu s p=.ok (lo,q)):=h1;have HC:Hid (bt s q=44):=hc;have H3:Hid (Zu s (q+1)=.error x):=h3;clear h1 hc h3;have hK:Za (·=R) w w:=Za.refl _ _;go_enter Tryz.func93,Tryz.ntmps93;go_wp2_with(first|(go_at_call 124;refine(Qe hR hs hp H1.out hq).mono ?_;clear hR;rintro e w2 ⟨rfl,hO,hk⟩;replace hK:=hK.trans hk;clear hk)|(go_at_call 48;refine(iC hO hs (by have:=HC.out;omega) (by omega)).mono ?_;clear hO;rintro e w2 ⟨rfl,hP,hk⟩;replace hK:=hK.trans hk;clear hk;have c1:=hP.rd.c1)|(go_at_call 124;refine(Zej hP hs (by omega) H3.out).mono ?_;clear hP;rintro e w2 ⟨rfl,hB,hk⟩;replace hK:=hK.trans hk;clear hk;obtain⟨a,g',hrd⟩:=hB.rd;have c2:=hrd.c2;have hx:decide ((x:Int)<0)=false:=by simp)|(go_at_call 48;refine(yL hB (by omega)).mono ?_;clear hB;rintro e w2 ⟨rfl,hB,hk⟩;replace hK:=hK.trans hk;clear hk)|(go_at_call 28;refine(Ic hB).mono ?_;clear hB;rintro e w2 ⟨rfl,hB,hk⟩;replace hK:=hK.trans hk;clear hk))
 go_ret2;unfold Qh;rw[HE.out];exact⟨⟨_,_,rfl⟩,hB,hK⟩
theorem Zqb{q:Nat}(hR:Ok w R s p g v)(hs:s.size<=120)(hp:p<=s.size)(h1:Zu s p=.ok (lo,q))(hq:q≠p)(hc:bt s q=44)(h3:Zu s (q+1)=.ok (hi,q+1))(hd:bt s (q+1)=125):
  au 93 #[ae R] w (Qh s p R g v w):=by
 have HE:Hid (Zg s p=.ok ((lo:Int),-1,q+1+1)):=by show _ = _;rw[IC h1 hq hc h3,if_pos rfl];simp[hd]
 have hpos:=ZS hp h1;have hq1:=Zn hc (by omega);have H1:Hid (Zu s p=.ok (lo,q)):=h1;have HC:Hid (bt s q=44):=hc;have H3:Hid (Zu s (q+1)=.ok (hi,q+1)):=h3;clear h1 hc h3;have HD:Hid (bt s (q+1)=125):=hd;clear hd;have hK:Za (·=R) w w:=Za.refl _ _;go_enter Tryz.func93,Tryz.ntmps93;go_wp2_with(first|(go_at_call 124;refine(Qe hR hs hp H1.out hq).mono ?_;clear hR;rintro e w2 ⟨rfl,hO,hk⟩;replace hK:=hK.trans hk;clear hk)|(go_at_call 48;refine(iC hO hs (by have:=HC.out;omega) (by omega)).mono ?_;clear hO;rintro e w2 ⟨rfl,hP,hk⟩;replace hK:=hK.trans hk;clear hk;have c1:=hP.rd.c1)|(go_at_call 124;refine(UB hP hs (by omega) H3.out).mono ?_;clear hP;rintro e w2 ⟨rfl,hP,hk⟩;replace hK:=hK.trans hk;clear hk;have c2:=hP.rd.c2)|(go_at_call 48;refine(iC hP hs (by have:=HD.out;omega) (by omega)).mono ?_;clear hP;rintro e w2 ⟨rfl,hQ,hk⟩;replace hK:=hK.trans hk;clear hk))
 go_ret2;unfold Qh;rw[HE.out];exact⟨rfl,hQ,hK⟩
theorem Zqa{q:Nat}(hR:Ok w R s p g v)(hs:s.size<=120)(hp:p<=s.size)(h1:Zu s p=.ok (lo,q))(hq:q≠p)(hc:bt s q=44)(h3:Zu s (q+1)=.ok (hi,q+1))(hd:bt s (q+1)≠125):
  au 93 #[ae R] w (Qh s p R g v w):=by
 have HE:Hid (Zg s p=.error (q+1)):=by show _ = _;rw[IC h1 hq hc h3,if_pos rfl];simp[hd]
 have hpos:=ZS hp h1;have hq1:=Zn hc (by omega);have H1:Hid (Zu s p=.ok (lo,q)):=h1;have HC:Hid (bt s q=44):=hc;have H3:Hid (Zu s (q+1)=.ok (hi,q+1)):=h3;clear h1 hc h3;have HD:Hid (bt s (q+1)≠125):=hd;clear hd;have hK:Za (·=R) w w:=Za.refl _ _;go_enter Tryz.func93,Tryz.ntmps93;go_wp2_with(first|(go_at_call 124;refine(Qe hR hs hp H1.out hq).mono ?_;clear hR;rintro e w2 ⟨rfl,hO,hk⟩;replace hK:=hK.trans hk;clear hk)|(go_at_call 48;refine(iC hO hs (by have:=HC.out;omega) (by omega)).mono ?_;clear hO;rintro e w2 ⟨rfl,hP,hk⟩;replace hK:=hK.trans hk;clear hk;have c1:=hP.rd.c1)|(go_at_call 124;refine(UB hP hs (by omega) H3.out).mono ?_;clear hP;rintro e w2 ⟨rfl,hP,hk⟩;replace hK:=hK.trans hk;clear hk;have c2:=hP.rd.c2)|(go_at_call 48;refine(jJ hP hs (by have:=HD.out;omega) (by omega)).mono ?_;clear hP;rintro e w2 ⟨rfl,hP,hk⟩;replace hK:=hK.trans hk;clear hk)|(go_at_call 28;refine(lX hP).mono ?_;clear hP;rintro e w2 ⟨rfl,hB,hk⟩;replace hK:=hK.trans hk;clear hk))
 go_ret2;unfold Qh;rw[HE.out];exact⟨⟨_,_,rfl⟩,hB,hK⟩
theorem Zp9{q:Nat}(hR:Ok w R s p g v)(hs:s.size<=120)(hp:p<=s.size)(h1:Zu s p=.ok (lo,q))(hq:q≠p)(hc:bt s q=44)(h3:Zu s (q+1)=.ok (hi,q2))(hq2:q2≠q+1)(hlt:hi<lo):
  au 93 #[ae R] w (Qh s p R g v w):=by
 have HE:Hid (Zg s p=.error (q+1)):=by show _ = _;rw[IC h1 hq hc h3,if_neg hq2];rw[if_pos hlt]
 have hpos:=ZS hp h1;have hq1:=Zn hc (by omega);have H1:Hid (Zu s p=.ok (lo,q)):=h1;have HC:Hid (bt s q=44):=hc;have H3:Hid (Zu s (q+1)=.ok (hi,q2)):=h3;clear h1 hc h3;have HQ:Hid (q2≠q+1):=hq2;have yO:=ZS (by omega) H3.out;clear hq2;have hz:(hi:Int)<(lo:Int):=by omega
 have hK:Za (·=R) w w:=Za.refl _ _;go_enter Tryz.func93,Tryz.ntmps93;go_wp2_with(first|(go_at_call 124;refine(Qe hR hs hp H1.out hq).mono ?_;clear hR;rintro e w2 ⟨rfl,hO,hk⟩;replace hK:=hK.trans hk;clear hk)|(go_at_call 48;refine(iC hO hs (by have:=HC.out;omega) (by omega)).mono ?_;clear hO;rintro e w2 ⟨rfl,hP,hk⟩;replace hK:=hK.trans hk;clear hk;have c1:=hP.rd.c1)|(go_at_call 124;refine(Qe hP hs (by omega) H3.out HQ.out).mono ?_;clear hP;rintro e w2 ⟨rfl,hP,hk⟩;replace hK:=hK.trans hk;clear hk;have c2:=hP.rd.c2;have f1:=hP.rd.fz 1;have c1':=hP.rd.c1)|(go_at_call 28;refine(lX (hP.set1 (q+1))).mono ?_;rintro e w2 ⟨rfl,hB,hk⟩;replace hK:=(hK.setCell (fun _=>rfl) _).trans hk;clear hk)|(go_at_call 48;refine(yL hB (by omega)).mono ?_;clear hB;rintro e w2 ⟨rfl,hB,hk⟩;replace hK:=hK.trans hk;clear hk)|(go_at_call 28;refine(Ic hB).mono ?_;clear hB;rintro e w2 ⟨rfl,hB,hk⟩;replace hK:=hK.trans hk;clear hk))
 go_ret2;unfold Qh;rw[HE.out];exact⟨⟨_,_,rfl⟩,hB,hK⟩
theorem Zp8{q:Nat}(hR:Ok w R s p g v)(hs:s.size<=120)(hp:p<=s.size)(h1:Zu s p=.ok (lo,q))(hq:q≠p)(hc:bt s q=44)(h3:Zu s (q+1)=.ok (hi,q2))(hq2:q2≠q+1)(hlt:¬hi<lo)(hd:bt s q2=125):
  au 93 #[ae R] w (Qh s p R g v w):=by
 have HE:Hid (Zg s p=.ok ((lo:Int),(hi:Int),q2+1)):=by show _ = _;rw[IC h1 hq hc h3,if_neg hq2];rw[if_neg hlt];simp[hd]
 have hpos:=ZS hp h1;have hq1:=Zn hc (by omega);have H1:Hid (Zu s p=.ok (lo,q)):=h1;have HC:Hid (bt s q=44):=hc;have H3:Hid (Zu s (q+1)=.ok (hi,q2)):=h3;clear h1 hc h3;have HQ:Hid (q2≠q+1):=hq2;have yO:=ZS (by omega) H3.out;clear hq2;have hz:¬(hi:Int)<(lo:Int):=by omega
 have HD:Hid (bt s q2=125):=hd;clear hd;have hK:Za (·=R) w w:=Za.refl _ _;go_enter Tryz.func93,Tryz.ntmps93;go_wp2_with(first|(go_at_call 124;refine(Qe hR hs hp H1.out hq).mono ?_;clear hR;rintro e w2 ⟨rfl,hO,hk⟩;replace hK:=hK.trans hk;clear hk)|(go_at_call 48;refine(iC hO hs (by have:=HC.out;omega) (by omega)).mono ?_;clear hO;rintro e w2 ⟨rfl,hP,hk⟩;replace hK:=hK.trans hk;clear hk;have c1:=hP.rd.c1)|(go_at_call 124;refine(Qe hP hs (by omega) H3.out HQ.out).mono ?_;clear hP;rintro e w2 ⟨rfl,hP,hk⟩;replace hK:=hK.trans hk;clear hk;have c2:=hP.rd.c2;have f1:=hP.rd.fz 1;have c1':=hP.rd.c1)|(go_at_call 48;refine(iC hP hs (by have:=HD.out;omega) (by omega)).mono ?_;clear hP;rintro e w2 ⟨rfl,hQ,hk⟩;replace hK:=hK.trans hk;clear hk))
 go_ret2;unfold Qh;rw[HE.out];exact⟨rfl,hQ,hK⟩
theorem Zp7{q:Nat}(hR:Ok w R s p g v)(hs:s.size<=120)(hp:p<=s.size)(h1:Zu s p=.ok (lo,q))(hq:q≠p)(hc:bt s q=44)(h3:Zu s (q+1)=.ok (hi,q2))(hq2:q2≠q+1)(hlt:¬hi<lo)(hd:bt s q2≠125):
  au 93 #[ae R] w (Qh s p R g v w):=by
 have HE:Hid (Zg s p=.error q2):=by show _ = _;rw[IC h1 hq hc h3,if_neg hq2];rw[if_neg hlt];simp[hd]
 have hpos:=ZS hp h1;have hq1:=Zn hc (by omega);have H1:Hid (Zu s p=.ok (lo,q)):=h1;have HC:Hid (bt s q=44):=hc;have H3:Hid (Zu s (q+1)=.ok (hi,q2)):=h3;clear h1 hc h3;have HQ:Hid (q2≠q+1):=hq2;have yO:=ZS (by omega) H3.out;clear hq2;have hz:¬(hi:Int)<(lo:Int):=by omega
 have HD:Hid (bt s q2≠125):=hd;clear hd;have hK:Za (·=R) w w:=Za.refl _ _;go_enter Tryz.func93,Tryz.ntmps93;go_wp2_with(first|(go_at_call 124;refine(Qe hR hs hp H1.out hq).mono ?_;clear hR;rintro e w2 ⟨rfl,hO,hk⟩;replace hK:=hK.trans hk;clear hk)|(go_at_call 48;refine(iC hO hs (by have:=HC.out;omega) (by omega)).mono ?_;clear hO;rintro e w2 ⟨rfl,hP,hk⟩;replace hK:=hK.trans hk;clear hk;have c1:=hP.rd.c1)|(go_at_call 124;refine(Qe hP hs (by omega) H3.out HQ.out).mono ?_;clear hP;rintro e w2 ⟨rfl,hP,hk⟩;replace hK:=hK.trans hk;clear hk;have c2:=hP.rd.c2;have f1:=hP.rd.fz 1;have c1':=hP.rd.c1)|(go_at_call 48;refine(jJ hP hs (by have:=HD.out;omega) (by omega)).mono ?_;clear hP;rintro e w2 ⟨rfl,hP,hk⟩;replace hK:=hK.trans hk;clear hk)|(go_at_call 28;refine(lX hP).mono ?_;clear hP;rintro e w2 ⟨rfl,hB,hk⟩;replace hK:=hK.trans hk;clear hk))
 go_ret2;unfold Qh;rw[HE.out];exact⟨⟨_,_,rfl⟩,hB,hK⟩
theorem Zez(hR:Ok w R s p g v)(hs:s.size<=120)(hp:p<=s.size):
  au 93 #[ae R] w (Qh s p R g v w):=by
 cases h1:Zu s p with
 | error x=>exact Zqg hR hs hp h1
 | ok r =>
   obtain⟨lo,q⟩:=r
   by_cases hq:q=p
   ·subst hq;exact Zqf hR hs hp h1
   ·by_cases hc:bt s q=44
    ·cases h3:Zu s (q+1) with
     | error x=>exact Zqc hR hs hp h1 hq hc h3
     | ok r =>
       obtain⟨hi,q2⟩:=r
       by_cases hq2:q2=q+1
       ·subst hq2
        by_cases hd:bt s (q+1)=125
        ·exact Zqb hR hs hp h1 hq hc h3 hd
        ·exact Zqa hR hs hp h1 hq hc h3 hd
       ·by_cases hlt:hi<lo
        ·exact Zp9 hR hs hp h1 hq hc h3 hq2 hlt
        ·by_cases hd:bt s q2=125
         ·exact Zp8 hR hs hp h1 hq hc h3 hq2 hlt hd
         ·exact Zp7 hR hs hp h1 hq hc h3 hq2 hlt hd
    ·by_cases hd:bt s q=125
     ·exact Zqe hR hs hp h1 hq hc hd
     ·exact Zqd hR hs hp h1 hq hc hd
section
variable {w:World}{R I:Nat}{s:ByteArray}{p x:Nat}{g:Int}{v:Value}{S:Bs}
variable {E:Nat->Prop}
theorem Ok.keeps(h:Ok w R s p g v)(k:Za E w w')(hE:¬E R):Ok w' R s p g v:=⟨h.rd.keeps k hE⟩
theorem jA.keeps(h:jA w R s x v)(k:Za E w w')(hE:¬E R):jA w' R s x v:=by
 obtain⟨a,g,h⟩:=h.rd;exact⟨a,g,h.keeps k hE⟩
variable {T:Bs}
theorem SS(hR:Ok w R s p g v)(hI:In w I S)(hne:R≠I)(hs:s.size<=120){q:Nat}(h:Zt s p=.ok (T,o,q)):
  au 122 #[ae R,.slice (some ⟨I,0,none⟩) 256 256] w fun e w' =>
   e=.returned (.tuple #[.int .i64 ((o.getD 0:Nat):Int),.bool o.isSome])/\Ok w' R s q g v/\In w' I (un S T)/\Za (Er R I) w w' :=
 (Zew hR.rd hI hne hs).mono fun e w' hn=>by unfold Z6 at hn;rw[h] at hn;exact⟨hn.1,⟨hn.2.1⟩,hn.2.2⟩
theorem SQ(hR:Ok w R s p g v)(hI:In w I S)(hne:R≠I)(hs:s.size<=120)(h:Zt s p=.error x):
  au 122 #[ae R,.slice (some ⟨I,0,none⟩) 256 256] w fun e w' =>
   e=.returned (.tuple #[.int .i64 0,.bool false])/\jA w' R s x v/\(∃S',In w' I S')/\Za (Er R I) w w' :=
 (Zew hR.rd hI hne hs).mono fun e w' hn=>by unfold Z6 at hn;rw[h] at hn;exact⟨hn.1,⟨_,_,hn.2.1⟩,hn.2.2⟩
end
theorem VO(hR:Ok w R s p g v)(hs:s.size<=120)(h0:0<=b)(hlt:b<256):
  au 48 #[ae R,.int .u8 b] w fun e w' =>∃c:Bool,e=.returned (.bool c)/\
   Aside ((c=true/\(bt s p:Int)=b/\Ok w' R s (p+1) g v)\/(c=false/\(bt s p:Int)≠b/\Ok w' R s p g v))/\Za (·=R) w w':=by
 by_cases h:(bt s p:Int)=b
 ·exact(iC hR hs h hlt).mono fun e w' ⟨h1,h2,h3⟩=>⟨true,h1,Or.inl ⟨rfl,h,h2⟩,h3⟩
 ·exact(jJ hR hs h h0).mono fun e w' ⟨h1,h2,h3⟩=>⟨false,h1,Or.inr ⟨rfl,h,h2⟩,h3⟩
theorem Tryz.aQ:(Tryz.prog.info? 4).map (fun i=>(i.zero,i.size,i.bytes))=some (some (.bool false),1,1):=by kernel_rfl
theorem Qj{base:Nat}(h:w.ownsRow base 4 1 (.slice (some ⟨I,0,none⟩) 256 256) 256 (madeCells (Value.bool false).cells (256*1)).toList):In w I J3:=by
 obtain⟨_,⟨h1,_⟩ | ⟨g,cap,cur,h1,_,hh,_,_,hc,ht⟩⟩:=h
 ·simp at h1
 ·simp only[Value.slice.injEq,Option.some.injEq,Addr.mk.injEq,and_true,true_and] at h1;obtain⟨rfl,rfl⟩:=h1;unfold In;rw[hh];have e1:cur.toList=List.replicate 256 (Value.bool false):=by
   rw[List.take_of_length_le (by simp;omega)] at ht;rw[ht];exact toList_madeCells_one _ _
  have e2:cur=Ji J3:=by
   apply Array.toList_inj.1;rw[e1];show _=(List.range 256).map fun _=>Value.bool false;rw[List.map_const',List.length_range]
  rw[e2]
theorem MV{q:Nat}(h:bt s q=92):Zl s q=Zt s (q+1):=by simp[Zl,h]
theorem ZcH{q:Nat}(h:bt s q≠92):Zl s q=.ok (one (bt s q),some (bt s q),q+1):=by simp[Zl,h]
def DN (s:ByteArray) (q R I:Nat) (g:Int) (v:Value) (S:Bs) (lo on:Value) (w':World):Prop :=
 match Zl s q with
 | .ok (T,o,q1)=>lo=.int .i64 ((o.getD 0:Nat):Int)/\on=.bool o.isSome/\Ok w' R s q1 g v/\In w' I (un S T)
 | .error x=>lo=.int .i64 0/\on=.bool false/\jA w' R s x v/\∃S',In w' I S'
variable {T:Bs}
theorem Zgk{q:Nat}{lo on:Value}(h:Zl s q=.ok (T,o,q1))
  (h1:lo=.int .i64 ((o.getD 0:Nat):Int)) (h2:on=.bool o.isSome) (h3:Ok w' R s q1 g v) (h4:In w' I (un S T)):DN s q R I g v S lo on w':=by
 unfold DN;rw[h];exact⟨h1,h2,h3,h4⟩
theorem ZjT{q:Nat}{lo on:Value}(h:Zl s q=.error x)
  (h1:lo=.int .i64 0) (h2:on=.bool false) (h3:jA w' R s x v) (h4:∃S',In w' I S'):DN s q R I g v S lo on w':=by
 unfold DN;rw[h];exact⟨h1,h2,h3,h4⟩
def Zvp (s:ByteArray) (R I:Nat) (g:Int) (v:Value) (res:Except Nat (Bs×Nat)) (fu:Nat) (cnt:Value) (w':World):Prop :=
 (∃q S n,cnt=.int .i64 ((n:Nat):Int)/\n+fu<=121/\q<=s.size/\s.size-q<fu/\Zk s fu q S (decide (n=0))=res/\Ok w' R s q g v/\In w' I S)\/
 (∃x S n,cnt=.int .i64 ((n:Nat):Int)/\n<=1000/\res=.error x/\jA w' R s x v/\In w' I S)
theorem JP{fu q:Nat}(hq:q<s.size)(h:bt s q≠93\/fi=true)(hi:ZC s q=.error x):Zk s (fu+1) q S fi=.error x:=by
 have hb:=Jh hq;rw[Zk,if_pos ⟨by omega,h⟩,hi]
theorem UD{fu q:Nat}{S1:Bs}(hq:q<s.size)(h:bt s q≠93\/fi=true)(hi:ZC s q=.ok (S1,q1)):Zk s (fu+1) q S fi=Zk s fu q1 (un S S1) false:=by
 have hb:=Jh hq;rw[Zk,if_pos ⟨by omega,h⟩,hi]
theorem ZdR{fu q:Nat}(hb:bt s q=93):Zk s (fu+1) q S false=.ok (S,q+1):=by
 simp[Zk,hb]
theorem Zfw{fu q:Nat}(hq:¬q<s.size):Zk s (fu+1) q S fi=.error q:=by
 have hb:=Z7 hq;simp[Zk,hb]
def DX (s:ByteArray) (q R I:Nat) (g:Int) (v:Value) (S:Bs) (lo on:Value) (w':World):Prop :=
 match Zl s q with
 | .ok (T,o,q1)=>lo=.int .i64 ((o.getD 0:Nat):Int)/\on=.bool o.isSome/\Ok w' R s q1 g v/\In w' I S
 | .error x=>lo=.int .i64 0/\on=.bool false/\jA w' R s x v/\In w' I S
theorem Zeg{q:Nat}{lo on:Value}(h:Zl s q=.ok (T,o,q1))
  (h1:lo=.int .i64 ((o.getD 0:Nat):Int)) (h2:on=.bool o.isSome) (h3:Ok w' R s q1 g v) (h4:In w' I S):DX s q R I g v S lo on w':=by
 unfold DX;rw[h];exact⟨h1,h2,h3,h4⟩
theorem Zht{q:Nat}{lo on:Value}(h:Zl s q=.error x)
  (h1:lo=.int .i64 0) (h2:on=.bool false) (h3:jA w' R s x v) (h4:In w' I S):DX s q R I g v S lo on w':=by
 unfold DX;rw[h];exact⟨h1,h2,h3,h4⟩
theorem Zms{q:Nat}(h:Zl s q=.error x):ZC s q=.error x:=by simp[ZC,h]
theorem Zmp{q:Nat}(h:Zl s q=.ok (T,none,q1)):ZC s q=.ok (T,q1):=by simp[ZC,h]
theorem Zpp{q:Nat}(h:Zl s q=.ok (T,some lo,q1))(hc:¬(bt s q1=45/\bt s (q1+1)≠256/\bt s (q1+1)≠93)):ZC s q=.ok (T,q1):=by simp only[ZC,h];rw[if_neg hc]
variable {T2:Bs}
theorem Zpo{q:Nat}(h:Zl s q=.ok (T,some lo,q1))(hc:bt s q1=45/\bt s (q1+1)≠256/\bt s (q1+1)≠93)(h2:Zl s (q1+1)=.ok (T2,some hi,q2))(hl:¬hi<lo):ZC s q=.ok (un T (eH lo hi),q2):=by
 simp only[ZC,h];rw[if_pos hc];simp only[h2];rw[if_neg hl]
theorem Zpq{q:Nat}(h:Zl s q=.ok (T,some lo,q1))(hc:bt s q1=45/\bt s (q1+1)≠256/\bt s (q1+1)≠93)(h2:Zl s (q1+1)=.ok (T2,some hi,q2))(hl:hi<lo):ZC s q=.error (q1+1):=by
 simp only[ZC,h];rw[if_pos hc];simp only[h2];rw[if_pos hl]
theorem Zgu{q:Nat}(h:Zl s q=.ok (T,some lo,q1))(hc:bt s q1=45/\bt s (q1+1)≠256/\bt s (q1+1)≠93)(h2:Zl s (q1+1)=.ok (T2,none,q2)):ZC s q=.error (q1+1):=by
 simp only[ZC,h];rw[if_pos hc];simp only[h2]
theorem Zmr{q:Nat}(h:Zl s q=.ok (T,some lo,q1))(hc:bt s q1=45/\bt s (q1+1)≠256/\bt s (q1+1)≠93)(h2:Zl s (q1+1)=.error x):ZC s q=.error x:=by
 simp only[ZC,h];rw[if_pos hc];simp only[h2]
end Go.Proofs.YtfkflljplohhcaaGreatDoor
