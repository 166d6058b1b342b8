import Derived.Test.YtfkflljplohhcaaGreatDoorD
set_option linter.unusedVariables false
set_option maxHeartbeats 40000000
set_option maxRecDepth 1000000
namespace Go.Proofs.YtfkflljplohhcaaGreatDoor
open Go.RowKit
def BO (s:ByteArray) (p R:Nat) (g:Int) (v:Value) (w:World) (e:Ending) (w':World):Prop :=
 match Zq s p with
 | .ok (S,q) =>∃sv,e=.returned sv/\Ok w' R s q g v/\w'.ownsRow w.heap.size 250 2 sv (Ja S).length (ZD (Ja S))/\Za (·=R) w w'
 | .error x=>e=.returned (.slice none 0 0)/\jA w' R s x v/\Za (·=R) w w'
def Sl (s:ByteArray) (p:Nat) (neg:Bool) (res:Except Nat (Bs×Nat)):Prop :=
 (∀x,res=.error x->Zq s p=.error x)/\(∀S q,res=.ok (S,q)->Zq s p=.ok (if neg then co S else S,q))
variable {s:ByteArray}{p R:Nat}{g:Int}{v:Value}{w w':World}
theorem Zkw(h:bt s p=94):Sl s p true (Zk s (s.size+1) (p+1) J3 true):=by
 constructor
 ·intro x hx;simp[Zq,h,hx]
 ·intro S q hx;simp[Zq,h,hx]
theorem Zkv(h:bt s p≠94):Sl s p false (Zk s (s.size+1) p J3 true):=by
 constructor
 ·intro x hx;simp[Zq,h,hx]
 ·intro S q hx;simp[Zq,h,hx]
theorem MR{x:Nat}(h:Zq s p=.error x)(hB:jA w' R s x v)(hK:Za (·=R) w w'):BO s p R g v w (.returned (.slice none 0 0)) w':=by
 unfold BO;rw[h];exact⟨rfl,hB,hK⟩
theorem ZeB{q:Nat}{sv:Value}{S:Bs}(h:Zq s p=.ok (S,q))(hO:Ok w' R s q g v)(ho:w'.ownsRow w.heap.size 250 2 sv (Ja S).length (ZD (Ja S)))(hK:Za (·=R) w w'):BO s p R g v w (.returned sv) w':=by
 unfold BO;rw[h];exact⟨sv,rfl,hO,ho,hK⟩
theorem ZgN(hR:Ok w R s p g v)(hs:s.size<=120)(hp:p<=s.size):
  au 120 #[ae R] w (BO s p R g v w):=by
 obtain⟨i0,hi,hz0,hz1,hz2⟩:=info_parts Tryz.aQ;have PI:=hR.rd.lt;go_enter Tryz.func120,Tryz.ntmps120;go_upto_region 2 with(at_make;refine wpList_make_full _ rfl _ _ 74 rfl w.heap.size 4 i0 (.bool false) 1 Tryz.underlying74 hi hz0 hz1 _ _ _ _ 256 rfl rfl rfl rfl (by rw[hz2];decide) (by unfold maxLen;omega) (Nat.le_refl _) ?_;intro w1 ho hg);have hK1:Za (·=R) w w1:=(Za.refl _ _).grown hg (by simp);have dF:Ok w1 R s p g v:=hR.keeps ((Za.refl ai w).grown hg (by simp)) id;have hI1:=Qj ho;clear hi hz0 hz1 hz2 ho hg hR;generalize hIe:w.heap.size=I at hI1 PI ⊢;have hne:R≠I:=by omega
 have xaE:w.heap.size<=I:=by omega
 clear hIe;go_cut [4] from 12 to 13 (fun n4 wc =>∃(neg:Bool) (p':Nat),n4=.bool neg/\p'<=s.size/\Aside (Sl s p neg (Zk s (s.size+1) p' J3 true))/\Ok wc R s p' g v/\In wc I J3/\Za (·=R) w wc)
 case first =>
  as_aux_lemma =>
   by_cases hb:bt s p=94
   ·have hlt:=Zn hb (by omega);have HB:Hid (bt s p=94):=hb;clear hb;go_wp2_with(first|(go_at_call 48;refine(iC dF hs (by have:=HB.out;omega) (by omega)).mono ?_;rintro e w2 ⟨rfl,hO,hk⟩))
    go_meet
    case rel=>exact⟨true,p+1,rfl,by omega,Zkw HB.out,hO,hI1.keeps hk (fun h=>hne h.symm),hK1.trans hk⟩
   ·have HB:Hid (bt s p≠94):=hb;clear hb;go_wp2_with(first|(go_at_call 48;refine(jJ dF hs (by have:=HB.out;omega) (by omega)).mono ?_;rintro e w2 ⟨rfl,hO,hk⟩))
    go_meet
    case rel=>exact⟨false,p,rfl,hp,Zkv HB.out,hO,hI1.keeps hk (fun h=>hne h.symm),hK1.trans hk⟩
 case rest =>
  as_aux_lemma =>
   clear hK1 dF hI1;obtain⟨neg,p',rfl,hp',bV,hO,hI,hK⟩:=hcut;obtain⟨res,hres⟩:∃res,Zk s (s.size+1) p' J3 true=res:=⟨_,rfl⟩;rw[hres] at bV;go_wp2;go_loopg [5] (s.size+1) (fun fu cnt wr=>Zvp s R I g v res fu cnt wr/\Za (·=R) w wr)
   case atStart=>exact⟨Or.inl ⟨p',J3,0,rfl,by omega,hp',by omega,hres,hO,hI⟩,hK⟩
   case round =>
    clear hO hI hK hres;obtain⟨hst,hK⟩:=hrel
    rcases hst with⟨q,S,n,rfl,hn,hq,hfu,hloop,hO,hI⟩ | ⟨x,S,n,rfl,hn,hx,hB,hI⟩
    ·obtain⟨fu,rfl⟩:∃f,gk=f+1:=⟨gk-1,by omega⟩;have HL:Hid (Zk s (fu+1) q S (decide (n=0))=res):=hloop;clear hloop;have c0:=hO.rd.c0;have c1:=hO.rd.c1
     by_cases hin:q<s.size
     ·have hqz:(q:Int)<(s.size:Int):=by omega
      have hc:s[q].toNat=bt s q:=(ZX hin).symm;have hcl:=Jh hin;obtain⟨b,hbb⟩:∃b,bt s q=b:=⟨_,rfl⟩;rw[hbb] at hc hcl;have HB:Hid (bt s q=b):=hbb;clear hbb
      by_cases hex:b=93/\n≠0
      ·obtain⟨rfl,hn0⟩:=hex;have hnz:((n:Int) == 0)=false:=by simpa using hn0
       have HE:Hid (res=.ok (S,q+1)):=by
        have h1:=HL.out;show _ = _;rw[<- h1];simp only[hn0,decide_false];exact ZdR HB.out
       go_wp2;go_quiet ((go_at_call 27;exact Calls.quiet_of (ZN (hO.rd.drewN _) hs hin)));replace hO:Ok (wr.drewN nq) R s q g v:=⟨hO.rd.drewN nq⟩;replace hI:=hI.drewN nq;replace hK:=hK.drewN nq;clear c0 c1;generalize wr.drewN nq=w3 at hO hI hK ⊢
       cases neg
       ·go_wp2_with(first|(go_at_call 48;refine(iC hO hs (by have:=HB.out;omega) (by omega)).mono ?_;clear hO;rintro e w4 ⟨rfl,hO,hk⟩;replace hK:=hK.trans hk;replace hI:=hI.keeps hk (fun h=>hne h.symm);clear hk)|(go_at_call 123;refine(Eh hI).mono ?_;rintro e w5 ⟨sv,rfl,hown,hk⟩))
        go_ret;exact ZeB (bV.out.2 _ _ HE.out) (hO.keeps hk id) (Zp hown (fun k hk'=>Nat.le_trans hK.size (hown.lt k hk').1)) (hK.trans (hk.mono fun _ _ h=>h.elim))
       ·go_wp2_with(first|(go_at_call 48;refine(iC hO hs (by have:=HB.out;omega) (by omega)).mono ?_;clear hO;rintro e w4 ⟨rfl,hO,hk⟩;replace hK:=hK.trans hk;replace hI:=hI.keeps hk (fun h=>hne h.symm);clear hk))
        go_loopg [182] 256 (fun gl c wr =>∃k:Nat,k+gl=256/\c=.int .i64 k/\In wr I (fun x=>if x<k then !S x else S x)/\Ok wr R s (q+1) g v/\Za (·=R) w wr)
        case atStart=>exact⟨0,by omega,rfl,hI.congr (fun x _=>by simp),hO,hK⟩
        case round =>
         clear hO hI hK;obtain⟨k,hk,rfl,hI,hO,hK⟩:=hrel
         by_cases hlt:k<256
         ·have d1:=hI.cell hlt;have d2:=hI.fz k;have hkz:(k:Int)<256:=by omega
          simp only[Nat.lt_irrefl,if_false] at d1;go_wp2;go_roundg (gk-1)
          case measure=>omega
          case rel=>exact⟨k+1,by omega,by go_num,(hI.set k (!S k)).congr (fun x _=>by
           by_cases e:x=k
           ·subst e;simp
           ·have:(x<k+1)=(x<k):=by simp;omega
            simp[e,this]),hO.keeps ((Za.refl (·=I) _).setCell (fun _=>rfl) _) hne,hK.setCell (fun h=>by simp at h;omega) _⟩
         ·obtain rfl:k=256:=by omega
          replace hI:In wr I (co S):=hI.congr (fun x hx=>by simp[hx,co]);go_wp2_with(first|(go_at_call 123;refine(Eh hI).mono ?_;rintro e w5 ⟨sv,rfl,hown,hk⟩))
          go_ret;exact ZeB (bV.out.2 _ _ HE.out) (hO.keeps hk id) (Zp hown (fun k hk'=>Nat.le_trans hK.size (hown.lt k hk').1)) (hK.trans (hk.mono fun _ _ h=>h.elim))
      ·have HX:Hid (bt s q≠93\/decide (n=0)=true):=by
        have:=HB.out
        show _\/_
        by_cases e:n=0
        ·exact Or.inr (by simp[e])
        ·exact Or.inl (by intro h;exact hex ⟨by omega,e⟩)
       have hbs:b≠93\/(b=93/\n=0):=by omega
       clear hex;go_upto_region 4 with(fail);go_cut [31] from 14 to 173 (fun t31 wc=>t31=.bool true/\Ok wc R s q g v/\In wc I S/\Za (·=R) w wc)
       case first =>
        as_aux_lemma =>
         rcases hbs with hbs | ⟨rfl,rfl⟩
         ·have hz:((b:Int) != 93)=true:=by
           have:¬(b:Int)=93:=by omega
           simpa using this
          go_quiet ((go_at_call 27;exact Calls.quiet_of (ZN (hO.rd.drewN _) hs hin)));go_wp2_with(fail);go_meet
          case rel=>exact⟨rfl,⟨hO.rd.drewN nq⟩,hI.drewN nq,hK.drewN nq⟩
         ·go_quiet ((go_at_call 27;exact Calls.quiet_of (ZN (hO.rd.drewN _) hs hin)));go_wp2_with(fail);go_meet
          case rel=>exact⟨rfl,⟨hO.rd.drewN nq⟩,hI.drewN nq,hK.drewN nq⟩
       case rest =>
        as_aux_lemma =>
         clear hO hI hK c0 c1 hbs;obtain⟨rfl,hO,hI,hK⟩:=hcut;go_upto_if 35 with(go_at_call 48;refine(VO hO hs (by omega) (by omega)).mono ?_;rintro e w4 ⟨c,rfl,hA,hk⟩);replace hK:=hK.trans hk;replace hI:=hI.keeps hk (fun h=>hne h.symm);clear hO hk;go_cut [6,7] from 14 to 173 (fun lo on wc=>DN s q R I g v S lo on wc/\Za (·=R) w wc)
         case first =>
          as_aux_lemma =>
           rcases hA.out with⟨rfl,q8,hO⟩ | ⟨rfl,q8,hO⟩
           ·have yA:Hid (bt s q=92):=by show _ = _;omega
            clear hA q8
            cases lC:Zt s (q+1) with
            | error x =>
              have jv:Hid (Zt s (q+1)=.error x):=lC;clear lC;go_wp2_with(go_at_call 122;refine(SQ hO hI hne hs jv.out).mono ?_;rintro e w5 ⟨rfl,hB,hS,hk⟩);go_meet
              case rel=>exact⟨ZjT (by rw[MV yA.out];exact jv.out) rfl rfl hB hS,hK.trans' hk (fun i hi he=>he.elim id (fun h=>by omega))⟩
            | ok r =>
              obtain⟨T,o,q1⟩:=r;have jv:Hid (Zt s (q+1)=.ok (T,o,q1)):=lC;clear lC;go_wp2_with(go_at_call 122;refine(SS hO hI hne hs jv.out).mono ?_;rintro e w5 ⟨rfl,PV,Dh,hk⟩);go_meet
              case rel=>exact⟨Zgk (by rw[MV yA.out];exact jv.out) rfl rfl PV Dh,hK.trans' hk (fun i hi he=>he.elim id (fun h=>by omega))⟩
           ·have yA:Hid (bt s q≠92):=by show _≠_;omega
            clear hA q8;have c0:=hO.rd.c0;have c1:=hO.rd.c1;have f1:=hO.rd.fz 1;have d1:=hI.cell hcl;have d2:=hI.fz b;have hcz:(b:Int)<256:=by omega
            go_upto_region 10 with(fail)
            go_quiet (fail);replace hO:Ok (w4.drewN nq) R s q g v:=⟨hO.rd.drewN nq⟩;replace hI:=hI.drewN nq;replace hK:=hK.drewN nq;clear c0 c1 f1 d1 d2;generalize w4.drewN nq=w5 at hO hI hK ⊢;have d1:=hI.cell hcl;have d2:=hI.fz b;have c1:(w5.setCell ⟨I,b,none⟩ (.bool true)).cell? ⟨R,1,none⟩=some (.int .i64 q):=by
             rw[World.cell?_setCell_other _ _ _ _ (by intro h;injection h with h1;exact hne h1.symm)];exact hO.rd.c1
            have f1:(w5.setCell ⟨I,b,none⟩ (.bool true)).frozen? ⟨R,1,none⟩=false:=by
             rw[World.frozen?_setCell];exact hO.rd.fz _
            go_wp2_with(fail);go_meet
            case rel =>
             have e1:Zl s q=.ok (one b,some b,q+1):=by rw[ZcH yA.out,HB.out]
             refine⟨Zgk e1 rfl rfl ?_ ?_,(hK.setCell (fun h=>by simp at h;omega) _).setCell (fun _=>rfl) _⟩
             ·exact(hO.keeps ((Za.refl (·=I) _).setCell (fun _=>rfl) _) hne).set1 (q+1)
             ·exact(hI.gM b).keeps ((Za.refl (·=R) _).setCell (fun _=>rfl) _) (fun h=>hne h.symm)
         case rest =>
          as_aux_lemma =>
           clear hI hK hA;obtain⟨hP,hK⟩:=hcut;unfold DN at hP
           cases hpr:Zl s q with
           | error x =>
             rw[hpr] at hP;obtain⟨rfl,rfl,hB,S',hI⟩:=hP;have HE:Hid (res=.error x):=by
              have h1:=HL.out;show _ = _;rw[<- h1];exact JP hin HX.out (Zms hpr)
             clear hpr;go_upto_region 13 with(fail);go_quiet (fail);go_wp2;go_roundg fu
             case measure=>omega
             case rel=>exact⟨Or.inr ⟨x,S',n+1,by go_num,by omega,HE.out,hB.keeps ((Za.refl ai _).drewN _) id,hI.drewN _⟩,hK.drewN _⟩
           | ok r =>
             obtain⟨T,o,q1⟩:=r;rw[hpr] at hP;have hpos:=ZU hin hpr
             cases o with
             | none =>
               obtain⟨rfl,rfl,hO,hI⟩:=hP;have HE:Hid (Zk s fu q1 (un S T) (decide (n+1=0))=res):=by
                have h1:=HL.out;show _ = _;rw[<- h1,UD hin HX.out (Zmp hpr)];simp
               clear hpr;go_upto_region 13 with(fail);go_quiet (fail);go_wp2;go_roundg fu
               case measure=>omega
               case rel=>exact⟨Or.inl ⟨q1,un S T,n+1,by go_num,by omega,by omega,by omega,HE.out,⟨hO.rd.drewN _⟩,hI.drewN _⟩,hK.drewN _⟩
             | some lo =>
               obtain⟨rfl,rfl,hO,hI⟩:=hP;have hlo:=(hpos.2.2 lo rfl).1;have HP:Hid (Zl s q=.ok (T,some lo,q1)):=hpr;clear hpr;have c0:=hO.rd.c0;have c1:=hO.rd.c1;have c2:=hO.rd.c2;have f1:=hO.rd.fz 1
               by_cases hrg:bt s q1=45/\bt s (q1+1)≠256/\bt s (q1+1)≠93
               ·have HR:Hid (bt s q1=45/\bt s (q1+1)≠256/\bt s (q1+1)≠93):=hrg;have hq2:q1+1<s.size:=by
                 apply Decidable.byContradiction;intro hn';exact hrg.2.1 (Z7 hn')
                have hz1:¬(s.size:Int)<=(q1:Int)+1:=by omega
                have hz2:(q1:Int)<(s.size:Int):=by omega
                have hz3:(q1:Int)+1<(s.size:Int):=by omega
                have hc1:s[q1].toNat=45:=by rw[<- hrg.1,ZX (by omega)]
                have hc2:s[q1+1].toNat=bt s (q1+1):=(ZX hq2).symm;have Gw:=Jh hq2;obtain⟨d,hdd⟩:∃d,bt s (q1+1)=d:=⟨_,rfl⟩;rw[hdd] at hc2 Gw;have HD:Hid (bt s (q1+1)=d):=hdd;have Oe:((d:Int) == 93)=false:=by
                 have:¬(d:Int)=93:=by omega
                 simpa using this
                clear hrg hdd;go_upto_region 13 with(fail);go_quiet (fail);replace hO:Ok (wc.drewN nq) R s q1 g v:=⟨hO.rd.drewN nq⟩;replace hI:=hI.drewN nq;replace hK:=hK.drewN nq;clear c0 c1 c2 f1 hz1 hz2 hc1;generalize wc.drewN nq=w6 at hO hI hK ⊢;have c1:=hO.rd.c1;have f1:=hO.rd.fz 1;simp only[Option.getD_some,Option.isSome_some];go_upto_region 16 with(fail);replace hO:=hO.set1 (q1+1);replace hI:=hI.keeps ((Za.refl (·=R) w6).setCell (a:=⟨R,1,none⟩) (fun _=>rfl) (.int .i64 ((q1+1:Nat):Int))) (fun h=>hne h.symm);replace hK:=hK.setCell (a:=⟨R,1,none⟩) (fun _=>rfl) (.int .i64 ((q1+1:Nat):Int));clear c1 f1;rw[show ((q1:Int)+1)=((q1+1:Nat):Int) from by omega];generalize w6.setCell ⟨R,1,none⟩ (.int .i64 ((q1+1:Nat):Int))=w7 at hO hI hK ⊢;generalize hf:q1+1=f at hO hq2 Gw hc2 HD HR ⊢;have HF:Hid (q1+1=f):=hf;have hff:q1<f/\f<=q1+1:=by omega
                have xac:(f:Int)<(s.size:Int):=by omega
                clear hf hz3;have c0:=hO.rd.c0;have c1:=hO.rd.c1;go_quiet (fail);replace hO:Ok (w7.drewN nq) R s f g v:=⟨hO.rd.drewN nq⟩;replace hI:=hI.drewN nq;replace hK:=hK.drewN nq;clear c0 c1;generalize w7.drewN nq=w8 at hO hI hK ⊢;go_upto_if 131 with(go_at_call 48;refine(VO hO hs (by omega) (by omega)).mono ?_;rintro e w9 ⟨c,rfl,hA,hk⟩);replace hK:=hK.trans hk;replace hI:=hI.keeps hk (fun h=>hne h.symm);clear hO hk;go_cut [9,7] from 14 to 173 (fun hi on wc=>DX s f R I g v (un S T) hi on wc/\Za (·=R) w wc)
                case first =>
                 as_aux_lemma =>
                  rcases hA.out with⟨rfl,q8,hO⟩ | ⟨rfl,q8,hO⟩
                  ·have yA:Hid (bt s f=92):=by show _ = _;omega
                   obtain⟨i0,hi,hz0,hz1,hz2⟩:=info_parts Tryz.aQ;clear hA q8;have xaD:=hI.lt;have WB:=hO.rd.lt
                   cases lC:Zt s (f+1) with
                   | error x =>
                     have jv:Hid (Zt s (f+1)=.error x):=lC;clear lC;go_wp2_with(first|(at_make;refine wpList_make_full _ rfl _ _ 74 rfl w9.heap.size 4 i0 (.bool false) 1 Tryz.underlying74 hi hz0 hz1 _ _ _ _ 256 rfl rfl rfl rfl (by rw[hz2];decide) (by unfold maxLen;omega) (Nat.le_refl _) ?_;intro iX ho hg)|(go_at_call 122;refine(SQ (hO.keeps ((Za.refl ai _).grown hg (by simp)) id) (Qj ho) (by omega) hs jv.out).mono ?_;rintro e w5 ⟨rfl,hB,hS,hk⟩))
                     go_meet
                     case rel=>exact⟨Zht (by rw[MV yA.out];exact jv.out) rfl rfl hB ((hI.keeps ((Za.refl ai _).grown hg (by simp)) id).keeps hk (by rintro(h | h) <;> omega)),(hK.grown hg (by simp)).trans' hk (fun i hi' he=>he.elim id (fun h=>by have:=hK.size;omega))⟩
                   | ok r =>
                     obtain⟨T2,o,q2⟩:=r;have jv:Hid (Zt s (f+1)=.ok (T2,o,q2)):=lC;clear lC;go_wp2_with(first|(at_make;refine wpList_make_full _ rfl _ _ 74 rfl w9.heap.size 4 i0 (.bool false) 1 Tryz.underlying74 hi hz0 hz1 _ _ _ _ 256 rfl rfl rfl rfl (by rw[hz2];decide) (by unfold maxLen;omega) (Nat.le_refl _) ?_;intro iX ho hg)|(go_at_call 122;refine(SS (hO.keeps ((Za.refl ai _).grown hg (by simp)) id) (Qj ho) (by omega) hs jv.out).mono ?_;rintro e w5 ⟨rfl,PV,hS,hk⟩))
                     go_meet
                     case rel=>exact⟨Zeg (by rw[MV yA.out];exact jv.out) rfl rfl PV ((hI.keeps ((Za.refl ai _).grown hg (by simp)) id).keeps hk (by rintro(h | h) <;> omega)),(hK.grown hg (by simp)).trans' hk (fun i hi' he=>he.elim id (fun h=>by have:=hK.size;omega))⟩
                  ·have yA:Hid (bt s f≠92):=by show _≠_;omega
                   clear hA q8;have c1:=hO.rd.c1;have f1:=hO.rd.fz 1;go_wp2_with(fail);go_meet
                   case rel =>
                    have e1:Zl s f=.ok (one d,some d,f+1):=by rw[ZcH yA.out,HD.out]
                    exact⟨Zeg e1 rfl rfl (hO.set1 (f+1)) (hI.keeps ((Za.refl (·=R) _).setCell (fun _=>rfl) _) (fun h=>hne h.symm)),hK.setCell (fun _=>rfl) _⟩
                case rest =>
                 as_aux_lemma =>
                  clear hI hK hA;obtain⟨hP,hK⟩:=hcut;unfold DX at hP
                  cases hpr:Zl s f with
                  | error x =>
                    rw[hpr] at hP;obtain⟨rfl,rfl,hB,hI⟩:=hP;have HE:Hid (res=.error x):=by
                     have h1:=HL.out;have e1:=HF.out;have e2:=HR.out;subst e1;show _ = _;rw[<- h1];exact JP hin HX.out (Zmr HP.out e2 hpr)
                    obtain⟨a,g',hrd⟩:=hB.rd;have c2:=hrd.c2;have hx0:decide ((x:Int)<0)=false:=by simp
                    clear hpr hrd;go_wp2;go_roundg fu
                    case measure=>omega
                    case rel=>exact⟨Or.inr ⟨x,un S T,n+1,by go_num,by omega,HE.out,hB,hI⟩,hK⟩
                  | ok r =>
                    obtain⟨T2,o,q2⟩:=r;rw[hpr] at hP;have FP:=ZU (by omega) hpr
                    cases o with
                    | none =>
                      obtain⟨rfl,rfl,hO,hI⟩:=hP;have HE:Hid (res=.error f):=by
                       have h1:=HL.out;have e1:=HF.out;have e2:=HR.out;subst e1;show _ = _;rw[<- h1];exact JP hin HX.out (Zgu HP.out e2 hpr)
                      have c2:=hO.rd.c2;have c1:=hO.rd.c1;have f1:=hO.rd.fz 1;clear hpr;go_wp2_with(go_at_call 28;refine(lX (hO.set1 f)).mono ?_;rintro e w2 ⟨rfl,hB,hk⟩);go_ret;exact MR (bV.out.1 _ HE.out) hB ((hK.setCell (fun _=>rfl) _).trans hk)
                    | some hi =>
                      obtain⟨rfl,rfl,hO,hI⟩:=hP;have hhi:=(FP.2.2 hi rfl).1;have c2:=hO.rd.c2;have c1:=hO.rd.c1;have f1:=hO.rd.fz 1
                      by_cases hlt:hi<lo
                      ·have HE:Hid (res=.error f):=by
                        have h1:=HL.out;have e1:=HF.out;have e2:=HR.out;subst e1;show _ = _;rw[<- h1];exact JP hin HX.out (Zpq HP.out e2 hpr hlt)
                       have hltz:(hi:Int)<(lo:Int):=by omega
                       clear hpr;simp only[Option.getD_some,Option.isSome_some];go_wp2_with(go_at_call 28;refine(lX (hO.set1 f)).mono ?_;rintro e w2 ⟨rfl,hB,hk⟩);go_ret;exact MR (bV.out.1 _ HE.out) hB ((hK.setCell (fun _=>rfl) _).trans hk)
                      ·have HE:Hid (Zk s fu q2 (un S (un T (eH lo hi))) (decide (n+1=0))=res):=by
                        have h1:=HL.out;have e1:=HF.out;have e2:=HR.out;subst e1;show _ = _;rw[<- h1,UD hin HX.out (Zpo HP.out e2 hpr hlt)];simp
                       have hltz:¬(hi:Int)<(lo:Int):=by omega
                       clear hpr;simp only[Option.getD_some,Option.isSome_some];go_wp2_with(go_at_call 121;refine(Zdy hI lo hi (by omega) (by omega)).mono ?_;rintro e w2 ⟨rfl,hI2,hk⟩);go_roundg fu
                       case measure=>omega
                       case rel=>exact⟨Or.inl ⟨q2,un S (un T (eH lo hi)),n+1,by go_num,by omega,by omega,by omega,HE.out,hO.keeps hk hne,hI2.congr (fun x _=>by simp[un,Bool.or_assoc])⟩,hK.trans' hk (fun i hi' he=>by omega)⟩
               ·have HE:Hid (Zk s fu q1 (un S T) (decide (n+1=0))=res):=by
                 have h1:=HL.out;show _ = _;rw[<- h1,UD hin HX.out (Zpp HP.out hrg)];simp
                by_cases h1:q1+1<s.size
                ·have hb1:bt s (q1+1)≠256:=fun h=>(Lu.1 h) h1;have hz1:¬(s.size:Int)<=(q1:Int)+1:=by omega
                 have hz2:(q1:Int)<(s.size:Int):=by omega
                 have hz3:(q1:Int)+1<(s.size:Int):=by omega
                 have hc1:s[q1].toNat=bt s q1:=(ZX (by omega)).symm;have hc2:s[q1+1].toNat=bt s (q1+1):=(ZX h1).symm
                 by_cases h2:bt s q1=45
                 ·have h3:bt s (q1+1)=93:=by
                   apply Decidable.byContradiction;intro hn';exact hrg ⟨h2,hb1,hn'⟩
                  rw[h3] at hc2;rw[h2] at hc1;clear h2 h3 hrg hb1;go_upto_region 13 with(fail);go_quiet (fail);go_wp2;go_roundg fu
                  case measure=>omega
                  case rel=>exact⟨Or.inl ⟨q1,un S T,n+1,by go_num,by omega,by omega,by omega,HE.out,⟨hO.rd.drewN _⟩,hI.drewN _⟩,hK.drewN _⟩
                 ·obtain⟨d,hdd⟩:∃d,bt s q1=d:=⟨_,rfl⟩;rw[hdd] at hc1 h2;have Oe:((d:Int) != 45)=true:=by
                   have:¬(d:Int)=45:=by omega
                   simpa using this
                  clear hrg hb1 hdd;go_upto_region 13 with(fail);go_quiet (fail);go_wp2;go_roundg fu
                  case measure=>omega
                  case rel=>exact⟨Or.inl ⟨q1,un S T,n+1,by go_num,by omega,by omega,by omega,HE.out,⟨hO.rd.drewN _⟩,hI.drewN _⟩,hK.drewN _⟩
                ·have hz1:(s.size:Int)<=(q1:Int)+1:=by omega
                 clear hrg;go_upto_region 13 with(fail);go_quiet (fail);go_wp2;go_roundg fu
                 case measure=>omega
                 case rel=>exact⟨Or.inl ⟨q1,un S T,n+1,by go_num,by omega,by omega,by omega,HE.out,⟨hO.rd.drewN _⟩,hI.drewN _⟩,hK.drewN _⟩
     ·have HE:Hid (res=.error q):=by
       have h1:=HL.out;show _ = _;rw[<- h1];exact Zfw hin
      go_wp2;go_quiet ((go_at_call 27;exact Calls.quiet_of (zB (hO.rd.drewN _) hs hin)));replace hO:Ok (wr.drewN nq) R s q g v:=⟨hO.rd.drewN nq⟩;replace hK:=hK.drewN nq;clear c0 c1 hI;generalize wr.drewN nq=w3 at hO hK ⊢;go_wp2_with(first|(go_at_call 48;refine(jJ hO hs (by have:=Z7 hin;omega) (by omega)).mono ?_;clear hO;rintro e w4 ⟨rfl,hO,hk⟩;replace hK:=hK.trans hk;clear hk)|(go_at_call 28;refine(lX hO).mono ?_;clear hO;rintro e w4 ⟨rfl,hB,hk⟩;replace hK:=hK.trans hk;clear hk))
      go_ret;exact MR (bV.out.1 _ HE.out) hB hK
    ·obtain⟨a,g',hrd⟩:=hB.rd;have HE:Hid (res=.error x):=hx;clear hx hB;go_wp2;go_quiet ((go_at_call 27;exact Calls.quiet_of (Iy (hrd.drewN _))));have hB:jA (wr.drewN nq) R s x v:=⟨_,_,hrd.drewN nq⟩;replace hK:=hK.drewN nq;clear hrd hI;generalize wr.drewN nq=w3 at hB hK ⊢;go_wp2_with(first|(go_at_call 48;refine(yL hB (by omega)).mono ?_;clear hB;rintro e w4 ⟨rfl,hB,hk⟩;replace hK:=hK.trans hk;clear hk)|(go_at_call 28;refine(Ic hB).mono ?_;clear hB;rintro e w4 ⟨rfl,hB,hk⟩;replace hK:=hK.trans hk;clear hk))
     go_ret;exact MR (bV.out.1 _ HE.out) hB hK
end Go.Proofs.YtfkflljplohhcaaGreatDoor
