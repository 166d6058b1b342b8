import Derived.Test.YtfkflljplohhcaaGreatDoorD
set_option maxHeartbeats 40000000
set_option maxRecDepth 1000000
namespace Go.Proofs.YtfkflljplohhcaaGreatDoor
open Go.RowKit
set_option linter.unusedVariables false
def ZbA (s:ByteArray) (p R:Nat) (g:Int) (v:Value) (w:World) (e:Ending) (w':World):Prop :=
 match Zx s p with
 | .ok (S,q) =>∃sv,e = .returned sv/\Ok w' R s q g v/\w'.ownsRow w.heap.size 250 2 sv (Q2 S).length (ZB (Q2 S))/\Za (fun k=>k=R) w w'
 | .error x=>e = .returned (.slice none 0 0)/\Bad w' R s x v/\Za (fun k=>k=R) w w'
def Zm4 (s:ByteArray) (p:Nat) (neg:Bool) (res:Except Nat (Bs×Nat)):Prop :=
 (∀x,res = .error x->Zx s p = .error x)/\(∀S q,res = .ok (S,q)->Zx s p = .ok (if neg then co S else S,q))
theorem ZjJ {s:ByteArray} {p:Nat} (h:bt s p=94):Zm4 s p true (Zo s (s.size + 1) (p + 1) JR true):=by
 constructor
 ·intro x hx; simp [Zx,h,hx]
 ·intro S q hx; simp [Zx,h,hx]
theorem ZjI {s:ByteArray} {p:Nat} (h:bt s p≠94):Zm4 s p false (Zo s (s.size + 1) p JR true):=by
 constructor
 ·intro x hx; simp [Zx,h,hx]
 ·intro S q hx; simp [Zx,h,hx]
theorem ZaF {s:ByteArray} {p R x:Nat} {g:Int} {v:Value} {w w':World} (h:Zx s p = .error x) (hB:Bad w' R s x v) (hK:Za (fun k=>k=R) w w'):ZbA s p R g v w (.returned (.slice none 0 0)) w':=by
 unfold ZbA; rw [h]; exact ⟨rfl,hB,hK⟩
theorem Zee {s:ByteArray} {p R q:Nat} {g:Int} {v sv:Value} {S:Bs} {w w':World} (h:Zx s p = .ok (S,q)) (hO:Ok w' R s q g v) (ho:w'.ownsRow w.heap.size 250 2 sv (Q2 S).length (ZB (Q2 S))) (hK:Za (fun k=>k=R) w w'):ZbA s p R g v w (.returned sv) w':=by
 unfold ZbA; rw [h]; exact ⟨sv,rfl,hO,ho,hK⟩
theorem Zgc {w:World} {R:Nat} {s:ByteArray} {p:Nat} {g:Int} {v:Value} (hR:Ok w R s p g v) (hs:s.size<=120) (hp:p<=s.size) :
  Calls Tryz.prog 120 #[.pointer (some ⟨R,0,none⟩)] w (ZbA s p R g v w):=by
 obtain ⟨i0,hi,hz0,hz1,hz2⟩:=info_parts Tryz.infoBool;have hRlt:=hR.rd.lt;go_enter Tryz.func120,Tryz.ntmps120;go_upto_region 2 with (at_make; refine wpList_make_full _ rfl _ _ 74 rfl w.heap.size 4 i0 (.bool false) 1 Tryz.underlying74 hi hz0 hz1 _ _ _ _ 256 rfl rfl rfl rfl (by rw [hz2]; decide) (by unfold maxLen; omega) (Nat.le_refl _) ?_; intro w1 ho hg);have hK1:Za (fun k=>k=R) w w1:=(Za.refl _ _).grown hg (by simp);have hO1:Ok w1 R s p g v:=hR.keeps ((Za.refl N0_ w).grown hg (by simp)) id;have hI1:=Qi ho;clear hi hz0 hz1 hz2 ho hg hR;generalize hIe:w.heap.size=I at hI1 hRlt ⊢;have hne:R≠I:=by omega
 have hIge:w.heap.size<=I:=by omega
 clear hIe;go_cut [4] from 12 to 13 (fun n4 wc =>∃(neg:Bool) (p':Nat),n4 = .bool neg/\p'<=s.size/\Aside (Zm4 s p neg (Zo s (s.size + 1) p' JR true))/\Ok wc R s p' g v/\In wc I JR/\Za (fun k=>k=R) w wc)
 case first =>
  as_aux_lemma =>
   by_cases hb:bt s p=94
   ·have hlt:=Zt hb (by omega);have HB:Hid (bt s p=94):=hb;clear hb;go_wp2_with (first
     | (go_at_call 48; refine (isY hO1 hs (by have:=HB.out; omega) (by omega)).mono ?_; rintro e w2 ⟨rfl,hO,hk⟩))
    go_meet
    case rel=>exact ⟨true,p + 1,rfl,by omega,ZjJ HB.out,hO,hI1.keeps hk (fun h=>hne h.symm),hK1.trans hk⟩
   ·have HB:Hid (bt s p≠94):=hb;clear hb;go_wp2_with (first
     | (go_at_call 48; refine (isN hO1 hs (by have:=HB.out; omega) (by omega)).mono ?_; rintro e w2 ⟨rfl,hO,hk⟩))
    go_meet
    case rel=>exact ⟨false,p,rfl,hp,ZjI HB.out,hO,hI1.keeps hk (fun h=>hne h.symm),hK1.trans hk⟩
 case rest =>
  as_aux_lemma =>
   clear hK1 hO1 hI1;obtain ⟨neg,p',rfl,hp',HRes,hO,hI,hK⟩:=hcut;obtain ⟨res,hres⟩ :∃res,Zo s (s.size + 1) p' JR true=res:=⟨_,rfl⟩;rw [hres] at HRes;go_wp2;go_loopg [5] (s.size + 1) (fun fu cnt wr=>Ztq s R I g v res fu cnt wr/\Za (fun k=>k=R) w wr)
   case atStart=>exact ⟨Or.inl ⟨p',JR,0,rfl,by omega,hp',by omega,hres,hO,hI⟩,hK⟩
   case round =>
    clear hO hI hK hres;obtain ⟨hst,hK⟩:=hrel
    rcases hst with ⟨q,S,n,rfl,hn,hq,hfu,hloop,hO,hI⟩ | ⟨x,S,n,rfl,hn,hx,hB,hI⟩
    ·obtain ⟨fu,rfl⟩ :∃f,gk=f + 1:=⟨gk - 1,by omega⟩;have HL:Hid (Zo s (fu + 1) q S (decide (n=0))=res):=hloop;clear hloop;have c0:=hO.rd.c0;have c1:=hO.rd.c1
     by_cases hin:q < s.size
     ·have hqz:(q:Int) < (s.size:Int):=by omega
      have hc:s[q].toNat=bt s q:=(ZV hin).symm;have hcl:=Q9 hin;obtain ⟨b,hbb⟩ :∃b,bt s q=b:=⟨_,rfl⟩;rw [hbb] at hc hcl;have HB:Hid (bt s q=b):=hbb;clear hbb
      by_cases hex:b=93/\n≠0
      ·obtain ⟨rfl,hn0⟩:=hex;have hnz:((n:Int) == 0)=false:=by simpa using hn0
       have HE:Hid (res = .ok (S,q + 1)):=by
        have h1:=HL.out;show _ = _; rw [<- h1]; simp only [hn0,decide_false]; exact Zdt HB.out
       go_wp2;go_quiet ((go_at_call 27; exact Calls.quiet_of (ZK (hO.rd.drewN _) hs hin)));replace hO:Ok (wr.drewN nq) R s q g v:=⟨hO.rd.drewN nq⟩;replace hI:=hI.drewN nq;replace hK:=hK.drewN nq;clear c0 c1;generalize wr.drewN nq=w3 at hO hI hK ⊢
       cases neg
       ·go_wp2_with (first
         | (go_at_call 48; refine (isY hO hs (by have:=HB.out; omega) (by omega)).mono ?_; clear hO; rintro e w4 ⟨rfl,hO,hk⟩; replace hK:=hK.trans hk; replace hI:=hI.keeps hk (fun h=>hne h.symm); clear hk)
         | (go_at_call 123; refine (Zam hI).mono ?_; rintro e w5 ⟨sv,rfl,hown,hk⟩))
        go_ret;exact Zee (HRes.out.2 _ _ HE.out) (hO.keeps hk id) (Zr hown (fun k hk'=>Nat.le_trans hK.size (hown.lt k hk').1)) (hK.trans (hk.mono fun _ _ h=>h.elim))
       ·go_wp2_with (first
         | (go_at_call 48; refine (isY hO hs (by have:=HB.out; omega) (by omega)).mono ?_; clear hO; rintro e w4 ⟨rfl,hO,hk⟩; replace hK:=hK.trans hk; replace hI:=hI.keeps hk (fun h=>hne h.symm); clear hk))
        go_loopg [182] 256 (fun gl c wr =>∃k:Nat,k + gl=256/\c = .int .i64 k/\In wr I (fun x=>if x < k then !S x else S x)/\Ok wr R s (q + 1) g v/\Za (fun k=>k=R) w wr)
        case atStart=>exact ⟨0,by omega,rfl,hI.congr (fun x _=>by simp),hO,hK⟩
        case round =>
         clear hO hI hK;obtain ⟨k,hk,rfl,hI,hO,hK⟩:=hrel
         by_cases hlt:k < 256
         ·have d1:=hI.cell hlt;have d2:=hI.fz k;have hkz:(k:Int) < 256:=by omega
          simp only [Nat.lt_irrefl,if_false] at d1;go_wp2;go_roundg (gk - 1)
          case measure=>omega
          case rel=>exact ⟨k + 1,by omega,by go_num,(hI.set k (!S k)).congr (fun x _=>by
           by_cases e:x=k
           ·subst e; simp
           ·have:(x < k + 1)=(x < k):=by simp; omega
            simp [e,this]),hO.keeps ((Za.refl (fun k=>k=I) _).setCell (fun _=>rfl) _) hne,hK.setCell (fun h=>by simp at h; omega) _⟩
         ·obtain rfl:k=256:=by omega
          replace hI:In wr I (co S):=hI.congr (fun x hx=>by simp [hx,co]);go_wp2_with (first
           | (go_at_call 123; refine (Zam hI).mono ?_; rintro e w5 ⟨sv,rfl,hown,hk⟩))
          go_ret;exact Zee (HRes.out.2 _ _ HE.out) (hO.keeps hk id) (Zr hown (fun k hk'=>Nat.le_trans hK.size (hown.lt k hk').1)) (hK.trans (hk.mono fun _ _ h=>h.elim))
      ·have HX:Hid (bt s q≠93\/decide (n=0)=true):=by
        have:=HB.out
        show _\/_
        by_cases e:n=0
        ·exact Or.inr (by simp [e])
        ·exact Or.inl (by intro h; exact hex ⟨by omega,e⟩)
       have hbs:b≠93\/(b=93/\n=0):=by omega
       clear hex;go_upto_region 4 with (fail);go_cut [31] from 14 to 173 (fun t31 wc=>t31 = .bool true/\Ok wc R s q g v/\In wc I S/\Za (fun k=>k=R) w wc)
       case first =>
        as_aux_lemma =>
         rcases hbs with hbs | ⟨rfl,rfl⟩
         ·have hz:((b:Int) != 93)=true:=by
           have:¬ (b:Int)=93:=by omega
           simpa using this
          go_quiet ((go_at_call 27; exact Calls.quiet_of (ZK (hO.rd.drewN _) hs hin)));go_wp2_with (fail);go_meet
          case rel=>exact ⟨rfl,⟨hO.rd.drewN nq⟩,hI.drewN nq,hK.drewN nq⟩
         ·go_quiet ((go_at_call 27; exact Calls.quiet_of (ZK (hO.rd.drewN _) hs hin)));go_wp2_with (fail);go_meet
          case rel=>exact ⟨rfl,⟨hO.rd.drewN nq⟩,hI.drewN nq,hK.drewN nq⟩
       case rest =>
        as_aux_lemma =>
         clear hO hI hK c0 c1 hbs;obtain ⟨rfl,hO,hI,hK⟩:=hcut;go_upto_if 35 with (go_at_call 48; refine (isA hO hs (by omega) (by omega)).mono ?_; rintro e w4 ⟨c,rfl,hA,hk⟩);replace hK:=hK.trans hk;replace hI:=hI.keeps hk (fun h=>hne h.symm);clear hO hk;go_cut [6,7] from 14 to 173 (fun lo on wc=>Zeo s q R I g v S lo on wc/\Za (fun k=>k=R) w wc)
         case first =>
          as_aux_lemma =>
           rcases hA.out with ⟨rfl,h92,hO⟩ | ⟨rfl,h92,hO⟩
           ·have H92:Hid (bt s q=92):=by show _ = _; omega
            clear hA h92
            cases hesc:Zz s (q + 1) with
            | error x =>
              have HX2:Hid (Zz s (q + 1) = .error x):=hesc;clear hesc;go_wp2_with (go_at_call 122; refine (Zhh hO hI hne hs HX2.out).mono ?_; rintro e w5 ⟨rfl,hB,hS,hk⟩);go_meet
              case rel=>exact ⟨Zi8 (by rw [ZaA H92.out]; exact HX2.out) rfl rfl hB hS,hK.trans' hk (fun i hi he=>he.elim id (fun h=>by omega))⟩
            | ok r =>
              obtain ⟨T,o,q1⟩:=r;have HX2:Hid (Zz s (q + 1) = .ok (T,o,q1)):=hesc;clear hesc;go_wp2_with (go_at_call 122; refine (Zhg hO hI hne hs HX2.out).mono ?_; rintro e w5 ⟨rfl,hO5,hI5,hk⟩);go_meet
              case rel=>exact ⟨ZfN (by rw [ZaA H92.out]; exact HX2.out) rfl rfl hO5 hI5,hK.trans' hk (fun i hi he=>he.elim id (fun h=>by omega))⟩
           ·have H92:Hid (bt s q≠92):=by show _≠_; omega
            clear hA h92;have c0:=hO.rd.c0;have c1:=hO.rd.c1;have f1:=hO.rd.fz 1;have d1:=hI.cell hcl;have d2:=hI.fz b;have hcz:(b:Int) < 256:=by omega
            go_upto_region 10 with (fail)
            go_quiet (fail);replace hO:Ok (w4.drewN nq) R s q g v:=⟨hO.rd.drewN nq⟩;replace hI:=hI.drewN nq;replace hK:=hK.drewN nq;clear c0 c1 f1 d1 d2;generalize w4.drewN nq=w5 at hO hI hK ⊢;have d1:=hI.cell hcl;have d2:=hI.fz b;have c1:(w5.setCell ⟨I,b,none⟩ (.bool true)).cell? ⟨R,1,none⟩=some (.int .i64 q):=by
             rw [World.cell?_setCell_other _ _ _ _ (by intro h; injection h with h1; exact hne h1.symm)]; exact hO.rd.c1
            have f1:(w5.setCell ⟨I,b,none⟩ (.bool true)).frozen? ⟨R,1,none⟩=false:=by
             rw [World.frozen?_setCell]; exact hO.rd.fz _
            go_wp2_with (fail);go_meet
            case rel =>
             have e1:Zm s q = .ok (one b,some b,q + 1):=by rw [Zcr H92.out,HB.out]
             refine ⟨ZfN e1 rfl rfl ?_ ?_,(hK.setCell (fun h=>by simp at h; omega) _).setCell (fun _=>rfl) _⟩
             ·exact (hO.keeps ((Za.refl (fun k=>k=I) _).setCell (fun _=>rfl) _) hne).set1 (q + 1)
             ·exact (hI.setOne b).keeps ((Za.refl (fun k=>k=R) _).setCell (fun _=>rfl) _) (fun h=>hne h.symm)
         case rest =>
          as_aux_lemma =>
           clear hI hK hA;obtain ⟨hP,hK⟩:=hcut;unfold Zeo at hP
           cases hpr:Zm s q with
           | error x =>
             rw [hpr] at hP;obtain ⟨rfl,rfl,hB,S',hI⟩:=hP;have HE:Hid (res = .error x):=by
              have h1:=HL.out;show _ = _; rw [<- h1]; exact JH hin HX.out (Zlv hpr)
             clear hpr;go_upto_region 13 with (fail);go_quiet (fail);go_wp2;go_roundg fu
             case measure=>omega
             case rel=>exact ⟨Or.inr ⟨x,S',n + 1,by go_num,by omega,HE.out,hB.keeps ((Za.refl N0_ _).drewN _) id,hI.drewN _⟩,hK.drewN _⟩
           | ok r =>
             obtain ⟨T,o,q1⟩:=r;rw [hpr] at hP;have hpos:=ZS hin hpr
             cases o with
             | none =>
               obtain ⟨rfl,rfl,hO,hI⟩:=hP;have HE:Hid (Zo s fu q1 (un S T) (decide (n + 1=0))=res):=by
                have h1:=HL.out;show _ = _; rw [<- h1,Zac hin HX.out (Zls hpr)]; simp
               clear hpr;go_upto_region 13 with (fail);go_quiet (fail);go_wp2;go_roundg fu
               case measure=>omega
               case rel=>exact ⟨Or.inl ⟨q1,un S T,n + 1,by go_num,by omega,by omega,by omega,HE.out,⟨hO.rd.drewN _⟩,hI.drewN _⟩,hK.drewN _⟩
             | some lo =>
               obtain ⟨rfl,rfl,hO,hI⟩:=hP;have hlo:=(hpos.2.2 lo rfl).1;have HP:Hid (Zm s q = .ok (T,some lo,q1)):=hpr;clear hpr;have c0:=hO.rd.c0;have c1:=hO.rd.c1;have c2:=hO.rd.c2;have f1:=hO.rd.fz 1
               by_cases hrg:bt s q1=45/\bt s (q1 + 1)≠256/\bt s (q1 + 1)≠93
               ·have HR:Hid (bt s q1=45/\bt s (q1 + 1)≠256/\bt s (q1 + 1)≠93):=hrg;have hq2:q1 + 1 < s.size:=by
                 apply Decidable.byContradiction; intro hn'; exact hrg.2.1 (Z7 hn')
                have hz1:¬ (s.size:Int)<=(q1:Int) + 1:=by omega
                have hz2:(q1:Int) < (s.size:Int):=by omega
                have hz3:(q1:Int) + 1 < (s.size:Int):=by omega
                have hc1:s[q1].toNat=45:=by rw [<- hrg.1,ZV (by omega)]
                have hc2:s[q1 + 1].toNat=bt s (q1 + 1):=(ZV hq2).symm;have hcl2:=Q9 hq2;obtain ⟨d,hdd⟩ :∃d,bt s (q1 + 1)=d:=⟨_,rfl⟩;rw [hdd] at hc2 hcl2;have HD:Hid (bt s (q1 + 1)=d):=hdd;have hz4:((d:Int) == 93)=false:=by
                 have:¬ (d:Int)=93:=by omega
                 simpa using this
                clear hrg hdd;go_upto_region 13 with (fail);go_quiet (fail);replace hO:Ok (wc.drewN nq) R s q1 g v:=⟨hO.rd.drewN nq⟩;replace hI:=hI.drewN nq;replace hK:=hK.drewN nq;clear c0 c1 c2 f1 hz1 hz2 hc1;generalize wc.drewN nq=w6 at hO hI hK ⊢;have c1:=hO.rd.c1;have f1:=hO.rd.fz 1;simp only [Option.getD_some,Option.isSome_some];go_upto_region 16 with (fail);replace hO:=hO.set1 (q1 + 1);replace hI:=hI.keeps ((Za.refl (fun k=>k=R) w6).setCell (a:=⟨R,1,none⟩) (fun _=>rfl) (.int .i64 ((q1 + 1:Nat):Int))) (fun h=>hne h.symm);replace hK:=hK.setCell (a:=⟨R,1,none⟩) (fun _=>rfl) (.int .i64 ((q1 + 1:Nat):Int));clear c1 f1;rw [show ((q1:Int) + 1)=((q1 + 1:Nat):Int) from by omega];generalize w6.setCell ⟨R,1,none⟩ (.int .i64 ((q1 + 1:Nat):Int))=w7 at hO hI hK ⊢;generalize hf:q1 + 1=f at hO hq2 hcl2 hc2 HD HR ⊢;have HF:Hid (q1 + 1=f):=hf;have hff:q1 < f/\f<=q1 + 1:=by omega
                have hz3':(f:Int) < (s.size:Int):=by omega
                clear hf hz3;have c0:=hO.rd.c0;have c1:=hO.rd.c1;go_quiet (fail);replace hO:Ok (w7.drewN nq) R s f g v:=⟨hO.rd.drewN nq⟩;replace hI:=hI.drewN nq;replace hK:=hK.drewN nq;clear c0 c1;generalize w7.drewN nq=w8 at hO hI hK ⊢;go_upto_if 131 with (go_at_call 48; refine (isA hO hs (by omega) (by omega)).mono ?_; rintro e w9 ⟨c,rfl,hA,hk⟩);replace hK:=hK.trans hk;replace hI:=hI.keeps hk (fun h=>hne h.symm);clear hO hk;go_cut [9,7] from 14 to 173 (fun hi on wc=>Zco s f R I g v (un S T) hi on wc/\Za (fun k=>k=R) w wc)
                case first =>
                 as_aux_lemma =>
                  rcases hA.out with ⟨rfl,h92,hO⟩ | ⟨rfl,h92,hO⟩
                  ·have H92:Hid (bt s f=92):=by show _ = _; omega
                   obtain ⟨i0,hi,hz0,hz1,hz2⟩:=info_parts Tryz.infoBool;clear hA h92;have hIlt:=hI.lt;have hRlt9:=hO.rd.lt
                   cases hesc:Zz s (f + 1) with
                   | error x =>
                     have HX2:Hid (Zz s (f + 1) = .error x):=hesc;clear hesc;go_wp2_with (first
                      | (at_make; refine wpList_make_full _ rfl _ _ 74 rfl w9.heap.size 4 i0 (.bool false) 1 Tryz.underlying74 hi hz0 hz1 _ _ _ _ 256 rfl rfl rfl rfl (by rw [hz2]; decide) (by unfold maxLen; omega) (Nat.le_refl _) ?_; intro w10 ho hg)
                      | (go_at_call 122; refine (Zhh (hO.keeps ((Za.refl N0_ _).grown hg (by simp)) id) (Qi ho) (by omega) hs HX2.out).mono ?_; rintro e w5 ⟨rfl,hB,hS,hk⟩))
                     go_meet
                     case rel=>exact ⟨ZgR (by rw [ZaA H92.out]; exact HX2.out) rfl rfl hB ((hI.keeps ((Za.refl N0_ _).grown hg (by simp)) id).keeps hk (by rintro (h | h) <;> omega)),(hK.grown hg (by simp)).trans' hk (fun i hi' he=>he.elim id (fun h=>by have:=hK.size; omega))⟩
                   | ok r =>
                     obtain ⟨T2,o,q2⟩:=r;have HX2:Hid (Zz s (f + 1) = .ok (T2,o,q2)):=hesc;clear hesc;go_wp2_with (first
                      | (at_make; refine wpList_make_full _ rfl _ _ 74 rfl w9.heap.size 4 i0 (.bool false) 1 Tryz.underlying74 hi hz0 hz1 _ _ _ _ 256 rfl rfl rfl rfl (by rw [hz2]; decide) (by unfold maxLen; omega) (Nat.le_refl _) ?_; intro w10 ho hg)
                      | (go_at_call 122; refine (Zhg (hO.keeps ((Za.refl N0_ _).grown hg (by simp)) id) (Qi ho) (by omega) hs HX2.out).mono ?_; rintro e w5 ⟨rfl,hO5,hS,hk⟩))
                     go_meet
                     case rel=>exact ⟨ZdS (by rw [ZaA H92.out]; exact HX2.out) rfl rfl hO5 ((hI.keeps ((Za.refl N0_ _).grown hg (by simp)) id).keeps hk (by rintro (h | h) <;> omega)),(hK.grown hg (by simp)).trans' hk (fun i hi' he=>he.elim id (fun h=>by have:=hK.size; omega))⟩
                  ·have H92:Hid (bt s f≠92):=by show _≠_; omega
                   clear hA h92;have c1:=hO.rd.c1;have f1:=hO.rd.fz 1;go_wp2_with (fail);go_meet
                   case rel =>
                    have e1:Zm s f = .ok (one d,some d,f + 1):=by rw [Zcr H92.out,HD.out]
                    exact ⟨ZdS e1 rfl rfl (hO.set1 (f + 1)) (hI.keeps ((Za.refl (fun k=>k=R) _).setCell (fun _=>rfl) _) (fun h=>hne h.symm)),hK.setCell (fun _=>rfl) _⟩
                case rest =>
                 as_aux_lemma =>
                  clear hI hK hA;obtain ⟨hP,hK⟩:=hcut;unfold Zco at hP
                  cases hpr:Zm s f with
                  | error x =>
                    rw [hpr] at hP;obtain ⟨rfl,rfl,hB,hI⟩:=hP;have HE:Hid (res = .error x):=by
                     have h1:=HL.out;have e1:=HF.out;have e2:=HR.out;subst e1;show _ = _; rw [<- h1]; exact JH hin HX.out (Zlu HP.out e2 hpr)
                    obtain ⟨a,g',hrd⟩:=hB.rd;have c2:=hrd.c2;have hx0:decide ((x:Int) < 0)=false:=by simp
                    clear hpr hrd;go_wp2;go_roundg fu
                    case measure=>omega
                    case rel=>exact ⟨Or.inr ⟨x,un S T,n + 1,by go_num,by omega,HE.out,hB,hI⟩,hK⟩
                  | ok r =>
                    obtain ⟨T2,o,q2⟩:=r;rw [hpr] at hP;have hpos2:=ZS (by omega) hpr
                    cases o with
                    | none =>
                      obtain ⟨rfl,rfl,hO,hI⟩:=hP;have HE:Hid (res = .error f):=by
                       have h1:=HL.out;have e1:=HF.out;have e2:=HR.out;subst e1;show _ = _; rw [<- h1]; exact JH hin HX.out (ZfX HP.out e2 hpr)
                      have c2:=hO.rd.c2;have c1:=hO.rd.c1;have f1:=hO.rd.fz 1;clear hpr;go_wp2_with (go_at_call 28; refine (ZaN (hO.set1 f)).mono ?_; rintro e w2 ⟨rfl,hB,hk⟩);go_ret;exact ZaF (HRes.out.1 _ HE.out) hB ((hK.setCell (fun _=>rfl) _).trans hk)
                    | some hi =>
                      obtain ⟨rfl,rfl,hO,hI⟩:=hP;have hhi:=(hpos2.2.2 hi rfl).1;have c2:=hO.rd.c2;have c1:=hO.rd.c1;have f1:=hO.rd.fz 1
                      by_cases hlt:hi < lo
                      ·have HE:Hid (res = .error f):=by
                        have h1:=HL.out;have e1:=HF.out;have e2:=HR.out;subst e1;show _ = _; rw [<- h1]; exact JH hin HX.out (Zob HP.out e2 hpr hlt)
                       have hltz:(hi:Int) < (lo:Int):=by omega
                       clear hpr;simp only [Option.getD_some,Option.isSome_some];go_wp2_with (go_at_call 28; refine (ZaN (hO.set1 f)).mono ?_; rintro e w2 ⟨rfl,hB,hk⟩);go_ret;exact ZaF (HRes.out.1 _ HE.out) hB ((hK.setCell (fun _=>rfl) _).trans hk)
                      ·have HE:Hid (Zo s fu q2 (un S (un T (rng lo hi))) (decide (n + 1=0))=res):=by
                        have h1:=HL.out;have e1:=HF.out;have e2:=HR.out;subst e1;show _ = _; rw [<- h1,Zac hin HX.out (Zn9 HP.out e2 hpr hlt)]; simp
                       have hltz:¬ (hi:Int) < (lo:Int):=by omega
                       clear hpr;simp only [Option.getD_some,Option.isSome_some];go_wp2_with (go_at_call 121; refine (Zdf hI lo hi (by omega) (by omega)).mono ?_; rintro e w2 ⟨rfl,hI2,hk⟩);go_roundg fu
                       case measure=>omega
                       case rel=>exact ⟨Or.inl ⟨q2,un S (un T (rng lo hi)),n + 1,by go_num,by omega,by omega,by omega,HE.out,hO.keeps hk hne,hI2.congr (fun x _=>by simp [un,Bool.or_assoc])⟩,hK.trans' hk (fun i hi' he=>by omega)⟩
               ·have HE:Hid (Zo s fu q1 (un S T) (decide (n + 1=0))=res):=by
                 have h1:=HL.out;show _ = _; rw [<- h1,Zac hin HX.out (Zoa HP.out hrg)]; simp
                by_cases h1:q1 + 1 < s.size
                ·have hb1:bt s (q1 + 1)≠256:=fun h=>(ZiB.1 h) h1;have hz1:¬ (s.size:Int)<=(q1:Int) + 1:=by omega
                 have hz2:(q1:Int) < (s.size:Int):=by omega
                 have hz3:(q1:Int) + 1 < (s.size:Int):=by omega
                 have hc1:s[q1].toNat=bt s q1:=(ZV (by omega)).symm;have hc2:s[q1 + 1].toNat=bt s (q1 + 1):=(ZV h1).symm
                 by_cases h2:bt s q1=45
                 ·have h3:bt s (q1 + 1)=93:=by
                   apply Decidable.byContradiction; intro hn'; exact hrg ⟨h2,hb1,hn'⟩
                  rw [h3] at hc2;rw [h2] at hc1;clear h2 h3 hrg hb1;go_upto_region 13 with (fail);go_quiet (fail);go_wp2;go_roundg fu
                  case measure=>omega
                  case rel=>exact ⟨Or.inl ⟨q1,un S T,n + 1,by go_num,by omega,by omega,by omega,HE.out,⟨hO.rd.drewN _⟩,hI.drewN _⟩,hK.drewN _⟩
                 ·obtain ⟨d,hdd⟩ :∃d,bt s q1=d:=⟨_,rfl⟩;rw [hdd] at hc1 h2;have hz4:((d:Int) != 45)=true:=by
                   have:¬ (d:Int)=45:=by omega
                   simpa using this
                  clear hrg hb1 hdd;go_upto_region 13 with (fail);go_quiet (fail);go_wp2;go_roundg fu
                  case measure=>omega
                  case rel=>exact ⟨Or.inl ⟨q1,un S T,n + 1,by go_num,by omega,by omega,by omega,HE.out,⟨hO.rd.drewN _⟩,hI.drewN _⟩,hK.drewN _⟩
                ·have hz1:(s.size:Int)<=(q1:Int) + 1:=by omega
                 clear hrg;go_upto_region 13 with (fail);go_quiet (fail);go_wp2;go_roundg fu
                 case measure=>omega
                 case rel=>exact ⟨Or.inl ⟨q1,un S T,n + 1,by go_num,by omega,by omega,by omega,HE.out,⟨hO.rd.drewN _⟩,hI.drewN _⟩,hK.drewN _⟩
     ·have HE:Hid (res = .error q):=by
       have h1:=HL.out;show _ = _; rw [<- h1]; exact Ze4 hin
      go_wp2;go_quiet ((go_at_call 27; exact Calls.quiet_of (ZaV (hO.rd.drewN _) hs hin)));replace hO:Ok (wr.drewN nq) R s q g v:=⟨hO.rd.drewN nq⟩;replace hK:=hK.drewN nq;clear c0 c1 hI;generalize wr.drewN nq=w3 at hO hK ⊢;go_wp2_with (first
       | (go_at_call 48; refine (isN hO hs (by have:=Z7 hin; omega) (by omega)).mono ?_; clear hO; rintro e w4 ⟨rfl,hO,hk⟩; replace hK:=hK.trans hk; clear hk)
       | (go_at_call 28; refine (ZaN hO).mono ?_; clear hO; rintro e w4 ⟨rfl,hB,hk⟩; replace hK:=hK.trans hk; clear hk))
      go_ret;exact ZaF (HRes.out.1 _ HE.out) hB hK
    ·obtain ⟨a,g',hrd⟩:=hB.rd;have HE:Hid (res = .error x):=hx;clear hx hB;go_wp2;go_quiet ((go_at_call 27; exact Calls.quiet_of (ZbL (hrd.drewN _))));have hB:Bad (wr.drewN nq) R s x v:=⟨_,_,hrd.drewN nq⟩;replace hK:=hK.drewN nq;clear hrd hI;generalize wr.drewN nq=w3 at hB hK ⊢;go_wp2_with (first
      | (go_at_call 48; refine (isB hB (by omega)).mono ?_; clear hB; rintro e w4 ⟨rfl,hB,hk⟩; replace hK:=hK.trans hk; clear hk)
      | (go_at_call 28; refine (Zl6 hB).mono ?_; clear hB; rintro e w4 ⟨rfl,hB,hk⟩; replace hK:=hK.trans hk; clear hk))
     go_ret;exact ZaF (HRes.out.1 _ HE.out) hB hK
end Go.Proofs.YtfkflljplohhcaaGreatDoor
