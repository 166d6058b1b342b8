import Derived.Test.YtfkflljplohhcaaGreatDoorJ
set_option linter.unusedVariables false
set_option maxHeartbeats 4000000
set_option maxRecDepth 1000000
namespace Go.Proofs.YtfkflljplohhcaaGreatDoor
open Go.RowKit
def Zvr (alt:Nat->Nat->aS) (room:Bool) (s:ByteArray) (R P B:Nat) (res:Except Nat (List Pf×Nat×Nat)) (w:World) (v:Value) (L:List Pm) (fu:Nat) (wr:World):Prop :=
 (∃(q g':Nat) (v':Value) (L':List Pm) (fs:List Pf) (kv:Value),q<=s.size/\g'<=9/\s.size-q<fu/\ZY alt room s fu q g' fs=res/\Sp wr R s q (-1) g' v' L'/\L'.map (·.1)=L.map (·.1)++cat fs L.length/\
  Pb wr P (ZL 3 []) (.slice none 0 0) kv/\wr.ownsRow w.heap.size 3 1 kv (ends fs L.length).length (nY (ends fs L.length))/\(ends fs L.length).length+fu<=122/\xW L' kv/\¬v'.ownBlock=some P/\Stp R w v wr v'/\New w L L'/\L'.length+3*(s.size-q)<=1001)\/
 (∃(x:Nat) (a g':Int) (v':Value) (L':List Pm) (kv:Value) (ks:List Int),res=.error x/\Sp wr R s a x g' v' L'/\
  Pb wr P (ZL 3 []) (.slice none 0 0) kv/\wr.ownsRow w.heap.size 3 1 kv ks.length (nY ks)/\Stp R w v wr v'/\New w L L'/\L'.length<=B)
variable {s:ByteArray}{g x p g' deep B R Q:Nat}{fs:List Pf}{w w':World}{v:Value}
theorem ZgY{alt:Nat->Nat->aS}{room:Bool}{fu q:Nat}(h:bt s q≠124):ZY alt room s (fu+1) q g fs=.ok (fs,q,g):=by
 rw[ZY,if_neg h]
theorem Zil{alt:Nat->Nat->aS}{room:Bool}{fu q:Nat}(h:bt s q=124)(hp:ZJ alt room s (q+1) g=.error x):ZY alt room s (fu+1) q g fs=.error x:=by
 rw[ZY,if_pos h,hp]
variable {f:Pf}
theorem ZgX{alt:Nat->Nat->aS}{room:Bool}{fu q q1 g1:Nat}(h:bt s q=124)(hp:ZJ alt room s (q+1) g=.ok (f,q1,g1)):ZY alt room s (fu+1) q g fs=ZY alt room s fu q1 g1 (fs++[f]):=by
 rw[ZY,if_pos h,hp]
theorem ZnW{alt:Nat->Nat->aS}{room:Bool}(h:ZJ alt room s p g=.error x):QY alt room s p g=.error x:=by simp[QY,h]
theorem ZgV{alt:Nat->Nat->aS}{room:Bool}{q:Nat}(h:ZJ alt room s p g=.ok (f,q,g'))(hb:bt s q≠124):QY alt room s p g=.ok (f,q,g'):=by simp[QY,h,hb]
theorem ZkT{alt:Nat->Nat->aS}{room:Bool}{q:Nat}(h:ZJ alt room s p g=.ok (f,q,g'))(hb:bt s q=124)(hl:ZY alt room s (s.size+1) q g' [f]=.error x):QY alt room s p g=.error x:=by simp[QY,h,hb,hl]
theorem ZqN{alt:Nat->Nat->aS}{room:Bool}{q q2 g2:Nat}(h:ZJ alt room s p g=.ok (f,q,g'))(hb:bt s q=124)(hl:ZY alt room s (s.size+1) q g' [f]=.ok (fs,q2,g2)):QY alt room s p g=.ok (JQ fs,q2,g2):=by simp[QY,h,hb,hl]
theorem Pb.xR(w:World)(kv:Value):Pb (w.alloc (.cells #[.int .i64 3,.slice none 0 0,.int .i64 0,.int .i64 0,.bool false,.int .i64 0,kv] 114)) w.heap.size (ZL 3 []) (.slice none 0 0) kv:=heap_alloc_new _ _
variable {L:List Pm}
theorem Zs0{alt:Nat->Nat->aS}{room:Bool}(hA:Hw s alt room deep B)(S:Sp w R s p (-1) g v L)(hs:s.size<=120)(hp:p<=s.size)(hg:g<=9)(hF:L.length+3*(s.size-p)<=1000)(G:ed s alt)(he:ZJ alt room s p g=.error x):
  au 26 #[ae R,.int .i64 deep] w (QM (QY alt room s p g) R s (B+1) w v L):=by
 have HX:Hid (ZJ alt room s p g=.error x):=he;clear he;go_enter Tryz.func26,Tryz.ntmps26;go_wp2_with(first|(go_at_call 47;refine(hA _ _ _ _ _ _ S hs hp hg hF G).mono ?_;intro e w4 hpo;unfold QM at hpo;rw[HX.out] at hpo;obtain⟨r,v4,L4,rfl,dE,hB4,aU,dw⟩:=hpo;obtain⟨a4,g4,S4⟩:=dE))
 go_quiet ((go_at_call 27;exact Calls.quiet_of (Iy (S4.rd.drewN _))));go_wp2;go_ret;exact Qm (ZnW HX.out) (S4.drewN nq) (by omega) (aU.same ((Za.refl _ _).drewN _)) dw
theorem ZsZ{alt:Nat->Nat->aS}{room:Bool}(hA:Hw s alt room deep B){q:Nat}(S:Sp w R s p (-1) g v L)(hs:s.size<=120)(hp:p<=s.size)(hg:g<=9)(hF:L.length+3*(s.size-p)<=1000)(G:ed s alt)(he:ZJ alt room s p g=.ok (f,q,g'))(hb:bt s q≠124):
  au 26 #[ae R,.int .i64 deep] w (QM (QY alt room s p g) R s (B+1) w v L):=by
 have HX:Hid (ZJ alt room s p g=.ok (f,q,g')):=he;have HB:Hid (bt s q≠124):=hb
 by_cases hin:q<s.size
 ·have hqz:(q:Int)<(s.size:Int):=by omega
  have hc:s[q].toNat=bt s q:=(ZX hin).symm;obtain⟨b,hbb⟩:∃b,bt s q=b:=⟨_,rfl⟩;rw[hbb] at hc hb;have z1:((b:Int) != 124)=true:=by
   have:¬(b:Int)=124:=by omega
   simpa using this
  clear hbb hb he;go_enter Tryz.func26,Tryz.ntmps26;go_wp2_with(first|(go_at_call 47;refine(hA _ _ _ _ _ _ S hs hp hg hF G).mono ?_;intro e w4 hpo;unfold QM at hpo;rw[HX.out] at hpo;obtain⟨v4,L4,rfl,S4,cO,aU,dw⟩:=hpo;have c0:=S4.rd.c0;have c1:=S4.rd.c1))
  go_quiet ((go_at_call 27;exact Calls.quiet_of (ZN (S4.rd.drewN _) hs hin)));go_wp2;go_ret;exact Qi (ZgV HX.out HB.out) (S4.drewN nq) cO rfl (aU.same ((Za.refl _ _).drewN _)) dw
 ·clear hb he;go_enter Tryz.func26,Tryz.ntmps26;go_wp2_with(first|(go_at_call 47;refine(hA _ _ _ _ _ _ S hs hp hg hF G).mono ?_;intro e w4 hpo;unfold QM at hpo;rw[HX.out] at hpo;obtain⟨v4,L4,rfl,S4,cO,aU,dw⟩:=hpo))
  go_quiet ((go_at_call 27;exact Calls.quiet_of (zB (S4.rd.drewN _) hs hin)));go_wp2;go_ret;exact Qi (ZgV HX.out HB.out) (S4.drewN nq) cO rfl (aU.same ((Za.refl _ _).drewN _)) dw
theorem ZqL{alt:Nat->Nat->aS}{room:Bool}(hA:Hw s alt room deep B)(hB:1005<=B)(fE:B<=6000){q:Nat}(S:Sp w R s p (-1) g v L)(hs:s.size<=120)(hp:p<=s.size)(hg:g<=9)(hF:L.length+3*(s.size-p)<=1000)(G:ed s alt)(he:ZJ alt room s p g=.ok (f,q,g'))(hb:bt s q=124):
  au 26 #[ae R,.int .i64 deep] w (QM (QY alt room s p g) R s (B+1) w v L):=by
 have HX:Hid (ZJ alt room s p g=.ok (f,q,g')):=he;have HB:Hid (bt s q=124):=hb;have yP:=Q3 G hp hg he;have Gg:=yP.2.2.2 L.length;have hin:=Zn hb (by omega);have hqz:(q:Int)<(s.size:Int):=by omega
 have hc:s[q].toNat=124:=by rw[<- hb,ZX hin]
 obtain⟨res,hres⟩:∃res,ZY alt room s (s.size+1) q g' [f]=res:=⟨_,rfl⟩;have bV:Hid (ZY alt room s (s.size+1) q g' [f]=res):=hres;clear hb he hres;go_enter Tryz.func26,Tryz.ntmps26;go_wp2_with(first|(go_at_call 47;refine(hA _ _ _ _ _ _ S hs hp hg hF G).mono ?_;intro e w4 hpo;unfold QM at hpo;rw[HX.out] at hpo;obtain⟨v4,L4,rfl,S4,cO,aU,dw⟩:=hpo;have c0:=S4.rd.c0;have c1:=S4.rd.c1))
 go_quiet ((go_at_call 27;exact Calls.quiet_of (ZN (S4.rd.drewN _) hs hin)));replace S4:=S4.drewN nq;replace aU:Stp R w v (w4.drewN nq) v4:=aU.same ((Za.refl _ _).drewN _);clear c0 c1;generalize w4.drewN nq=w5 at S4 aU ⊢;have U8:Hid (L4.map (·.1)=L.map (·.1)++f L.length):=cO;clear cO;obtain⟨wb,hwb⟩:∃wb,w5.heap.size=wb:=⟨_,rfl⟩;obtain⟨W,hW⟩:∃W,W=(w5.alloc (.cells #[.int .i64 ((L.length:Int)+(f L.length).length-1)] 3)).alloc (.cells #[.int .i64 3,.slice none 0 0,.int .i64 0,.int .i64 0,.bool false,.int .i64 0,.slice (some ⟨w5.heap.size,0,none⟩) 1 1] 114):=⟨_,rfl⟩;have kW:Za ai w5 W:=by rw[hW];exact((Za.refl _ _).alloc _).alloc _
 have SW:=S4.same kW;have Vv:=aU.same kW;have WE:Pb W (wb+1) (ZL 3 []) (.slice none 0 0) (.slice (some ⟨wb,0,none⟩) 1 1):=by
  have:=Pb.xR (w5.alloc (.cells #[.int .i64 ((L.length:Int)+(f L.length).length-1)] 3)) (.slice (some ⟨w5.heap.size,0,none⟩) 1 1)
  rw[hW];subst hwb;simpa using this
 have hkW:W.ownsRow w.heap.size 3 1 (.slice (some ⟨wb,0,none⟩) 1 1) (ends [f] L.length).length (nY (ends [f] L.length)):=by
  have h1:=World.ownsRow_lit (base:=w.heap.size) (e:=3) (size:=1) w5 #[.int .i64 ((L.length:Int)+(f L.length).length-1)] 1 aU.keeps.size (by unfold maxLen;omega) rfl;have h2:=h1.alloc (.cells #[.int .i64 3,.slice none 0 0,.int .i64 0,.int .i64 0,.bool false,.int .i64 0,.slice (some ⟨w5.heap.size,0,none⟩) 1 1] 114);rw[hW];subst hwb;simpa [ends,nY] using h2
 have Gz:xW L4 (.slice (some ⟨wb,0,none⟩) 1 1):=by
  intro y hy k hk hk';simp[Value.ownBlock] at hk';obtain⟨cur,hh⟩:=Zx (S4.rows y hy).2 hk
  have:=lt_of_block hh
  omega
 have VR:¬v4.ownBlock=some (wb+1):=by
  intro h
  have:=(S4.row.lt _ h).2
  omega
 have dL:¬wb+1=R:=by have:=S4.rd.lt;omega
 have xad:w.heap.size<=wb:=by have:=aU.keeps.size;omega
 have HW:Hid (W=(w5.alloc (.cells #[.int .i64 ((L.length:Int)+(f L.length).length-1)] 3)).alloc (.cells #[.int .i64 3,.slice none 0 0,.int .i64 0,.int .i64 0,.bool false,.int .i64 0,.slice (some ⟨w5.heap.size,0,none⟩) 1 1] 114)):=hW;have HWB:Hid (w5.heap.size=wb):=hwb;clear hW hwb;have hl4:L4.length+3*(s.size-q)<=1001:=by have:=ZK U8.out;omega
 go_wp2;rw[<- HW.out,HWB.out];go_loopg [5] (s.size+1) (fun fu x5 wr=>Zvr alt room s R (wb+1) B res w v L fu wr)
 case atStart =>
  exact Or.inl ⟨q,g',v4,L4,[f],_,by omega,yP.2.2.1,by omega,bV.out,SW,by rw[U8.out];simp[cat],WE,hkW,by simp[ends];omega,Gz,VR,Vv,dw,hl4⟩
 case round =>
  as_aux_lemma =>
   clear SW Vv WE hkW Gz VR dw hl4 S4 aU kW HW U8 S hqz hc Gg
   rcases hrel with⟨q5,g5,v',L',fs,kv,hq,hg',hfu,hloop,S5,Aq,hP,bO,hkn,hap,hv,aL,qM,xJ⟩ | ⟨x,a,g5,v',L',kv,ks,hx,S5,hP,bO,aL,qM,Rw⟩
   ·obtain⟨fu,rfl⟩:∃f,gk=f+1:=⟨gk-1,by omega⟩;have HL:Hid (ZY alt room s (fu+1) q5 g5 fs=res):=hloop;have HM:Hid (L'.map (·.1)=L.map (·.1)++cat fs L.length):=Aq;have HLen:Hid (L'.length=L.length+(cat fs L.length).length):=ZK (f:=cat fs) Aq;clear hloop Aq
    by_cases hgo:bt s q5=124
    ·have HG:Hid (bt s q5=124):=hgo;have xax:=Zn hgo (by omega);clear hgo
     cases hpc:ZJ alt room s (q5+1) g5 with
     | error x =>
       have HX:Hid (ZJ alt room s (q5+1) g5=.error x):=hpc;have HE:Hid (res=.error x):=by
        have h1:=HL.out;show _ = _;rw[<- h1];exact Zil HG.out hpc
       clear hpc;go_wp2_with(first|(go_at_call 48;refine(iC ⟨S5.rd⟩ hs (by have:=HG.out;omega) (by omega)).mono ?_;rintro e w3 ⟨rfl,hb3,hk3⟩;have hP3:=hP.keeps hk3 dL;have oO:=Zb bO hk3 (fun k hk h=>Zi bO S5.rd (by decide) (h ▸ hk));replace S5:=S5.atR hk3 hb3.rd;replace aL:=aL.bW hk3;replace hP:=hP3;replace bO:=oO)|(go_at_call 47;refine(hA _ _ _ _ _ _ S5 hs (by omega) hg' (by omega) G).mono ?_;intro e w4 hpo;unfold QM at hpo;rw[HX.out] at hpo;obtain⟨r,v4,L4,rfl,dE,hB4,aU,dw⟩:=hpo;obtain⟨a4,g4,S4⟩:=dE;have dS:=hP.keeps aU.keeps (fun h=>h.elim dL hv);have ji:=Zb bO aU.keeps (fun k hk h=>h.elim (fun h=>Zi bO S5.rd (by decide) (h ▸ hk)) (fun h=>Je bO S5.row (by decide) hk h));have hv4:¬v4.ownBlock=some (wb+1):=(fun h=>hv (aU.blk _ h (lt_of_block hP)));have oW:xW L4 kv:=(by obtain⟨M,rfl,hM⟩:=dw;intro y hy k hk hk';rw[List.mem_append] at hy;rcases hy with hy | hy;exact hap y hy k hk hk';obtain⟨cur,hh⟩:=Zx bO hk';exact absurd (hM y hy k hk) (by have:=lt_of_block hh;omega));obtain⟨oI,w5,hrun,c6,f6,S6,vI,jh,uw,dN⟩:=Mk S4 dS hv4 ji oW (Nat.le_trans aL.keeps.size aU.keeps.size) (by omega) r;have c64:=dS.facts.2.2.2.2.2.2.1;obtain⟨ao,cap,rfl⟩:=aj jh)|(at_builtin;refine Zj rfl _ _ _ _ rfl rfl _ _ _ _ rfl rfl hrun ?_))
       go_roundg fu
       case measure=>omega
       case rel=>exact Or.inr ⟨x,a4,g4,v4,L4,_,ends fs L.length++[r],HE.out,S6,vI,by simpa using jh,(aL.trans aU).on dN (fun i hi' h=>h.elim (fun h=>by omega) (fun h=>by have:=(ji.lt _ h).1;omega)),qM.trans dw aL.keeps.size,hB4⟩
     | ok rr =>
       obtain⟨f2,q1,g1⟩:=rr;have hpos:=Q3 G (by omega) hg' hpc;have Gf:=hpos.2.2.2 L'.length;have HX:Hid (ZJ alt room s (q5+1) g5=.ok (f2,q1,g1)):=hpc;have HE:Hid (ZY alt room s fu q1 g1 (fs++[f2])=res):=by
        have h1:=HL.out;show _ = _;rw[<- h1];exact(ZgX HG.out hpc).symm
       clear hpc;go_wp2_with(first|(go_at_call 48;refine(iC ⟨S5.rd⟩ hs (by have:=HG.out;omega) (by omega)).mono ?_;rintro e w3 ⟨rfl,hb3,hk3⟩;have hP3:=hP.keeps hk3 dL;have oO:=Zb bO hk3 (fun k hk h=>Zi bO S5.rd (by decide) (h ▸ hk));replace S5:=S5.atR hk3 hb3.rd;replace aL:=aL.bW hk3;replace hP:=hP3;replace bO:=oO)|(go_at_call 47;refine(hA _ _ _ _ _ _ S5 hs (by omega) hg' (by omega) G).mono ?_;intro e w4 hpo;unfold QM at hpo;rw[HX.out] at hpo;obtain⟨v4,L4,rfl,S4,cO,aU,dw⟩:=hpo;have dS:=hP.keeps aU.keeps (fun h=>h.elim dL hv);have ji:=Zb bO aU.keeps (fun k hk h=>h.elim (fun h=>Zi bO S5.rd (by decide) (h ▸ hk)) (fun h=>Je bO S5.row (by decide) hk h));have hv4:¬v4.ownBlock=some (wb+1):=(fun h=>hv (aU.blk _ h (lt_of_block hP)));have oW:xW L4 kv:=(by obtain⟨M,rfl,hM⟩:=dw;intro y hy k hk hk';rw[List.mem_append] at hy;rcases hy with hy | hy;exact hap y hy k hk hk';obtain⟨cur,hh⟩:=Zx bO hk';exact absurd (hM y hy k hk) (by have:=lt_of_block hh;omega));obtain⟨oI,w5,hrun,c6,f6,S6,vI,jh,uw,dN⟩:=Mk S4 dS hv4 ji oW (Nat.le_trans aL.keeps.size aU.keeps.size) (by omega) ((L'.length:Int)+(f2 L'.length).length-1);have c64:=dS.facts.2.2.2.2.2.2.1;obtain⟨ao,cap,rfl⟩:=aj jh)|(at_builtin;refine Zj rfl _ _ _ _ rfl rfl _ _ _ _ rfl rfl hrun ?_))
       go_roundg fu
       case measure=>omega
       case rel =>
        have mU:=HLen.out;have he1:ends (fs++[f2]) L.length=ends fs L.length++[((L'.length:Int)+(f2 L'.length).length-1)]:=by
         rw[ZgF,mU];simp
        have hc1:cat (fs++[f2]) L.length=cat fs L.length++f2 L'.length:=by rw[Mg,mU]
        have hl4:L4.length=L'.length+(f2 L'.length).length:=ZK cO;refine Or.inl ⟨q1,g1,v4,L4,fs++[f2],_,hpos.2.1,hpos.2.2.1,by omega,HE.out,S6,?_,vI,?_,?_,uw,hv4,(aL.trans aU).on dN (fun i hi' h=>h.elim (fun h=>by omega) (fun h=>by have:=(ji.lt _ h).1;omega)),qM.trans dw aL.keeps.size,by omega⟩
        ·rw[cO,HM.out,hc1,List.append_assoc]
        ·rw[he1];simpa using jh
        ·rw[he1];simp;omega
    ·have HE:Hid (res=.ok (fs,q5,g5)):=by
      have h1:=HL.out;show _ = _;rw[<- h1];exact ZgY hgo
     have HG:Hid (bt s q5≠124):=hgo;clear hgo;go_wp2_with(first|(go_at_call 48;refine(jJ ⟨S5.rd⟩ hs (by have:=HG.out;omega) (by omega)).mono ?_;rintro e w3 ⟨rfl,hb3,hk3⟩;have hP3:=hP.keeps hk3 dL;have oO:=Zb bO hk3 (fun k hk h=>Zi bO S5.rd (by decide) (h ▸ hk));replace S5:=S5.atR hk3 hb3.rd;replace aL:=aL.bW hk3;replace hP:=hP3;replace bO:=oO;obtain⟨d0,d1,d2,d3,d4,d5,d6,df⟩:=hP.facts)|(go_at_call 49;refine(iM S5 (ZL 3 (ends fs L.length),.slice none 0 0,kv) (JU _ rfl rfl bO) (by omega) aL qM (fun k hk=>(bO.lt k hk).1)).mono ?_;rintro e w6 ⟨rfl,v6,S6,dI,dR⟩))
     go_ret;refine Qi (ZqN HX.out HB.out (bV.out.trans HE.out)) S6 ?_ (by have:=HLen.out;simp[JQ];omega) dI dR;rw[List.map_append,HM.out];simp[JQ]
   ·have HE:Hid (res=.error x):=hx;clear hx;go_wp2_with(first|(go_at_call 48;refine(yL ⟨_,_,S5.rd⟩ (by omega)).mono ?_;rintro e w3 ⟨rfl,hb3,hk3⟩;obtain⟨a3,g3,r3⟩:=hb3.rd;have hP3:=hP.keeps hk3 dL;have oO:=Zb bO hk3 (fun k hk h=>Zi bO S5.rd (by decide) (h ▸ hk));replace S5:=S5.atR hk3 r3;replace aL:=aL.bW hk3;replace hP:=hP3;replace bO:=oO;obtain⟨d0,d1,d2,d3,d4,d5,d6,df⟩:=hP.facts)|(go_at_call 49;refine(iM S5 (ZL 3 ks,.slice none 0 0,kv) (JU _ rfl rfl bO) (by omega) aL qM (fun k hk=>(bO.lt k hk).1)).mono ?_;rintro e w6 ⟨rfl,v6,S6,dI,dR⟩))
    go_ret;exact Qm (ZkT HX.out HB.out (bV.out.trans HE.out)) S6 (by simp;omega) dI dR
theorem Yf{alt:Nat->Nat->aS}{room:Bool}(hA:Hw s alt room deep B)(hB:1005<=B)(fE:B<=6000)(G:ed s alt)(S:Sp w R s p (-1) g v L)(hs:s.size<=120)(hp:p<=s.size)(hg:g<=9)(hF:L.length+3*(s.size-p)<=1000):
  au 26 #[ae R,.int .i64 deep] w (QM (QY alt room s p g) R s (B+1) w v L):=by
 cases he:ZJ alt room s p g with
 | error x=>exact Zs0 hA S hs hp hg hF G he
 | ok r =>
   obtain⟨f,q,g'⟩:=r
   by_cases hb:bt s q=124
   ·exact ZqL hA hB fE S hs hp hg hF G he hb
   ·exact ZsZ hA S hs hp hg hF G he hb
theorem UF(s:ByteArray)(d:Nat)(hd:d<=6):Hz s (Qt s d) (6-d) (1010+10*d):=by
 induction d with
 | zero =>
   have G0:ed s (fun _ _ => .error 0):=fun p g f q g' _ _ h=>by simp at h
   have hA:qw s (fun _ _ => .error 0) false 6 1005:=fun w R p g v L S hs hp hg hF =>
    Zjl (BA:=0) S hs hp G0 hg hF (by omega) rfl (fun h=>by simp at h) (by omega) (by omega) (by omega)
   intro w R p g v L S hs hp hg hF
   have:=Yf (Yx (Zgh hA (by omega) (by omega)) (by omega) (by omega)) (by omega) (by omega) G0 S hs hp hg hF
   refine this.mono fun e w' h=>?_;unfold QM at h ⊢;show match QY (fun _ _=>Except.error 0) false s p g with | .ok (f,q,g')=>_ | .error x=>_
   cases hr:QY (fun _ _=>Except.error 0) false s p g with
   | error x =>
     rw[hr] at h;obtain⟨r,v',L',h1,h2,h3,h4⟩:=h;exact⟨r,v',L',h1,h2,by omega,h4⟩
   | ok r=>rw[hr] at h;exact h
 | succ d ih =>
   have ihd:=ih (by omega);have hA:qw s (Qt s d) true (6-(d+1)) (1015+10*d):=fun w R p g v L S hs hp hg hF =>
    Zjl (BA:=1010+10*d) S hs hp (QG s d) hg hF (by omega) (by simp;omega) (fun _=>by
     have e:6-(d+1)+1=6-d:=by omega
     rw[e];exact ihd) (by omega) (by omega) (by omega)
   intro w R p g v L S hs hp hg hF
   have:=Yf (Yx (Zgh hA (by omega) (by omega)) (by omega) (by omega)) (by omega) (by omega) (QG s d) S hs hp hg hF
   refine this.mono fun e w' h=>?_;unfold QM at h ⊢;show match QY (Qt s d) true s p g with | .ok (f,q,g')=>_ | .error x=>_
   cases hr:QY (Qt s d) true s p g with
   | error x =>
     rw[hr] at h;obtain⟨r,v',L',h1,h2,h3,h4⟩:=h;exact⟨r,v',L',h1,h2,by omega,h4⟩
   | ok r=>rw[hr] at h;exact h
structure nH (w:World) (v:Value) (L:List Pm):Prop where
 row:w.ownsRow 0 114 7 v L.length (L.flatMap rE)
 rows:∀x∈L,Jl w x
def Jk (s:ByteArray) (w:World) (e:Ending) (w':World):Prop :=
 match QR s with
 | .ok (g,ps) =>∃v L,e=.returned (.agg #[.bool true,.int .i64 0,.int .i64 ((g:Nat):Int),v])/\nH w' v L/\L.map (·.1)=ps/\L.length<=1000/\Za ai w w'
 | .error x=>e=.returned (.agg #[.bool false,.int .i64 ((x:Nat):Int),.int .i64 0,.slice none 0 0])/\Za ai w w'
theorem ZeU(hs:s.size<=1048576)(h:120<s.size):au 9 #[.string s] w (Jk s w):=by
 have HE:Hid (QR s=.error 120):=by show _ = _;simp[QR,h]
 go_enter Tryz.func9,Tryz.ntmps9;go_wp2;refine bodyPost_ret (v:=.agg #[.bool false,.int .i64 120,.int .i64 0,.slice none 0 0]) (by simp[results,Tryz.results9,go_sem]) rfl ?_;unfold Jk;rw[HE.out];exact⟨rfl,(Za.refl _ _).alloc _⟩
def Qb (w:World) (Q:Nat):Prop:=w.heap[Q]?=some (.cells #[.bool false,.int .i64 0,.int .i64 0,.slice none 0 0] 33 (0,0))
theorem Qb.keeps{E:Nat->Prop}(h:Qb w Q)(k:Za E w w')(hE:¬E Q):Qb w' Q:=by
 unfold Qb at h ⊢;rw[k.block Q (lt_of_block h) hE];exact h
theorem Qb.facts(h:Qb w Q):w.cell? (ak Q)=some (.bool false)/\w.cell? ⟨Q,1,none⟩=some (.int .i64 0)/\w.cell? ⟨Q,2,none⟩=some (.int .i64 0)/\w.cell? ⟨Q,3,none⟩=some (.slice none 0 0)/\∀i,w.frozen? ⟨Q,i,none⟩=false :=
 ⟨by rw[Zc h];rfl,by rw[Zc h];rfl,by rw[Zc h];rfl,by rw[Zc h];rfl,fun i=>Zv h⟩
abbrev W0 (w:World) (s:ByteArray):World:=(w.alloc (.cells #[.bool false,.int .i64 0,.int .i64 0,.slice none 0 0] 33)).alloc (.cells #[.string s,.int .i64 0,.int .i64 (-1),.int .i64 0,.slice none 0 0] 70)
theorem TG(w:World)(s:ByteArray):Sp (W0 w s) (w.heap.size+1) s ((0:Nat):Int) (-1) ((0:Nat):Int) (.slice none 0 0) []:=by
 refine⟨?_,DV _ _ _,by simp⟩
 have:=heap_alloc_new (w.alloc (.cells #[.bool false,.int .i64 0,.int .i64 0,.slice none 0 0] 33)) (.cells #[.string s,.int .i64 0,.int .i64 (-1),.int .i64 0,.slice none 0 0] 70)
 simpa [Rd] using this
theorem TF(w:World)(s:ByteArray):Qb (W0 w s) w.heap.size:=by
 unfold Qb;rw[Below.heap_alloc _ _ _ (by simp)];exact heap_alloc_new _ _
theorem Uw(w:World)(s:ByteArray):Za ai w (W0 w s):=((Za.refl _ _).alloc _).alloc _
theorem X0(w:World)(Q:Nat)(a b c d:Value):Za (·=Q) w ((((w.setCell (ak Q) a).setCell ⟨Q,1,none⟩ b).setCell ⟨Q,2,none⟩ c).setCell ⟨Q,3,none⟩ d) :=
 (((ZO w Q 0 a).trans (ZO _ Q 1 b)).trans (ZO _ Q 2 c)).trans (ZO _ Q 3 d)
theorem ZtF(h1:w.ownsRow 0 114 7 v L.length (L.flatMap rE))(h2:∀x∈L,Jl w x)(hQ:Qb w Q)(hk:Za (·=Q) w w'):nH w' v L :=
 ⟨Zb h1 hk (by rintro k hk1 rfl;exact Zi h1 hQ (by decide) hk1),fun x hx=>(h2 x hx).byTypes hk (by rintro k rfl _;exact⟨_,_,hQ,by decide,by decide⟩)⟩
theorem Zf2(hs:s.size<=120)(he:Qt s 6 0 0=.error x):au 9 #[.string s] w (Jk s w):=by
 have HE:Hid (QR s=.error x):=by show _ = _;simp[QR,he,show ¬120<s.size from by omega]
 have HX:Hid (Qt s 6 0 0=.error x):=he;have hA:=UF s 6 (by omega);have hx0:(0:Int)<=(x:Int):=by omega
 clear he;go_enter Tryz.func9,Tryz.ntmps9;go_wp2_with(first|(go_at_call 26;refine(hA _ _ _ _ _ _ (TG w s) hs (by omega) (by omega) (by simp;omega)).mono ?_;intro e w4 hpo;unfold QM at hpo;rw[HX.out] at hpo;obtain⟨r,v4,L4,rfl,dE,hB4,aU,dw⟩:=hpo;obtain⟨a4,g4,S4⟩:=dE;have yT:=(TF w s).keeps aU.keeps (by rintro(h | h);omega;simp[Value.ownBlock] at h);have EU:Za ai w w4:=(Uw w s).trans' aU.keeps (by rintro i hi (h | h);omega;simp[Value.ownBlock] at h))|(go_at_call 27;refine(ZuV ⟨_,_,S4.rd⟩).mono ?_;rintro e w5 ⟨rfl,hb5,hk5⟩;obtain⟨a5,g5,r5⟩:=hb5.rd;have Da:=yT.keeps hk5 (by omega);have ET:=EU.trans' hk5 (by intro i hi h;omega);obtain⟨d0,d1,d2,d3,df⟩:=Da.facts;have c2:=r5.c2))
 refine bodyPost_ret (v:=.agg #[.bool false,.int .i64 x,.int .i64 0,.slice none 0 0]) (by simp[results,Tryz.results9,go_sem,d0,d1,d2,d3]) rfl ?_;unfold Jk;rw[HE.out];exact⟨rfl,(((ET.setCell (fun h=>by simp at h) _).setCell (fun h=>by simp at h) _).setCell (fun h=>by simp at h) _).setCell (fun h=>by simp at h) _⟩
theorem ZeT{q:Nat}(hs:s.size<=120)(he:Qt s 6 0 0=.ok (f,q,g))(hq:q<s.size):au 9 #[.string s] w (Jk s w):=by
 have HE:Hid (QR s=.error q):=by show _ = _;simp[QR,he,show ¬120<s.size from by omega,hq]
 have HX:Hid (Qt s 6 0 0=.ok (f,q,g)):=he;have hA:=UF s 6 (by omega);have hx0:(0:Int)<=(q:Int):=by omega
 clear he;go_enter Tryz.func9,Tryz.ntmps9;go_wp2_with(first|(go_at_call 26;refine(hA _ _ _ _ _ _ (TG w s) hs (by omega) (by omega) (by simp;omega)).mono ?_;intro e w4 hpo;unfold QM at hpo;rw[HX.out] at hpo;obtain⟨v4,L4,rfl,S4,cO,aU,dw⟩:=hpo;have yT:=(TF w s).keeps aU.keeps (by rintro(h | h);omega;simp[Value.ownBlock] at h);have EU:Za ai w w4:=(Uw w s).trans' aU.keeps (by rintro i hi (h | h);omega;simp[Value.ownBlock] at h))|(go_at_call 27;refine(ZuT ⟨S4.rd⟩ hs hq).mono ?_;rintro e w5 ⟨rfl,hb5,hk5⟩;have Da:=yT.keeps hk5 (by omega);have ET:=EU.trans' hk5 (by intro i hi h;omega))|(go_at_call 28;refine(lX hb5).mono ?_;rintro e w6 ⟨rfl,hb6,dN⟩;obtain⟨a6,g6,r6⟩:=hb6.rd;have KQ:=Da.keeps dN (by omega);have kp6:=ET.trans' dN (by intro i hi h;omega);obtain⟨d0,d1,d2,d3,df⟩:=KQ.facts;have c2:=r6.c2))
 refine bodyPost_ret (v:=.agg #[.bool false,.int .i64 q,.int .i64 0,.slice none 0 0]) (by simp[results,Tryz.results9,go_sem,d0,d1,d2,d3]) rfl ?_;unfold Jk;rw[HE.out];exact⟨rfl,(((kp6.setCell (fun h=>by simp at h) _).setCell (fun h=>by simp at h) _).setCell (fun h=>by simp at h) _).setCell (fun h=>by simp at h) _⟩
theorem Zhe{q:Nat}(hs:s.size<=120)(he:Qt s 6 0 0=.ok (f,q,g))(hq:¬q<s.size):au 9 #[.string s] w (Jk s w):=by
 have HE:Hid (QR s=.ok (g,f 0)):=by show _ = _;simp[QR,he,show ¬120<s.size from by omega,hq]
 have hpos:=QG s 6 0 0 f q g (by omega) (by omega) he;have hlen:=hpos.2.2.2 0;have HX:Hid (Qt s 6 0 0=.ok (f,q,g)):=he;have hA:=UF s 6 (by omega);clear he;go_enter Tryz.func9,Tryz.ntmps9;go_wp2_with(first|(go_at_call 26;refine(hA _ _ _ _ _ _ (TG w s) hs (by omega) (by omega) (by simp;omega)).mono ?_;intro e w4 hpo;unfold QM at hpo;rw[HX.out] at hpo;obtain⟨v4,L4,rfl,S4,cO,aU,dw⟩:=hpo;have yT:=(TF w s).keeps aU.keeps (by rintro(h | h);omega;simp[Value.ownBlock] at h);have EU:Za ai w w4:=(Uw w s).trans' aU.keeps (by rintro i hi (h | h);omega;simp[Value.ownBlock] at h))|(go_at_call 27;refine(ZuU ⟨S4.rd⟩ hs hq).mono ?_;rintro e w5 ⟨rfl,hb5,hk5⟩;have Da:=yT.keeps hk5 (by omega);have ET:=EU.trans' hk5 (by intro i hi h;omega);have S5:=S4.atR hk5 hb5.rd;obtain⟨d0,d1,d2,d3,df⟩:=Da.facts;have c2:=S5.rd.c2;have c3:=S5.rd.c3;have c4:=S5.rd.c4;obtain⟨ao,cap,rfl⟩:=aj S5.row))
 go_region
 all_goals go_wp2
 all_goals (refine bodyPost_ret (v:=.agg #[.bool true,.int .i64 0,.int .i64 g,.slice ao L4.length cap]) (by simp[results,Tryz.results9,go_sem,d0,d1,d2,d3]) rfl ?_)
 unfold Jk;rw[HE.out];have hm:L4.map (·.1)=f 0:=by simpa using cO
 have hl:L4.length<=1000:=by
  have:=congrArg List.length hm
  simp at this;omega
 refine⟨_,L4,rfl,ZtF S5.row S5.rows Da (X0 _ _ _ _ _ _).drew,hm,hl,ET.trans' (E':=fun k=>k=w.heap.size) (X0 _ _ _ _ _ _).drew (fun i hi h=>by omega)⟩
theorem ZcF(s:ByteArray)(w:World)(hs:s.size<=1048576):au 9 #[.string s] w (Jk s w):=by
 by_cases h:120<s.size
 ·exact ZeU hs h
 ·cases he:Qt s 6 0 0 with
  | error x=>exact Zf2 (by omega) he
  | ok r =>
    obtain⟨f,q,g⟩:=r
    by_cases hq:q<s.size
    ·exact ZeT (by omega) he hq
    ·exact Zhe (by omega) he hq
end Go.Proofs.YtfkflljplohhcaaGreatDoor
