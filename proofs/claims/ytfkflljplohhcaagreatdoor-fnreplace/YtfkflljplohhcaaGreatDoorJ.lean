import Derived.Test.YtfkflljplohhcaaGreatDoorG
set_option linter.unusedVariables false
set_option maxHeartbeats 4000000
set_option maxRecDepth 1000000
namespace Go.Proofs.YtfkflljplohhcaaGreatDoor
open Go.RowKit
section
variable {w:World}{R p x:Nat}{s:ByteArray}{g:Int}{v:Value}
theorem Yd(hR:Ok w R s p g v)(hs:s.size<=120)(hp:p<=s.size){lo hi:Int}{q:Nat}(h:Zg s p=.ok (lo,hi,q)):
  au 93 #[ae R] w fun e w'=>e=.returned (.tuple #[.int .i64 lo,.int .i64 hi])/\Ok w' R s q g v/\Za (·=R) w w' :=
 (Zez hR hs hp).mono fun e w' hn=>by unfold Qh at hn;rw[h] at hn;exact hn
theorem Zsz(hR:Ok w R s p g v)(hs:s.size<=120)(hp:p<=s.size)(h:Zg s p=.error x):
  au 93 #[ae R] w fun e w'=>(∃a b,e=.returned (.tuple #[.int .i64 a,.int .i64 b]))/\jA w' R s x v/\Za (·=R) w w' :=
 (Zez hR hs hp).mono fun e w' hn=>by unfold Qh at hn;rw[h] at hn;exact hn
end
variable {w:World}{R p g deep B base x:Nat}{s:ByteArray}{v kv:Value}{L:List Pm}{ks:List Int}
theorem ZlP{alt:Nat->Nat->aS}{room:Bool}(S:Sp w R s p (-1) g v L)(hs:s.size<=120)(hp:p<s.size)(G:ed s alt)(hg:g<=9)
  (hF:L.length+3*(s.size-p)<=1000) (hA:qw s alt room deep B) (hB:1005<=B) (fE:B<=6000) {f:Pf} {q g':Nat} (he:Zd alt room s p g=.ok (f,q,g')) (hq:bt s q=123) {lo hi:Int} {q2:Nat} (hc:Zg s (q+1)=.ok (lo,hi,q2)) (hl:bt s q2=63) :
  au 73 #[ae R,.int .i64 deep] w (QM (Zm alt room s p g) R s (B+1) w v L):=by
 have hpos:=ZZ G hp hg he;have hlen:=hpos.2.2.2 L.length;have hq1:=Zn hq (by omega);have HE:Hid (Zm alt room s p g=.ok (Z5 lo hi true f,q2+1,g')):=by show _ = _;simp[Zm,he,ZG,hq,hc,hl]
 have HX:Hid (Zd alt room s p g=.ok (f,q,g')):=he;have HQ:Hid (bt s q=123):=hq;have HC:Hid (Zg s (q+1)=.ok (lo,hi,q2)):=hc;have HL:Hid (bt s q2=63):=hl;clear hq hc hl;clear he;go_enter Tryz.func73,Tryz.ntmps73;go_wp2_with(first|(go_at_call 92;refine(hA _ _ _ _ _ _ S hs hp hg hF).mono ?_;intro e w4 hpo;unfold QM at hpo;rw[HX.out] at hpo;obtain⟨v4,L4,rfl,S4,cO,aU,dw⟩:=hpo;have S5:=S4.alloc (.cells #[.int .i64 4,.slice none 0 0,.int .i64 0,.int .i64 (-1),.bool false,.int .i64 0,.slice none 0 0] 114);have aL:=aU.same ((Za.refl ai w4).alloc (.cells #[.int .i64 4,.slice none 0 0,.int .i64 0,.int .i64 (-1),.bool false,.int .i64 0,.slice none 0 0] 114));have hP:=Pb.made w4;have hv:=rY S4;have dL:¬w4.heap.size=R:=by have:=S4.rd.lt;omega)|(go_at_call 93;refine(Yd ⟨S5.rd⟩ hs (by omega) HC.out).mono ?_;rintro e w5 ⟨rfl,hb5,hk5⟩;replace S5:=S5.atR hk5 hb5.rd;replace aL:=aL.bW hk5;replace hP:=hP.keeps hk5 dL;clear hb5 hk5;obtain⟨d0,d1,d2,d3,d4,d5,d6,df⟩:=hP.facts;replace S5:=S5.ry hP hv (ZO _ _ 2 (.int .i64 lo));replace aL:=aL.on (ZO w5 w4.heap.size 2 (.int .i64 lo)) (fun i hi' h=>by have:=aU.keeps.size;omega);replace hP:=hP.set2 lo;replace S5:=S5.ry hP hv (ZO _ _ 3 (.int .i64 hi));replace aL:=aL.on (ZO _ w4.heap.size 3 (.int .i64 hi)) (fun i hi' h=>by have:=aU.keeps.size;omega);replace hP:=hP.iQ hi)|(go_at_call 48;refine(iC (p:=q) ⟨S5.rd⟩ hs (by have:=HQ.out;omega) (by omega)).mono ?_;rintro e w5 ⟨rfl,hb5,hk5⟩;replace S5:=S5.atR hk5 hb5.rd;replace aL:=aL.bW hk5;replace hP:=hP.keeps hk5 dL;clear hb5 hk5)|(go_at_call 48;refine(iC (p:=q2) ⟨S5.rd⟩ hs (by have:=HL.out;omega) (by omega)).mono ?_;rintro e w5 ⟨rfl,hb5,hk5⟩;replace S5:=S5.atR hk5 hb5.rd;replace aL:=aL.bW hk5;replace hP:=hP.keeps hk5 dL;clear hb5 hk5;obtain⟨d0,d1,d2,d3,d4,d5,d6,df⟩:=hP.facts;have hP2:=(hP.aX true).keeps ((Za.refl ai _).alloc (.cells #[.int .i64 ((L.length:Int)+(f L.length).length-1)] 3)) id;obtain⟨e0,e1,e2,e3,e4,e5,e6,ef⟩:=hP2.facts;clear hP2)|(go_at_call 48;refine(jJ (p:=q) ⟨S5.rd⟩ hs (by have:=HQ.out;omega) (by omega)).mono ?_;rintro e w5 ⟨rfl,hb5,hk5⟩;replace S5:=S5.atR hk5 hb5.rd;replace aL:=aL.bW hk5;replace hP:=hP.keeps hk5 dL;clear hb5 hk5)|(go_at_call 49;refine(iM (S5.fin hP hv rfl true _).1 _ (S5.fin hP hv rfl true _).2.1 (by have:=ZK cO;omega) (aL.on (S5.fin hP hv rfl true _).2.2 (fun i hi' h=>by have:=aU.keeps.size;omega)) dw (by intro k hk;simp[Value.ownBlock] at hk;subst hk;exact aL.keeps.size)).mono ?_;rintro e w6 ⟨rfl,v6,S6,dI,dR⟩))
 go_ret;refine Qi HE.out S6 ?_ (by have:=ZK cO;simp[Z5];omega) dI dR;rw[List.map_append,cO];simp[Z5,x9]
theorem ZlQ{alt:Nat->Nat->aS}{room:Bool}(S:Sp w R s p (-1) g v L)(hs:s.size<=120)(hp:p<s.size)(G:ed s alt)(hg:g<=9)
  (hF:L.length+3*(s.size-p)<=1000) (hA:qw s alt room deep B) (hB:1005<=B) (fE:B<=6000) {f:Pf} {q g':Nat} (he:Zd alt room s p g=.ok (f,q,g')) (hq:bt s q=123) {lo hi:Int} {q2:Nat} (hc:Zg s (q+1)=.ok (lo,hi,q2)) (hl:bt s q2≠63) :
  au 73 #[ae R,.int .i64 deep] w (QM (Zm alt room s p g) R s (B+1) w v L):=by
 have hpos:=ZZ G hp hg he;have hlen:=hpos.2.2.2 L.length;have hq1:=Zn hq (by omega);have HE:Hid (Zm alt room s p g=.ok (Z5 lo hi false f,q2,g')):=by show _ = _;simp[Zm,he,ZG,hq,hc,hl]
 have HX:Hid (Zd alt room s p g=.ok (f,q,g')):=he;have HQ:Hid (bt s q=123):=hq;have HC:Hid (Zg s (q+1)=.ok (lo,hi,q2)):=hc;have HL:Hid (bt s q2≠63):=hl;clear hq hc hl;clear he;go_enter Tryz.func73,Tryz.ntmps73;go_wp2_with(first|(go_at_call 92;refine(hA _ _ _ _ _ _ S hs hp hg hF).mono ?_;intro e w4 hpo;unfold QM at hpo;rw[HX.out] at hpo;obtain⟨v4,L4,rfl,S4,cO,aU,dw⟩:=hpo;have S5:=S4.alloc (.cells #[.int .i64 4,.slice none 0 0,.int .i64 0,.int .i64 (-1),.bool false,.int .i64 0,.slice none 0 0] 114);have aL:=aU.same ((Za.refl ai w4).alloc (.cells #[.int .i64 4,.slice none 0 0,.int .i64 0,.int .i64 (-1),.bool false,.int .i64 0,.slice none 0 0] 114));have hP:=Pb.made w4;have hv:=rY S4;have dL:¬w4.heap.size=R:=by have:=S4.rd.lt;omega)|(go_at_call 93;refine(Yd ⟨S5.rd⟩ hs (by omega) HC.out).mono ?_;rintro e w5 ⟨rfl,hb5,hk5⟩;replace S5:=S5.atR hk5 hb5.rd;replace aL:=aL.bW hk5;replace hP:=hP.keeps hk5 dL;clear hb5 hk5;obtain⟨d0,d1,d2,d3,d4,d5,d6,df⟩:=hP.facts;replace S5:=S5.ry hP hv (ZO _ _ 2 (.int .i64 lo));replace aL:=aL.on (ZO w5 w4.heap.size 2 (.int .i64 lo)) (fun i hi' h=>by have:=aU.keeps.size;omega);replace hP:=hP.set2 lo;replace S5:=S5.ry hP hv (ZO _ _ 3 (.int .i64 hi));replace aL:=aL.on (ZO _ w4.heap.size 3 (.int .i64 hi)) (fun i hi' h=>by have:=aU.keeps.size;omega);replace hP:=hP.iQ hi)|(go_at_call 48;refine(iC (p:=q) ⟨S5.rd⟩ hs (by have:=HQ.out;omega) (by omega)).mono ?_;rintro e w5 ⟨rfl,hb5,hk5⟩;replace S5:=S5.atR hk5 hb5.rd;replace aL:=aL.bW hk5;replace hP:=hP.keeps hk5 dL;clear hb5 hk5)|(go_at_call 48;refine(jJ (p:=q2) ⟨S5.rd⟩ hs (by have:=HL.out;omega) (by omega)).mono ?_;rintro e w5 ⟨rfl,hb5,hk5⟩;replace S5:=S5.atR hk5 hb5.rd;replace aL:=aL.bW hk5;replace hP:=hP.keeps hk5 dL;clear hb5 hk5;obtain⟨d0,d1,d2,d3,d4,d5,d6,df⟩:=hP.facts;have hP2:=(hP.aX false).keeps ((Za.refl ai _).alloc (.cells #[.int .i64 ((L.length:Int)+(f L.length).length-1)] 3)) id;obtain⟨e0,e1,e2,e3,e4,e5,e6,ef⟩:=hP2.facts;clear hP2)|(go_at_call 48;refine(jJ (p:=q) ⟨S5.rd⟩ hs (by have:=HQ.out;omega) (by omega)).mono ?_;rintro e w5 ⟨rfl,hb5,hk5⟩;replace S5:=S5.atR hk5 hb5.rd;replace aL:=aL.bW hk5;replace hP:=hP.keeps hk5 dL;clear hb5 hk5)|(go_at_call 49;refine(iM (S5.fin hP hv rfl false _).1 _ (S5.fin hP hv rfl false _).2.1 (by have:=ZK cO;omega) (aL.on (S5.fin hP hv rfl false _).2.2 (fun i hi' h=>by have:=aU.keeps.size;omega)) dw (by intro k hk;simp[Value.ownBlock] at hk;subst hk;exact aL.keeps.size)).mono ?_;rintro e w6 ⟨rfl,v6,S6,dI,dR⟩))
 go_ret;refine Qi HE.out S6 ?_ (by have:=ZK cO;simp[Z5];omega) dI dR;rw[List.map_append,cO];simp[Z5,x9]
theorem Zhr{alt:Nat->Nat->aS}{room:Bool}(S:Sp w R s p (-1) g v L)(hs:s.size<=120)(hp:p<s.size)(G:ed s alt)(hg:g<=9)
  (hF:L.length+3*(s.size-p)<=1000) (hA:qw s alt room deep B) (hB:1005<=B) (fE:B<=6000) {f:Pf} {q g':Nat} (he:Zd alt room s p g=.ok (f,q,g')) (hq:bt s q=123) {x:Nat} (hc:Zg s (q+1)=.error x) :
  au 73 #[ae R,.int .i64 deep] w (QM (Zm alt room s p g) R s (B+1) w v L):=by
 have hpos:=ZZ G hp hg he;have hlen:=hpos.2.2.2 L.length;have hq1:=Zn hq (by omega);have HE:Hid (Zm alt room s p g=.error x):=by show _ = _;simp[Zm,he,ZG,hq,hc]
 have HX:Hid (Zd alt room s p g=.ok (f,q,g')):=he;have HQ:Hid (bt s q=123):=hq;have HC:Hid (Zg s (q+1)=.error x):=hc;clear hq hc;clear he;go_enter Tryz.func73,Tryz.ntmps73;go_wp2_with(first|(go_at_call 92;refine(hA _ _ _ _ _ _ S hs hp hg hF).mono ?_;intro e w4 hpo;unfold QM at hpo;rw[HX.out] at hpo;obtain⟨v4,L4,rfl,S4,cO,aU,dw⟩:=hpo;have S5:=S4.alloc (.cells #[.int .i64 4,.slice none 0 0,.int .i64 0,.int .i64 (-1),.bool false,.int .i64 0,.slice none 0 0] 114);have aL:=aU.same ((Za.refl ai w4).alloc (.cells #[.int .i64 4,.slice none 0 0,.int .i64 0,.int .i64 (-1),.bool false,.int .i64 0,.slice none 0 0] 114));have hP:=Pb.made w4;have hv:=rY S4;have dL:¬w4.heap.size=R:=by have:=S4.rd.lt;omega)|(go_at_call 93;refine(Zsz ⟨S5.rd⟩ hs (by omega) HC.out).mono ?_;rintro e w5 ⟨⟨lo,hi,rfl⟩,hb5,hk5⟩;obtain⟨a5,g5,r5⟩:=hb5.rd;replace S5:=S5.atR hk5 r5;replace aL:=aL.bW hk5;replace hP:=hP.keeps hk5 dL;clear hb5 hk5;obtain⟨d0,d1,d2,d3,d4,d5,d6,df⟩:=hP.facts;replace S5:=S5.ry hP hv (ZO _ _ 2 (.int .i64 lo));replace aL:=aL.on (ZO w5 w4.heap.size 2 (.int .i64 lo)) (fun i hi' h=>by have:=aU.keeps.size;omega);replace hP:=hP.set2 lo;replace S5:=S5.ry hP hv (ZO _ _ 3 (.int .i64 hi));replace aL:=aL.on (ZO _ w4.heap.size 3 (.int .i64 hi)) (fun i hi' h=>by have:=aU.keeps.size;omega);replace hP:=hP.iQ hi)|(go_at_call 48;refine(iC (p:=q) ⟨S5.rd⟩ hs (by have:=HQ.out;omega) (by omega)).mono ?_;rintro e w5 ⟨rfl,hb5,hk5⟩;replace S5:=S5.atR hk5 hb5.rd;replace aL:=aL.bW hk5;replace hP:=hP.keeps hk5 dL;clear hb5 hk5)|(go_at_call 48;refine(jJ (p:=q) ⟨S5.rd⟩ hs (by have:=HQ.out;omega) (by omega)).mono ?_;rintro e w5 ⟨rfl,hb5,hk5⟩;replace S5:=S5.atR hk5 hb5.rd;replace aL:=aL.bW hk5;replace hP:=hP.keeps hk5 dL;clear hb5 hk5)|(go_at_call 48;refine(yL ⟨_,_,S5.rd⟩ (by omega)).mono ?_;rintro e w5 ⟨rfl,hb5,hk5⟩;obtain⟨a5,g5,r5⟩:=hb5.rd;replace S5:=S5.atR hk5 r5;replace aL:=aL.bW hk5;replace hP:=hP.keeps hk5 dL;clear hb5 hk5;obtain⟨d0,d1,d2,d3,d4,d5,d6,df⟩:=hP.facts;have hP2:=(hP.aX false).keeps ((Za.refl ai _).alloc (.cells #[.int .i64 ((L.length:Int)+(f L.length).length-1)] 3)) id;obtain⟨e0,e1,e2,e3,e4,e5,e6,ef⟩:=hP2.facts;clear hP2)|(go_at_call 49;refine(iM (S5.fin hP hv rfl false _).1 _ (S5.fin hP hv rfl false _).2.1 (by have:=ZK cO;omega) (aL.on (S5.fin hP hv rfl false _).2.2 (fun i hi' h=>by have:=aU.keeps.size;omega)) dw (by intro k hk;simp[Value.ownBlock] at hk;subst hk;exact aL.keeps.size)).mono ?_;rintro e w6 ⟨rfl,v6,S6,dI,dR⟩))
 go_ret;exact Qm HE.out S6 (by have:=ZK cO;simp;omega) dI dR
def XJ (s:ByteArray) (alt:Nat->Nat->aS) (room:Bool) (deep B:Nat):Prop :=
 ∀ (w:World) (R p g:Nat) (v:Value) (L:List Pm),Sp w R s p (-1) g v L->s.size<=120->p<s.size->g<=9->L.length+3*(s.size-p)<=1000->ed s alt->
   au 73 #[ae R,.int .i64 deep] w (QM (Zm alt room s p g) R s B w v L)
theorem Zgh{alt:Nat->Nat->aS}{room:Bool}(hA:qw s alt room deep B)(hB:1005<=B)(fE:B<=6000):XJ s alt room deep (B+1):=by
 intro w R p g v L S hs hp hg hF G
 cases he:Zd alt room s p g with
 | error x=>exact ZlR S hs hp G hg hF hA hB fE he
 | ok r =>
   obtain⟨f,q,g'⟩:=r
   by_cases h1:bt s q=42
   ·by_cases hl:bt s (q+1)=63
    ·exact Zhn S hs hp G hg hF hA hB fE he h1 hl
    ·exact Zho S hs hp G hg hF hA hB fE he h1 hl
   by_cases h2:bt s q=43
   ·by_cases hl:bt s (q+1)=63
    ·exact Zhp S hs hp G hg hF hA hB fE he h2 hl
    ·exact Zhq S hs hp G hg hF hA hB fE he h2 hl
   by_cases h3:bt s q=63
   ·by_cases hl:bt s (q+1)=63
    ·exact ZjQ S hs hp G hg hF hA hB fE he h3 hl
    ·exact ZjR S hs hp G hg hF hA hB fE he h3 hl
   by_cases h4:bt s q=123
   ·cases hc:Zg s (q+1) with
    | error x=>exact Zhr S hs hp G hg hF hA hB fE he h4 hc
    | ok r =>
      obtain⟨lo,hi,q2⟩:=r
      by_cases hl:bt s q2=63
      ·exact ZlP S hs hp G hg hF hA hB fE he h4 hc hl
      ·exact ZlQ S hs hp G hg hF hA hB fE he h4 hc hl
   ·exact ZjS S hs hp G hg hF hA hB fE he ⟨h1,h2,h3,h4⟩
theorem Tryz.wR:(Tryz.prog.info? 3).map (fun i=>(i.zero,i.size,i.bytes))=some (some (.int .i64 0),1,8):=by kernel_rfl
def xW (L:List Pm) (kv:Value):Prop :=∀x∈L,∀k,x.2.2.ownBlock=some k->¬kv.ownBlock=some k
theorem Mk{w1:World}{P:Nat}{a b g:Int}{c:Pc}(S:Sp w1 R s a b g v L)(hP:Pb w1 P c (.slice none 0 0) kv)(hv:¬v.ownBlock=some P)
  (bO:w1.ownsRow base 3 1 kv ks.length (nY ks)) (hap:xW L kv) (hb:base<=w1.heap.size) (hn:ks.length<=100000) (r:Int) :
  ∃ oI w2,Sem.run Tryz.prog (Builtin.append_ #[111,111] 111 #[kv,.slice (some ⟨w1.heap.size,0,none⟩) 1 1]) (w1.alloc (.cells #[.int .i64 r] 3))=.ok oI w2/\
    w2.cell? ⟨P,6,none⟩=some kv/\w2.frozen? ⟨P,6,none⟩=false/\
    Sp (w2.setCell ⟨P,6,none⟩ oI) R s a b g v L/\Pb (w2.setCell ⟨P,6,none⟩ oI) P c (.slice none 0 0) oI/\(w2.setCell ⟨P,6,none⟩ oI).ownsRow base 3 1 oI (ks.length+1) (nY (ks++[r]))/\
    xW L oI/\Za (fun k=>k=P\/kv.ownBlock=some k) w1 (w2.setCell ⟨P,6,none⟩ oI):=by
 obtain⟨i0,hi,hz0,hz1,hz2⟩:=info_parts Tryz.wR;obtain⟨oI,w2,hrun,ho,hg,hbk⟩:=JF (P:=Tryz.prog) (w1.alloc (.cells #[.int .i64 r] 3)) base 111 111 3 i0 (.int .i64 0) 1 8 Tryz.underlying111 hi hz0 hz1 hz2 rfl (by decide) kv ks.length _ (bO.alloc _)
  (ak w1.heap.size) 1 1 [.int .i64 r] (by rfl) (aV w1 _ [.int .i64 r]) (ints_oneCell .i64 [r]) (by unfold maxLen;omega) (by omega) (by simp;omega)
 have k2:Za (kv.ownBlock=some ·) w1 w2:=((Za.refl _ _).alloc _).grown hg (fun k hk _=>hk);have hPk:¬kv.ownBlock=some P:=Zi bO hP (by decide);have hRk:¬kv.ownBlock=some R:=Zi bO S.rd (by decide);have hP2:Pb w2 P c (.slice none 0 0) kv:=hP.keeps k2 hPk;have S2:Sp w2 R s a b g v L:=by
  refine⟨S.rd.keeps k2 hRk,Zb S.row k2 (fun k hk1 hk2=>Je S.row bO (by decide) hk1 hk2),fun x hx=>?_⟩;exact⟨Zb (S.rows x hx).1 k2 (fun k hk1 hk2=>Je (S.rows x hx).1 bO (by decide) hk1 hk2),Zb (S.rows x hx).2 k2 (fun k hk1 hk2=>hap x hx k hk1 hk2)⟩
 have kP:Za (·=P) w2 (w2.setCell ⟨P,6,none⟩ oI):=ZO _ _ _ _;refine⟨oI,w2,hrun,by rw[Zc hP2];rfl,Zv hP2,S2.ry hP2 hv kP,hP2.Ny _,?_,?_,(k2.mono fun _ _ h=>Or.inr h).trans (kP.mono fun _ _ h=>Or.inl h)⟩
 ·have:=Zb ho kP (by rintro k hk rfl;exact Zi ho hP2 (by decide) hk)
  simpa [nY] using this
 ·intro x hx k hk hk';have hlt:k<w1.heap.size:=by
   obtain⟨cur,hh⟩:=Zx (S.rows x hx).2 hk;exact lt_of_block hh
  exact hap x hx k hk (hbk k hk' (by simp;omega))
def Φ (L:List Pm) (s:ByteArray) (q:Nat):Nat:=L.length+3*(s.size-q)
def Zvh (alt:Nat->Nat->aS) (room:Bool) (s:ByteArray) (R P B:Nat) (res:Except Nat (List Pf×Nat×Nat)) (w:World) (v:Value) (L:List Pm) (fu:Nat) (wr:World):Prop :=
 (∃(q g':Nat) (v':Value) (L':List Pm) (fs:List Pf) (kv:Value),q<=s.size/\g'<=9/\s.size-q<fu/\Zz alt room s fu q g' fs=res/\Sp wr R s q (-1) g' v' L'/\L'.map (·.1)=L.map (·.1)++cat fs L.length/\
  Pb wr P (ZL 2 []) (.slice none 0 0) kv/\wr.ownsRow w.heap.size 3 1 kv (ends fs L.length).length (nY (ends fs L.length))/\(ends fs L.length).length+fu<=121/\xW L' kv/\¬v'.ownBlock=some P/\Stp R w v wr v'/\New w L L'/\L'.length+3*(s.size-q)<=1000)\/
 (∃(x:Nat) (a g':Int) (v':Value) (L':List Pm) (kv:Value) (ks:List Int),res=.error x/\Sp wr R s a x g' v' L'/\
  Pb wr P (ZL 2 []) (.slice none 0 0) kv/\wr.ownsRow w.heap.size 3 1 kv ks.length (nY ks)/\Stp R w v wr v'/\New w L L'/\L'.length<=B)
theorem JU(c:Pc)(hc:c.set = [])(hk:c.kids=ks)(h:w.ownsRow base 3 1 kv ks.length (nY ks)):Jl w (c,.slice none 0 0,kv) :=
 ⟨by rw[hc];exact DV _ _ _,by rw[hk];exact Zp h (fun _ _=>Nat.zero_le _)⟩
theorem Pb.wJ(w:World)(k:Int):Pb (w.alloc (.cells #[.int .i64 k,.slice none 0 0,.int .i64 0,.int .i64 0,.bool false,.int .i64 0,.slice none 0 0] 114)) w.heap.size (ZL k []) (.slice none 0 0) (.slice none 0 0):=heap_alloc_new _ _
variable {fs:List Pf}
theorem Zf7{alt:Nat->Nat->aS}{room:Bool}{fu q:Nat}(h:¬(bt s q≠256/\bt s q≠124/\bt s q≠41)):Zz alt room s (fu+1) q g fs=.ok (fs,q,g):=by
 rw[Zz,if_neg h]
theorem Zhh{alt:Nat->Nat->aS}{room:Bool}{fu q:Nat}(h:bt s q≠256/\bt s q≠124/\bt s q≠41)(hp:Zm alt room s q g=.error x):Zz alt room s (fu+1) q g fs=.error x:=by
 rw[Zz,if_pos h,hp]
theorem Zf6{alt:Nat->Nat->aS}{room:Bool}{fu q q1 g1:Nat}{f:Pf}(h:bt s q≠256/\bt s q≠124/\bt s q≠41)(hp:Zm alt room s q g=.ok (f,q1,g1)):Zz alt room s (fu+1) q g fs=Zz alt room s fu q1 g1 (fs++[f]):=by
 rw[Zz,if_pos h,hp]
def Hw (s:ByteArray) (alt:Nat->Nat->aS) (room:Bool) (deep B:Nat):Prop :=
 ∀ (w:World) (R p g:Nat) (v:Value) (L:List Pm),Sp w R s p (-1) g v L->s.size<=120->p<=s.size->g<=9->L.length+3*(s.size-p)<=1000->ed s alt->
   au 47 #[ae R,.int .i64 deep] w (QM (ZJ alt room s p g) R s B w v L)
theorem Zhf{alt:Nat->Nat->aS}{room:Bool}(h:Zz alt room s (s.size+1) p g []=.error x):ZJ alt room s p g=.error x:=by simp[ZJ,h]
theorem Ur{alt:Nat->Nat->aS}{room:Bool}{q g':Nat}(h:Zz alt room s (s.size+1) p g []=.ok (fs,q,g')):ZJ alt room s p g=.ok (QV fs,q,g'):=by simp[ZJ,h]
theorem Yx{alt:Nat->Nat->aS}{room:Bool}(hA:XJ s alt room deep B)(hB:1005<=B)(fE:B<=6000):Hw s alt room deep (B+1):=by
 intro w R p g v L S hs hp hg hF G;go_enter Tryz.func47,Tryz.ntmps47;obtain⟨res,hres⟩:∃res,Zz alt room s (s.size+1) p g []=res:=⟨_,rfl⟩;have bV:Hid (Zz alt room s (s.size+1) p g []=res):=hres;have S1:=S.alloc (.cells #[.int .i64 2,.slice none 0 0,.int .i64 0,.int .i64 0,.bool false,.int .i64 0,.slice none 0 0] 114);have st1:Stp R w v _ v:=(Stp.refl R w v).same ((Za.refl ai w).alloc (.cells #[.int .i64 2,.slice none 0 0,.int .i64 0,.int .i64 0,.bool false,.int .i64 0,.slice none 0 0] 114));have hP1:=Pb.wJ w 2;have hv1:=rY S;have dL:¬w.heap.size=R:=by have:=S.rd.lt;omega
 go_wp2;go_loopg [6] (s.size+1) (fun fu x6 wr=>Zvh alt room s R w.heap.size B res w v L fu wr)
 case atStart =>
  refine Or.inl ⟨p,g,v,L,[],.slice none 0 0,hp,hg,by omega,hres,S1,by simp[cat],hP1,World.ownsRow_nil _ _ _ _,by simp[ends];omega,?_,hv1,st1,New.refl _ _,hF⟩;intro x hx k hk h;simp[Value.ownBlock] at h
 case round =>
  as_aux_lemma =>
   clear S1 st1 hP1 hv1 hres S hp hg hF
   rcases hrel with⟨q,g',v',L',fs,kv,hq,hg',hfu,hloop,S5,Aq,hP,bO,hkn,hap,hv,aL,qM,xJ⟩ | ⟨x,a,g',v',L',kv,ks,hx,S5,hP,bO,aL,qM,Rw⟩
   ·obtain⟨fu,rfl⟩:∃f,gk=f+1:=⟨gk-1,by omega⟩;have HL:Hid (Zz alt room s (fu+1) q g' fs=res):=hloop;have HM:Hid (L'.map (·.1)=L.map (·.1)++cat fs L.length):=Aq;have HLen:Hid (L'.length=L.length+(cat fs L.length).length):=ZK (f:=cat fs) Aq;clear hloop Aq;have c0:=S5.rd.c0;have c1:=S5.rd.c1
    by_cases hgo:bt s q≠256/\bt s q≠124/\bt s q≠41
    ·have hin:q<s.size:=by
      apply Decidable.byContradiction;intro hn';exact hgo.1 (Z7 hn')
     have hqz:(q:Int)<(s.size:Int):=by omega
     have hc:s[q].toNat=bt s q:=(ZX hin).symm;obtain⟨b,hbb⟩:∃b,bt s q=b:=⟨_,rfl⟩;have HG:Hid (bt s q≠256/\bt s q≠124/\bt s q≠41):=hgo;rw[hbb] at hc hgo;have z1:((b:Int) != 124)=true:=by
      have:¬(b:Int)=124:=by omega
      simpa using this
     have z2:((b:Int) != 41)=true:=by
      have:¬(b:Int)=41:=by omega
      simpa using this
     clear hbb hgo;go_upto_region 2 with(fail);go_quiet ((go_at_call 27;exact Calls.quiet_of (ZN (S5.rd.drewN _) hs hin)));replace S5:=S5.drewN nq;replace aL:Stp R w v (wr.drewN nq) v':=aL.same ((Za.refl _ _).drewN _);replace hP:=hP.keeps ((Za.refl ai wr).drewN nq) id;replace bO:=Qa (w':=wr.drewN nq) bO rfl;clear c0 c1;generalize wr.drewN nq=w3 at S5 aL hP bO ⊢
     cases hpc:Zm alt room s q g' with
     | error x =>
       have HX:Hid (Zm alt room s q g'=.error x):=hpc;have HE:Hid (res=.error x):=by
        have h1:=HL.out;show _ = _;rw[<- h1];exact Zhh HG.out hpc
       clear hpc;go_wp2_with(first|(go_at_call 73;refine(hA _ _ _ _ _ _ S5 hs hin hg' xJ G).mono ?_;intro e w4 hpo;unfold QM at hpo;rw[HX.out] at hpo;obtain⟨r,v4,L4,rfl,dE,hB4,aU,dw⟩:=hpo;obtain⟨a4,g4,S4⟩:=dE;have dS:=hP.keeps aU.keeps (fun h=>h.elim dL hv);have ji:=Zb bO aU.keeps (fun k hk h=>h.elim (fun h=>Zi bO S5.rd (by decide) (h ▸ hk)) (fun h=>Je bO S5.row (by decide) hk h));have hv4:¬v4.ownBlock=some w.heap.size:=(fun h=>hv (aU.blk _ h (lt_of_block hP)));have oW:xW L4 kv:=(by obtain⟨M,rfl,hM⟩:=dw;intro y hy k hk hk';rw[List.mem_append] at hy;rcases hy with hy | hy;exact hap y hy k hk hk';obtain⟨cur,hh⟩:=Zx bO hk';exact absurd (hM y hy k hk) (by have:=lt_of_block hh;omega));obtain⟨oI,w5,hrun,c6,f6,S6,vI,jh,uw,dN⟩:=Mk S4 dS hv4 ji oW (Nat.le_trans aL.keeps.size aU.keeps.size) (by omega) r;have c64:=dS.facts.2.2.2.2.2.2.1;obtain⟨ao,cap,rfl⟩:=aj jh)|(at_builtin;refine Zj rfl _ _ _ _ rfl rfl _ _ _ _ rfl rfl hrun ?_))
       go_roundg fu
       case measure=>omega
       case rel=>exact Or.inr ⟨x,a4,g4,v4,L4,_,ends fs L.length++[r],HE.out,S6,vI,by simpa using jh,(aL.trans aU).on dN (fun i hi' h=>h.elim (fun h=>by omega) (fun h=>by have:=(ji.lt _ h).1;omega)),qM.trans dw aL.keeps.size,hB4⟩
     | ok rr =>
       obtain⟨f,q1,g1⟩:=rr;have hpos:=MO G hin hg' hpc;have Gf:=hpos.2.2.2 L'.length;have HX:Hid (Zm alt room s q g'=.ok (f,q1,g1)):=hpc;have HE:Hid (Zz alt room s fu q1 g1 (fs++[f])=res):=by
        have h1:=HL.out;show _ = _;rw[<- h1];exact(Zf6 HG.out hpc).symm
       clear hpc;go_wp2_with(first|(go_at_call 73;refine(hA _ _ _ _ _ _ S5 hs hin hg' xJ G).mono ?_;intro e w4 hpo;unfold QM at hpo;rw[HX.out] at hpo;obtain⟨v4,L4,rfl,S4,cO,aU,dw⟩:=hpo;have dS:=hP.keeps aU.keeps (fun h=>h.elim dL hv);have ji:=Zb bO aU.keeps (fun k hk h=>h.elim (fun h=>Zi bO S5.rd (by decide) (h ▸ hk)) (fun h=>Je bO S5.row (by decide) hk h));have hv4:¬v4.ownBlock=some w.heap.size:=(fun h=>hv (aU.blk _ h (lt_of_block hP)));have oW:xW L4 kv:=(by obtain⟨M,rfl,hM⟩:=dw;intro y hy k hk hk';rw[List.mem_append] at hy;rcases hy with hy | hy;exact hap y hy k hk hk';obtain⟨cur,hh⟩:=Zx bO hk';exact absurd (hM y hy k hk) (by have:=lt_of_block hh;omega));obtain⟨oI,w5,hrun,c6,f6,S6,vI,jh,uw,dN⟩:=Mk S4 dS hv4 ji oW (Nat.le_trans aL.keeps.size aU.keeps.size) (by omega) ((L'.length:Int)+(f L'.length).length-1);have c64:=dS.facts.2.2.2.2.2.2.1;obtain⟨ao,cap,rfl⟩:=aj jh)|(at_builtin;refine Zj rfl _ _ _ _ rfl rfl _ _ _ _ rfl rfl hrun ?_))
       go_roundg fu
       case measure=>omega
       case rel =>
        have mU:=HLen.out;have he1:ends (fs++[f]) L.length=ends fs L.length++[((L'.length:Int)+(f L'.length).length-1)]:=by
         rw[ZgF,mU];simp
        have hc1:cat (fs++[f]) L.length=cat fs L.length++f L'.length:=by rw[Mg,mU]
        have hl4:L4.length=L'.length+(f L'.length).length:=ZK cO;refine Or.inl ⟨q1,g1,v4,L4,fs++[f],_,hpos.2.1,hpos.2.2.1,by omega,HE.out,S6,?_,vI,?_,?_,uw,hv4,(aL.trans aU).on dN (fun i hi' h=>h.elim (fun h=>by omega) (fun h=>by have:=(ji.lt _ h).1;omega)),qM.trans dw aL.keeps.size,by omega⟩
        ·rw[cO,HM.out,hc1,List.append_assoc]
        ·rw[he1];simpa using jh
        ·rw[he1];simp;omega
    ·have HE:Hid (res=.ok (fs,q,g')):=by
      have h1:=HL.out;show _ = _;rw[<- h1];exact Zf7 hgo
     by_cases hin:q<s.size
     ·have hqz:(q:Int)<(s.size:Int):=by omega
      have hc:s[q].toNat=bt s q:=(ZX hin).symm;have hlt:=Jh hin
      rcases(show bt s q=124\/bt s q=41 from by omega) with hb | hb
      ·rw[hb] at hc;clear hgo hb;go_upto_region 2 with(fail);go_quiet ((go_at_call 27;exact Calls.quiet_of (ZN (S5.rd.drewN _) hs hin)));replace S5:=S5.drewN nq;replace aL:Stp R w v (wr.drewN nq) v':=aL.same ((Za.refl _ _).drewN _);replace hP:=hP.keeps ((Za.refl ai wr).drewN nq) id;replace bO:=Qa (w':=wr.drewN nq) bO rfl;clear c0 c1;generalize wr.drewN nq=w3 at S5 aL hP bO ⊢;obtain⟨d0,d1,d2,d3,d4,d5,d6,df⟩:=hP.facts;go_wp2_with(first|(go_at_call 49;refine(iM S5 (ZL 2 (ends fs L.length),.slice none 0 0,kv) (JU _ rfl rfl bO) (by omega) aL qM (fun k hk=>(bO.lt k hk).1)).mono ?_;rintro e w6 ⟨rfl,v6,S6,dI,dR⟩))
       go_ret;refine Qi (Ur (bV.out.trans HE.out)) S6 ?_ (by have:=HLen.out;simp[QV];omega) dI dR;rw[List.map_append,HM.out];simp[QV]
      ·rw[hb] at hc;clear hgo hb;go_upto_region 2 with(fail);go_quiet ((go_at_call 27;exact Calls.quiet_of (ZN (S5.rd.drewN _) hs hin)));replace S5:=S5.drewN nq;replace aL:Stp R w v (wr.drewN nq) v':=aL.same ((Za.refl _ _).drewN _);replace hP:=hP.keeps ((Za.refl ai wr).drewN nq) id;replace bO:=Qa (w':=wr.drewN nq) bO rfl;clear c0 c1;generalize wr.drewN nq=w3 at S5 aL hP bO ⊢;obtain⟨d0,d1,d2,d3,d4,d5,d6,df⟩:=hP.facts;go_wp2_with(first|(go_at_call 49;refine(iM S5 (ZL 2 (ends fs L.length),.slice none 0 0,kv) (JU _ rfl rfl bO) (by omega) aL qM (fun k hk=>(bO.lt k hk).1)).mono ?_;rintro e w6 ⟨rfl,v6,S6,dI,dR⟩))
       go_ret;refine Qi (Ur (bV.out.trans HE.out)) S6 ?_ (by have:=HLen.out;simp[QV];omega) dI dR;rw[List.map_append,HM.out];simp[QV]
     ·clear hgo;go_upto_region 2 with(fail);go_quiet ((go_at_call 27;exact Calls.quiet_of (zB (S5.rd.drewN _) hs hin)));replace S5:=S5.drewN nq;replace aL:Stp R w v (wr.drewN nq) v':=aL.same ((Za.refl _ _).drewN _);replace hP:=hP.keeps ((Za.refl ai wr).drewN nq) id;replace bO:=Qa (w':=wr.drewN nq) bO rfl;clear c0 c1;generalize wr.drewN nq=w3 at S5 aL hP bO ⊢;obtain⟨d0,d1,d2,d3,d4,d5,d6,df⟩:=hP.facts;go_wp2_with(first|(go_at_call 49;refine(iM S5 (ZL 2 (ends fs L.length),.slice none 0 0,kv) (JU _ rfl rfl bO) (by omega) aL qM (fun k hk=>(bO.lt k hk).1)).mono ?_;rintro e w6 ⟨rfl,v6,S6,dI,dR⟩))
      go_ret;refine Qi (Ur (bV.out.trans HE.out)) S6 ?_ (by have:=HLen.out;simp[QV];omega) dI dR;rw[List.map_append,HM.out];simp[QV]
   ·have HE:Hid (res=.error x):=hx;clear hx;go_upto_region 2 with(fail);go_quiet ((go_at_call 27;exact Calls.quiet_of (Iy (S5.rd.drewN _))));replace S5:=S5.drewN nq;replace aL:Stp R w v (wr.drewN nq) v':=aL.same ((Za.refl _ _).drewN _);replace hP:=hP.keeps ((Za.refl ai wr).drewN nq) id;replace bO:=Qa (w':=wr.drewN nq) bO rfl;generalize wr.drewN nq=w3 at S5 aL hP bO ⊢;obtain⟨d0,d1,d2,d3,d4,d5,d6,df⟩:=hP.facts;go_wp2_with(first|(go_at_call 49;refine(iM S5 (ZL 2 ks,.slice none 0 0,kv) (JU _ rfl rfl bO) (by omega) aL qM (fun k hk=>(bO.lt k hk).1)).mono ?_;rintro e w6 ⟨rfl,v6,S6,dI,dR⟩))
    go_ret;exact Qm (Zhf (bV.out.trans HE.out)) S6 (by simp;omega) dI dR
end Go.Proofs.YtfkflljplohhcaaGreatDoor
