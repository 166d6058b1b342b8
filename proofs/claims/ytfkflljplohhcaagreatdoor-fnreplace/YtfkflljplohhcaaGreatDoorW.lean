import Derived.Test.YtfkflljplohhcaaGreatDoorV
set_option linter.unusedVariables false
set_option maxHeartbeats 2000000
set_option maxRecDepth 100000
namespace Go.Proofs.YtfkflljplohhcaaGreatDoor
open Go.RowKit
def Jg (s:ByteArray) (f:Pf) (q g:Nat):aS :=
 match ZG s q with
 | .error e => .error e
 | .ok (none,_) => .ok (f,q,g)
 | .ok (some (lo,hi),q2)=>if bt s q2=63 then .ok (Z5 lo hi true f,q2+1,g) else .ok (Z5 lo hi false f,q2,g)
variable {s:ByteArray}{p g x g' B P:Nat}{w w' w0:World}{d:Int}{v v1 v2 v3:Value}{vs:List Value}{tmps:Array Value}
theorem Zgi{alt:Nat->Nat->aS}{room:Bool}(h:Zd alt room s p g=.error x):Zm alt room s p g=.error x:=by
 simp[Zm,h]
variable {f:Pf}
theorem Zdq{alt:Nat->Nat->aS}{room:Bool}{q:Nat}(h:Zd alt room s p g=.ok (f,q,g')):Zm alt room s p g=Jg s f q g':=by
 unfold Zm Jg;rw[h];rfl
theorem ZdQ{R q:Nat}(h:Rc w R s q g d)(hN:Nd w (fun k=>B<=k) v f)(uz:R<B)(hs:s.size<=120)(hq:q<=s.size):
  au 96 #[ae R,v] w (Z9 R B s d (Jg s f q g) w):=by
 obtain⟨t,y,rfl⟩:=hN.iface
 cases hc:ZG s q with
 | error x =>
   have HR:Hid (Jg s f q g=.error x):=(by show _ = _;simp[Jg,hc]);have HC:Hid (ZG s q=.error x):=hc;clear hc;go_enter Tryz.func96,Tryz.ntmps96;go_wp2_with(first|(go_at_call 132;refine(MS h hs hq).mono ?_;rw[HC.out];rintro e w2 ⟨rfl,hk⟩))
   exact⟨rfl,ZE HR.out ⟨rfl,hk⟩⟩
 | ok r =>
   obtain⟨o,q2⟩:=r;have hpos:=Uh hq hc;have HC:Hid (ZG s q=.ok (o,q2)):=hc
   cases o with
   | none =>
     have hqq:q2=q:=hpos.2.2.2 rfl;have HR:Hid (Jg s f q g=.ok (f,q2,g)):=(by show _ = _;simp[Jg,hc,hqq]);clear hc hpos hqq;go_enter Tryz.func96,Tryz.ntmps96;go_wp2_with(first|(go_at_call 132;refine(MS h hs hq).mono ?_;rw[HC.out];clear h;rintro e w2 ⟨rfl,hR,hk⟩))
     go_ret;exact ZQ HR.out (hN.keeps hk (by intro i hi _ h;omega)) hR hk
   | some lh =>
     obtain⟨lo,hi⟩:=lh;have hq2:q2<=s.size:=hpos.2.1
     by_cases hb:bt s q2=63
     ·have HR:Hid (Jg s f q g=.ok (Z5 lo hi true f,q2+1,g)):=(by show _ = _;simp[Jg,hc,hb]);have HB:Hid (bt s q2=63):=hb;clear hc hpos hb;go_enter Tryz.func96,Tryz.ntmps96;go_wp2_with(first|(go_at_call 132;refine(MS h hs hq).mono ?_;rw[HC.out];clear h;rintro e w2 ⟨rfl,hR,hK⟩;replace hN:=hN.keeps hK (by intro i hi _ h;omega))|(go_at_call 76;refine(Z4 hR hs hq2 (b:=63) (by decide) HB.out).mono ?_;clear hR;rintro e w3 ⟨rfl,hR,hk⟩;replace hN:=hN.keeps hk (by intro i hi _ h;omega);replace hK:=hK.trans hk))
      go_ret;exact ZQ HR.out (.rep lo hi true hN) hR hK
     ·have HR:Hid (Jg s f q g=.ok (Z5 lo hi false f,q2,g)):=(by show _ = _;simp[Jg,hc,hb]);have HB:Hid (bt s q2≠63):=hb;clear hc hpos hb;go_enter Tryz.func96,Tryz.ntmps96;go_wp2_with(first|(go_at_call 132;refine(MS h hs hq).mono ?_;rw[HC.out];clear h;rintro e w2 ⟨rfl,hR,hK⟩;replace hN:=hN.keeps hK (by intro i hi _ h;omega))|(go_at_call 76;refine(QP hR hs hq2 (b:=63) (by decide) HB.out).mono ?_;clear hR;rintro e w3 ⟨rfl,hR,hk⟩;replace hN:=hN.keeps hk (by intro i hi _ h;omega);replace hK:=hK.trans hk))
      go_ret;exact ZQ HR.out (.rep lo hi false hN) hR hK
def qp (w:World) (B:Nat) (x:Value) (vs:List Value) (fs:List Pf):Prop :=
 w.ownsRow B 85 1 x vs.length vs/\fs.length=vs.length/\
  ∀(i:Nat) (v:Value) (f:Pf),vs[i]?=some v->fs[i]?=some f->Nd w (fun k=>B<=k/\¬x.ownBlock=some k) v f
theorem qp.nil(w:World)(B:Nat):qp w B (.slice none 0 0) [] []:=⟨World.ownsRow_nil _ _ _ _,rfl,by simp⟩
variable {fs:List Pf}{E:Nat->Prop}
theorem qp.keeps{x:Value}(h:qp w B x vs fs)(k:Za E w w')(hE:∀i,B<=i->i<w.heap.size->¬E i):qp w' B x vs fs:=by
 obtain⟨h1,h2,h3⟩:=h;exact⟨Zb h1 k (fun i hi=>hE i (h1.lt i hi).1 (h1.lt i hi).2),h2,fun i v f hv hf=>(h3 i v f hv hf).keeps k (fun j hj hlt=>hE j hj.1 hlt)⟩
theorem qp.snoc{x:Value}(h:qp w B x vs fs)(hB:B<=w.heap.size)(hlen:vs.length<=1000)(hN:Nd w (fun k=>B<=k/\¬x.ownBlock=some k) v f)(hone:v.oneCell'=true):
  ∃x' w',Sem.run Tryz.prog (Builtin.append_ #[163,163] 163 #[x,.slice (some ⟨w.heap.size,0,none⟩) 1 1]) (w.alloc (.cells #[v] 85))=.ok x' w'/\qp w' B x' (vs++[v]) (fs++[f])/\(∃ao cap,x'=.slice ao (vs.length+1) cap)/\Za (x.ownBlock=some ·) w w':=by
 obtain⟨h1,h2,h3⟩:=h;obtain⟨i0,hi,hz0,hz1,hz2⟩:=info_parts Tryz.sW;obtain⟨x',w',hrun,ho,hg,hblk⟩:=JF (P:=Tryz.prog) (w.alloc (.cells #[v] 85)) B 163 163 85 i0 .nilIface 1 16 Tryz.underlying163 hi hz0 hz1 hz2 rfl (by decide) x vs.length vs (h1.alloc _) (ak w.heap.size) 1 1 [v] rfl (aV w _ [v]) (by simpa using hone) (by unfold maxLen;omega) (by omega) (by simp;omega);have hK:Za (x.ownBlock=some ·) w w':=((Za.refl _ w).alloc _).grown hg (fun k hk _=>hk);refine⟨x',w',hrun,⟨by simpa using ho,by simp[h2],?_⟩,aj ho,hK⟩;have hstep:∀(u:Value) (e:Pf),Nd w (fun k=>B<=k/\¬x.ownBlock=some k) u e->Nd w' (fun k=>B<=k/\¬x'.ownBlock=some k) u e:=by
  intro u e hu;have a1:Nd w (fun k=>(B<=k/\¬x'.ownBlock=some k)/\¬x.ownBlock=some k) u e :=
   hu.mono (fun k hk hlt=>⟨⟨hk.1,fun h=>hk.2 (hblk k h (by simp;omega))⟩,hk.2⟩)
  have a2:=a1.keeps hK (fun i hi _=>hi.2);exact a2.mono (fun k hk _=>hk.1)
 intro i u e hu he
 by_cases hi2:i<vs.length
 ·rw[List.getElem?_append_left hi2] at hu;rw[List.getElem?_append_left (by omega)] at he;exact hstep u e (h3 i u e hu he)
 ·rw[List.getElem?_append_right (by omega)] at hu;rw[List.getElem?_append_right (by omega)] at he;have h0:i-vs.length=0:=by
   rcases Nat.eq_zero_or_pos (i-vs.length) with h | h
   ·exact h
   ·rw[List.getElem?_eq_none (by simp;omega)] at hu;simp at hu
  rw[h0] at hu;rw[h2,h0] at he;simp at hu he;subst hu he;exact hstep v f hN
def Xv (s:ByteArray) (alt:Nat->Nat->aS) (room:Bool) (d:Int):Prop :=
 ∀ (w:World) (R p g B:Nat),Rc w R s p g d->R<B->B<=w.heap.size->p<=s.size->g<=9->
   au 75 #[ae R] w (Z9 R B s d (ZJ alt room s p g) w)
section
variable {alt:Nat->Nat->aS}{room:Bool}{s:ByteArray}{fu p g:Nat}{fs:List Pf}
theorem ZcL(h:bt s p≠256/\bt s p≠124/\bt s p≠41)(he:Zm alt room s p g=.error x):Zz alt room s (fu+1) p g fs=.error x:=by
 rw[Zz,if_pos h,he]
theorem Zfh(h:bt s p≠256/\bt s p≠124/\bt s p≠41){q:Nat}(he:Zm alt room s p g=.ok (f,q,g')):Zz alt room s (fu+1) p g fs=Zz alt room s fu q g' (fs++[f]):=by
 rw[Zz,if_pos h,he]
theorem Zfi(h:¬(bt s p≠256/\bt s p≠124/\bt s p≠41)):Zz alt room s (fu+1) p g fs=.ok (fs,p,g):=by
 rw[Zz,if_neg h]
end
theorem Zea{alt:Nat->Nat->aS}{room:Bool}(h:Zz alt room s (s.size+1) p g []=.error x):ZJ alt room s p g=.error x:=by
 simp[ZJ,h]
theorem Zlw{alt:Nat->Nat->aS}{room:Bool}{q:Nat}(h:Zz alt room s (s.size+1) p g []=.ok (fs,q,g')):ZJ alt room s p g=.ok (QV fs,q,g'):=by
 simp[ZJ,h]
def Zux (alt:Nat->Nat->aS) (room:Bool) (s:ByteArray) (R:Nat) (d:Int) (w:World) (res:Except Nat (List Pf×Nat×Nat)) (fu:Nat) (x:Value) (wr:World):Prop :=
 ∃(q g':Nat) (vs:List Value) (fs:List Pf),q<=s.size/\g'<=9/\s.size-q<fu/\vs.length<=q/\Aside (Zz alt room s fu q g' fs=res)/\Rc wr R s q g' d/\qp wr w.heap.size x vs fs/\Za (·=R) w wr/\∃ao cap,x=.slice ao vs.length cap
theorem ZiY{alt:Nat->Nat->aS}{room:Bool}(hA:XI s alt room d)(G:ed s alt)(hs:s.size<=120):Xv s alt room d:=by
 intro w R p g B h uz hB hp hg;have KO:=h.lt;obtain⟨res,hres⟩:∃res,Zz alt room s (s.size+1) p g []=res:=⟨_,rfl⟩;have bV:Hid (Zz alt room s (s.size+1) p g []=res):=hres;go_enter Tryz.func75,Tryz.ntmps75;go_wp2;go_loopg [3] (s.size+1) (fun fu x wr=>Zux alt room s R d w res fu x wr)
 case atStart=>exact⟨p,g,[],[],hp,hg,by omega,by simp,hres,h,qp.nil _ _,Za.refl _ _,_,_,rfl⟩
 case round =>
  clear h hp hg hres;obtain⟨q,g',vs,fs,hq,hg',hfu,hvl,hloop,hR,bu,hK,ao,cap,rfl⟩:=hrel;obtain⟨fu,rfl⟩:∃f,gk=f+1:=⟨gk-1,by omega⟩;have HL:Hid (Zz alt room s (fu+1) q g' fs=res):=hloop;clear hloop
  by_cases hgo:bt s q≠256/\bt s q≠124/\bt s q≠41
  ·have hin:q<s.size:=by
    apply Decidable.byContradiction;intro hn';exact hgo.1 (Z7 hn')
   have HG:Hid (bt s q≠256/\bt s q≠124/\bt s q≠41):=hgo;have pO:Hid (decide (bt s q=124)=false):=(by show _ = _;simp[hgo.2.1]);have IW:Hid (decide (bt s q=41)=false):=(by show _ = _;simp[hgo.2.2]);clear hgo
   cases hat:Zd alt room s q g' with
   | error x =>
     have HA:Hid (Zd alt room s q g'=.error x):=hat;have HX:Hid (ZJ alt room s p g=.error x):=by
      have h1:=bV.out;have h2:=HL.out;exact Zea (by rw[h1,<- h2];exact ZcL HG.out (Zgi hat))
     clear hat;go_wp2_with(first|(go_at_call 54;refine(Ju hR hin).mono ?_;rintro e w2 ⟨rfl,n,hn⟩;replace hK:=hK.trans (Ze hn).none;replace bu:=bu.keeps (Ze hn) (fun _ _ _ h=>h);replace hR:=hR.keeps (Ze hn) id;clear hn)|(go_at_call_of 95 (Value.int .u8 124);refine(QD hR hs hq (b:=124) (by decide) pO.out).mono ?_;rintro e w3 ⟨rfl,n,hn⟩;replace hK:=hK.trans (Ze hn).none;replace bu:=bu.keeps (Ze hn) (fun _ _ _ h=>h);replace hR:=hR.keeps (Ze hn) id;clear hn)|(go_at_call_of 95 (Value.int .u8 41);refine(QD hR hs hq (b:=41) (by decide) IW.out).mono ?_;rintro e w4 ⟨rfl,n,hn⟩;replace hK:=hK.trans (Ze hn).none;replace bu:=bu.keeps (Ze hn) (fun _ _ _ h=>h);replace hR:=hR.keeps (Ze hn) id;clear hn)|(go_at_call 97;have qN:=(fun (k:Nat) (hk:(Value.slice ao vs.length cap).ownBlock=some k)=>(bu.1.lt k hk).2);have hs4:=hK.size;refine(hA w4 R q g' w4.heap.size hR (by omega) (Nat.le_refl _) hin hg' HG.out.2.1 HG.out.2.2).mono ?_;rw[HA.out];rintro e w5 ⟨rfl,hk⟩))
     exact⟨rfl,ZE HX.out ⟨rfl,hK.trans hk⟩⟩
   | ok r =>
     obtain⟨f1,q1,g1⟩:=r;have hpos:=ZZ G hin hg' hat;have hq1:q1<=s.size:=hpos.2.1;have HA:Hid (Zd alt room s q g'=.ok (f1,q1,g1)):=hat
     cases hct:Jg s f1 q1 g1 with
     | error x =>
       have HC:Hid (Jg s f1 q1 g1=.error x):=hct;have HX:Hid (ZJ alt room s p g=.error x):=by
        have h1:=bV.out;have h2:=HL.out;exact Zea (by rw[h1,<- h2];exact ZcL HG.out (by rw[Zdq hat,hct]))
       clear hat hct hpos;go_wp2_with(first|(go_at_call 54;refine(Ju hR hin).mono ?_;rintro e w2 ⟨rfl,n,hn⟩;replace hK:=hK.trans (Ze hn).none;replace bu:=bu.keeps (Ze hn) (fun _ _ _ h=>h);replace hR:=hR.keeps (Ze hn) id;clear hn)|(go_at_call_of 95 (Value.int .u8 124);refine(QD hR hs hq (b:=124) (by decide) pO.out).mono ?_;rintro e w3 ⟨rfl,n,hn⟩;replace hK:=hK.trans (Ze hn).none;replace bu:=bu.keeps (Ze hn) (fun _ _ _ h=>h);replace hR:=hR.keeps (Ze hn) id;clear hn)|(go_at_call_of 95 (Value.int .u8 41);refine(QD hR hs hq (b:=41) (by decide) IW.out).mono ?_;rintro e w4 ⟨rfl,n,hn⟩;replace hK:=hK.trans (Ze hn).none;replace bu:=bu.keeps (Ze hn) (fun _ _ _ h=>h);replace hR:=hR.keeps (Ze hn) id;clear hn)|(go_at_call 97;have qN:=(fun (k:Nat) (hk:(Value.slice ao vs.length cap).ownBlock=some k)=>(bu.1.lt k hk).2);have hs4:=hK.size;refine(hA w4 R q g' w4.heap.size hR (by omega) (Nat.le_refl _) hin hg' HG.out.2.1 HG.out.2.2).mono ?_;rw[HA.out];clear hR;rintro e w5 ⟨v,rfl,hN,hR,hk⟩;obtain⟨t,y,rfl⟩:=hN.iface;replace hK:=hK.trans hk;replace bu:=bu.keeps hk (by intro i hi _ h;omega);clear hk)|(go_at_call 96;refine(ZdQ hR hN (by omega) hs hq1).mono ?_;rw[HC.out];rintro e w6 ⟨rfl,hk⟩))
       exact⟨rfl,ZE HX.out ⟨rfl,hK.trans hk⟩⟩
     | ok r =>
       obtain⟨f2,q2,g2⟩:=r;have hpc:Zm alt room s q g'=.ok (f2,q2,g2):=by rw[Zdq hat,hct]
       have KE:=MO G hin hg' hpc;have xap:q<q2:=KE.1;have hq2:q2<=s.size:=KE.2.1;have hg2:g2<=9:=KE.2.2.1;have HC:Hid (Jg s f1 q1 g1=.ok (f2,q2,g2)):=hct;have HM:Hid (Zz alt room s fu q2 g2 (fs++[f2])=res):=by
        have h2:=HL.out;show _ = _;rw[<- h2];exact(Zfh HG.out hpc).symm
       clear hat hct hpc KE hpos;go_wp2_with(first|(go_at_call 54;refine(Ju hR hin).mono ?_;rintro e w2 ⟨rfl,n,hn⟩;replace hK:=hK.trans (Ze hn).none;replace bu:=bu.keeps (Ze hn) (fun _ _ _ h=>h);replace hR:=hR.keeps (Ze hn) id;clear hn)|(go_at_call_of 95 (Value.int .u8 124);refine(QD hR hs hq (b:=124) (by decide) pO.out).mono ?_;rintro e w3 ⟨rfl,n,hn⟩;replace hK:=hK.trans (Ze hn).none;replace bu:=bu.keeps (Ze hn) (fun _ _ _ h=>h);replace hR:=hR.keeps (Ze hn) id;clear hn)|(go_at_call_of 95 (Value.int .u8 41);refine(QD hR hs hq (b:=41) (by decide) IW.out).mono ?_;rintro e w4 ⟨rfl,n,hn⟩;replace hK:=hK.trans (Ze hn).none;replace bu:=bu.keeps (Ze hn) (fun _ _ _ h=>h);replace hR:=hR.keeps (Ze hn) id;clear hn)|(go_at_call 97;have qN:=(fun (k:Nat) (hk:(Value.slice ao vs.length cap).ownBlock=some k)=>(bu.1.lt k hk).2);have hs4:=hK.size;refine(hA w4 R q g' w4.heap.size hR (by omega) (Nat.le_refl _) hin hg' HG.out.2.1 HG.out.2.2).mono ?_;rw[HA.out];clear hR;rintro e w5 ⟨v,rfl,hN,hR,hk⟩;obtain⟨t,y,rfl⟩:=hN.iface;replace hK:=hK.trans hk;replace bu:=bu.keeps hk (by intro i hi _ h;omega);clear hk)|(go_at_call 96;refine(ZdQ hR hN (by omega) hs hq1).mono ?_;rw[HC.out];clear hR;rintro e w6 ⟨v,rfl,Df,hR,hk⟩;obtain⟨t2,y2,rfl⟩:=Df.iface;replace hK:=hK.trans hk;replace bu:=bu.keeps hk (by intro i hi _ h;omega);clear hk;have hs6:=hK.size;obtain⟨x',w7,hrun,A8,⟨nu,cap',rfl⟩,iq⟩:=bu.snoc hs6 (by omega) (Df.mono (fun k hk1 _=>⟨by omega,fun h=>by have:=qN k h;omega⟩)) rfl)|(at_builtin;refine Zj rfl _ _ _ _ rfl rfl _ _ _ _ rfl rfl hrun ?_))
       go_roundg fu
       case measure=>omega
       case rel =>
        refine⟨q2,g2,vs++[Value.iface t2 y2],fs++[f2],hq2,hg2,by omega,by simp;omega,HM.out,hR.keeps iq ?_,A8,hK.trans' iq ?_,nu,cap',by simp⟩
        ·intro h;have:=(bu.1.lt _ h).1;omega
        ·intro i hi h;have:=(bu.1.lt _ h).1;omega
  ·have HX:Hid (ZJ alt room s p g=.ok (QV fs,q,g')):=by
    have h1:=bV.out;have h2:=HL.out;exact Zlw (by rw[h1,<- h2];exact Zfi hgo)
   by_cases hend:q=s.size
   ·have HE:Hid (q=s.size):=hend;clear hgo hend;go_wp2_with(first|(go_at_call 54;refine(IP hR HE.out).mono ?_;rintro e w2 ⟨rfl,n,hn⟩;replace hK:=hK.trans (Ze hn).none;replace bu:=bu.keeps (Ze hn) (fun _ _ _ h=>h);replace hR:=hR.keeps (Ze hn) id;clear hn))
    go_ret;exact ZQ HX.out (.seq (Zp bu.1 (fun _ _=>Nat.zero_le _)) (fun k hk=>by have:=(bu.1.lt _ hk).1;omega) bu.2.1 (by omega) (fun i v f hv hf=>(bu.2.2 i v f hv hf).mono (fun k hk _=>by omega))) hR hK
   ·have hin:q<s.size:=by omega
    have hlt:=Jh hin
    by_cases lL:bt s q=124
    ·have pO:Hid (decide (bt s q=124)=true):=(by show _ = _;simp[lL]);clear hgo hend hlt lL;go_wp2_with(first|(go_at_call 54;refine(Ju hR hin).mono ?_;rintro e w2 ⟨rfl,n,hn⟩;replace hK:=hK.trans (Ze hn).none;replace bu:=bu.keeps (Ze hn) (fun _ _ _ h=>h);replace hR:=hR.keeps (Ze hn) id;clear hn)|(go_at_call_of 95 (Value.int .u8 124);refine(QD hR hs hq (b:=124) (by decide) pO.out).mono ?_;rintro e w3 ⟨rfl,n,hn⟩;replace hK:=hK.trans (Ze hn).none;replace bu:=bu.keeps (Ze hn) (fun _ _ _ h=>h);replace hR:=hR.keeps (Ze hn) id;clear hn))
     go_ret;exact ZQ HX.out (.seq (Zp bu.1 (fun _ _=>Nat.zero_le _)) (fun k hk=>by have:=(bu.1.lt _ hk).1;omega) bu.2.1 (by omega) (fun i v f hv hf=>(bu.2.2 i v f hv hf).mono (fun k hk _=>by omega))) hR hK
    ·have pO:Hid (decide (bt s q=124)=false):=(by show _ = _;simp[lL]);have WX:bt s q=41:=by
      apply Decidable.byContradiction;intro hn';exact hgo ⟨by omega,lL,hn'⟩
     have IW:Hid (decide (bt s q=41)=true):=(by show _ = _;simp[WX]);clear hgo hend hlt lL WX;go_wp2_with(first|(go_at_call 54;refine(Ju hR hin).mono ?_;rintro e w2 ⟨rfl,n,hn⟩;replace hK:=hK.trans (Ze hn).none;replace bu:=bu.keeps (Ze hn) (fun _ _ _ h=>h);replace hR:=hR.keeps (Ze hn) id;clear hn)|(go_at_call_of 95 (Value.int .u8 124);refine(QD hR hs hq (b:=124) (by decide) pO.out).mono ?_;rintro e w3 ⟨rfl,n,hn⟩;replace hK:=hK.trans (Ze hn).none;replace bu:=bu.keeps (Ze hn) (fun _ _ _ h=>h);replace hR:=hR.keeps (Ze hn) id;clear hn)|(go_at_call_of 95 (Value.int .u8 41);refine(QD hR hs hq (b:=41) (by decide) IW.out).mono ?_;rintro e w4 ⟨rfl,n,hn⟩;replace hK:=hK.trans (Ze hn).none;replace bu:=bu.keeps (Ze hn) (fun _ _ _ h=>h);replace hR:=hR.keeps (Ze hn) id;clear hn))
     go_ret;exact ZQ HX.out (.seq (Zp bu.1 (fun _ _=>Nat.zero_le _)) (fun k hk=>by have:=(bu.1.lt _ hk).1;omega) bu.2.1 (by omega) (fun i v f hv hf=>(bu.2.2 i v f hv hf).mono (fun k hk _=>by omega))) hR hK
def J6 (alt:Nat->Nat->aS) (room:Bool) (s:ByteArray) (fu q g:Nat) (fs:List Pf):aS :=
 if bt s q=124\/2<=fs.length then
  match ZY alt room s fu q g fs with
  | .error e => .error e
  | .ok (fs',q2,g2) => .ok (JQ fs',q2,g2)
 else match fs with
  | [f] => .ok (f,q,g)
  | _ => .error 0
section
variable {alt:Nat->Nat->aS}{room:Bool}{s:ByteArray}{fu p g:Nat}
theorem ZgW{q:Nat}(h:ZJ alt room s p g=.ok (f,q,g')):QY alt room s p g=J6 alt room s (s.size+1) q g' [f]:=by
 unfold QY J6;rw[h]
 by_cases hb:bt s q=124
 ·simp[hb];rfl
 ·simp[hb]
theorem ZkV(hb:bt s p=124)(h:ZJ alt room s (p+1) g=.error x):J6 alt room s (fu+1) p g fs=.error x:=by
 unfold J6;rw[if_pos (Or.inl hb),ZY,if_pos hb,h]
theorem Zii{q:Nat}(hb:bt s p=124)(hl:1<=fs.length)(h:ZJ alt room s (p+1) g=.ok (f,q,g')):J6 alt room s (fu+1) p g fs=J6 alt room s fu q g' (fs++[f]):=by
 unfold J6;rw[if_pos (Or.inl hb),ZY,if_pos hb,h,if_pos (Or.inr (by simp;omega))]
theorem Zij(hb:¬bt s p=124)(hl:2<=fs.length):J6 alt room s (fu+1) p g fs=.ok (JQ fs,p,g):=by
 unfold J6;rw[if_pos (Or.inr hl),ZY,if_neg hb]
theorem ZkU(hb:¬bt s p=124):J6 alt room s (fu+1) p g [f]=.ok (f,p,g):=by
 simp[J6,hb]
end
theorem qp.one(hB:B<=w.heap.size)(hN:Nd w (fun k=>B<=k) v f):qp (w.alloc (.cells #[v] 85)) B (.slice (some ⟨w.heap.size,0,none⟩) 1 1) [v] [f]:=by
 refine⟨⟨rfl,Or.inr ⟨w.heap.size,1,#[v],rfl,hB,heap_alloc_new w _,by simp,by decide,rfl,rfl⟩⟩,rfl,?_⟩;intro i u e hu he
 cases i with
 | zero =>
   simp at hu he;subst hu he;have a1:Nd w (fun k=>B<=k/\¬(Value.slice (some ⟨w.heap.size,0,none⟩) 1 1).ownBlock=some k) v f:=hN.mono (fun k hk hlt=>⟨hk,fun h=>by simp[Value.ownBlock] at h;omega⟩);exact a1.keeps ((Za.refl ai w).alloc _) (fun _ _ _ h=>h)
 | succ i=>simp at hu
def Zuy (alt:Nat->Nat->aS) (room:Bool) (s:ByteArray) (R:Nat) (d:Int) (w:World) (res:aS) (fu:Nat) (x:Value) (wr:World):Prop :=
 ∃(q g':Nat) (vs:List Value) (fs:List Pf),q<=s.size/\g'<=9/\s.size-q<fu/\1<=vs.length/\vs.length<=q+1/\Aside (J6 alt room s fu q g' fs=res)/\Rc wr R s q g' d/\qp wr w.heap.size x vs fs/\Za (·=R) w wr/\∃ao cap,x=.slice ao vs.length cap
theorem ZiZ{alt:Nat->Nat->aS}{room:Bool}(hS:Xv s alt room d)(G:ed s alt)(hs:s.size<=120):Hu s (QY alt room s) d:=by
 intro w R p g B h uz hB hp hg;have KO:=h.lt
 cases oL:ZJ alt room s p g with
 | error x =>
   have HS:Hid (ZJ alt room s p g=.error x):=oL;have HX:Hid (QY alt room s p g=.error x):=(by show _ = _;simp[QY,oL]);clear oL;go_enter Tryz.func53,Tryz.ntmps53;go_wp2_with(first|(go_at_call 75;refine(hS w R p g w.heap.size h (by omega) (Nat.le_refl _) hp hg).mono ?_;rw[HS.out];rintro e w2 ⟨rfl,hk⟩))
   exact⟨rfl,ZE HX.out ⟨rfl,hk⟩⟩
 | ok r =>
   obtain⟨f,q,g'⟩:=r;obtain⟨hpq,gy,dH,-⟩:=Q3 G hp hg oL;have HS:Hid (ZJ alt room s p g=.ok (f,q,g')):=oL;obtain⟨res,hres⟩:∃res,QY alt room s p g=res:=⟨_,rfl⟩;rw[hres];have hstart:J6 alt room s (s.size+1) q g' [f]=res:=by rw[<- hres];exact(ZgW oL).symm
   clear oL hres;go_enter Tryz.func53,Tryz.ntmps53;go_wp2_with(first|(go_at_call 75;refine(hS w R p g w.heap.size h (by omega) (Nat.le_refl _) hp hg).mono ?_;rw[HS.out];rintro e w2 ⟨v,rfl,hN,hR,hK⟩;obtain⟨t,y,rfl⟩:=hN.iface;have hs2:=hK.size))
   go_loopg [3] (s.size+1) (fun fu x wr=>Zuy alt room s R d w res fu x wr)
   case atStart=>exact⟨q,g',[Value.iface t y],[f],gy,dH,by omega,by simp,by simp,hstart,hR.keeps ((Za.refl ai w2).alloc _) id,qp.one hs2 hN,hK.alloc _,_,_,rfl⟩
   case round =>
    clear h hp hg HS hR hN hK hstart gy dH hpq;obtain⟨q,g',vs,fs,hq,hg',hfu,hv1,hvl,hloop,hR,bu,hK,ao,cap,rfl⟩:=hrel;obtain⟨fu,rfl⟩:∃f,gk=f+1:=⟨gk-1,by omega⟩;have HL:Hid (J6 alt room s (fu+1) q g' fs=res):=hloop;have hfl:1<=fs.length:=by rw[bu.2.1];exact hv1
    clear hloop
    by_cases hb:bt s q=124
    ·have HB:Hid (bt s q=124):=hb;have hlt:=Zn hb (by decide);have hq1:q+1<=s.size:=hlt
     cases oL:ZJ alt room s (q+1) g' with
     | error x =>
       have HS:Hid (ZJ alt room s (q+1) g'=.error x):=oL;have HX:Hid (res=.error x):=(by have:=HL.out;show _ = _;rw[<- this];exact ZkV hb oL);clear hb oL;go_wp2_with(first|(go_at_call 76;refine(Z4 hR hs hq (b:=124) (by decide) HB.out).mono ?_;clear hR;rintro e w3 ⟨rfl,hR,hk⟩;replace hK:=hK.trans hk;clear hk;have hs3:=hK.size)|(go_at_call 75;refine(hS w3 R (q+1) g' w3.heap.size hR (by omega) (Nat.le_refl _) hq1 hg').mono ?_;rw[HS.out];rintro e w4 ⟨rfl,hk⟩))
       exact⟨rfl,ZE HX.out ⟨rfl,hK.trans hk⟩⟩
     | ok r =>
       obtain⟨f1,q1,g1⟩:=r;obtain⟨hpq,gy,dH,-⟩:=Q3 G hq1 hg' oL;have HS:Hid (ZJ alt room s (q+1) g'=.ok (f1,q1,g1)):=oL;have HM:Hid (J6 alt room s fu q1 g1 (fs++[f1])=res):=(by have:=HL.out;show _ = _;rw[<- this];exact(Zii hb hfl oL).symm);clear hb oL;go_wp2_with(first|(go_at_call 76;refine(Z4 hR hs hq (b:=124) (by decide) HB.out).mono ?_;clear hR;rintro e w3 ⟨rfl,hR,hk⟩;replace bu:=bu.keeps hk (by intro i hi _ h;omega);replace hK:=hK.trans hk;clear hk;have hs3:=hK.size;have qN:=(fun (k:Nat) (hk:(Value.slice ao vs.length cap).ownBlock=some k)=>(bu.1.lt k hk).2))|(go_at_call 75;refine(hS w3 R (q+1) g' w3.heap.size hR (by omega) (Nat.le_refl _) hq1 hg').mono ?_;rw[HS.out];clear hR;rintro e w4 ⟨v,rfl,hN,hR,hk⟩;obtain⟨t2,y2,rfl⟩:=hN.iface;replace bu:=bu.keeps hk (by intro i hi _ h;omega);replace hK:=hK.trans hk;clear hk;have hs6:=hK.size;obtain⟨x',w7,hrun,A8,⟨nu,cap',rfl⟩,iq⟩:=bu.snoc hs6 (by omega) (hN.mono (fun k hk1 _=>⟨by omega,fun h=>by have:=qN k h;omega⟩)) rfl)|(at_builtin;refine Zj rfl _ _ _ _ rfl rfl _ _ _ _ rfl rfl hrun ?_))
       go_roundg fu
       case measure=>omega
       case rel =>
        refine⟨q1,g1,vs++[Value.iface t2 y2],fs++[f1],gy,dH,by omega,by simp,by simp;omega,HM.out,hR.keeps iq ?_,A8,hK.trans' iq ?_,nu,cap',by simp⟩
        ·intro h;have:=(bu.1.lt _ h).1;omega
        ·intro i hi h;have:=(bu.1.lt _ h).1;omega
    ·have HB:Hid (bt s q≠124):=hb
     by_cases h2:2<=vs.length
     ·have HX:Hid (res=.ok (JQ fs,q,g')):=(by have:=HL.out;show _ = _;rw[<- this];exact Zij hb (by rw[bu.2.1];exact h2));have hz:((vs.length:Int) == 1)=false:=by simp;omega
      clear hb;go_wp2_with(first|(go_at_call 76;refine(QP hR hs hq (b:=124) (by decide) HB.out).mono ?_;clear hR;rintro e w3 ⟨rfl,hR,hk⟩;replace bu:=bu.keeps hk (by intro i hi _ h;omega);replace hK:=hK.trans hk;clear hk))
      go_ret;exact ZQ HX.out (.alt (Zp bu.1 (fun _ _=>Nat.zero_le _)) (fun k hk=>by have:=(bu.1.lt _ hk).1;omega) bu.2.1 (by omega) (fun i v f hv hf=>(bu.2.2 i v f hv hf).mono (fun k hk _=>by omega))) hR hK
     ·obtain⟨v,rfl⟩:∃v,vs = [v]:=by
       match vs,hv1,h2 with
       | [v],_,_=>exact⟨v,rfl⟩
       | _::_::_,_,h2=>simp at h2
      obtain⟨f1,rfl⟩:∃f1,fs = [f1]:=by
       have hl:=bu.2.1
       match fs,hl with
       | [f1],_=>exact⟨f1,rfl⟩
      have HX:Hid (res=.ok (f1,q,g')):=(by have:=HL.out;show _ = _;rw[<- this];exact ZkU hb);clear hb h2 hv1 hvl hfl HL;obtain⟨gb,cp,hsl,-,-⟩:=ZM (n:=0) bu.1;simp only[Value.slice.injEq] at hsl;obtain⟨rfl,-,rfl⟩:=hsl;go_wp2_with(first|(go_at_call 76;refine(QP hR hs hq (b:=124) (by decide) HB.out).mono ?_;clear hR;rintro e w3 ⟨rfl,hR,hk⟩;replace bu:=bu.keeps hk (by intro i hi _ h;omega);replace hK:=hK.trans hk;clear hk;have cc:w3.cell? (ak gb)=some v:=bu.1.cells rfl 0 v rfl))
      go_ret;exact ZQ HX.out ((bu.2.2 0 v f1 rfl rfl).mono (fun k hk _=>by omega)) hR hK
theorem Zpw(hs:s.size<=120)(k:Nat)(hk:k<=6):Hu s (Qt s k) (6-(k:Int)):=by
 induction k with
 | zero =>
   have hG:ed s (fun _ _ => .error 0):=by intro p g f q g' _ _ h;simp at h
   exact ZiZ (ZiY (Zgx ⟨by omega,Or.inr ⟨rfl,by omega⟩⟩ hG hs) hG hs) hG hs
 | succ k ih =>
   have hG:=QG s k;have h1:=ih (by omega);have e:(6-((k+1:Nat):Int))+1=6-(k:Int):=by omega
   exact ZiZ (ZiY (Zgx ⟨by omega,Or.inl ⟨rfl,by omega,by rw[e];exact h1⟩⟩ hG hs) hG hs) hG hs
def aP (w:World) (a:Nat) (t:TypeId) (v:Value):Prop:=w.heap[a]?=some (.cells #[v] t (0,0))
namespace aP
variable {w w':World}{a:Nat}{t:TypeId}{v u:Value}
theorem lt(h:aP w a t v):a<w.heap.size:=lt_of_block h
theorem cell(h:aP w a t v):w.cell? (ak a)=some v:=by rw[Zc h];rfl
theorem fz(h:aP w a t v):w.frozen? (ak a)=false:=Zv h
theorem keeps(h:aP w a t v)(k:Za E w w')(hE:¬E a):aP w' a t v:=by
 unfold aP at h ⊢;rw[k.block a (lt_of_block h) hE];exact h
theorem set(h:aP w a t v)(u:Value):aP (w.setCell (ak a) u) a t u:=by unfold aP;rw[heap_setCell_same _ _ _ _ _ _ h];rfl
theorem drew(h:aP w a t v):aP w.drew a t v:=h
end aP
theorem Zky(p q r:Addr)(w:World):
  CallsD Tryz.prog 52 #[.pointer (some p),.pointer (some q),.pointer (some r)] .returning w fun e u' w'=>e=.returned (.tuple #[])/\u'=.returning/\w'=w:=by
 have hnil:∀w:World,(binOp BinOp.eql 20 .nilIface .nilIface).run Tryz.prog w=.ok (.bool true) w:=fun _=>by kernel_rfl
 refine callsD_of_wpS Tryz.func52 rfl fun c₀ cs hu=>?_;apply wpS_seq;apply wpS_region;simp[wpOpsS,go_sem,recoverD,hu,Tryz.ntmps52,Exit.thenS];refine wpS_of_wp ?_;go_wp2_with fail
 cases c₀
 simp_all [bodyPostS,results,Tryz.results52]
theorem Zh2{a b c:Nat}{x:Int}{older:List PanicEntry}(ha:aP w a 85 v1)(hb:aP w b 3 v2)(hc:aP w c 3 v3)(hab:a≠b)(hac:a≠c)(hbc:b≠c):
  CallsD Tryz.prog 52 #[ae a,ae b,ae c] (.panicking ({ v:=.iface 122 (.agg #[.int .i64 x]),recovered:=false }::older)) w fun e u' w' =>
   e=.returned (.tuple #[])/\u'=.panicking ({ v:=.iface 122 (.agg #[.int .i64 x]),recovered:=true }::older)/\aP w' a 85 .nilIface/\aP w' b 3 (.int .i64 0)/\aP w' c 3 (.int .i64 x)/\Za (fun k=>k=a\/k=b\/k=c) w w':=by
 have hnn:∀w:World,(binOp BinOp.eql 20 (.iface 122 (.agg #[.int .i64 x])) .nilIface).run Tryz.prog w=.ok (.bool false) w:=fun _=>by kernel_rfl
 have qJ:∀w:World,(Instr.typeAssert (.iface 122 (.agg #[.int .i64 x])) 20 122 true).run Tryz.prog w=.ok (.tuple #[.agg #[.int .i64 x],.bool true]) w:=fun _=>by kernel_rfl
 refine callsD_of_wpS Tryz.func52 rfl fun c₀ cs hu=>?_;apply wpS_seq;apply wpS_region;simp[wpOpsS,go_sem,recoverD,hu,Tryz.ntmps52,Exit.thenS,Array.replicate];refine wpS_of_wp ?_;go_wp2_with fail;have hk1:Za ai w (w.alloc (.cells #[.int .i64 x] 122)):=(Za.refl _ w).alloc _;have hP:aP (w.alloc (.cells #[.int .i64 x] 122)) w.heap.size 122 (.int .i64 x):=heap_alloc_new w _;have na:a≠w.heap.size:=Nat.ne_of_lt ha.lt;have nb:b≠w.heap.size:=Nat.ne_of_lt hb.lt;have nc:c≠w.heap.size:=Nat.ne_of_lt hc.lt;replace ha:=ha.keeps hk1 id;replace hb:=hb.keeps hk1 id;replace hc:=hc.keeps hk1 id;generalize w.alloc (.cells #[.int .i64 x] 122)=w1 at hk1 hP ha hb hc ⊢;generalize w.heap.size=P at hP na nb nc ⊢;have c1:=ha.cell;have c2:=hb.cell;have c3:=hc.cell;have c4:=hP.cell;have f1:=ha.fz;have f2:=hb.fz;have f3:=hc.fz;have hab':¬b=a:=fun h=>hab h.symm;have Pq:¬c=a:=fun h=>hac h.symm;have Pp:¬c=b:=fun h=>hbc h.symm;have na':¬P=a:=fun h=>na h.symm;have nb':¬P=b:=fun h=>nb h.symm;have nc':¬P=c:=fun h=>nc h.symm;go_region;refine⟨rfl,_,rfl,.tuple #[],by simp[results,Tryz.results52],rfl,rfl,?_,?_,?_,?_⟩
 ·exact(((ha.set _).keeps (Qr _ b 0 _) hab).keeps (Qr _ c 0 _) hac).drew
 ·exact(((hb.keeps (Qr _ a 0 _) hab').set _).keeps (Qr _ c 0 _) hbc).drew
 ·exact(((hc.keeps (Qr _ a 0 _) Pq).keeps (Qr _ b 0 _) Pp).set _).drew
 ·exact(((hk1.none.setCell (fun _=>Or.inl rfl) _).setCell (fun _=>Or.inr (Or.inl rfl)) _).setCell (fun _=>Or.inr (Or.inr rfl)) _).drew
def ZA (s:ByteArray):Except Nat (Nat×Pf) :=
 if 120<s.size then .error 120
 else match Qt s 6 0 0 with
  | .error e => .error e
  | .ok (f,q,g)=>if q<s.size then .error q else .ok (g,f)
def Jj (s:ByteArray) (w:World) (e:Ending) (w':World):Prop :=
 match ZA s with
 | .error x=>e=.returned (.tuple #[.nilIface,.int .i64 0,.int .i64 x])/\Za ai w w'
 | .ok (g,f) =>∃v,e=.returned (.tuple #[v,.int .i64 g,.int .i64 0])/\Nd w' (fun k=>w.heap.size<=k) v f/\Za ai w w'
structure Tv (w0 w:World) (P:Nat) (v1 v2 v3:Value):Prop where
 a:aP w P 85 v1
 b:aP w (P+1) 3 v2
 c:aP w (P+2) 3 v3
 k:Za (fun k=>P<=k) w0 w
 p:P=w0.heap.size
theorem Tv.fault(h:Tv w0 w P v1 v2 v3)(hx:ZA s=.error x)(ht:tmps[2]?=some ((ae P)))(ht3:tmps[3]?=some (.pointer (some ⟨P+1,0,none⟩)))(Oo:tmps[4]?=some (.pointer (some ⟨P+2,0,none⟩))):
  Leaves Tryz.prog Tryz.f35 tmps (Jj s w0) [{ target:=Target.fn (Fn.func 52) #[ae P,.pointer (some ⟨P+1,0,none⟩),.pointer (some ⟨P+2,0,none⟩)],args:=#[] }] (.panicking [{ v:=.iface 122 (.agg #[.int .i64 x]),recovered:=false }]) w:=by
 refine leaves_cons (f:=52) (args:=#[ae P,.pointer (some ⟨P+1,0,none⟩),.pointer (some ⟨P+2,0,none⟩)]) (by simp) (by simp[go_sem]) ?_;refine(Zh2 h.a h.b h.c (by omega) (by omega) (by omega)).mono ?_;rintro e u' w'' ⟨rfl,rfl,h1,h2,h3,hk⟩;have c1:=h1.cell;have c2:=h2.cell;have c3:=h3.cell;have hk0:Za ai w0 w'':=by
  have hp:=h.p;exact(h.k.trans' (E':=fun k=>k=P\/k=P+1\/k=P+2) hk (fun i hi h=>by omega)).mono (fun k hk h=>by omega)
 have hT:Jj s w0 (.returned (.tuple #[.nilIface,.int .i64 0,.int .i64 x])) w'':=by unfold Jj;rw[hx];exact⟨rfl,hk0⟩
 simp[Leaves,settle,results,Tryz.results35,go_sem,ht,ht3,Oo,c1,c2,c3];exact hT
theorem Tv.back(h:Tv w0 w P v (.int .i64 g) (.int .i64 0))(hx:ZA s=.ok (g,f))(hN:Nd w (fun k=>w0.heap.size<=k) v f)(ht:tmps[2]?=some ((ae P)))(ht3:tmps[3]?=some (.pointer (some ⟨P+1,0,none⟩)))(Oo:tmps[4]?=some (.pointer (some ⟨P+2,0,none⟩))):
  Leaves Tryz.prog Tryz.f35 tmps (Jj s w0) [{ target:=Target.fn (Fn.func 52) #[ae P,.pointer (some ⟨P+1,0,none⟩),.pointer (some ⟨P+2,0,none⟩)],args:=#[] }] .returning w:=by
 refine leaves_cons (f:=52) (args:=#[ae P,.pointer (some ⟨P+1,0,none⟩),.pointer (some ⟨P+2,0,none⟩)]) (by simp) (by simp[go_sem]) ?_;refine(Zky _ _ _ _).mono ?_;rintro e u' w'' ⟨rfl,rfl,rfl⟩;have c1:=h.a.cell;have c2:=h.b.cell;have c3:=h.c.cell;have hk0:Za ai w0 w'':=by
  have hp:=h.p;exact h.k.mono (fun k hk h=>by omega)
 have hT:Jj s w0 (.returned (.tuple #[v,.int .i64 g,.int .i64 0])) w'':=by unfold Jj;rw[hx];exact⟨v,rfl,hN,hk0⟩
 simp[Leaves,settle,results,Tryz.results35,go_sem,ht,ht3,Oo,c1,c2,c3];exact hT
theorem Zis(w:World):Tv w (((w.alloc (.cells #[.nilIface] 85)).alloc (.cells #[.int .i64 0] 3)).alloc (.cells #[.int .i64 0] 3)) w.heap.size .nilIface (.int .i64 0) (.int .i64 0):=by
 have k1:∀(w:World) (o:Obj),Za ai w (w.alloc o):=fun w o=>(Za.refl _ w).alloc o;have h1:aP (w.alloc (.cells #[.nilIface] 85)) w.heap.size 85 .nilIface:=heap_alloc_new w _;have h2:aP ((w.alloc (.cells #[.nilIface] 85)).alloc (.cells #[.int .i64 0] 3)) (w.heap.size+1) 3 (.int .i64 0):=by
  have:=heap_alloc_new (w.alloc (.cells #[.nilIface] 85)) (.cells #[.int .i64 0] 3)
  simpa [aP] using this
 have h3:aP (((w.alloc (.cells #[.nilIface] 85)).alloc (.cells #[.int .i64 0] 3)).alloc (.cells #[.int .i64 0] 3)) (w.heap.size+2) 3 (.int .i64 0):=by
  have:=heap_alloc_new ((w.alloc (.cells #[.nilIface] 85)).alloc (.cells #[.int .i64 0] 3)) (.cells #[.int .i64 0] 3)
  simpa [aP] using this
 exact⟨(h1.keeps (k1 _ _) id).keeps (k1 _ _) id,h2.keeps (k1 _ _) id,h3,(((Za.refl _ w).alloc _).alloc _).alloc _,rfl⟩
theorem Tv.keeps(h:Tv w0 w P v1 v2 v3)(k:Za E w w')(hE:∀i,i<P+3->¬E i):Tv w0 w' P v1 v2 v3 :=
 ⟨h.a.keeps k (hE _ (by omega)),h.b.keeps k (hE _ (by omega)),h.c.keeps k (hE _ (by omega)),h.k.trans' k (fun i hi he=>absurd he (hE i (by have:=h.p;omega))),h.p⟩
theorem Tv.set1(h:Tv w0 w P v1 v2 v3)(u:Value):Tv w0 (w.setCell (ak P) u) P u v2 v3 :=
 ⟨h.a.set u,h.b.keeps (Qr _ P 0 _) (by omega),h.c.keeps (Qr _ P 0 _) (by omega),h.k.setCell (fun _=>Nat.le_refl _) _,h.p⟩
theorem Tv.set2(h:Tv w0 w P v1 v2 v3)(u:Value):Tv w0 (w.setCell ⟨P+1,0,none⟩ u) P v1 u v3 :=
 ⟨h.a.keeps (Qr _ _ 0 _) (by omega),h.b.set u,h.c.keeps (Qr _ _ 0 _) (by omega),h.k.setCell (fun _=>Nat.le_succ _) _,h.p⟩
theorem Tv.iQ(h:Tv w0 w P v1 v2 v3)(u:Value):Tv w0 (w.setCell ⟨P+2,0,none⟩ u) P v1 v2 u :=
 ⟨h.a.keeps (Qr _ _ 0 _) (by omega),h.b.keeps (Qr _ _ 0 _) (by omega),h.c.set u,h.k.setCell (fun _=>(by show P<=P+2;omega)) _,h.p⟩
theorem Tv.drew(h:Tv w0 w P v1 v2 v3):Tv w0 w.drew P v1 v2 v3:=⟨h.a,h.b,h.c,h.k.drew,h.p⟩
theorem Zla(hs:120<s.size):
  au 35 #[.string s] w (Jj s w):=by
 have mR:∀(fn:Fn) (first cap:Array Value) (w:World),(Instr.makeFunc fn first cap).run Tryz.prog w=.ok (.func fn first cap) w:=fun _ _ _ _=>rfl;have hsz:(120:Int)<(s.size:Int):=by omega
 have HX:Hid (ZA s=.error 120):=(by show _ = _;simp[ZA,hs]);have hT:=Zis w;go_enter_defers Tryz.func35,Tryz.ntmps35;go_wp2_with fail;exact hT.fault HX.out rfl rfl rfl
theorem ZjC(hs:s.size<=120):
  au 35 #[.string s] w (Jj s w):=by
 have mR:∀(fn:Fn) (first cap:Array Value) (w:World),(Instr.makeFunc fn first cap).run Tryz.prog w=.ok (.func fn first cap) w:=fun _ _ _ _=>rfl;have hsz:(s.size:Int)<=120:=by omega
 have hT:=Zis w;go_enter_defers Tryz.func35,Tryz.ntmps35;go_upto_region 5 with fail;have fw:=hT.keeps ((Za.refl ai _).alloc (.cells #[.string s,.int .i64 0,.int .i64 0,.int .i64 0] 126)) (fun _ _ h=>h);have hR:Rc ((((w.alloc (.cells #[.nilIface] 85)).alloc (.cells #[.int .i64 0] 3)).alloc (.cells #[.int .i64 0] 3)).alloc (.cells #[.string s,.int .i64 0,.int .i64 0,.int .i64 0] 126)) (w.heap.size+3) s ((0:Nat):Int) ((0:Nat):Int) 0:=by
  have:=heap_alloc_new (((w.alloc (.cells #[.nilIface] 85)).alloc (.cells #[.int .i64 0] 3)).alloc (.cells #[.int .i64 0] 3)) (.cells #[.string s,.int .i64 0,.int .i64 0,.int .i64 0] 126)
  simpa [Rc] using this
 generalize ((((w.alloc (.cells #[.nilIface] 85)).alloc (.cells #[.int .i64 0] 3)).alloc (.cells #[.int .i64 0] 3)).alloc (.cells #[.string s,.int .i64 0,.int .i64 0,.int .i64 0] 126))=w4 at fw hR ⊢;clear hT;have GM:Hu s (Qt s 6) 0:=by
  have:=Zpw hs 6 (by omega)
  simpa using this
 have hcall:=GM w4 (w.heap.size+3) 0 0 w4.heap.size hR hR.lt (Nat.le_refl _) (Nat.zero_le _) (by omega);have hW:w.heap.size<=w4.heap.size:=fw.k.size;have qN:=hR.lt;have mQ:¬120<s.size:=by omega
 clear GM hR
 cases ha:Qt s 6 0 0 with
 | error x =>
   have HX:Hid (ZA s=.error x):=(by show _ = _;simp[ZA,ha,mQ]);rw[ha] at hcall;clear ha;go_wp2_with(first|(go_at_call 53;refine hcall.mono ?_;rintro e w5 ⟨rfl,hk⟩))
   exact(fw.keeps hk (fun i hi h=>by omega)).fault HX.out rfl rfl rfl
 | ok r =>
   obtain⟨f,q,g⟩:=r;obtain⟨-,gy,dH,-⟩:=QG s 6 _ _ _ _ _ (Nat.zero_le _) (by omega) ha;rw[ha] at hcall;go_upto_region 6 with(go_at_call 53;refine hcall.mono ?_;rintro e w5 ⟨v,rfl,hN,hR,hk⟩;obtain⟨t,y,rfl⟩:=hN.iface;replace fw:=fw.keeps hk (fun i hi h=>by omega);have c1:=fw.a.cell;have f1:=fw.a.fz);replace fw:=fw.set1 (.iface t y);replace hR:=hR.keeps (Qr w5 w.heap.size 0 (.iface t y)) (by omega);replace hN:=hN.keeps (Qr w5 w.heap.size 0 (.iface t y)) (by intro i hi _ h;omega);clear c1 f1 hcall hk;generalize w5.setCell (ak w.heap.size) (.iface t y)=w6 at fw hR hN ⊢
   by_cases hend:q=s.size
   ·have HX:Hid (ZA s=.ok (g,f)):=(by show _ = _;simp[ZA,ha,mQ,hend]);have HE:Hid (q=s.size):=hend;clear ha hend mQ;go_upto_region 8 with(go_at_call 54;refine(IP hR HE.out).mono ?_;rintro e w7 ⟨rfl,n,hn⟩;replace fw:=fw.keeps (Ze hn) (fun _ _ h=>h);replace hN:=hN.keeps (Ze hn) (fun _ _ _ h=>h);replace hR:=hR.keeps (Ze hn) id;clear hn);have c1:=fw.a.cell;have f1:=fw.a.fz;have c2:=fw.b.cell;have f2:=fw.b.fz;have c3:=fw.c.cell;have f3:=fw.c.fz;have c4:=hR.c2;go_region;go_wp2_with fail;have hN1:=hN.keeps (Qr w7 w.heap.size 0 (.iface t y)) (by intro i hi _ h;omega);have Df:=hN1.keeps (Qr _ (w.heap.size+1) 0 (.int .i64 g)) (by intro i hi _ h;omega);have hN3:=Df.keeps (Qr _ (w.heap.size+2) 0 (.int .i64 0)) (by intro i hi _ h;omega);have hN4:=hN3.keeps ((Za.refl ai _).drew) (fun _ _ _ h=>h);exact(((fw.set1 _).set2 (.int .i64 g)).iQ (.int .i64 0)).drew.back HX.out (hN4.mono (fun k hk _=>by omega)) rfl rfl rfl
   ·have HX:Hid (ZA s=.error q):=(by show _ = _;simp[ZA,ha,mQ];omega);have hlt:q<s.size:=by omega
    clear ha hend mQ;go_wp2_with(first|(go_at_call 54;refine(Ju hR hlt).mono ?_;rintro e w7 ⟨rfl,n,hn⟩;replace fw:=fw.keeps (Ze hn) (fun _ _ h=>h);replace hR:=hR.keeps (Ze hn) id;clear hn;have c1:=hR.c1))
    exact fw.fault HX.out rfl rfl rfl
theorem Zor(s:ByteArray):au 35 #[.string s] w (Jj s w):=by
 by_cases hs:120<s.size
 ·exact Zla hs
 ·exact ZjC (by omega)
end Go.Proofs.YtfkflljplohhcaaGreatDoor
