import Derived.Test.YtfkflljplohhcaaGreatDoorRg
import Derived.Test.YtfkflljplohhcaaGreatDoorDc
import Derived.Test.YtfkflljplohhcaaGreatDoorYt
import Derived.Test.YtfkflljplohhcaaGreatDoorTie
import Derived.Test.YtfkflljplohhcaaGreatDoorCards
import Derived.ShutString
import Derived.Lay
import Derived.Handy
set_option linter.unusedVariables false
set_option maxHeartbeats 2000000
set_option maxRecDepth 100000
namespace Go.Proofs.YtfkflljplohhcaaGreatDoor
open Go.RowKit
theorem ZrQ(ok:Bool)(x:ByteArray)(n:Int)(w:World):(binOp BinOp.neq 28 (.agg #[.bool ok,.string x,.int .i64 n]) (.agg #[.bool ok,.string x,.int .i64 n])).run Tryz.prog w=.ok (.bool false) w:=by
 have hs:Tryz.prog.stoodInHeld 28=false:=by kernel_rfl
 simp[go_sem,hs]
theorem Zso(a:Option Addr)(b c:Nat)(g:Int)(w:World):Sem.run Tryz.prog (Instr.field 33 (.agg #[.bool true,.int .i64 0,.int .i64 g,.slice a b c]) 2) w=.ok (.int .i64 g) w:=by kernel_rfl
theorem Zt0(ok:Bool)(x:ByteArray)(n:Int)(w:World):Sem.run Tryz.prog (Instr.field 28 (.agg #[.bool ok,.string x,.int .i64 n]) 0) w=.ok (.bool ok) w:=by kernel_rfl
def Cf (r:Bool×ByteArray×Nat) (w:World) (e:Ending) (w':World):Prop:=e=.returned (.agg #[.bool r.1,.string r.2.1,.int .i64 (r.2.2:Int)])/\Za ai w w'
def Ld (l:List Mt) (w:World) (e:Ending) (w':World):Prop :=
 ∃(ao:Option Addr) (n c:Nat) (L:List Mm),e=.returned (.slice ao n c)/\L.map (·.1)=l/\kg w' (.slice ao n c) L/\Za ai w w'
def nP (t0:Int) (l:List Mt):Int:=l.foldl (fun a m=>a-(m.up-m.fr)) t0
theorem ZiT(t0:Int)(l:List Mt)(m:Mt):nP t0 (l++[m])=nP t0 l-(m.up-m.fr):=by simp[nP]
theorem ZtM(t0:Int)(l:List Mt):(∀m∈l,0<=m.fr/\m.fr<=m.up/\m.up<=14)->t0-14*l.length<=nP t0 l/\nP t0 l<=t0:=by
 refine IA (M:=fun l=>(∀m∈l,0<=m.fr/\m.fr<=m.up/\m.up<=14)->t0-14*l.length<=nP t0 l/\nP t0 l<=t0) (fun _=>by simp[nP]) ?_ l;intro l m ih h;have h1:=ih (fun x hx=>h x (by simp[hx]));have h2:=h m (by simp);rw[ZiT,List.length_append];simp only[List.length_cons,List.length_nil];omega
variable {w w' W:World}{b i cap cap2 n2 g p c base:Nat}{v:Value}{t s u x:ByteArray}{ao qo:Option Addr}{cs:List Nat}{pl:Bool}
theorem MQ(h:w.cell? ⟨b,i,none⟩=some v)(k:Za ai w w'):w'.cell? ⟨b,i,none⟩=some v:=by
 have hlt:b<w.heap.size:=by
  apply Decidable.byContradiction;intro hn
  have:w.heap[b]?=none:=Array.getElem?_eq_none (by omega)
  simp[World.cell?,this] at h
 have hs:=k.block b hlt id;simp only[World.cell?,hs] at h ⊢;exact h
theorem ZrF{P:Nat}{t:TypeId}{a0 a1 a2:Value}(b0 b1 b2:Value)(h:w.heap[P]?=some (.cells #[a0,a1,a2] t (0,0))):
  (((w.setCell (ak P) b0).setCell ⟨P,1,none⟩ b1).setCell ⟨P,2,none⟩ b2).heap[P]?=some (.cells #[b0,b1,b2] t (0,0))/\Za (·=P) w (((w.setCell (ak P) b0).setCell ⟨P,1,none⟩ b1).setCell ⟨P,2,none⟩ b2):=by
 have h1:(w.setCell (ak P) b0).heap[P]?=some (.cells #[b0,a1,a2] t (0,0)):=by rw[heap_setCell_same _ _ _ _ _ _ h];rfl
 have h2:((w.setCell (ak P) b0).setCell ⟨P,1,none⟩ b1).heap[P]?=some (.cells #[b0,b1,a2] t (0,0)):=by rw[heap_setCell_same _ _ _ _ _ _ h1];rfl
 refine⟨by rw[heap_setCell_same _ _ _ _ _ _ h2];rfl,?_⟩;exact(((Za.refl (·=P) w).setCell (fun _=>rfl) _).setCell (fun _=>rfl) _).setCell (fun _=>rfl) _
theorem Zsg{n:Nat}(hn:n<=1048576)(hn2:n2<=1048576)(hh:lZ w){A:ByteArray->ByteArray->List Mt}{G:ByteArray->Prop}{gN:ByteArray->Nat}{R:ByteArray->ByteArray->ByteArray->Int->Bool×ByteArray×Nat}{Tv:Nat->ByteArray->Prop}
  (hdr:au 5 #[.slice ao n cap] w fun e w' =>∃s t:ByteArray,e=.returned (.tuple #[.string s,.string t])/\G s/\t.size<=14/\Za ai w w')
  (hsA:∀s t w,G s->t.size<=14->au 6 #[.string s,.string t] w (Ld (A s t) w))
  (CQ:∀s t w,G s->t.size<=14->au 12 #[.string s,.string t] w (Ld (A s t) w))
  (jV:∀s t x m w,G s->t.size<=14->x.size<=100->m<=1000->lZ w->au 7 #[.string s,.string t,.string x,.int .i64 m] w (Cf (R s t x m) w))
  (hsR:∀s t x m w,G s->t.size<=14->x.size<=100->m<=1000->au 11 #[.string s,.string t,.string x,.int .i64 m] w (Cf (R s t x m) w))
  (hrd:∀s w,G s->au 9 #[.string s] w fun e w' =>∃a b c,e=.returned (.agg #[.bool true,.int .i64 0,.int .i64 (gN s:Int),.slice a b c])/\gN s<=9/\Za ai w w')
  (CF:∀(g:Nat) w',Za ai w w'->g<=9->au 8 #[.slice qo n2 cap2,.int .i64 (g:Int)] w' fun e w2 =>∃x:ByteArray,e=.returned (.string x)/\x.size<=100/\Tv g x/\Za ai w' w2)
  (hwb:∀w',Za ai w w'->au 10 #[.slice qo n2 cap2,.int .i64 1] w' fun e w2 =>∃c:Nat,e=.returned (.int .i64 (c:Int))/\c<256/\Za ai w' w2)
  (h0:∀s t,G s->t.size<=14->R s t ⟨#[36,48]⟩ 1000=(true,t,(A s t).length))
  (h1:∀s t x (k:Nat),G s->t.size<=14->Tv (gN s) x->(R s t x (k:Int)).1=true/\(R s t x (k:Int)).2.2<=k)
  (h2:∀s t,G s->t.size<=14->(R s t ⟨#[]⟩ 1000).1=true/\(((R s t ⟨#[]⟩ 1000).2.1.size:Nat):Int)=nP (t.size:Int) (A s t))
  (h3:∀s t,(R s t ⟨#[36]⟩ 9).1=false) (h4:∀s t,(R s t ⟨#[]⟩ (-1)).1=false)
  (WS:∀s t,G s->t.size<=14->(A s t).length<=100/\∀m∈A s t,0<=m.fr/\m.fr<=m.up/\m.up<=14) :
  au 3 #[.slice ao n cap,.slice qo n2 cap2] w fun e w'=>e=.returned (.bool true)/\Za ai w w':=by
 have hnz:(n:Int)<=1048576:=by omega
 have xar:(n2:Int)<=1048576:=by omega
 have HsA:Hid _:=hsA;have HiA:Hid _:=CQ;have Es:Hid _:=jV;have HsR:Hid _:=hsR;have Hrd:Hid _:=hrd;have Hwi:Hid _:=CF;have Hwb:Hid _:=hwb;have H0:Hid _:=h0;have H1:Hid _:=h1;have H2:Hid _:=h2;have H3:Hid _:=h3;have H4:Hid _:=h4;have HAo:Hid _:=WS;clear hsA CQ jV hsR hrd CF hwb h0 h1 h2 h3 h4 WS;go_enter Tryz.func3,Tryz.ntmps3;go_upto_region 5 with(first|(go_at_call 5;refine hdr.mono ?_;clear hdr;rintro e w1 ⟨s,t,rfl,hs,ht,hk1⟩;have hsA:=HsA.out s t w1 hs ht)|(go_at_call 6;refine hsA.mono ?_;clear hsA;rintro e w2 ⟨a2,n2',c2,L2,rfl,hL2,hM2,hk2⟩))
 have hK2:=hk1.trans hk2;have OD:n2'=(A s t).length:=by
  obtain⟨a',c',hv⟩:=aj hM2.row
  cases hv
  rw[<- hL2,List.length_map]
 clear hM2 hL2 hk1 hk2 HsA;subst OD;have jV:=Es.out s t ⟨#[36,48]⟩ 1000 w2 hs ht (by decide) (by omega) (hh.keeps hK2 id);rw[H0.out s t hs ht] at jV;obtain⟨hlA,V8⟩:=HAo.out s t hs ht;obtain⟨NA,KR⟩:∃NA,(A s t).length=NA:=⟨_,rfl⟩;rw[KR] at jV hlA ⊢;unfold Cf at jV;go_upto_region 6 with(go_at_call 7;refine jV.mono ?_;clear jV;rintro e w3 ⟨rfl,hk3⟩);have kA:Za ai w (w3.alloc (.cells #[.bool true,.string t,.int .i64 (NA:Int)] 28)):=(hK2.trans hk3).alloc _;have b3:=heap_alloc_new w3 (.cells #[.bool true,.string t,.int .i64 (NA:Int)] 28);clear hk3 hK2;generalize w3.alloc (.cells #[.bool true,.string t,.int .i64 (NA:Int)] 28)=w4 at kA b3 ⊢;generalize w3.heap.size=P8 at b3 ⊢;have c0:w4.cell? (ak P8)=some (.bool true):=by rw[Zc b3];rfl
 have c1:w4.cell? ⟨P8,1,none⟩=some (.string t):=by rw[Zc b3];rfl
 have c2:w4.cell? ⟨P8,2,none⟩=some (.int .i64 (NA:Int)):=by rw[Zc b3];rfl
 have hrd:=Hrd.out s w4 hs;have hfg:=Zso;clear b3;go_upto_region 10 with(first|(go_at_call 9;refine hrd.mono ?_;clear hrd;rintro e w5 ⟨ga,gb,gc,rfl,dH,hk5⟩;have kB:=kA.trans hk5;have CF:=Hwi.out (gN s) w5 kB dH)|(go_at_call 8;refine CF.mono ?_;clear CF;rintro e w6 ⟨x,rfl,hx,Wx,dN⟩;have kC:=kB.trans dN;have hwb:=Hwb.out w6 kC)|(go_at_call 10;refine hwb.mono ?_;clear hwb;rintro e w7 ⟨c,rfl,hc,iq⟩;have kD:=kC.trans iq))
 clear c0 c1 c2 hfg Hrd Hwi Hwb kA kB kC H0;obtain⟨k,hk4,hkz⟩:∃k:Nat,k<4/\(c:Int) % 4=(k:Int):=⟨c % 4,by omega,by omega⟩;rw[hkz];obtain⟨NL,NK⟩:=H1.out s t x k hs ht Wx;have jV:=Es.out s t x (k:Int) w7 hs ht hx (by omega) (hh.keeps kD id);have hsR:=fun w=>HsR.out s t x (k:Int) w hs ht hx (by omega);unfold Cf at jV hsR;clear hkz hc H1 HsR Wx;generalize R s t x (k:Int)=r at NL NK jV hsR;obtain⟨ok,y,m⟩:=r;simp only at NL NK jV hsR;subst NL;have hmk:(m:Int)<=(k:Int):=by omega
 go_upto_region 11 with(go_at_call 7;refine jV.mono ?_;clear jV;rintro e w8 ⟨rfl,vF⟩)
 have kE:Za ai w (w8.alloc (.cells #[.bool true,.string y,.int .i64 (m:Int)] 28)):=(kD.trans vF).alloc _;have b9:=heap_alloc_new w8 (.cells #[.bool true,.string y,.int .i64 (m:Int)] 28);have PO:w.heap.size<=w8.heap.size:=(kD.trans vF).size;clear vF kD;generalize w8.alloc (.cells #[.bool true,.string y,.int .i64 (m:Int)] 28)=w9 at kE b9 ⊢;generalize w8.heap.size=P9 at b9 PO ⊢;have Fw:=hsR w9.drew;have hne:=ZrQ true y (m:Int);have hS0:w9.drew.cell? (ak P9)=some (.bool true)/\w9.drew.cell? ⟨P9,1,none⟩=some (.string y)/\w9.drew.cell? ⟨P9,2,none⟩=some (.int .i64 (m:Int)):=⟨by rw[Zc (w:=w9.drew) b9];rfl,by rw[Zc (w:=w9.drew) b9];rfl,by rw[Zc (w:=w9.drew) b9];rfl⟩;have HC:Hid (∀wA,Za ai w9.drew wA->wA.heap[P9]?=some (.cells #[.bool true,.string y,.int .i64 (m:Int)] 28 (0,0))):=fun wA hA=>(hA.block P9 (lt_of_block (w:=w9.drew) b9) id).trans b9;clear b9 hsR;go_region_held3 (fun w'=>w'.cell? (ak P9)=some (.bool true)/\w'.cell? ⟨P9,1,none⟩=some (.string y)/\w'.cell? ⟨P9,2,none⟩=some (.int .i64 (m:Int))) (first | assumption | go_keep) (first |(go_at_call 11;refine Fw.mono ?_;rintro e wA ⟨rfl,iH⟩;have bA:=HC.out wA iH;have hSA:wA.cell? (ak P9)=some (.bool true)/\wA.cell? ⟨P9,1,none⟩=some (.string y)/\wA.cell? ⟨P9,2,none⟩=some (.int .i64 (m:Int)):=⟨by rw[Zc bA];rfl,by rw[Zc bA];rfl,by rw[Zc bA];rfl⟩));have kF:Za ai w wA:=(kE.drew).trans iH;rename_i hHd _;obtain⟨e1,e2⟩:=H2.out s t hs ht;have jV:=Es.out s t ⟨#[]⟩ 1000 wA hs ht (by decide) (by omega) (hh.keeps kF id);unfold Cf at jV;clear hSA hS0 HC Fw hne kE iH H2 NK;generalize R s t ⟨#[]⟩ 1000=r2 at e1 e2 jV;obtain⟨ok2,y2,m2⟩:=r2;simp only at e1 e2 jV;subst e1;go_upto_region 15 with(first|(go_at_call 7;refine jV.mono ?_;clear jV;rintro e wB ⟨rfl,hkB⟩;have bB:=(hkB.block P9 (lt_of_block bA) id).trans bA;have fB:∀i,wB.frozen? ⟨P9,i,none⟩=false:=fun i=>Zv bB;have g0:wB.cell? (ak P9)=some (.bool true):=(by rw[Zc bB];rfl);have g1:wB.cell? ⟨P9,1,none⟩=some (.string y):=(by rw[Zc bB];rfl);have g2:wB.cell? ⟨P9,2,none⟩=some (.int .i64 (m:Int)):=(by rw[Zc bB];rfl)))
 obtain⟨bC,kS⟩:=ZrF (.bool true) (.string y2) (.int .i64 (m2:Int)) bB;have kG:=(kF.trans hkB).trans' kS (fun i hi e=>by omega);clear kS bB fB g0 g1 g2 hkB kF bA;generalize (((wB.setCell (ak P9) (.bool true)).setCell ⟨P9,1,none⟩ (.string y2)).setCell ⟨P9,2,none⟩ (.int .i64 (m2:Int)))=wC at bC kG ⊢;have CQ:=HiA.out s t wC hs ht;unfold Ld at CQ;have htz:(t.size:Int)<=14:=by omega
 have HL:Hid ((y2.size:Int)=nP (t.size:Int) (A s t)):=e2;have HR3:Hid (∀(x:ByteArray) (mm:Int) (w':World),Za ai w w'->(x=⟨#[36]⟩/\mm=9)\/(x=⟨#[]⟩/\mm = -1)->au 7 #[.string s,.string t,.string x,.int .i64 mm] w' fun e w2 =>∃(y:ByteArray) (n:Nat),e=.returned (.agg #[.bool false,.string y,.int .i64 (n:Int)])/\Za ai w' w2):=by
  rintro x mm w' k' (⟨rfl,rfl⟩ | ⟨rfl,rfl⟩)
  ·have h:=Es.out s t ⟨#[36]⟩ 9 w' hs ht (by decide) (by omega) (hh.keeps k' id);have h3:=H3.out s t;unfold Cf at h;rw[h3] at h;exact h.mono (fun e w2 hx=>⟨_,_,hx.1,hx.2⟩)
  ·have h:=Es.out s t ⟨#[]⟩ (-1) w' hs ht (by decide) (by omega) (hh.keeps k' id);have h3:=H4.out s t;unfold Cf at h;rw[h3] at h;exact h.mono (fun e w2 hx=>⟨_,_,hx.1,hx.2⟩)
 clear HiA Es H3 H4 e2 HAo;go_wp2_with(first|(go_at_call 12;refine CQ.mono ?_;clear CQ;rintro e wD ⟨aD,nD,cD,L,rfl,hL,PX,OT⟩;obtain⟨aD',cD',hvD⟩:=aj PX.row;cases hvD;have KS:L.length=NA:=(by rw[<- KR,<- hL,List.length_map])))
 have kH:=kG.trans OT;have bD:=(OT.block P9 (lt_of_block bC) id).trans bC
 try rw[KS]
 have U7:Hid (kg wD (.slice aD NA cD) L):=(by rw[<- KS];exact PX);have Nf:Hid (L.length=NA):=KS;have HLA:Hid (L.map (·.1)=A s t):=hL;have UM:Hid _:=V8;have M7:Hid ((A s t).length=NA):=KR;clear PX KS hL V8 KR OT bC kG;have hNz:(NA:Int)<=100:=by omega
 go_loopg [12,90] (NA+1) (fun gl s12 s90 wr =>∃(j:Nat) (z:Int),j+gl=NA+1/\j<=NA/\s12=.int .i64 z/\Hid (z=nP (t.size:Int) ((A s t).take j))/\-2000<=z/\z<=14/\s90=.int .i64 (j:Int)/\Hid (Za ai wD wr))
 case atStart=>exact⟨0,(t.size:Int),by omega,by omega,rfl,(by show _ = _;simp[nP]),by omega,htz,rfl,Za.refl _ _⟩
 case round =>
  obtain⟨j,z,hgl,hj,rfl,HZ,hz1,hz2,rfl,HK⟩:=hrel;have HG:Hid (j+gk=NA+1):=hgl;clear hgl
  by_cases hlt:j<NA
  ·have hjz:(j:Int)<(NA:Int):=by omega
   have KG:j<L.length:=by have:=Nf.out;omega
   obtain⟨gD,rfl⟩:∃g,aD=some ⟨g,0,none⟩:=by
    have h1:=U7.out.row;rw[Nf.out] at h1;obtain⟨n0,rfl⟩:∃n0,NA=n0+1:=⟨NA-1,by omega⟩;obtain⟨g,cp,hv,-⟩:=ZM h1
    cases hv
    exact⟨g,rfl⟩
   have hM1:kg wD (.slice (some ⟨gD,0,none⟩) L.length cD) L:=by rw[Nf.out];exact U7.out
   obtain⟨q0,q1,q2,q3⟩:=hM1.uK KG;have p0:=MQ q0 HK.out;have p1:=MQ q1 HK.out;have p2:=MQ q2 HK.out;have p3:=MQ q3 HK.out;obtain⟨ax,cx,hxv⟩:=aj (hM1.rows L[j] (List.getElem_mem KG));rw[hxv] at p3;have KH:j<(A s t).length:=by rw[M7.out];exact hlt
   have V7:(L[j]).1=(A s t)[j]:=by
    have h1:(L.map (·.1))[j]?=(A s t)[j]?:=by rw[HLA.out]
    rw[List.getElem?_map,List.getElem?_eq_getElem KG,List.getElem?_eq_getElem KH] at h1;simpa using h1
   have OE:=UM.out (A s t)[j] (List.getElem_mem KH);rw[V7] at p0 p1 p2 p3;have HZ2:Hid (nP (t.size:Int) ((A s t).take (j+1))=z-((A s t)[j].up-(A s t)[j].fr)):=(by show _ = _;rw[List.take_succ_eq_append_getElem KH,ZiT,<- HZ.out]);have hzb:=ZtM (t.size:Int) ((A s t).take (j+1)) (fun x hx=>UM.out x (List.mem_of_mem_take hx));rw[HZ2.out,List.length_take] at hzb;generalize (A s t)[j]=mm at p0 p1 p2 p3 OE HZ2 hzb;obtain⟨i1,i2,i3⟩:=OE;have hzc : -2000<=z-(mm.up-mm.fr)/\z-(mm.up-mm.fr)<=14:=by
    have h8:min (j+1) (A s t).length<=100:=by have:=M7.out;omega
    omega
   obtain⟨hz3,Oe⟩:=hzc;clear hzb V7 hxv q0 q1 q2 q3 hM1 KG KH;have kL:Za ai wr (wr.alloc (.cells #[.bool mm.ok,.int .i64 mm.fr,.int .i64 mm.up,.slice ax mm.gs.length cx] 38)):=QT;have HK2:Hid (Za ai wD (wr.alloc (.cells #[.bool mm.ok,.int .i64 mm.fr,.int .i64 mm.up,.slice ax mm.gs.length cx] 38))):=HK.out.trans kL;clear kL;go_wp2_with fail;go_roundg (gk-1)
   case measure=>have:=HG.out;omega
   case rel=>exact⟨j+1,z-(mm.up-mm.fr),by have:=HG.out;omega,by omega,rfl,HZ2.out.symm,hz3,Oe,congrArg (Value.int .i64) (by omega),HK2⟩
  ·obtain rfl:j=NA:=by omega
   have Oc:z=(y2.size:Int):=by
    rw[HL.out,HZ.out,List.take_of_length_le (by have:=M7.out;omega)]
   have kJ:=kH.trans HK.out;have bE:=(HK.out.block P9 (lt_of_block bD) id).trans bD;have g0:wr.cell? (ak P9)=some (.bool true):=by rw[Zc bE];rfl
   have g1:wr.cell? ⟨P9,1,none⟩=some (.string y2):=by rw[Zc bE];rfl
   have hfo:=Zt0 false;subst Oc;clear HZ HL U7 Nf HLA UM M7 bD bE kH HK hlt;go_wp2_with(first|(go_at_call 7;refine Calls.mono (HR3.out _ _ _ (by assumption) (by first | exact Or.inl ⟨rfl,rfl⟩ | exact Or.inr ⟨rfl,rfl⟩)) ?_;rintro e wZ ⟨yZ,nZ,rfl,We⟩;replace kJ:=kJ.trans We;clear We))
   go_ret;exact⟨rfl,kJ⟩
inductive Tw (g:Nat):List Nat->Prop
 | nil:Tw g []
 | x {l:List Nat}:Tw g l->Tw g (120::l)
 | d {l:List Nat}:Tw g l->Tw g (36::36::l)
 | n {k:Nat} {l:List Nat}:k<=g->Tw g l->Tw g (36::(48+k)::l)
theorem Tw.app{a b:List Nat}(h:Tw g a)(hb:Tw g b):Tw g (a++b):=by
 induction h with
 | nil=>exact hb
 | x _ ih=>exact .x ih
 | d _ ih=>exact .d ih
 | n hk _ ih=>exact .n hk ih
theorem H9{l:List Nat}(h:(bl s).drop p=c::l):p<s.size/\bt s p=c/\(bl s).drop (p+1)=l:=by
 have h1:(bl s)[p]?=some c:=by rw[<- List.head?_drop,h];rfl
 have h2:p<(bl s).length:=by
  apply Decidable.byContradiction;intro hn;rw[List.getElem?_eq_none (by omega)] at h1
  cases h1
 have h3:p<s.size:=by rw[BK] at h2;exact h2
 refine⟨h3,?_,?_⟩
 ·unfold bt;rw[dif_pos h3];have h4:(bl s)[p]?=some (s[p].toNat):=by
   unfold bl;rw[List.getElem?_map,Array.getElem?_toList,Array.getElem?_eq_getElem h3];rfl
  rw[h4] at h1;exact Option.some.inj h1
 ·rw[<- List.tail_drop,h];rfl
theorem XC{g:Int}(hg : -1<=g){acc:List Bt}(h:∀x∈acc,x.1<=g):∀x∈jn acc t,x.1<=g:=by
 rcases List.eq_nil_or_concat acc with rfl | ⟨A,x,rfl⟩
 ·rw[Sq];intro x hx;simp at hx;subst hx;exact hg
 ·obtain⟨k,y⟩:=x;rw[List.concat_eq_append] at h ⊢
  by_cases hk:k = -1
  ·subst hk;rw[Ir];intro x hx
   rcases List.mem_append.1 hx with hx | hx
   ·exact h x (List.mem_append_left _ hx)
   ·simp at hx;subst hx;exact hg
  ·rw[Iw _ _ _ hk];intro x hx
   rcases List.mem_append.1 hx with hx | hx
   ·exact h x hx
   ·simp at hx;subst hx;exact hg
theorem Zry(hg:g<=9){l:List Nat}(h:Tw g l):∀(f p:Nat) (acc:List Bt),(bl s).drop p=l->l.length<f->(∀x∈acc,x.1<=(g:Int))->∃L,gI s f p acc=.ok L/\∀x∈L,x.1<=(g:Int):=by
 induction h with
 | nil =>
   intro f p acc hd hf ha;have hp:¬p<s.size:=by
    intro hp;have h2:=congrArg List.length hd;rw[List.length_drop,BK] at h2;simp at h2;omega
   obtain⟨f,rfl⟩:∃f',f=f'+1:=⟨f-1,by omega⟩;simp only[gI];rw[if_pos hp];exact⟨acc,rfl,ha⟩
 | x _ ih =>
   intro f p acc hd hf ha;obtain⟨h1,h2,h3⟩:=H9 hd;obtain⟨f,rfl⟩:∃f',f=f'+1:=⟨f-1,by omega⟩;simp only[gI];rw[if_neg (by omega),if_neg (by omega)];exact ih f (p+1) _ h3 (by simp at hf;omega) (XC (by omega) ha)
 | d _ ih =>
   intro f p acc hd hf ha;obtain⟨h1,h2,h3⟩:=H9 hd;obtain⟨h4,h5,h6⟩:=H9 h3;obtain⟨f,rfl⟩:∃f',f=f'+1:=⟨f-1,by omega⟩;simp only[gI];rw[if_neg (by omega),if_pos h2,if_pos h5];exact ih f (p+2) _ h6 (by simp at hf;omega) (XC (by omega) ha)
 | n hk _ ih =>
   intro f p acc hd hf ha;obtain⟨h1,h2,h3⟩:=H9 hd;obtain⟨h4,h5,h6⟩:=H9 h3;obtain⟨f,rfl⟩:∃f',f=f'+1:=⟨f-1,by omega⟩;simp only[gI];rw[if_neg (by omega),if_pos h2,if_neg (by omega),if_pos (by simp[ZI];omega)];refine ih f (p+2) _ h6 (by simp at hf;omega) (fun x hx=>?_)
   rcases List.mem_append.1 hx with hx | hx
   ·exact ha x hx
   ·simp at hx;subst hx;show ((bt s (p+1):Nat):Int)-48<=_;omega
theorem Ztj(hg:g<=9)(h:Tw g (bl s))(hs:s.size<=100):∃L,ZF s=.ok L/\∀x∈L,x.1<=(g:Int):=by
 unfold ZF;rw[if_neg (by omega)];exact Zry hg h _ 0 [] (by simp) (by rw[BK];omega) (by simp)
theorem Si{R:Nat}{z:Int}(hD:Dw w R ao cs cap p)(hl:cs.length<=1048576)(hp2:p<=1152921504606846975)(h1:1<=z)(h2:z<=200):
  au 24 #[ae R,.int .i64 z] w fun e w' =>∃k p':Nat,(k:Int)<z/\p'<=p+1/\e=.returned (.int .i64 (k:Int))/\Dw w' R ao cs cap p'/\Za (·=R) w w':=by
 by_cases hz:1<z
 ·refine(qy hD hl (by omega) hz h2).mono ?_;rintro e w' ⟨k,-,hk,rfl,hD',hk'⟩;exact⟨k,p+1,hk,Nat.le_refl _,rfl,hD',hk'⟩
 ·have hz1:z=1:=by omega
  subst hz1;go_enter Tryz.func24,Tryz.ntmps24;go_wp2;go_ret
  first | exact⟨0,p,by decide,by omega,rfl,hD,Za.refl _ _⟩ | exact⟨0,by decide,p,by omega,rfl,hD,Za.refl _ _⟩
theorem Zp5{k:Nat}(hk:k<=9):au 25 #[.int .i64 (k:Int)] w fun e w' =>∃x:ByteArray,e=.returned (.string x)/\bl x = [48+k]/\x.size=1/\Za ai w w':=by
 have hkz:(k:Int)<=9:=by omega
 have e1:(k:Int).tmod 10=(k:Int):=by rw[Int.tmod_eq_emod_of_nonneg (by omega)];omega
 have e2:(k:Int).tdiv 10=0:=by rw[Int.tdiv_eq_ediv_of_nonneg (by omega)];omega
 have hc:=fun n w=>nN.fI n w;have kA:∀o,Za ai w (w.alloc o):=fun o=>QT;have HB:Hid (bl (⟨#[48+UInt8.ofNat k]⟩++⟨#[]⟩) = [48+k]):=(by
  show bl _ = _;rw[Qp];simp[bl];omega)
 go_enter Tryz.func25,Tryz.ntmps25;go_wp2;go_loopg [0,3] 1 (fun gl s0 s3 wr=>gl=1/\s0=.int .i64 (k:Int)/\s3=.string ⟨#[]⟩/\wr=w)
 case atStart=>exact⟨rfl,rfl,rfl,rfl⟩
 case round =>
  obtain⟨hgl,rfl,rfl,rfl⟩:=hrel;go_wp2;go_ret;exact⟨_,rfl,HB.out,rfl,kA _⟩
theorem Zrs(hl:cs.length<=1048576)(hc:Dc w ao cs)(ha:∀a,ao=some a->a.block<w.heap.size)(hg:g<=9):
  au 8 #[.slice ao cs.length cap,.int .i64 (g:Int)] w fun e w' =>∃s:ByteArray,e=.returned (.string s)/\s.size<=100/\Tw g (bl s)/\Za ai w w':=by
 have kA:Za ai w (w.alloc (.cells #[.slice ao cs.length cap,.int .i64 0,.int .u64 0] 45)):=(Za.refl _ w).alloc _;have hD:Dw (w.alloc (.cells #[.slice ao cs.length cap,.int .i64 0,.int .u64 0] 45)) w.heap.size ao cs cap 0 :=
  ⟨heap_alloc_new w _,hc.keeps kA (fun a h=>⟨ha a h,fun h=>h⟩),fun a h=>⟨Nat.lt_of_lt_of_le (ha a h) kA.size,by have:=ha a h;omega⟩⟩
 have hgz:(g:Int)<=9:=by omega
 go_enter Tryz.func8,Tryz.ntmps8;go_upto_region 3 with fail;generalize (w.alloc (.cells #[.slice ao cs.length cap,.int .i64 0,.int .u64 0] 45))=w0 at kA hD ⊢;obtain⟨R,hR⟩:∃R,w.heap.size=R:=⟨_,rfl⟩;rw[hR] at hD ⊢;have HKW:Hid (∀wx,Za (·=R) w0 wx->Za ai w wx):=fun wx hx=>kA.trans' hx (fun i hi e=>by omega);clear kA hc ha;go_wp2_with(first|(go_at_call 24;refine(Si hD hl (by omega) (by omega) (by omega)).mono ?_;rintro e w1 ⟨k0,p0,hk0,hp0,rfl,hD1,hk1⟩))
 clear hD;go_loopg [6,7] (k0+1) (fun gl s6 s7 wr =>∃(k p1:Nat) (s:ByteArray),k+1=gl/\k<=4/\s6=.string s/\s7=.int .i64 (k:Int)/\s.size+2*k<=8/\p1+2*k<=20/\Hid (Tw g (bl s))/\Dw wr R ao cs cap p1/\Hid (Za (·=R) w0 wr))
 case atStart=>exact⟨k0,p0,⟨#[]⟩,rfl,by omega,rfl,rfl,by show 0+2*k0<=8;omega,by omega,Tw.nil,hD1,hk1⟩
 case round =>
  clear hD1 hk1;obtain⟨k,p1,s,hgl,hk4,rfl,rfl,hs,hp1,HT,hD,HK⟩:=hrel;have HG:Hid (k+1=gk):=hgl;clear hgl
  cases k with
  | zero =>
    go_wp2_with fail;go_ret;exact⟨s,rfl,by omega,HT.out,HKW.out _ HK.out⟩
  | succ k =>
    have hkz:(0:Int)<((k+1:Nat):Int):=by omega
    go_upto_region 8 with(first|(go_at_call 24;refine(Si hD hl (by omega) (by omega) (by omega)).mono ?_;rintro e w3 ⟨k1,p2,hk1,hp2,rfl,hD3,hk3⟩))
    have Vd:Hid (Za (·=R) w0 w3):=HK.out.trans hk3;clear hD hk3 HK;have hz1:¬9223372036854775807<s.size+1:=by omega
    have hz2:¬9223372036854775807<s.size+2:=by omega
    rcases(show k1=0\/k1=1\/k1=2 by omega) with rfl | rfl | rfl
    ·have HT2:Hid (Tw g (bl (s++⟨#[120]⟩))):=(by show Tw g _;rw[Qp];exact HT.out.app (.x .nil));go_wp2_with fail;go_roundg (gk-1)
     case measure=>have:=HG.out;omega
     case rel=>exact⟨k,p2,_,by have:=HG.out;omega,by omega,rfl,congrArg (Value.int .i64) (by omega),by rw[ByteArray.size_append];show s.size+1+2*k<=8;omega,by omega,HT2,hD3,Vd⟩
    ·have HT2:Hid (Tw g (bl (s++⟨#[36,36]⟩))):=(by show Tw g _;rw[Qp];exact HT.out.app (.d .nil));go_wp2_with fail;go_roundg (gk-1)
     case measure=>have:=HG.out;omega
     case rel=>exact⟨k,p2,_,by have:=HG.out;omega,by omega,rfl,congrArg (Value.int .i64) (by omega),by rw[ByteArray.size_append];show s.size+2+2*k<=8;omega,by omega,HT2,hD3,Vd⟩
    ·have HS:Hid (∀x:ByteArray,∀j:Nat,j<=g->bl x = [48+j]->x.size=1->Tw g (bl (s++(⟨#[36]⟩++x)))/\¬9223372036854775807<1+x.size/\¬9223372036854775807<s.size+(⟨#[36]⟩++x:ByteArray).size):=fun x j hj hx h1=>⟨by rw[Qp,Qp,hx];exact HT.out.app (.n hj .nil),by omega,by rw[ByteArray.size_append,h1];show ¬_<s.size+2;omega⟩;go_wp2_with(first|(go_at_call 24;refine(Si hD3 hl (by omega) (by omega) (by omega)).mono ?_;rintro e w4 ⟨k2,p3,hk2,hp3,rfl,hD4,OV⟩)|(go_at_call 25;refine(Zp5 (by omega)).mono ?_;rintro e w5 ⟨x,rfl,hbx,hx1,hk5⟩;obtain⟨t1,t2,t3⟩:=HS.out x k2 (by omega) hbx hx1))
     go_roundg (gk-1)
     case measure=>have:=HG.out;omega
     case rel=>exact⟨k,p3,_,by have:=HG.out;omega,by omega,rfl,congrArg (Value.int .i64) (by omega),by rw[ByteArray.size_append,ByteArray.size_append,hx1];show s.size+2+2*k<=8;omega,by omega,t1,hD4.same hk5,Vd.out.trans (OV.trans (hk5.mono (fun _ _ h=>h.elim)))⟩
theorem Ub(u:ByteArray){a:Nat}(h1:a<=b)(h2:b<=c):u.extract a b++u.extract b c=u.extract a c:=by
 apply ByteArray.ext;rw[ByteArray.data_append,ByteArray.data_extract,ByteArray.data_extract,ByteArray.data_extract,Array.extract_append_extract];rw[Nat.min_eq_left h1,Nat.max_eq_right h2]
theorem ZpP(u:ByteArray):u.extract 0 u.size=u:=by
 apply ByteArray.ext;rw[ByteArray.data_extract];exact Array.extract_size
theorem Zsp(u:ByteArray)(m:Mt)(x:ByteArray):JD u m [(0,x)]=u.extract m.fr.toNat m.up.toNat:=by
 simp[JD,JE]
theorem ZoP:∀(l:List Mt) (p:Nat),lU u.size p l->(l.foldl (kV u [(0,x)]) (u.extract 0 p,p)).1=u.extract 0 (l.foldl (kV u [(0,x)]) (u.extract 0 p,p)).2:=by
 intro l
 induction l with
 | nil=>intro p _;rfl
 | cons m l ih =>
   intro p h;obtain⟨h1,h2,h3⟩:=h;have i1:=h2.1;have i2:=h2.2.1;have e:kV u [(0,x)] (u.extract 0 p,p) m=(u.extract 0 m.up.toNat,m.up.toNat):=by
    unfold kV;rw[Zsp];simp only;rw[Ub u (Nat.zero_le _) (by omega),Ub u (Nat.zero_le _) (by omega)]
   simp only[List.foldl_cons];rw[e];exact ih _ h3
variable {l:List Mt}
theorem ZoN(h:lU u.size 0 l):vz u [(0,x)] l=u:=by
 have h1:=ZoP (x:=x) l 0 h;have e:u.extract 0 0=ByteArray.empty:=by
  apply ByteArray.ext;rw[ByteArray.data_extract];simp
 rw[e] at h1;have h2:=Ig (B := [(0,x)]) l 0 (ByteArray.empty,0) h (Nat.zero_le _);unfold vz cz;rw[h1,Ub u (Nat.zero_le _) h2,ZpP]
theorem ZoQ:∀(l:List Mt) (p:Nat) (o:ByteArray),lU u.size p l->p<=u.size->(((l.foldl (kV u []) (o,p)).1.size:Nat):Int)+((u.size:Int)-((l.foldl (kV u []) (o,p)).2:Int))=nP ((o.size:Int)+((u.size:Int)-(p:Int))) l:=by
 intro l
 induction l with
 | nil=>intro p o _ _;rfl
 | cons m l ih =>
   intro p o h hp;obtain⟨h1,h2,h3⟩:=h;have i1:=h2.1;have i2:=h2.2.1;have i3:=h2.2.2.1;have e:kV u [] (o,p) m=(o++u.extract p m.fr.toNat,m.up.toNat):=by
    unfold kV;simp[JD]
   have h4:=ih m.up.toNat (o++u.extract p m.fr.toNat) h3 (by omega);simp only[List.foldl_cons,nP] at h4 ⊢;rw[e,h4]
   congr 1
   rw[ByteArray.size_append,ByteArray.size_extract];omega
theorem ZoO(h:lU u.size 0 l):(((vz u [] l).size:Nat):Int)=nP (u.size:Int) l:=by
 have h1:=ZoQ l 0 ByteArray.empty h (Nat.zero_le _);have h2:=Ig (B := []) l 0 (ByteArray.empty,0) h (Nat.zero_le _);have e0:((ByteArray.empty.size:Nat):Int)+((u.size:Int)-((0:Nat):Int))=(u.size:Int):=by
  show ((0:Nat):Int)+_ = _;omega
 rw[e0] at h1;rw[<- h1];unfold vz cz;rw[ByteArray.size_append,ByteArray.size_extract];omega
theorem Xy:ZF ⟨#[]⟩=.ok []:=by kernel_rfl
theorem ZuN:ZF ⟨#[36,48]⟩=.ok [(0,⟨#[]⟩)]:=by kernel_rfl
theorem ZuM:ZF ⟨#[36]⟩=.error 1:=by kernel_rfl
theorem Ztg(hc:Dc w ao cs)(hn:cs.length<=1048576)(hi:i<=1):
  au 10 #[.slice ao cs.length cap,.int .i64 (i:Int)] w fun e w' =>∃x:Nat,e=.returned (.int .i64 (x:Int))/\x<256/\w'=w:=by
 obtain⟨h1,h2⟩:=hc
 by_cases h0:cs.length=0
 ·have hz:((cs.length:Int) == 0)=true:=by simp;exact List.eq_nil_of_length_eq_zero h0
  clear h0;go_enter Tryz.func10,Tryz.ntmps10;go_wp2_with fail;go_ret;exact⟨0,rfl,by omega,rfl⟩
 ·obtain⟨a,rfl,h3⟩:=h2 (by omega);have hlt:i % cs.length<cs.length:=Nat.mod_lt _ (by omega);have hx:cs[i % cs.length]?=some cs[i % cs.length]:=List.getElem?_eq_getElem hlt;have hxl:=h1 _ (List.getElem_mem hlt);have cx:=h3 _ _ hx;have hm:((i:Int)).tmod (cs.length:Int)=((i % cs.length:Nat):Int):=by rw[Int.tmod_eq_emod_of_nonneg (by omega)];simp
  have hz:((cs.length:Int) == 0)=false:=by simp;intro h;simp[h] at h0
  generalize cs[i % cs.length]=x at hx hxl cx;generalize i % cs.length=r at hlt hm cx;have hrz:(r:Int)<(cs.length:Int):=by omega
  have hw:IntKind.i64.wrap (x:Int)=(x:Int):=IntWalk.i64_in _ ⟨by omega,by omega⟩;clear h2 h3 hx h1;go_enter Tryz.func10,Tryz.ntmps10;go_wp2_with fail;go_ret;exact⟨x,rfl,hxl,rfl⟩
theorem Mq(h:xX pl s):∃g f,ZA s=.ok (g,f):=by
 obtain⟨h1,g',h2⟩:=h;obtain⟨f,hf⟩:=Zsw h2 h1;refine⟨9-g',f,?_⟩;unfold ZA;rw[if_neg (by omega),hf];simp
theorem ZcN(h:xX pl s)(ht:t.size<=14):wanted s t 0=true:=by
 obtain⟨g,f,hf⟩:=Mq h;unfold wanted;rw[hf];simp;omega
def BB (s:ByteArray):Nat:=match ZA s with
 | .ok gf=>gf.1
 | .error _=>0
theorem Ud(h:xX pl s)(ht:t.size<=14):∃ps,Ask s t=some (BB s,ps):=by
 obtain⟨g,f,hf⟩:=Mq h;have h1:=ZeG hf (ZcN h ht);unfold BB;rw[hf];exact h1
theorem ZoS{n:Nat}{L:List Mm}(h1:L.map (·.1)=l)(h2:w'.ownsRow w.heap.size 38 4 (.slice ao n c) L.length (L.flatMap Jx))(h3:Ch w.heap.size w' ai L)(h4:Za ai w w'):Ld l w (.returned (.slice ao n c)) w' :=
 ⟨ao,n,c,L,rfl,h1,⟨Zp h2 (fun _ _=>Nat.zero_le _),fun x hx=>Zp (h3.rows x hx).1 (fun _ _=>Nat.zero_le _)⟩,h4⟩
theorem ZlJ(h:xX false s):au 9 #[.string s] w fun e w' =>∃a b c,e=.returned (.agg #[.bool true,.int .i64 0,.int .i64 (BB s:Int),.slice a b c])/\BB s<=9/\Za ai w w':=by
 have h0:=ZcF s w (by have:=h.1;omega);obtain⟨g,f,hf⟩:=Mq h;obtain⟨-,dH,-,-⟩:=yo hf;have hg:BB s=g:=by unfold BB;rw[hf]
 unfold Jk at h0;rw[JY,hf] at h0;rw[hg];refine h0.mono ?_;rintro e w' ⟨v,L,rfl,hP,-,-,hk⟩;obtain⟨a,c,hv⟩:=aj hP.row;subst hv;exact⟨a,_,c,rfl,dH,hk⟩
theorem Uf(h:xX false s)(ht:t.size<=14):lU t.size 0 (Z1 s t)/\(Z1 s t).length<=100/\∀m∈Z1 s t,0<=m.fr/\m.fr<=m.up/\m.up<=14:=by
 have hw:=ZcN h ht;obtain⟨g,f,hf⟩:=Mq h;obtain⟨hfg,dH,-,-⟩:=yo hf;have hX:dh t.size 0 g (dx t [] f):=zi t ⟨f,hfg,rfl⟩;have hI:=LM hX dH (t.size+2) 0 (Nat.zero_le _);have hP:=Y6 hX dH (t.size+2) 0 (Nat.zero_le _);rw[<- Uv hw hf] at hI hP;refine⟨hI.1,by have:=hI.2.1;omega,fun m hm=>?_⟩;obtain⟨⟨i1,i2,i3,-⟩,-⟩:=hP m hm;exact⟨i1,i2,by omega⟩
theorem Zpk{cs2:List Nat}(hc:Dc w ao cs)(hb:∀a,ao=some a->a.block<w.heap.size)(hn:cs.length<=1048576)(hc2:Dc w qo cs2)(hb2:∀a,qo=some a->a.block<w.heap.size)(hn2:cs2.length<=1048576)(hh:lZ w):
  au 3 #[.slice ao cs.length cap,.slice qo cs2.length cap2] w fun e w'=>e=.returned (.bool true)/\Za ai w w':=by
 refine Zsg hn hn2 hh (A:=Z1) (G:=xX false) (gN:=BB) (R:=yf) (Tv:=fun g x=>g<=9/\x.size<=100/\Tw g (bl x)) (ZjB hn hc hb)
  (fun s t w hs ht=>ZoK (by have:=hs.1;omega) (by omega))
  (fun s t w hs ht=>ZpB.mono (by rintro e w' ⟨ao,n,c,L,rfl,h1,h2,h3,h4⟩;exact ZoS h1 h2 h3 h4))
  (fun s t x m w hs ht hx hm hh=>(Zpv (by omega) (by omega) hh).mono (fun e w' h=>⟨h.1,h.2⟩))
  (fun s t x m w hs ht hx hm=>(ZoE (by have:=hs.1;omega) (by omega) (by omega) (by omega)).mono (fun e w' h=>⟨h.1,h.2⟩))
  (fun s w hs=>ZlJ hs) ?_ ?_ ?_ ?_ ?_ ?_ ?_ ?_
 ·intro g w' k hg;have hc':Dc w' qo cs2:=hc2.keeps k (fun a h=>⟨hb2 a h,fun h=>h⟩);refine(Zrs hn2 hc' (fun a h=>Nat.lt_of_lt_of_le (hb2 a h) k.size) hg).mono ?_;rintro e w2 ⟨x,rfl,h1,h2,h3⟩;exact⟨x,rfl,h1,⟨hg,h1,h2⟩,h3⟩
 ·intro w' k;have hc':Dc w' qo cs2:=hc2.keeps k (fun a h=>⟨hb2 a h,fun h=>h⟩);refine(Ztg (i:=1) hc' hn2 (Nat.le_refl _)).mono ?_;rintro e w2 ⟨x,rfl,h1,rfl⟩;exact⟨x,rfl,h1,Za.refl _ _⟩
 ·intro s t hs ht;obtain⟨ps,ha⟩:=Ud hs ht;obtain⟨o1,o2,-⟩:=Uf hs ht;have e:(Z1 s t).take (1000:Int).toNat=Z1 s t:=List.take_of_length_le (by show _<=1000;omega);unfold yf;rw[ha,ZuN]
  dsimp only
  rw[if_pos ⟨by omega,fun b hb=>by simp at hb;subst hb;show (0:Int)<=_;omega⟩,e,ZoN o1]
 ·intro s t x k hs ht hT;obtain⟨ps,ha⟩:=Ud hs ht;obtain⟨L,hL,WJ⟩:=Ztj hT.1 hT.2.2 hT.2.1;unfold yf;rw[ha,hL]
  dsimp only
  rw[if_pos ⟨by omega,WJ⟩];refine⟨rfl,?_⟩;show ((Z1 s t).take ((k:Int)).toNat).length<=k;rw[List.length_take];omega
 ·intro s t hs ht;obtain⟨ps,ha⟩:=Ud hs ht;obtain⟨o1,o2,-⟩:=Uf hs ht;have e:(Z1 s t).take (1000:Int).toNat=Z1 s t:=List.take_of_length_le (by show _<=1000;omega);unfold yf;rw[ha,Xy]
  dsimp only
  rw[if_pos ⟨by omega,fun b hb=>by simp at hb⟩,e];exact⟨rfl,ZoO o1⟩
 ·intro s t;unfold yf;rw[ZuM]
  cases Ask s t <;> rfl
 ·intro s t;unfold yf;rw[Xy]
  cases Ask s t with
  | none=>rfl
  | some gp =>
    obtain⟨g,ps⟩:=gp
    dsimp only
    rw[if_neg (fun h=>by have:=h.1;omega)]
 ·intro s t hs ht;exact(Uf hs ht).2
end Go.Proofs.YtfkflljplohhcaaGreatDoor
namespace Go.Proofs.YtfkflljplohhcaaGreatDoor.fnReplace
open Go.ChangeShapes Go.WideShapes Go.ChangeAt Go.RowKit
open Go.ChangeMaps (open_string shut_string)
theorem own:ownKnob Tryz.prog.godebug=none:=by kernel_rfl
theorem laidOut:laidOutB Tryz.prog=true:=by kernel_rfl
theorem Bj:Tryz.prog.cellsOf 5=1:=by kernel_rfl
def Ar (W:World) (v:Value):Prop :=∃(ao:Option Addr) (cap:Nat) (cs:List Nat),v=.slice ao cs.length cap/\cs.length<=9223372036854775807/\Dc W ao cs/\∀a,ao=some a->a.block<W.heap.size
variable {W w w':World}{base b i cap cap2 n2 g p c:Nat}{v:Value}{t s u x:ByteArray}{ao qo:Option Addr}{cs:List Nat}{pl:Bool}
theorem AV{a:Addr}{e:TypeId}{n:Nat}(h:W.has Tryz.prog .any base a e n):a.block<W.heap.size:=by
 unfold World.has at h;apply Decidable.byContradiction;intro hn
 have:W.heap[a.block]?=none:=Array.getElem?_eq_none (by omega)
 simp[World.shape?,this] at h
theorem mq{H:Type}{enc:TypeId×Value->H}{d:DataW H}{p:List MemPlace}(hv:Value.okWide Tryz.prog W .any base 22 v)(h:DataW.Trod enc Tryz.prog W 0 (fun _=>true) true 22 v d p):Ar W v:=by
 obtain⟨fuel,hf⟩:=h;obtain⟨a0,len,cap,rfl⟩:=okWide_slice Tryz.underlying22 hv
 rcases open_ints Tryz.underlying22 Tryz.underlying5 Bj hf with⟨hcs,hx⟩ | ⟨a,len',cap',zs,hcs,_,hl,hm,hz,hx,hcell,hwz⟩
 ·simp[Value.cells] at hcs;obtain⟨rfl,rfl,rfl⟩:=hcs;exact⟨none,0,[],rfl,by simp,⟨by simp,by simp⟩,fun a h=>by cases h⟩
 ·simp[Value.cells] at hcs;obtain⟨rfl,rfl,rfl⟩:=hcs;simp only[if_true] at hz;have hw:∀n∈zs,0<=n/\n<256:=fun n hn=>by
   have:=hwz n hn
   simp only[Lit.wf,Bool.and_eq_true,decide_eq_true_eq] at this;have h1:IntKind.u8.min=0:=rfl;have h2:IntKind.u8.max=255:=rfl;omega
  have hlen:((zs.take len).map Int.toNat).length=len:=by simp;omega
  refine⟨some a,cap,(zs.take len).map Int.toNat,by rw[hlen],?_,⟨?_,fun _=>⟨a,rfl,fun i c hc=>?_⟩⟩,?_⟩
  ·rw[hlen];unfold maxLen at hm;omega
  ·intro c hc;obtain⟨n,hn,rfl⟩:=List.mem_map.1 hc
   have:=hw n (List.mem_of_mem_take hn)
   omega
  ·obtain⟨hi,_⟩:=List.getElem?_eq_some_iff.1 hc;have hi':i<len:=by rw[hlen] at hi;exact hi
   have hiz:i<zs.length:=by omega
   rw[hcell i hiz];have hm2:=hw _ (List.getElem_mem hiz);simp[hi',hiz] at hc;subst hc;simp[hiz];omega
  ·intro a' ha
   cases ha
   have h0:Cell.okWide Tryz.prog W .any base 22 (.slice (some a) len cap):=by
    simpa [Value.okWide,Tryz.underlying22] using hv
   have h1:Cell.ok Tryz.prog W .any base 22 (.slice (some a) len cap):=by
    simpa [Cell.okWide,Tryz.underlying22] using h0
   simp only[Cell.ok,Tryz.underlying22] at h1;exact AV h1.2.2
theorem wN{n:Nat}(h:1048576<n\/1048576<n2)(h1:n<=9223372036854775807)(h2:n2<=9223372036854775807):au 3 #[.slice ao n cap,.slice qo n2 cap2] w fun e w'=>e=.returned (.bool true)/\Za ai w w':=by
 by_cases hn:1048576<n
 ·have hz:(1048576:Int)<(n:Int):=by omega
  clear h;go_enter Tryz.func3,Tryz.ntmps3;go_wp2;go_ret;exact⟨rfl,Za.refl _ _⟩
 ·have hz:¬(1048576:Int)<(n:Int):=by omega
  have hz2:(1048576:Int)<(n2:Int):=by omega
  clear h;go_enter Tryz.func3,Tryz.ntmps3;go_wp2;go_ret;exact⟨rfl,Za.refl _ _⟩
theorem wO{v0 v1:Value}(a0:Ar W v0)(a1:Ar W v1)(hh:lZ W):au 3 #[v0,v1] W fun e w'=>e=.returned (.bool true)/\Za ai W w':=by
 obtain⟨ao,cap,cs,rfl,hlm,hc,hb⟩:=a0;obtain⟨qo,cap2,cs2,rfl,OO,hc2,hb2⟩:=a1
 by_cases h:1048576<cs.length\/1048576<cs2.length
 ·exact wN h hlm OO
 ·exact Zpk hc hb (by omega) hc2 hb2 (by omega) hh
theorem et: Tryz.prog.globalNamed "errors.errorType" = some 0 := by kernel_rfl
theorem rt: (Tryz.prog.cutTypes.find? (·.1 == "internal/reflectlite.rtype")).map (·.2) = some 190 := by kernel_rfl
theorem zR:((List.range 288).filter fun t=>Tryz.prog.rowNamed t [101,114,114,111,114]) = [90]:=by kernel_rfl
theorem size:Tryz.prog.types.size=288:=by kernel_rfl
theorem qP(h:laidMetH Tryz.prog Rows.fnReplaceRow.laid W):lZ W:=by
 have h':laidMet Tryz.prog [] W/\handlesMet Tryz.prog Rows.fnReplaceRow.laid W:=h;obtain⟨name,u,ty,e1,e2,e3,e4,e5⟩:=h'.2 _ (List.mem_singleton.2 rfl);have en:name = [101,114,114,111,114]:=(Option.some.inj e1).symm;subst en;obtain rfl:=Option.some.inj (rt.symm.trans e2);have hm:ty∈(List.range 288).filter fun t=>Tryz.prog.rowNamed t [101,114,114,111,114]:=List.mem_filter.2 ⟨List.mem_range.2 (by rw[<- size];exact e3),e4⟩;rw[zR] at hm;obtain rfl:=List.mem_singleton.1 hm;have hh:typeHandle Tryz.prog 90=.pointer (some ⟨1,90,none⟩):=by kernel_rfl
 rw[hh] at e5;unfold lZ;simpa using World.var?_cell et e5 0
noncomputable def jQ (os:Os):World :=
 let w0:=World.holding Tryz.prog os ⟨#[],#[],[]⟩
 { w0 with heap:=w0.heap.modify 0 fun
   | .cells _ t frozen => .cells #[.iface 190 (.agg #[.pointer (some ⟨1,90,none⟩)])] t frozen
   | o=>o }
theorem jI(os:Os)(args:Array Value):laidMetH Tryz.prog Rows.fnReplaceRow.laid ((jQ os).forCall (fun _ _=>0) ⟨#[],args,[]⟩).memory :=
 laidMetH_of_parts (laidMet_nil _ _) (by kernel_rfl)
theorem lifted(os:Os)(started:os.Started)(H:Type)(enc:TypeId×Value->H):
  ReturnsInHanded {} Tryz.checked os 3 .any (fun w args=>(Rows.fnReplaceSpec.pre enc Tryz.prog Tryz.f3 [] false w args/\laidMetH Tryz.prog Rows.fnReplaceRow.laid w)/\sizedMet enc Tryz.prog Tryz.f3 (OpenSpec.ofChange Rows.fnReplaceSpec) false w args)
   (Rows.fnReplaceSpec.post enc Tryz.prog Tryz.f3 false true false false):=by
 refine returnsInHanded_of_change_and (C:=Tryz.checked) (X:=fun w _=>laidMetH Tryz.prog Rows.fnReplaceRow.laid w) (fun _ _ _ hh h=>h.of_heap hh) own started (by kernel_rfl) Tryz.func3
  (ChangeSpec.witness_at (enc:=enc) (C:=Tryz.checked) (os:=os) (X:=fun w _=>laidMetH Tryz.prog Rows.fnReplaceRow.laid w) false (jQ os) #[.slice none 0 0,.slice none 0 0] 8 rfl (by kernel_rfl) (by kernel_rfl) (by kernel_rfl) (by kernel_rfl) (by kernel_rfl) (jI os _)) ?_
 intro W base args ds gs before hval0 hW _ _ hL _;have hval:∀(j:Nat) t v,Tryz.f3.params[j]?=some t->args[j]?=some v->Value.okWide Tryz.prog W .any base t v:=hval0;have hW':=hW;obtain⟨p,q,WW,hV,rfl,hfz,hnd⟩:=hW;have hA:DataW.TrodAll enc Tryz.prog W 0 (fun _=>true) true Tryz.f3.params.toList args.toList ds p:=WW;rw[Tryz.params3] at hA hval;obtain⟨v0,v1,d0,d1,p0,p1,rfl,rfl,rfl,h0,h1⟩:=trodAll_two hA;obtain⟨rfl,rfl⟩:=trodVars_none hV;clear WW hval0;simp only[List.append_nil] at hW';have hlt:∀x∈p0++p1,x.block<W.heap.size:=fun x hx=>by simpa using hW'.lt x hx
 have a0:=mq (hval 0 22 v0 rfl rfl) h0;have a1:=mq (hval 1 22 v1 rfl rfl) h1;refine(wO a0 a1 (qP hL)).mono fun e W' ⟨he,hk⟩=>?_;subst he;have hn:Below W.heap.size W W':=hk.below _ (fun _ _ h=>h) (Nat.le_refl _);have t0:=Below.trod laidOut (by kernel_rfl) (of_decide_eq_true (by kernel_rfl)) h0 hn (fun x hx=>hlt x (List.mem_append_left _ hx));have t1:=Below.trod laidOut (by kernel_rfl) (of_decide_eq_true (by kernel_rfl)) h1 hn (fun x hx=>hlt x (List.mem_append_right _ hx));exact⟨_,rfl,_,_,_,[],_,[],hW',trodAll_mk1 (shut_bool Tryz.underlying4 _),trodAll_mk2 t0 t1,rfl,hn.frame _,fun h=>by cases h⟩
theorem over:Rows.fnReplaceRow.holds Tryz.pinned (OpenSpec.ofChange Rows.fnReplaceSpec) :=
 OpenClaim.holds_of_wide 3 Tryz.f3 rfl rfl rfl rfl rfl rfl rfl ⟨rfl,rfl,rfl,rfl,rfl⟩ rfl rfl rfl rfl rfl (by kernel_rfl) Tryz.func3 (by kernel_rfl)
  (of_decide_eq_true (by kernel_rfl)) (by unfold Func.isWrapper;first |(rw[if_pos (by decide +kernel)];kernel_rfl) |(rw[if_neg (by decide +kernel)];exact⟨rfl,rfl⟩))
  (fun os started H enc _=>lifted os started H enc)
end Go.Proofs.YtfkflljplohhcaaGreatDoor.fnReplace
namespace Go.Proofs.YtfkflljplohhcaaGreatDoor
open Go
theorem replace_holds:Rows.FnReplaceCardSaid :=
 Claim7.holds_tied_plain_at .later [] [.handle] true Rows.fnReplaceCard.stood.harness true fnReplace.over (fun _ h=>by cases h) (by kernel_rfl) (fun _ h=>by cases h) fnReplace_row_tie rfl ⟨rfl,rfl⟩ (by kernel_rfl) rfl
  (fun f fn hf hfn=>by
   obtain rfl:f=3:=Option.some.inj ((show Tryz.prog.funcNamed Rows.fnReplaceRow.func=some 3 by kernel_rfl).symm.trans hf) |>.symm;obtain rfl:fn=Tryz.f3:=(Option.some.inj (Tryz.func3.symm.trans hfn)).symm;exact⟨by kernel_rfl,fun j t ht=>by
    rw[Tryz.params3] at ht;have hm:t∈[22,22]:=by simpa using Array.mem_of_getElem? ht
    have hall:([22,22].all fun u => !Tryz.prog.wantsStandIn u)=true:=by kernel_rfl
    exact(show Tryz.prog.wantsStandIn t=false by simpa using List.all_eq_true.1 hall t hm)⟩)
  (by kernel_rfl)
#print axioms replace_holds
end Go.Proofs.YtfkflljplohhcaaGreatDoor
