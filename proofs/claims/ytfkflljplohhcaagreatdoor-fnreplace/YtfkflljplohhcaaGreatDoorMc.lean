import Derived.Test.YtfkflljplohhcaaGreatDoorMb
import Derived.Deep.RegionHeld3
set_option linter.unusedVariables false
set_option maxHeartbeats 8000000
set_option maxRecDepth 100000
namespace Go.Proofs.YtfkflljplohhcaaGreatDoor
open Go.RowKit
structure Fx (Z:Mz) (fv:Value) (F:En) (P1 P2:Nat) (p:Nat) (gv:Value) (ef:Ef) (x:Pm) (lw:Value) (w:World):Prop where
 f:Qw w Z.G fv F
 fn:∀b,fv.ownBlock=some b->lw.ownBlock≠some b
 b:Bk w P2 161 [.int .i64 (p:Int),gv]
 bn:lw.ownBlock≠some P2
 o:w.heap[P1]?=some (.cells #[.int .i64 x.1.kind,x.2.1,.int .i64 x.1.min,.int .i64 x.1.max,.bool x.1.lazy,.int .i64 x.1.num,x.2.2] 114 (0,0))
 ow:Jl w x
 g:gJ w Z.G gv ef
namespace Fx
variable {w0 w w':World}{Z:Mz}{S Ex:Nat->Prop}{Lb Sb Sk P1 P2 p:Nat}{lv fq fv gv:Value}{M F:En}{sn:Nat->Nat->Bool}{ef:Ef}{x:Pm}
theorem go(h:Fx Z fv F P1 P2 p gv ef x lv w)(s:Fs w0 Z S Ex Lb Sb Sk lv M sn w)(k:Fk Z Lb Sb Sk w lv w' fq):Fx Z fv F P1 P2 p gv ef x fq w' :=
 ⟨(s.sP k h.f h.fn).1,(s.sP k h.f h.fn).2,(s.mh k h.b h.bn).1,(s.mh k h.b h.bn).2,s.yH k h.o (by decide),⟨s.qa k h.ow.1 (by decide),s.qa k h.ow.2 (by decide)⟩,s.sO k h.g⟩
theorem c0(h:Fx Z fv F P1 P2 p gv ef x lv w):w.cell? (ak P2)=some (.int .i64 (p:Int)):=by rw[h.b.cell];rfl
theorem c1(h:Fx Z fv F P1 P2 p gv ef x lv w):w.cell? ⟨P2,1,none⟩=some gv:=by rw[h.b.cell];rfl
theorem x0(h:Fx Z fv F P1 P2 p gv ef x lv w):w.cell? (ak P1)=some (.int .i64 x.1.kind):=by rw[Zc h.o];rfl
theorem x1(h:Fx Z fv F P1 P2 p gv ef x lv w):w.cell? ⟨P1,1,none⟩=some x.2.1:=by rw[Zc h.o];rfl
theorem x2(h:Fx Z fv F P1 P2 p gv ef x lv w):w.cell? ⟨P1,2,none⟩=some (.int .i64 x.1.min):=by rw[Zc h.o];rfl
theorem x3(h:Fx Z fv F P1 P2 p gv ef x lv w):w.cell? ⟨P1,3,none⟩=some (.int .i64 x.1.max):=by rw[Zc h.o];rfl
theorem x4(h:Fx Z fv F P1 P2 p gv ef x lv w):w.cell? ⟨P1,4,none⟩=some (.bool x.1.lazy):=by rw[Zc h.o];rfl
theorem x5(h:Fx Z fv F P1 P2 p gv ef x lv w):w.cell? ⟨P1,5,none⟩=some (.int .i64 x.1.num):=by rw[Zc h.o];rfl
theorem x6(h:Fx Z fv F P1 P2 p gv ef x lv w):w.cell? ⟨P1,6,none⟩=some x.2.2:=by rw[Zc h.o];rfl
theorem same(h:Fx Z fv F P1 P2 p gv ef x lv w)(k:Za ai w w'):Fx Z fv F P1 P2 p gv ef x lv w' :=
 ⟨h.f.same k,h.fn,h.b.keeps k id,h.bn,by rw[k.block P1 (lt_of_block h.o) id];exact h.o,h.ow.same k,h.g.same k⟩
end Fx
def vR (N:Nat) (X:Xs) (lz:Bool) (sn qA:Nat->Nat->Bool) (M:En):Prop :=∀q lf,q<=N->qA q lf=true->sn q lf=true\/∀e∈fu N X lz lf q,bI bq M e.1=true
def Sz (w0:World) (Z:Mz) (S Ex:Nat->Prop) (Lb Sb Sk:Nat) (lv:Value) (M:En) (sn:Nat->Nat->Bool) (X:Xs) (lz:Bool) (p left:Nat) (ef:Ef) (w:World) (e:Ending) (w':World):Prop :=
 e=.returned (.tuple #[])/\∃(fq:Value) (qA:Nat->Nat->Bool),Fs w0 Z S Ex Lb Sb Sk fq (Qx M (aY (p,ef) (fu Z.u.size X lz left p))) qA w'/\vR Z.u.size X lz sn qA (Qx M (aY (p,ef) (fu Z.u.size X lz left p)))/\Fk Z Lb Sb Sk w lv w' fq
def H7 (w0:World) (Z:Mz) (S Ex:Nat->Prop) (Lb Sb Sk:Nat) (x:Pm) (i n:Nat):Prop :=∀(w:World) (lv:Value) (M:En) (sn:Nat->Nat->Bool) (p left:Nat) (gv:Value) (ef:Ef),
 Fs w0 Z S Ex Lb Sb Sk lv M sn w->Jl w x->gJ w Z.G gv ef->p<=Z.u.size->Z.u.size<p+n->left<=51->ve Z.u.size (Z.X i) x.1.lazy sn M p->
 au 131 #[.pointer (some ⟨Z.R,0,none⟩),.agg #[.int .i64 x.1.kind,x.2.1,.int .i64 x.1.min,.int .i64 x.1.max,.bool x.1.lazy,.int .i64 x.1.num,x.2.2],.agg #[.int .i64 (p:Int),gv],.int .i64 (left:Int),.slice (some ⟨Sk,0,none⟩) ((Z.u.size+1)*52) ((Z.u.size+1)*52),ae Lb] w
  (Sz w0 Z S Ex Lb Sb Sk lv M sn (Z.X i) x.1.lazy p left ef w)
def XH (w0:World) (Z:Mz) (S Ex:Nat->Prop) (Lb Sb Sk:Nat) (P1 P2 p:Nat) (gv:Value) (ef:Ef) (x:Pm) (lv:Value) (w:World) (Mx:En) (sn:Nat->Nat->Bool) (C:(Nat->Nat->Bool)->Prop) (wc:World):Prop :=
 ∃(lw:Value) (qA:Nat->Nat->Bool),Fs w0 Z S Ex Lb Sb Sk lw Mx qA wc/\C qA/\Fk Z Lb Sb Sk w lv wc lw/\Fx Z (.slice none 0 0) [] P1 P2 p gv ef x lw wc
def Zvn (w0:World) (Z:Mz) (S Ex:Nat->Prop) (Lb Sb Sk:Nat) (P1 P2 p:Nat) (gv:Value) (ef:Ef) (x:Pm) (lv:Value) (w:World) (lw:Value) (Mx:En) (sn:Nat->Nat->Bool) (F:En) (NC NB EO:Value) (wc:World):Prop :=
 ∃(af:Option Addr) (cf:Nat),NC=.slice af F.length cf/\NB=.int .i64 (F.length:Int)/\EO=.int .i64 0/\Fs w0 Z S Ex Lb Sb Sk lw Mx sn wc/\Fk Z Lb Sb Sk w lv wc lw/\Fx Z (.slice af F.length cf) F P1 P2 p gv ef x lw wc
variable {sn qA:Nat->Nat->Bool}{p N Lb Sk i:Nat}{lz:Bool}{w0 w w':World}{lv:Value}
theorem Zf3{l q lf:Nat}(h:rP sn p l q lf=true):sn q lf=true\/(q=p/\lf=l):=by
 unfold rP at h;simp only[Bool.or_eq_true,Bool.and_eq_true,beq_iff_eq] at h;exact h
variable {M M1:En}{ef:Ef}
theorem Znm{X:Xs}{left:Nat}(h:ve N X lz sn M p)(h1:(if lz then Qx M [(p,ef)] else M)=M1):ve N X lz (rP sn p left) M1 (p+1):=by
 intro q lf hq hN hs e he
 rcases Zf3 hs with hs | ⟨hs,_⟩
 ·have h2:=h q lf (by omega) hN hs e he;rw[<- h1]
  split
  ·exact IM _ _ _ h2
  ·exact h2
 ·omega
variable {L:En}
theorem Zjd{X:Xs}(h:ve N X lz sn M p)(hn:vR N X lz sn qA (Qx M L)):Hid (ve N X lz qA (Qx M L) p):=by
 show ve _ _ _ _ _ _;intro q lf hq hN hs e he
 rcases hn q lf hN hs with h1 | h1
 ·exact IM _ _ _ (h q lf hq hN h1 e he)
 ·exact h1 e he
theorem ZjY{X:Xs}{s0:Nat->Nat->Bool}(h:vR N X lz s0 sn M)(hn:vR N X lz sn qA (Qx M L)):Hid (vR N X lz s0 qA (Qx M L)):=by
 show vR _ _ _ _ _ _;intro q lf hq hs
 rcases hn q lf hq hs with h1 | h1
 ·rcases h q lf hq h1 with h2 | h2
  ·exact Or.inl h2
  ·exact Or.inr fun e he=>IM _ _ _ (h2 e he)
 ·exact Or.inr h1
variable {M2:En}
theorem ZpI{X:Xs}(hX:iE N X){left:Nat}(hp:p<=N)(h1:(if lz then Qx M [(p,ef)] else M)=M1)(h2:Qx M1 (aY (p,ef) (rG N X lz left p))=M2):Qx M2 [(p,ef)]=Qx M (aY (p,ef) (fu N X lz left p)):=by
 rw[ZuZ hX lz left p hp]
 cases lz with
 | true =>
   simp only[if_true] at h1 ⊢;have e:aY (p,ef) ((p,dG)::rG N X true left p) = [(p,ef)]++aY (p,ef) (rG N X true left p):=by simp[aY,SL]
   rw[e,Qv,h1,h2];refine LY _ _ (fun y hy=>?_);simp at hy;subst hy;rw[<- h2,<- h1];exact IM _ _ _ (Y3 M [(p,ef)] (p,ef) (by simp))
 | false =>
   simp only[Bool.false_eq_true,if_false] at h1 ⊢;have e:aY (p,ef) (rG N X false left p++[(p,dG)])=aY (p,ef) (rG N X false left p)++[(p,ef)]:=by simp[aY,SL]
   rw[e,Qv,h1,h2]
variable {Z:Mz}{S:Nat->Prop}
theorem Zsm{wd:World}{Ex:Nat->Prop}{Sb:Nat}{l3:Value}{Kw:Nat->Nat->Bool}{X:Xs}{left:Nat}(hX:iE Z.u.size X)(hp:p<=Z.u.size)(h1:(if lz then Qx M [(p,ef)] else M)=M1)(h2:Qx M1 (aY (p,ef) (rG Z.u.size X lz left p))=M2)
  (hs:Fs w0 Z S Ex Lb Sb Sk l3 (Qx M2 [(p,ef)]) Kw wd) (hn:vR Z.u.size X lz (rP sn p left) Kw M2) (hf:Fk Z Lb Sb Sk w lv wd l3):Sz w0 Z S Ex Lb Sb Sk lv M sn X lz p left ef w (.returned (.tuple #[])) wd:=by
 have e:=ZpI hX hp h1 h2;rw[e] at hs;refine⟨rfl,l3,Kw,hs,?_,hf⟩;intro q lf hq h
 rcases hn q lf hq h with h3 | h3
 ·rcases Zf3 h3 with h4 | ⟨rfl,rfl⟩
  ·exact Or.inl h4
  ·refine Or.inr (fun y hy=>?_);obtain⟨z,hz,Oc⟩:=XV (f:=(q,ef)) hy;rw[<- Oc];exact Y3 _ _ z hz
 ·refine Or.inr (fun y hy=>?_);rw[<- e];exact IM _ _ _ (h3 y hy)
theorem ZgA{Ex:Nat->Prop}{Sb:Nat}{x:Pm}{n:Nat}(hZ:Ms Z)(hE:uT Z i)(hF:zo Z S (i+1))(dW:dh Z.u.size 0 Z.G (Z.X i))(hk:x.1.kids = [(i:Int)])(ih:H7 w0 Z S Ex Lb Sb Sk x i n):H7 w0 Z S Ex Lb Sb Sk x i (n+1):=by
 intro w lv M sn p left gv ef hs how hgr hp hn hl hC;have hu:=hZ.iF;obtain⟨ag,cg,hgv⟩:=aj hgr;subst hgv;obtain⟨bR,cs1,he1⟩:=aj how.1;obtain⟨dJ,cs2,he2⟩:=aj how.2;obtain⟨⟨ck,aI,cm,cx,lz,cn,aZ⟩,sv,kv⟩:=x;simp only at he1 he2 hk hC ih how ⊢;subst hk;subst he1 he2;simp only[List.length_singleton] at how ih ⊢;obtain⟨m,hm⟩:∃m,(Z.u.size+1)*52=m:=⟨_,rfl⟩;have hmb:m<=201*52:=by rw[<- hm];exact Nat.mul_le_mul_right _ (by omega)
 have hkb:p*52+left<m:=by rw[<- hm];omega
 have HM:Hid ((Z.u.size+1)*52=m):=hm;rw[hm];clear hm;have HC:Hid (ve Z.u.size (Z.X i) lz sn M p):=hC;clear hC;unfold H7 at ih;simp only[HM.out] at ih;go_enter Tryz.func131,Tryz.ntmps131;go_upto_region 1 with fail;have kA:Za ai w ((w.alloc (.cells #[.int .i64 ck,.slice bR aI.length cs1,.int .i64 cm,.int .i64 cx,.bool lz,.int .i64 cn,.slice dJ 1 cs2] 114)).alloc (.cells #[.int .i64 (p:Int),.slice ag Z.G cg] 161)):=((Za.refl _ _).alloc _).alloc _;have hx1:Fx Z (.slice none 0 0) [] w.heap.size (w.heap.size+1) p (.slice ag Z.G cg) ef ({ kind:=ck,set:=aI,min:=cm,max:=cx,lazy:=lz,num:=cn,kids := [(i:Int)] },.slice bR aI.length cs1,.slice dJ 1 cs2) lv ((w.alloc (.cells #[.int .i64 ck,.slice bR aI.length cs1,.int .i64 cm,.int .i64 cx,.bool lz,.int .i64 cn,.slice dJ 1 cs2] 114)).alloc (.cells #[.int .i64 (p:Int),.slice ag Z.G cg] 161)) :=
  ⟨Ua _ _,fun b h=>by simp[Value.ownBlock] at h,gH w _ _,fun h=>by
   obtain⟨gv,q,_⟩:=hs.wk.ll.ends
   have:=(q.lt _ h).2
   omega,fU w _ _,how.same kA,hgr.same kA⟩
 have hs1:=hs.same kA;have hf1:Fk Z Lb Sb Sk w lv _ lv:=(Fk.refl w lv).same kA;generalize ((w.alloc (.cells #[.int .i64 ck,.slice bR aI.length cs1,.int .i64 cm,.int .i64 cx,.bool lz,.int .i64 cn,.slice dJ 1 cs2] 114)).alloc (.cells #[.int .i64 (p:Int),.slice ag Z.G cg] 161))=wa at kA hx1 hs1 hf1 ⊢;generalize w.heap.size+1=P2 at hx1 ⊢;generalize w.heap.size=P1 at hx1 ⊢;clear hs how hgr kA;have c0:=hx1.c0;have c1:=hx1.c1;have x4:=hx1.x4;have x6:=hx1.x6;simp only at x4 x6;have hkz:(p:Int)*52+(left:Int)<(m:Int):=by omega
 have f0:=hs1.fl.cell (p*52+left);rw[HM.out,BP _ _ _ hkb,Ztq _ _ _ (by omega)] at f0;have f1:=hs1.fl.fz (p*52+left)
 cases hsn:sn p left with
 | true =>
   rw[hsn] at f0;have hfin:Sz w0 Z S Ex Lb Sb Sk lv M sn (Z.X i) lz p left ef w (.returned (.tuple #[])) wa:=by
    have e:Qx M (aY (p,ef) (fu Z.u.size (Z.X i) lz left p))=M:=LY M _ (fun y hy=>by
     obtain⟨b,hb,hyb⟩:=Yn hy;rw[hyb];exact HC.out p left (Nat.le_refl _) hp hsn b hb)
    refine⟨rfl,lv,sn,?_,?_,hf1⟩
    ·rw[e];exact hs1
    ·exact fun q lf _ h=>Or.inl h
   clear hsn HC ih hx1 hs1 hf1;go_wp2;go_end0;exact hfin
 | false =>
   rw[hsn] at f0;have hs2:=hs1.mark (p:=p) (l:=left) hp (by omega);have hf2:=hf1.seen (ZO wa Sk (p*52+left) (.bool true));have hx2:=hx1.go hs1 (((Fk.refl wa lv):Fk Z Lb Sb Sk wa lv wa lv).seen (ZO wa Sk (p*52+left) (.bool true)));go_upto_region 4 with fail;generalize wa.setCell ⟨Sk,p*52+left,none⟩ (.bool true)=wb at hs2 hf2 hx2 ⊢;clear hs1 hf1 hx1 c0 c1 x4 x6 f0 f1 hsn;have c0:=hx2.c0;have c1:=hx2.c1;have x4:=hx2.x4;simp only at x4;obtain⟨M1,hM1⟩:∃M1,(if lz then Qx M [(p,ef)] else M)=M1:=⟨_,rfl⟩;have M9:Hid ((if lz then Qx M [(p,ef)] else M)=M1):=hM1;clear hM1;go_upto_if 29 with fail;go_cut [] (fun wc=>XH w0 Z S Ex Lb Sb Sk P1 P2 p (.slice ag Z.G cg) ef ({ kind:=ck,set:=aI,min:=cm,max:=cx,lazy:=lz,num:=cn,kids := [(i:Int)] },.slice bR aI.length cs1,.slice dJ 1 cs2) lv w M1 sn (fun s=>s=rP sn p left) wc)
   case first =>
    cases lz with
    | true =>
      have hadd:=zw (p:=p) (e:=ef) hZ hs2.wk hx2.g hp;go_wp2_with(first|(go_at_call 127;refine hadd.mono ?_;rintro en wd ⟨rfl,lx,lD,hk4,hb4⟩))
      go_meet;have hfa:=hf2.added hk4 hb4;exact⟨lx,_,by rw[<- M9.out];exact hs2.added lD hk4,rfl,hfa,hx2.go hs2 ((Fk.refl wb lv).added hk4 hb4)⟩
    | false =>
      go_wp2_with fail;go_meet;exact⟨lv,_,by rw[<- M9.out];exact hs2,rfl,hf2,hx2⟩
   case rest =>
    obtain⟨lw,qA,hs3,Ov,hf3,hx3⟩:=hcut;subst Ov;clear hs2 hf2 hx2 c0 c1 x4;have c0:=hx3.c0;have c1:=hx3.c1;have x6:=hx3.x6;simp only at x6;obtain⟨M2,hM2⟩:∃M2,Qx M1 (aY (p,ef) (rG Z.u.size (Z.X i) lz left p))=M2:=⟨_,rfl⟩;have wh:Hid (Qx M1 (aY (p,ef) (rG Z.u.size (Z.X i) lz left p))=M2):=hM2;clear hM2;go_upto_if 37 with fail;go_cut [13,15] (fun _ _ wc=>XH w0 Z S Ex Lb Sb Sk P1 P2 p (.slice ag Z.G cg) ef ({ kind:=ck,set:=aI,min:=cm,max:=cx,lazy:=lz,num:=cn,kids := [(i:Int)] },.slice bR aI.length cs1,.slice dJ 1 cs2) lv w M2 sn (fun s=>vR Z.u.size (Z.X i) lz (rP sn p left) s M2) wc)
    case first =>
     by_cases hl0:left=0
     ·subst hl0;have zP:Hid (M1=M2):=(by show _ = _;rw[<- wh.out];simp[rG,aY,Y4]);go_wp2_with fail;go_meet;exact⟨lw,_,by rw[<- zP.out];exact hs3,fun q lf _ h=>Or.inl h,hf3,hx3⟩
     ·have hlz:(0:Int)<(left:Int):=by omega
      go_upto_if 41 with fail
      obtain⟨ls,hls⟩:∃ls,less left=ls:=⟨_,rfl⟩;have Nc:Hid (less left=ls):=hls;clear hls;go_cut [13] (fun s13 wc2=>s13=.int .i64 (ls:Int)/\wc=wc2)
      case first =>
       by_cases h50:50<left
       ·have Od:(50:Int)<(left:Int):=by omega
        have Gc:ls=left:=by rw[<- Nc.out];simp[less,h50]
        subst Gc;go_wp2_with fail;go_meet;exact⟨rfl,rfl⟩
       ·have Od:¬(50:Int)<(left:Int):=by omega
        have Gc:ls=left-1:=by rw[<- Nc.out];simp[less,h50]
        go_wp2_with fail;go_meet;exact⟨congrArg (Value.int .i64) (by omega),rfl⟩
      case rest =>
       obtain⟨rfl,rfl⟩:=hcut;have OM:ls<=51:=by have:=Nc.out;unfold less at this;split at this <;> omega
       have k0:wc.cell? ⟨P1,6,none⟩=some (.slice dJ 1 cs2):=x6;obtain⟨Dm,ck0,bO,OZ⟩:=ZW hx3.ow.2 (by simp);simp only[List.length_singleton,Value.slice.injEq] at bO;obtain⟨rfl,_,rfl⟩:=bO;have kk:wc.cell? (ak Dm)=some (.int .i64 (i:Int)):=by
        have:=hx3.ow.2.cellAt 0 (by simp)
        simpa [nY] using this
       have kd:Za ai wc wc.drew:=(Za.refl _ _).drew;have hcall:=LU hE (hs3.wk.same kd) hF hp;obtain⟨F,jX⟩:∃F,Z.X i p=F:=⟨_,rfl⟩;have pW:Hid (Z.X i p=F):=jX;rw[jX] at hcall;clear jX;go_upto_region 10 with fail;go_cut [50,51,52] (fun NC NB EO wd=>Zvn w0 Z S Ex Lb Sb Sk P1 P2 p (.slice ag Z.G cg) ef ({ kind:=ck,set:=aI,min:=cm,max:=cx,lazy:=lz,num:=cn,kids := [(i:Int)] },.slice bR aI.length cs1,.slice (some ⟨Dm,0,none⟩) 1 cs2) lv w lw M1 (rP sn p left) F NC NB EO wd)
       case first =>
        go_region_with (first|(go_at_call 74;refine hcall.mono ?_;rintro en wb2 ⟨fv,rfl,hf,hfn,hW3,hk3⟩;obtain⟨af,cf,rfl⟩:=hf.form))
        all_goals (try go_wp2_with fail)
        all_goals go_meet
        all_goals exact⟨af,cf,rfl,rfl,rfl,(hs3.same kd).tabs hW3 hk3,(hf3.same kd).tabs hk3,by
         have hx5:=(hx3.same kd).go (hs3.same kd) ((Fk.refl _ _).tabs hk3);exact⟨hf,hfn,hx5.b,hx5.bn,hx5.o,hx5.ow,hx5.g⟩⟩
       case rest =>
        obtain⟨af,cf,rfl,rfl,rfl,hs5,CU,hx5⟩:=hcut;clear hcall kd hs3 hf3 hx3 c0 c1 x6 k0 kk OZ;have xaF:Hid (iE Z.u.size (Z.X i)):=dW.eH;have HFin:Hid (∀y∈F,y.1<=Z.u.size):=(by show∀_,_;rw[<- pW.out];exact fun y hy=>((dW p hp).2 y hy).2.1);have xH:F.length<=201:=by
         have:=zt (dW p hp).1 (fun y hy=>((dW p hp).2 y hy).2.1)
         rw[pW.out] at this;omega
        have Kk:Hid (ve Z.u.size (Z.X i) lz (rP sn p left) M1 (p+1)):=Znm HC.out M9.out;go_wp2;go_loopg [15,52] (F.length+1) (fun gl _ EO wi =>∃(b:Nat) (lx:Value) (Mb:En) (rO:Nat->Nat->Bool),b+gl=F.length+1/\b<=F.length/\EO=.int .i64 (b:Int)/\Hid (Mb=Qx M1 (uV Z.u.size (Z.X i) lz left p ef (F.take b)))/\Hid (ve Z.u.size (Z.X i) lz rO Mb (p+1))/\Hid (vR Z.u.size (Z.X i) lz (rP sn p left) rO Mb)/\Fs w0 Z S Ex Lb Sb Sk lx Mb rO wi/\Fk Z Lb Sb Sk w lv wi lx/\Fx Z (.slice af F.length cf) F P1 P2 p (.slice ag Z.G cg) ef ({ kind:=ck,set:=aI,min:=cm,max:=cx,lazy:=lz,num:=cn,kids := [(i:Int)] },.slice bR aI.length cs1,.slice (some ⟨Dm,0,none⟩) 1 cs2) lx wi)
        case atStart=>exact⟨0,lw,M1,_,by omega,by omega,rfl,(by show _ = _;simp[Zkj,Y4]),Kk,(by show vR _ _ _ _ _ _;exact fun q lf _ h=>Or.inl h),hs5,CU,hx5⟩
        case round =>
         clear hs5 CU hx5 Kk;obtain⟨b,lx,Mb,rO,hgl,hb,rfl,U6,Vi,U2,hs6,Gt,hx6⟩:=hrel;have HG:Hid (b+gk=F.length+1):=hgl;clear hgl
         by_cases hlt:b<F.length
         ·have hz2:(b:Int)<(F.length:Int):=by omega
          obtain⟨g2,cap2,ah,ch,hv2,hg2,a0,a1,lu⟩:=hx6.f.at hlt;simp only[Value.slice.injEq] at hv2;obtain⟨rfl,_,rfl⟩:=hv2;have hqe:=HFin.out F[b] (List.getElem_mem hlt);have PD:=ZhM Z.u.size (Z.X i) lz left p ef (F.take b) F[b];rw[<- Q6 F b hlt] at PD;have M3:Hid (uV Z.u.size (Z.X i) lz left p ef (F.take (b+1))=uV Z.u.size (Z.X i) lz left p ef (F.take b)++(if p<F[b].1 then aY (F[b].1,fQ ef F[b].2) (fu Z.u.size (Z.X i) lz (less left) F[b].1) else [])):=PD;clear PD;generalize F[b]=f at a0 a1 lu hqe M3;obtain⟨q,hf⟩:=f;simp only at a0 a1 lu hqe M3;go_upto_region 13 with fail;have kA:Za ai wr (wr.alloc (.cells #[.int .i64 (q:Int),.slice ah Z.G ch] 161)):=QT;have hQ:Bk (wr.alloc (.cells #[.int .i64 (q:Int),.slice ah Z.G ch] 161)) wr.heap.size 161 [.int .i64 (q:Int),.slice ah Z.G ch]:=QC wr _ _;have HQn:Hid (lx.ownBlock≠some wr.heap.size):=(by
           show _≠_;intro h;obtain⟨gv,q9,_⟩:=hs6.wk.ll.ends
           have:=(q9.lt _ h).2
           omega)
          have hs7:=hs6.same kA;have KI:=Gt.same kA;have hx7:=hx6.same kA;have hg3:=lu.same kA;generalize wr.alloc (.cells #[.int .i64 (q:Int),.slice ah Z.G ch] 161)=Kt at kA hQ hs7 KI hx7 hg3 ⊢;generalize wr.heap.size=Q at hQ HQn ⊢;clear kA hs6 Gt hx6 lu a0 a1 hg2;have q0:Kt.cell? (ak Q)=some (.int .i64 (q:Int)):=by rw[hQ.cell];rfl
          have q1:Kt.cell? ⟨Q,1,none⟩=some (.slice ah Z.G ch):=by rw[hQ.cell];rfl
          have c0:=hx7.c0
          by_cases eO:p<q
          ·have hqz:(p:Int)<(q:Int):=by omega
           have yu:Hid (Qx Mb (aY (q,fQ ef hf) (fu Z.u.size (Z.X i) lz ls q))=Qx M1 (uV Z.u.size (Z.X i) lz left p ef (F.take (b+1)))):=(by
            show _ = _
            have:=M3.out
            rw[if_pos eO,Nc.out] at this;rw[this,Qv,U6.out])
           go_upto_region 14 with fail
           have kd:Za ai Kt Kt.drew:=(Za.refl _ _).drew;have Ad:=hs7.same kd;have O8:=KI.same kd;have yN:=hx7.same kd;have hg4:=hg3.same kd;have GJ:=hQ.keeps kd id;have hov:=TH yN.g hg4 hZ.g9;have c1:=hx7.c1;have x0:=hx7.x0;have x1:=hx7.x1;have x2:=hx7.x2;have x3:=hx7.x3;have x4:=hx7.x4;have x5:=hx7.x5;have x6:=hx7.x6;simp only at x0 x1 x2 x3 x4 x5 x6;have hQn:lx.ownBlock≠some Q:=HQn.out;have MK:Hid (∀(w':World) (l':Value),Fx Z (.slice (some ⟨g2,0,none⟩) F.length cf) F P1 P2 p (.slice ag Z.G cg) ef ({ kind:=ck,set:=aI,min:=cm,max:=cx,lazy:=lz,num:=cn,kids := [(i:Int)] },.slice bR aI.length cs1,.slice (some ⟨Dm,0,none⟩) 1 cs2) l' w'->Bk w' Q 161 [.int .i64 (q:Int),.slice ah Z.G ch]->w'.cell? (ak Q)=some (.int .i64 (q:Int))/\w'.cell? ⟨Q,1,none⟩=some (.slice ah Z.G ch)/\w'.cell? ⟨P2,1,none⟩=some (.slice ag Z.G cg)/\w'.cell? (ak P1)=some (.int .i64 ck)/\w'.cell? ⟨P1,1,none⟩=some (.slice bR aI.length cs1)/\w'.cell? ⟨P1,2,none⟩=some (.int .i64 cm)/\w'.cell? ⟨P1,3,none⟩=some (.int .i64 cx)/\w'.cell? ⟨P1,4,none⟩=some (.bool lz)/\w'.cell? ⟨P1,5,none⟩=some (.int .i64 cn)/\w'.cell? ⟨P1,6,none⟩=some (.slice (some ⟨Dm,0,none⟩) 1 cs2)):=(by
            show∀_,_
            intro w' l' h hq;exact⟨by rw[hq.cell];rfl,by rw[hq.cell];rfl,h.c1,h.x0,h.x1,h.x2,h.x3,h.x4,h.x5,h.x6⟩)
           have hS0:=MK.out _ _ yN GJ;clear kd hs7 KI hx7 hg3 hQ c0 c1 x0 x1 x2 x3 x4 x5 x6 q0 q1;go_region_held3 (fun w'=>w'.cell? (ak Q)=some (.int .i64 (q:Int))/\w'.cell? ⟨Q,1,none⟩=some (.slice ah Z.G ch)/\w'.cell? ⟨P2,1,none⟩=some (.slice ag Z.G cg)/\w'.cell? (ak P1)=some (.int .i64 ck)/\w'.cell? ⟨P1,1,none⟩=some (.slice bR aI.length cs1)/\w'.cell? ⟨P1,2,none⟩=some (.int .i64 cm)/\w'.cell? ⟨P1,3,none⟩=some (.int .i64 cx)/\w'.cell? ⟨P1,4,none⟩=some (.bool lz)/\w'.cell? ⟨P1,5,none⟩=some (.int .i64 cn)/\w'.cell? ⟨P1,6,none⟩=some (.slice (some ⟨Dm,0,none⟩) 1 cs2)) (first | assumption | go_keep) (first|(go_at_call 129;refine hov.mono ?_;rintro en wz ⟨gw,rfl,hgw,hkc,-⟩;replace Ad:=Ad.same hkc;replace O8:=O8.same hkc;replace yN:=yN.same hkc;replace GJ:=GJ.keeps hkc id;obtain⟨aw,cw,rfl⟩:=aj hgw;have hS1:=MK.out _ _ yN GJ)|(go_at_call 131;refine(ih wz lx Mb rO q ls _ (fQ ef hf) Ad yN.ow hgw hqe (by omega) OM (fun q2 lf h1 h2 h3=>Vi.out q2 lf (by omega) h2 h3)).mono ?_;rintro en wy ⟨rfl,ly,Nt,hsy,hny,xw⟩;have hS2:=MK.out _ _ (yN.go Ad xw) (Ad.mh xw GJ hQn).1))
           all_goals (try go_wp2_with fail)
           all_goals go_roundg (gk-1)
           all_goals first |(have:=HG.out;omega) | exact⟨b+1,ly,_,Nt,by have:=HG.out;omega,by omega,congrArg (Value.int .i64) (by omega),yu,Zjd Vi.out hny,ZjY U2.out hny,hsy,O8.trans xw,yN.go Ad xw⟩
          ·have hqz:¬(p:Int)<(q:Int):=by omega
           have yu:Hid (Mb=Qx M1 (uV Z.u.size (Z.X i) lz left p ef (F.take (b+1)))):=(by
            show _ = _
            have:=M3.out
            rw[if_neg eO,List.append_nil] at this;rw[this,U6.out])
           go_wp2_with fail;go_roundg (gk-1)
           case measure=>have:=HG.out;omega
           case rel=>exact⟨b+1,lx,Mb,rO,by have:=HG.out;omega,by omega,congrArg (Value.int .i64) (by omega),yu,Vi,U2,hs7,KI,hx7⟩
         ·obtain rfl:b=F.length:=by omega
          have zO:Hid (Mb=M2):=(by
           show _ = _;rw[U6.out,List.take_length,<- wh.out,<- pW.out,Zkk _ _ _ _ _ _ hl0])
          go_wp2_with fail;go_meet;exact⟨lx,rO,by rw[<- zO.out];exact hs6,by rw[<- zO.out];exact U2.out,Gt,⟨Ua _ _,fun b h=>by simp[Value.ownBlock] at h,hx6.b,hx6.bn,hx6.o,hx6.ow,hx6.g⟩⟩
    case rest =>
     obtain⟨l2,Kw,hs4,hnew,AA,hx4⟩:=hcut;clear hs3 hf3 hx3 c0 c1 x6;have c0:=hx4.c0;have c1:=hx4.c1;have hadd:=zw (p:=p) (e:=ef) hZ hs4.wk hx4.g hp;go_wp2_with(first|(go_at_call 127;refine hadd.mono ?_;rintro en wd ⟨rfl,l3,qQ,hk5,hb5⟩))
     go_end0;exact Zsm dW.eH hp M9.out wh.out (hs4.added qQ hk5) hnew (AA.added hk5 hb5)
theorem BU(L:List Pm)(j i:Nat)(hj:j<L.length)(hi:i<7):(L.flatMap rE)[j*7+i]?=(rE (L[j]'hj))[i]?:=by
 induction L generalizing j with
 | nil=>simp at hj
 | cons x L ih =>
   cases j with
   | zero =>
     rw[List.flatMap_cons,List.getElem?_append_left (by simp[rE];omega)];simp
   | succ j =>
     have:=ih j (by simpa using hj)
     rw[List.flatMap_cons,List.getElem?_append_right (by simp[rE];omega)];have e:(j+1)*7+i-(rE x).length=j*7+i:=by simp[rE];omega
     rw[e,this];simp
theorem nH.same{v:Value}{L:List Pm}(h:nH w v L)(hk:Za ai w w'):nH w' v L :=
 ⟨Zb h.row hk (fun _ _ h=>h),fun x hx=>(h.rows x hx).same hk⟩
theorem J0{g cap:Nat}{L:List Pm}(h:nH w (.slice (some ⟨g,0,none⟩) L.length cap) L){j:Nat}(hj:j<L.length):
  w.cell? ⟨g,j*7,none⟩=some (.int .i64 (L[j]'hj).1.kind)/\w.cell? ⟨g,j*7+1,none⟩=some (L[j]'hj).2.1/\w.cell? ⟨g,j*7+2,none⟩=some (.int .i64 (L[j]'hj).1.min)/\w.cell? ⟨g,j*7+3,none⟩=some (.int .i64 (L[j]'hj).1.max)/\
  w.cell? ⟨g,j*7+4,none⟩=some (.bool (L[j]'hj).1.lazy)/\w.cell? ⟨g,j*7+5,none⟩=some (.int .i64 (L[j]'hj).1.num)/\w.cell? ⟨g,j*7+6,none⟩=some (L[j]'hj).2.2:=by
 have hc:=h.row.cellAt;refine⟨?_,?_,?_,?_,?_,?_,?_⟩
 ·have e:=hc (j*7) (by omega);rw[e];exact BU L j 0 hj (by omega)
 ·rw[hc (j*7+1) (by omega)];exact BU L j 1 hj (by omega)
 ·rw[hc (j*7+2) (by omega)];exact BU L j 2 hj (by omega)
 ·rw[hc (j*7+3) (by omega)];exact BU L j 3 hj (by omega)
 ·rw[hc (j*7+4) (by omega)];exact BU L j 4 hj (by omega)
 ·rw[hc (j*7+5) (by omega)];exact BU L j 5 hj (by omega)
 ·rw[hc (j*7+6) (by omega)];exact BU L j 6 hj (by omega)
structure Wp (w0:World) (Z:Mz) (S Ex:Nat->Prop) (Lb Sb:Nat) (lv:Value) (M:En) (P1:Nat) (x:Pm) (w:World):Prop where
 wk:Wk w0 Z S Ex Lb Sb lv M w
 o:w.heap[P1]?=some (.cells #[.int .i64 x.1.kind,x.2.1,.int .i64 x.1.min,.int .i64 x.1.max,.bool x.1.lazy,.int .i64 x.1.num,x.2.2] 114 (0,0))
 ow:Jl w x
namespace Wp
variable {w0 w w':World}{Z:Mz}{S Ex:Nat->Prop}{Lb Sb P1:Nat}{lv fq:Value}{M M':En}{x:Pm}
theorem same(h:Wp w0 Z S Ex Lb Sb lv M P1 x w)(k:Za ai w w'):Wp w0 Z S Ex Lb Sb lv M P1 x w':=⟨h.wk.same k,by rw[k.block P1 (lt_of_block h.o) id];exact h.o,h.ow.same k⟩
theorem added(h:Wp w0 Z S Ex Lb Sb lv M P1 x w)(hw:Wk w0 Z S Ex Lb Sb fq M' w')(k:Za (ku Lb Sb lv) w w'):Wp w0 Z S Ex Lb Sb fq M' P1 x w' :=
 ⟨hw,by rw[k.block P1 (lt_of_block h.o) (h.wk.vJ.not h.o (by decide))];exact h.o,⟨Zb h.ow.1 k (h.wk.vJ.own h.ow.1 (by decide)),Zb h.ow.2 k (h.wk.vJ.own h.ow.2 (by decide))⟩⟩
theorem tabs(h:Wp w0 Z S Ex Lb Sb lv M P1 x w)(hw:Wk w0 Z S Ex Lb Sb lv M w')(k:Za (fo Z) w w'):Wp w0 Z S Ex Lb Sb lv M P1 x w' :=
 ⟨hw,by rw[k.block P1 (lt_of_block h.o) (h.wk.mi.mZ.not h.o (by decide))];exact h.o,⟨Zb h.ow.1 k (h.wk.mi.mZ.own h.ow.1 (by decide)),Zb h.ow.2 k (h.wk.mi.mZ.own h.ow.2 (by decide))⟩⟩
theorem x0(h:Wp w0 Z S Ex Lb Sb lv M P1 x w):w.cell? (ak P1)=some (.int .i64 x.1.kind):=by rw[Zc h.o];rfl
theorem x1(h:Wp w0 Z S Ex Lb Sb lv M P1 x w):w.cell? ⟨P1,1,none⟩=some x.2.1:=by rw[Zc h.o];rfl
theorem x2(h:Wp w0 Z S Ex Lb Sb lv M P1 x w):w.cell? ⟨P1,2,none⟩=some (.int .i64 x.1.min):=by rw[Zc h.o];rfl
theorem x3(h:Wp w0 Z S Ex Lb Sb lv M P1 x w):w.cell? ⟨P1,3,none⟩=some (.int .i64 x.1.max):=by rw[Zc h.o];rfl
theorem x5(h:Wp w0 Z S Ex Lb Sb lv M P1 x w):w.cell? ⟨P1,5,none⟩=some (.int .i64 x.1.num):=by rw[Zc h.o];rfl
theorem x6(h:Wp w0 Z S Ex Lb Sb lv M P1 x w):w.cell? ⟨P1,6,none⟩=some x.2.2:=by rw[Zc h.o];rfl
end Wp
theorem Js{w1:World}{Ex:Nat->Prop}{Sb:Nat}(h:Wk w1 Z S Ex Lb Sb lv M w')(k:Za ai w w1)(hM:Z.X i p=M):D6 Z S Ex i p w (.returned lv) w' :=
 ⟨lv,rfl,by rw[hM];exact h.ll.ends,fun b hb hx=>by have h1:=h.wM b hb;have h2:=h.ex b hx;omega,h.mi.exc (fun k _ hk=>Or.inl hk),(k.mono (fun _ _ h=>h.elim)).trans h.kp⟩
variable {c:Pc}
theorem Zjx(hZ:Ms Z)(hi:i<Z.ps.length)(hc:Z.ps[i]?=some c)(hkind:c.kind=6):zn Z i:=by
 intro w S Ex p hM hF hX hp;have hu:=hZ.iF;have cZ:=hZ.few;have jm:Z.L.length=Z.ps.length:=by rw[<- hZ.oH,List.length_map]
 have hlt:i<Z.L.length:=by omega
 obtain⟨gp,cp,hpv,oU⟩:=ZW hM.dM.row (by omega);have iL:nH w (.slice (some ⟨gp,0,none⟩) Z.L.length cp) Z.L:=by rw[<- hpv];exact hM.dM
 have hA:=J0 iL hlt;have how:=hM.dM.rows _ (List.getElem_mem hlt);have hxe:(Z.L[i]'hlt).1=c:=by
  have h1:Z.ps[i]?=some (Z.L[i]'hlt).1:=by rw[<- hZ.oH,List.getElem?_map,List.getElem?_eq_getElem hlt];rfl
  rw[hc] at h1;exact(Option.some.inj h1).symm
 have qz:Hid (Z.X i=gW Z.u c (fun k=>Z.X k.toNat)):=J9 hZ.kK hc;have hvp:=hZ.kK i c hc;have hset:=hZ.sets c (List.mem_of_getElem? hc);generalize Z.L[i]'hlt=x at hA how hxe;obtain⟨c',sv,kv⟩:=x;simp only at hxe;subst hxe;obtain⟨bR,cs1,he1⟩:=aj how.1;obtain⟨dJ,cs2,he2⟩:=aj how.2;simp only at he1 he2 hA;subst he1 he2;obtain⟨q0,q1,q2,q3,q4,q5,q6⟩:=hA;obtain⟨ck,aI,cm,cx,lz,cn,aZ⟩:=c';simp only at q0 q1 q2 q3 q4 q5 q6 hkind hvp hset how;subst hkind;have hiz:(i:Int)<(Z.L.length:Int):=by omega
 have m3:=hM.mc.c3;rw[hpv] at m3;have kA:Za ai w (w.alloc (.cells #[.int .i64 6,.slice bR aI.length cs1,.int .i64 cm,.int .i64 cx,.bool lz,.int .i64 cn,.slice dJ aZ.length cs2] 114)):=QT;have dF:(w.alloc (.cells #[.int .i64 6,.slice bR aI.length cs1,.int .i64 cm,.int .i64 cx,.bool lz,.int .i64 cn,.slice dJ aZ.length cs2] 114)).heap[w.heap.size]?=some (.cells #[.int .i64 6,.slice bR aI.length cs1,.int .i64 cm,.int .i64 cx,.bool lz,.int .i64 cn,.slice dJ aZ.length cs2] 114 (0,0)):=heap_alloc_new w _;have hem:=zy hZ (hM.same kA) (fun k hk=>Nat.lt_of_lt_of_le (hX k hk) kA.size);have dz:=how.same kA;have HX:Hid (∀k,Ex k->k<w.heap.size):=hX;go_enter Tryz.func94,Tryz.ntmps94;go_upto_region 2 with fail;generalize w.alloc (.cells #[.int .i64 6,.slice bR aI.length cs1,.int .i64 cm,.int .i64 cx,.bool lz,.int .i64 cn,.slice dJ aZ.length cs2] 114)=w1 at kA dF hem dz ⊢;generalize w.heap.size=P1 at dF ⊢;clear q0 q1 q2 q3 q4 q5 q6 m3 iL hpv oU how hX hM hc hlt jm hiz;go_upto_region 3 with(first|(go_at_call 125;refine hem.mono ?_;rintro e w2 ⟨Lb,Sb,rfl,hW,hk2⟩))
 have hW2:Wp w1 Z S Ex Lb Sb (.slice none 0 0) [] P1 ({ kind:=6,set:=aI,min:=cm,max:=cx,lazy:=lz,num:=cn,kids:=aZ },.slice bR aI.length cs1,.slice dJ aZ.length cs2) w2:=⟨hW,by rw[hk2.block P1 (lt_of_block dF) id];exact dF,dz.same hk2⟩;clear hem hW dF dz hk2;have x0:=hW2.x0;simp only at x0;have l8:Hid (Z.X i p=pF 0 p):=(by show _ = _;rw[qz.out];simp[gW])
 by_cases hp0:p=0
 ·subst hp0;have hno:=D9 hW2.wk.mi.mc hZ.g9;go_wp2_with(first|(go_at_call 128;refine hno.mono ?_;rintro e w3 ⟨gv,rfl,hgv,hk3,-⟩;obtain⟨ag,cg,rfl⟩:=aj hgv;have hW3:=hW2.same hk3)|(go_at_call 127;refine(zw (p:=0) (e:=dG) hZ hW3.wk hgv (by omega)).mono ?_;rintro e w4 ⟨rfl,lx,lD,hk4,hb4⟩;obtain⟨al,cl,hlx⟩:=lD.ll.ends.form;subst hlx;have c1:=lD.ll.c1))
  go_ret;exact Js lD kA (by rw[l8.out];simp[pF,Qx,dd,bI,bq])
 ·have hpz:((p:Int) == 0)=false:=by simp;omega
  have c1:=hW2.wk.ll.c1;go_wp2_with fail;go_ret;exact Js hW2.wk kA (by rw[l8.out];simp[pF,hp0])
theorem Zoj(hZ:Ms Z)(hi:i<Z.ps.length)(hc:Z.ps[i]?=some c)(hkind:c.kind=7):zn Z i:=by
 intro w S Ex p hM hF hX hp;have hu:=hZ.iF;have cZ:=hZ.few;have jm:Z.L.length=Z.ps.length:=by rw[<- hZ.oH,List.length_map]
 have hlt:i<Z.L.length:=by omega
 obtain⟨gp,cp,hpv,oU⟩:=ZW hM.dM.row (by omega);have iL:nH w (.slice (some ⟨gp,0,none⟩) Z.L.length cp) Z.L:=by rw[<- hpv];exact hM.dM
 have hA:=J0 iL hlt;have how:=hM.dM.rows _ (List.getElem_mem hlt);have hxe:(Z.L[i]'hlt).1=c:=by
  have h1:Z.ps[i]?=some (Z.L[i]'hlt).1:=by rw[<- hZ.oH,List.getElem?_map,List.getElem?_eq_getElem hlt];rfl
  rw[hc] at h1;exact(Option.some.inj h1).symm
 have qz:Hid (Z.X i=gW Z.u c (fun k=>Z.X k.toNat)):=J9 hZ.kK hc;have hvp:=hZ.kK i c hc;have hset:=hZ.sets c (List.mem_of_getElem? hc);generalize Z.L[i]'hlt=x at hA how hxe;obtain⟨c',sv,kv⟩:=x;simp only at hxe;subst hxe;obtain⟨bR,cs1,he1⟩:=aj how.1;obtain⟨dJ,cs2,he2⟩:=aj how.2;simp only at he1 he2 hA;subst he1 he2;obtain⟨q0,q1,q2,q3,q4,q5,q6⟩:=hA;obtain⟨ck,aI,cm,cx,lz,cn,aZ⟩:=c';simp only at q0 q1 q2 q3 q4 q5 q6 hkind hvp hset how;subst hkind;have hiz:(i:Int)<(Z.L.length:Int):=by omega
 have m3:=hM.mc.c3;rw[hpv] at m3;have kA:Za ai w (w.alloc (.cells #[.int .i64 7,.slice bR aI.length cs1,.int .i64 cm,.int .i64 cx,.bool lz,.int .i64 cn,.slice dJ aZ.length cs2] 114)):=QT;have dF:(w.alloc (.cells #[.int .i64 7,.slice bR aI.length cs1,.int .i64 cm,.int .i64 cx,.bool lz,.int .i64 cn,.slice dJ aZ.length cs2] 114)).heap[w.heap.size]?=some (.cells #[.int .i64 7,.slice bR aI.length cs1,.int .i64 cm,.int .i64 cx,.bool lz,.int .i64 cn,.slice dJ aZ.length cs2] 114 (0,0)):=heap_alloc_new w _;have hem:=zy hZ (hM.same kA) (fun k hk=>Nat.lt_of_lt_of_le (hX k hk) kA.size);have dz:=how.same kA;have HX:Hid (∀k,Ex k->k<w.heap.size):=hX;go_enter Tryz.func94,Tryz.ntmps94;go_upto_region 2 with fail;generalize w.alloc (.cells #[.int .i64 7,.slice bR aI.length cs1,.int .i64 cm,.int .i64 cx,.bool lz,.int .i64 cn,.slice dJ aZ.length cs2] 114)=w1 at kA dF hem dz ⊢;generalize w.heap.size=P1 at dF ⊢;clear q0 q1 q2 q3 q4 q5 q6 m3 iL hpv oU how hX hM hc hlt jm hiz;go_upto_region 3 with(first|(go_at_call 125;refine hem.mono ?_;rintro e w2 ⟨Lb,Sb,rfl,hW,hk2⟩))
 have hW2:Wp w1 Z S Ex Lb Sb (.slice none 0 0) [] P1 ({ kind:=7,set:=aI,min:=cm,max:=cx,lazy:=lz,num:=cn,kids:=aZ },.slice bR aI.length cs1,.slice dJ aZ.length cs2) w2:=⟨hW,by rw[hk2.block P1 (lt_of_block dF) id];exact dF,dz.same hk2⟩;clear hem hW dF dz hk2;have x0:=hW2.x0;simp only at x0;have l8:Hid (Z.X i p=pF Z.u.size p):=(by show _ = _;rw[qz.out];simp[gW]);have c4:=hW2.wk.mi.mc.c4
 by_cases hp0:p=Z.u.size
 ·have hpz:((p:Int) == (Z.u.size:Int))=true:=by simp;omega
  have HP:Hid (p=Z.u.size):=hp0;clear hp0;have hno:=D9 hW2.wk.mi.mc hZ.g9;go_wp2_with(first|(go_at_call 128;refine hno.mono ?_;rintro e w3 ⟨gv,rfl,hgv,hk3,-⟩;obtain⟨ag,cg,rfl⟩:=aj hgv;have hW3:=hW2.same hk3)|(go_at_call 127;refine(zw (p:=p) (e:=dG) hZ hW3.wk hgv hp).mono ?_;rintro e w4 ⟨rfl,lx,lD,hk4,hb4⟩;obtain⟨al,cl,hlx⟩:=lD.ll.ends.form;subst hlx;have c1:=lD.ll.c1))
  go_ret;exact Js lD kA (by rw[l8.out,<- HP.out];simp[pF,Qx,dd,bI,bq])
 ·have hpz:((p:Int) == (Z.u.size:Int))=false:=by simp;omega
  have c1:=hW2.wk.ll.c1;have HP:Hid (¬p=Z.u.size):=hp0;clear hp0;go_wp2_with fail;go_ret;exact Js hW2.wk kA (by rw[l8.out];simp[pF,HP.out])
theorem Zof(hZ:Ms Z)(hi:i<Z.ps.length)(hc:Z.ps[i]?=some c)(hkind:c.kind=1):zn Z i:=by
 intro w S Ex p hM hF hX hp;have hu:=hZ.iF;have cZ:=hZ.few;have jm:Z.L.length=Z.ps.length:=by rw[<- hZ.oH,List.length_map]
 have hlt:i<Z.L.length:=by omega
 obtain⟨gp,cp,hpv,oU⟩:=ZW hM.dM.row (by omega);have iL:nH w (.slice (some ⟨gp,0,none⟩) Z.L.length cp) Z.L:=by rw[<- hpv];exact hM.dM
 have hA:=J0 iL hlt;have how:=hM.dM.rows _ (List.getElem_mem hlt);have hxe:(Z.L[i]'hlt).1=c:=by
  have h1:Z.ps[i]?=some (Z.L[i]'hlt).1:=by rw[<- hZ.oH,List.getElem?_map,List.getElem?_eq_getElem hlt];rfl
  rw[hc] at h1;exact(Option.some.inj h1).symm
 have qz:Hid (Z.X i=gW Z.u c (fun k=>Z.X k.toNat)):=J9 hZ.kK hc;have hvp:=hZ.kK i c hc;have hset:=hZ.sets c (List.mem_of_getElem? hc);generalize Z.L[i]'hlt=x at hA how hxe;obtain⟨c',sv,kv⟩:=x;simp only at hxe;subst hxe;obtain⟨bR,cs1,he1⟩:=aj how.1;obtain⟨dJ,cs2,he2⟩:=aj how.2;simp only at he1 he2 hA;subst he1 he2;obtain⟨q0,q1,q2,q3,q4,q5,q6⟩:=hA;obtain⟨ck,aI,cm,cx,lz,cn,aZ⟩:=c';simp only at q0 q1 q2 q3 q4 q5 q6 hkind hvp hset how;subst hkind;have hiz:(i:Int)<(Z.L.length:Int):=by omega
 have m3:=hM.mc.c3;rw[hpv] at m3;have kA:Za ai w (w.alloc (.cells #[.int .i64 1,.slice bR aI.length cs1,.int .i64 cm,.int .i64 cx,.bool lz,.int .i64 cn,.slice dJ aZ.length cs2] 114)):=QT;have dF:(w.alloc (.cells #[.int .i64 1,.slice bR aI.length cs1,.int .i64 cm,.int .i64 cx,.bool lz,.int .i64 cn,.slice dJ aZ.length cs2] 114)).heap[w.heap.size]?=some (.cells #[.int .i64 1,.slice bR aI.length cs1,.int .i64 cm,.int .i64 cx,.bool lz,.int .i64 cn,.slice dJ aZ.length cs2] 114 (0,0)):=heap_alloc_new w _;have hem:=zy hZ (hM.same kA) (fun k hk=>Nat.lt_of_lt_of_le (hX k hk) kA.size);have dz:=how.same kA;have HX:Hid (∀k,Ex k->k<w.heap.size):=hX;go_enter Tryz.func94,Tryz.ntmps94;go_upto_region 2 with fail;generalize w.alloc (.cells #[.int .i64 1,.slice bR aI.length cs1,.int .i64 cm,.int .i64 cx,.bool lz,.int .i64 cn,.slice dJ aZ.length cs2] 114)=w1 at kA dF hem dz ⊢;generalize w.heap.size=P1 at dF ⊢;clear q0 q1 q2 q3 q4 q5 q6 m3 iL hpv oU how hX hM hc hlt jm hiz;go_upto_region 3 with(first|(go_at_call 125;refine hem.mono ?_;rintro e w2 ⟨Lb,Sb,rfl,hW,hk2⟩))
 have hW2:Wp w1 Z S Ex Lb Sb (.slice none 0 0) [] P1 ({ kind:=1,set:=aI,min:=cm,max:=cx,lazy:=lz,num:=cn,kids:=aZ },.slice bR aI.length cs1,.slice dJ aZ.length cs2) w2:=⟨hW,by rw[hk2.block P1 (lt_of_block dF) id];exact dF,dz.same hk2⟩;clear hem hW dF dz hk2;have x0:=hW2.x0;simp only at x0;have l8:Hid (Z.X i p=zg (fun q=>decide (q<Z.u.size) && jd aI (bt Z.u q)) p):=(by show _ = _;rw[qz.out];simp[gW]);have c4:=hW2.wk.mi.mc.c4;have x1:=hW2.x1;simp only at x1
 by_cases hps:p<Z.u.size
 ·have hpz:(p:Int)<(Z.u.size:Int):=by omega
  have hbt:Z.u[p].toNat=bt Z.u p:=(ZX hps).symm;have hblt:=Jh hps;have HB:Hid (Z.X i p=if jd aI (bt Z.u p) then [(p+1,dG)] else []):=(by show _ = _;rw[l8.out];simp[zg,hps]);clear l8;generalize bt Z.u p=b at hbt hblt HB;have kd:Za ai w2 w2.drew:=(Za.refl _ _).drew;have hWd:=hW2.same kd;have hS0:w2.drew.cell? ⟨Z.R,4,none⟩=some (.string Z.u)/\w2.drew.cell? ⟨P1,1,none⟩=some (.slice bR aI.length cs1):=⟨hWd.wk.mi.mc.c4,hWd.x1⟩;have hin:=Zpl (hW2.same kd).ow.1 hblt (by simp only;omega);simp only at hin;go_upto_region 12 with fail
  cases hib:jd aI (b:Int) with
  | true =>
    rw[hib] at hin;go_cut [74] (fun s wc=>s=.bool true/\Za ai w2 wc)
    case first =>
     go_region_held3 (fun w'=>w'.cell? ⟨Z.R,4,none⟩=some (.string Z.u)/\w'.cell? ⟨P1,1,none⟩=some (.slice bR aI.length cs1)) (first | assumption | go_keep) (first|(go_at_call 126;refine hin.mono ?_;rintro e w3 ⟨rfl,hk3⟩;have rT:w3.cell? ⟨Z.R,4,none⟩=some (.string Z.u)/\w3.cell? ⟨P1,1,none⟩=some (.slice bR aI.length cs1):=⟨(hWd.same hk3).wk.mi.mc.c4,(hWd.same hk3).x1⟩))
     all_goals (try go_wp2_with fail)
     all_goals go_meet
     all_goals exact⟨rfl,kd.trans hk3⟩
    case rest =>
     obtain⟨rfl,hk3⟩:=hcut;have hW3:=hW2.same hk3;have hno:=D9 hW3.wk.mi.mc hZ.g9;go_wp2_with(first|(go_at_call 128;refine hno.mono ?_;rintro e w4 ⟨gv,rfl,hgv,hk4,-⟩;obtain⟨ag,cg,rfl⟩:=aj hgv;have lD:=hW3.same hk4;have hadd:=zw (p:=p+1) (e:=dG) hZ lD.wk hgv (by omega);push_cast at hadd)|(go_at_call 127;refine hadd.mono ?_;rintro e w5 ⟨rfl,lx,qQ,hk5,hb5⟩;obtain⟨al,cl,hlx⟩:=qQ.ll.ends.form;subst hlx;have c1:=qQ.ll.c1))
     go_ret;exact Js qQ kA (by rw[HB.out,hib];simp[Qx,dd,bI,bq])
  | false =>
    rw[hib] at hin;go_cut [74] (fun s wc=>s=.bool false/\Za ai w2 wc)
    case first =>
     go_region_held3 (fun w'=>w'.cell? ⟨Z.R,4,none⟩=some (.string Z.u)/\w'.cell? ⟨P1,1,none⟩=some (.slice bR aI.length cs1)) (first | assumption | go_keep) (first|(go_at_call 126;refine hin.mono ?_;rintro e w3 ⟨rfl,hk3⟩;have rT:w3.cell? ⟨Z.R,4,none⟩=some (.string Z.u)/\w3.cell? ⟨P1,1,none⟩=some (.slice bR aI.length cs1):=⟨(hWd.same hk3).wk.mi.mc.c4,(hWd.same hk3).x1⟩))
     all_goals (try go_wp2_with fail)
     all_goals go_meet
     all_goals exact⟨rfl,kd.trans hk3⟩
    case rest =>
     obtain⟨rfl,hk3⟩:=hcut;have hW3:=hW2.same hk3;have c1:=hW3.wk.ll.c1;go_wp2_with fail;go_ret;exact Js hW3.wk kA (by rw[HB.out,hib];simp)
 ·have hpz:¬(p:Int)<(Z.u.size:Int):=by omega
  have hpd:decide ((p:Int)<(Z.u.size:Int))=false:=by simp;omega
  have HB:Hid (Z.X i p = []):=(by show _ = _;rw[l8.out];simp[zg,hps]);have c1:=hW2.wk.ll.c1;clear hps;go_upto_region 12 with fail;go_quiet (fail);go_wp2_with fail;go_ret;exact Js (hW2.wk.same ((Za.refl _ _).drewN _)) kA HB.out
end Go.Proofs.YtfkflljplohhcaaGreatDoor
