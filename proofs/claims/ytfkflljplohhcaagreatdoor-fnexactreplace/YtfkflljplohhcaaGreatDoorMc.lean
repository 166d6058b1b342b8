import Derived.Test.YtfkflljplohhcaaGreatDoorMb
import Derived.Deep.RegionHeld3
set_option maxHeartbeats 8000000
set_option maxRecDepth 100000
namespace Go.Proofs.YtfkflljplohhcaaGreatDoor
open Go.RowKit
set_option linter.unusedVariables false
structure Fx (Z:Mz) (fv:Value) (F:En) (P1 P2:Nat) (p:Nat) (gv:Value) (ef:Ef) (x:Pm) (lw:Value) (w:World):Prop where
 f:Qs w Z.G fv F
 fn :∀b,fv.ownBlock=some b->lw.ownBlock≠some b
 b:Bk w P2 161 [.int .i64 (p:Int),gv]
 bn:lw.ownBlock≠some P2
 o:w.heap[P1]? = some (.cells #[.int .i64 x.1.kind,x.2.1,.int .i64 x.1.min,.int .i64 x.1.max,.bool x.1.lazy,.int .i64 x.1.num,x.2.2] 114 (0,0))
 ow:Je w x
 g:GrR w Z.G gv ef
namespace Fx
variable {w0 w w':World} {Z:Mz} {S Ex:Nat->Prop} {Lb Sb Sk P1 P2 p:Nat} {lv lv' fv gv:Value} {M F:En} {sn:Nat->Nat->Bool} {ef:Ef} {x:Pm}
theorem go (h:Fx Z fv F P1 P2 p gv ef x lv w) (s:Fs w0 Z S Ex Lb Sb Sk lv M sn w) (k:Fk Z Lb Sb Sk w lv w' lv'):Fx Z fv F P1 P2 p gv ef x lv' w' :=
 ⟨(s.sideE k h.f h.fn).1,(s.sideE k h.f h.fn).2,(s.sideB k h.b h.bn).1,(s.sideB k h.b h.bn).2,s.sideO k h.o (by decide),⟨s.sideR k h.ow.1 (by decide),s.sideR k h.ow.2 (by decide)⟩,s.sideG k h.g⟩
theorem c0 (h:Fx Z fv F P1 P2 p gv ef x lv w):w.cell? ⟨P2,0,none⟩=some (.int .i64 (p:Int)):=by rw [h.b.cell]; rfl
theorem c1 (h:Fx Z fv F P1 P2 p gv ef x lv w):w.cell? ⟨P2,1,none⟩=some gv:=by rw [h.b.cell]; rfl
theorem x0 (h:Fx Z fv F P1 P2 p gv ef x lv w):w.cell? ⟨P1,0,none⟩=some (.int .i64 x.1.kind):=by rw [Zc h.o]; rfl
theorem x1 (h:Fx Z fv F P1 P2 p gv ef x lv w):w.cell? ⟨P1,1,none⟩=some x.2.1:=by rw [Zc h.o]; rfl
theorem x2 (h:Fx Z fv F P1 P2 p gv ef x lv w):w.cell? ⟨P1,2,none⟩=some (.int .i64 x.1.min):=by rw [Zc h.o]; rfl
theorem x3 (h:Fx Z fv F P1 P2 p gv ef x lv w):w.cell? ⟨P1,3,none⟩=some (.int .i64 x.1.max):=by rw [Zc h.o]; rfl
theorem x4 (h:Fx Z fv F P1 P2 p gv ef x lv w):w.cell? ⟨P1,4,none⟩=some (.bool x.1.lazy):=by rw [Zc h.o]; rfl
theorem x5 (h:Fx Z fv F P1 P2 p gv ef x lv w):w.cell? ⟨P1,5,none⟩=some (.int .i64 x.1.num):=by rw [Zc h.o]; rfl
theorem x6 (h:Fx Z fv F P1 P2 p gv ef x lv w):w.cell? ⟨P1,6,none⟩=some x.2.2:=by rw [Zc h.o]; rfl
theorem same (h:Fx Z fv F P1 P2 p gv ef x lv w) (k:Za N0_ w w'):Fx Z fv F P1 P2 p gv ef x lv w' :=
 ⟨h.f.same k,h.fn,h.b.keeps k id,h.bn,by rw [k.block P1 (lt_of_block h.o) id]; exact h.o,h.ow.same k,h.g.same k⟩
end Fx
def ZdI (N:Nat) (X:Xs) (lz:Bool) (sn sn':Nat->Nat->Bool) (M:En):Prop :=∀q lf,q<=N->sn' q lf=true->sn q lf=true\/∀e∈fu N X lz lf q,sal sno M e.1=true
def ZhN (w0:World) (Z:Mz) (S Ex:Nat->Prop) (Lb Sb Sk:Nat) (lv:Value) (M:En) (sn:Nat->Nat->Bool) (X:Xs) (lz:Bool) (p left:Nat) (ef:Ef) (w:World) (e:Ending) (w':World):Prop :=
 e = .returned (.tuple #[])/\∃(lv':Value) (sn':Nat->Nat->Bool),Fs w0 Z S Ex Lb Sb Sk lv' (Qu M (beh (p,ef) (fu Z.u.size X lz left p))) sn' w'/\ZdI Z.u.size X lz sn sn' (Qu M (beh (p,ef) (fu Z.u.size X lz left p)))/\Fk Z Lb Sb Sk w lv w' lv'
def ZsM (w0:World) (Z:Mz) (S Ex:Nat->Prop) (Lb Sb Sk:Nat) (x:Pm) (i n:Nat):Prop :=∀(w:World) (lv:Value) (M:En) (sn:Nat->Nat->Bool) (p left:Nat) (gv:Value) (ef:Ef),
 Fs w0 Z S Ex Lb Sb Sk lv M sn w->Je w x->GrR w Z.G gv ef->p<=Z.u.size->Z.u.size < p + n->left<=51->Clo Z.u.size (Z.X i) x.1.lazy sn M p->
 Calls Tryz.prog 131 #[.pointer (some ⟨Z.R,0,none⟩),.agg #[.int .i64 x.1.kind,x.2.1,.int .i64 x.1.min,.int .i64 x.1.max,.bool x.1.lazy,.int .i64 x.1.num,x.2.2],.agg #[.int .i64 (p:Int),gv],.int .i64 (left:Int),.slice (some ⟨Sk,0,none⟩) ((Z.u.size + 1) * 52) ((Z.u.size + 1) * 52),.pointer (some ⟨Lb,0,none⟩)] w
  (ZhN w0 Z S Ex Lb Sb Sk lv M sn (Z.X i) x.1.lazy p left ef w)
def Zp3 (w0:World) (Z:Mz) (S Ex:Nat->Prop) (Lb Sb Sk:Nat) (P1 P2 p:Nat) (gv:Value) (ef:Ef) (x:Pm) (lv:Value) (w:World) (Mx:En) (sn:Nat->Nat->Bool) (C:(Nat->Nat->Bool)->Prop) (wc:World):Prop :=
 ∃(lw:Value) (sn':Nat->Nat->Bool),Fs w0 Z S Ex Lb Sb Sk lw Mx sn' wc/\C sn'/\Fk Z Lb Sb Sk w lv wc lw/\Fx Z (.slice none 0 0) [] P1 P2 p gv ef x lw wc
def Zto (w0:World) (Z:Mz) (S Ex:Nat->Prop) (Lb Sb Sk:Nat) (P1 P2 p:Nat) (gv:Value) (ef:Ef) (x:Pm) (lv:Value) (w:World) (lw:Value) (Mx:En) (sn:Nat->Nat->Bool) (F:En) (s50 s51 s52:Value) (wc:World):Prop :=
 ∃(af:Option Addr) (cf:Nat),s50 = .slice af F.length cf/\s51 = .int .i64 (F.length:Int)/\s52 = .int .i64 0/\Fs w0 Z S Ex Lb Sb Sk lw Mx sn wc/\Fk Z Lb Sb Sk w lv wc lw/\Fx Z (.slice af F.length cf) F P1 P2 p gv ef x lw wc
theorem Zfx {sn:Nat->Nat->Bool} {p l q lf:Nat} (h:sn1 sn p l q lf=true):sn q lf=true\/(q=p/\lf=l):=by
 unfold sn1 at h;simp only [Bool.or_eq_true,Bool.and_eq_true,beq_iff_eq] at h;exact h
theorem Zmk {N:Nat} {X:Xs} {lz:Bool} {sn:Nat->Nat->Bool} {M M1:En} {p left:Nat} {ef:Ef} (h:Clo N X lz sn M p) (h1:(if lz then Qu M [(p,ef)] else M)=M1):Clo N X lz (sn1 sn p left) M1 (p + 1):=by
 intro q lf hq hN hs e he
 rcases Zfx hs with hs | ⟨hs,_⟩
 ·have h2:=h q lf (by omega) hN hs e he;rw [<- h1]
  split
  ·exact Za2 _ _ _ h2
  ·exact h2
 ·omega
theorem Zix {N:Nat} {X:Xs} {lz:Bool} {sn sn':Nat->Nat->Bool} {M L:En} {p:Nat} (h:Clo N X lz sn M p) (hn:ZdI N X lz sn sn' (Qu M L)):Hid (Clo N X lz sn' (Qu M L) p):=by
 show Clo _ _ _ _ _ _;intro q lf hq hN hs e he
 rcases hn q lf hN hs with h1 | h1
 ·exact Za2 _ _ _ (h q lf hq hN h1 e he)
 ·exact h1 e he
theorem Zjd {N:Nat} {X:Xs} {lz:Bool} {s0 sn sn':Nat->Nat->Bool} {M L:En} (h:ZdI N X lz s0 sn M) (hn:ZdI N X lz sn sn' (Qu M L)):Hid (ZdI N X lz s0 sn' (Qu M L)):=by
 show ZdI _ _ _ _ _ _;intro q lf hq hs
 rcases hn q lf hq hs with h1 | h1
 ·rcases h q lf hq h1 with h2 | h2
  ·exact Or.inl h2
  ·exact Or.inr fun e he=>Za2 _ _ _ (h2 e he)
 ·exact Or.inr h1
theorem Zos {N:Nat} {X:Xs} (hX:Rng N X) {lz:Bool} {left p:Nat} (hp:p<=N) {ef:Ef} {M M1 M2:En} (h1:(if lz then Qu M [(p,ef)] else M)=M1) (h2:Qu M1 (beh (p,ef) (Zap N X lz left p))=M2):Qu M2 [(p,ef)]=Qu M (beh (p,ef) (fu N X lz left p)):=by
 rw [Zs3 hX lz left p hp]
 cases lz with
 | true =>
   simp only [if_true] at h1 ⊢;have e:beh (p,ef) ((p,eno) :: Zap N X true left p) = [(p,ef)] ++ beh (p,ef) (Zap N X true left p):=by simp [beh,Zhi]
   rw [e,Qr,h1,h2];refine ZbW _ _ (fun y hy=>?_);simp at hy;subst hy;rw [<- h2,<- h1];exact Za2 _ _ _ (ZiK M [(p,ef)] (p,ef) (by simp))
 | false =>
   simp only [Bool.false_eq_true,if_false] at h1 ⊢;have e:beh (p,ef) (Zap N X false left p ++ [(p,eno)])=beh (p,ef) (Zap N X false left p) ++ [(p,ef)]:=by simp [beh,Zhi]
   rw [e,Qr,h1,h2]
theorem ZqO {w0 w wd:World} {Z:Mz} {S Ex:Nat->Prop} {Lb Sb Sk:Nat} {lv l3:Value} {M M1 M2:En} {sn sn2:Nat->Nat->Bool} {X:Xs} {lz:Bool} {p left:Nat} {ef:Ef} (hX:Rng Z.u.size X) (hp:p<=Z.u.size) (h1:(if lz then Qu M [(p,ef)] else M)=M1) (h2:Qu M1 (beh (p,ef) (Zap Z.u.size X lz left p))=M2)
  (hs:Fs w0 Z S Ex Lb Sb Sk l3 (Qu M2 [(p,ef)]) sn2 wd) (hn:ZdI Z.u.size X lz (sn1 sn p left) sn2 M2) (hf:Fk Z Lb Sb Sk w lv wd l3):ZhN w0 Z S Ex Lb Sb Sk lv M sn X lz p left ef w (.returned (.tuple #[])) wd:=by
 have e:=Zos hX hp h1 h2;rw [e] at hs;refine ⟨rfl,l3,sn2,hs,?_,hf⟩;intro q lf hq h
 rcases hn q lf hq h with h3 | h3
 ·rcases Zfx h3 with h4 | ⟨rfl,rfl⟩
  ·exact Or.inl h4
  ·refine Or.inr (fun y hy=>?_);obtain ⟨z,hz,hzy⟩:=ZpN (f:=(q,ef)) hy;rw [<- hzy];exact ZiK _ _ z hz
 ·refine Or.inr (fun y hy=>?_);rw [<- e];exact Za2 _ _ _ (h3 y hy)
theorem Zf3 {w0:World} {Z:Mz} {S Ex:Nat->Prop} {Lb Sb Sk:Nat} {x:Pm} {i n:Nat} (hZ:Ms Z) (hE:Zdy Z i) (hF:ZcB Z S (i + 1)) (hOk:OkX Z.u.size 0 Z.G (Z.X i)) (hk:x.1.kids = [(i:Int)]) (ih:ZsM w0 Z S Ex Lb Sb Sk x i n):ZsM w0 Z S Ex Lb Sb Sk x i (n + 1):=by
 intro w lv M sn p left gv ef hs how hgr hp hn hl hC;have hu:=hZ.u200;obtain ⟨ag,cg,hgv⟩:=Zd hgr;subst hgv;obtain ⟨as1,cs1,he1⟩:=Zd how.1;obtain ⟨as2,cs2,he2⟩:=Zd how.2;obtain ⟨⟨ck,cset,cm,cx,lz,cn,ckd⟩,sv,kv⟩:=x;simp only at he1 he2 hk hC ih how ⊢;subst hk;subst he1 he2;simp only [List.length_singleton] at how ih ⊢;obtain ⟨m,hm⟩ :∃m,(Z.u.size + 1) * 52=m:=⟨_,rfl⟩;have hmb:m<=201 * 52:=by rw [<- hm]; exact Nat.mul_le_mul_right _ (by omega)
 have hkb:p * 52 + left < m:=by rw [<- hm]; omega
 have HM:Hid ((Z.u.size + 1) * 52=m):=hm;rw [hm];clear hm;have HC:Hid (Clo Z.u.size (Z.X i) lz sn M p):=hC;clear hC;unfold ZsM at ih;simp only [HM.out] at ih;go_enter Tryz.func131,Tryz.ntmps131;go_upto_region 1 with fail;have kA:Za N0_ w ((w.alloc (.cells #[.int .i64 ck,.slice as1 cset.length cs1,.int .i64 cm,.int .i64 cx,.bool lz,.int .i64 cn,.slice as2 1 cs2] 114)).alloc (.cells #[.int .i64 (p:Int),.slice ag Z.G cg] 161)):=((Za.refl _ _).alloc _).alloc _;have hx1:Fx Z (.slice none 0 0) [] w.heap.size (w.heap.size + 1) p (.slice ag Z.G cg) ef ({ kind:=ck,set:=cset,min:=cm,max:=cx,lazy:=lz,num:=cn,kids := [(i:Int)] },.slice as1 cset.length cs1,.slice as2 1 cs2) lv ((w.alloc (.cells #[.int .i64 ck,.slice as1 cset.length cs1,.int .i64 cm,.int .i64 cx,.bool lz,.int .i64 cn,.slice as2 1 cs2] 114)).alloc (.cells #[.int .i64 (p:Int),.slice ag Z.G cg] 161)) :=
  ⟨Zdp _ _,fun b h=>by simp [Value.ownBlock] at h,Zbi w _ _,fun h=>by
   obtain ⟨gv,q,_⟩:=hs.wk.ll.ends
   have:=(q.lt _ h).2
   omega,Zbc w _ _,how.same kA,hgr.same kA⟩
 have hs1:=hs.same kA;have hf1:Fk Z Lb Sb Sk w lv _ lv:=(Fk.refl w lv).same kA;generalize ((w.alloc (.cells #[.int .i64 ck,.slice as1 cset.length cs1,.int .i64 cm,.int .i64 cx,.bool lz,.int .i64 cn,.slice as2 1 cs2] 114)).alloc (.cells #[.int .i64 (p:Int),.slice ag Z.G cg] 161))=wa at kA hx1 hs1 hf1 ⊢;generalize w.heap.size + 1=P2 at hx1 ⊢;generalize w.heap.size=P1 at hx1 ⊢;clear hs how hgr kA;have c0:=hx1.c0; have c1:=hx1.c1; have x4:=hx1.x4; have x6:=hx1.x6;simp only at x4 x6;have hkz:(p:Int) * 52 + (left:Int) < (m:Int):=by omega
 have f0:=hs1.fl.cell (p * 52 + left);rw [HM.out,Zby _ _ _ hkb,ZrI _ _ _ (by omega)] at f0;have f1:=hs1.fl.fz (p * 52 + left)
 cases hsn:sn p left with
 | true =>
   rw [hsn] at f0;have hfin:ZhN w0 Z S Ex Lb Sb Sk lv M sn (Z.X i) lz p left ef w (.returned (.tuple #[])) wa:=by
    have e:Qu M (beh (p,ef) (fu Z.u.size (Z.X i) lz left p))=M:=ZbW M _ (fun y hy=>by
     obtain ⟨b,hb,hyb⟩:=Zlk hy;rw [hyb];exact HC.out p left (Nat.le_refl _) hp hsn b hb)
    refine ⟨rfl,lv,sn,?_,?_,hf1⟩
    ·rw [e]; exact hs1
    ·exact fun q lf _ h=>Or.inl h
   clear hsn HC ih hx1 hs1 hf1;go_wp2;go_end0;exact hfin
 | false =>
   rw [hsn] at f0;have hs2:=hs1.mark (p:=p) (l:=left) hp (by omega);have hf2:=hf1.seen (ZL wa Sk (p * 52 + left) (.bool true));have hx2:=hx1.go hs1 (((Fk.refl wa lv):Fk Z Lb Sb Sk wa lv wa lv).seen (ZL wa Sk (p * 52 + left) (.bool true)));go_upto_region 4 with fail;generalize wa.setCell ⟨Sk,p * 52 + left,none⟩ (.bool true)=wb at hs2 hf2 hx2 ⊢;clear hs1 hf1 hx1 c0 c1 x4 x6 f0 f1 hsn;have c0:=hx2.c0; have c1:=hx2.c1; have x4:=hx2.x4;simp only at x4;obtain ⟨M1,hM1⟩ :∃M1,(if lz then Qu M [(p,ef)] else M)=M1:=⟨_,rfl⟩;have HM1:Hid ((if lz then Qu M [(p,ef)] else M)=M1):=hM1;clear hM1;go_upto_if 29 with fail;go_cut [] (fun wc=>Zp3 w0 Z S Ex Lb Sb Sk P1 P2 p (.slice ag Z.G cg) ef ({ kind:=ck,set:=cset,min:=cm,max:=cx,lazy:=lz,num:=cn,kids := [(i:Int)] },.slice as1 cset.length cs1,.slice as2 1 cs2) lv w M1 sn (fun s=>s=sn1 sn p left) wc)
   case first =>
    cases lz with
    | true =>
      have hadd:=Zcp (p:=p) (e:=ef) hZ hs2.wk hx2.g hp;go_wp2_with (first
       | (go_at_call 127; refine hadd.mono ?_; rintro en wd ⟨rfl,lx,hW4,hk4,hb4⟩))
      go_meet;have hfa:=hf2.added hk4 hb4;exact ⟨lx,_,by rw [<- HM1.out]; exact hs2.added hW4 hk4,rfl,hfa,hx2.go hs2 ((Fk.refl wb lv).added hk4 hb4)⟩
    | false =>
      go_wp2_with fail;go_meet;exact ⟨lv,_,by rw [<- HM1.out]; exact hs2,rfl,hf2,hx2⟩
   case rest =>
    obtain ⟨lw,sn',hs3,hsn',hf3,hx3⟩:=hcut;subst hsn';clear hs2 hf2 hx2 c0 c1 x4;have c0:=hx3.c0; have c1:=hx3.c1; have x6:=hx3.x6;simp only at x6;obtain ⟨M2,hM2⟩ :∃M2,Qu M1 (beh (p,ef) (Zap Z.u.size (Z.X i) lz left p))=M2:=⟨_,rfl⟩;have HM2:Hid (Qu M1 (beh (p,ef) (Zap Z.u.size (Z.X i) lz left p))=M2):=hM2;clear hM2;go_upto_if 37 with fail;go_cut [13,15] (fun _ _ wc=>Zp3 w0 Z S Ex Lb Sb Sk P1 P2 p (.slice ag Z.G cg) ef ({ kind:=ck,set:=cset,min:=cm,max:=cx,lazy:=lz,num:=cn,kids := [(i:Int)] },.slice as1 cset.length cs1,.slice as2 1 cs2) lv w M2 sn (fun s=>ZdI Z.u.size (Z.X i) lz (sn1 sn p left) s M2) wc)
    case first =>
     by_cases hl0:left=0
     ·subst hl0;have HM3:Hid (M1=M2):=(by show _ = _; rw [<- HM2.out]; simp [Zap,beh,ZiJ]);go_wp2_with fail;go_meet;exact ⟨lw,_,by rw [<- HM3.out]; exact hs3,fun q lf _ h=>Or.inl h,hf3,hx3⟩
     ·have hlz:(0:Int) < (left:Int):=by omega
      go_upto_if 41 with fail
      obtain ⟨ls,hls⟩ :∃ls,less left=ls:=⟨_,rfl⟩;have HLS:Hid (less left=ls):=hls;clear hls;go_cut [13] (fun s13 wc2=>s13 = .int .i64 (ls:Int)/\wc=wc2)
      case first =>
       by_cases h50:50 < left
       ·have hz50:(50:Int) < (left:Int):=by omega
        have hlsz:ls=left:=by rw [<- HLS.out]; simp [less,h50]
        subst hlsz;go_wp2_with fail;go_meet;exact ⟨rfl,rfl⟩
       ·have hz50:¬ (50:Int) < (left:Int):=by omega
        have hlsz:ls=left - 1:=by rw [<- HLS.out]; simp [less,h50]
        go_wp2_with fail;go_meet;exact ⟨congrArg (Value.int .i64) (by omega),rfl⟩
      case rest =>
       obtain ⟨rfl,rfl⟩:=hcut;have hlsb:ls<=51:=by have:=HLS.out; unfold less at this; split at this <;> omega
       have k0:wc.cell? ⟨P1,6,none⟩=some (.slice as2 1 cs2):=x6;obtain ⟨gk0,ck0,hkv,hgk0⟩:=ZT hx3.ow.2 (by simp);simp only [List.length_singleton,Value.slice.injEq] at hkv;obtain ⟨rfl,_,rfl⟩:=hkv;have kk:wc.cell? ⟨gk0,0,none⟩=some (.int .i64 (i:Int)):=by
        have:=hx3.ow.2.cellAt 0 (by simp)
        simpa [Zgu] using this
       have kd:Za N0_ wc wc.drew:=(Za.refl _ _).drew;have hcall:=Zep hE (hs3.wk.same kd) hF hp;obtain ⟨F,hFe⟩ :∃F,Z.X i p=F:=⟨_,rfl⟩;have HFE:Hid (Z.X i p=F):=hFe;rw [hFe] at hcall;clear hFe;go_upto_region 10 with fail;go_cut [50,51,52] (fun s50 s51 s52 wd=>Zto w0 Z S Ex Lb Sb Sk P1 P2 p (.slice ag Z.G cg) ef ({ kind:=ck,set:=cset,min:=cm,max:=cx,lazy:=lz,num:=cn,kids := [(i:Int)] },.slice as1 cset.length cs1,.slice (some ⟨gk0,0,none⟩) 1 cs2) lv w lw M1 (sn1 sn p left) F s50 s51 s52 wd)
       case first =>
        go_region_with (first
         | (go_at_call 74; refine hcall.mono ?_; rintro en wb2 ⟨fv,rfl,hf,hfn,hW3,hk3⟩; obtain ⟨af,cf,rfl⟩:=hf.form))
        all_goals (try go_wp2_with fail)
        all_goals go_meet
        all_goals exact ⟨af,cf,rfl,rfl,rfl,(hs3.same kd).tabs hW3 hk3,(hf3.same kd).tabs hk3,by
         have hx5:=(hx3.same kd).go (hs3.same kd) ((Fk.refl _ _).tabs hk3);exact ⟨hf,hfn,hx5.b,hx5.bn,hx5.o,hx5.ow,hx5.g⟩⟩
       case rest =>
        obtain ⟨af,cf,rfl,rfl,rfl,hs5,hf5,hx5⟩:=hcut;clear hcall kd hs3 hf3 hx3 c0 c1 x6 k0 kk hgk0;have HRng:Hid (Rng Z.u.size (Z.X i)):=hOk.rng;have HFin:Hid (∀y∈F,y.1<=Z.u.size):=(by show∀_,_; rw [<- HFE.out]; exact fun y hy=>((hOk p hp).2 y hy).2.1);have hFl:F.length<=201:=by
         have:=Zcs (hOk p hp).1 (fun y hy=>((hOk p hp).2 y hy).2.1)
         rw [HFE.out] at this;omega
        have HCl0:Hid (Clo Z.u.size (Z.X i) lz (sn1 sn p left) M1 (p + 1)):=Zmk HC.out HM1.out;go_wp2;go_loopg [15,52] (F.length + 1) (fun gl _ s52 wi =>∃(b:Nat) (lx:Value) (Mb:En) (snb:Nat->Nat->Bool),b + gl=F.length + 1/\b<=F.length/\s52 = .int .i64 (b:Int)/\Hid (Mb=Qu M1 (ZaX Z.u.size (Z.X i) lz left p ef (F.take b)))/\Hid (Clo Z.u.size (Z.X i) lz snb Mb (p + 1))/\Hid (ZdI Z.u.size (Z.X i) lz (sn1 sn p left) snb Mb)/\Fs w0 Z S Ex Lb Sb Sk lx Mb snb wi/\Fk Z Lb Sb Sk w lv wi lx/\Fx Z (.slice af F.length cf) F P1 P2 p (.slice ag Z.G cg) ef ({ kind:=ck,set:=cset,min:=cm,max:=cx,lazy:=lz,num:=cn,kids := [(i:Int)] },.slice as1 cset.length cs1,.slice (some ⟨gk0,0,none⟩) 1 cs2) lx wi)
        case atStart=>exact ⟨0,lw,M1,_,by omega,by omega,rfl,(by show _ = _; simp [Zjx,ZiJ]),HCl0,(by show ZdI _ _ _ _ _ _; exact fun q lf _ h=>Or.inl h),hs5,hf5,hx5⟩
        case round =>
         clear hs5 hf5 hx5 HCl0;obtain ⟨b,lx,Mb,snb,hgl,hb,rfl,HMb,HCb,HNb,hs6,hf6,hx6⟩:=hrel;have HG:Hid (b + gk=F.length + 1):=hgl;clear hgl
         by_cases hlt:b < F.length
         ·have hz2:(b:Int) < (F.length:Int):=by omega
          obtain ⟨g2,cap2,ah,ch,hv2,hg2,a0,a1,hgr2⟩:=hx6.f.at hlt;simp only [Value.slice.injEq] at hv2;obtain ⟨rfl,_,rfl⟩:=hv2;have hqe:=HFin.out F[b] (List.getElem_mem hlt);have hSn:=Zhb Z.u.size (Z.X i) lz left p ef (F.take b) F[b];rw [<- QY F b hlt] at hSn;have HSn:Hid (ZaX Z.u.size (Z.X i) lz left p ef (F.take (b + 1))=ZaX Z.u.size (Z.X i) lz left p ef (F.take b) ++ (if p < F[b].1 then beh (F[b].1,eov ef F[b].2) (fu Z.u.size (Z.X i) lz (less left) F[b].1) else [])):=hSn;clear hSn;generalize F[b]=f at a0 a1 hgr2 hqe HSn;obtain ⟨q,hf⟩:=f;simp only at a0 a1 hgr2 hqe HSn;go_upto_region 13 with fail;have kA:Za N0_ wr (wr.alloc (.cells #[.int .i64 (q:Int),.slice ah Z.G ch] 161)):=(Za.refl _ _).alloc _;have hQ:Bk (wr.alloc (.cells #[.int .i64 (q:Int),.slice ah Z.G ch] 161)) wr.heap.size 161 [.int .i64 (q:Int),.slice ah Z.G ch]:=Qz wr _ _;have HQn:Hid (lx.ownBlock≠some wr.heap.size):=(by
           show _≠_;intro h;obtain ⟨gv,q9,_⟩:=hs6.wk.ll.ends
           have:=(q9.lt _ h).2
           omega)
          have hs7:=hs6.same kA;have hf7:=hf6.same kA;have hx7:=hx6.same kA;have hg3:=hgr2.same kA;generalize wr.alloc (.cells #[.int .i64 (q:Int),.slice ah Z.G ch] 161)=wa2 at kA hQ hs7 hf7 hx7 hg3 ⊢;generalize wr.heap.size=Q at hQ HQn ⊢;clear kA hs6 hf6 hx6 hgr2 a0 a1 hg2;have q0:wa2.cell? ⟨Q,0,none⟩=some (.int .i64 (q:Int)):=by rw [hQ.cell]; rfl
          have q1:wa2.cell? ⟨Q,1,none⟩=some (.slice ah Z.G ch):=by rw [hQ.cell]; rfl
          have c0:=hx7.c0
          by_cases hqp:p < q
          ·have hqz:(p:Int) < (q:Int):=by omega
           have HMn:Hid (Qu Mb (beh (q,eov ef hf) (fu Z.u.size (Z.X i) lz ls q))=Qu M1 (ZaX Z.u.size (Z.X i) lz left p ef (F.take (b + 1)))):=(by
            show _ = _
            have:=HSn.out
            rw [if_pos hqp,HLS.out] at this;rw [this,Qr,HMb.out])
           go_upto_region 14 with fail
           have kd:Za N0_ wa2 wa2.drew:=(Za.refl _ _).drew;have hs8:=hs7.same kd;have hf8:=hf7.same kd;have hx8:=hx7.same kd;have hg4:=hg3.same kd;have hQ8:=hQ.keeps kd id;have hov:=ZeJ hx8.g hg4 hZ.g9;have c1:=hx7.c1; have x0:=hx7.x0; have x1:=hx7.x1; have x2:=hx7.x2; have x3:=hx7.x3; have x4:=hx7.x4; have x5:=hx7.x5; have x6:=hx7.x6;simp only at x0 x1 x2 x3 x4 x5 x6;have hQn:lx.ownBlock≠some Q:=HQn.out;have MK:Hid (∀(w':World) (l':Value),Fx Z (.slice (some ⟨g2,0,none⟩) F.length cf) F P1 P2 p (.slice ag Z.G cg) ef ({ kind:=ck,set:=cset,min:=cm,max:=cx,lazy:=lz,num:=cn,kids := [(i:Int)] },.slice as1 cset.length cs1,.slice (some ⟨gk0,0,none⟩) 1 cs2) l' w'->Bk w' Q 161 [.int .i64 (q:Int),.slice ah Z.G ch]->w'.cell? ⟨Q,0,none⟩=some (.int .i64 (q:Int))/\w'.cell? ⟨Q,1,none⟩=some (.slice ah Z.G ch)/\w'.cell? ⟨P2,1,none⟩=some (.slice ag Z.G cg)/\w'.cell? ⟨P1,0,none⟩=some (.int .i64 ck)/\w'.cell? ⟨P1,1,none⟩=some (.slice as1 cset.length cs1)/\w'.cell? ⟨P1,2,none⟩=some (.int .i64 cm)/\w'.cell? ⟨P1,3,none⟩=some (.int .i64 cx)/\w'.cell? ⟨P1,4,none⟩=some (.bool lz)/\w'.cell? ⟨P1,5,none⟩=some (.int .i64 cn)/\w'.cell? ⟨P1,6,none⟩=some (.slice (some ⟨gk0,0,none⟩) 1 cs2)):=(by
            show∀_,_
            intro w' l' h hq;exact ⟨by rw [hq.cell]; rfl,by rw [hq.cell]; rfl,h.c1,h.x0,h.x1,h.x2,h.x3,h.x4,h.x5,h.x6⟩)
           have hS0:=MK.out _ _ hx8 hQ8;clear kd hs7 hf7 hx7 hg3 hQ c0 c1 x0 x1 x2 x3 x4 x5 x6 q0 q1;go_region_held3 (fun w'=>w'.cell? ⟨Q,0,none⟩=some (.int .i64 (q:Int))/\w'.cell? ⟨Q,1,none⟩=some (.slice ah Z.G ch)/\w'.cell? ⟨P2,1,none⟩=some (.slice ag Z.G cg)/\w'.cell? ⟨P1,0,none⟩=some (.int .i64 ck)/\w'.cell? ⟨P1,1,none⟩=some (.slice as1 cset.length cs1)/\w'.cell? ⟨P1,2,none⟩=some (.int .i64 cm)/\w'.cell? ⟨P1,3,none⟩=some (.int .i64 cx)/\w'.cell? ⟨P1,4,none⟩=some (.bool lz)/\w'.cell? ⟨P1,5,none⟩=some (.int .i64 cn)/\w'.cell? ⟨P1,6,none⟩=some (.slice (some ⟨gk0,0,none⟩) 1 cs2)) (first | assumption | go_keep) (first
            | (go_at_call 129; refine hov.mono ?_; rintro en wz ⟨gw,rfl,hgw,hkc,-⟩; replace hs8:=hs8.same hkc; replace hf8:=hf8.same hkc; replace hx8:=hx8.same hkc; replace hQ8:=hQ8.keeps hkc id; obtain ⟨aw,cw,rfl⟩:=Zd hgw; have hS1:=MK.out _ _ hx8 hQ8)
            | (go_at_call 131; refine (ih wz lx Mb snb q ls _ (eov ef hf) hs8 hx8.ow hgw hqe (by omega) hlsb (fun q2 lf h1 h2 h3=>HCb.out q2 lf (by omega) h2 h3)).mono ?_; rintro en wy ⟨rfl,ly,sny,hsy,hny,hfy⟩; have hS2:=MK.out _ _ (hx8.go hs8 hfy) (hs8.sideB hfy hQ8 hQn).1))
           all_goals (try go_wp2_with fail)
           all_goals go_roundg (gk - 1)
           all_goals first | (have:=HG.out; omega) | exact ⟨b + 1,ly,_,sny,by have:=HG.out; omega,by omega,congrArg (Value.int .i64) (by omega),HMn,Zix HCb.out hny,Zjd HNb.out hny,hsy,hf8.trans hfy,hx8.go hs8 hfy⟩
          ·have hqz:¬ (p:Int) < (q:Int):=by omega
           have HMn:Hid (Mb=Qu M1 (ZaX Z.u.size (Z.X i) lz left p ef (F.take (b + 1)))):=(by
            show _ = _
            have:=HSn.out
            rw [if_neg hqp,List.append_nil] at this;rw [this,HMb.out])
           go_wp2_with fail;go_roundg (gk - 1)
           case measure=>have:=HG.out; omega
           case rel=>exact ⟨b + 1,lx,Mb,snb,by have:=HG.out; omega,by omega,congrArg (Value.int .i64) (by omega),HMn,HCb,HNb,hs7,hf7,hx7⟩
         ·obtain rfl:b=F.length:=by omega
          have HMe:Hid (Mb=M2):=(by
           show _ = _;rw [HMb.out,List.take_length,<- HM2.out,<- HFE.out,Zjy _ _ _ _ _ _ hl0])
          go_wp2_with fail;go_meet;exact ⟨lx,snb,by rw [<- HMe.out]; exact hs6,by rw [<- HMe.out]; exact HNb.out,hf6,⟨Zdp _ _,fun b h=>by simp [Value.ownBlock] at h,hx6.b,hx6.bn,hx6.o,hx6.ow,hx6.g⟩⟩
    case rest =>
     obtain ⟨l2,sn2,hs4,hnew,hf4,hx4⟩:=hcut;clear hs3 hf3 hx3 c0 c1 x6;have c0:=hx4.c0; have c1:=hx4.c1;have hadd:=Zcp (p:=p) (e:=ef) hZ hs4.wk hx4.g hp;go_wp2_with (first
      | (go_at_call 127; refine hadd.mono ?_; rintro en wd ⟨rfl,l3,hW5,hk5,hb5⟩))
     go_end0;exact ZqO hOk.rng hp HM1.out HM2.out (hs4.added hW5 hk5) hnew (hf4.added hk5 hb5)
theorem ZaG (L:List Pm) (j i:Nat) (hj:j < L.length) (hi:i < 7):(L.flatMap Zcl)[j * 7 + i]? = (Zcl (L[j]'hj))[i]?:=by
 induction L generalizing j with
 | nil=>simp at hj
 | cons x L ih =>
   cases j with
   | zero =>
     rw [List.flatMap_cons,List.getElem?_append_left (by simp [Zcl]; omega)];simp
   | succ j =>
     have:=ih j (by simpa using hj)
     rw [List.flatMap_cons,List.getElem?_append_right (by simp [Zcl]; omega)];have e:(j + 1) * 7 + i - (Zcl x).length=j * 7 + i:=by simp [Zcl]; omega
     rw [e,this];simp
theorem Pcs.same {w w':World} {v:Value} {L:List Pm} (h:Pcs w v L) (hk:Za N0_ w w'):Pcs w' v L :=
 ⟨Zb h.row hk (fun _ _ h=>h),fun x hx=>(h.rows x hx).same hk⟩
theorem JQ {w:World} {g cap:Nat} {L:List Pm} (h:Pcs w (.slice (some ⟨g,0,none⟩) L.length cap) L) {j:Nat} (hj:j < L.length) :
  w.cell? ⟨g,j * 7,none⟩=some (.int .i64 (L[j]'hj).1.kind)/\w.cell? ⟨g,j * 7 + 1,none⟩=some (L[j]'hj).2.1/\w.cell? ⟨g,j * 7 + 2,none⟩=some (.int .i64 (L[j]'hj).1.min)/\w.cell? ⟨g,j * 7 + 3,none⟩=some (.int .i64 (L[j]'hj).1.max)/\
  w.cell? ⟨g,j * 7 + 4,none⟩=some (.bool (L[j]'hj).1.lazy)/\w.cell? ⟨g,j * 7 + 5,none⟩=some (.int .i64 (L[j]'hj).1.num)/\w.cell? ⟨g,j * 7 + 6,none⟩=some (L[j]'hj).2.2:=by
 have hc:=h.row.cellAt;refine ⟨?_,?_,?_,?_,?_,?_,?_⟩
 ·have e:=hc (j * 7) (by omega); rw [e]; exact ZaG L j 0 hj (by omega)
 ·rw [hc (j * 7 + 1) (by omega)]; exact ZaG L j 1 hj (by omega)
 ·rw [hc (j * 7 + 2) (by omega)]; exact ZaG L j 2 hj (by omega)
 ·rw [hc (j * 7 + 3) (by omega)]; exact ZaG L j 3 hj (by omega)
 ·rw [hc (j * 7 + 4) (by omega)]; exact ZaG L j 4 hj (by omega)
 ·rw [hc (j * 7 + 5) (by omega)]; exact ZaG L j 5 hj (by omega)
 ·rw [hc (j * 7 + 6) (by omega)]; exact ZaG L j 6 hj (by omega)
structure Wp (w0:World) (Z:Mz) (S Ex:Nat->Prop) (Lb Sb:Nat) (lv:Value) (M:En) (P1:Nat) (x:Pm) (w:World):Prop where
 wk:Wk w0 Z S Ex Lb Sb lv M w
 o:w.heap[P1]? = some (.cells #[.int .i64 x.1.kind,x.2.1,.int .i64 x.1.min,.int .i64 x.1.max,.bool x.1.lazy,.int .i64 x.1.num,x.2.2] 114 (0,0))
 ow:Je w x
namespace Wp
variable {w0 w w':World} {Z:Mz} {S Ex:Nat->Prop} {Lb Sb P1:Nat} {lv lv':Value} {M M':En} {x:Pm}
theorem same (h:Wp w0 Z S Ex Lb Sb lv M P1 x w) (k:Za N0_ w w'):Wp w0 Z S Ex Lb Sb lv M P1 x w':=⟨h.wk.same k,by rw [k.block P1 (lt_of_block h.o) id]; exact h.o,h.ow.same k⟩
theorem added (h:Wp w0 Z S Ex Lb Sb lv M P1 x w) (hw:Wk w0 Z S Ex Lb Sb lv' M' w') (k:Za (ExL Lb Sb lv) w w'):Wp w0 Z S Ex Lb Sb lv' M' P1 x w' :=
 ⟨hw,by rw [k.block P1 (lt_of_block h.o) (h.wk.exT.not h.o (by decide))]; exact h.o,⟨Zb h.ow.1 k (h.wk.exT.own h.ow.1 (by decide)),Zb h.ow.2 k (h.wk.exT.own h.ow.2 (by decide))⟩⟩
theorem tabs (h:Wp w0 Z S Ex Lb Sb lv M P1 x w) (hw:Wk w0 Z S Ex Lb Sb lv M w') (k:Za (ExM Z) w w'):Wp w0 Z S Ex Lb Sb lv M P1 x w' :=
 ⟨hw,by rw [k.block P1 (lt_of_block h.o) (h.wk.mi.exM.not h.o (by decide))]; exact h.o,⟨Zb h.ow.1 k (h.wk.mi.exM.own h.ow.1 (by decide)),Zb h.ow.2 k (h.wk.mi.exM.own h.ow.2 (by decide))⟩⟩
theorem x0 (h:Wp w0 Z S Ex Lb Sb lv M P1 x w):w.cell? ⟨P1,0,none⟩=some (.int .i64 x.1.kind):=by rw [Zc h.o]; rfl
theorem x1 (h:Wp w0 Z S Ex Lb Sb lv M P1 x w):w.cell? ⟨P1,1,none⟩=some x.2.1:=by rw [Zc h.o]; rfl
theorem x2 (h:Wp w0 Z S Ex Lb Sb lv M P1 x w):w.cell? ⟨P1,2,none⟩=some (.int .i64 x.1.min):=by rw [Zc h.o]; rfl
theorem x3 (h:Wp w0 Z S Ex Lb Sb lv M P1 x w):w.cell? ⟨P1,3,none⟩=some (.int .i64 x.1.max):=by rw [Zc h.o]; rfl
theorem x5 (h:Wp w0 Z S Ex Lb Sb lv M P1 x w):w.cell? ⟨P1,5,none⟩=some (.int .i64 x.1.num):=by rw [Zc h.o]; rfl
theorem x6 (h:Wp w0 Z S Ex Lb Sb lv M P1 x w):w.cell? ⟨P1,6,none⟩=some x.2.2:=by rw [Zc h.o]; rfl
end Wp
theorem Jo {w w1 w':World} {Z:Mz} {S Ex:Nat->Prop} {Lb Sb i p:Nat} {lv:Value} {M:En} (h:Wk w1 Z S Ex Lb Sb lv M w') (k:Za N0_ w w1) (hM:Z.X i p=M):Zbe Z S Ex i p w (.returned lv) w' :=
 ⟨lv,rfl,by rw [hM]; exact h.ll.ends,fun b hb hx=>by have h1:=h.lv0 b hb; have h2:=h.ex b hx; omega,h.mi.exc (fun k _ hk=>Or.inl hk),(k.mono (fun _ _ h=>h.elim)).trans h.kp⟩
theorem ZiN {Z:Mz} (hZ:Ms Z) {i:Nat} (hi:i < Z.ps.length) {c:Pc} (hc:Z.ps[i]? = some c) (hkind:c.kind=6):Zgp Z i:=by
 intro w S Ex p hM hF hX hp;have hu:=hZ.u200;have hfew:=hZ.few;have hLl:Z.L.length=Z.ps.length:=by rw [<- hZ.lps,List.length_map]
 have hlt:i < Z.L.length:=by omega
 obtain ⟨gp,cp,hpv,hgp⟩:=ZT hM.pcs.row (by omega);have hP0:Pcs w (.slice (some ⟨gp,0,none⟩) Z.L.length cp) Z.L:=by rw [<- hpv]; exact hM.pcs
 have hA:=JQ hP0 hlt;have how:=hM.pcs.rows _ (List.getElem_mem hlt);have hxe:(Z.L[i]'hlt).1=c:=by
  have h1:Z.ps[i]? = some (Z.L[i]'hlt).1:=by rw [<- hZ.lps,List.getElem?_map,List.getElem?_eq_getElem hlt]; rfl
  rw [hc] at h1;exact (Option.some.inj h1).symm
 have HXI:Hid (Z.X i=pcX Z.u c (fun k=>Z.X k.toNat)):=J3 hZ.vps hc;have hvp:=hZ.vps i c hc;have hset:=hZ.sets c (List.mem_of_getElem? hc);generalize Z.L[i]'hlt=x at hA how hxe;obtain ⟨c',sv,kv⟩:=x;simp only at hxe;subst hxe;obtain ⟨as1,cs1,he1⟩:=Zd how.1;obtain ⟨as2,cs2,he2⟩:=Zd how.2;simp only at he1 he2 hA;subst he1 he2;obtain ⟨q0,q1,q2,q3,q4,q5,q6⟩:=hA;obtain ⟨ck,cset,cm,cx,lz,cn,ckd⟩:=c';simp only at q0 q1 q2 q3 q4 q5 q6 hkind hvp hset how;subst hkind;have hiz:(i:Int) < (Z.L.length:Int):=by omega
 have m3:=hM.mc.c3;rw [hpv] at m3;have kA:Za N0_ w (w.alloc (.cells #[.int .i64 6,.slice as1 cset.length cs1,.int .i64 cm,.int .i64 cx,.bool lz,.int .i64 cn,.slice as2 ckd.length cs2] 114)):=(Za.refl _ _).alloc _;have hO1:(w.alloc (.cells #[.int .i64 6,.slice as1 cset.length cs1,.int .i64 cm,.int .i64 cx,.bool lz,.int .i64 cn,.slice as2 ckd.length cs2] 114)).heap[w.heap.size]? = some (.cells #[.int .i64 6,.slice as1 cset.length cs1,.int .i64 cm,.int .i64 cx,.bool lz,.int .i64 cn,.slice as2 ckd.length cs2] 114 (0,0)):=heap_alloc_new w _;have hem:=J4 hZ (hM.same kA) (fun k hk=>Nat.lt_of_lt_of_le (hX k hk) kA.size);have how1:=how.same kA;have HX:Hid (∀k,Ex k->k < w.heap.size):=hX;go_enter Tryz.func94,Tryz.ntmps94;go_upto_region 2 with fail;generalize w.alloc (.cells #[.int .i64 6,.slice as1 cset.length cs1,.int .i64 cm,.int .i64 cx,.bool lz,.int .i64 cn,.slice as2 ckd.length cs2] 114)=w1 at kA hO1 hem how1 ⊢;generalize w.heap.size=P1 at hO1 ⊢;clear q0 q1 q2 q3 q4 q5 q6 m3 hP0 hpv hgp how hX hM hc hlt hLl hiz;go_upto_region 3 with (first
  | (go_at_call 125; refine hem.mono ?_; rintro e w2 ⟨Lb,Sb,rfl,hW,hk2⟩))
 have hW2:Wp w1 Z S Ex Lb Sb (.slice none 0 0) [] P1 ({ kind:=6,set:=cset,min:=cm,max:=cx,lazy:=lz,num:=cn,kids:=ckd },.slice as1 cset.length cs1,.slice as2 ckd.length cs2) w2:=⟨hW,by rw [hk2.block P1 (lt_of_block hO1) id]; exact hO1,how1.same hk2⟩;clear hem hW hO1 how1 hk2;have x0:=hW2.x0;simp only at x0;have HXp:Hid (Z.X i p=atX 0 p):=(by show _ = _; rw [HXI.out]; simp [pcX])
 by_cases hp0:p=0
 ·subst hp0;have hno:=Za7 hW2.wk.mi.mc hZ.g9;go_wp2_with (first
   | (go_at_call 128; refine hno.mono ?_; rintro e w3 ⟨gv,rfl,hgv,hk3,-⟩; obtain ⟨ag,cg,rfl⟩:=Zd hgv; have hW3:=hW2.same hk3)
   | (go_at_call 127; refine (Zcp (p:=0) (e:=eno) hZ hW3.wk hgv (by omega)).mono ?_; rintro e w4 ⟨rfl,lx,hW4,hk4,hb4⟩; obtain ⟨al,cl,hlx⟩:=hW4.ll.ends.form; subst hlx; have c1:=hW4.ll.c1))
  go_ret;exact Jo hW4 kA (by rw [HXp.out]; simp [atX,Qu,dd,sal,sno])
 ·have hpz:((p:Int) == 0)=false:=by simp; omega
  have c1:=hW2.wk.ll.c1;go_wp2_with fail;go_ret;exact Jo hW2.wk kA (by rw [HXp.out]; simp [atX,hp0])
theorem Znf {Z:Mz} (hZ:Ms Z) {i:Nat} (hi:i < Z.ps.length) {c:Pc} (hc:Z.ps[i]? = some c) (hkind:c.kind=7):Zgp Z i:=by
 intro w S Ex p hM hF hX hp;have hu:=hZ.u200;have hfew:=hZ.few;have hLl:Z.L.length=Z.ps.length:=by rw [<- hZ.lps,List.length_map]
 have hlt:i < Z.L.length:=by omega
 obtain ⟨gp,cp,hpv,hgp⟩:=ZT hM.pcs.row (by omega);have hP0:Pcs w (.slice (some ⟨gp,0,none⟩) Z.L.length cp) Z.L:=by rw [<- hpv]; exact hM.pcs
 have hA:=JQ hP0 hlt;have how:=hM.pcs.rows _ (List.getElem_mem hlt);have hxe:(Z.L[i]'hlt).1=c:=by
  have h1:Z.ps[i]? = some (Z.L[i]'hlt).1:=by rw [<- hZ.lps,List.getElem?_map,List.getElem?_eq_getElem hlt]; rfl
  rw [hc] at h1;exact (Option.some.inj h1).symm
 have HXI:Hid (Z.X i=pcX Z.u c (fun k=>Z.X k.toNat)):=J3 hZ.vps hc;have hvp:=hZ.vps i c hc;have hset:=hZ.sets c (List.mem_of_getElem? hc);generalize Z.L[i]'hlt=x at hA how hxe;obtain ⟨c',sv,kv⟩:=x;simp only at hxe;subst hxe;obtain ⟨as1,cs1,he1⟩:=Zd how.1;obtain ⟨as2,cs2,he2⟩:=Zd how.2;simp only at he1 he2 hA;subst he1 he2;obtain ⟨q0,q1,q2,q3,q4,q5,q6⟩:=hA;obtain ⟨ck,cset,cm,cx,lz,cn,ckd⟩:=c';simp only at q0 q1 q2 q3 q4 q5 q6 hkind hvp hset how;subst hkind;have hiz:(i:Int) < (Z.L.length:Int):=by omega
 have m3:=hM.mc.c3;rw [hpv] at m3;have kA:Za N0_ w (w.alloc (.cells #[.int .i64 7,.slice as1 cset.length cs1,.int .i64 cm,.int .i64 cx,.bool lz,.int .i64 cn,.slice as2 ckd.length cs2] 114)):=(Za.refl _ _).alloc _;have hO1:(w.alloc (.cells #[.int .i64 7,.slice as1 cset.length cs1,.int .i64 cm,.int .i64 cx,.bool lz,.int .i64 cn,.slice as2 ckd.length cs2] 114)).heap[w.heap.size]? = some (.cells #[.int .i64 7,.slice as1 cset.length cs1,.int .i64 cm,.int .i64 cx,.bool lz,.int .i64 cn,.slice as2 ckd.length cs2] 114 (0,0)):=heap_alloc_new w _;have hem:=J4 hZ (hM.same kA) (fun k hk=>Nat.lt_of_lt_of_le (hX k hk) kA.size);have how1:=how.same kA;have HX:Hid (∀k,Ex k->k < w.heap.size):=hX;go_enter Tryz.func94,Tryz.ntmps94;go_upto_region 2 with fail;generalize w.alloc (.cells #[.int .i64 7,.slice as1 cset.length cs1,.int .i64 cm,.int .i64 cx,.bool lz,.int .i64 cn,.slice as2 ckd.length cs2] 114)=w1 at kA hO1 hem how1 ⊢;generalize w.heap.size=P1 at hO1 ⊢;clear q0 q1 q2 q3 q4 q5 q6 m3 hP0 hpv hgp how hX hM hc hlt hLl hiz;go_upto_region 3 with (first
  | (go_at_call 125; refine hem.mono ?_; rintro e w2 ⟨Lb,Sb,rfl,hW,hk2⟩))
 have hW2:Wp w1 Z S Ex Lb Sb (.slice none 0 0) [] P1 ({ kind:=7,set:=cset,min:=cm,max:=cx,lazy:=lz,num:=cn,kids:=ckd },.slice as1 cset.length cs1,.slice as2 ckd.length cs2) w2:=⟨hW,by rw [hk2.block P1 (lt_of_block hO1) id]; exact hO1,how1.same hk2⟩;clear hem hW hO1 how1 hk2;have x0:=hW2.x0;simp only at x0;have HXp:Hid (Z.X i p=atX Z.u.size p):=(by show _ = _; rw [HXI.out]; simp [pcX]);have c4:=hW2.wk.mi.mc.c4
 by_cases hp0:p=Z.u.size
 ·have hpz:((p:Int) == (Z.u.size:Int))=true:=by simp; omega
  have HP:Hid (p=Z.u.size):=hp0;clear hp0;have hno:=Za7 hW2.wk.mi.mc hZ.g9;go_wp2_with (first
   | (go_at_call 128; refine hno.mono ?_; rintro e w3 ⟨gv,rfl,hgv,hk3,-⟩; obtain ⟨ag,cg,rfl⟩:=Zd hgv; have hW3:=hW2.same hk3)
   | (go_at_call 127; refine (Zcp (p:=p) (e:=eno) hZ hW3.wk hgv hp).mono ?_; rintro e w4 ⟨rfl,lx,hW4,hk4,hb4⟩; obtain ⟨al,cl,hlx⟩:=hW4.ll.ends.form; subst hlx; have c1:=hW4.ll.c1))
  go_ret;exact Jo hW4 kA (by rw [HXp.out,<- HP.out]; simp [atX,Qu,dd,sal,sno])
 ·have hpz:((p:Int) == (Z.u.size:Int))=false:=by simp; omega
  have c1:=hW2.wk.ll.c1;have HP:Hid (¬ p=Z.u.size):=hp0;clear hp0;go_wp2_with fail;go_ret;exact Jo hW2.wk kA (by rw [HXp.out]; simp [atX,HP.out])
theorem Znb {Z:Mz} (hZ:Ms Z) {i:Nat} (hi:i < Z.ps.length) {c:Pc} (hc:Z.ps[i]? = some c) (hkind:c.kind=1):Zgp Z i:=by
 intro w S Ex p hM hF hX hp;have hu:=hZ.u200;have hfew:=hZ.few;have hLl:Z.L.length=Z.ps.length:=by rw [<- hZ.lps,List.length_map]
 have hlt:i < Z.L.length:=by omega
 obtain ⟨gp,cp,hpv,hgp⟩:=ZT hM.pcs.row (by omega);have hP0:Pcs w (.slice (some ⟨gp,0,none⟩) Z.L.length cp) Z.L:=by rw [<- hpv]; exact hM.pcs
 have hA:=JQ hP0 hlt;have how:=hM.pcs.rows _ (List.getElem_mem hlt);have hxe:(Z.L[i]'hlt).1=c:=by
  have h1:Z.ps[i]? = some (Z.L[i]'hlt).1:=by rw [<- hZ.lps,List.getElem?_map,List.getElem?_eq_getElem hlt]; rfl
  rw [hc] at h1;exact (Option.some.inj h1).symm
 have HXI:Hid (Z.X i=pcX Z.u c (fun k=>Z.X k.toNat)):=J3 hZ.vps hc;have hvp:=hZ.vps i c hc;have hset:=hZ.sets c (List.mem_of_getElem? hc);generalize Z.L[i]'hlt=x at hA how hxe;obtain ⟨c',sv,kv⟩:=x;simp only at hxe;subst hxe;obtain ⟨as1,cs1,he1⟩:=Zd how.1;obtain ⟨as2,cs2,he2⟩:=Zd how.2;simp only at he1 he2 hA;subst he1 he2;obtain ⟨q0,q1,q2,q3,q4,q5,q6⟩:=hA;obtain ⟨ck,cset,cm,cx,lz,cn,ckd⟩:=c';simp only at q0 q1 q2 q3 q4 q5 q6 hkind hvp hset how;subst hkind;have hiz:(i:Int) < (Z.L.length:Int):=by omega
 have m3:=hM.mc.c3;rw [hpv] at m3;have kA:Za N0_ w (w.alloc (.cells #[.int .i64 1,.slice as1 cset.length cs1,.int .i64 cm,.int .i64 cx,.bool lz,.int .i64 cn,.slice as2 ckd.length cs2] 114)):=(Za.refl _ _).alloc _;have hO1:(w.alloc (.cells #[.int .i64 1,.slice as1 cset.length cs1,.int .i64 cm,.int .i64 cx,.bool lz,.int .i64 cn,.slice as2 ckd.length cs2] 114)).heap[w.heap.size]? = some (.cells #[.int .i64 1,.slice as1 cset.length cs1,.int .i64 cm,.int .i64 cx,.bool lz,.int .i64 cn,.slice as2 ckd.length cs2] 114 (0,0)):=heap_alloc_new w _;have hem:=J4 hZ (hM.same kA) (fun k hk=>Nat.lt_of_lt_of_le (hX k hk) kA.size);have how1:=how.same kA;have HX:Hid (∀k,Ex k->k < w.heap.size):=hX;go_enter Tryz.func94,Tryz.ntmps94;go_upto_region 2 with fail;generalize w.alloc (.cells #[.int .i64 1,.slice as1 cset.length cs1,.int .i64 cm,.int .i64 cx,.bool lz,.int .i64 cn,.slice as2 ckd.length cs2] 114)=w1 at kA hO1 hem how1 ⊢;generalize w.heap.size=P1 at hO1 ⊢;clear q0 q1 q2 q3 q4 q5 q6 m3 hP0 hpv hgp how hX hM hc hlt hLl hiz;go_upto_region 3 with (first
  | (go_at_call 125; refine hem.mono ?_; rintro e w2 ⟨Lb,Sb,rfl,hW,hk2⟩))
 have hW2:Wp w1 Z S Ex Lb Sb (.slice none 0 0) [] P1 ({ kind:=1,set:=cset,min:=cm,max:=cx,lazy:=lz,num:=cn,kids:=ckd },.slice as1 cset.length cs1,.slice as2 ckd.length cs2) w2:=⟨hW,by rw [hk2.block P1 (lt_of_block hO1) id]; exact hO1,how1.same hk2⟩;clear hem hW hO1 how1 hk2;have x0:=hW2.x0;simp only at x0;have HXp:Hid (Z.X i p=ZpG (fun q=>decide (q < Z.u.size) && inR cset (bt Z.u q)) p):=(by show _ = _; rw [HXI.out]; simp [pcX]);have c4:=hW2.wk.mi.mc.c4;have x1:=hW2.x1;simp only at x1
 by_cases hps:p < Z.u.size
 ·have hpz:(p:Int) < (Z.u.size:Int):=by omega
  have hbt:Z.u[p].toNat=bt Z.u p:=(ZV hps).symm;have hblt:=Q9 hps;have HB:Hid (Z.X i p=if inR cset (bt Z.u p) then [(p + 1,eno)] else []):=(by show _ = _; rw [HXp.out]; simp [ZpG,hps]);clear HXp;generalize bt Z.u p=b at hbt hblt HB;have kd:Za N0_ w2 w2.drew:=(Za.refl _ _).drew;have hWd:=hW2.same kd;have hS0:w2.drew.cell? ⟨Z.R,4,none⟩=some (.string Z.u)/\w2.drew.cell? ⟨P1,1,none⟩=some (.slice as1 cset.length cs1):=⟨hWd.wk.mi.mc.c4,hWd.x1⟩;have hin:=Zn8 (hW2.same kd).ow.1 hblt (by simp only; omega);simp only at hin;go_upto_region 12 with fail
  cases hib:inR cset (b:Int) with
  | true =>
    rw [hib] at hin;go_cut [74] (fun s wc=>s = .bool true/\Za N0_ w2 wc)
    case first =>
     go_region_held3 (fun w'=>w'.cell? ⟨Z.R,4,none⟩=some (.string Z.u)/\w'.cell? ⟨P1,1,none⟩=some (.slice as1 cset.length cs1)) (first | assumption | go_keep) (first
      | (go_at_call 126; refine hin.mono ?_; rintro e w3 ⟨rfl,hk3⟩; have hS3:w3.cell? ⟨Z.R,4,none⟩=some (.string Z.u)/\w3.cell? ⟨P1,1,none⟩=some (.slice as1 cset.length cs1):=⟨(hWd.same hk3).wk.mi.mc.c4,(hWd.same hk3).x1⟩))
     all_goals (try go_wp2_with fail)
     all_goals go_meet
     all_goals exact ⟨rfl,kd.trans hk3⟩
    case rest =>
     obtain ⟨rfl,hk3⟩:=hcut;have hW3:=hW2.same hk3;have hno:=Za7 hW3.wk.mi.mc hZ.g9;go_wp2_with (first
      | (go_at_call 128; refine hno.mono ?_; rintro e w4 ⟨gv,rfl,hgv,hk4,-⟩; obtain ⟨ag,cg,rfl⟩:=Zd hgv; have hW4:=hW3.same hk4; have hadd:=Zcp (p:=p + 1) (e:=eno) hZ hW4.wk hgv (by omega); push_cast at hadd)
      | (go_at_call 127; refine hadd.mono ?_; rintro e w5 ⟨rfl,lx,hW5,hk5,hb5⟩; obtain ⟨al,cl,hlx⟩:=hW5.ll.ends.form; subst hlx; have c1:=hW5.ll.c1))
     go_ret;exact Jo hW5 kA (by rw [HB.out,hib]; simp [Qu,dd,sal,sno])
  | false =>
    rw [hib] at hin;go_cut [74] (fun s wc=>s = .bool false/\Za N0_ w2 wc)
    case first =>
     go_region_held3 (fun w'=>w'.cell? ⟨Z.R,4,none⟩=some (.string Z.u)/\w'.cell? ⟨P1,1,none⟩=some (.slice as1 cset.length cs1)) (first | assumption | go_keep) (first
      | (go_at_call 126; refine hin.mono ?_; rintro e w3 ⟨rfl,hk3⟩; have hS3:w3.cell? ⟨Z.R,4,none⟩=some (.string Z.u)/\w3.cell? ⟨P1,1,none⟩=some (.slice as1 cset.length cs1):=⟨(hWd.same hk3).wk.mi.mc.c4,(hWd.same hk3).x1⟩))
     all_goals (try go_wp2_with fail)
     all_goals go_meet
     all_goals exact ⟨rfl,kd.trans hk3⟩
    case rest =>
     obtain ⟨rfl,hk3⟩:=hcut;have hW3:=hW2.same hk3;have c1:=hW3.wk.ll.c1;go_wp2_with fail;go_ret;exact Jo hW3.wk kA (by rw [HB.out,hib]; simp)
 ·have hpz:¬ (p:Int) < (Z.u.size:Int):=by omega
  have hpd:decide ((p:Int) < (Z.u.size:Int))=false:=by simp; omega
  have HB:Hid (Z.X i p = []):=(by show _ = _; rw [HXp.out]; simp [ZpG,hps]);have c1:=hW2.wk.ll.c1;clear hps;go_upto_region 12 with fail;go_quiet (fail);go_wp2_with fail;go_ret;exact Jo (hW2.wk.same ((Za.refl _ _).drewN _)) kA HB.out
end Go.Proofs.YtfkflljplohhcaaGreatDoor
