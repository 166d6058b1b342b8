import Derived.Test.YtfkflljplohhcaaGreatDoorC
import Derived.Deep.OwnRows
import Derived.Deep.DeepCutAuto
import Derived.Deep.CutBlock
set_option linter.unusedVariables false
set_option maxHeartbeats 2000000
set_option maxRecDepth 100000
namespace Go.Proofs.YtfkflljplohhcaaGreatDoor
open Go.RowKit
def gu (n:Nat) (f:Nat->Value×Value):List Value:=(List.range n).flatMap fun i => [(f i).1,(f i).2]
theorem JK(n:Nat)(f:Nat->Value×Value):gu (n+1) f=gu n f++[(f n).1,(f n).2]:=by simp[gu,List.range_succ]
theorem Jc(n:Nat)(f:Nat->Value×Value):(gu n f).length=n*2:=by
 induction n with
 | zero=>rfl
 | succ n ih=>rw[JK,List.length_append,ih];simp;omega
theorem JB(n:Nat)(f:Nat->Value×Value)(i:Nat)(hi:i<n):(gu n f)[i*2]?=some (f i).1/\(gu n f)[i*2+1]?=some (f i).2:=by
 induction n with
 | zero=>omega
 | succ n ih =>
   rw[JK]
   by_cases h:i<n
   ·rw[List.getElem?_append_left (by rw[Jc];omega),List.getElem?_append_left (by rw[Jc];omega)];exact ih h
   ·obtain rfl:i=n:=by omega
    rw[List.getElem?_append_right (by rw[Jc];omega),List.getElem?_append_right (by rw[Jc];omega),Jc];simp
theorem Jd(n:Nat)(f g:Nat->Value×Value)(h:∀i,i<n->f i=g i):gu n f=gu n g:=by
 induction n with
 | zero=>rfl
 | succ n ih=>rw[JK,JK,ih (fun i hi=>h i (by omega)),h n (by omega)]
def sw (f:Nat->Value×Value) (k:Nat) (v:Value):Nat->Value×Value:=fun i=>if i=k then (v,(f i).2) else f i
def wG (f:Nat->Value×Value) (k:Nat) (v:Value):Nat->Value×Value:=fun i=>if i=k then ((f i).1,v) else f i
theorem L9(n:Nat)(f:Nat->Value×Value)(k:Nat)(v:Value)(hk:k<n):(gu n f).set (k*2) v=gu n (sw f k v):=by
 induction n with
 | zero=>omega
 | succ n ih =>
   rw[JK,JK]
   by_cases h:k<n
   ·rw[List.set_append_left _ _ (by rw[Jc];omega),ih h];simp[sw,show n≠k by omega]
   ·obtain rfl:k=n:=by omega
    rw[List.set_append_right _ _ (by rw[Jc];omega),Jc];rw[Jd k (sw f k v) f (fun i hi=>by simp[sw,show i≠k by omega])];simp[sw]
theorem TI(n:Nat)(f:Nat->Value×Value)(k:Nat)(v:Value)(hk:k<n):(gu n f).set (k*2+1) v=gu n (wG f k v):=by
 induction n with
 | zero=>omega
 | succ n ih =>
   rw[JK,JK]
   by_cases h:k<n
   ·rw[List.set_append_left _ _ (by rw[Jc];omega),ih h];simp[wG,show n≠k by omega]
   ·obtain rfl:k=n:=by omega
    rw[List.set_append_right _ _ (by rw[Jc];omega),Jc];rw[Jd k (wG f k v) f (fun i hi=>by simp[wG,show i≠k by omega])];simp[wG]
def Bk (w:World) (g:Nat) (t:TypeId) (xs:List Value):Prop:=w.heap[g]?=some (.cells xs.toArray t (0,0))
namespace Bk
variable {w w':World}{g:Nat}{t:TypeId}{xs:List Value}
theorem lt(h:Bk w g t xs):g<w.heap.size:=lt_of_block h
theorem cell(h:Bk w g t xs)(i:Nat):w.cell? ⟨g,i,none⟩=xs[i]?:=by rw[Zc h];simp
theorem fz(h:Bk w g t xs)(i:Nat):w.frozen? ⟨g,i,none⟩=false:=Zv h
variable {E:Nat->Prop}
theorem keeps(h:Bk w g t xs)(k:Za E w w')(hE:¬E g):Bk w' g t xs:=by
 unfold Bk at h ⊢;rw[k.block g (lt_of_block h) hE];exact h
theorem set(h:Bk w g t xs)(i:Nat)(v:Value):Bk (w.setCell ⟨g,i,none⟩ v) g t (xs.set i v):=by
 unfold Bk;rw[heap_setCell_same _ _ _ _ _ _ h];simp
variable {base G R i Lb N p:Nat}{v pv dv lv gv:Value}{at_:Int}{u:ByteArray}{l:List (Int×Int)}
theorem own{n size:Nat}(h:Bk w g t xs)(hl:xs.length=n*size)(hn:n<=maxLen)(hb:base<=g):w.ownsRow base t size (.slice (some ⟨g,0,none⟩) n n) n xs :=
 ⟨hl,Or.inr ⟨g,n,xs.toArray,rfl,hb,h,Nat.le_refl _,hn,by simpa using hl,by rw[<- hl];simp⟩⟩
end Bk
theorem QC(w:World)(xs:List Value)(t:TypeId):Bk (w.alloc (.cells xs.toArray t)) w.heap.size t xs:=heap_alloc_new w _
def jC (e:Ef) (i:Nat):Value×Value:=match e i with
 | none=>(.int .i64 (-2),.int .i64 0)
 | some (a,b)=>(.int .i64 (a:Int),.int .i64 (b:Int))
def gJ (w:World) (G:Nat) (v:Value) (e:Ef):Prop:=w.ownsRow 0 118 2 v G (gu G (jC e))
variable {w w':World}{G base R i Lb N p:Nat}{v pv dv lv gv:Value}{e:Ef}{E:Nat->Prop}{at_:Int}{u:ByteArray}{l:List (Int×Int)}
theorem gJ.keeps(h:gJ w G v e)(k:Za E w w')(hE:∀i,v.ownBlock=some i->¬E i):gJ w' G v e:=Zb h k hE
theorem gJ.same(h:gJ w G v e)(k:Za ai w w'):gJ w' G v e:=h.keeps k (fun _ _ h=>h)
def Mc (w:World) (R:Nat) (at_:Int) (G:Nat) (pv:Value) (u:ByteArray) (dv lv:Value):Prop:=w.heap[R]?=some (.cells #[.bool true,.int .i64 at_,.int .i64 (G:Int),pv,.string u,dv,lv] 77 (0,0))
namespace Mc
variable {w w':World}{R G:Nat}{at_:Int}{pv dv lv:Value}{u:ByteArray}
theorem c2(h:Mc w R at_ G pv u dv lv):w.cell? ⟨R,2,none⟩=some (.int .i64 (G:Int)):=by rw[Zc h];rfl
theorem c3(h:Mc w R at_ G pv u dv lv):w.cell? ⟨R,3,none⟩=some pv:=by rw[Zc h];rfl
theorem c4(h:Mc w R at_ G pv u dv lv):w.cell? ⟨R,4,none⟩=some (.string u):=by rw[Zc h];rfl
theorem c5(h:Mc w R at_ G pv u dv lv):w.cell? ⟨R,5,none⟩=some dv:=by rw[Zc h];rfl
theorem c6(h:Mc w R at_ G pv u dv lv):w.cell? ⟨R,6,none⟩=some lv:=by rw[Zc h];rfl
theorem keeps(h:Mc w R at_ G pv u dv lv)(k:Za E w w')(hE:¬E R):Mc w' R at_ G pv u dv lv:=by
 unfold Mc at h ⊢;rw[k.block R (lt_of_block h) hE];exact h
end Mc
theorem Tryz.sV:(Tryz.prog.info? 118).map (fun i=>(i.zero,i.size,i.bytes))=some (some (.agg #[.int .i64 0,.int .i64 0]),2,16):=by kernel_rfl
theorem Zj2(n:Nat)(a b:Value):madeCells #[a,b] (n*2)=(gu n (fun _=>(a,b))).toArray:=by
 apply Array.ext_getElem?;intro i
 by_cases hi:i<n*2
 ·have h1:(madeCells #[a,b] (n*2))[i]?=some (if i % 2=0 then a else b):=by
   unfold madeCells
   rcases Nat.mod_two_eq_zero_or_one i with h | h <;> simp[hi,h]
  have h2:=JB n (fun _=>(a,b)) (i / 2) (by omega);rw[h1,List.getElem?_toArray]
  rcases Nat.mod_two_eq_zero_or_one i with h | h
  ·rw[if_pos h,show i=i / 2*2 by omega,h2.1]
  ·rw[if_neg (by omega),show i=i / 2*2+1 by omega,h2.2]
 ·rw[Array.getElem?_eq_none (by rw[size_madeCells];omega),Array.getElem?_eq_none (by simp[Jc];omega)]
theorem Zem(n:Nat)(hn:n<=1000)(w:World):(Instr.makeSlice 36 (.int .i64 (n:Int)) (.int .i64 (n:Int))).run Tryz.prog w=.ok (.slice (some ⟨w.heap.size,0,none⟩) n n) (w.alloc (.cells (gu n (fun _=>(.int .i64 0,.int .i64 0))).toArray 118)):=by
 obtain⟨i,hi,hz,hs,hb⟩:=info_parts Tryz.sV
 have:=run_make (P:=Tryz.prog) w 36 118 i _ Tryz.underlying36 hi hz .i64 .i64 n n (by omega) (by omega) (by rw[hb];omega) (by omega)
 rw[this,hs];simp only[Int.toNat_natCast];rw[show (Value.agg #[.int .i64 0,.int .i64 0]).cells=#[.int .i64 0,.int .i64 0] from rfl,Zj2]
theorem D9(h:Mc w R at_ G pv u dv lv)(hG:G<=9):
  au 128 #[ae R] w fun e w' =>∃v,e=.returned v/\gJ w' G v dG/\Za ai w w'/\(∀k,v.ownBlock=some k->w.heap.size<=k):=by
 have hmk:=Zem G (by omega);have c2:=h.c2;have kA:Za ai w (w.alloc (.cells (gu G (fun _=>(.int .i64 0,.int .i64 0))).toArray 118)):=(Za.refl _ w).alloc _;have hB:Bk (w.alloc (.cells (gu G (fun _=>(.int .i64 0,.int .i64 0))).toArray 118)) w.heap.size 118 (gu G (fun _=>(.int .i64 0,.int .i64 0))):=QC w _ _;go_enter Tryz.func128,Tryz.ntmps128;go_wp2;generalize w.alloc (.cells (gu G (fun _=>(.int .i64 0,.int .i64 0))).toArray 118)=w1 at kA hB ⊢;obtain⟨g,hg⟩:∃g,w.heap.size=g:=⟨_,rfl⟩;have hgw:w.heap.size<=g:=by omega
 have yx:Hid (w.heap.size=g):=hg;rw[hg] at hB ⊢;clear hmk c2 h hg;go_loopg [4,13] (G+1) (fun gl _ s13 wr =>∃k:Nat,k+gl=G+1/\k<=G/\s13=.int .i64 (k:Int)/\Bk wr g 118 (gu G (fun i=>if i<k then (.int .i64 (-2),.int .i64 0) else (.int .i64 0,.int .i64 0)))/\Za ai w wr)
 case atStart=>exact⟨0,by omega,by omega,rfl,by simpa using hB,kA⟩
 case round =>
  clear hB kA;obtain⟨k,hgl,hk,rfl,hB,hK⟩:=hrel;have HG:Hid (k+gk=G+1):=hgl;clear hgl
  by_cases hlt:k<G
  ·have hz:(k:Int)<(G:Int):=by omega
   have hc:=hB.cell (k*2);rw[(JB G _ k hlt).1] at hc;simp only[Nat.lt_irrefl,if_false] at hc;have hf:=hB.fz (k*2);have hS:=hB.set (k*2) (.int .i64 (-2));rw[L9 G _ k _ hlt] at hS;go_wp2;go_roundg (gk-1)
   case measure=>have:=HG.out;omega
   case rel =>
    refine⟨k+1,by have:=HG.out;omega,by omega,congrArg (Value.int .i64) (by omega),?_,hK.setCell (fun h=>by have:=yx.out;simp at h;omega) _⟩;rw[Jd G _ (sw (fun i=>if i<k then (.int .i64 (-2),.int .i64 0) else (.int .i64 0,.int .i64 0)) k (.int .i64 (-2)))]
    ·exact hS
    ·intro i hi;unfold sw
     by_cases h1:i=k
     ·subst h1;simp
     ·by_cases h2:i<k
      ·simp[h1,h2,show i<k+1 by omega]
      ·simp[h1,h2,show ¬i<k+1 by omega]
  ·obtain rfl:k=G:=by omega
   go_wp2;go_ret;refine⟨_,rfl,?_,hK,fun j hj=>by simp[Value.ownBlock] at hj;omega⟩;unfold gJ;have e:gu k (jC dG)=gu k (fun i=>if i<k then (.int .i64 (-2),.int .i64 0) else (.int .i64 0,.int .i64 0)):=Jd k _ _ (fun i hi=>by simp[jC,dG,hi]);rw[e];exact hB.own (Jc _ _) (by unfold maxLen;omega) (Nat.zero_le _)
theorem TE(e:Ef)(i:Nat):∃a b:Int,jC e i=(.int .i64 a,.int .i64 b)/\(e i=none->a = -2/\b=0)/\(e i≠none->0<=a):=by
 unfold jC
 cases h:e i with
 | none=>exact⟨-2,0,rfl,fun _=>⟨rfl,rfl⟩,fun h=>absurd rfl h⟩
 | some x=>obtain⟨a,b⟩:=x;exact⟨a,b,rfl,(fun h=>nomatch h),fun _=>by omega⟩
variable {a b:Ef}
theorem Zf1(h:b i=none):jC (fQ a b) i=jC a i:=by simp[jC,fQ,h]
theorem Zf0(h:b i≠none):jC (fQ a b) i=jC b i:=by
 cases hb:b i with
 | none=>exact absurd hb h
 | some x=>simp[jC,fQ,hb]
theorem ZW{e:TypeId}{size n:Nat}{xs:List Value}(h:w.ownsRow base e size v n xs)(hn:0<n):∃g cap,v=.slice (some ⟨g,0,none⟩) n cap/\g<w.heap.size:=by
 obtain⟨m,rfl⟩:∃m,n=m+1:=⟨n-1,by omega⟩;obtain⟨g,cap,rfl,_,hlt⟩:=ZM h;exact⟨g,cap,rfl,hlt⟩
theorem TH{va vb:Value}(ha:gJ w G va a)(hb:gJ w G vb b)(hG:G<=9):
  au 129 #[va,vb] w fun e w' =>∃v,e=.returned v/\gJ w' G v (fQ a b)/\Za ai w w'/\(∀k,v.ownBlock=some k->w.heap.size<=k):=by
 have hmk:=Zem G (by omega);have kA:Za ai w (w.alloc (.cells (gu G (fun _=>(.int .i64 0,.int .i64 0))).toArray 118)):=(Za.refl _ w).alloc _;have hB:Bk (w.alloc (.cells (gu G (fun _=>(.int .i64 0,.int .i64 0))).toArray 118)) w.heap.size 118 (gu G (fun _=>(.int .i64 0,.int .i64 0))):=QC w _ _;obtain⟨aa,ca,rfl⟩:=aj ha;obtain⟨ab,cb,rfl⟩:=aj hb;go_enter Tryz.func129,Tryz.ntmps129;go_wp2;generalize w.alloc (.cells (gu G (fun _=>(.int .i64 0,.int .i64 0))).toArray 118)=w1 at kA hB ⊢;obtain⟨g,hg⟩:∃g,w.heap.size=g:=⟨_,rfl⟩;have yx:Hid (w.heap.size=g):=hg;rw[hg] at hB ⊢;clear hmk hg;go_loopg [6,12] (G+1) (fun gl _ s12 wr =>∃k:Nat,k+gl=G+1/\k<=G/\s12=.int .i64 (k:Int)/\Bk wr g 118 (gu G (fun i=>if i<k then jC (fQ a b) i else (.int .i64 0,.int .i64 0)))/\Za ai w wr)
 case atStart=>exact⟨0,by omega,by omega,rfl,by simpa using hB,kA⟩
 case round =>
  clear hB kA;obtain⟨k,hgl,hk,rfl,hB,hK⟩:=hrel;have HG:Hid (k+gk=G+1):=hgl;clear hgl
  by_cases hlt:k<G
  ·have hz:(k:Int)<(G:Int):=by omega
   obtain⟨ga,ca',hva,hga⟩:=ZW ha (by omega);obtain⟨gb,cb',hvb,hgb⟩:=ZW hb (by omega);simp only[Value.slice.injEq] at hva hvb;obtain⟨rfl,_,rfl⟩:=hva;obtain⟨rfl,_,rfl⟩:=hvb;have ra:=ha.same hK;have rb:=hb.same hK;have a0:=ra.cellAt (k*2) (by omega);have a1:=ra.cellAt (k*2+1) (by omega);have b0:=rb.cellAt (k*2) (by omega);have b1:=rb.cellAt (k*2+1) (by omega);rw[(JB G _ k hlt).1] at a0 b0;rw[(JB G _ k hlt).2] at a1 b1;obtain⟨x0,x1,hx,-,-⟩:=TE a k;obtain⟨y0,y1,hy,hy1,hy2⟩:=TE b k;have HX:Hid (jC a k=(.int .i64 x0,.int .i64 x1)):=hx;have HY:Hid (jC b k=(.int .i64 y0,.int .i64 y1)):=hy;rw[hx] at a0 a1;rw[hy] at b0 b1;simp only at a0 a1 b0 b1;clear hx hy ra rb;have hne1:ga≠g:=by have:=yx.out;omega
   have hne2:gb≠g:=by have:=yx.out;omega
   have f0:=hB.fz (k*2);have f1:=hB.fz (k*2+1);have c0:=hB.cell (k*2);have c1:=hB.cell (k*2+1);rw[(JB G _ k hlt).1] at c0;rw[(JB G _ k hlt).2] at c1;simp only[Nat.lt_irrefl,if_false] at c0 c1;have hS:=(hB.set (k*2) (.int .i64 x0)).set (k*2+1) (.int .i64 x1);rw[L9 G _ k _ hlt,TI G _ k _ hlt] at hS;have kS:Za ai w ((wr.setCell ⟨g,k*2,none⟩ (.int .i64 x0)).setCell ⟨g,k*2+1,none⟩ (.int .i64 x1)):=(hK.setCell (fun h=>by have:=yx.out;simp at h;omega) _).setCell (fun h=>by have:=yx.out;simp at h;omega) _
   by_cases hbn:b k=none
   ·have zZ:=(hy1 hbn).1;have Vk:Hid (b k=none):=hbn;clear hbn hy1 hy2;subst zZ;go_wp2;go_roundg (gk-1)
    case measure=>have:=HG.out;omega
    case rel =>
     refine⟨k+1,by have:=HG.out;omega,by omega,congrArg (Value.int .i64) (by omega),?_,kS⟩;refine Eq.mp (congrArg (Bk _ g _) (Jd G _ _ ?_)) hS;intro i hi;unfold wG sw
     by_cases h1:i=k
     ·subst h1;simp[Zf1 Vk.out,HX.out]
     ·by_cases h2:i<k
      ·simp[h1,h2,show i<k+1 by omega]
      ·simp[h1,h2,show ¬i<k+1 by omega]
   ·have zZ:(y0 != -2)=true:=by have:=hy2 hbn;simp;omega
    have Vk:Hid (b k≠none):=hbn;clear hbn hy1 hy2;have hT:=(hS.set (k*2) (.int .i64 y0)).set (k*2+1) (.int .i64 y1);rw[L9 G _ k _ hlt,TI G _ k _ hlt] at hT;have kT:Za ai w ((((wr.setCell ⟨g,k*2,none⟩ (.int .i64 x0)).setCell ⟨g,k*2+1,none⟩ (.int .i64 x1)).setCell ⟨g,k*2,none⟩ (.int .i64 y0)).setCell ⟨g,k*2+1,none⟩ (.int .i64 y1)):=(kS.setCell (fun h=>by have:=yx.out;simp at h;omega) _).setCell (fun h=>by have:=yx.out;simp at h;omega) _;go_wp2;go_roundg (gk-1)
    case measure=>have:=HG.out;omega
    case rel =>
     refine⟨k+1,by have:=HG.out;omega,by omega,congrArg (Value.int .i64) (by omega),?_,kT⟩;refine Eq.mp (congrArg (Bk _ g _) (Jd G _ _ ?_)) hT;intro i hi;unfold wG sw
     by_cases h1:i=k
     ·subst h1;simp[Zf0 Vk.out,HY.out]
     ·by_cases h2:i<k
      ·simp[h1,h2,show i<k+1 by omega]
      ·simp[h1,h2,show ¬i<k+1 by omega]
  ·obtain rfl:k=G:=by omega
   go_wp2;go_ret;refine⟨_,rfl,?_,hK,fun j hj=>by have:=yx.out;simp[Value.ownBlock] at hj;omega⟩;unfold gJ;have e:gu k (jC (fQ a b))=gu k (fun i=>if i<k then jC (fQ a b) i else (.int .i64 0,.int .i64 0)):=Jd k _ _ (fun i hi=>by simp[hi]);rw[e];exact hB.own (Jc _ _) (by unfold maxLen;omega) (Nat.zero_le _)
theorem ZO(w:World)(P i:Nat)(u:Value):Za (·=P) w (w.setCell ⟨P,i,none⟩ u):=(Za.refl (·=P) _).setCell (fun _=>rfl) _
def iV (n:Nat) (mk:Nat->Bool):List Value:=(List.range n).map fun i => .bool (mk i)
theorem SV(n:Nat)(mk:Nat->Bool):(iV n mk).length=n:=by simp[iV]
theorem BP(n:Nat)(mk:Nat->Bool)(i:Nat)(hi:i<n):(iV n mk)[i]?=some (.bool (mk i)):=by simp[iV,hi]
theorem SX(n:Nat)(mk:Nat->Bool)(k:Nat)(hk:k<n):(iV n mk).set k (.bool true)=iV n (lT mk k):=by
 apply List.ext_getElem?;intro i
 by_cases hi:i<n
 ·rw[BP n _ i hi,List.getElem?_set]
  by_cases h:k=i
  ·subst h;simp[SV,hk,lT]
  ·rw[if_neg h,BP n _ i hi];simp[lT,show ¬i=k from fun e=>h e.symm]
 ·rw[List.getElem?_eq_none (by simp[SV];omega),List.getElem?_eq_none (by simp[SV];omega)]
theorem Tryz.jT:(Tryz.prog.info? 4).map (fun i=>(i.zero,i.size,i.bytes))=some (some (.bool false),1,1):=by kernel_rfl
theorem Zen(n:Nat)(hn:n<=100000)(w:World):(Instr.makeSlice 74 (.int .i64 (n:Int)) (.int .i64 (n:Int))).run Tryz.prog w=.ok (.slice (some ⟨w.heap.size,0,none⟩) n n) (w.alloc (.cells (iV n bq).toArray 4)):=by
 have h:=run_make_row' (P:=Tryz.prog) 74 4 (.bool false) 1 Tryz.underlying74 Tryz.jT rfl .i64 .i64 n (by omega) (by omega) w;have e:madeCells #[Value.bool false] n=(iV n bq).toArray:=by
  apply Array.ext';rw[toList_madeCells_one];simp[iV,bq,List.map_const']
 rw[h,e]
def Ht (w:World) (E:Nat->Prop):Prop :=∀k,E k->∀cur,w.heap[k]?≠some (.cells cur 118 (0,0))
theorem gJ.iG(h:gJ w G v e)(k:Za E w w')(hE:Ht w E):gJ w' G v e :=
 h.keeps k fun i hi he=>by obtain⟨cur,hc⟩:=Zx h hi;exact hE i he cur hc
def Dn (L:En) (gv:Nat->Value) (i:Nat):Value×Value:=(.int .i64 ((L.getD i (0,dG)).1:Int),gv i)
def Qw (w:World) (G:Nat) (v:Value) (L:En):Prop :=∃gv:Nat->Value,w.ownsRow 0 161 2 v L.length (gu L.length (Dn L gv))/\∀i,i<L.length->gJ w G (gv i) (L.getD i (0,dG)).2
variable {L:En}
theorem Qw.keeps(h:Qw w G v L)(k:Za E w w')(hE:Ht w E)(hv:∀i,v.ownBlock=some i->¬E i):Qw w' G v L:=by
 obtain⟨gv,h1,h2⟩:=h;exact⟨gv,Zb h1 k hv,fun i hi=>(h2 i hi).iG k hE⟩
theorem Qw.same(h:Qw w G v L)(k:Za ai w w'):Qw w' G v L:=h.keeps k (fun _ h=>h.elim) (fun _ _ h=>h)
theorem Qw.form(h:Qw w G v L):∃ao cap,v=.slice ao L.length cap:=by
 obtain⟨gv,h1,h2⟩:=h;exact aj h1
theorem Ua(w:World)(G:Nat):Qw w G (.slice none 0 0) []:=⟨fun _ => .slice none 0 0,World.ownsRow_nil _ _ _ _,fun i hi=>by simp at hi⟩
structure Ll (w:World) (Lb Sb N G:Nat) (lv:Value) (M:En):Prop where
 box:w.heap[Lb]?=some (.cells #[.slice (some ⟨Sb,0,none⟩) (N+1) (N+1),lv] 236 (0,0))
 seen:Bk w Sb 4 (iV (N+1) (bI bq M))
 ends:Qw w G lv M
namespace Ll
variable {w w':World}{Lb Sb N G:Nat}{lv:Value}{M:En}
theorem c0(h:Ll w Lb Sb N G lv M):w.cell? (ak Lb)=some (.slice (some ⟨Sb,0,none⟩) (N+1) (N+1)):=by rw[Zc h.box];rfl
theorem c1(h:Ll w Lb Sb N G lv M):w.cell? ⟨Lb,1,none⟩=some lv:=by rw[Zc h.box];rfl
theorem lt(h:Ll w Lb Sb N G lv M):Lb<w.heap.size:=lt_of_block h.box
theorem lt2(h:Ll w Lb Sb N G lv M):Sb<w.heap.size:=h.seen.lt
theorem ne(h:Ll w Lb Sb N G lv M):Lb≠Sb:=by
 intro e;subst e;have h1:=h.box;have h2:=h.seen;unfold Bk at h2;rw[h1] at h2;simp at h2
theorem keeps(h:Ll w Lb Sb N G lv M)(k:Za E w w')(h1:¬E Lb)(h2:¬E Sb)(hE:Ht w E)(hv:∀i,lv.ownBlock=some i->¬E i):Ll w' Lb Sb N G lv M :=
 ⟨by rw[k.block Lb h.lt h1];exact h.box,h.seen.keeps k h2,h.ends.keeps k hE hv⟩
theorem same(h:Ll w Lb Sb N G lv M)(k:Za ai w w'):Ll w' Lb Sb N G lv M:=h.keeps k id id (fun _ h=>h.elim) (fun _ _ h=>h)
end Ll
theorem Zm9(h:Mc w R at_ G pv u dv lv)(hu:u.size<=200):
  au 125 #[ae R] w fun e w' =>∃Lb Sb,e=.returned ((ae Lb))/\Ll w' Lb Sb u.size G (.slice none 0 0) []/\w.heap.size<=Lb/\w.heap.size<=Sb/\Za ai w w':=by
 have hmk:=Zen (u.size+1) (by omega)
 push_cast at hmk
 have c4:=h.c4;have kA:Za ai w ((w.alloc (.cells (iV (u.size+1) bq).toArray 4)).alloc (.cells #[.slice (some ⟨w.heap.size,0,none⟩) (u.size+1) (u.size+1),.slice none 0 0] 236)):=((Za.refl _ w).alloc _).alloc _;have hL:Ll ((w.alloc (.cells (iV (u.size+1) bq).toArray 4)).alloc (.cells #[.slice (some ⟨w.heap.size,0,none⟩) (u.size+1) (u.size+1),.slice none 0 0] 236)) (w.heap.size+1) w.heap.size u.size G (.slice none 0 0) []:=by
  refine⟨gH w _ _,?_,Ua _ _⟩
  have:=fU w (.cells (iV (u.size+1) bq).toArray 4) (.cells #[.slice (some ⟨w.heap.size,0,none⟩) (u.size+1) (u.size+1),.slice none 0 0] 236)
  rw[Q9];exact this
 clear h;go_enter Tryz.func125,Tryz.ntmps125;go_wp2;go_ret;exact⟨_,_,rfl,hL,by omega,by omega,kA⟩
def ku (Lb Sb:Nat) (lv:Value):Nat->Prop:=fun k=>k=Lb\/k=Sb\/lv.ownBlock=some k
variable {M:En}
theorem Su{Sb:Nat}(h:Ll w Lb Sb N G lv M):Ht w (ku Lb Sb lv):=by
 rintro k (rfl | rfl | hk) cur hc
 ·rw[h.box] at hc;simp at hc
 ·have:=h.seen;unfold Bk at this;rw[this] at hc;simp at hc
 ·obtain⟨gv,h1,_⟩:=h.ends;obtain⟨c2,h2⟩:=Zx h1 hk;rw[h2] at hc;simp at hc
theorem Zo3(M:En)(x:Nat×Ef)(gv:Nat->Value)(v:Value):gu (M++[x]).length (Dn (M++[x]) (fun i=>if i<M.length then gv i else v))=gu M.length (Dn M gv)++[.int .i64 (x.1:Int),v]:=by
 rw[List.length_append,List.length_singleton,JK]
 congr 1
 ·refine Jd _ _ _ (fun i hi=>?_);simp[Dn,hi,List.getD_eq_getElem?_getD,List.getElem?_append_left hi]
 ·simp[Dn,List.getD_eq_getElem?_getD]
theorem Tryz.tu:(Tryz.prog.info? 161).map (fun i=>(i.zero,i.size,i.bytes))=some (some (.agg #[.int .i64 0,.slice none 0 0]),2,32):=by kernel_rfl
def Ip (Lb Sb N G:Nat) (lv:Value) (M:En) (x:Nat×Ef) (w:World) (e:Ending) (w':World):Prop :=
 e=.returned (.tuple #[])/\∃fq,Ll w' Lb Sb N G fq (Qx M [x])/\Za (ku Lb Sb lv) w w'/\jP w lv fq
theorem Zs5{Sb:Nat}(h:Ll w Lb Sb N G lv M)(hp:p<=N)(hs:bI bq M p=true):
  au 127 #[ae Lb,.int .i64 (p:Int),gv] w (Ip Lb Sb N G lv M (p,e) w):=by
 have c0:=h.c0;have cs:=h.seen.cell p;rw[BP _ _ _ (by omega),hs] at cs;have hz:(p:Int)<(N:Int)+1:=by omega
 have hfin:Ip Lb Sb N G lv M (p,e) w (.returned (.tuple #[])) w:=⟨rfl,lv,by rw[LY M _ (fun x hx=>by simp at hx;subst hx;exact hs)];exact h,Za.refl _ _,fun k hk _=>hk⟩;clear h hs;go_enter Tryz.func127,Tryz.ntmps127;go_wp2;go_end0;exact hfin
theorem Zs6{Sb:Nat}(h:Ll w Lb Sb N G lv M)(hg:gJ w G gv e)(hp:p<=N)(hN:N<=200)(hM:M.length<=1000)(hs:bI bq M p=false):
  au 127 #[ae Lb,.int .i64 (p:Int),gv] w (Ip Lb Sb N G lv M (p,e) w):=by
 obtain⟨i0,hi,hz0,hz1,hz2⟩:=info_parts Tryz.tu;have c0:=h.c0;have cs:=h.seen.cell p;rw[BP _ _ _ (by omega),hs] at cs;have fs:=h.seen.fz p;have hz:(p:Int)<(N:Int)+1:=by omega
 obtain⟨ag,cg,hgv⟩:=aj hg;subst hgv;have hne:=h.ne;have PW:=Su h;obtain⟨gf,hrow,hgs⟩:=id h.ends;have Wd:∀k,lv.ownBlock=some k->k≠Sb:=by
  rintro k hk rfl;obtain⟨c2,h2⟩:=Zx hrow hk
  have:=h.seen;unfold Bk at this;rw[this] at h2;simp at h2
 have hlL:∀k,lv.ownBlock=some k->k≠Lb:=by
  rintro k hk rfl;obtain⟨c2,h2⟩:=Zx hrow hk;rw[h.box] at h2;simp at h2
 have K1:Za (·=Sb) w (w.setCell ⟨Sb,p,none⟩ (.bool true)):=ZO w Sb p _;obtain⟨W,hW⟩:∃W,w.setCell ⟨Sb,p,none⟩ (.bool true)=W:=⟨_,rfl⟩;have hS1:=h.seen.set p (.bool true);rw[SX _ _ _ (by omega)] at hS1;rw[hW] at hS1 K1;have EP:=Zb hrow K1 (fun k hk=>Wd k hk);have qj:W.heap[Lb]?=some (.cells #[.slice (some ⟨Sb,0,none⟩) (N+1) (N+1),lv] 236 (0,0)):=by rw[K1.block Lb h.lt hne];exact h.box
 have d1:W.cell? ⟨Lb,1,none⟩=some lv:=by rw[Zc qj];rfl
 obtain⟨v',w3,hrun,ho,hgr,hbk⟩:=JF (P:=Tryz.prog) (W.alloc (.cells #[.int .i64 (p:Int),.slice ag G cg] 161)) 0 158 158 161 i0 _ 2 32 Tryz.underlying158 hi hz0 hz1 hz2 rfl (by decide) lv M.length _ (EP.alloc _)
  (ak W.heap.size) 1 1 [.int .i64 (p:Int),.slice ag G cg] rfl (aV W _ _) (by intro x hx;simp at hx;rcases hx with rfl | rfl <;> rfl) (by unfold maxLen;omega) (by omega) (by simp)
 have K2:Za (lv.ownBlock=some ·) W w3:=((Za.refl _ W).alloc _).grown hgr (fun k hk _=>hk);have za:w3.heap[Lb]?=some (.cells #[.slice (some ⟨Sb,0,none⟩) (N+1) (N+1),lv] 236 (0,0)):=by rw[K2.block Lb (lt_of_block qj) (fun hk=>hlL Lb hk rfl)];exact qj
 have f3:w3.frozen? ⟨Lb,1,none⟩=false:=Zv za;have e3:w3.cell? ⟨Lb,1,none⟩=some lv:=by rw[Zc za];rfl
 have rT:=hS1.keeps K2 (fun hk=>Wd Sb hk rfl);have K3:Za (·=Lb) w3 (w3.setCell ⟨Lb,1,none⟩ v'):=ZO w3 Lb 1 v';have qh:Za (ku Lb Sb lv) w (w3.setCell ⟨Lb,1,none⟩ v') :=
  ((K1.mono (E':=ku Lb Sb lv) (fun k _ hk=>Or.inr (Or.inl hk))).trans (K2.mono (E':=ku Lb Sb lv) (fun k _ hk=>Or.inr (Or.inr hk)))).trans (K3.mono (E':=ku Lb Sb lv) (fun k _ hk=>Or.inl hk))
 have Oj:∀k,v'.ownBlock=some k->k≠Lb:=by
  rintro k hk rfl;obtain⟨c2,h2⟩:=Zx ho hk;rw[za] at h2;simp at h2
 have hfin:Ip Lb Sb N G lv M (p,e) w (.returned (.tuple #[])) (w3.setCell ⟨Lb,1,none⟩ v'):=by
  refine⟨rfl,v',?_,qh,?_⟩
  ·rw[ZgZ M (p,e) hs];refine⟨?_,?_,?_⟩
   ·rw[heap_setCell_same _ _ _ _ _ _ za];rfl
   ·have:=rT.keeps K3 (fun hk=>hne hk.symm)
    have e1:lT (bI bq M) p=bI bq (M++[(p,e)]):=by rw[JT,BX,Q9]
    rw[<- e1];exact this
   ·refine⟨fun i=>if i<M.length then gf i else .slice ag G cg,?_,?_⟩
    ·rw[Zo3 M (p,e) gf (.slice ag G cg),List.length_append];exact Zb ho K3 (fun k hk=>Oj k hk)
    ·intro i hi';rw[List.length_append,List.length_singleton] at hi'
     by_cases hlt:i<M.length
     ·simp only[hlt,if_true]
      have:(M++[(p,e)]).getD i (0,dG)=M.getD i (0,dG):=by simp[List.getD_eq_getElem?_getD,List.getElem?_append_left hlt]
      rw[this];exact(hgs i hlt).iG qh PW
     ·obtain rfl:i=M.length:=by omega
      simp only[Nat.lt_irrefl,if_false]
      have:(M++[(p,e)]).getD M.length (0,dG)=(p,e):=by simp[List.getD_eq_getElem?_getD]
      rw[this];exact hg.iG qh PW
  ·intro k hk hlt;exact hbk k hk (by have:=K1.size;simp;omega)
 obtain⟨al,cl,hlv⟩:=aj hrow;obtain⟨ao,cap,hv'⟩:=aj ho;subst hlv;subst hv';have HW:Hid (w.setCell ⟨Sb,p,none⟩ (.bool true)=W):=hW;clear hW hz0 hz1 hz2 hi EP hgr ho hbk hrow hgs hS1 rT qj za K1 K2 K3 qh PW h hg hs;go_enter Tryz.func127,Tryz.ntmps127;go_upto_region 2 with fail;rw[HW.out];go_wp2_with(refine Zj rfl _ _ _ _ rfl rfl _ _ _ _ rfl rfl hrun ?_);go_end0;exact hfin
theorem ZqS{Sb:Nat}(h:Ll w Lb Sb N G lv M)(hg:gJ w G gv e)(hp:p<=N)(hN:N<=200)(hM:M.length<=1000):
  au 127 #[ae Lb,.int .i64 (p:Int),gv] w (Ip Lb Sb N G lv M (p,e) w):=by
 cases hs:bI bq M p with
 | true=>exact Zs5 h hp hs
 | false=>exact Zs6 h hg hp hN hM hs
theorem Zi3(l:List (Int×Int))(k:Nat)(h:k<l.length):(ZD l)[k*2]?=some (.int .i64 l[k].1)/\(ZD l)[k*2+1]?=some (.int .i64 l[k].2):=by
 induction l generalizing k with
 | nil=>simp at h
 | cons r l ih =>
   cases k with
   | zero=>exact⟨rfl,rfl⟩
   | succ k =>
     have:=ih k (by simpa using h)
     have e1:(k+1)*2=k*2+2:=by omega
     have e2:(k+1)*2+1=k*2+1+2:=by omega
     rw[e1,show k*2+2+1=k*2+1+2 by omega];exact this
theorem ZpA{k:Nat}(h:k<l.length)(b:Int):jd (l.take (k+1)) b=(jd (l.take k) b ||(decide (l[k].1<=b) && decide (b<=l[k].2))):=by
 unfold jd;rw[List.take_succ_eq_append_getElem h,List.any_append];simp
theorem Zsi{k:Nat}(h:k<l.length){b:Int}(h1:l[k].1<=b)(h2:b<=l[k].2):jd l b=true:=by
 unfold jd;rw[List.any_eq_true];exact⟨l[k],List.getElem_mem h,by simp[h1,h2]⟩
theorem Zpl{rs:List (Int×Int)}{b:Nat}(hr:w.ownsRow 0 250 2 v rs.length (ZD rs))(hb:b<256)(hl:rs.length<=100000):
  au 126 #[v,.int .u8 (b:Int)] w fun e w'=>e=.returned (.bool (jd rs (b:Int)))/\Za ai w w':=by
 obtain⟨ao,cap,rfl⟩:=aj hr;have hwb:IntKind.i64.wrap (b:Int)=(b:Int):=IntWalk.i64_in _ ⟨by omega,by omega⟩;go_enter Tryz.func126,Tryz.ntmps126;go_wp2;go_loopg [6,9] (rs.length+1) (fun gl _ s9 wr =>∃k:Nat,k+gl=rs.length+1/\k<=rs.length/\s9=.int .i64 (k:Int)/\Hid (jd (rs.take k) (b:Int)=false)/\Za ai w wr)
 case atStart=>exact⟨0,by omega,by omega,rfl,(by show _ = _;simp[jd]),Za.refl _ _⟩
 case round =>
  obtain⟨k,hgl,hk,rfl,HI,hK⟩:=hrel;have HG:Hid (k+gk=rs.length+1):=hgl;clear hgl
  by_cases hlt:k<rs.length
  ·have hz:(k:Int)<(rs.length:Int):=by omega
   obtain⟨g,cap',hv,hg⟩:=ZW hr (by omega);simp only[Value.slice.injEq] at hv;obtain⟨rfl,_,rfl⟩:=hv;have r1:=Zb hr hK (fun _ _ h=>h);have a0:=r1.cellAt (k*2) (by omega);have a1:=r1.cellAt (k*2+1) (by omega);rw[(Zi3 rs k hlt).1] at a0;rw[(Zi3 rs k hlt).2] at a1;have HT:Hid (jd (rs.take (k+1)) (b:Int)=(jd (rs.take k) (b:Int) ||(decide (rs[k].1<=(b:Int)) && decide ((b:Int)<=rs[k].2)))):=ZpA hlt b;have HY:Hid (rs[k].1<=(b:Int)->(b:Int)<=rs[k].2->jd rs (b:Int)=true):=(by show _->_;exact fun h1 h2=>Zsi hlt h1 h2);generalize rs[k]=r at a0 a1 HT HY;obtain⟨lo,hi⟩:=r;simp only at a0 a1;have hk2:Za ai w (wr.alloc (.cells #[.int .i64 lo,.int .i64 hi] 250)):=hK.alloc _
   by_cases h1:lo<=(b:Int)
   ·by_cases h2:(b:Int)<=hi
    ·have Ka:Hid (jd rs (b:Int)=true):=HY.out h1 h2;go_wp2;go_ret;exact⟨by rw[Ka.out];rfl,hk2⟩
    ·have HN:Hid (jd (rs.take (k+1)) (b:Int)=false):=(by show _ = _;rw[HT.out,HI.out];simp[h2]);go_wp2;go_roundg (gk-1)
     case measure=>have:=HG.out;omega
     case rel=>exact⟨k+1,by have:=HG.out;omega,by omega,congrArg (Value.int .i64) (by omega),HN,hk2⟩
   ·have HN:Hid (jd (rs.take (k+1)) (b:Int)=false):=(by show _ = _;rw[HT.out,HI.out];simp[h1]);go_wp2;go_roundg (gk-1)
    case measure=>have:=HG.out;omega
    case rel=>exact⟨k+1,by have:=HG.out;omega,by omega,congrArg (Value.int .i64) (by omega),HN,hk2⟩
  ·obtain rfl:k=rs.length:=by omega
   have HN:Hid (jd rs (b:Int)=false):=(by have:=HI.out;rw[List.take_length] at this;exact this);go_wp2;go_ret;exact⟨by rw[HN.out];rfl,hK⟩
end Go.Proofs.YtfkflljplohhcaaGreatDoor
