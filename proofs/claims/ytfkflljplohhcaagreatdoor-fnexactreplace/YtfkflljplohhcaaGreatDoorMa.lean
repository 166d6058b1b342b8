import Derived.Test.YtfkflljplohhcaaGreatDoorC
import Derived.Test.YtfkflljplohhcaaGreatDoorB
import Derived.Deep.OwnRows
import Derived.Test.YtfkflljplohhcaaGreatDoorA
import Derived.Deep.DeepCutAuto
import Derived.Deep.CutBlock
set_option maxHeartbeats 2000000
set_option maxRecDepth 100000
namespace Go.Proofs.YtfkflljplohhcaaGreatDoor
open Go.RowKit
set_option linter.unusedVariables false
def prs (n:Nat) (f:Nat->Value×Value):List Value:=(List.range n).flatMap fun i => [(f i).1,(f i).2]
theorem JC (n:Nat) (f:Nat->Value×Value):prs (n + 1) f=prs n f ++ [(f n).1,(f n).2]:=by simp [prs,List.range_succ]
theorem Q4 (n:Nat) (f:Nat->Value×Value):(prs n f).length=n * 2:=by
 induction n with
 | zero=>rfl
 | succ n ih=>rw [JC,List.length_append,ih]; simp; omega
theorem Jy (n:Nat) (f:Nat->Value×Value) (i:Nat) (hi:i < n):(prs n f)[i * 2]? = some (f i).1/\(prs n f)[i * 2 + 1]? = some (f i).2:=by
 induction n with
 | zero=>omega
 | succ n ih =>
   rw [JC]
   by_cases h:i < n
   ·rw [List.getElem?_append_left (by rw [Q4]; omega),List.getElem?_append_left (by rw [Q4]; omega)];exact ih h
   ·obtain rfl:i=n:=by omega
    rw [List.getElem?_append_right (by rw [Q4]; omega),List.getElem?_append_right (by rw [Q4]; omega),Q4];simp
theorem Q5 (n:Nat) (f g:Nat->Value×Value) (h :∀i,i < n->f i=g i):prs n f=prs n g:=by
 induction n with
 | zero=>rfl
 | succ n ih=>rw [JC,JC,ih (fun i hi=>h i (by omega)),h n (by omega)]
def up0 (f:Nat->Value×Value) (k:Nat) (v:Value):Nat->Value×Value:=fun i=>if i=k then (v,(f i).2) else f i
def up1 (f:Nat->Value×Value) (k:Nat) (v:Value):Nat->Value×Value:=fun i=>if i=k then ((f i).1,v) else f i
theorem ZcG (n:Nat) (f:Nat->Value×Value) (k:Nat) (v:Value) (hk:k < n):(prs n f).set (k * 2) v=prs n (up0 f k v):=by
 induction n with
 | zero=>omega
 | succ n ih =>
   rw [JC,JC]
   by_cases h:k < n
   ·rw [List.set_append_left _ _ (by rw [Q4]; omega),ih h];simp [up0,show n≠k by omega]
   ·obtain rfl:k=n:=by omega
    rw [List.set_append_right _ _ (by rw [Q4]; omega),Q4];rw [Q5 k (up0 f k v) f (fun i hi=>by simp [up0,show i≠k by omega])];simp [up0]
theorem ZeI (n:Nat) (f:Nat->Value×Value) (k:Nat) (v:Value) (hk:k < n):(prs n f).set (k * 2 + 1) v=prs n (up1 f k v):=by
 induction n with
 | zero=>omega
 | succ n ih =>
   rw [JC,JC]
   by_cases h:k < n
   ·rw [List.set_append_left _ _ (by rw [Q4]; omega),ih h];simp [up1,show n≠k by omega]
   ·obtain rfl:k=n:=by omega
    rw [List.set_append_right _ _ (by rw [Q4]; omega),Q4];rw [Q5 k (up1 f k v) f (fun i hi=>by simp [up1,show i≠k by omega])];simp [up1]
def Bk (w:World) (g:Nat) (t:TypeId) (xs:List Value):Prop:=w.heap[g]? = some (.cells xs.toArray t (0,0))
namespace Bk
variable {w w':World} {g:Nat} {t:TypeId} {xs:List Value}
theorem lt (h:Bk w g t xs):g < w.heap.size:=lt_of_block h
theorem cell (h:Bk w g t xs) (i:Nat):w.cell? ⟨g,i,none⟩=xs[i]?:=by rw [Zc h]; simp
theorem fz (h:Bk w g t xs) (i:Nat):w.frozen? ⟨g,i,none⟩=false:=Zv h
theorem keeps {E:Nat->Prop} (h:Bk w g t xs) (k:Za E w w') (hE:¬ E g):Bk w' g t xs:=by
 unfold Bk at h ⊢; rw [k.block g (lt_of_block h) hE]; exact h
theorem set (h:Bk w g t xs) (i:Nat) (v:Value):Bk (w.setCell ⟨g,i,none⟩ v) g t (xs.set i v):=by
 unfold Bk; rw [heap_setCell_same _ _ _ _ _ _ h]; simp
theorem own {n size:Nat} (h:Bk w g t xs) (hl:xs.length=n * size) (hn:n<=maxLen) {base:Nat} (hb:base<=g):w.ownsRow base t size (.slice (some ⟨g,0,none⟩) n n) n xs :=
 ⟨hl,Or.inr ⟨g,n,xs.toArray,rfl,hb,h,Nat.le_refl _,hn,by simpa using hl,by rw [<- hl]; simp⟩⟩
end Bk
theorem Qz (w:World) (xs:List Value) (t:TypeId):Bk (w.alloc (.cells xs.toArray t)) w.heap.size t xs:=heap_alloc_new w _
def spv (e:Ef) (i:Nat):Value×Value:=match e i with
 | none=>(.int .i64 (-2),.int .i64 0)
 | some (a,b)=>(.int .i64 (a:Int),.int .i64 (b:Int))
def GrR (w:World) (G:Nat) (v:Value) (e:Ef):Prop:=w.ownsRow 0 118 2 v G (prs G (spv e))
theorem GrR.keeps {w w':World} {G:Nat} {v:Value} {e:Ef} {E:Nat->Prop} (h:GrR w G v e) (k:Za E w w') (hE :∀i,v.ownBlock=some i->¬ E i):GrR w' G v e:=Zb h k hE
theorem GrR.same {w w':World} {G:Nat} {v:Value} {e:Ef} (h:GrR w G v e) (k:Za N0_ w w'):GrR w' G v e:=h.keeps k (fun _ _ h=>h)
def Mc (w:World) (R:Nat) (at_:Int) (G:Nat) (pv:Value) (u:ByteArray) (dv lv:Value):Prop:=w.heap[R]? = some (.cells #[.bool true,.int .i64 at_,.int .i64 (G:Int),pv,.string u,dv,lv] 77 (0,0))
namespace Mc
variable {w w':World} {R G:Nat} {at_:Int} {pv dv lv:Value} {u:ByteArray}
theorem c2 (h:Mc w R at_ G pv u dv lv):w.cell? ⟨R,2,none⟩=some (.int .i64 (G:Int)):=by rw [Zc h]; rfl
theorem c3 (h:Mc w R at_ G pv u dv lv):w.cell? ⟨R,3,none⟩=some pv:=by rw [Zc h]; rfl
theorem c4 (h:Mc w R at_ G pv u dv lv):w.cell? ⟨R,4,none⟩=some (.string u):=by rw [Zc h]; rfl
theorem c5 (h:Mc w R at_ G pv u dv lv):w.cell? ⟨R,5,none⟩=some dv:=by rw [Zc h]; rfl
theorem c6 (h:Mc w R at_ G pv u dv lv):w.cell? ⟨R,6,none⟩=some lv:=by rw [Zc h]; rfl
theorem keeps {E:Nat->Prop} (h:Mc w R at_ G pv u dv lv) (k:Za E w w') (hE:¬ E R):Mc w' R at_ G pv u dv lv:=by
 unfold Mc at h ⊢; rw [k.block R (lt_of_block h) hE]; exact h
end Mc
theorem Tryz.infoSpan:(Tryz.prog.info? 118).map (fun i=>(i.zero,i.size,i.bytes))=some (some (.agg #[.int .i64 0,.int .i64 0]),2,16):=by kernel_rfl
theorem Zjh (n:Nat) (a b:Value):madeCells #[a,b] (n * 2)=(prs n (fun _=>(a,b))).toArray:=by
 apply Array.ext_getElem?;intro i
 by_cases hi:i < n * 2
 ·have h1:(madeCells #[a,b] (n * 2))[i]? = some (if i % 2=0 then a else b):=by
   unfold madeCells
   rcases Nat.mod_two_eq_zero_or_one i with h | h <;> simp [hi,h]
  have h2:=Jy n (fun _=>(a,b)) (i / 2) (by omega);rw [h1,List.getElem?_toArray]
  rcases Nat.mod_two_eq_zero_or_one i with h | h
  ·rw [if_pos h,show i=i / 2 * 2 by omega,h2.1]
  ·rw [if_neg (by omega),show i=i / 2 * 2 + 1 by omega,h2.2]
 ·rw [Array.getElem?_eq_none (by rw [size_madeCells]; omega),Array.getElem?_eq_none (by simp [Q4]; omega)]
theorem ZdY (n:Nat) (hn:n<=1000) (w:World):(Instr.makeSlice 36 (.int .i64 (n:Int)) (.int .i64 (n:Int))).run Tryz.prog w = .ok (.slice (some ⟨w.heap.size,0,none⟩) n n) (w.alloc (.cells (prs n (fun _=>(.int .i64 0,.int .i64 0))).toArray 118)):=by
 obtain ⟨i,hi,hz,hs,hb⟩:=info_parts Tryz.infoSpan
 have:=run_make (P:=Tryz.prog) w 36 118 i _ Tryz.underlying36 hi hz .i64 .i64 n n (by omega) (by omega) (by rw [hb]; omega) (by omega)
 rw [this,hs];simp only [Int.toNat_natCast];rw [show (Value.agg #[.int .i64 0,.int .i64 0]).cells = #[.int .i64 0,.int .i64 0] from rfl,Zjh]
theorem Za7 {w:World} {R G:Nat} {at_:Int} {pv dv lv:Value} {u:ByteArray} (h:Mc w R at_ G pv u dv lv) (hG:G<=9) :
  Calls Tryz.prog 128 #[.pointer (some ⟨R,0,none⟩)] w fun e w' =>∃v,e = .returned v/\GrR w' G v eno/\Za N0_ w w'/\(∀k,v.ownBlock=some k->w.heap.size<=k):=by
 have hmk:=ZdY G (by omega);have c2:=h.c2;have kA:Za N0_ w (w.alloc (.cells (prs G (fun _=>(.int .i64 0,.int .i64 0))).toArray 118)):=(Za.refl _ w).alloc _;have hB:Bk (w.alloc (.cells (prs G (fun _=>(.int .i64 0,.int .i64 0))).toArray 118)) w.heap.size 118 (prs G (fun _=>(.int .i64 0,.int .i64 0))):=Qz w _ _;go_enter Tryz.func128,Tryz.ntmps128;go_wp2;generalize w.alloc (.cells (prs G (fun _=>(.int .i64 0,.int .i64 0))).toArray 118)=w1 at kA hB ⊢;obtain ⟨g,hg⟩ :∃g,w.heap.size=g:=⟨_,rfl⟩;have hgw:w.heap.size<=g:=by omega
 have HGW:Hid (w.heap.size=g):=hg;rw [hg] at hB ⊢;clear hmk c2 h hg;go_loopg [4,13] (G + 1) (fun gl _ s13 wr =>∃k:Nat,k + gl=G + 1/\k<=G/\s13 = .int .i64 (k:Int)/\Bk wr g 118 (prs G (fun i=>if i < k then (.int .i64 (-2),.int .i64 0) else (.int .i64 0,.int .i64 0)))/\Za N0_ w wr)
 case atStart=>exact ⟨0,by omega,by omega,rfl,by simpa using hB,kA⟩
 case round =>
  clear hB kA;obtain ⟨k,hgl,hk,rfl,hB,hK⟩:=hrel;have HG:Hid (k + gk=G + 1):=hgl;clear hgl
  by_cases hlt:k < G
  ·have hz:(k:Int) < (G:Int):=by omega
   have hc:=hB.cell (k * 2);rw [(Jy G _ k hlt).1] at hc;simp only [Nat.lt_irrefl,if_false] at hc;have hf:=hB.fz (k * 2);have hS:=hB.set (k * 2) (.int .i64 (-2));rw [ZcG G _ k _ hlt] at hS;go_wp2;go_roundg (gk - 1)
   case measure=>have:=HG.out; omega
   case rel =>
    refine ⟨k + 1,by have:=HG.out; omega,by omega,congrArg (Value.int .i64) (by omega),?_,hK.setCell (fun h=>by have:=HGW.out; simp at h; omega) _⟩;rw [Q5 G _ (up0 (fun i=>if i < k then (.int .i64 (-2),.int .i64 0) else (.int .i64 0,.int .i64 0)) k (.int .i64 (-2)))]
    ·exact hS
    ·intro i hi;unfold up0
     by_cases h1:i=k
     ·subst h1; simp
     ·by_cases h2:i < k
      ·simp [h1,h2,show i < k + 1 by omega]
      ·simp [h1,h2,show ¬ i < k + 1 by omega]
  ·obtain rfl:k=G:=by omega
   go_wp2;go_ret;refine ⟨_,rfl,?_,hK,fun j hj=>by simp [Value.ownBlock] at hj; omega⟩;unfold GrR;have e:prs k (spv eno)=prs k (fun i=>if i < k then (.int .i64 (-2),.int .i64 0) else (.int .i64 0,.int .i64 0)):=Q5 k _ _ (fun i hi=>by simp [spv,eno,hi]);rw [e];exact hB.own (Q4 _ _) (by unfold maxLen; omega) (Nat.zero_le _)
theorem Zet (e:Ef) (i:Nat) :∃a b:Int,spv e i=(.int .i64 a,.int .i64 b)/\(e i=none->a = -2/\b=0)/\(e i≠none->0<=a):=by
 unfold spv
 cases h:e i with
 | none=>exact ⟨-2,0,rfl,fun _=>⟨rfl,rfl⟩,fun h=>absurd rfl h⟩
 | some x=>obtain ⟨a,b⟩:=x; exact ⟨a,b,rfl,(fun h=>nomatch h),fun _=>by omega⟩
theorem Zfu {a b:Ef} {i:Nat} (h:b i=none):spv (eov a b) i=spv a i:=by simp [spv,eov,h]
theorem Zft {a b:Ef} {i:Nat} (h:b i≠none):spv (eov a b) i=spv b i:=by
 cases hb:b i with
 | none=>exact absurd hb h
 | some x=>simp [spv,eov,hb]
theorem ZT {w:World} {base:Nat} {e:TypeId} {size n:Nat} {v:Value} {xs:List Value} (h:w.ownsRow base e size v n xs) (hn:0 < n) :∃g cap,v = .slice (some ⟨g,0,none⟩) n cap/\g < w.heap.size:=by
 obtain ⟨m,rfl⟩ :∃m,n=m + 1:=⟨n - 1,by omega⟩;obtain ⟨g,cap,rfl,_,hlt⟩:=ZQ h;exact ⟨g,cap,rfl,hlt⟩
theorem ZeJ {w:World} {G:Nat} {va vb:Value} {a b:Ef} (ha:GrR w G va a) (hb:GrR w G vb b) (hG:G<=9) :
  Calls Tryz.prog 129 #[va,vb] w fun e w' =>∃v,e = .returned v/\GrR w' G v (eov a b)/\Za N0_ w w'/\(∀k,v.ownBlock=some k->w.heap.size<=k):=by
 have hmk:=ZdY G (by omega);have kA:Za N0_ w (w.alloc (.cells (prs G (fun _=>(.int .i64 0,.int .i64 0))).toArray 118)):=(Za.refl _ w).alloc _;have hB:Bk (w.alloc (.cells (prs G (fun _=>(.int .i64 0,.int .i64 0))).toArray 118)) w.heap.size 118 (prs G (fun _=>(.int .i64 0,.int .i64 0))):=Qz w _ _;obtain ⟨aa,ca,rfl⟩:=Zd ha;obtain ⟨ab,cb,rfl⟩:=Zd hb;go_enter Tryz.func129,Tryz.ntmps129;go_wp2;generalize w.alloc (.cells (prs G (fun _=>(.int .i64 0,.int .i64 0))).toArray 118)=w1 at kA hB ⊢;obtain ⟨g,hg⟩ :∃g,w.heap.size=g:=⟨_,rfl⟩;have HGW:Hid (w.heap.size=g):=hg;rw [hg] at hB ⊢;clear hmk hg;go_loopg [6,12] (G + 1) (fun gl _ s12 wr =>∃k:Nat,k + gl=G + 1/\k<=G/\s12 = .int .i64 (k:Int)/\Bk wr g 118 (prs G (fun i=>if i < k then spv (eov a b) i else (.int .i64 0,.int .i64 0)))/\Za N0_ w wr)
 case atStart=>exact ⟨0,by omega,by omega,rfl,by simpa using hB,kA⟩
 case round =>
  clear hB kA;obtain ⟨k,hgl,hk,rfl,hB,hK⟩:=hrel;have HG:Hid (k + gk=G + 1):=hgl;clear hgl
  by_cases hlt:k < G
  ·have hz:(k:Int) < (G:Int):=by omega
   obtain ⟨ga,ca',hva,hga⟩:=ZT ha (by omega);obtain ⟨gb,cb',hvb,hgb⟩:=ZT hb (by omega);simp only [Value.slice.injEq] at hva hvb;obtain ⟨rfl,_,rfl⟩:=hva;obtain ⟨rfl,_,rfl⟩:=hvb;have ra:=ha.same hK;have rb:=hb.same hK;have a0:=ra.cellAt (k * 2) (by omega);have a1:=ra.cellAt (k * 2 + 1) (by omega);have b0:=rb.cellAt (k * 2) (by omega);have b1:=rb.cellAt (k * 2 + 1) (by omega);rw [(Jy G _ k hlt).1] at a0 b0;rw [(Jy G _ k hlt).2] at a1 b1;obtain ⟨x0,x1,hx,-,-⟩:=Zet a k;obtain ⟨y0,y1,hy,hy1,hy2⟩:=Zet b k;have HX:Hid (spv a k=(.int .i64 x0,.int .i64 x1)):=hx;have HY:Hid (spv b k=(.int .i64 y0,.int .i64 y1)):=hy;rw [hx] at a0 a1;rw [hy] at b0 b1;simp only at a0 a1 b0 b1;clear hx hy ra rb;have hne1:ga≠g:=by have:=HGW.out; omega
   have hne2:gb≠g:=by have:=HGW.out; omega
   have f0:=hB.fz (k * 2);have f1:=hB.fz (k * 2 + 1);have c0:=hB.cell (k * 2);have c1:=hB.cell (k * 2 + 1);rw [(Jy G _ k hlt).1] at c0;rw [(Jy G _ k hlt).2] at c1;simp only [Nat.lt_irrefl,if_false] at c0 c1;have hS:=(hB.set (k * 2) (.int .i64 x0)).set (k * 2 + 1) (.int .i64 x1);rw [ZcG G _ k _ hlt,ZeI G _ k _ hlt] at hS;have kS:Za N0_ w ((wr.setCell ⟨g,k * 2,none⟩ (.int .i64 x0)).setCell ⟨g,k * 2 + 1,none⟩ (.int .i64 x1)):=(hK.setCell (fun h=>by have:=HGW.out; simp at h; omega) _).setCell (fun h=>by have:=HGW.out; simp at h; omega) _
   by_cases hbn:b k=none
   ·have hyz:=(hy1 hbn).1;have HBN:Hid (b k=none):=hbn;clear hbn hy1 hy2;subst hyz;go_wp2;go_roundg (gk - 1)
    case measure=>have:=HG.out; omega
    case rel =>
     refine ⟨k + 1,by have:=HG.out; omega,by omega,congrArg (Value.int .i64) (by omega),?_,kS⟩;refine Eq.mp (congrArg (Bk _ g _) (Q5 G _ _ ?_)) hS;intro i hi;unfold up1 up0
     by_cases h1:i=k
     ·subst h1; simp [Zfu HBN.out,HX.out]
     ·by_cases h2:i < k
      ·simp [h1,h2,show i < k + 1 by omega]
      ·simp [h1,h2,show ¬ i < k + 1 by omega]
   ·have hyz:(y0 != -2)=true:=by have:=hy2 hbn; simp; omega
    have HBN:Hid (b k≠none):=hbn;clear hbn hy1 hy2;have hT:=(hS.set (k * 2) (.int .i64 y0)).set (k * 2 + 1) (.int .i64 y1);rw [ZcG G _ k _ hlt,ZeI G _ k _ hlt] at hT;have kT:Za N0_ w ((((wr.setCell ⟨g,k * 2,none⟩ (.int .i64 x0)).setCell ⟨g,k * 2 + 1,none⟩ (.int .i64 x1)).setCell ⟨g,k * 2,none⟩ (.int .i64 y0)).setCell ⟨g,k * 2 + 1,none⟩ (.int .i64 y1)):=(kS.setCell (fun h=>by have:=HGW.out; simp at h; omega) _).setCell (fun h=>by have:=HGW.out; simp at h; omega) _;go_wp2;go_roundg (gk - 1)
    case measure=>have:=HG.out; omega
    case rel =>
     refine ⟨k + 1,by have:=HG.out; omega,by omega,congrArg (Value.int .i64) (by omega),?_,kT⟩;refine Eq.mp (congrArg (Bk _ g _) (Q5 G _ _ ?_)) hT;intro i hi;unfold up1 up0
     by_cases h1:i=k
     ·subst h1; simp [Zft HBN.out,HY.out]
     ·by_cases h2:i < k
      ·simp [h1,h2,show i < k + 1 by omega]
      ·simp [h1,h2,show ¬ i < k + 1 by omega]
  ·obtain rfl:k=G:=by omega
   go_wp2;go_ret;refine ⟨_,rfl,?_,hK,fun j hj=>by have:=HGW.out; simp [Value.ownBlock] at hj; omega⟩;unfold GrR;have e:prs k (spv (eov a b))=prs k (fun i=>if i < k then spv (eov a b) i else (.int .i64 0,.int .i64 0)):=Q5 k _ _ (fun i hi=>by simp [hi]);rw [e];exact hB.own (Q4 _ _) (by unfold maxLen; omega) (Nat.zero_le _)
theorem ZL (w:World) (P i:Nat) (u:Value):Za (fun k=>k=P) w (w.setCell ⟨P,i,none⟩ u):=(Za.refl (fun k=>k=P) _).setCell (fun _=>rfl) _
def flv (n:Nat) (mk:Nat->Bool):List Value:=(List.range n).map fun i => .bool (mk i)
theorem Zhd (n:Nat) (mk:Nat->Bool):(flv n mk).length=n:=by simp [flv]
theorem Zby (n:Nat) (mk:Nat->Bool) (i:Nat) (hi:i < n):(flv n mk)[i]? = some (.bool (mk i)):=by simp [flv,hi]
theorem Zhc (n:Nat) (mk:Nat->Bool) (k:Nat) (hk:k < n):(flv n mk).set k (.bool true)=flv n (sad mk k):=by
 apply List.ext_getElem?;intro i
 by_cases hi:i < n
 ·rw [Zby n _ i hi,List.getElem?_set]
  by_cases h:k=i
  ·subst h; simp [Zhd,hk,sad]
  ·rw [if_neg h,Zby n _ i hi];simp [sad,show ¬ i=k from fun e=>h e.symm]
 ·rw [List.getElem?_eq_none (by simp [Zhd]; omega),List.getElem?_eq_none (by simp [Zhd]; omega)]
theorem Tryz.infoBool2:(Tryz.prog.info? 4).map (fun i=>(i.zero,i.size,i.bytes))=some (some (.bool false),1,1):=by kernel_rfl
theorem ZdZ (n:Nat) (hn:n<=100000) (w:World):(Instr.makeSlice 74 (.int .i64 (n:Int)) (.int .i64 (n:Int))).run Tryz.prog w = .ok (.slice (some ⟨w.heap.size,0,none⟩) n n) (w.alloc (.cells (flv n sno).toArray 4)):=by
 have h:=run_make_row' (P:=Tryz.prog) 74 4 (.bool false) 1 Tryz.underlying74 Tryz.infoBool2 rfl .i64 .i64 n (by omega) (by omega) w;have e:madeCells #[Value.bool false] n=(flv n sno).toArray:=by
  apply Array.ext';rw [toList_madeCells_one];simp [flv,sno,List.map_const']
 rw [h,e]
def ZsG (w:World) (E:Nat->Prop):Prop :=∀k,E k->∀cur,w.heap[k]?≠some (.cells cur 118 (0,0))
theorem GrR.keepsN {w w':World} {G:Nat} {v:Value} {e:Ef} {E:Nat->Prop} (h:GrR w G v e) (k:Za E w w') (hE:ZsG w E):GrR w' G v e :=
 h.keeps k fun i hi he=>by obtain ⟨cur,hc⟩:=Zu h hi; exact hE i he cur hc
def enf (L:En) (gv:Nat->Value) (i:Nat):Value×Value:=(.int .i64 ((L.getD i (0,eno)).1:Int),gv i)
def Qs (w:World) (G:Nat) (v:Value) (L:En):Prop :=∃gv:Nat->Value,w.ownsRow 0 161 2 v L.length (prs L.length (enf L gv))/\∀i,i < L.length->GrR w G (gv i) (L.getD i (0,eno)).2
theorem Qs.keeps {w w':World} {G:Nat} {v:Value} {L:En} {E:Nat->Prop} (h:Qs w G v L) (k:Za E w w') (hE:ZsG w E) (hv :∀i,v.ownBlock=some i->¬ E i):Qs w' G v L:=by
 obtain ⟨gv,h1,h2⟩:=h;exact ⟨gv,Zb h1 k hv,fun i hi=>(h2 i hi).keepsN k hE⟩
theorem Qs.same {w w':World} {G:Nat} {v:Value} {L:En} (h:Qs w G v L) (k:Za N0_ w w'):Qs w' G v L:=h.keeps k (fun _ h=>h.elim) (fun _ _ h=>h)
theorem Qs.form {w:World} {G:Nat} {v:Value} {L:En} (h:Qs w G v L) :∃ao cap,v = .slice ao L.length cap:=by
 obtain ⟨gv,h1,h2⟩:=h;exact Zd h1
theorem Zdp (w:World) (G:Nat):Qs w G (.slice none 0 0) []:=⟨fun _ => .slice none 0 0,World.ownsRow_nil _ _ _ _,fun i hi=>by simp at hi⟩
structure Ll (w:World) (Lb Sb N G:Nat) (lv:Value) (M:En):Prop where
 box:w.heap[Lb]? = some (.cells #[.slice (some ⟨Sb,0,none⟩) (N + 1) (N + 1),lv] 236 (0,0))
 seen:Bk w Sb 4 (flv (N + 1) (sal sno M))
 ends:Qs w G lv M
namespace Ll
variable {w w':World} {Lb Sb N G:Nat} {lv:Value} {M:En}
theorem c0 (h:Ll w Lb Sb N G lv M):w.cell? ⟨Lb,0,none⟩=some (.slice (some ⟨Sb,0,none⟩) (N + 1) (N + 1)):=by rw [Zc h.box]; rfl
theorem c1 (h:Ll w Lb Sb N G lv M):w.cell? ⟨Lb,1,none⟩=some lv:=by rw [Zc h.box]; rfl
theorem lt (h:Ll w Lb Sb N G lv M):Lb < w.heap.size:=lt_of_block h.box
theorem lt2 (h:Ll w Lb Sb N G lv M):Sb < w.heap.size:=h.seen.lt
theorem ne (h:Ll w Lb Sb N G lv M):Lb≠Sb:=by
 intro e; subst e;have h1:=h.box; have h2:=h.seen;unfold Bk at h2;rw [h1] at h2;simp at h2
theorem keeps {E:Nat->Prop} (h:Ll w Lb Sb N G lv M) (k:Za E w w') (h1:¬ E Lb) (h2:¬ E Sb) (hE:ZsG w E) (hv :∀i,lv.ownBlock=some i->¬ E i):Ll w' Lb Sb N G lv M :=
 ⟨by rw [k.block Lb h.lt h1]; exact h.box,h.seen.keeps k h2,h.ends.keeps k hE hv⟩
theorem same (h:Ll w Lb Sb N G lv M) (k:Za N0_ w w'):Ll w' Lb Sb N G lv M:=h.keeps k id id (fun _ h=>h.elim) (fun _ _ h=>h)
end Ll
theorem Zmb {w:World} {R G:Nat} {at_:Int} {pv dv lv:Value} {u:ByteArray} (h:Mc w R at_ G pv u dv lv) (hu:u.size<=200) :
  Calls Tryz.prog 125 #[.pointer (some ⟨R,0,none⟩)] w fun e w' =>∃Lb Sb,e = .returned (.pointer (some ⟨Lb,0,none⟩))/\Ll w' Lb Sb u.size G (.slice none 0 0) []/\w.heap.size<=Lb/\w.heap.size<=Sb/\Za N0_ w w':=by
 have hmk:=ZdZ (u.size + 1) (by omega)
 push_cast at hmk
 have c4:=h.c4;have kA:Za N0_ w ((w.alloc (.cells (flv (u.size + 1) sno).toArray 4)).alloc (.cells #[.slice (some ⟨w.heap.size,0,none⟩) (u.size + 1) (u.size + 1),.slice none 0 0] 236)):=((Za.refl _ w).alloc _).alloc _;have hL:Ll ((w.alloc (.cells (flv (u.size + 1) sno).toArray 4)).alloc (.cells #[.slice (some ⟨w.heap.size,0,none⟩) (u.size + 1) (u.size + 1),.slice none 0 0] 236)) (w.heap.size + 1) w.heap.size u.size G (.slice none 0 0) []:=by
  refine ⟨Zbi w _ _,?_,Zdp _ _⟩
  have:=Zbc w (.cells (flv (u.size + 1) sno).toArray 4) (.cells #[.slice (some ⟨w.heap.size,0,none⟩) (u.size + 1) (u.size + 1),.slice none 0 0] 236)
  rw [Q1];exact this
 clear h;go_enter Tryz.func125,Tryz.ntmps125;go_wp2;go_ret;exact ⟨_,_,rfl,hL,by omega,by omega,kA⟩
def ExL (Lb Sb:Nat) (lv:Value):Nat->Prop:=fun k=>k=Lb\/k=Sb\/lv.ownBlock=some k
theorem Zlg {w:World} {Lb Sb N G:Nat} {lv:Value} {M:En} (h:Ll w Lb Sb N G lv M):ZsG w (ExL Lb Sb lv):=by
 rintro k (rfl | rfl | hk) cur hc
 ·rw [h.box] at hc; simp at hc
 ·have:=h.seen; unfold Bk at this; rw [this] at hc; simp at hc
 ·obtain ⟨gv,h1,_⟩:=h.ends;obtain ⟨c2,h2⟩:=Zu h1 hk;rw [h2] at hc; simp at hc
theorem ZnQ (M:En) (x:Nat×Ef) (gv:Nat->Value) (v:Value):prs (M ++ [x]).length (enf (M ++ [x]) (fun i=>if i < M.length then gv i else v))=prs M.length (enf M gv) ++ [.int .i64 (x.1:Int),v]:=by
 rw [List.length_append,List.length_singleton,JC]
 congr 1
 ·refine Q5 _ _ _ (fun i hi=>?_);simp [enf,hi,List.getD_eq_getElem?_getD,List.getElem?_append_left hi]
 ·simp [enf,List.getD_eq_getElem?_getD]
theorem Tryz.infoEnd2:(Tryz.prog.info? 161).map (fun i=>(i.zero,i.size,i.bytes))=some (some (.agg #[.int .i64 0,.slice none 0 0]),2,32):=by kernel_rfl
def ZdA (Lb Sb N G:Nat) (lv:Value) (M:En) (x:Nat×Ef) (w:World) (e:Ending) (w':World):Prop :=
 e = .returned (.tuple #[])/\∃lv',Ll w' Lb Sb N G lv' (Qu M [x])/\Za (ExL Lb Sb lv) w w'/\Blk w lv lv'
theorem Zrs {w:World} {Lb Sb N G:Nat} {lv gv:Value} {M:En} {p:Nat} {e:Ef} (h:Ll w Lb Sb N G lv M) (hp:p<=N) (hs:sal sno M p=true) :
  Calls Tryz.prog 127 #[.pointer (some ⟨Lb,0,none⟩),.int .i64 (p:Int),gv] w (ZdA Lb Sb N G lv M (p,e) w):=by
 have c0:=h.c0;have cs:=h.seen.cell p;rw [Zby _ _ _ (by omega),hs] at cs;have hz:(p:Int) < (N:Int) + 1:=by omega
 have hfin:ZdA Lb Sb N G lv M (p,e) w (.returned (.tuple #[])) w:=⟨rfl,lv,by rw [ZbW M _ (fun x hx=>by simp at hx; subst hx; exact hs)]; exact h,Za.refl _ _,fun k hk _=>hk⟩;clear h hs;go_enter Tryz.func127,Tryz.ntmps127;go_wp2;go_end0;exact hfin
theorem Zrt {w:World} {Lb Sb N G:Nat} {lv gv:Value} {M:En} {p:Nat} {e:Ef} (h:Ll w Lb Sb N G lv M) (hg:GrR w G gv e) (hp:p<=N) (hN:N<=200) (hM:M.length<=1000) (hs:sal sno M p=false) :
  Calls Tryz.prog 127 #[.pointer (some ⟨Lb,0,none⟩),.int .i64 (p:Int),gv] w (ZdA Lb Sb N G lv M (p,e) w):=by
 obtain ⟨i0,hi,hz0,hz1,hz2⟩:=info_parts Tryz.infoEnd2;have c0:=h.c0;have cs:=h.seen.cell p;rw [Zby _ _ _ (by omega),hs] at cs;have fs:=h.seen.fz p;have hz:(p:Int) < (N:Int) + 1:=by omega
 obtain ⟨ag,cg,hgv⟩:=Zd hg;subst hgv;have hne:=h.ne;have hNo:=Zlg h;obtain ⟨gf,hrow,hgs⟩:=id h.ends;have hlS :∀k,lv.ownBlock=some k->k≠Sb:=by
  rintro k hk rfl;obtain ⟨c2,h2⟩:=Zu hrow hk
  have:=h.seen; unfold Bk at this; rw [this] at h2; simp at h2
 have hlL :∀k,lv.ownBlock=some k->k≠Lb:=by
  rintro k hk rfl;obtain ⟨c2,h2⟩:=Zu hrow hk;rw [h.box] at h2; simp at h2
 have K1:Za (fun k=>k=Sb) w (w.setCell ⟨Sb,p,none⟩ (.bool true)):=ZL w Sb p _;obtain ⟨W,hW⟩ :∃W,w.setCell ⟨Sb,p,none⟩ (.bool true)=W:=⟨_,rfl⟩;have hS1:=h.seen.set p (.bool true);rw [Zhc _ _ _ (by omega)] at hS1;rw [hW] at hS1 K1;have row1:=Zb hrow K1 (fun k hk=>hlS k hk);have box1':W.heap[Lb]? = some (.cells #[.slice (some ⟨Sb,0,none⟩) (N + 1) (N + 1),lv] 236 (0,0)):=by rw [K1.block Lb h.lt hne]; exact h.box
 have d1:W.cell? ⟨Lb,1,none⟩=some lv:=by rw [Zc box1']; rfl
 obtain ⟨v',w3,hrun,ho,hgr,hbk⟩:=JV (P:=Tryz.prog) (W.alloc (.cells #[.int .i64 (p:Int),.slice ag G cg] 161)) 0 158 158 161 i0 _ 2 32 Tryz.underlying158 hi hz0 hz1 hz2 rfl (by decide) lv M.length _ (row1.alloc _)
  ⟨W.heap.size,0,none⟩ 1 1 [.int .i64 (p:Int),.slice ag G cg] rfl (Qt W _ _) (by intro x hx; simp at hx; rcases hx with rfl | rfl <;> rfl) (by unfold maxLen; omega) (by omega) (by simp)
 have K2:Za (fun k=>lv.ownBlock=some k) W w3:=((Za.refl _ W).alloc _).grown hgr (fun k hk _=>hk);have ZpS:w3.heap[Lb]? = some (.cells #[.slice (some ⟨Sb,0,none⟩) (N + 1) (N + 1),lv] 236 (0,0)):=by rw [K2.block Lb (lt_of_block box1') (fun hk=>hlL Lb hk rfl)]; exact box1'
 have f3:w3.frozen? ⟨Lb,1,none⟩=false:=Zv ZpS;have e3:w3.cell? ⟨Lb,1,none⟩=some lv:=by rw [Zc ZpS]; rfl
 have hS3:=hS1.keeps K2 (fun hk=>hlS Sb hk rfl);have K3:Za (fun k=>k=Lb) w3 (w3.setCell ⟨Lb,1,none⟩ v'):=ZL w3 Lb 1 v';have hKall:Za (ExL Lb Sb lv) w (w3.setCell ⟨Lb,1,none⟩ v') :=
  ((K1.mono (E':=ExL Lb Sb lv) (fun k _ hk=>Or.inr (Or.inl hk))).trans (K2.mono (E':=ExL Lb Sb lv) (fun k _ hk=>Or.inr (Or.inr hk)))).trans (K3.mono (E':=ExL Lb Sb lv) (fun k _ hk=>Or.inl hk))
 have hv'L :∀k,v'.ownBlock=some k->k≠Lb:=by
  rintro k hk rfl;obtain ⟨c2,h2⟩:=Zu ho hk;rw [ZpS] at h2; simp at h2
 have hfin:ZdA Lb Sb N G lv M (p,e) w (.returned (.tuple #[])) (w3.setCell ⟨Lb,1,none⟩ v'):=by
  refine ⟨rfl,v',?_,hKall,?_⟩
  ·rw [Zgo M (p,e) hs];refine ⟨?_,?_,?_⟩
   ·rw [heap_setCell_same _ _ _ _ _ _ ZpS]; rfl
   ·have:=hS3.keeps K3 (fun hk=>hne hk.symm)
    have e1:sad (sal sno M) p=sal sno (M ++ [(p,e)]):=by rw [JK,Zay,Q1]
    rw [<- e1]; exact this
   ·refine ⟨fun i=>if i < M.length then gf i else .slice ag G cg,?_,?_⟩
    ·rw [ZnQ M (p,e) gf (.slice ag G cg),List.length_append];exact Zb ho K3 (fun k hk=>hv'L k hk)
    ·intro i hi';rw [List.length_append,List.length_singleton] at hi'
     by_cases hlt:i < M.length
     ·simp only [hlt,if_true]
      have:(M ++ [(p,e)]).getD i (0,eno)=M.getD i (0,eno):=by simp [List.getD_eq_getElem?_getD,List.getElem?_append_left hlt]
      rw [this];exact (hgs i hlt).keepsN hKall hNo
     ·obtain rfl:i=M.length:=by omega
      simp only [Nat.lt_irrefl,if_false]
      have:(M ++ [(p,e)]).getD M.length (0,eno)=(p,e):=by simp [List.getD_eq_getElem?_getD]
      rw [this];exact hg.keepsN hKall hNo
  ·intro k hk hlt;exact hbk k hk (by have:=K1.size; simp; omega)
 obtain ⟨al,cl,hlv⟩:=Zd hrow;obtain ⟨ao,cap,hv'⟩:=Zd ho;subst hlv;subst hv';have HW:Hid (w.setCell ⟨Sb,p,none⟩ (.bool true)=W):=hW;clear hW hz0 hz1 hz2 hi row1 hgr ho hbk hrow hgs hS1 hS3 box1' ZpS K1 K2 K3 hKall hNo h hg hs;go_enter Tryz.func127,Tryz.ntmps127;go_upto_region 2 with fail;rw [HW.out];go_wp2_with (refine Zk rfl _ _ _ _ rfl rfl _ _ _ _ rfl rfl hrun ?_);go_end0;exact hfin
theorem Zpw {w:World} {Lb Sb N G:Nat} {lv gv:Value} {M:En} {p:Nat} {e:Ef} (h:Ll w Lb Sb N G lv M) (hg:GrR w G gv e) (hp:p<=N) (hN:N<=200) (hM:M.length<=1000) :
  Calls Tryz.prog 127 #[.pointer (some ⟨Lb,0,none⟩),.int .i64 (p:Int),gv] w (ZdA Lb Sb N G lv M (p,e) w):=by
 cases hs:sal sno M p with
 | true=>exact Zrs h hp hs
 | false=>exact Zrt h hg hp hN hM hs
theorem Zin (l:List (Int×Int)) (k:Nat) (h:k < l.length):(ZB l)[k * 2]? = some (.int .i64 l[k].1)/\(ZB l)[k * 2 + 1]? = some (.int .i64 l[k].2):=by
 induction l generalizing k with
 | nil=>simp at h
 | cons r l ih =>
   cases k with
   | zero=>exact ⟨rfl,rfl⟩
   | succ k =>
     have:=ih k (by simpa using h)
     have e1:(k + 1) * 2=k * 2 + 2:=by omega
     have e2:(k + 1) * 2 + 1=k * 2 + 1 + 2:=by omega
     rw [e1,show k * 2 + 2 + 1=k * 2 + 1 + 2 by omega];exact this
theorem Zol {l:List (Int×Int)} {k:Nat} (h:k < l.length) (b:Int):inR (l.take (k + 1)) b=(inR (l.take k) b || (decide (l[k].1<=b) && decide (b<=l[k].2))):=by
 unfold inR;rw [List.take_succ_eq_append_getElem h,List.any_append];simp
theorem ZqL {l:List (Int×Int)} {k:Nat} (h:k < l.length) {b:Int} (h1:l[k].1<=b) (h2:b<=l[k].2):inR l b=true:=by
 unfold inR;rw [List.any_eq_true];exact ⟨l[k],List.getElem_mem h,by simp [h1,h2]⟩
theorem Zn8 {w:World} {v:Value} {rs:List (Int×Int)} {b:Nat} (hr:w.ownsRow 0 250 2 v rs.length (ZB rs)) (hb:b < 256) (hl:rs.length<=100000) :
  Calls Tryz.prog 126 #[v,.int .u8 (b:Int)] w fun e w'=>e = .returned (.bool (inR rs (b:Int)))/\Za N0_ w w':=by
 obtain ⟨ao,cap,rfl⟩:=Zd hr;have hwb:IntKind.i64.wrap (b:Int)=(b:Int):=IntWalk.i64_in _ ⟨by omega,by omega⟩;go_enter Tryz.func126,Tryz.ntmps126;go_wp2;go_loopg [6,9] (rs.length + 1) (fun gl _ s9 wr =>∃k:Nat,k + gl=rs.length + 1/\k<=rs.length/\s9 = .int .i64 (k:Int)/\Hid (inR (rs.take k) (b:Int)=false)/\Za N0_ w wr)
 case atStart=>exact ⟨0,by omega,by omega,rfl,(by show _ = _; simp [inR]),Za.refl _ _⟩
 case round =>
  obtain ⟨k,hgl,hk,rfl,HI,hK⟩:=hrel;have HG:Hid (k + gk=rs.length + 1):=hgl;clear hgl
  by_cases hlt:k < rs.length
  ·have hz:(k:Int) < (rs.length:Int):=by omega
   obtain ⟨g,cap',hv,hg⟩:=ZT hr (by omega);simp only [Value.slice.injEq] at hv;obtain ⟨rfl,_,rfl⟩:=hv;have r1:=Zb hr hK (fun _ _ h=>h);have a0:=r1.cellAt (k * 2) (by omega);have a1:=r1.cellAt (k * 2 + 1) (by omega);rw [(Zin rs k hlt).1] at a0;rw [(Zin rs k hlt).2] at a1;have HT:Hid (inR (rs.take (k + 1)) (b:Int)=(inR (rs.take k) (b:Int) || (decide (rs[k].1<=(b:Int)) && decide ((b:Int)<=rs[k].2)))):=Zol hlt b;have HY:Hid (rs[k].1<=(b:Int)->(b:Int)<=rs[k].2->inR rs (b:Int)=true):=(by show _->_; exact fun h1 h2=>ZqL hlt h1 h2);generalize rs[k]=r at a0 a1 HT HY;obtain ⟨lo,hi⟩:=r;simp only at a0 a1;have hk2:Za N0_ w (wr.alloc (.cells #[.int .i64 lo,.int .i64 hi] 250)):=hK.alloc _
   by_cases h1:lo<=(b:Int)
   ·by_cases h2:(b:Int)<=hi
    ·have HYY:Hid (inR rs (b:Int)=true):=HY.out h1 h2;go_wp2;go_ret;exact ⟨by rw [HYY.out]; rfl,hk2⟩
    ·have HN:Hid (inR (rs.take (k + 1)) (b:Int)=false):=(by show _ = _; rw [HT.out,HI.out]; simp [h2]);go_wp2;go_roundg (gk - 1)
     case measure=>have:=HG.out; omega
     case rel=>exact ⟨k + 1,by have:=HG.out; omega,by omega,congrArg (Value.int .i64) (by omega),HN,hk2⟩
   ·have HN:Hid (inR (rs.take (k + 1)) (b:Int)=false):=(by show _ = _; rw [HT.out,HI.out]; simp [h1]);go_wp2;go_roundg (gk - 1)
    case measure=>have:=HG.out; omega
    case rel=>exact ⟨k + 1,by have:=HG.out; omega,by omega,congrArg (Value.int .i64) (by omega),HN,hk2⟩
  ·obtain rfl:k=rs.length:=by omega
   have HN:Hid (inR rs (b:Int)=false):=(by have:=HI.out; rw [List.take_length] at this; exact this);go_wp2;go_ret;exact ⟨by rw [HN.out]; rfl,hK⟩
end Go.Proofs.YtfkflljplohhcaaGreatDoor
