import Derived.Test.YtfkflljplohhcaaGreatDoorB
set_option linter.unusedVariables false
set_option maxHeartbeats 1000000
namespace Go.Proofs.YtfkflljplohhcaaGreatDoor
open Go.RowKit
structure Bv (S:Bs) (f:Nat->Nat):Prop where
 lt:∀q,f q<2 ^ 64
 bit:∀x,x<256->(f (x / 64)).testBit (x % 64)=S x
theorem Mf(a b:Nat)(ha:a<2 ^ 64)(hb:b<2 ^ 64):bits .and .u64 a b=((a &&& b:Nat):Int)/\bits .or .u64 a b=((a ||| b:Nat):Int):=by
 exact bits_nat .u64 64 (by decide) (fun n h0 h1=>IntWalk.u64_in n (by omega)) a b ha hb
theorem Zqm(v r:Nat)(hv:v<2 ^ 64):(bits .and .u64 ((v:Int) / 2 ^ r) 1 == 1)=v.testBit r:=by
 have e:((v:Int) / 2 ^ r)=((v / 2 ^ r:Nat):Int):=by simp
 have h1:v / 2 ^ r<2 ^ 64:=Nat.lt_of_le_of_lt (Nat.div_le_self _ _) hv
 have:=(Mf (v / 2 ^ r) 1 h1 (by decide)).1
 rw[e];have e2:((1:Nat):Int)=1:=rfl;rw[e2] at this;rw[this,Nat.testBit_eq_decide_div_mod_eq,Nat.and_one_is_mod]
 rcases Nat.mod_two_eq_zero_or_one (v / 2 ^ r) with h | h <;> simp[h]
variable {w:World}{S:Bs}{f g:Nat->Nat}{P:Nat}
theorem LC(h:Bv S f)(x:Nat)(hx:x<256):
  au 101 #[.agg #[.int .u64 (f 0),.int .u64 (f 1),.int .u64 (f 2),.int .u64 (f 3)],.int .i64 x] w fun e w'=>e=.returned (.bool (S x))/\Za ai w w':=by
 have hc:(w.alloc (.cells #[.int .u64 (f 0),.int .u64 (f 1),.int .u64 (f 2),.int .u64 (f 3)] 170)).cell? ⟨w.heap.size,x / 64,none⟩=some (.int .u64 (f (x / 64))):=by
  rw[Zc (heap_alloc_new w _)]
  rcases(show x / 64=0\/x / 64=1\/x / 64=2\/x / 64=3 from by omega) with e | e | e | e <;> rw[e] <;> rfl
 have HB:=h.bit x hx;have HT:Hid (S x=(bits .and .u64 ((f (x / 64):Int) / 2 ^ (x % 64)) 1 == 1)):=by show _ = _;rw[Zqm _ _ (h.lt _)];exact HB.symm
 have hv:=h.lt (x / 64);clear HB;generalize f (x / 64)=v at hc hv HT;go_enter Tryz.func101,Tryz.ntmps101;go_wp2;go_ret;exact⟨Z8 HT.out.symm,(Za.refl _ _).alloc _⟩
def Sb (w:World) (P:Nat) (f:Nat->Nat):Prop:=w.heap[P]?=some (.cells #[.int .u64 (f 0),.int .u64 (f 1),.int .u64 (f 2),.int .u64 (f 3)] 170 (0,0))
variable {E:Nat->Prop}
theorem Sb.keeps{w':World}(h:Sb w P f)(k:Za E w w')(hE:¬E P):Sb w' P f:=by
 unfold Sb at h ⊢;rw[k.block P (lt_of_block h) hE];exact h
theorem Sb.cell(h:Sb w P f){q:Nat}(hq:q<4):w.cell? ⟨P,q,none⟩=some (.int .u64 (f q)):=by
 rw[Zc h]
 rcases(show q=0\/q=1\/q=2\/q=3 from by omega) with e | e | e | e <;> subst e <;> rfl
theorem Sb.fz(h:Sb w P f)(q:Nat):w.frozen? ⟨P,q,none⟩=false:=Zv h
theorem Sb.set{f':Nat->Nat}(h:Sb w P f){q:Nat}(hq:q<4)(x:Nat)(hf:∀i,i<4->f' i=if i=q then x else f i):Sb (w.setCell ⟨P,q,none⟩ (.int .u64 (x:Int))) P f':=by
 unfold Sb;rw[heap_setCell_same _ _ _ _ _ _ h,hf 0 (by omega),hf 1 (by omega),hf 2 (by omega),hf 3 (by omega)]
 rcases(show q=0\/q=1\/q=2\/q=3 from by omega) with e | e | e | e <;> subst e <;> rfl
def og (v:Nat):Nat:=(~~~ (BitVec.ofNat 64 v)).toNat
theorem YT(v:Nat):og v<2 ^ 64:=(~~~ (BitVec.ofNat 64 v)).isLt
theorem Zpc(v r:Nat)(hr:r<64):(og v).testBit r = !v.testBit r:=by
 unfold og;rw[BitVec.testBit_toNat,BitVec.getLsbD_not,BitVec.getLsbD_ofNat];simp[hr]
theorem Zrr(v:Nat)(hv:v<2 ^ 64):bits .xor .u64 IntKind.u64.max v=((og v:Nat):Int):=by
 have h1:BitVec.ofInt 64 (IntKind.u64.max)=BitVec.allOnes 64:=by decide
 have h2:BitVec.ofInt 64 (v:Int)=BitVec.ofNat 64 v:=by simp
 show IntKind.u64.wrap ((BitVec.ofInt 64 IntKind.u64.max ^^^ BitVec.ofInt 64 (v:Int)).toNat:Int) = _;rw[h1,h2,BitVec.allOnes_xor]
 have:=YT v
 exact IntWalk.u64_in _ ⟨by omega,by unfold og at this;omega⟩
theorem Zvc(h:Bv S f):Bv (co S) (fun q=>og (f q)) :=
 ⟨fun q=>YT _,fun x hx=>by rw[Zpc _ _ (by omega),h.bit x hx];rfl⟩
variable {T:Bs}
theorem Zvb(h:Bv S f)(k:Bv T g):Bv (un S T) (fun q=>f q ||| g q) :=
 ⟨fun q=>Nat.or_lt_two_pow (h.lt q) (k.lt q),fun x hx=>by rw[Nat.testBit_or,h.bit x hx,k.bit x hx];rfl⟩
theorem BS(h:Bv S f)(e:∀x,x<256->S x=T x):Bv T f:=⟨h.lt,fun x hx=>by rw[h.bit x hx];exact e x hx⟩
theorem ZsC:Bv J3 (fun _=>0):=⟨fun _=>by decide,fun x _=>by simp[J3]⟩
theorem Zuc(h:Bv S f)(b:Nat)(hb:b<256):Bv (un S (one b)) (fun q=>if q=b / 64 then f q ||| 2 ^ (b % 64) else f q):=by
 refine⟨fun q=>?_,fun x hx=>?_⟩
 ·by_cases e:q=b / 64
  ·simp only[e,if_true];exact Nat.or_lt_two_pow (h.lt _) (Nat.pow_lt_pow_right (by omega) (by omega))
  ·simp only[e,if_false];exact h.lt q
 ·by_cases e:x / 64=b / 64
  ·simp only[e,if_true];rw[Nat.testBit_or,Nat.testBit_two_pow];have h1:=h.bit x hx;rw[e] at h1;rw[h1]
   by_cases e2:x=b
   ·simp[un,one,e2]
   ·have:¬b % 64=x % 64:=by omega
    simp[un,one,e2,this]
  ·simp only[e,if_false];rw[h.bit x hx]
   have:¬x=b:=by intro hh;exact e (by rw[hh])
   simp[un,one,this]
theorem Qr(w:World)(P i:Nat)(u:Value):Za (·=P) w (w.setCell ⟨P,i,none⟩ u):=(Za.refl (·=P) _).setCell (fun _=>rfl) _
theorem ZjU(h:Bv S f):
  au 136 #[.agg #[.int .u64 (f 0),.int .u64 (f 1),.int .u64 (f 2),.int .u64 (f 3)]] w fun e w' =>
   e=.returned (.agg #[.int .u64 (og (f 0)),.int .u64 (og (f 1)),.int .u64 (og (f 2)),.int .u64 (og (f 3))])/\Za ai w w':=by
 go_enter Tryz.func136,Tryz.ntmps136;go_wp2;go_loopg [4] 4 (fun gz i wr =>∃k:Nat,k+gz=4/\i=.int .i64 k/\Sb wr w.heap.size (fun q=>if q<k then og (f q) else f q)/\Sb wr (w.heap.size+1) (fun _=>0)/\Za ai w wr)
 case atStart =>
  refine⟨0,by omega,rfl,?_,?_,((Za.refl _ _).alloc _).alloc _⟩
  ·exact fU w _ _
  ·exact gH w _ _
 case round =>
  obtain⟨k,hk,rfl,hs,hr,hkp⟩:=hrel
  by_cases hlt:k<4
  ·have c1:=hs.cell hlt;simp only[Nat.lt_irrefl,if_false] at c1;have f1:=hs.fz k;have hkz:(k:Int)<4:=by omega
   have HX:Hid (bits .xor .u64 IntKind.u64.max (f k)=((og (f k):Nat):Int)):=Zrr _ (h.lt k);go_wp2;go_roundg (gk-1)
   case measure=>omega
   case rel =>
    refine⟨k+1,by omega,by go_num,?_,hr.keeps (Qr _ _ _ _) (by omega),hkp.setCell (fun h=>absurd h (by simp)) _⟩;rw[HX.out];refine hs.set hlt _ (fun i hi=>?_)
    by_cases e:i=k
    ·subst e;simp
    ·have:(i<k+1)=(i<k):=by simp;omega
     simp[e,this]
  ·obtain rfl:k=4:=by omega
   have d0:=hs.cell (q:=0) (by omega);have d1:=hs.cell (q:=1) (by omega);have d2:=hs.cell (q:=2) (by omega);have d3:=hs.cell (q:=3) (by omega);have e0:=hr.cell (q:=0) (by omega);have e1:=hr.cell (q:=1) (by omega);have e2:=hr.cell (q:=2) (by omega);have e3:=hr.cell (q:=3) (by omega);have ef:=hr.fz;simp at d0 d1 d2 d3;go_wp2;refine bodyPost_ret (v:=.agg #[.int .u64 (og (f 0)),.int .u64 (og (f 1)),.int .u64 (og (f 2)),.int .u64 (og (f 3))]) (by simp[results,Tryz.results136,go_sem,e0,e1,e2,e3]) rfl ?_;exact⟨rfl,(((hkp.setCell (fun h=>absurd h (by simp)) _).setCell (fun h=>absurd h (by simp)) _).setCell (fun h=>absurd h (by simp)) _).setCell (fun h=>absurd h (by simp)) _⟩
theorem Zom(h:Bv S f)(h2:Bv T g):
  au 146 #[.agg #[.int .u64 (f 0),.int .u64 (f 1),.int .u64 (f 2),.int .u64 (f 3)],.agg #[.int .u64 (g 0),.int .u64 (g 1),.int .u64 (g 2),.int .u64 (g 3)]] w fun e w' =>
   e=.returned (.agg #[.int .u64 ((f 0 ||| g 0:Nat):Int),.int .u64 ((f 1 ||| g 1:Nat):Int),.int .u64 ((f 2 ||| g 2:Nat):Int),.int .u64 ((f 3 ||| g 3:Nat):Int)])/\Za ai w w':=by
 go_enter Tryz.func146,Tryz.ntmps146;go_wp2;go_loopg [6] 4 (fun gz i wr =>∃k:Nat,k+gz=4/\i=.int .i64 k/\Sb wr w.heap.size (fun q=>if q<k then f q ||| g q else f q)/\Sb wr (w.heap.size+1) g/\Sb wr (w.heap.size+1+1) (fun _=>0)/\Za ai w wr)
 case atStart =>
  refine⟨0,by omega,rfl,?_,?_,?_,(((Za.refl _ _).alloc _).alloc _).alloc _⟩
  ·unfold Sb;rw[Below.heap_alloc _ _ _ (by simp;omega)];exact fU w _ _
  ·unfold Sb;rw[Below.heap_alloc _ _ _ (by simp)];exact gH w _ _
  ·have:=heap_alloc_new ((w.alloc (.cells #[.int .u64 (f 0),.int .u64 (f 1),.int .u64 (f 2),.int .u64 (f 3)] 170)).alloc (.cells #[.int .u64 (g 0),.int .u64 (g 1),.int .u64 (g 2),.int .u64 (g 3)] 170)) (.cells #[.int .u64 0,.int .u64 0,.int .u64 0,.int .u64 0] 170)
   simpa [Sb] using this
 case round =>
  obtain⟨k,hk,rfl,hs,hg,hr,hkp⟩:=hrel
  by_cases hlt:k<4
  ·have c1:=hs.cell hlt;simp only[Nat.lt_irrefl,if_false] at c1;have c2:=hg.cell hlt;have f1:=hs.fz k;have hkz:(k:Int)<4:=by omega
   have HX:Hid (bits .or .u64 (f k) (g k)=((f k ||| g k:Nat):Int)):=(Mf _ _ (h.lt k) (h2.lt k)).2;go_wp2;go_region
   all_goals go_wp2
   go_roundg (gk-1)
   case measure=>omega
   case rel =>
    refine⟨k+1,by omega,by go_num,?_,hg.keeps ((Qr _ _ _ _).drew) (by omega),hr.keeps ((Qr _ _ _ _).drew) (by omega),(hkp.setCell (fun h=>absurd h (by simp)) _).drew⟩;rw[HX.out];refine Sb.keeps (hs.set (f':=fun q=>if q<k+1 then f q ||| g q else f q) hlt _ (fun i hi=>?_)) ((Za.refl ai _).drew) id
    by_cases e:i=k
    ·subst e;simp
    ·have:(i<k+1)=(i<k):=by simp;omega
     simp[e,this]
  ·obtain rfl:k=4:=by omega
   have d0:=hs.cell (q:=0) (by omega);have d1:=hs.cell (q:=1) (by omega);have d2:=hs.cell (q:=2) (by omega);have d3:=hs.cell (q:=3) (by omega);have e0:=hr.cell (q:=0) (by omega);have e1:=hr.cell (q:=1) (by omega);have e2:=hr.cell (q:=2) (by omega);have e3:=hr.cell (q:=3) (by omega);have ef:=hr.fz;simp at d0 d1 d2 d3;go_wp2;refine bodyPost_ret (v:=.agg #[.int .u64 ((f 0 ||| g 0:Nat):Int),.int .u64 ((f 1 ||| g 1:Nat):Int),.int .u64 ((f 2 ||| g 2:Nat):Int),.int .u64 ((f 3 ||| g 3:Nat):Int)]) (by simp[results,Tryz.results146,go_sem,e0,e1,e2,e3]) rfl ?_;exact⟨rfl,(((hkp.setCell (fun h=>absurd h (by simp;omega)) _).setCell (fun h=>absurd h (by simp;omega)) _).setCell (fun h=>absurd h (by simp;omega)) _).setCell (fun h=>absurd h (by simp;omega)) _⟩
theorem ZtI(v r:Nat)(hv:v<2 ^ 64)(hr:r<64):bits .or .u64 v (IntKind.u64.wrap (2 ^ r))=((v ||| 2 ^ r:Nat):Int):=by
 have h1:2 ^ r<2 ^ 64:=Nat.pow_lt_pow_right (by omega) hr;have e:IntKind.u64.wrap (2 ^ r)=((2 ^ r:Nat):Int):=by
  rw[show ((2:Int) ^ r)=((2 ^ r:Nat):Int) from by simp];generalize 2 ^ r=m at h1;exact IntWalk.u64_in _ ⟨by omega,by omega⟩
 rw[e];exact(Mf v (2 ^ r) hv h1).2
theorem TC(lo hi:Nat)(hlo:lo<256)(hhi:hi<256):
  au 147 #[.int .u8 lo,.int .u8 hi] w fun e w' =>∃f,Bv (eH lo hi) f/\e=.returned (.agg #[.int .u64 (f 0),.int .u64 (f 1),.int .u64 (f 2),.int .u64 (f 3)])/\Za ai w w':=by
 go_enter Tryz.func147,Tryz.ntmps147;go_wp2;go_loopg [6] (hi+2) (fun gz i wr =>∃(k:Nat) (f:Nat->Nat),(k<=hi+1\/k=lo)/\lo<=k/\hi+1-k<gz/\i=.int .i64 k/\Bv (fun x=>decide (lo<=x) && decide (x<k)) f/\Sb wr (w.heap.size+1) f/\Sb wr w.heap.size (fun _=>0)/\Za ai w wr)
 case atStart =>
  refine⟨lo,fun _=>0,Or.inr rfl,Nat.le_refl _,by omega,rfl,BS ZsC (fun x _=>?_),?_,?_,((Za.refl _ _).alloc _).alloc _⟩
  ·have:¬(lo<=x/\x<lo):=by omega
   by_cases h1:lo<=x <;> by_cases h2:x<lo <;> simp[h1,h2,J3]
   omega
  ·exact gH w _ _
  ·exact fU w _ _
 case round =>
  obtain⟨k,f,hk,hlk,hgz,rfl,hf,hs,hr,hkp⟩:=hrel
  by_cases hlt:k<=hi
  ·have c1:=hs.cell (q:=k / 64) (by omega);have f1:=hs.fz (k / 64);have hkz:(k:Int)<=(hi:Int):=by omega
   have xav:(k:Int) / 64<4:=by omega
   have HX:Hid (bits .or .u64 (f (k / 64)) (IntKind.u64.wrap (2 ^ (k % 64)))=((f (k / 64) ||| 2 ^ (k % 64):Nat):Int)):=ZtI _ _ (hf.lt _) (by omega);go_wp2;go_roundg (gk-1)
   case measure=>omega
   case rel =>
    refine⟨k+1,fun q=>if q=k / 64 then f q ||| 2 ^ (k % 64) else f q,Or.inl (by omega),by omega,by omega,by go_num,BS (Zuc hf k (by omega)) (fun x _=>?_),?_,hr.keeps (Qr _ _ _ _) (by omega),hkp.setCell (fun h=>absurd h (by simp)) _⟩
    ·by_cases e:x=k
     ·subst e;simp[un,one];omega
     ·have:(x<k+1)=(x<k):=by simp;omega
      simp[un,one,e,this]
    ·rw[HX.out];exact hs.set (by omega) _ (fun i hi'=>by by_cases e:i=k / 64 <;> simp[e])
  ·have d0:=hs.cell (q:=0) (by omega);have d1:=hs.cell (q:=1) (by omega);have d2:=hs.cell (q:=2) (by omega);have d3:=hs.cell (q:=3) (by omega);have e0:=hr.cell (q:=0) (by omega);have e1:=hr.cell (q:=1) (by omega);have e2:=hr.cell (q:=2) (by omega);have e3:=hr.cell (q:=3) (by omega);have ef:=hr.fz;go_wp2;refine bodyPost_ret (v:=.agg #[.int .u64 (f 0),.int .u64 (f 1),.int .u64 (f 2),.int .u64 (f 3)]) (by simp[results,Tryz.results147,go_sem,e0,e1,e2,e3]) rfl ?_;refine⟨f,BS hf (fun x _=>?_),rfl,(((hkp.setCell (fun h=>absurd h (by simp)) _).setCell (fun h=>absurd h (by simp)) _).setCell (fun h=>absurd h (by simp)) _).setCell (fun h=>absurd h (by simp)) _⟩
   by_cases e:lo<=x
   ·have:(x<k)=(x<=hi):=by simp;omega
    simp[eH,this]
   ·simp[eH,e]
theorem Iz(b:Nat)(hb:b<256):
  au 135 #[.int .u8 b] w fun e w' =>∃f,Bv (one b) f/\e=.returned (.agg #[.int .u64 (f 0),.int .u64 (f 1),.int .u64 (f 2),.int .u64 (f 3)])/\Za ai w w':=by
 go_enter Tryz.func135,Tryz.ntmps135;go_wp2_with(first
  | (go_at_call 147;refine(TC b b hb hb).mono ?_;rintro e w2 ⟨f,hf,rfl,hk⟩
     have hr:Sb w2 w.heap.size (fun _=>0):=Sb.keeps (heap_alloc_new w _) hk id;have e0:=hr.cell (q:=0) (by omega);have e1:=hr.cell (q:=1) (by omega);have e2:=hr.cell (q:=2) (by omega);have e3:=hr.cell (q:=3) (by omega);have ef:=hr.fz;replace hk:=(((Za.refl ai w).alloc _)).trans hk))
 refine bodyPost_ret (v:=.agg #[.int .u64 (f 0),.int .u64 (f 1),.int .u64 (f 2),.int .u64 (f 3)]) (by simp[results,Tryz.results135,go_sem,e0,e1,e2,e3]) rfl ?_;refine⟨f,BS hf (fun x _=>?_),rfl,(((hk.setCell (fun h=>absurd h (by simp)) _).setCell (fun h=>absurd h (by simp)) _).setCell (fun h=>absurd h (by simp)) _).setCell (fun h=>absurd h (by simp)) _⟩
 rcases Nat.lt_trichotomy x b with e | e | e
 ·have h1:¬b<=x:=by omega
  have h2:¬x=b:=by omega
  simp[eH,one,h1,h2]
 ·simp[eH,one,e]
 ·have h1:¬x<=b:=by omega
  have h2:¬x=b:=by omega
  simp[eH,one,h1,h2]
def DY (S:Bs) (w:World) (e:Ending) (w':World):Prop :=∃f,Bv S f/\e=.returned (.agg #[.int .u64 (f 0),.int .u64 (f 1),.int .u64 (f 2),.int .u64 (f 3)])/\Za ai w w'
theorem Td(h:Bv S f)(h2:Bv T g):
  au 146 #[.agg #[.int .u64 (f 0),.int .u64 (f 1),.int .u64 (f 2),.int .u64 (f 3)],.agg #[.int .u64 (g 0),.int .u64 (g 1),.int .u64 (g 2),.int .u64 (g 3)]] w (DY (un S T) w) :=
 (Zom h h2).mono (fun e w' ⟨h1,hk⟩=>⟨_,Zvb h h2,h1,hk⟩)
theorem Zgl(h:Bv S f):
  au 136 #[.agg #[.int .u64 (f 0),.int .u64 (f 1),.int .u64 (f 2),.int .u64 (f 3)]] w (DY (co S) w) :=
 (ZjU h).mono (fun e w' ⟨h1,hk⟩=>⟨_,Zvc h,h1,hk⟩)
theorem TD(lo hi:Int)(h0:0<=lo)(h1:lo<256)(h2:0<=hi)(h3:hi<256):
  au 147 #[.int .u8 lo,.int .u8 hi] w (DY (eH lo.toNat hi.toNat) w):=by
 obtain⟨a,rfl⟩:=Int.eq_ofNat_of_zero_le h0;obtain⟨b,rfl⟩:=Int.eq_ofNat_of_zero_le h2;exact TC a b (by omega) (by omega)
theorem BV(b:Int)(h0:0<=b)(h1:b<256):
  au 135 #[.int .u8 b] w (DY (one b.toNat) w):=by
 obtain⟨a,rfl⟩:=Int.eq_ofNat_of_zero_le h0;exact Iz a (by omega)
theorem YL(b x:Nat):one b x=eH b b x:=by
 rcases Nat.lt_trichotomy x b with e | e | e
 ·have h1:¬b<=x:=by omega
  have h2:¬x=b:=by omega
  simp[eH,one,h1,h2]
 ·simp[eH,one,e]
 ·have h1:¬x<=b:=by omega
  have h2:¬x=b:=by omega
  simp[eH,one,h1,h2]
theorem Zli:
  au 149 #[] w (DY DC w):=by
 go_enter Tryz.func149,Tryz.ntmps149;have hK:=Za.refl ai w;go_wp2_with(first|(go_at_call 147;refine(TD _ _ (by omega) (by omega) (by omega) (by omega)).mono ?_;rintro e w2 ⟨f,hf,rfl,hk⟩;first |(replace hR:=hR.keeps hk id;replace hK:=hK.trans hk) |(have hR:Sb w2 w.heap.size (fun _=>0):=Sb.keeps (heap_alloc_new w _) hk id;replace hK:=(hK.alloc _).trans hk);clear hk)|(go_at_call 135;refine(BV _ (by omega) (by omega)).mono ?_;rintro e w2 ⟨f,hf,rfl,hk⟩;replace hR:=hR.keeps hk id;replace hK:=hK.trans hk;clear hk)|(go_at_call 146;refine(Td (by assumption) (by assumption)).mono ?_;rintro e w2 ⟨f,hf,rfl,hk⟩;replace hR:=hR.keeps hk id;replace hK:=hK.trans hk;clear hk;have e0:=hR.cell (q:=0) (by omega);have e1:=hR.cell (q:=1) (by omega);have e2:=hR.cell (q:=2) (by omega);have e3:=hR.cell (q:=3) (by omega);have ef:=hR.fz))
 refine bodyPost_ret (v:=.agg #[.int .u64 (f 0),.int .u64 (f 1),.int .u64 (f 2),.int .u64 (f 3)]) (by simp[results,Tryz.results149,go_sem,e0,e1,e2,e3]) rfl ?_;refine⟨f,BS hf (fun x _=>?_),rfl,(((hK.setCell (fun h=>absurd h (by simp)) _).setCell (fun h=>absurd h (by simp)) _).setCell (fun h=>absurd h (by simp)) _).setCell (fun h=>absurd h (by simp)) _⟩;simp only[un,YL,DC];rfl
theorem Zol:
  au 148 #[] w (DY Dv w):=by
 go_enter Tryz.func148,Tryz.ntmps148;have hK:=Za.refl ai w;go_wp2_with(first|(go_at_call 147;refine(TD _ _ (by omega) (by omega) (by omega) (by omega)).mono ?_;rintro e w2 ⟨f,hf,rfl,hk⟩;first |(replace hR:=hR.keeps hk id;replace hK:=hK.trans hk) |(have hR:Sb w2 w.heap.size (fun _=>0):=Sb.keeps (heap_alloc_new w _) hk id;replace hK:=(hK.alloc _).trans hk);clear hk)|(go_at_call 135;refine(BV _ (by omega) (by omega)).mono ?_;rintro e w2 ⟨f,hf,rfl,hk⟩;replace hR:=hR.keeps hk id;replace hK:=hK.trans hk;clear hk)|(go_at_call 146;refine(Td (by assumption) (by assumption)).mono ?_;rintro e w2 ⟨f,hf,rfl,hk⟩;replace hR:=hR.keeps hk id;replace hK:=hK.trans hk;clear hk;have e0:=hR.cell (q:=0) (by omega);have e1:=hR.cell (q:=1) (by omega);have e2:=hR.cell (q:=2) (by omega);have e3:=hR.cell (q:=3) (by omega);have ef:=hR.fz))
 refine bodyPost_ret (v:=.agg #[.int .u64 (f 0),.int .u64 (f 1),.int .u64 (f 2),.int .u64 (f 3)]) (by simp[results,Tryz.results148,go_sem,e0,e1,e2,e3]) rfl ?_;refine⟨f,BS hf (fun x _=>?_),rfl,(((hK.setCell (fun h=>absurd h (by simp)) _).setCell (fun h=>absurd h (by simp)) _).setCell (fun h=>absurd h (by simp)) _).setCell (fun h=>absurd h (by simp)) _⟩;simp only[un,YL,Dv];rfl
def vQ (S:Bs):Nat:=((List.range 256).find? S).getD 0
theorem Ym{k:Nat}(hk:k<256)(h:S k=true)(hb:∀y,y<k->S y=false):vQ S=k:=by
 have:(List.range 256).find? S=some k:=by
  rw[List.find?_range_eq_some];exact⟨h,by simpa using hk,fun j hj=>by simp[hb j hj]⟩
 simp[vQ,this]
theorem Zmi(hb:∀y,y<256->S y=false):vQ S=0:=by
 have:(List.range 256).find? S=none:=by
  rw[List.find?_eq_none];intro x hx;simp[hb x (by simpa using hx)]
 simp[vQ,this]
theorem Zeo(h:Bv S f):
  au 159 #[.agg #[.int .u64 (f 0),.int .u64 (f 1),.int .u64 (f 2),.int .u64 (f 3)]] w fun e w'=>e=.returned (.int .u8 (vQ S))/\Za ai w w':=by
 go_enter Tryz.func159,Tryz.ntmps159;go_wp2;go_loopw [2,4] (fun o i wr =>∃k:Nat,k<=256/\o=.int .u8 0/\i=.int .i64 k/\(∀y,y<k->S y=false)/\Sb wr w.heap.size f/\Za ai w wr) (fun _ i _=>256-(intOf i).toNat)
 case atStart=>exact⟨0,Nat.zero_le _,rfl,rfl,fun y hy=>absurd hy (by omega),heap_alloc_new w _,(Za.refl _ _).alloc _⟩
 case round =>
  obtain⟨k,hk,rfl,rfl,hlow,hs,hkp⟩:=hrel
  by_cases hlt:k<256
  ·have d0:=hs.cell (q:=0) (by omega);have d1:=hs.cell (q:=1) (by omega);have d2:=hs.cell (q:=2) (by omega);have d3:=hs.cell (q:=3) (by omega);have hkz:(k:Int)<256:=by omega
   cases hS:S k
   ·have HS:Hid (S k=false):=hS;go_wp2_with(first|(go_at_call 101;refine(LC h k hlt).mono ?_;rintro e w2 ⟨rfl,hk2⟩;rw[HS.out]))
    go_roundw
    case rel =>
     exact⟨k+1,by omega,rfl,by go_num,fun y hy=>by
      rcases Nat.lt_succ_iff_lt_or_eq.mp hy with h1 | h1
      ·exact hlow y h1
      ·rw[h1];exact HS.out,hs.keeps hk2 id,hkp.trans hk2⟩
    case measure=>simp[intOf];omega
   ·have HS:Hid (S k=true):=hS;go_wp2_with(first|(go_at_call 101;refine(LC h k hlt).mono ?_;rintro e w2 ⟨rfl,hk2⟩;rw[HS.out]))
    go_ret;exact⟨by rw[Ym hlt HS.out hlow];go_num,hkp.trans hk2⟩
  ·obtain rfl:k=256:=by omega
   go_wp2;go_ret;exact⟨by rw[Zmi hlow];rfl,hkp⟩
theorem Tryz.sU:(Tryz.prog.info? 43).map (fun i=>(i.zero,i.size,i.bytes))=some (some (.int .u64 0),1,8):=by kernel_rfl
theorem ZpZ(w:World)(a0 a1 a2 a3 b0 b1 b2 b3:Int):
  (Op.equalIn 10000 170 (.agg #[.int .u64 a0,.int .u64 a1,.int .u64 a2,.int .u64 a3]) (.agg #[.int .u64 b0,.int .u64 b1,.int .u64 b2,.int .u64 b3])).run Tryz.prog w
   = .ok (a0 == b0 && (a1 == b1 && (a2 == b2 && a3 == b3))) w:=by
 obtain⟨i0,hi,hz0,hz1,hz2⟩:=info_parts Tryz.sU;have hc:Tryz.prog.cellsOf 43=1:=by kernel_rfl
 rw[show (10000:Nat)=9999+1 from rfl,run_equalIn_array w 9999 (i:=i0) _ _ Tryz.underlying170 hi,hc];simp only[List.range,List.range.loop,Op.eqItems];have hp:∀(w:World) (x0 x1 x2 x3:Int),(part 43 #[.int .u64 x0,.int .u64 x1,.int .u64 x2,.int .u64 x3] (0*1)).run Tryz.prog w=.ok (.int .u64 x0) w
   /\(part 43 #[.int .u64 x0,.int .u64 x1,.int .u64 x2,.int .u64 x3] (1*1)).run Tryz.prog w=.ok (.int .u64 x1) w
   /\(part 43 #[.int .u64 x0,.int .u64 x1,.int .u64 x2,.int .u64 x3] (2*1)).run Tryz.prog w=.ok (.int .u64 x2) w
   /\(part 43 #[.int .u64 x0,.int .u64 x1,.int .u64 x2,.int .u64 x3] (3*1)).run Tryz.prog w=.ok (.int .u64 x3) w:=by
  intro w x0 x1 x2 x3;simp[part,isAgg,run_underlying Tryz.underlying43]
 have he:∀(w:World) (a b:Int),(Op.equalIn 9999 43 (.int .u64 a) (.int .u64 b)).run Tryz.prog w=.ok (a == b) w:=fun w a b=>run_equalIn_int w 9998 43 .u64 .u64 a b Tryz.underlying43;simp only[Sem.run_bind,(hp _ _ _ _ _).1,(hp _ _ _ _ _).2.1,(hp _ _ _ _ _).2.2.1,(hp _ _ _ _ _).2.2.2,he,Result.andThen_ok,Sem.run_ite,Sem.run_pure]
 cases a0 == b0 <;> cases a1 == b1 <;> cases a2 == b2 <;> cases a3 == b3 <;> simp
theorem Zsc(S:Bs):vQ S<256:=by
 unfold vQ
 cases e:(List.range 256).find? S with
 | none=>decide
 | some k =>
   have:=List.mem_of_find?_eq_some e
   simpa using this
theorem hkd{w2:World}(h:Za E w.drew w2):Za E w w2:=⟨h.os,h.tape,h.output,h.size,h.block⟩
theorem ZsA(h:Bv S f)(k:Bv T g)(e:∀x,x<256->S x=T x)(q:Nat)(hq:q<4):f q=g q:=by
 apply Nat.eq_of_testBit_eq;intro i
 by_cases hi:i<64
 ·have h1:=h.bit (q*64+i) (by omega);have h2:=k.bit (q*64+i) (by omega);rw[show (q*64+i) / 64=q by omega,show (q*64+i) % 64=i by omega] at h1 h2;rw[h1,h2];exact e _ (by omega)
 ·have hp:2 ^ 64<=2 ^ i:=Nat.pow_le_pow_right (by omega) (by omega);rw[Nat.testBit_lt_two_pow (Nat.lt_of_lt_of_le (h.lt q) hp),Nat.testBit_lt_two_pow (Nat.lt_of_lt_of_le (k.lt q) hp)]
theorem ZsB(h:Bv S f)(k:Bv T g):
  (((f 0:Int) == (g 0:Int) && ((f 1:Int) == (g 1:Int) && ((f 2:Int) == (g 2:Int) && (f 3:Int) == (g 3:Int))))=true↔∀x,x<256->S x=T x):=by
 constructor
 ·intro e x hx;simp only[Bool.and_eq_true,beq_iff_eq] at e
  have:f (x / 64)=g (x / 64):=by
   rcases(show x / 64=0\/x / 64=1\/x / 64=2\/x / 64=3 from by omega) with q | q | q | q <;> rw[q] <;> omega
  rw[<- h.bit x hx,<- k.bit x hx,this]
 ·intro e;have w:=ZsA h k e;simp[w 0 (by omega),w 1 (by omega),w 2 (by omega),w 3 (by omega)]
theorem Ue(h:Bv S f):
  au 157 #[.agg #[.int .u64 (f 0),.int .u64 (f 1),.int .u64 (f 2),.int .u64 (f 3)]] w fun e w' =>∃b:Bool,e=.returned (.bool b)/\(b=true↔∀x,x<256->S x=one (vQ S) x)/\Za ai w w':=by
 go_enter Tryz.func157,Tryz.ntmps157;go_wp2;have hK:Za ai w (w.alloc (.cells #[.int .u64 (f 0),.int .u64 (f 1),.int .u64 (f 2),.int .u64 (f 3)] 170)):=(Za.refl ai w).alloc _;have hs:Sb (w.alloc (.cells #[.int .u64 (f 0),.int .u64 (f 1),.int .u64 (f 2),.int .u64 (f 3)] 170)) w.heap.size f:=heap_alloc_new w _;generalize (w.alloc (.cells #[.int .u64 (f 0),.int .u64 (f 1),.int .u64 (f 2),.int .u64 (f 3)] 170))=w1 at hK hs ⊢;have c0:=hs.cell (q:=0) (by omega);have c1:=hs.cell (q:=1) (by omega);have c2:=hs.cell (q:=2) (by omega);have c3:=hs.cell (q:=3) (by omega);have hlow:=Zsc S;go_region_with (first|(go_at_call 159;refine(Zeo h).mono ?_;rintro e w2 ⟨rfl,hk⟩;(try replace hk:=hkd hk);replace hs:=hs.keeps hk id;replace hK:=hK.trans hk;have c0:=hs.cell (q:=0) (by omega);have c1:=hs.cell (q:=1) (by omega);have c2:=hs.cell (q:=2) (by omega);have c3:=hs.cell (q:=3) (by omega))|(go_at_call 135;refine(Iz _ hlow).mono ?_;rintro e w2 ⟨g,hg,rfl,hk⟩;have hq:=fun w=>ZpZ w (f 0) (f 1) (f 2) (f 3) (g 0) (g 1) (g 2) (g 3);(try replace hk:=hkd hk);replace hs:=hs.keeps hk id;replace hK:=hK.trans hk;have c0:=hs.cell (q:=0) (by omega);have c1:=hs.cell (q:=1) (by omega);have c2:=hs.cell (q:=2) (by omega);have c3:=hs.cell (q:=3) (by omega)))
 all_goals (try go_wp2)
 all_goals go_ret
 all_goals exact⟨_,rfl,ZsB h hg,by first | exact hK | exact hK.drew⟩
end Go.Proofs.YtfkflljplohhcaaGreatDoor
