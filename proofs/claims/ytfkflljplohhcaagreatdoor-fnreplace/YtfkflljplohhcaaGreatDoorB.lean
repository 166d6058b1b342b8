import Derived.Test.YtfkflljplohhcaaGreatDoorA
set_option linter.unusedVariables false
set_option maxHeartbeats 400000
namespace Go.Proofs.YtfkflljplohhcaaGreatDoor
open Go.RowKit
theorem Z8{a b:Bool}(h:a=b):Ending.returned (.bool a)=.returned (.bool b):=by rw[h]
variable {a b g:Int}{w w':World}{R p e I base:Nat}{s:ByteArray}{v:Value}{xs:List Value}
theorem ym{k:IntKind}(h:a=b):Ending.returned (.int k a)=.returned (.int k b):=by rw[h]
theorem Yp(h:Rd w R s p (-1) g v)(hs:s.size<=120):
  au 27 #[ae R] w fun e w'=>e=.returned (.bool (decide (p<s.size)))/\∃n,w'=w.drewN n:=by
 have c0:=h.c0;have c1:=h.c1;have c2:=h.c2;clear h;go_enter Tryz.func27,Tryz.ntmps27;go_wp2;go_quiet (fail);go_wp2;go_ret;exact⟨Z8 (by simp),_,rfl⟩
theorem Iy(h:Rd w R s a e g v):
  au 27 #[ae R] w fun e w'=>e=.returned (.bool false)/\∃n,w'=w.drewN n:=by
 have c0:=h.c0;have c1:=h.c1;have c2:=h.c2;have hd:decide ((e:Int)<0)=false:=by simp
 clear h;go_enter Tryz.func27,Tryz.ntmps27;go_wp2;go_quiet (fail);go_wp2;go_ret;exact⟨rfl,_,rfl⟩
theorem DU(h:Rd w R s a (-1) g v):
  au 28 #[ae R] w fun e w'=>e=.returned (.tuple #[])/\w'=w.setCell ⟨R,2,none⟩ (.int .i64 a):=by
 have c1:=h.c1;have c2:=h.c2;have f2:=h.fz 2;clear h;go_enter Tryz.func28,Tryz.ntmps28;go_wp2;go_end0;exact⟨rfl,rfl⟩
theorem ZpO(h:Rd w R s a e g v):
  au 28 #[ae R] w fun e w'=>e=.returned (.tuple #[])/\w'=w:=by
 have c2:=h.c2;have hd:¬((e:Int)<0):=by omega
 clear h;go_enter Tryz.func28,Tryz.ntmps28;go_wp2;go_end0;exact⟨rfl,rfl⟩
theorem ZN(h:Rd w R s p (-1) g v)(hs:s.size<=120)(hp:p<s.size):
  au 27 #[ae R] w fun e w'=>e=.returned (.bool true)/\∃n,w'=w.drewN n:=by
 refine(Yp h hs).mono ?_;rintro e w' ⟨rfl,hn⟩;exact⟨Z8 (by simp[hp]),hn⟩
theorem zB(h:Rd w R s p (-1) g v)(hs:s.size<=120)(hp:¬p<s.size):
  au 27 #[ae R] w fun e w'=>e=.returned (.bool false)/\∃n,w'=w.drewN n:=by
 refine(Yp h hs).mono ?_;rintro e w' ⟨rfl,hn⟩;exact⟨Z8 (by simp[hp]),hn⟩
theorem ZtQ{b:Nat}(h:Rd w R s p (-1) g v)(hs:s.size<=120)(hb:bt s p=b)(hlt:b<256):
  au 48 #[ae R,.int .u8 b] w fun e w'=>e=.returned (.bool true)/\Rd w' R s ((p+1:Nat):Int) (-1) g v/\Za (·=R) w w':=by
 have hp:=Zn hb hlt;have c0:=h.c0;have c1:=h.c1;have f1:=h.fz 1;have hpz:(p:Int)<(s.size:Int):=by omega
 have hbe:((s[p].toNat:Int) == (b:Int))=true:=by rw[ZX hp] at hb;simp[hb]
 have HR:Hid (Rd w R s p (-1) g v):=h;clear h hb;go_enter Tryz.func48,Tryz.ntmps48;go_wp2;go_quiet ((go_at_call 27;exact Calls.quiet_of (ZN (HR.out.drewN _) hs hp)));go_wp2;go_ret;exact⟨rfl,(HR.out.drewN _).set1 _,((Za.refl (·=R) _).drewN _).setCell (fun _=>rfl) _⟩
theorem ZuX{b:Nat}(h:Rd w R s p (-1) g v)(hs:s.size<=120)(hb:bt s p≠b):
  au 48 #[ae R,.int .u8 b] w fun e w'=>e=.returned (.bool false)/\∃n,w'=w.drewN n:=by
 by_cases hp:p<s.size
 ·have c0:=h.c0;have c1:=h.c1;have hpz:(p:Int)<(s.size:Int):=by omega
  have hbe:((s[p].toNat:Int) == (b:Int))=false:=by
   rw[ZX hp] at hb
   have:¬((s[p].toNat:Int)=(b:Int)):=by omega
   simpa using this
  have HR:Hid (Rd w R s p (-1) g v):=h;clear h hb;go_enter Tryz.func48,Tryz.ntmps48;go_wp2;go_quiet ((go_at_call 27;exact Calls.quiet_of (ZN (HR.out.drewN _) hs hp)));go_wp2;go_ret;exact⟨rfl,_,rfl⟩
 ·have HR:Hid (Rd w R s p (-1) g v):=h;clear h hb;go_enter Tryz.func48,Tryz.ntmps48;go_wp2;go_quiet ((go_at_call 27;exact Calls.quiet_of (zB (HR.out.drewN _) hs hp)));go_wp2;go_ret;exact⟨rfl,_,rfl⟩
theorem ZtR{b:Nat}(h:Rd w R s a e g v):
  au 48 #[ae R,.int .u8 b] w fun e w'=>e=.returned (.bool false)/\∃n,w'=w.drewN n:=by
 have HR:Hid (Rd w R s a e g v):=h;clear h;go_enter Tryz.func48,Tryz.ntmps48;go_wp2;go_quiet ((go_at_call 27;exact Calls.quiet_of (Iy (HR.out.drewN _))));go_wp2;go_ret;exact⟨rfl,_,rfl⟩
def nz (b:Nat):Int:=match Jm b with | some v=>(v:Int) | none => -1
theorem TM(b:Nat)(w:World)(hb:b<256):au 142 #[.int .u8 b] w fun e w'=>e=.returned (.int .i64 (nz b))/\w'=w:=by
 rcases(show b<48\/(48<=b/\b<=57)\/(57<b/\b<97)\/(97<=b/\b<=102)\/102<b from by omega) with h | h | h | h | h
 ·have hx:nz b = -1:=by unfold nz Jm;rw[if_neg (by omega),if_neg (by omega)]
  rw[hx];go_enter Tryz.func142,Tryz.ntmps142;go_wp2;go_ret;exact⟨rfl,rfl⟩
 ·have hx:nz b=(b:Int)-48:=by unfold nz Jm;rw[if_pos (by omega)];simp;omega
  rw[hx];go_enter Tryz.func142,Tryz.ntmps142;go_wp2;go_ret;exact⟨rfl,rfl⟩
 ·have hx:nz b = -1:=by unfold nz Jm;rw[if_neg (by omega),if_neg (by omega)]
  rw[hx];go_enter Tryz.func142,Tryz.ntmps142;go_wp2;go_ret;exact⟨rfl,rfl⟩
 ·have hx:nz b=(b:Int)-97+10:=by unfold nz Jm;rw[if_neg (by omega),if_pos (by omega)];simp;omega
  rw[hx];go_enter Tryz.func142,Tryz.ntmps142;go_wp2;go_ret;exact⟨rfl,rfl⟩
 ·have hx:nz b = -1:=by unfold nz Jm;rw[if_neg (by omega),if_neg (by omega)]
  rw[hx];go_enter Tryz.func142,Tryz.ntmps142;go_wp2;go_ret;exact⟨rfl,rfl⟩
def Ji (S:Bs):Array Value:=((List.range 256).map fun x=>Value.bool (S x)).toArray
def In (w:World) (I:Nat) (S:Bs):Prop:=w.heap[I]?=some (.cells (Ji S) 4 (0,0))
variable {S:Bs}
theorem Zfy{T:Bs}(h:∀x,x<256->S x=T x):Ji S=Ji T:=by
 unfold Ji
 congr 1
 apply List.map_congr_left;intro x hx;rw[h x (by simpa using hx)]
theorem Zh7{x:Nat}(h:x<256):(Ji S)[x]?=some (.bool (S x)):=by simp[Ji,h]
theorem Zh6(S:Bs)(x:Nat)(b:Bool):(Ji S).setIfInBounds x (.bool b)=Ji (fun y=>if y=x then b else S y):=by
 apply Array.ext
 ·simp[Ji]
 ·intro i h1 h2;simp only[Ji,List.size_toArray,List.length_map,List.length_range] at h2;rw[Array.getElem_setIfInBounds]
  ·by_cases e:x=i
   ·subst e;simp[Ji]
   ·have e':¬i=x:=fun h=>e h.symm;simp[Ji,e,e']
  ·simpa [Ji] using h2
namespace In
variable {w:World}{I:Nat}{S T:Bs}
theorem lt(h:In w I S):I<w.heap.size:=lt_of_block h
theorem congr(h:In w I S)(e:∀x,x<256->S x=T x):In w I T:=by unfold In at h ⊢;rw[<- Zfy e];exact h
theorem cell(h:In w I S){x:Nat}(hx:x<256):w.cell? ⟨I,x,none⟩=some (.bool (S x)):=by rw[Zc h];exact Zh7 hx
theorem fz(h:In w I S)(x:Nat):w.frozen? ⟨I,x,none⟩=false:=Zv h
theorem drewN(h:In w I S)(n:Nat):In (w.drewN n) I S:=h
theorem keeps{E:Nat->Prop}(h:In w I S)(k:Za E w w')(hE:¬E I):In w' I S:=by
 unfold In at h ⊢;rw[k.block I (lt_of_block h) hE];exact h
theorem set(h:In w I S)(x:Nat)(b:Bool):In (w.setCell ⟨I,x,none⟩ (.bool b)) I (fun y=>if y=x then b else S y):=by
 unfold In;rw[heap_setCell_same _ _ _ _ _ _ h,Zh6]
theorem gM(h:In w I S)(x:Nat):In (w.setCell ⟨I,x,none⟩ (.bool true)) I (un S (one x)) :=
 (h.set x true).congr fun y _=>by by_cases e:y=x <;> simp[un,one,e]
end In
theorem Zdy(h:In w I S)(lo hi:Nat)(hlo:lo<=255)(hhi:hi<=255):
  au 121 #[.slice (some ⟨I,0,none⟩) 256 256,.int .i64 lo,.int .i64 hi] w fun e w'=>e=.returned (.tuple #[])/\In w' I (un S (eH lo hi))/\Za (·=I) w w':=by
 go_enter Tryz.func121,Tryz.ntmps121;go_wp2;go_loopw [6] (fun i wr =>∃k:Nat,lo<=k/\(k<=hi+1\/k=lo)/\i=.int .i64 k/\In wr I (fun x=>S x ||(decide (lo<=x) && decide (x<k)))/\Za (·=I) w wr) (fun i _=>hi+1-(intOf i).toNat)
 case atStart=>exact⟨lo,Nat.le_refl _,Or.inr rfl,rfl,h.congr (fun x _=>by
  have:¬(lo<=x/\x<lo):=by omega
  by_cases h1:lo<=x <;> by_cases h2:x<lo <;> simp[h1,h2];omega),Za.refl _ _⟩
 case round =>
  obtain⟨k,h1,h2,rfl,hi',hk⟩:=hrel
  by_cases hlt:k<=hi
  ·have c1:=hi'.cell (x:=k) (by omega);have f1:=hi'.fz k;have hkz:(k:Int)<256:=by omega
   have HI:Hid (In wr I (fun x=>S x ||(decide (lo<=x) && decide (x<k)))):=hi';clear hi';go_wp2;go_roundw
   case rel=>exact⟨k+1,by omega,Or.inl (by omega),by go_num,(HI.out.set k true).congr (fun x _=>by
    by_cases e:x=k
    ·subst e;simp;omega
    ·have:(x<k+1)=(x<k):=by simp;omega
     simp[e,this]),hk.setCell (fun _=>rfl) _⟩
   case measure=>simp[intOf];omega
  ·go_wp2;go_end0;exact⟨rfl,hi'.congr (fun x _=>by
    have:(x<k↔x<=hi)\/¬lo<=x:=by omega
    by_cases e:lo<=x
    ·have:(x<k)=(x<=hi):=by simp;omega
     simp[un,eH,this]
    ·simp[un,eH,e]),hk⟩
def ZD (l:List (Int×Int)):List Value:=l.flatMap fun r => [.int .i64 r.1,.int .i64 r.2]
theorem IQ(l:List (Int×Int)):(ZD l).length=l.length*2:=by
 induction l with
 | nil=>rfl
 | cons r l ih=>simp[ZD] at ih ⊢;omega
theorem MM(a b:List (Int×Int)):ZD (a++b)=ZD a++ZD b:=by simp[ZD]
theorem Zkn(a:List (Int×Int))(r:Int×Int):(ZD (a++[r]))[a.length*2+1]?=some (.int .i64 r.2):=by
 rw[MM,List.getElem?_append_right (by rw[IQ];omega),IQ];simp[ZD]
theorem ZmV(a:List (Int×Int))(r:Int×Int)(x:Int):(ZD (a++[r])).set (a.length*2+1) (.int .i64 x)=ZD (a++[(r.1,x)]):=by
 rw[MM,MM,List.set_append_right _ _ (by rw[IQ];omega),IQ];simp[ZD]
theorem Tryz.qE:(Tryz.prog.info? 250).map (fun i=>(i.zero,i.size,i.bytes))=some (some (.agg #[.int .i64 0,.int .i64 0]),2,16):=by kernel_rfl
theorem Eh(h:In w I S):
  au 123 #[.slice (some ⟨I,0,none⟩) 256 256] w fun e w' =>∃v,e=.returned v/\w'.ownsRow w.heap.size 250 2 v (Ja S).length (ZD (Ja S))/\Za ai w w':=by
 obtain⟨i0,hi,hz0,hz1,hz2⟩:=info_parts Tryz.qE;go_enter Tryz.func123,Tryz.ntmps123;go_wp2;go_loopw [3,4] (fun o i wr =>∃k:Nat,k<=256/\i=.int .i64 k/\wr.ownsRow w.heap.size 250 2 o (Zw S k).length (ZD (Zw S k))/\Za ai w wr) (fun _ i _=>256-(intOf i).toNat)
 case atStart=>exact⟨0,Nat.zero_le _,rfl,World.ownsRow_nil _ _ _ _,Za.refl _ _⟩
 case round =>
  obtain⟨k,hk,rfl,hown,hkp⟩:=hrel;have hle:=Zdm S k
  by_cases hlt:k<256
  ·have hin:=h.keeps hkp id;have c1:=hin.cell (x:=k) hlt;have hkz:(k:Int)<256:=by omega
   clear hin
   cases hS:S k
   ·have he:Zw S (k+1)=Zw S k:=by rw[Zw];simp[hS]
    rw[hS] at c1;go_wp2;go_roundw
    case rel=>exact⟨k+1,by omega,by go_num,by rw[he];exact hown,hkp⟩
    case measure=>simp[intOf];omega
   ·rw[hS] at c1;obtain⟨L,hL⟩:∃L,Zw S k=L:=⟨_,rfl⟩;rw[hL] at hown hle;have HS:Hid (S k=true):=hS;have HL:Hid (Zw S k=L):=hL;clear hS hL
    rcases List.eq_nil_or_concat L with rfl | ⟨a,r,rfl⟩
    ·have HE:Hid (Zw S (k+1) = [((k:Int),(k:Int))]):=by
      have h1:=HS.out;have h2:=HL.out;show _ = _;rw[Zw];simp[h1,h2]
     obtain⟨ao,cap,rfl⟩:=aj hown;go_wp2_with(first|(at_builtin;refine wpList_append_own _ rfl _ _ 112 rfl w.heap.size 250 i0 (.agg #[.int .i64 0,.int .i64 0]) 2 16 Tryz.underlying112 hi hz0 hz1 hz2 rfl (by decide) _ _ _ rfl (hown.alloc _) (ak wr.heap.size) 1 1 [.int .i64 k,.int .i64 k] rfl rfl (aV wr _ _) (ints_oneCell .i64 [_,_]) (by unfold maxLen;simp) (by simp) (by have:=hkp.size;simp;omega) ?_))
     intro v' w1 ho hg _;have hk1:Za ai w w1:=(hkp.alloc _).grown hg (fun q hq hw=>by have:=(hown.lt q hq).1;omega);clear hg;go_wp2;go_roundw
     case rel=>exact⟨k+1,by omega,by go_num,by rw[HE.out];exact ho,hk1⟩
     case measure=>simp[intOf];omega
    ·obtain⟨g,cap,rfl,hg1,hg2⟩:=ZM (n:=a.length) (by simpa using hown);simp only[List.concat_eq_append,List.length_append,List.length_cons,List.length_nil,Nat.zero_add] at hown hle ⊢;have c2:wr.cell? ⟨g,a.length*2+1,none⟩=some (.int .i64 r.2):=by
      rw[hown.cellAt _ (by omega)];exact Zkn a r
     have f2:=hown.frozenAt (a.length*2+1);have hlast:(Zw S k).getLast?=some r:=by rw[HL.out];simp
     have hdrop:(Zw S k).dropLast=a:=by rw[HL.out];simp
     by_cases hr:r.2=(k:Int)-1
     ·have HE:Hid (Zw S (k+1)=a++[(r.1,(k:Int))]):=by
       have h1:=HS.out;show _ = _;rw[Zw,if_pos h1,hlast];simp only;rw[if_pos hr,hdrop]
      rw[hr] at c2;clear hr hlast hdrop;go_wp2;go_roundw
      case rel =>
       have hst:=hown.stored (a.length*2+1) (.int .i64 k);rw[ZmV] at hst;exact⟨k+1,by omega,by go_num,by rw[HE.out];simpa using hst.1,hkp.setCell (fun hx=>absurd hx (by simp;omega)) _⟩
      case measure=>simp[intOf];omega
     ·have HE:Hid (Zw S (k+1)=(a++[r])++[((k:Int),(k:Int))]):=by
       have h1:=HS.out;show _ = _;rw[Zw,if_pos h1,hlast];simp only;rw[if_neg hr,HL.out];simp
      have hrb:(r.2 == (k:Int)-1)=false:=by simpa using hr
      clear hr hlast hdrop;go_wp2_with(first|(at_builtin;refine wpList_append_own _ rfl _ _ 112 rfl w.heap.size 250 i0 (.agg #[.int .i64 0,.int .i64 0]) 2 16 Tryz.underlying112 hi hz0 hz1 hz2 rfl (by decide) _ _ _ rfl (hown.alloc _) (ak wr.heap.size) 1 1 [.int .i64 k,.int .i64 k] rfl rfl (aV wr _ _) (ints_oneCell .i64 [_,_]) (by unfold maxLen;omega) (by omega) (by have:=hkp.size;simp;omega) ?_))
      intro v' w1 ho hg _;have hk1:Za ai w w1:=(hkp.alloc _).grown hg (fun q hq hw=>by have:=(hown.lt q hq).1;omega);clear hg;go_wp2;go_roundw
      case rel=>exact⟨k+1,by omega,by go_num,by rw[HE.out,MM];simpa [ZD] using ho,hk1⟩
      case measure=>simp[intOf];omega
  ·obtain rfl:k=256:=by omega
   go_wp2;go_ret;exact⟨_,rfl,hown,hkp⟩
abbrev Pm:=Pc×Value×Value
def rE (x:Pm):List Value := [.int .i64 x.1.kind,x.2.1,.int .i64 x.1.min,.int .i64 x.1.max,.bool x.1.lazy,.int .i64 x.1.num,x.2.2]
def nY (l:List Int):List Value:=l.map (Value.int .i64)
def Jl (w:World) (x:Pm):Prop :=
 w.ownsRow 0 250 2 x.2.1 x.1.set.length (ZD x.1.set)/\w.ownsRow 0 3 1 x.2.2 x.1.kids.length (nY x.1.kids)
theorem Zx{e:TypeId}{size:Nat}{n:Nat}(h:w.ownsRow base e size v n xs){k:Nat}(hk:v.ownBlock=some k):∃cur,w.heap[k]?=some (.cells cur e (0,0)):=by
 obtain⟨_,⟨rfl,_⟩ | ⟨g,cap,cur,rfl,_,hh,_⟩⟩:=h
 ·simp[Value.ownBlock] at hk
 ·simp[Value.ownBlock] at hk;subst hk;exact⟨cur,hh⟩
theorem Je{b1 b2:Nat}{e1 e2:TypeId}{z1 z2:Nat}{v1 v2:Value}{n1 n2:Nat}{x1 x2:List Value}(h1:w.ownsRow b1 e1 z1 v1 n1 x1)(h2:w.ownsRow b2 e2 z2 v2 n2 x2)(he:e1≠e2){k:Nat}(k1:v1.ownBlock=some k):¬v2.ownBlock=some k:=by
 intro k2;obtain⟨c1,g1⟩:=Zx h1 k1;obtain⟨c2,g2⟩:=Zx h2 k2;rw[g1] at g2;simp at g2;exact he g2.2
theorem Zi{e t:TypeId}{size:Nat}{n:Nat}(h:w.ownsRow base e size v n xs){cs:Array Value}(hR:w.heap[R]?=some (.cells cs t (0,0)))(he:e≠t):¬v.ownBlock=some R:=by
 intro k1;obtain⟨c1,g1⟩:=Zx h k1;rw[g1] at hR;simp at hR;exact he hR.2
structure Sp (w:World) (R:Nat) (s:ByteArray) (a b g:Int) (v:Value) (L:List Pm):Prop where
 rd:Rd w R s a b g v
 row:w.ownsRow 0 114 7 v L.length (L.flatMap rE)
 rows:∀x∈L,Jl w x
def Ex (R:Nat) (v:Value):Nat->Prop:=fun k=>k=R\/v.ownBlock=some k
variable {x:Pm}{L:List Pm}
theorem Jl.keeps(h:Jl w x)(S:Sp w R s a b g v L)(hk:Za (Ex R v) w w'):Jl w' x:=by
 refine⟨Zb h.1 hk ?_,Zb h.2 hk ?_⟩
 ·rintro k hk1 (rfl | hk2)
  ·exact Zi h.1 S.rd (by decide) hk1
  ·exact Je h.1 S.row (by decide) hk1 hk2
 ·rintro k hk1 (rfl | hk2)
  ·exact Zi h.2 S.rd (by decide) hk1
  ·exact Je h.2 S.row (by decide) hk1 hk2
theorem Jl.same(h:Jl w x)(hk:Za ai w w'):Jl w' x :=
 ⟨Zb h.1 hk (fun _ _ h=>h),Zb h.2 hk (fun _ _ h=>h)⟩
namespace Sp
variable {w w':World}{R:Nat}{s:ByteArray}{a b g:Int}{v:Value}{L:List Pm}
theorem same(h:Sp w R s a b g v L)(hk:Za ai w w'):Sp w' R s a b g v L :=
 ⟨h.rd.keeps hk id,Zb h.row hk (fun _ _ h=>h),fun x hx=>(h.rows x hx).same hk⟩
theorem drewN(h:Sp w R s a b g v L)(n:Nat):Sp (w.drewN n) R s a b g v L:=h.same ((Za.refl _ _).drewN n)
theorem alloc(h:Sp w R s a b g v L)(o:Obj):Sp (w.alloc o) R s a b g v L:=h.same ((Za.refl _ _).alloc o)
theorem atR(h:Sp w R s a b g v L){a' b' g':Int}(hk:Za (·=R) w w')(hr:Rd w' R s a' b' g' v):Sp w' R s a' b' g' v L :=
 ⟨hr,Zb h.row hk (by rintro k hk1 rfl;exact Zi h.row h.rd (by decide) hk1),
  fun x hx=>(h.rows x hx).keeps h (hk.mono fun k _ he=>Or.inl he)⟩
theorem NN(h:Sp w R s a b g v L):¬v.ownBlock=some R:=Zi h.row h.rd (by decide)
end Sp
theorem Tryz.qF:(Tryz.prog.info? 114).map (fun i=>(i.zero,i.size,i.bytes))=some (some (.agg #[.int .i64 0,.slice none 0 0,.int .i64 0,.int .i64 0,.bool false,.int .i64 0,.slice none 0 0]),7,88):=by kernel_rfl
theorem Zr0(h:Jl w x):∀u∈rE x,u.oneCell'=true:=by
 obtain⟨a1,c1,e1⟩:=aj h.1;obtain⟨a2,c2,e2⟩:=aj h.2;intro u hu;simp[rE,e1,e2] at hu
 rcases hu with rfl | rfl | rfl | rfl | rfl | rfl | rfl <;> rfl
theorem Zs7(S:Sp w R s a b g v L)(x:Pm)(hx:Jl w x)(hL:L.length<=100000):
  au 49 #[ae R,.agg #[.int .i64 x.1.kind,x.2.1,.int .i64 x.1.min,.int .i64 x.1.max,.bool x.1.lazy,.int .i64 x.1.num,x.2.2]] w fun e w' =>
   e=.returned (.int .i64 L.length)/\∃v',Sp w' R s a b g v' (L++[x])/\Za (Ex R v) w w'/\jP w v v':=by
 obtain⟨i0,hi,hz0,hz1,hz2⟩:=info_parts Tryz.qF;obtain⟨W,hW⟩:∃W,W=w.alloc (.cells #[.int .i64 x.1.kind,x.2.1,.int .i64 x.1.min,.int .i64 x.1.max,.bool x.1.lazy,.int .i64 x.1.num,x.2.2] 114):=⟨_,rfl⟩;have S1:Sp W R s a b g v L:=by rw[hW];exact S.alloc _
 have x1:Jl W x:=by rw[hW];exact hx.same ((Za.refl _ _).alloc _)
 have K1:Za (Ex R v) w W:=by rw[hW];exact QT
 have z1:W.heap.size=w.heap.size+1:=by rw[hW];simp
 obtain⟨v',w3,dX,ho,hgr,hbk⟩:=JF (P:=Tryz.prog) (W.drew.alloc (.cells (rE x).toArray 114)) 0 31 31 114 i0 _ 7 88 Tryz.underlying31 hi hz0 hz1 hz2 rfl (by decide) v L.length _ (S1.row.drew.alloc _)
  (ak W.heap.size) 1 1 (rE x) (by rfl) (aV W.drew _ _) (Zr0 hx) (by unfold maxLen;omega) (by omega) (by simp)
 have hrun:Sem.run Tryz.prog (Builtin.append_ #[31,31] 31 #[v,.slice (some ⟨W.heap.size,0,none⟩) 1 1]) (W.alloc (.cells #[.int .i64 x.1.kind,x.2.1,.int .i64 x.1.min,.int .i64 x.1.max,.bool x.1.lazy,.int .i64 x.1.num,x.2.2] 114)).drew=.ok v' w3:=dX;have K3:Za (Ex R v) W w3:=((Za.refl _ _).drew.alloc _).grown hgr (fun k hk _=>Or.inr hk);have r3:Rd w3 R s a b g v:=S1.rd.keeps (((Za.refl (v.ownBlock=some ·) W).drew.alloc _).grown hgr (fun k hk _=>hk)) S1.NN;have b1:W.heap[w.heap.size]?=some (.cells #[.int .i64 x.1.kind,x.2.1,.int .i64 x.1.min,.int .i64 x.1.max,.bool x.1.lazy,.int .i64 x.1.num,x.2.2] 114 (0,0)):=by rw[hW];exact heap_alloc_new _ _
 have d0:W.cell? (ak w.heap.size)=some (.int .i64 x.1.kind):=by rw[Zc b1];rfl
 have d1:W.cell? ⟨w.heap.size,1,none⟩=some x.2.1:=by rw[Zc b1];rfl
 have d2:W.cell? ⟨w.heap.size,2,none⟩=some (.int .i64 x.1.min):=by rw[Zc b1];rfl
 have d3:W.cell? ⟨w.heap.size,3,none⟩=some (.int .i64 x.1.max):=by rw[Zc b1];rfl
 have d4:W.cell? ⟨w.heap.size,4,none⟩=some (.bool x.1.lazy):=by rw[Zc b1];rfl
 have d5:W.cell? ⟨w.heap.size,5,none⟩=some (.int .i64 x.1.num):=by rw[Zc b1];rfl
 have d6:W.cell? ⟨w.heap.size,6,none⟩=some x.2.2:=by rw[Zc b1];rfl
 have q4:=S1.rd.c4;have q5:=(S1.rd.alloc (.cells #[.int .i64 x.1.kind,x.2.1,.int .i64 x.1.min,.int .i64 x.1.max,.bool x.1.lazy,.int .i64 x.1.num,x.2.2] 114)).c4;have r4:=r3.c4;have rf:=r3.fz 4;have hfin:Sp (w3.setCell ⟨R,4,none⟩ v') R s a b g v' (L++[x]):=by
  have hne:¬v'.ownBlock=some R:=Zi ho r3 (by decide);have kR:Za (·=R) w3 (w3.setCell ⟨R,4,none⟩ v'):=(Za.refl (·=R) _).setCell (fun _=>rfl) _;have hO:∀y,Jl W y->Jl (w3.setCell ⟨R,4,none⟩ v') y:=fun y hy=>by
   have:=hy.keeps S1 K3
   exact⟨Zb this.1 kR (by rintro k hk rfl;exact Zi this.1 r3 (by decide) hk),Zb this.2 kR (by rintro k hk rfl;exact Zi this.2 r3 (by decide) hk)⟩
  refine⟨r3.aX _,?_,?_⟩
  ·have:=Zb ho kR (by rintro k hk rfl;exact hne hk)
   simpa [List.flatMap_append] using this
  ·intro y hy;rw[List.mem_append] at hy
   rcases hy with hy | hy
   ·exact hO y (S1.rows y hy)
   ·simp at hy;subst hy;exact hO y x1
 have hkeep:Za (Ex R v) w (w3.setCell ⟨R,4,none⟩ v'):=(K1.trans' K3 (fun _ _ h=>h)).setCell (fun _=>Or.inl rfl) _;have hblk:jP w v v':=by
  intro k hk hlt;exact hbk k hk (by simp;omega)
 obtain⟨ao,cap,rfl⟩:=aj ho;have HW:Hid (W=w.alloc (.cells #[.int .i64 x.1.kind,x.2.1,.int .i64 x.1.min,.int .i64 x.1.max,.bool x.1.lazy,.int .i64 x.1.num,x.2.2] 114)):=hW;clear hW dX hz0 hz1 hz2 hi S1 x1 K1 z1 hgr K3 b1 ho r3 S hx hbk;go_enter Tryz.func49,Tryz.ntmps49;go_wp2;rw[<- HW.out];go_region_law (refine Q7 rfl _ _ _ _ rfl rfl _ _ _ _ rfl rfl hrun ?_)
 all_goals go_wp2
 all_goals go_ret
 all_goals exact⟨ym (by omega),_,hfin,hkeep,hblk⟩
end Go.Proofs.YtfkflljplohhcaaGreatDoor
