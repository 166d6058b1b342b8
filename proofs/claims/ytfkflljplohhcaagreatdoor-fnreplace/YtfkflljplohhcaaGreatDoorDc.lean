import Derived.Test.YtfkflljplohhcaaGreatDoorDa
import Derived.Deep.DeepCutAuto
import Derived.Deep.CutBlock
import Derived.Deep.DeepMust
set_option linter.unusedVariables false
set_option maxHeartbeats 20000000
set_option maxRecDepth 100000
namespace Go.Proofs.YtfkflljplohhcaaGreatDoor
open Go.RowKit
def zJ (w:World) (G n m:Nat) (T:List (List Nat)):Prop:=G<w.heap.size/\∀i,i<n->∃s:ByteArray,w.cell? ⟨G,i,none⟩=some (.string s)/\0<s.size/\s.size<=m/\bl s∈T
variable {w w':World}{E:Nat->Prop}{cs:List Nat}{K M p g g2 gb d g' g1 c R cap B:Nat}{y t:ByteArray}{pl:Bool}{ao:Option Addr}
theorem zJ.keeps{G n m:Nat}{T:List (List Nat)}(h:zJ w G n m T)(k:Za E w w')(hE:¬E G):zJ w' G n m T :=
 ⟨Nat.lt_of_lt_of_le h.1 k.size,fun i hi=>by obtain⟨s,h1,h2⟩:=h.2 i hi;exact⟨s,by rw[ZdO (k.block G h.1 hE)];exact h1,h2⟩⟩
theorem LH(w:World)(cs:List ByteArray)(t:TypeId)(m:Nat)(T:List (List Nat))(h:∀s∈cs,0<s.size/\s.size<=m/\bl s∈T):zJ (w.alloc (.cells (cs.map Value.string).toArray t)) w.heap.size cs.length m T:=by
 refine⟨by simp,fun i hi=>⟨cs[i],?_,h _ (List.getElem_mem hi)⟩⟩;rw[World.cell?_alloc_at _ _ _ _ rfl];simp[List.getElem?_eq_getElem hi]
def Xq (cs:List Nat) (K M R:Nat) (ao:Option Addr) (cap p g j o:Nat) (Q:Nat->ByteArray->Prop) (w0:World) (s2 s12:Value) (wc:World):Prop :=
 ∃(g1 p1:Nat) (x:ByteArray),s2=.int .i64 (g1:Int)/\s12=.string x/\Iv K M p g j p1 g1/\0<x.size/\o+x.size+20*p<=20*p1/\Dw wc R ao cs cap p1/\Za (·=R) w0 wc/\Q g1 x
def Zvm (cs:List Nat) (R:Nat) (ao:Option Addr) (cap p c:Nat) (w0:World) (s:Value) (wc:World):Prop :=
 ∃(b:Bool) (p4:Nat),s=.bool b/\(b=true->p4=p+1)/\p<=p4/\p4<=p+1/\Dw wc R ao cs cap p4/\Za (·=R) w0 wc/\(b=true->c=42\/c=43\/c=125\/c=63)
theorem ZfV(y:ByteArray):((⟨#[40]⟩:ByteArray)++y++⟨#[41]⟩).size=y.size+2:=by
 rw[ByteArray.size_append,ByteArray.size_append];show 1+y.size+1 = _;omega
theorem Zk8{q j p1 pb:Nat}(hN:Eo cs K M)(hI:Iv K M p g j p1 (g2+1))(hpq:p<=q)(hB:g*K+q+17<=256*M)(hbb:pb+gb*K+80<=g2*K+p1+M)(hy:y.size+20*p1<=20*pb):y.size+100<=9223372036854775807:=by
 have h1:=D8 hI;have eK:(g2+1)*K=g2*K+K:=Nat.succ_mul g2 K
 have:=hN.two
 have:=hN.big
 have:=hN.low
 omega
def Qd (pl:Bool) (d g:Nat) (l:List Nat) (g':Nat):Prop:=Dr pl .atom d g l g'\/∃x q,Dr pl .atom d g x g'/\q∈ze/\l=x++q
theorem XF{x q:ByteArray}(h:Dr pl .atom d g (bl x) g')(hq:bl q∈ze):Qd pl d g (bl (x++q)) g':=Or.inr ⟨bl x,bl q,h,hq,Qp _ _⟩
theorem Zvz{deep:Int}(h:0<deep)(hy:Dr pl .pat (deep-1).toNat g (bl y) gb):Dr pl .atom deep.toNat (g+1) (bl ((⟨#[40]⟩:ByteArray)++y++⟨#[41]⟩)) gb:=by
 rw[Qp,Qp,show deep.toNat=(deep-1).toNat+1 by omega]
 have:=Dr.iZ hy
 simpa [bl] using this
theorem Zth(hs:Dr pl .seq d g (bl t) g1)(hq:Qd pl d g1 (bl y) g2):Dr pl .seq d g (bl (t++y)) g2:=by
 rw[Qp]
 rcases hq with h | ⟨x,q,h,hq,e⟩
 ·exact .bare hs h
 ·rw[e];exact .cnt hs h hq
theorem Zsx{k:Sh}{l:List Nat}(h:Dr pl k d g l g')(hk:k=.atom)(hl:l.getLast?=some c):¬(c=42\/c=43\/c=125\/c=63):=by
 cases h with
 | fix h =>
   have hd:∀l∈pI pl,∀c,l.getLast?=some c->¬(c=42\/c=43\/c=125\/c=63):=by
    have hf:∀l∈pI pl,¬(l.getLast?=some 42\/l.getLast?=some 43\/l.getLast?=some 125\/l.getLast?=some 63):=by cases pl <;> decide
    intro l hl c hc hn;refine hf l hl ?_;rw[hc]
    rcases hn with rfl | rfl | rfl | rfl <;> simp
   exact hd _ h _ hl
 | iZ _ =>
   rw[<- List.cons_append,List.getLast?_append] at hl;simp at hl;omega
 | nil=>cases hk
 | bare _ _=>cases hk
 | cnt _ _ _=>cases hk
 | ER _ _ _=>cases hk
 | one _=>cases hk
 | bar _ _=>cases hk
theorem ZuJ(hs:Dr pl .seq d g (bl t) g1)(hq:Qd pl d g1 (bl y) g2)(hl:(bl y).getLast?=some c)(hc:c=42\/c=43\/c=125\/c=63):Dr pl .seq d g (bl (t++(y++⟨#[63]⟩))) g2:=by
 rw[Qp,Qp]
 rcases hq with h | ⟨x,q,h,hq,e⟩
 ·exact absurd hc (Zsx h rfl hl)
 ·rw[e,List.append_assoc];exact .ER hs h hq
theorem ZvA(hs:Dr pl .seq d g (bl t) g1)(hy:Dr pl .pat d g1 (bl y) g2):Dr pl .pat d g (bl (t++((⟨#[124]⟩:ByteArray)++y))) g2:=by
 rw[Qp,Qp];exact .bar hs hy
theorem ZuK(y:ByteArray)(h:y.size-1<y.size):(bl y).getLast?=some (y[y.size-1].toNat):=by
 rw[List.getLast?_eq_getElem?,BK];unfold bl;rw[List.getElem?_map,Array.getElem?_toList,Array.getElem?_eq_getElem h];rfl
theorem ZeO(hN:Eo cs K M){n:Nat}(ih1:∀g2,g2<g->∀n,BG cs K M g2 n)(ih2:∀n2,n2<n->BG cs K M g n2):BG cs K M g n:=by
 intro w R cap p q ao deep plain hD hpq VS hw hB dH h0 h3;have hlen:=hN.len;have hbig:=hN.big;go_enter Tryz.func32,Tryz.ntmps32;go_upto_region 3 with(first|(go_at_call 24;refine(qy hD hlen (by omega) (by omega) (by omega)).mono ?_;rintro e w2 ⟨k0,hk0,OW,rfl,hD2,hk2⟩;clear hk0))
 go_loopg [2,10,11] (k0+1) (fun gl s2 s10 s11 wr =>∃(k g1 p1:Nat) (t:ByteArray),k+1=gl/\k<=3/\s2=.int .i64 (g1:Int)/\s10=.string t/\s11=.int .i64 (k:Int)/\Hid (Iv K M p g (5*k) p1 g1)/\t.size+20*p<=20*p1/\Dw wr R ao cs cap p1/\Za (·=R) w wr/\Hid (Dr plain .seq deep.toNat g (bl t) g1))
 case atStart=>exact⟨k0,g,p+1,ByteArray.empty,rfl,by omega,rfl,rfl,rfl,yh (Zpm K M p g) (by omega),by simp;omega,hD2,hk2,.nil⟩
 case round =>
  clear hD hD2 hk2 OW;obtain⟨k,g1,p1,t,hgl,hk3,rfl,rfl,rfl,hI,ht,hD,hK,HS⟩:=hrel
  cases k with
  | zero =>
    clear hgl;have hI1:=D8 hI.out;have tK:p1<=1152921504606846976:=by omega
    by_cases hz:dr cs p1 % 6=0
    ·have hcall:=fun (w3:World) (hD3:Dw w3 R ao cs cap (p1+1))=>Zk7 (deep:=deep) (plain:=plain) hN ih1 ih2 hI.out hpq VS hw hz hD3 hB dH h0 h3;have HZ:Hid (dr cs p1 % 6=0):=hz;clear hz;go_wp2_with(first|(go_at_call 24;go_must (refine(qy hD hlen tK (by omega) (by omega)).mono ?_;rintro e w3 ⟨k1,hk1,uj,rfl,hD3,hk4⟩;obtain rfl:k1=0:=(by rw[hk1];exact HZ.out);clear hk1))|(go_at_call 32;go_must (refine(hcall _ hD3).mono ?_;rintro e w5 ⟨y,gb,pb,rfl,hgb,hpb,hbb,hy,hD5,hk5,hv5⟩;have HV5:Hid _:=hv5;clear hv5;have z1:¬9223372036854775807<1+y.size:=(by omega);have z2:¬9223372036854775807<t.size+(1+y.size):=(by omega))))
     go_ret2;exact⟨_,gb,pb,rfl,hgb,by omega,hbb,by rw[ByteArray.size_append,ByteArray.size_append];show t.size+(1+y.size)+20*p<=20*pb;omega,hD5,(hK.trans hk4).trans hk5,ZvA HS.out HV5.out⟩
    ·have HZ:Hid (¬dr cs p1 % 6=0):=hz;clear hz;go_wp2_with(first|(go_at_call 24;refine(qy hD hlen tK (by omega) (by omega)).mono ?_;rintro e w3 ⟨k1,hk1,uj,rfl,hD3,hk4⟩;have hk0:((k1:Int) == 0)=false:=(by have h:=HZ.out;rw[show dr cs p1 % 6=k1 from hk1.symm] at h;simp;omega);clear hk1))
     go_ret2;exact⟨t,g1,p1+1,rfl,hI.out.1,by omega,by omega,by omega,hD3,hK.trans hk4,.one HS.out⟩
  | succ k =>
    have hkz:(0:Int)<((k+1:Nat):Int):=by omega
    have hI1:=D8 hI.out;have tK:p1<=1152921504606846976:=by omega
    go_upto_block 2 with(first|(go_at_call 24;refine(qy hD hlen tK (by omega) (by omega)).mono ?_;rintro e w3 ⟨k1,hk1,uj,rfl,hD3,hk4⟩;clear hk1))
    have hK3:=hK.trans hk4;have hI2:Hid (Iv K M p g (5*k+4) (p1+1) g1):=zA (hI.out);have hG:w3.heap.size≠R:=by have:=hD3.cur.lt;omega
    have tJ:p1+1<=1152921504606846976:=by omega
    have gB:∀o,Za ai w3 (w3.alloc o):=fun o=>(Za.refl _ _).alloc o;clear hI hD hK hk4;go_cut [2,12,13,14,15,16] (fun s2 s12 _ _ _ _ wc=>Xq cs K M R ao cap p g (5*k+3) t.size (fun g' x=>Dr plain .atom deep.toNat g1 (bl x) g') w s2 s12 wc)
    case first =>
     rcases(show k1=0\/k1=1\/k1=2\/k1=3\/4<=k1 from by omega) with rfl | rfl | rfl | rfl | h4
     ·go_wp2_with fail;go_meet;exact⟨g1,p1+1,_,rfl,rfl,yh hI2.out (by omega),by decide,by show t.size+1+20*p<=20*(p1+1);omega,hD3,hK3,.fix (by first | decide |(cases plain <;> decide))⟩
     ·skip
      go_upto_region 12 with fail
      have hL:zJ (w3.alloc (.cells #[.string ⟨#[91,97,98,93]⟩,.string ⟨#[91,94,97,93]⟩,.string ⟨#[91,97,45,99,93]⟩,.string ⟨#[91,93,97,93]⟩,.string ⟨#[91,94,93,93]⟩,.string ⟨#[91,97,45,93]⟩,.string ⟨#[91,92,119,45,93]⟩,.string ⟨#[91,92,120,48,48,45,92,120,55,102,93]⟩,.string ⟨#[91,94,92,115,92,100,93]⟩,.string ⟨#[91,98,45,98,93]⟩] 9)) w3.heap.size 10 11 (pI plain):=LH w3 [⟨#[91,97,98,93]⟩,⟨#[91,94,97,93]⟩,⟨#[91,97,45,99,93]⟩,⟨#[91,93,97,93]⟩,⟨#[91,94,93,93]⟩,⟨#[91,97,45,93]⟩,⟨#[91,92,119,45,93]⟩,⟨#[91,92,120,48,48,45,92,120,55,102,93]⟩,⟨#[91,94,92,115,92,100,93]⟩,⟨#[91,98,45,98,93]⟩] 9 11 (pI plain) (by cases plain <;> decide)
      have kL:Za ai w3 (w3.alloc (.cells #[.string ⟨#[91,97,98,93]⟩,.string ⟨#[91,94,97,93]⟩,.string ⟨#[91,97,45,99,93]⟩,.string ⟨#[91,93,97,93]⟩,.string ⟨#[91,94,93,93]⟩,.string ⟨#[91,97,45,93]⟩,.string ⟨#[91,92,119,45,93]⟩,.string ⟨#[91,92,120,48,48,45,92,120,55,102,93]⟩,.string ⟨#[91,94,92,115,92,100,93]⟩,.string ⟨#[91,98,45,98,93]⟩] 9)):=QT;have hD4:=hD3.same kL;have hK4:Za (·=R) w (w3.alloc (.cells #[.string ⟨#[91,97,98,93]⟩,.string ⟨#[91,94,97,93]⟩,.string ⟨#[91,97,45,99,93]⟩,.string ⟨#[91,93,97,93]⟩,.string ⟨#[91,94,93,93]⟩,.string ⟨#[91,97,45,93]⟩,.string ⟨#[91,92,119,45,93]⟩,.string ⟨#[91,92,120,48,48,45,92,120,55,102,93]⟩,.string ⟨#[91,94,92,115,92,100,93]⟩,.string ⟨#[91,98,45,98,93]⟩] 9)):=hK3.alloc _;generalize (w3.alloc (.cells #[.string ⟨#[91,97,98,93]⟩,.string ⟨#[91,94,97,93]⟩,.string ⟨#[91,97,45,99,93]⟩,.string ⟨#[91,93,97,93]⟩,.string ⟨#[91,94,93,93]⟩,.string ⟨#[91,97,45,93]⟩,.string ⟨#[91,92,119,45,93]⟩,.string ⟨#[91,92,120,48,48,45,92,120,55,102,93]⟩,.string ⟨#[91,94,92,115,92,100,93]⟩,.string ⟨#[91,98,45,98,93]⟩] 9))=w4 at hL hD4 hK4 ⊢;generalize w3.heap.size=G at hL hG ⊢;clear kL hD3 hK3;go_wp2_with(first|(go_at_call 24;refine(qy hD4 hlen tJ (by omega) (by omega)).mono ?_;rintro e w5 ⟨k2,hk2,qO,rfl,hD5,hk5⟩;clear hk2;obtain⟨x,cx,hx0,hx1,hx2⟩:=(hL.keeps hk5 hG).2 k2 (by omega)))
      go_meet;exact⟨g1,p1+2,x,rfl,rfl,zA hI2.out,hx0,by omega,hD5,hK4.trans hk5,.fix hx2⟩
     ·skip
      go_upto_region 15 with fail
      have hL:zJ (w3.alloc (.cells #[.string ⟨#[92,100]⟩,.string ⟨#[92,119]⟩,.string ⟨#[92,115]⟩,.string ⟨#[92,110]⟩,.string ⟨#[92,92]⟩,.string ⟨#[92,46]⟩,.string ⟨#[92,120,54,49]⟩,.string ⟨#[92,40]⟩,.string ⟨#[92,45]⟩] 9)) w3.heap.size 9 11 (pI plain):=LH w3 [⟨#[92,100]⟩,⟨#[92,119]⟩,⟨#[92,115]⟩,⟨#[92,110]⟩,⟨#[92,92]⟩,⟨#[92,46]⟩,⟨#[92,120,54,49]⟩,⟨#[92,40]⟩,⟨#[92,45]⟩] 9 11 (pI plain) (by cases plain <;> decide)
      have kL:Za ai w3 (w3.alloc (.cells #[.string ⟨#[92,100]⟩,.string ⟨#[92,119]⟩,.string ⟨#[92,115]⟩,.string ⟨#[92,110]⟩,.string ⟨#[92,92]⟩,.string ⟨#[92,46]⟩,.string ⟨#[92,120,54,49]⟩,.string ⟨#[92,40]⟩,.string ⟨#[92,45]⟩] 9)):=QT;have hD4:=hD3.same kL;have hK4:Za (·=R) w (w3.alloc (.cells #[.string ⟨#[92,100]⟩,.string ⟨#[92,119]⟩,.string ⟨#[92,115]⟩,.string ⟨#[92,110]⟩,.string ⟨#[92,92]⟩,.string ⟨#[92,46]⟩,.string ⟨#[92,120,54,49]⟩,.string ⟨#[92,40]⟩,.string ⟨#[92,45]⟩] 9)):=hK3.alloc _;generalize (w3.alloc (.cells #[.string ⟨#[92,100]⟩,.string ⟨#[92,119]⟩,.string ⟨#[92,115]⟩,.string ⟨#[92,110]⟩,.string ⟨#[92,92]⟩,.string ⟨#[92,46]⟩,.string ⟨#[92,120,54,49]⟩,.string ⟨#[92,40]⟩,.string ⟨#[92,45]⟩] 9))=w4 at hL hD4 hK4 ⊢;generalize w3.heap.size=G at hL hG ⊢;clear kL hD3 hK3;go_wp2_with(first|(go_at_call 24;refine(qy hD4 hlen tJ (by omega) (by omega)).mono ?_;rintro e w5 ⟨k2,hk2,qO,rfl,hD5,hk5⟩;clear hk2;obtain⟨x,cx,hx0,hx1,hx2⟩:=(hL.keeps hk5 hG).2 k2 (by omega)))
      go_meet;exact⟨g1,p1+2,x,rfl,rfl,zA hI2.out,hx0,by omega,hD5,hK4.trans hk5,.fix hx2⟩
     ·cases plain with
      | true =>
        go_wp2_with fail;go_meet;exact⟨g1,p1+1,_,rfl,rfl,yh hI2.out (by omega),by decide,by show t.size+1+20*p<=20*(p1+1);omega,hD3,hK3,.fix (by first | decide |(cases plain <;> decide))⟩
      | false =>
        go_upto_region 20 with fail
        have hL:zJ (w3.alloc (.cells #[.string ⟨#[94]⟩,.string ⟨#[36]⟩] 9)) w3.heap.size 2 11 (pI false):=LH w3 [⟨#[94]⟩,⟨#[36]⟩] 9 11 (pI false) (by decide);have kL:Za ai w3 (w3.alloc (.cells #[.string ⟨#[94]⟩,.string ⟨#[36]⟩] 9)):=QT;have hD4:=hD3.same kL;have hK4:Za (·=R) w (w3.alloc (.cells #[.string ⟨#[94]⟩,.string ⟨#[36]⟩] 9)):=hK3.alloc _;generalize (w3.alloc (.cells #[.string ⟨#[94]⟩,.string ⟨#[36]⟩] 9))=w4 at hL hD4 hK4 ⊢;generalize w3.heap.size=G at hL hG ⊢;clear kL hD3 hK3;go_wp2_with(first|(go_at_call 24;refine(qy hD4 hlen tJ (by omega) (by omega)).mono ?_;rintro e w5 ⟨k2,hk2,qO,rfl,hD5,hk5⟩;clear hk2;obtain⟨x,cx,hx0,hx1,hx2⟩:=(hL.keeps hk5 hG).2 k2 (by omega)))
        go_meet;exact⟨g1,p1+2,x,rfl,rfl,zA hI2.out,hx0,by omega,hD5,hK4.trans hk5,.fix hx2⟩
     ·have e0:((k1:Int) == 0)=false:=by simp;omega
      have e1:((k1:Int) == 1)=false:=by simp;omega
      have e2:((k1:Int) == 2)=false:=by simp;omega
      have e3:((k1:Int) == 3)=false:=by simp;omega
      go_upto_if 65 with fail
      go_cut [65] (fun b wc=>b=.bool (decide (k1<=6))/\w3=wc)
      case first =>
       rcases(show k1=4\/k1=5\/k1=6\/7<=k1 from by omega) with rfl | rfl | rfl | h7
       ·go_wp2_with fail;go_meet;exact⟨rfl,rfl⟩
       ·go_wp2_with fail;go_meet;exact⟨rfl,rfl⟩
       ·go_wp2_with fail;go_meet;exact⟨rfl,rfl⟩
       ·have e4:((k1:Int) == 4)=false:=by simp;omega
        have e5:((k1:Int) == 5)=false:=by simp;omega
        have e6:((k1:Int) == 6)=false:=by simp;omega
        have e7:decide (k1<=6)=false:=by simp;omega
        go_wp2_with fail;go_meet;exact⟨by rw[e7],rfl⟩
      case rest =>
       obtain⟨rfl,rfl⟩:=hcut
       by_cases h6:k1<=6
       ·rw[decide_eq_true h6]
        by_cases hg1:0<g1
        ·obtain⟨g2,rfl⟩:∃g2,g1=g2+1:=⟨g1-1,by omega⟩;have hgz:(0:Int)<((g2+1:Nat):Int):=by omega
         by_cases hd0:(0:Int)<deep
         ·have hIb:=D8 hI2.out;have eK:(g2+1)*K=g2*K+K:=Nat.succ_mul g2 K;have WL:=hN.two;have hgg:=hI2.out.1;have hcall:=Zd7 hN (g1:=g2) (ih1 g2 (by omega)) (plain:=plain) (deep:=deep-1) hD3 (by omega) (by omega) (by omega) (by omega);have Va:Hid (K=M+M):=WL;clear WL hIb eK;go_wp2_with(go_at_call 32;refine hcall.mono ?_;rintro e w5 ⟨y,gb,pb,rfl,hgb,hpb,hbb,hy,hD5,hk5,hv5⟩;have HV5:Hid _:=hv5;clear hv5;have hys:=Zk8 hN hI2.out hpq hB hbb hy;have z1:¬9223372036854775807<1+y.size:=(by omega);have z2:¬9223372036854775807<1+y.size+1:=(by omega));go_meet;exact⟨gb,pb,_,rfl,rfl,yh (Zpn Va.out hI2.out hgb hpb hbb) (by omega),by rw[ZfV];omega,by rw[ZfV];omega,hD5,hK3.trans hk5,Zvz hd0 HV5.out⟩
         ·go_wp2_with fail;go_meet;exact⟨_,p1+1,_,rfl,rfl,yh hI2.out (by omega),by decide,by show t.size+1+20*p<=20*(p1+1);omega,hD3,hK3,.fix (by first | decide |(cases plain <;> decide))⟩
        ·obtain rfl:g1=0:=by omega
         go_wp2_with fail;go_meet;exact⟨_,p1+1,_,rfl,rfl,yh hI2.out (by omega),by decide,by show t.size+1+20*p<=20*(p1+1);omega,hD3,hK3,.fix (by first | decide |(cases plain <;> decide))⟩
       ·rw[decide_eq_false h6];have hcv:=nN.fI;go_wp2_with(first|(go_at_call 24;refine(qy hD3 hlen tJ (by omega) (by omega)).mono ?_;rintro e w5 ⟨k2,hk2,qO,rfl,hD5,hk5⟩;clear hk2))
        go_meet;exact⟨g1,p1+2,_,rfl,rfl,zA hI2.out,(by show 0<1;decide),(by show t.size+1+20*p<=20*(p1+2);omega),hD5.same ((Za.refl _ _).alloc _),(hK3.trans hk5).alloc _,.fix (by rcases(show k2=0\/k2=1\/k2=2 from by omega) with rfl | rfl | rfl <;> cases plain <;> decide)⟩
    case rest =>
     obtain⟨g2,p2,x,rfl,rfl,yX,hx0,hxs,hD4,hK4,yT⟩:=hcut;have HQ:Hid (Dr plain .atom deep.toNat g1 (bl x) g2):=yT;clear yT;clear hD3 hK3 hI2 gB hG tJ uj hI1 tK;have HI:Hid (Iv K M p g (5*k+3) p2 g2):=yX;have xE:=D8 yX;clear yX;have VV:p2<=1152921504606846976:=by omega
     have hxb:x.size+1000<=9223372036854775807:=by omega
     go_upto_block 3 with(first|(go_at_call 24;refine(qy hD4 hlen VV (by omega) (by omega)).mono ?_;rintro e w5 ⟨k1',hk1,uj,rfl,hD5,hk5⟩;clear hk1))
     have G6:=hK4.trans hk5;have Dh:Hid (Iv K M p g (5*k+2) (p2+1) g2):=zA HI.out;have hG:w5.heap.size≠R:=by have:=hD5.cur.lt;omega
     have VU:p2+1<=1152921504606846976:=by omega
     clear hD4 hK4 HI hk5;have z1:¬9223372036854775807<x.size+1:=by omega
     go_cut [12,17] (fun s12 _ wc=>Xq cs K M R ao cap p g (5*k+1) t.size (fun g' y=>Qd plain deep.toNat g1 (bl y) g') w (.int .i64 (g2:Int)) s12 wc)
     case first =>
      rcases(show k1'=0\/k1'=1\/k1'=2\/k1'=3\/k1'=4\/5<=k1' from by omega) with rfl | rfl | rfl | rfl | rfl | h7
      rotate_left 4
      ·go_upto_region 39 with fail
       have hL:zJ (w5.alloc (.cells #[.string ⟨#[123,50,125]⟩,.string ⟨#[123,48,125]⟩,.string ⟨#[123,49,44,125]⟩,.string ⟨#[123,48,44,50,125]⟩,.string ⟨#[123,49,44,51,125]⟩,.string ⟨#[123,48,44,48,125]⟩,.string ⟨#[123,50,44,50,125]⟩] 9)) w5.heap.size 7 5 ze:=LH w5 [⟨#[123,50,125]⟩,⟨#[123,48,125]⟩,⟨#[123,49,44,125]⟩,⟨#[123,48,44,50,125]⟩,⟨#[123,49,44,51,125]⟩,⟨#[123,48,44,48,125]⟩,⟨#[123,50,44,50,125]⟩] 9 5 ze (by decide);have kL:Za ai w5 (w5.alloc (.cells #[.string ⟨#[123,50,125]⟩,.string ⟨#[123,48,125]⟩,.string ⟨#[123,49,44,125]⟩,.string ⟨#[123,48,44,50,125]⟩,.string ⟨#[123,49,44,51,125]⟩,.string ⟨#[123,48,44,48,125]⟩,.string ⟨#[123,50,44,50,125]⟩] 9)):=QT;have hD6:=hD5.same kL;have yV:Za (·=R) w (w5.alloc (.cells #[.string ⟨#[123,50,125]⟩,.string ⟨#[123,48,125]⟩,.string ⟨#[123,49,44,125]⟩,.string ⟨#[123,48,44,50,125]⟩,.string ⟨#[123,49,44,51,125]⟩,.string ⟨#[123,48,44,48,125]⟩,.string ⟨#[123,50,44,50,125]⟩] 9)):=G6.alloc _;generalize (w5.alloc (.cells #[.string ⟨#[123,50,125]⟩,.string ⟨#[123,48,125]⟩,.string ⟨#[123,49,44,125]⟩,.string ⟨#[123,48,44,50,125]⟩,.string ⟨#[123,49,44,51,125]⟩,.string ⟨#[123,48,44,48,125]⟩,.string ⟨#[123,50,44,50,125]⟩] 9))=w6 at hL hD6 yV ⊢;generalize w5.heap.size=G at hL hG ⊢;clear kL hD5 G6;go_wp2_with(first|(go_at_call 24;refine(qy hD6 hlen VU (by omega) (by omega)).mono ?_;rintro e w7 ⟨k2,hk2,qO,rfl,hD7,iq⟩;clear hk2;obtain⟨y,cy,hy0,hy1,hy2⟩:=(hL.keeps iq hG).2 k2 (by omega);have z2:¬9223372036854775807<x.size+y.size:=by omega))
       go_meet;exact⟨g2,p2+2,_,rfl,rfl,zA Dh.out,by rw[ByteArray.size_append];omega,by rw[ByteArray.size_append];omega,hD7,yV.trans iq,XF HQ.out hy2⟩
      ·have e0:((k1':Int) == 0)=false:=by simp;omega
       have e1:((k1':Int) == 1)=false:=by simp;omega
       have e2:((k1':Int) == 2)=false:=by simp;omega
       have e3:((k1':Int) == 3)=false:=by simp;omega
       have e4:((k1':Int) == 4)=false:=by simp;omega
       go_wp2_with fail;go_meet;exact⟨g2,p2+1,x,rfl,rfl,yh Dh.out (by omega),hx0,by omega,hD5,G6,Or.inl HQ.out⟩
      all_goals (go_wp2_with fail;go_meet;exact⟨g2,p2+1,_,rfl,rfl,yh Dh.out (by omega),by rw[ByteArray.size_append];omega,by rw[ByteArray.size_append];show t.size+(x.size+1)+20*p<=20*(p2+1);omega,hD5,G6,XF HQ.out (by decide)⟩)
     case rest =>
      obtain⟨g3,p3,y,hg3,rfl,Rf,hy0,hys,hD6,yV,KQ⟩:=hcut;obtain rfl:g3=g2:=by simp at hg3;omega
      have Ve:Hid (Iv K M p g (5*k+1) p3 g3):=Rf;have HQ6:Hid (Qd plain deep.toNat g1 (bl y) g3):=KQ;clear KQ HQ;have hI7:=D8 Rf;clear Rf hg3 hD5 G6 hG VU uj Dh z1 xE VV hxb hx0 hxs;have hyb:y.size+1000<=9223372036854775807:=by omega
      have hq8:p3<=1152921504606846976:=by omega
      go_upto_region 41 with fail
      have HCL:Hid ((bl y).getLast?=some (y[y.size-1].toNat)):=ZuK y (by omega);generalize y[y.size-1].toNat=c at HCL ⊢;go_cut [18,156] (fun _ s wc=>Zvm cs R ao cap p3 c w s wc)
      case first=>as_aux_lemma =>
       by_cases hy1:1<y.size
       ·have zZ:(1:Int)<(y.size:Int):=by omega
        go_wp2_with(first|(go_at_call 24;refine(qy hD6 hlen hq8 (by omega) (by omega)).mono ?_;rintro e w7 ⟨k2,hk2,qO,rfl,hD7,iq⟩;clear hk2))
        all_goals (go_meet;first | exact⟨false,p3,rfl,(fun h=>nomatch h),by omega,by omega,hD6,yV,(fun h=>nomatch h)⟩ | exact⟨_,p3+1,rfl,fun _=>rfl,by omega,by omega,hD7,yV.trans iq,(fun hb=>by first | omega |(exfalso;simp at hb;done) |(simp_all;done) |(simp_all;omega))⟩)
       ·have zZ:¬(1:Int)<(y.size:Int):=by omega
        go_wp2_with(first|(go_at_call 24;refine(qy hD6 hlen hq8 (by omega) (by omega)).mono ?_;rintro e w7 ⟨k2,hk2,qO,rfl,hD7,iq⟩;clear hk2))
        all_goals (go_meet;first | exact⟨false,p3,rfl,(fun h=>nomatch h),by omega,by omega,hD6,yV,(fun h=>nomatch h)⟩ | exact⟨_,p3+1,rfl,fun _=>rfl,by omega,by omega,hD7,yV.trans iq,(fun hb=>by first | omega |(exfalso;simp at hb;done) |(simp_all;done) |(simp_all;omega))⟩)
      case rest =>
       obtain⟨b,p4,rfl,hb,h1,h2,hD7,WM,hc4⟩:=hcut;have HC4:Hid (b=true->c=42\/c=43\/c=125\/c=63):=hc4;clear hc4;have Vl:Hid (b=true->p4=p3+1):=hb;have HI8:Hid (Iv K M p g (5*k) p4 g3):=(by
        show Iv _ _ _ _ _ _ _
        rcases(show p4=p3\/p4=p3+1 from by omega) with h | h
        ·rw[h];exact yh Ve.out (by omega)
        ·rw[h];exact zA Ve.out)
       have HG:Hid (k+1+1=gk):=hgl;clear hb hD6 yV Ve hgl
       cases b with
       | true =>
         have VW:=Vl.out rfl;have z1:¬9223372036854775807<y.size+1:=by omega
         have z2:¬9223372036854775807<t.size+(y.size+1):=by omega
         have HP:Hid (p4=p3+1):=VW;clear VW Vl;go_wp2_with fail;go_roundg (gk-1)
         case measure=>have:=HG.out;omega
         case rel=>exact⟨k,g3,p4,_,by have:=HG.out;omega,by omega,rfl,rfl,congrArg (Value.int .i64) (by omega),HI8,by have:=HP.out;rw[ByteArray.size_append,ByteArray.size_append];show t.size+(y.size+1)+20*p<=20*p4;omega,hD7,WM,ZuJ HS.out HQ6.out HCL.out (HC4.out (by trivial))⟩
       | false =>
         have z2:¬9223372036854775807<t.size+y.size:=by omega
         clear Vl;go_wp2_with fail;go_roundg (gk-1)
         case measure=>have:=HG.out;omega
         case rel=>exact⟨k,g3,p4,_,by have:=HG.out;omega,by omega,rfl,rfl,congrArg (Value.int .i64) (by omega),HI8,by rw[ByteArray.size_append];omega,hD7,WM,Zth HS.out HQ6.out⟩
theorem ZfU(hN:Eo cs K M)(g:Nat):∀n,BG cs K M g n:=by
 induction g using Nat.strongRecOn with
 | ind g ih1 =>
   intro n
   induction n using Nat.strongRecOn with
   | ind n ih2=>exact ZeO hN ih1 ih2
def xX (pl:Bool) (s:ByteArray):Prop:=s.size<=120/\∃g',Dr pl .pat 3 9 (bl s) g'
theorem Zki(pl:Bool):xX pl ⟨#[40,97,124,97,98,41,42,99,63]⟩:=by
 refine⟨by decide,8,?_⟩;have h1:Dr pl .pat 2 8 [97,124,97,98] 8:=by
  have a1:Dr pl .seq 2 8 ([]++[97]) 8:=.bare .nil (.fix (by cases pl <;> decide))
  have a2:Dr pl .seq 2 8 (([]++[97])++[98]) 8:=.bare a1 (.fix (by cases pl <;> decide))
  exact .bar a1 (.one a2)
 have h2:Dr pl .atom 3 9 (40::([97,124,97,98]++[41])) 8:=.iZ h1;have h3:Dr pl .seq 3 9 ([]++((40::([97,124,97,98]++[41]))++[42])) 8:=.cnt .nil h2 (by decide);have h4:Dr pl .seq 3 9 (([]++((40::([97,124,97,98]++[41]))++[42]))++([99]++[63])) 8:=.cnt h3 (.fix (by cases pl <;> decide)) (by decide)
 exact .one h4
theorem Zk9{plain:Bool}(hl:cs.length<=1048576)(hD:Dw w R ao cs cap 0):
  au 14 #[ae R,.bool plain] w fun e w' =>∃(s:ByteArray) (p:Nat),e=.returned (.string s)/\xX plain s/\p<=576460752303423488/\Dw w' R ao cs cap p/\Za (·=R) w w':=by
 obtain⟨K,M,hN⟩:=ZuW cs hl;obtain⟨q,hq0,hq,hw⟩:=hN.win 0;have h2:=hN.two;have h3:=hN.big;have hcall:=ZfU hN 9 q w R cap 0 q ao 3 plain hD (by omega) (by omega) hw (by omega) (by omega) (by omega) (by omega);unfold Y2 at hcall;have HB:Hid (9*K+q+17<=576460752303423488):=(by show _<=_;omega);clear h2 h3 hq hw hq0;go_enter Tryz.func14,Tryz.ntmps14;go_wp2_with(go_at_call 32;refine hcall.mono ?_;rintro e w2 ⟨t,g',p',rfl,hg',hp',hb,ht,hD2,hk,hv⟩;have HV:Hid _:=hv;clear hv)
 all_goals go_ret
 ·exact⟨_,p',rfl,Zki plain,by have:=HB.out;omega,hD2,hk⟩
 ·exact⟨t,p',rfl,⟨by omega,g',HV.out⟩,by have:=HB.out;omega,hD2,hk⟩
def zD (w:World) (B:Nat) (v:Value) (l:List UInt8):Prop:=w.ownsRow B 5 1 v l.length (nN.cellsOf l)
theorem YQ{v:Value}{l:List UInt8}{b:Nat}(h:zD w B v l)(hb:B<=w.heap.size)(hl:l.length<=100000)(hb2:b<256):
  ∃ao n c w1,Sem.run Tryz.prog (Builtin.append_ #[22,22] 22 #[v,.slice (some ⟨w.heap.size,0,none⟩) 1 1]) (w.alloc (.cells #[.int .u8 (b:Int)] 5))=.ok (.slice ao n c) w1/\zD w1 B (.slice ao n c) (l++[UInt8.ofNat b])/\Below B w w1:=by
 obtain⟨v',w1,hrun,ho,hbel⟩:=nN.xQ w B 22 v l.length (nN.cellsOf l) [(b:Int)] (by simp;omega) hb h;have ho2:zD w1 B v' (l++[UInt8.ofNat b]):=by
  unfold zD;have e:nN.cellsOf (l++[UInt8.ofNat b])=nN.cellsOf l++[(b:Int)].map (Value.int .u8):=by
   have:(UInt8.ofNat b).toNat=b:=by simp;omega
   simp[nN.cellsOf,this]
  rw[e,List.length_append];exact ho
 obtain⟨ao,c,hv⟩:=aj ho2;subst hv;exact⟨ao,_,c,w1,hrun,ho2,hbel⟩
theorem Ii{z:Nat}(hD:Dw w R ao cs cap p)(hl:cs.length<=1048576)(hp2:p<=1152921504606846976)(h1:1<z)(h2:z<=200):
  au 24 #[ae R,.int .i64 (z:Int)] w fun e w'=>e=.returned (.int .i64 ((dr cs p % z:Nat):Int))/\Dw w' R ao cs cap (p+1)/\Za (·=R) w w':=by
 refine(qy (z:=(z:Int)) hD hl hp2 (by omega) (by omega)).mono ?_;rintro e w' ⟨k,hk,hkl,rfl,h3,h4⟩;exact⟨by rw[hk];simp,h3,h4⟩
theorem Dw.below(h:Dw w R ao cs cap p)(hR:R<B)(ha:∀a,ao=some a->a.block<B)(hb:Below B w w'):Dw w' R ao cs cap p:=by
 have k5:Za (fun k=>B<=k) w w':=Za.wK hb (fun k h _=>h);refine⟨h.cur.keeps k5 (by omega),h.code.keeps k5 (fun a hh=>⟨(h.apart a hh).1,by have:=ha a hh;omega⟩),fun a hh=>⟨Nat.lt_of_lt_of_le (h.apart a hh).1 k5.size,(h.apart a hh).2⟩⟩
theorem ZcK{wr w1:World}(h:Za E w wr)(b:Below w.heap.size wr w1):Za E w w1 :=
 ⟨b.os.trans h.os,b.tape.trans h.tape,b.output.trans h.output,Nat.le_trans h.size b.size,fun k hk he=>(b.block k hk).trans (h.block k hk he)⟩
theorem Zmx(a:Nat)(h:a<6)(w:World):∃c:Nat,c<256/\Sem.run Tryz.prog (Instr.index 9 (.string { data:=#[49,95,32,10,92,45] }) (.int .i64 (a:Int))) w=.ok (.int .u8 (c:Int)) w:=by
 rcases(show a=0\/a=1\/a=2\/a=3\/a=4\/a=5 from by omega) with h | h | h | h | h | h <;> subst h
 ·exact⟨49,by omega,by kernel_rfl⟩
 ·exact⟨95,by omega,by kernel_rfl⟩
 ·exact⟨32,by omega,by kernel_rfl⟩
 ·exact⟨10,by omega,by kernel_rfl⟩
 ·exact⟨92,by omega,by kernel_rfl⟩
 ·exact⟨45,by omega,by kernel_rfl⟩
theorem Zov{n:Nat}(hl:cs.length<=1048576)(hD:Dw w R ao cs cap p)(hp:p<=600000000000000000)(hn:1<=n)(hn2:n<=150):
  au 15 #[ae R,.int .i64 (n:Int)] w fun e w' =>∃t:ByteArray,e=.returned (.string t)/\t.size<=n/\Za (·=R) w w':=by
 have hRl:=hD.cur.lt;have HA0:Hid (∀a,ao=some a->a.block<w.heap.size):=fun a ha=>(hD.apart a ha).1;obtain⟨z,hz⟩:∃z,n+1=z:=⟨_,rfl⟩;have hpk:=Ii (z:=z) hD hl (by omega) (by omega) (by omega);have hd0:dr cs p % z<z:=Nat.mod_lt _ (by omega);generalize dr cs p % z=k0 at hpk hd0;have hd0:k0<=n:=by omega
 have en:(n:Int)+1=(z:Int):=by omega
 clear hz;go_enter Tryz.func15,Tryz.ntmps15;go_wp2_with(go_at_call 24;refine hpk.mono ?_;clear hpk;rintro e w2 ⟨rfl,hD2,hk2⟩);clear hD en;go_loopg [5,6] (k0+1) (fun gl o s6 wr =>∃(k p1:Nat) (acc:List UInt8),k+1=gl/\acc.length+k<=n/\p1<=p+1+2*acc.length/\s6=.int .i64 (k:Int)/\zD wr w.heap.size o acc/\Dw wr R ao cs cap p1/\Za (·=R) w wr)
 case atStart=>exact⟨k0,p+1,[],rfl,by simp;omega,by simp,rfl,World.ownsRow_nil _ _ _ _,hD2,hk2⟩
 case round =>
  obtain⟨k,p1,acc,hgl,hal,hp1,rfl,hO,Hd,hK⟩:=hrel;clear hD2 hk2;have HG:Hid (k+1=gk):=hgl;clear hgl;obtain⟨a1,c1,hof⟩:=aj hO;subst hof;have hws:=hK.size
  cases k with
  | zero =>
    have Ai:=Ii (z:=9) Hd hl (by omega) (by omega) (by omega);have hd9:dr cs p1 % 9<9:=Nat.mod_lt _ (by omega);generalize dr cs p1 % 9=k9 at Ai hd9;have hO2:∀w3,Za (·=R) wr w3->zD w3 w.heap.size (.slice a1 acc.length c1) acc:=fun w3 k3=>Zb hO k3 (fun k hk e=>by have:=(hO.lt k hk).1;omega)
    by_cases c9:k9=0/\acc.length<n
    ·obtain⟨rfl,hla⟩:=c9;have HN:Hid (∀w3,Za (·=R) wr w3->∃a2 n2 c2 w5,Sem.run Tryz.prog (Builtin.append_ #[22,22] 22 #[.slice a1 acc.length c1,.slice (some ⟨w3.heap.size,0,none⟩) 1 1]) (w3.alloc (.cells #[.int .u8 10] 5))=.ok (.slice a2 n2 c2) w5/\Sem.run Tryz.prog (convert 22 9 (.slice a2 n2 c2)) w5=.ok (.string (nN.ba (acc++[10]))) w5/\Hid (Za (·=R) w w5)):=by
      intro w3 k3;obtain⟨a2,n2,c2,w5,hrun,CO,hb5⟩:=YQ (b:=10) (hO2 w3 k3) (Nat.le_trans hws k3.size) (by omega) (by omega);exact⟨a2,n2,c2,w5,hrun,nN.ni CO,ZcK (hK.trans k3) hb5⟩
     have hsz:(nN.ba (acc++[10])).size<=n:=by rw[nN.ql];simp;omega
     have hlz:(acc.length:Int)<(n:Int):=by omega
     clear hO hO2 Hd hK;generalize acc++[10]=ny at *;generalize acc.length=nA at *;go_wp2_with(first|(go_at_call 24;refine Ai.mono ?_;clear Ai;rintro e w3 ⟨rfl,hD3,hk3⟩;obtain⟨a2,n2,c2,w5,hrun,hcv,HK⟩:=HN.out _ hk3)|(at_builtin;refine Zj rfl _ _ _ _ rfl rfl _ _ _ _ rfl rfl hrun ?_))
     go_ret;exact⟨_,rfl,hsz,HK.out⟩
    ·have HN:Hid (∀w3,Za (·=R) wr w3->Sem.run Tryz.prog (convert 22 9 (.slice a1 acc.length c1)) w3=.ok (.string (nN.ba acc)) w3/\Hid (Za (·=R) w w3)):=fun w3 k3=>⟨nN.ni (hO2 w3 k3),hK.trans k3⟩;have hsz:(nN.ba acc).size<=n:=by rw[nN.ql];omega
     have z:((k9:Int) == 0)=false\/(((k9:Int) == 0)=true/\¬(acc.length:Int)<(n:Int)):=by
      by_cases h0:k9=0
      ·exact Or.inr ⟨by rw[beq_iff_eq];omega,by omega⟩
      ·exact Or.inl (by rw[beq_eq_false_iff_ne];omega)
     clear hO hO2 Hd hK c9;generalize acc.length=nA at *
     rcases z with z | ⟨z,z2⟩
     ·go_wp2_with(first|(go_at_call 24;refine Ai.mono ?_;clear Ai;rintro e w3 ⟨rfl,hD3,hk3⟩;obtain⟨hcv,HK⟩:=HN.out _ hk3))
      go_ret;exact⟨_,rfl,hsz,HK.out⟩
     ·go_wp2_with(first|(go_at_call 24;refine Ai.mono ?_;clear Ai;rintro e w3 ⟨rfl,hD3,hk3⟩;obtain⟨hcv,HK⟩:=HN.out _ hk3))
      go_ret;exact⟨_,rfl,hsz,HK.out⟩
  | succ k =>
    have hkz:(0:Int)<((k+1:Nat):Int):=by omega
    have HN:Hid (∀(w3:World) (p3 b:Nat),Za (·=R) wr w3->Dw w3 R ao cs cap p3->p3<=p1+2->b<256->∃a2 n2 c2 w5,Sem.run Tryz.prog (Builtin.append_ #[22,22] 22 #[.slice a1 acc.length c1,.slice (some ⟨w3.heap.size,0,none⟩) 1 1]) (w3.alloc (.cells #[.int .u8 (b:Int)] 5))=.ok (.slice a2 n2 c2) w5/\Hid (∃(p4:Nat) (ny:List UInt8),ny.length+k<=n/\p4<=p+1+2*ny.length/\zD w5 w.heap.size (.slice a2 n2 c2) ny/\Dw w5 R ao cs cap p4/\Za (·=R) w w5)):=by
     intro w3 p3 b k3 hD3 hp3 hb;have hO3:zD w3 w.heap.size (.slice a1 acc.length c1) acc:=Zb hO k3 (fun k hk e=>by have:=(hO.lt k hk).1;omega);obtain⟨a2,n2,c2,w5,hrun,CO,hb5⟩:=YQ (b:=b) hO3 (Nat.le_trans hws k3.size) (by omega) hb;exact⟨a2,n2,c2,w5,hrun,p3,_,by simp;omega,by simp;omega,CO,hD3.below hRl HA0.out hb5,ZcK (hK.trans k3) hb5⟩
    have tX:=Ii (z:=12) Hd hl (by omega) (by omega) (by omega);have Pe:dr cs p1 % 12<12:=Nat.mod_lt _ (by omega);generalize dr cs p1 % 12=k12 at tX Pe;clear hO Hd hK
    by_cases c12:k12=0
    ·subst c12;have HP:Hid (∀w3,Dw w3 R ao cs cap (p1+1)->au 24 #[ae R,.int .i64 6] w3 fun e w' =>∃k6:Nat,k6<6/\e=.returned (.int .i64 (k6:Int))/\Dw w' R ao cs cap (p1+1+1)/\Za (·=R) w3 w'):=fun w3 h3=>by
      refine(Ii (z:=6) h3 hl (by omega) (by omega) (by omega)).mono ?_;rintro e w' ⟨rfl,h1,h2⟩;exact⟨_,Nat.mod_lt _ (by omega),rfl,h1,h2⟩
     generalize acc.length=nA at *;go_upto_region 6 with(go_at_call 24;refine tX.mono ?_;clear tX;rintro e w3 ⟨rfl,hD3,hk3⟩);have FQ:=HP.out _ hD3;go_wp2_with(first|(go_at_call 24;refine FQ.mono ?_;clear FQ;rintro e w4 ⟨k6,h6,rfl,hD4,hk4⟩;obtain⟨cc,hcc,hix⟩:=Zmx k6 h6 w4;obtain⟨a2,n2,c2,w5,hrun,HF⟩:=HN.out w4 _ cc (hk3.trans hk4) hD4 (by omega) hcc)|(at_builtin;refine Zj rfl _ _ _ _ rfl rfl _ _ _ _ rfl rfl hrun ?_))
     obtain⟨p4,ny,r1,r2,r3,r4,r5⟩:=HF.out;go_roundg (gk-1)
     case measure=>have:=HG.out;omega
     case rel=>exact⟨k,p4,ny,by have:=HG.out;omega,r1,r2,congrArg (Value.int .i64) (by omega),r3,r4,r5⟩
    ·have z12:((k12:Int) == 0)=false:=by rw[beq_eq_false_iff_ne];omega
     have HP:Hid (∀w3,Dw w3 R ao cs cap (p1+1)->au 24 #[ae R,.int .i64 3] w3 fun e w' =>∃k6:Nat,k6<3/\e=.returned (.int .i64 (k6:Int))/\Dw w' R ao cs cap (p1+1+1)/\Za (·=R) w3 w'):=fun w3 h3=>by
      refine(Ii (z:=3) h3 hl (by omega) (by omega) (by omega)).mono ?_;rintro e w' ⟨rfl,h1,h2⟩;exact⟨_,Nat.mod_lt _ (by omega),rfl,h1,h2⟩
     generalize acc.length=nA at *;go_upto_region 7 with(go_at_call 24;refine tX.mono ?_;clear tX;rintro e w3 ⟨rfl,hD3,hk3⟩);have FQ:=HP.out _ hD3;go_wp2_with(first|(go_at_call 24;refine FQ.mono ?_;clear FQ;rintro e w4 ⟨k6,h6,rfl,hD4,hk4⟩;obtain⟨cc,hcc⟩:∃cc:Nat,97+k6=cc:=⟨_,rfl⟩;have ecc:(97:Int)+(k6:Int)=(cc:Int):=(by omega);have hwc:IntKind.u8.wrap (cc:Int)=(cc:Int):=IntWalk.u8_in _ (by omega);obtain⟨a2,n2,c2,w5,hrun,HF⟩:=HN.out w4 _ cc (hk3.trans hk4) hD4 (by omega) (by omega);clear hcc)|(at_builtin;refine Zj rfl _ _ _ _ rfl rfl _ _ _ _ rfl rfl hrun ?_))
     obtain⟨p4,ny,r1,r2,r3,r4,r5⟩:=HF.out;go_roundg (gk-1)
     case measure=>have:=HG.out;omega
     case rel=>exact⟨k,p4,ny,by have:=HG.out;omega,r1,r2,congrArg (Value.int .i64) (by omega),r3,r4,r5⟩
theorem ZjB(hl:cs.length<=1048576)(hc:Dc w ao cs)(ha:∀a,ao=some a->a.block<w.heap.size):
  au 5 #[.slice ao cs.length cap] w fun e w' =>∃s t:ByteArray,e=.returned (.tuple #[.string s,.string t])/\xX false s/\t.size<=14/\Za ai w w':=by
 have kA:Za ai w (w.alloc (.cells #[.slice ao cs.length cap,.int .i64 0,.int .u64 0] 45)):=(Za.refl _ w).alloc _;have hD:Dw (w.alloc (.cells #[.slice ao cs.length cap,.int .i64 0,.int .u64 0] 45)) w.heap.size ao cs cap 0 :=
  ⟨heap_alloc_new w _,hc.keeps kA (fun a h=>⟨ha a h,fun h=>h⟩),fun a h=>⟨Nat.lt_of_lt_of_le (ha a h) kA.size,by have:=ha a h;omega⟩⟩
 have hgo:=Zk9 (plain:=false) hl hD;have HT:Hid (∀w2 p,Dw w2 w.heap.size ao cs cap p->p<=600000000000000000->au 15 #[ae w.heap.size,.int .i64 14] w2 fun e w' =>∃t:ByteArray,e=.returned (.string t)/\t.size<=14/\Za (·=w.heap.size) w2 w'):=fun w2 p h2 hp=>Zov (n:=14) hl h2 hp (by omega) (by omega);clear hD;go_enter Tryz.func5,Tryz.ntmps5;go_wp2_with(first|(go_at_call 14;refine hgo.mono ?_;clear hgo;rintro e w2 ⟨s,p,rfl,hs,hp,hD2,hk2⟩;have htx:=HT.out _ _ hD2 (by omega))|(go_at_call 15;refine htx.mono ?_;clear htx;rintro e w3 ⟨t,rfl,ht,hk3⟩))
 go_ret2;exact⟨s,t,rfl,hs,ht,kA.trans' (hk2.trans hk3) (fun i hi h=>by omega)⟩
end Go.Proofs.YtfkflljplohhcaaGreatDoor
