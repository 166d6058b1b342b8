import Derived.Test.YtfkflljplohhcaaGreatDoorTa
import Derived.Stop.Asserts
import Derived.RowKitTokens
set_option linter.unusedVariables false
set_option maxHeartbeats 4000000
set_option maxRecDepth 100000
namespace Go.Proofs.YtfkflljplohhcaaGreatDoor
open Go.RowKit
def zx (base:Nat) (v:Value) (L:List Bt) (w:World) (e:Ending) (w':World):Prop :=∃v',e=.returned v'/\BR w' base v' L/\Za (v.ownBlock=some ·) w w'
variable {w w':World}{base p R:Nat}{v:Value}{s:ByteArray}
theorem Zj9(x:Bt)(hr:BR w base v [])(hb:base<=w.heap.size):
  au 61 #[v,.agg #[.int .i64 x.1,.string x.2]] w (zx base v [x] w):=by
 have kA:Za ai w (w.alloc (.cells #[.int .i64 x.1,.string x.2] 73)):=(Za.refl _ w).alloc _;have hQ:Bk (w.alloc (.cells #[.int .i64 x.1,.string x.2] 73)) w.heap.size 73 [.int .i64 x.1,.string x.2]:=QC w _ _;have hr1:BR (w.alloc (.cells #[.int .i64 x.1,.string x.2] 73)) base v []:=Zb hr kA (fun _ _ h=>h);obtain⟨v',w',hrun,hr',hk'⟩:=SB hr1 (Nat.le_trans hb kA.size) (by simp) x;obtain⟨ao,cap,hv⟩:=aj hr;subst hv;have hfin:zx base (.slice ao ([]:List Bt).length cap) [x] w (.returned v') w':=⟨v',rfl,hr',(kA.mono (fun _ _ h=>h.elim)).trans hk'⟩;have q0:(w.alloc (.cells #[.int .i64 x.1,.string x.2] 73)).cell? (ak w.heap.size)=some (.int .i64 x.1):=by rw[hQ.cell];rfl
 have q1:(w.alloc (.cells #[.int .i64 x.1,.string x.2] 73)).cell? ⟨w.heap.size,1,none⟩=some (.string x.2):=by rw[hQ.cell];rfl
 obtain⟨a8,c8,wW⟩:=aj hr';subst wW;clear hr hr1 hr' hk' hQ;go_enter Tryz.func61,Tryz.ntmps61;go_upto_region 1 with fail;generalize w.alloc (.cells #[.int .i64 x.1,.string x.2] 73)=w1 at kA hrun q0 q1 ⊢;go_wp2_with(refine Zj rfl _ _ _ _ rfl rfl _ _ _ _ rfl rfl hrun ?_);go_ret;exact hfin
variable {A L:List Bt}
theorem Zer{y:Bt}(x:Bt)(hr:BR w base v (A++[y]))(hb:base<=w.heap.size)(hl:A.length<=1000)(hc:x.1≠-1\/y.1≠-1)(hL:L=A++[y]++[x]):
  au 61 #[v,.agg #[.int .i64 x.1,.string x.2]] w (zx base v L w):=by
 have kA:Za ai w (w.alloc (.cells #[.int .i64 x.1,.string x.2] 73)):=(Za.refl _ w).alloc _;have hQ:Bk (w.alloc (.cells #[.int .i64 x.1,.string x.2] 73)) w.heap.size 73 [.int .i64 x.1,.string x.2]:=QC w _ _;have hr1:BR (w.alloc (.cells #[.int .i64 x.1,.string x.2] 73)) base v (A++[y]):=Zb hr kA (fun _ _ h=>h);obtain⟨v',w',hrun,hr',hk'⟩:=SB hr1 (Nat.le_trans hb kA.size) (by simp;omega) x;rw[<- hL] at hr';clear hL;have hlen:(A++[y]).length=A.length+1:=by simp
 have hr0:=hr;unfold BR at hr0;rw[hlen] at hr0;obtain⟨g,cap,hv,hg,-⟩:=ZM hr0;subst hv;have hfin:zx base (.slice (some ⟨g,0,none⟩) (A.length+1) cap) L w (.returned v') w':=⟨v',rfl,hr',(kA.mono (fun _ _ h=>h.elim)).trans hk'⟩;have q0:(w.alloc (.cells #[.int .i64 x.1,.string x.2] 73)).cell? (ak w.heap.size)=some (.int .i64 x.1):=by rw[hQ.cell];rfl
 have q1:(w.alloc (.cells #[.int .i64 x.1,.string x.2] 73)).cell? ⟨w.heap.size,1,none⟩=some (.string x.2):=by rw[hQ.cell];rfl
 have hr2:=hr1;unfold BR at hr2;rw[hlen] at hr2;have b0:=hr2.cellAt (A.length*2) (by omega);rw[(Jy (A++[y]) A.length y (by simp)).1] at b0;obtain⟨a8,c8,wW⟩:=aj hr';subst wW;generalize A.length=n at *;have hz:¬((n+1:Nat):Int)-1<0:=by omega
 have hz2:((n+1:Nat):Int)-1=(n:Int):=by omega
 clear hr hr1 hr' hk' hQ hr0 hr2;go_enter Tryz.func61,Tryz.ntmps61;go_upto_region 1 with fail;generalize w.alloc (.cells #[.int .i64 x.1,.string x.2] 73)=w1 at kA hrun q0 q1 b0 ⊢
 by_cases hx:x.1 = -1
 ·have hy:y.1≠-1:=hc.resolve_left (fun h=>h hx);have hxb:(x.1 != -1)=false:=by simp[hx]
  have hyb:(y.1 != -1)=true:=by simp[hy]
  clear hc hx hy;go_wp2_with(refine Zj rfl _ _ _ _ rfl rfl _ _ _ _ rfl rfl hrun ?_);go_ret;exact hfin
 ·have hxb:(x.1 != -1)=true:=by simp[hx]
  clear hc hx;go_wp2_with(refine Zj rfl _ _ _ _ rfl rfl _ _ _ _ rfl rfl hrun ?_);go_ret;exact hfin
theorem ZhF{y t:ByteArray}(hr:BR w base v (A++[(-1,y)]))(hb:base<=w.heap.size)(hl:A.length<=1000)(hy:y.size<=1000)(ht:t.size<=1000)(hL:L=A++[(-1,y++t)]):
  au 61 #[v,.agg #[.int .i64 (-1),.string t]] w (zx base v L w):=by
 have kA:Za ai w (w.alloc (.cells #[.int .i64 (-1),.string t] 73)):=(Za.refl _ w).alloc _;have hQ:Bk (w.alloc (.cells #[.int .i64 (-1),.string t] 73)) w.heap.size 73 [.int .i64 (-1),.string t]:=QC w _ _;have hlen:(A++[((-1,y):Bt)]).length=A.length+1:=by simp
 have hr1:=Zb hr kA (fun _ _ h=>h);rw[hlen] at hr1;obtain⟨g,cap,hv,hg,-⟩:=ZM hr1;subst hv;have jm:L.length=A.length+1:=by rw[hL];simp
 have b0:=hr1.cellAt (A.length*2) (by omega);have b1:=hr1.cellAt (A.length*2+1) (by omega);rw[(Jy (A++[(-1,y)]) A.length (-1,y) (by simp)).1] at b0;rw[(Jy (A++[(-1,y)]) A.length (-1,y) (by simp)).2] at b1;simp only at b0 b1;have hst:=(hr1.stored (A.length*2+1) (.string (y++t))).1;rw[Znp] at hst;have f1:=hr1.frozenAt (A.length*2+1);have hfin:∀w5 w6,Za ai w w5->w5=w.alloc (.cells #[.int .i64 (-1),.string t] 73)->(∃n,w6=(w5.setCell ⟨g,A.length*2+1,none⟩ (.string (y++t))).drewN n)->zx base (.slice (some ⟨g,0,none⟩) (A.length+1) cap) L w (.returned (.slice (some ⟨g,0,none⟩) (A.length+1) cap)) w6:=by
  rintro w5 w6 k5 rfl ⟨n,rfl⟩;refine⟨_,rfl,?_,?_⟩
  ·unfold BR;rw[jm,hL];exact Qa hst rfl
  ·exact((k5.mono (fun _ _ h=>h.elim)).setCell (fun _=>by simp[Value.ownBlock]) _).drewN _
 have HF:Hid (∀w5 w6,Za ai w w5->w5=w.alloc (.cells #[.int .i64 (-1),.string t] 73)->(∃n,w6=(w5.setCell ⟨g,A.length*2+1,none⟩ (.string (y++t))).drewN n)->zx base (.slice (some ⟨g,0,none⟩) (A.length+1) cap) L w (.returned (.slice (some ⟨g,0,none⟩) (A.length+1) cap)) w6):=hfin;have q0:(w.alloc (.cells #[.int .i64 (-1),.string t] 73)).cell? (ak w.heap.size)=some (.int .i64 (-1)):=by rw[hQ.cell];rfl
 have q1:(w.alloc (.cells #[.int .i64 (-1),.string t] 73)).cell? ⟨w.heap.size,1,none⟩=some (.string t):=by rw[hQ.cell];rfl
 generalize A.length=n at *;have hz:¬((n+1:Nat):Int)-1<0:=by omega
 have hz2:((n+1:Nat):Int)-1=(n:Int):=by omega
 have hsz:¬9223372036854775807<y.size+t.size:=by omega
 clear hr hr1 hQ hst hfin jm hL hlen;go_enter Tryz.func61,Tryz.ntmps61;go_upto_region 1 with fail;generalize hw1:w.alloc (.cells #[.int .i64 (-1),.string t] 73)=w1 at kA q0 q1 b0 b1 f1 ⊢;have HW:Hid (w1=w.alloc (.cells #[.int .i64 (-1),.string t] 73)):=hw1.symm;clear hw1;go_wp2_with fail;go_region_with fail
 all_goals (try go_wp2_with fail)
 all_goals (try go_ret)
 all_goals first
  | exact HF.out w1 _ kA HW.out ⟨0,rfl⟩
  | exact HF.out w1 _ kA HW.out ⟨1,rfl⟩
def mD (acc:List Bt) (x:Bt):List Bt:=if x.1 = -1 then jn acc x.2 else acc++[x]
theorem Zka{acc:List Bt}(x:Bt)(hr:BR w base v acc)(hb:base<=w.heap.size)(hf:ib 1000 acc)(hx:x.2.size<=1000):
  au 61 #[v,.agg #[.int .i64 x.1,.string x.2]] w (zx base v (mD acc x) w):=by
 rcases List.eq_nil_or_concat acc with rfl | ⟨A,y,rfl⟩
 ·have e:mD [] x = [x]:=by
   unfold mD
   split
   ·rename_i h;rw[Sq];rw[<- h]
   ·rfl
  rw[e];exact Zj9 x hr hb
 ·rw[List.concat_eq_append] at hr hf ⊢;have hl:A.length<=1000:=by have:=hf.1;simp at this;omega
  have hy:=hf.2 y (by simp);obtain⟨g,z⟩:=y;obtain⟨gx,t⟩:=x
  by_cases hgx:gx = -1
  ·subst hgx
   by_cases hg:g = -1
   ·subst hg;exact ZhF hr hb hl hy hx (by unfold mD;rw[if_pos rfl,Ir])
   ·exact Zer (-1,t) hr hb hl (Or.inr hg) (by unfold mD;rw[if_pos rfl,Iw _ _ _ hg])
  ·exact Zer (gx,t) hr hb hl (Or.inl hgx) (by unfold mD;rw[if_neg hgx])
theorem Im{e:TypeId}{size:Nat}{n:Nat}{xs:List Value}{k:Nat}(h:w.ownsRow base e size v n xs)(hk:v.ownBlock=some k):∃cs,w.heap[k]?=some (.cells cs e (0,0)):=by
 obtain⟨_,⟨rfl,_⟩ | ⟨g,cap,cur,rfl,_,hh,_⟩⟩:=h
 ·simp[Value.ownBlock] at hk
 ·simp only[Value.ownBlock,Option.some.injEq] at hk;subst hk;exact⟨_,hh⟩
def J5 (s:ByteArray) (p:Nat):Option (Bt×Nat) :=
 if bt s p=36 then
  if bt s (p+1)=36 then some ((-1,⟨#[36]⟩),p+2)
  else if ZI (bt s (p+1)) then some ((((bt s (p+1):Nat):Int)-48,⟨#[]⟩),p+2)
  else none
 else some ((-1,Jz s p),p+1)
theorem Jr(s:ByteArray)(p:Nat)(hp:p<s.size)(f:Nat)(acc:List Bt):gI s (f+1) p acc=match J5 s p with
  | some (x,q)=>gI s f q (mD acc x)
  | none => .error (p+1):=by
 rw[gI,if_neg (by omega),J5]
 split
 ·split
  ·simp[mD]
  ·split
   ·rename_i h1 h2 h3
    have:¬(((bt s (p+1):Nat):Int)-48 = -1):=by
     have:48<=bt s (p+1):=by simp[ZI] at h3;omega
     omega
    simp[mD,this]
   ·rfl
 ·simp[mD]
variable {x:Bt}
theorem ZnE{q:Nat}(hp:p<s.size)(h:J5 s p=some (x,q)):p<q/\q<=s.size/\x.2.size<=1:=by
 unfold J5 at h
 split at h
 ·split at h
  ·rename_i h1 h2
   have:p+1<s.size:=Decidable.byContradiction fun hn=>by rw[Z7 hn] at h2;simp at h2
   simp only[Option.some.injEq,Prod.mk.injEq] at h;obtain⟨rfl,rfl⟩:=h;exact⟨by omega,by omega,by decide⟩
  ·split at h
   ·rename_i h1 h2 h3
    have:p+1<s.size:=Decidable.byContradiction fun hn=>by rw[Z7 hn] at h3;simp[ZI] at h3
    simp only[Option.some.injEq,Prod.mk.injEq] at h;obtain⟨rfl,rfl⟩:=h;exact⟨by omega,by omega,Nat.zero_le 1⟩
   ·simp at h
 ·simp only[Option.some.injEq,Prod.mk.injEq] at h;obtain⟨rfl,rfl⟩:=h;exact⟨by omega,by omega,by simp only;unfold Jz;rw[ByteArray.size_extract];omega⟩
theorem Zqn{q:Nat}(h:Cu w R s p)(hs:s.size<=100)(hp:p<s.size)(hb:J5 s p=some (x,q)):
  au 60 #[ae R] w fun e w'=>e=.returned (.tuple #[.agg #[.int .i64 x.1,.string x.2],.nilIface])/\Cu w' R s (q:Int)/\Za (·=R) w w':=by
 refine(Yg h hs hp).mono ?_;rintro e w' ⟨hk,h2⟩;unfold J5 at hb
 split at hb
 ·rename_i h1;rw[if_pos h1] at h2
  split at hb
  ·rename_i h3;rw[if_pos h3] at h2;simp only[Option.some.injEq,Prod.mk.injEq] at hb;obtain⟨rfl,rfl⟩:=hb;exact⟨h2.1,h2.2,hk⟩
  ·rename_i h3;rw[if_neg h3] at h2
   split at hb
   ·rename_i h4;rw[if_pos h4] at h2;simp only[Option.some.injEq,Prod.mk.injEq] at hb;obtain⟨rfl,rfl⟩:=hb;exact⟨h2.1,h2.2,hk⟩
   ·simp at hb
 ·rename_i h1;rw[if_neg h1] at h2;simp only[Option.some.injEq,Prod.mk.injEq] at hb;obtain⟨rfl,rfl⟩:=hb;exact⟨h2.1,h2.2,hk⟩
theorem Zqo(h:Cu w R s p)(hs:s.size<=100)(hp:p<s.size)(hb:J5 s p=none):
  au 60 #[ae R] w fun e w'=>e=.returned (.tuple #[.agg #[.int .i64 0,.string ⟨#[]⟩],.iface 94 (.agg #[.int .i64 ((p+1:Nat):Int)])])/\Cu w' R s ((p+1:Nat):Int)/\Za (·=R) w w':=by
 refine(Yg h hs hp).mono ?_;rintro e w' ⟨hk,h2⟩;unfold J5 at hb
 split at hb
 ·rename_i h1;rw[if_pos h1] at h2
  split at hb
  ·simp at hb
  ·rename_i h3;rw[if_neg h3] at h2
   split at hb
   ·simp at hb
   ·rename_i h4;rw[if_neg h4] at h2;exact⟨h2.1,h2.2,hk⟩
 ·simp at hb
def D5 (s:ByteArray) (w:World) (e:Ending) (w':World):Prop :=
 Za ai w w'/\match ZF s with
 | .error x=>e=.returned (.tuple #[.slice none 0 0,.iface 94 (.agg #[.int .i64 (x:Int)])])
 | .ok L =>∃v,e=.returned (.tuple #[v,.nilIface])/\BR w' w.heap.size v L
theorem ZcP{x:Nat}(h:ZF s=.error x)(k:Za ai w w'):D5 s w (.returned (.tuple #[.slice none 0 0,.iface 94 (.agg #[.int .i64 (x:Int)])])) w':=by
 unfold D5;rw[h];exact⟨k,rfl⟩
theorem Zh9(h:ZF s=.ok L)(k:Za ai w w')(hB:BR w' w.heap.size v L):D5 s w (.returned (.tuple #[v,.nilIface])) w':=by
 unfold D5;rw[h];exact⟨k,v,rfl,hB⟩
theorem Zge(s:ByteArray)(w:World)(Ae:s.size<=1048576):au 37 #[.string s] w (D5 s w):=by
 by_cases hs:100<s.size
 ·have HE:Hid (ZF s=.error 100):=(by show _ = _;unfold ZF;rw[if_pos hs]);have hz:(100:Int)<(s.size:Int):=by omega
  go_enter Tryz.func37,Tryz.ntmps37;go_wp2_with fail;go_ret2;exact ZcP HE.out (Za.refl _ _)
 ·have hz:¬(100:Int)<(s.size:Int):=by omega
  have hn1:∀(t:TypeId) (y:Value) (w:World),(binOp BinOp.neq 90 (.iface t y) .nilIface).run Tryz.prog w=.ok (.bool true) w:=fun _ _ _=>by kernel_rfl
  have hn0:∀(w:World),(binOp BinOp.neq 90 .nilIface .nilIface).run Tryz.prog w=.ok (.bool false) w:=fun _=>by kernel_rfl
  obtain⟨r,hr⟩:∃r,gI s (s.size+1) 0 []=r:=⟨_,rfl⟩;have zL:Hid (gI s (s.size+1) 0 []=r):=hr;have HE:Hid (ZF s=r):=(by show _ = _;unfold ZF;rw[if_neg hs];exact hr);clear hr;go_enter Tryz.func37,Tryz.ntmps37;go_upto_region 5 with fail;have kA:Za ai w (w.alloc (.cells #[.string s,.int .i64 0] 124)):=(Za.refl _ w).alloc _;have hC:Cu (w.alloc (.cells #[.string s,.int .i64 0] 124)) w.heap.size s ((0:Nat):Int):=heap_alloc_new w _;have KO:w.heap.size<=w.heap.size:=Nat.le_refl _;generalize w.alloc (.cells #[.string s,.int .i64 0] 124)=w1 at kA hC ⊢;generalize hRe:w.heap.size=R at hC KO ⊢;have UY:Hid (w.heap.size=R):=hRe;clear hRe KO;go_wp2;go_loopg [4,6,7] (s.size+1) (fun gl s4 _ _ wr =>∃(p:Nat) (acc:List Bt) (v:Value),s.size<p+gl/\p<=s.size/\s4=v/\BR wr R v acc/\(∀k,v.ownBlock=some k->k≠R)/\ib p acc/\Cu wr R s (p:Int)/\Hid (gI s gl p acc=r)/\Za ai w wr)
  case atStart=>exact⟨0,[],_,by omega,by omega,rfl,World.ownsRow_nil _ _ _ _,fun k h=>by simp[Value.ownBlock] at h,⟨by simp,by simp⟩,hC,zL,kA⟩
  case round =>
   clear hC kA zL;obtain⟨p,acc,v,hgl,hp,rfl,hB,Oi,hf,hC,HR,hK⟩:=hrel;obtain⟨f,rfl⟩:∃f,gk=f+1:=⟨gk-1,by omega⟩;obtain⟨av,cv,hv⟩:=aj hB
   by_cases hlt:p<s.size
   ·have hRl:R<wr.heap.size:=hC.lt;have WK:∀{wa wb:World},Za ai w wa->Za (·=R) wa wb->Za ai w wb:=fun h1 h2=>h1.trans' h2 (fun i hi h=>by have:=UY.out;omega)
    cases hb:J5 s p with
    | none =>
      have HX:Hid (r=.error (p+1)):=(by show _ = _;rw[<- HR.out,Jr s p hlt,hb]);subst hv;go_wp2_with(first|(go_at_call 54;refine(JS hC hlt).mono ?_;rintro e w2 ⟨rfl,n,hn⟩;have hC2:Cu w2 R s (p:Int):=(by rw[hn];exact hC.drewN n);have hK2:Za ai w w2:=(by rw[hn];exact hK.drewN n);clear hn)|(go_at_call 60;refine(Zqo hC2 (by omega) hlt hb).mono ?_;rintro e w3 ⟨rfl,Rt,hk3⟩))
      go_ret2;exact ZcP (HE.out.trans HX.out) ((WK hK2 hk3).alloc _)
    | some v =>
      obtain⟨x,q⟩:=v;obtain⟨hpq,hq,hxs⟩:=ZnE hlt hb;have HX:Hid (gI s f q (mD acc x)=r):=(by show _ = _;rw[<- HR.out,Jr s p hlt,hb]);have Cn:Hid (ib q (mD acc x)):=(by
       show ib _ _;unfold mD
       split
       ·exact(Ij hf hxs).mono (by omega)
       ·exact(hf.snoc (by omega)).mono (by omega))
      have HB:Hid (J5 s p=some (x,q)):=hb;clear hb;subst hv;go_upto_region 9 with(first|(go_at_call 54;refine(JS hC hlt).mono ?_;rintro e w2 ⟨rfl,n,hn⟩;have hC2:Cu w2 R s (p:Int):=(by rw[hn];exact hC.drewN n);have hK2:Za ai w w2:=(by rw[hn];exact hK.drewN n);have hB2:BR w2 R (.slice av acc.length cv) acc:=(by rw[hn];exact Qa hB rfl);clear hn)|(go_at_call 60;refine(Zqn hC2 (by omega) hlt HB.out).mono ?_;rintro e w3 ⟨rfl,Rt,hk3⟩))
      have hB3:BR w3 R (.slice av acc.length cv) acc:=Zb hB2 hk3 Oi;have kB:Za ai w3 (w3.alloc (.cells #[.int .i64 x.1,.string x.2] 73)):=QT;have hQ:Bk (w3.alloc (.cells #[.int .i64 x.1,.string x.2] 73)) w3.heap.size 73 [.int .i64 x.1,.string x.2]:=QC w3 _ _;have hB4:BR (w3.alloc (.cells #[.int .i64 x.1,.string x.2] 73)) R (.slice av acc.length cv) acc:=Zb hB3 kB (fun _ _ h=>h);have Dl:=Rt.keeps kB id;have hK4:=(WK hK2 hk3).trans kB;clear hB hB2 hB3 hC hC2 Rt hK hK2 hk3 kB;generalize w3.alloc (.cells #[.int .i64 x.1,.string x.2] 73)=w4 at hQ hB4 Dl hK4 ⊢;generalize w3.heap.size=Q at hQ ⊢;have q0:w4.cell? (ak Q)=some (.int .i64 x.1):=by rw[hQ.cell];rfl
      have q1:w4.cell? ⟨Q,1,none⟩=some (.string x.2):=by rw[hQ.cell];rfl
      have hcall:=Zka x hB4 (by have:=Dl.lt;omega) (hf.mono (by omega)) (by omega);clear hQ;go_wp2_with(first|(go_at_call 61;refine hcall.mono ?_;rintro e w5 ⟨v',rfl,fE,hk5⟩;obtain⟨a5,c5,hv5⟩:=aj fE;subst hv5))
      go_roundg (f+1-1)
      case measure=>omega
      case rel =>
       refine⟨q,mD acc x,_,by omega,hq,rfl,fE,?_,Cn.out,Dl.keeps hk5 (fun h=>Oi _ h rfl),HX,hK4.trans' hk5 (fun i hi h=>by have:=(hB4.lt i h).1;have:=UY.out;omega)⟩;intro k hk he;subst he;obtain⟨c2,h2⟩:=Im fE hk;have h3:=Dl.keeps hk5 (fun h=>Oi _ h rfl);unfold Cu at h3;rw[h3] at h2;simp at h2
   ·have hpe:p=s.size:=by omega
    have HX:Hid (r=.ok acc):=(by show _ = _;rw[<- HR.out,gI,if_pos (by omega)]);subst hv;go_wp2_with(first|(go_at_call 54;refine(Ux hC hpe).mono ?_;rintro e w2 ⟨rfl,n,rfl⟩))
    go_ret2;exact Zh9 (HE.out.trans HX.out) (hK.drewN _) (by rw[UY.out];exact Qa hB rfl)
open Go.RowKit Go.Extern.Stop Go.Stop Go.Extern
theorem Zuj(t:Value)(w:World):au 38 #[.nilIface,t] w fun e w'=>e=.returned (.bool false)/\w'=w:=by
 go_enter Tryz.func38,Tryz.ntmps38;go_wp2;go_ret;exact⟨rfl,rfl⟩
theorem Zie(t:Addr)(w:World):(ReflectliteValue.unpack (.iface 96 (.pointer (some t)))).run Tryz.prog w
  = .ok (.agg #[.pointer (some ⟨1,96,none⟩),ae w.heap.size,.int .u64 150]) (w.alloc (.cells #[.pointer (some t)] 96)):=by kernel_rfl
theorem as_typeP (a : Addr) (w : World): (ReflectliteValue.methodAny (ReflectliteValue.valueError "reflectlite.Value.Type" 0) (fun t _ _ _ => ReflectliteType.toType t) #[.agg #[.pointer (some ⟨1, 96, none⟩), .pointer (some a), .int .u64 150]]).run Tryz.prog w
  = .ok (.iface 190 (.agg #[.pointer (some ⟨1,96,none⟩)])) w:=by kernel_rfl
theorem as_methodKind (h : Value) (w : World): (Go.method 388 190 (.agg #[h]) "Kind").run Tryz.prog w = .ok (175, h) w := by kernel_rfl
theorem ZqB(w:World):((ReflectliteType.abiMethod fun t=>(fun a:Nat=>Value.int IntKind.u8 (a:Int)) <$> Rtype.kind t) #[.pointer (some ⟨1,96,none⟩)]).run Tryz.prog w=.ok (.int .u8 22) w:=by kernel_rfl
theorem ZqA(w:World):((ReflectliteType.abiMethod fun t=>(fun a:Nat=>Value.int IntKind.u8 (a:Int)) <$> Rtype.kind t) #[.pointer (some ⟨1,94,none⟩)]).run Tryz.prog w=.ok (.int .u8 25) w:=by kernel_rfl
theorem XM(z:Sem Value)(f:TypeId->Addr->Nat->Nat->Sem Value)(v:Value):
  ReflectliteValue.method z f #[v]=(do match <- ReflectliteValue.parts v with | none=>z | some (t,a,fl)=>f t a fl (fl % 32)):=rfl
theorem ZgS(a:Addr)(w:World):(ReflectliteValue.parts (.agg #[.pointer (some ⟨1,96,none⟩),.pointer (some a),.int .u64 150])).run Tryz.prog w=.ok (some (96,a,150)) w:=by kernel_rfl
theorem ZnL(a p:Addr)(W:World)(ha:W.cell? a=some (.pointer (some p))):
  (ReflectliteValue.method (ReflectliteValue.valueError "reflectlite.Value.IsNil" 0) ReflectliteValue.isNil #[.agg #[.pointer (some ⟨1, 96, none⟩), .pointer (some a), .int .u64 150]]).run Tryz.prog W = .ok (.bool false) W := by
 rw[XM];simp only[Sem.run_bind,ZgS,Result.andThen];simp[ReflectliteValue.isNil,loadVar,isAgg,underlying,Tryz.underlying96,ha,Result.andThen]
theorem as_methodElem (h : Value) (w : World): (Go.method 388 190 (.agg #[h]) "Elem").run Tryz.prog w = .ok (200, .agg #[h]) w := by kernel_rfl
theorem as_methodImpl (h : Value) (w : World): (Go.method 388 190 (.agg #[h]) "Implements").run Tryz.prog w = .ok (201, .agg #[h]) w := by kernel_rfl
theorem as_methodAssign (h : Value) (w : World): (Go.method 388 190 (.agg #[h]) "AssignableTo").run Tryz.prog w = .ok (198, .agg #[h]) w := by kernel_rfl
theorem ZqE(w:World):(ReflectliteType.method ReflectliteType.elem #[.agg #[.pointer (some ⟨1,96,none⟩)]]).run Tryz.prog w=.ok (.iface 190 (.agg #[.pointer (some ⟨1,94,none⟩)])) w:=by kernel_rfl
theorem as_implS (w : World): (ReflectliteType.relation "Implements" ReflectliteType.implements_ #[.agg #[.pointer (some ⟨1, 94, none⟩)], .iface 190 (.agg #[.pointer (some ⟨1, 90, none⟩)])]).run Tryz.prog w = .ok (.bool true) w := by kernel_rfl
theorem ZkL(v:Value)(w:World):(ReflectliteType.typeOf #[.iface 94 v]).run Tryz.prog w=.ok (.iface 190 (.agg #[.pointer (some ⟨1,94,none⟩)])) w:=by kernel_rfl
theorem as_assignS (w : World): (ReflectliteType.relation "AssignableTo" ReflectliteType.assignableTo #[.agg #[.pointer (some ⟨1, 94, none⟩)], .iface 190 (.agg #[.pointer (some ⟨1, 94, none⟩)])]).run Tryz.prog w = .ok (.bool true) w := by kernel_rfl
theorem Zid(n:Int)(w:World):(ReflectliteValue.unpack (.iface 94 (.agg #[.int .i64 n]))).run Tryz.prog w
  = .ok (.agg #[.pointer (some ⟨1,94,none⟩),ae w.heap.size,.int .u64 153]) (w.alloc (.cells #[.int .i64 n] 94)):=by kernel_rfl
theorem ZkN(w:World):(Rtype.elem? 96).run Tryz.prog w=.ok (some 94) w:=by kernel_rfl
theorem Zuk(p:Addr)(w:World):(ReflectliteValue.mk 94 p ReflectliteValue.flagAddr).run Tryz.prog w=.ok (.agg #[.pointer (some ⟨1,94,none⟩),.pointer (some p),.int .u64 409]) w:=by kernel_rfl
theorem ZqD(a p:Addr)(W:World)(ha:W.cell? a=some (.pointer (some p))):
  (ReflectliteValue.method (ReflectliteValue.valueError "reflectlite.Value.Elem" 0) ReflectliteValue.elem #[.agg #[.pointer (some ⟨1, 96, none⟩), .pointer (some a), .int .u64 150]]).run Tryz.prog W
   = .ok (.agg #[.pointer (some ⟨1,94,none⟩),.pointer (some p),.int .u64 409]) W:=by
 rw[XM];simp only[Sem.run_bind,ZgS,Result.andThen];simp[ReflectliteValue.elem,loadVar,isAgg,underlying,Tryz.underlying96,ha,Result.andThen,ZkN,Zuk]
theorem Zui(v x:Value):ReflectliteValue.set #[v,x]=(do
  let (some (dst,a,fl),some (src,b,_)):=(<- ReflectliteValue.parts v,<- ReflectliteValue.parts x)
   | unsupported (.noEntry "extern/(internal/reflectlite.Value).Set.zeroValue")
  if fl / ReflectliteValue.flagAddr % 2 == 0 then unsupported (.noEntry "extern/(internal/reflectlite.Value).Set.unaddressable")
  let val <- loadVar src b
  if <- Rtype.directlyAssignable dst src then storeVar dst a val
  else if <- Rtype.implements dst src then
   if (<- Rtype.kind src) == 20 then
    match val with
    | .nilIface => unsupported (.noEntry "extern/reflectlite: a nil value of one interface type handed on as a value of another")
    | _=>storeVar dst a val
   else storeVar dst a (.iface src val)
  else panicString ("reflectlite.Set: value of type " ++ (← Rtype.spelt src) ++ " is not assignable to type " ++ (← Rtype.spelt dst))
  pure (.tuple #[])):=rfl
theorem ZkM(a:Addr)(w:World):(ReflectliteValue.parts (.agg #[.pointer (some ⟨1,94,none⟩),.pointer (some a),.int .u64 409])).run Tryz.prog w=.ok (some (94,a,409)) w:=by kernel_rfl
theorem ZnK(a:Addr)(w:World):(ReflectliteValue.parts (.agg #[.pointer (some ⟨1,94,none⟩),.pointer (some a),.int .u64 153])).run Tryz.prog w=.ok (some (94,a,153)) w:=by kernel_rfl
theorem ZkO(w:World):(Rtype.directlyAssignable 94 94).run Tryz.prog w=.ok true w:=by kernel_rfl
theorem ZsW(ta b:Nat)(n:Int)(old:Value)(W:World)(hb:W.cell? (ak b)=some (.int .i64 n))(ht:W.cell? (ak ta)=some old)(hf:W.frozen? (ak ta)=false):
  (ReflectliteValue.set #[.agg #[.pointer (some ⟨1,94,none⟩),ae ta,.int .u64 409],.agg #[.pointer (some ⟨1,94,none⟩),ae b,.int .u64 153]]).run Tryz.prog W
   = .ok (.tuple #[]) (W.setCell (ak ta) (.int .i64 n)):=by
 rw[Zui];simp only[Sem.run_bind,ZkM,ZnK,Result.andThen];have hsz:∀w:World,(sizeOf 94).run Tryz.prog w=.ok 1 w:=fun _=>by kernel_rfl
 have hlc:(loadCells (ak b) 1).run Tryz.prog W=.ok #[.int .i64 n] W:=run_loadCells_list _ _ [Value.int IntKind.i64 n] (by
  intro j v hj
  match j,hj with
  | 0,hj=>simp at hj;subst hj;simpa [Addr.add] using hb)
 simp[ReflectliteValue.flagAddr,loadVar,isAgg,underlying,Tryz.underlying94,Result.andThen,ZkO,storeVar,Value.cells,hsz,hlc,storeCells,Addr.add];rw[run_store Tryz.prog W (ak ta) _ _ (by rfl)];simp[ht,hf]
def Dq (t:Nat) (n:Int) (w:World):World:=((((w.alloc (.cells #[ae t] 96)).alloc (.cells #[.pointer (some ⟨1,96,none⟩),ae w.heap.size,.int .u64 150] 142)).alloc (.cells #[.pointer (some ⟨1,96,none⟩),ae w.heap.size,.int .u64 150] 142)).alloc (.cells #[.int .i64 n] 94)).setCell (ak t) (.int .i64 n)
theorem ZnM(t:Nat)(n:Int)(w:World):Za (·=t) w (Dq t n w):=(((((Za.refl (·=t) w).alloc _).alloc _).alloc _).alloc _).setCell (fun _=>rfl) _
theorem Zul(n:Int)(t:Nat)(old:Value)(w:World)(hg:w.cell? ⟨0,0,none⟩=some (.iface 190 (.agg #[.pointer (some ⟨1,90,none⟩)])))(ht0:w.cell? (ak t)=some old)(hf0:w.frozen? (ak t)=false):
  au 38 #[.iface 94 (.agg #[.int .i64 n]),.iface 96 ((ae t))] w fun ev w'=>ev=.returned (.bool true)/\w'=Dq t n w:=by
 unfold Dq;have h6 := @run_callFunc_extern Tryz.prog 62 _ (fun args=>ReflectliteValue.unpack (args.getD 0 (.tuple #[]))) Tryz.func62 (by kernel_rfl) (by kernel_rfl) (by kernel_rfl) (by kernel_rfl)
 have h7 := @run_callFunc_extern Tryz.prog 63 _ (ReflectliteValue.methodAny (ReflectliteValue.valueError "reflectlite.Value.Type" 0) (fun t _ _ _ => ReflectliteType.toType t)) Tryz.func63 (by kernel_rfl) (by kernel_rfl) (by kernel_rfl) (by kernel_rfl)
 have h8 := @run_callFunc_extern Tryz.prog 64 _ (ReflectliteValue.method (ReflectliteValue.valueError "reflectlite.Value.IsNil" 0) ReflectliteValue.isNil) Tryz.func64 (by kernel_rfl) (by kernel_rfl) (by kernel_rfl) (by kernel_rfl)
 have h27 := @run_callFunc_extern Tryz.prog 175 _ (ReflectliteType.abiMethod fun t=>do pure (.int .u8 (<- Rtype.kind t))) Tryz.func175 (by kernel_rfl) (by kernel_rfl) (by kernel_rfl) (by kernel_rfl);have h37 := @run_callFunc_extern Tryz.prog 200 _ (ReflectliteType.method ReflectliteType.elem) Tryz.func200 (by kernel_rfl) (by kernel_rfl) (by kernel_rfl) (by kernel_rfl)
 have h38 := @run_callFunc_extern Tryz.prog 201 _ (ReflectliteType.relation "Implements" ReflectliteType.implements_) Tryz.func201 (by kernel_rfl) (by kernel_rfl) (by kernel_rfl) (by kernel_rfl)
 have h10 := @run_callFunc_extern Tryz.prog 87 _ ReflectliteType.typeOf Tryz.func87 (by kernel_rfl) (by kernel_rfl) (by kernel_rfl) (by kernel_rfl)
 have h35 := @run_callFunc_extern Tryz.prog 198 _ (ReflectliteType.relation "AssignableTo" ReflectliteType.assignableTo) Tryz.func198 (by kernel_rfl) (by kernel_rfl) (by kernel_rfl) (by kernel_rfl)
 have h11 := @run_callFunc_extern Tryz.prog 88 _ (ReflectliteValue.method (ReflectliteValue.valueError "reflectlite.Value.Elem" 0) ReflectliteValue.elem) Tryz.func88 (by kernel_rfl) (by kernel_rfl) (by kernel_rfl) (by kernel_rfl)
 have h12 := @run_callFunc_extern Tryz.prog 89 _ ReflectliteValue.set Tryz.func89 (by kernel_rfl) (by kernel_rfl) (by kernel_rfl) (by kernel_rfl);have tO:=ZkL;have mA:=as_methodAssign;have a25:=as_assignS;have v25:=Zid;have f6:=Zie;have f7:=as_typeP;have mK:=as_methodKind;have mE:=as_methodElem;have mI:=as_methodImpl;have k27:=ZqB;have k25:=ZqA;have e27:=ZqE;have i25:=as_implS;have n8:=ZnL (ak w.heap.size) (ak t) ((w.alloc (.cells #[ae t] 96)).alloc (.cells #[.pointer (some ⟨1,96,none⟩),ae w.heap.size,.int .u64 150] 142)) (by simp);have hlt:0<w.heap.size:=by
  rcases Nat.eq_zero_or_pos w.heap.size with h0 | h
  ·simp[World.cell?,h0] at hg
  ·exact h
 have hg2:((w.alloc (.cells #[ae t] 96)).alloc (.cells #[.pointer (some ⟨1,96,none⟩),ae w.heap.size,.int .u64 150] 142)).cell? ⟨0,0,none⟩=some (.iface 190 (.agg #[.pointer (some ⟨1,90,none⟩)])):=by
  rw[World.cell?_alloc_lt _ _ ⟨0,0,none⟩ (by simp),World.cell?_alloc_lt _ _ ⟨0,0,none⟩ hlt];exact hg
 have htl:t<w.heap.size:=by
  rcases Nat.lt_or_ge t w.heap.size with h | h
  ·exact h
  ·simp[World.cell?,Array.getElem?_eq_none h] at ht0
 have el:=ZqD (ak w.heap.size) (ak t) (((w.alloc (.cells #[ae t] 96)).alloc (.cells #[.pointer (some ⟨1,96,none⟩),ae w.heap.size,.int .u64 150] 142)).alloc (.cells #[.pointer (some ⟨1,96,none⟩),ae w.heap.size,.int .u64 150] 142)) (by rw[World.cell?_alloc_lt _ _ (ak w.heap.size) (by simp;omega)];simp);have st:=ZsW t (w.heap.size+1+1+1) n old ((((w.alloc (.cells #[ae t] 96)).alloc (.cells #[.pointer (some ⟨1,96,none⟩),ae w.heap.size,.int .u64 150] 142)).alloc (.cells #[.pointer (some ⟨1,96,none⟩),ae w.heap.size,.int .u64 150] 142)).alloc (.cells #[.int .i64 n] 94))
  (by rw[World.cell?_alloc_at _ _ _ _ (by simp)];rfl)
  (by rw[World.cell?_alloc_lt _ _ (ak t) (by simp;omega),World.cell?_alloc_lt _ _ (ak t) (by simp;omega),World.cell?_alloc_lt _ _ (ak t) (by simp;omega),World.cell?_alloc_lt _ _ (ak t) htl];exact ht0)
  (by rw[World.frozen?_alloc_old _ _ (ak t) (by simp;omega),World.frozen?_alloc_old _ _ (ak t) (by simp;omega),World.frozen?_alloc_old _ _ (ak t) (by simp;omega),World.frozen?_alloc_old _ _ (ak t) (Nat.ne_of_lt htl)];exact hf0)
 go_enter Tryz.func38,Tryz.ntmps38;go_wp2;refine wp_loop_rounds 1 ?_;rw[rounds_succ];go_wp2;go_ret;exact⟨rfl,rfl⟩
open Go.RowKit
def wH:Except Nat (List Bt)->Bool
 | .ok _=>true
 | .error _=>false
def Cv:Except Nat (List Bt)->Int
 | .ok _=>0
 | .error x=>x
def tL:Except Nat (List Bt)->List Bt
 | .ok L=>L
 | .error _ => []
theorem Sv(s:ByteArray):ib 100 (tL (ZF s)):=by
 cases h:ZF s with
 | error x=>exact⟨by simp[tL],by simp[tL]⟩
 | ok L=>exact ZjD h
def lZ (w:World):Prop:=w.cell? ⟨0,0,none⟩=some (.iface 190 (.agg #[.pointer (some ⟨1,90,none⟩)]))
theorem lZ.lt(h:lZ w):0<w.heap.size:=by
 unfold lZ at h
 rcases Nat.eq_zero_or_pos w.heap.size with h0 | h1
 ·simp[World.cell?,h0] at h
 ·exact h1
theorem lZ.keeps{E:Nat->Prop}(h:lZ w)(k:Za E w w')(hE:¬E 0):lZ w':=by
 have hl:=h.lt;unfold lZ at h ⊢;rw[<- h];simp only[World.cell?,k.block 0 hl hE]
def DZ (s:ByteArray) (w:World) (e:Ending) (w':World):Prop :=∃v,e=.returned (.agg #[.bool (wH (ZF s)),.int .i64 (Cv (ZF s)),v])/\BR w' w.heap.size v (tL (ZF s))/\Za ai w w'
theorem Uz(s:ByteArray)(w:World)(Ae:s.size<=1048576)(hh:lZ w):au 19 #[.string s] w (DZ s w):=by
 go_enter Tryz.func19,Tryz.ntmps19;go_upto_region 1 with fail;have kA:Za ai w (w.alloc (.cells #[.bool false,.int .i64 0,.slice none 0 0] 56)):=(Za.refl _ w).alloc _;have hP:Bk (w.alloc (.cells #[.bool false,.int .i64 0,.slice none 0 0] 56)) w.heap.size 56 [.bool false,.int .i64 0,.slice none 0 0]:=QC w _ _;have hw:=hh.lt;have oP:=hh.keeps kA id;generalize w.alloc (.cells #[.bool false,.int .i64 0,.slice none 0 0] 56)=w1 at kA hP oP ⊢;generalize lH:w.heap.size=P at hP hw ⊢;have HP:Hid (w.heap.size=P):=lH;clear lH hh;have hcall:=Zge s w1 Ae;unfold D5 at hcall
 cases hr:ZF s with
 | error x =>
   have HR:Hid (ZF s=.error x):=hr;rw[hr] at hcall;simp only at hcall;clear hr;go_upto_region 3 with(first|(go_at_call 37;refine hcall.mono ?_;rintro e w2 ⟨hk2,rfl⟩))
   have kB:Za ai w1 (w2.alloc (.cells #[.int .i64 0] 94)):=hk2.alloc _;have hM:Bk (w2.alloc (.cells #[.int .i64 0] 94)) w2.heap.size 94 [.int .i64 0]:=QC w2 _ _;have hP2:=hP.keeps kB id;have CR:=oP.keeps kB id;have hne:w2.heap.size≠P:=by have:=hP.lt;have:=hk2.size;omega
   have hMw:w1.heap.size<=w2.heap.size:=hk2.size;clear hP oP hk2 hcall;generalize w2.alloc (.cells #[.int .i64 0] 94)=w3 at kB hM hP2 CR ⊢;generalize w2.heap.size=M at hM hne hMw ⊢;have m0:w3.cell? (ak M)=some (.int .i64 0):=by rw[hM.cell];rfl
   have mf:=hM.fz 0;have hk4:=ZnM M (x:Int) w3;have xD:(Dq M (x:Int) w3).cell? (ak M)=some (.int .i64 (x:Int)):=by
    unfold Dq;exact World.cell?_setCell_same' _ _ _ (by
     have h1:((((w3.alloc (.cells #[ae M] 96)).alloc (.cells #[.pointer (some ⟨1,96,none⟩),ae w3.heap.size,.int .u64 150] 142)).alloc (.cells #[.pointer (some ⟨1,96,none⟩),ae w3.heap.size,.int .u64 150] 142)).alloc (.cells #[.int .i64 (x:Int)] 94)).cell? (ak M)=some (.int .i64 0):=by
      rw[(hM.keeps ((((((Za.refl ai w3).alloc _).alloc _).alloc _).alloc _)) id).cell];rfl
     rw[h1];rfl)
   have dS:=hP2.keeps hk4 (fun h=>hne h.symm);have hcall:=Zul (x:Int) M (.int .i64 0) w3 CR m0 mf;generalize Dq M (x:Int) w3=w4 at hk4 xD dS hcall;have d0:w4.cell? (ak P)=some (.bool false):=by rw[dS.cell];rfl
   have d1:w4.cell? ⟨P,1,none⟩=some (.int .i64 0):=by rw[dS.cell];rfl
   have d2:w4.cell? ⟨P,2,none⟩=some (.slice none 0 0):=by rw[dS.cell];rfl
   have f0:=dS.fz 0;have f1:=dS.fz 1;have f2:=dS.fz 2;have dY:=((dS.set 0 (.bool false)).set 1 (.int .i64 (x:Int))).set 2 (.slice none 0 0);have g0:=dY.cell 0;have g1:=dY.cell 1;have g2:=dY.cell 2;simp only[List.set,List.getElem?_cons_zero,List.getElem?_cons_succ] at g0 g1 g2;have hK:Za ai w (((w4.setCell (ak P) (.bool false)).setCell ⟨P,1,none⟩ (.int .i64 (x:Int))).setCell ⟨P,2,none⟩ (.slice none 0 0)) :=
    ((((kA.trans kB).trans' hk4 (fun i hi h=>by have:=kA.size;omega)).setCell (fun h=>by have:=HP.out;simp at h;omega) _).setCell (fun h=>by have:=HP.out;simp at h;omega) _).setCell (fun h=>by have:=HP.out;simp at h;omega) _
   clear hP2 hM hk4 dS dY CR m0 mf kA kB;go_wp2_with(first|(go_at_call 38;refine hcall.mono ?_;rintro e w5 ⟨rfl,hw5⟩;subst w5))
   refine bodyPost_ret (v:=.agg #[.bool false,.int .i64 (x:Int),.slice none 0 0]) (by simp[results,Tryz.results19,go_sem,g0,g1,g2]) rfl ?_;refine⟨_,by rw[HR.out];rfl,?_,hK⟩;rw[HR.out];exact World.ownsRow_nil _ _ _ _
 | ok L =>
   have HR:Hid (ZF s=.ok L):=hr;rw[hr] at hcall;simp only at hcall;clear hr;go_upto_region 3 with(first|(go_at_call 37;refine hcall.mono ?_;rintro e w2 ⟨hk2,v,rfl,hB⟩;obtain⟨av,cv,hv⟩:=aj hB;subst hv))
   have kB:Za ai w1 (w2.alloc (.cells #[.int .i64 0] 94)):=hk2.alloc _;have hP2:=hP.keeps kB id;have hB2:=Zb hB ((Za.refl ai w2).alloc (.cells #[.int .i64 0] 94)) (fun _ _ h=>h);clear hP oP hk2 hcall hB;generalize w2.alloc (.cells #[.int .i64 0] 94)=w3 at kB hP2 hB2 ⊢;generalize w2.heap.size=M at ⊢;have WQ:∀k,(Value.slice av L.length cv).ownBlock=some k->k≠P:=by
    rintro k hk rfl;obtain⟨c2,h2⟩:=Im hB2 hk
    have:=hP2
    unfold Bk at this;rw[this] at h2;simp at h2
   have d0:w3.cell? (ak P)=some (.bool false):=by rw[hP2.cell];rfl
   have d1:w3.cell? ⟨P,1,none⟩=some (.int .i64 0):=by rw[hP2.cell];rfl
   have d2:w3.cell? ⟨P,2,none⟩=some (.slice none 0 0):=by rw[hP2.cell];rfl
   have f0:=hP2.fz 0;have f1:=hP2.fz 1;have f2:=hP2.fz 2;have dY:=((hP2.set 0 (.bool true)).set 1 (.int .i64 0)).set 2 (.slice av L.length cv);have g0:=dY.cell 0;have g1:=dY.cell 1;have g2:=dY.cell 2;simp only[List.set,List.getElem?_cons_zero,List.getElem?_cons_succ] at g0 g1 g2;have hK:Za ai w (((w3.setCell (ak P) (.bool true)).setCell ⟨P,1,none⟩ (.int .i64 0)).setCell ⟨P,2,none⟩ (.slice av L.length cv)) :=
    (((kA.trans kB).setCell (fun h=>by have:=HP.out;simp at h;omega) _).setCell (fun h=>by have:=HP.out;simp at h;omega) _).setCell (fun h=>by have:=HP.out;simp at h;omega) _
   have fE:=Zb hB2 ((((Za.refl (·=P) w3).setCell (a:=(ak P)) (fun _=>rfl) (.bool true)).setCell (a:=⟨P,1,none⟩) (fun _=>rfl) (.int .i64 0)).setCell (a:=⟨P,2,none⟩) (fun _=>rfl) (.slice av L.length cv)) WQ;have hPw:=kA.size;clear hP2 dY kA kB hB2 WQ;go_wp2_with(first|(go_at_call 38;refine(Zuj _ _).mono ?_;rintro e w5 ⟨rfl,hw5⟩;subst w5))
   refine bodyPost_ret (v:=.agg #[.bool true,.int .i64 0,.slice av L.length cv]) (by simp[results,Tryz.results19,go_sem,g0,g1,g2]) rfl ?_;refine⟨_,by rw[HR.out];rfl,?_,hK⟩;rw[HR.out];exact Zp fE (fun k hk=>Nat.le_trans hPw (fE.lt k hk).1)
end Go.Proofs.YtfkflljplohhcaaGreatDoor
