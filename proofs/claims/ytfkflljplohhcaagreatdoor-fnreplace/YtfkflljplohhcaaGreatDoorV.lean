import Derived.Test.YtfkflljplohhcaaGreatDoorT
set_option linter.unusedVariables false
set_option maxHeartbeats 1000000
set_option maxRecDepth 100000
namespace Go.Proofs.YtfkflljplohhcaaGreatDoor
open Go.RowKit
theorem Tryz.sW:(Tryz.prog.info? 85).map (fun i=>(i.zero,i.size,i.bytes))=some (some .nilIface,1,16):=by kernel_rfl
structure ZvF (w:World) (D:Nat->Prop) (P:Value->Pf->Prop):Prop where
 set:∀(S:Bs) (f:Nat->Nat),Bv S f->P (.iface 172 (.agg #[.int .u64 (f 0),.int .u64 (f 1),.int .u64 (f 2),.int .u64 (f 3)])) (Qy S)
 start:P (.iface 185 (.agg #[])) QQ
 fin:P (.iface 187 (.agg #[])) oh
 seq:∀(v:Value) (vs:List Value) (fs:List Pf),w.ownsRow 0 85 1 v vs.length vs->(∀k,v.ownBlock=some k->D k)->fs.length=vs.length->vs.length<=1000->(∀(i:Nat) (x:Value) (f:Pf),vs[i]?=some x->fs[i]?=some f->P x f)->P (.iface 175 (.agg #[v])) (QV fs)
 alt:∀(v:Value) (vs:List Value) (fs:List Pf),w.ownsRow 0 85 1 v vs.length vs->(∀k,v.ownBlock=some k->D k)->fs.length=vs.length->vs.length<=1000->(∀(i:Nat) (x:Value) (f:Pf),vs[i]?=some x->fs[i]?=some f->P x f)->P (.iface 165 (.agg #[v])) (JQ fs)
 rep:∀(a:Value) (f:Pf) (lo hi:Int) (lz:Bool),P a f->P (.iface 179 (.agg #[.int .i64 lo,.int .i64 hi,.bool lz,a])) (Z5 lo hi lz f)
 iZ:∀(a:Value) (f:Pf) (num:Int),P a f->P (.iface 182 (.agg #[.int .i64 num,a])) (JN num f)
def Nd (w:World) (D:Nat->Prop) (v:Value) (f:Pf):Prop :=∀P:Value->Pf->Prop,ZvF w D P->P v f
namespace Nd
variable {w w':World}{D D':Nat->Prop}
variable {S:Bs}
theorem set{f:Nat->Nat}(h:Bv S f):Nd w D (.iface 172 (.agg #[.int .u64 (f 0),.int .u64 (f 1),.int .u64 (f 2),.int .u64 (f 3)])) (Qy S):=fun P c=>c.set S f h
theorem start:Nd w D (.iface 185 (.agg #[])) QQ:=fun P c=>c.start
theorem fin:Nd w D (.iface 187 (.agg #[])) oh:=fun P c=>c.fin
variable {v a:Value}{vs:List Value}{fs:List Pf}{R B x g p:Nat}{s:ByteArray}{d:Int}
theorem seq(ho:w.ownsRow 0 85 1 v vs.length vs)(hD:∀k,v.ownBlock=some k->D k)(hl:fs.length=vs.length)(hn:vs.length<=1000)(hk:∀(i:Nat) (x:Value) (f:Pf),vs[i]?=some x->fs[i]?=some f->Nd w D x f):Nd w D (.iface 175 (.agg #[v])) (QV fs) :=
 fun P c=>c.seq v vs fs ho hD hl hn (fun i x f hx hf=>hk i x f hx hf P c)
theorem alt(ho:w.ownsRow 0 85 1 v vs.length vs)(hD:∀k,v.ownBlock=some k->D k)(hl:fs.length=vs.length)(hn:vs.length<=1000)(hk:∀(i:Nat) (x:Value) (f:Pf),vs[i]?=some x->fs[i]?=some f->Nd w D x f):Nd w D (.iface 165 (.agg #[v])) (JQ fs) :=
 fun P c=>c.alt v vs fs ho hD hl hn (fun i x f hx hf=>hk i x f hx hf P c)
variable {f:Pf}
theorem rep(lo hi:Int)(lz:Bool)(h:Nd w D a f):Nd w D (.iface 179 (.agg #[.int .i64 lo,.int .i64 hi,.bool lz,a])) (Z5 lo hi lz f):=fun P c=>c.rep a f lo hi lz (h P c)
theorem iZ{a:Value}{f:Pf}(num:Int)(h:Nd w D a f):Nd w D (.iface 182 (.agg #[.int .i64 num,a])) (JN num f):=fun P c=>c.iZ a f num (h P c)
theorem ind{M:Value->Pf->Prop}(h:Nd w D v f)
  (NQ:∀(S:Bs) (f:Nat->Nat),Bv S f->M (.iface 172 (.agg #[.int .u64 (f 0),.int .u64 (f 1),.int .u64 (f 2),.int .u64 (f 3)])) (Qy S)) (mstart:M (.iface 185 (.agg #[])) QQ) (NV:M (.iface 187 (.agg #[])) oh)
  (NR:∀(v:Value) (vs:List Value) (fs:List Pf),w.ownsRow 0 85 1 v vs.length vs->(∀k,v.ownBlock=some k->D k)->fs.length=vs.length->vs.length<=1000->(∀(i:Nat) (x:Value) (f:Pf),vs[i]?=some x->fs[i]?=some f->M x f)->M (.iface 175 (.agg #[v])) (QV fs))
  (NW:∀(v:Value) (vs:List Value) (fs:List Pf),w.ownsRow 0 85 1 v vs.length vs->(∀k,v.ownBlock=some k->D k)->fs.length=vs.length->vs.length<=1000->(∀(i:Nat) (x:Value) (f:Pf),vs[i]?=some x->fs[i]?=some f->M x f)->M (.iface 165 (.agg #[v])) (JQ fs))
  (NS:∀(a:Value) (f:Pf) (lo hi:Int) (lz:Bool),Nd w D a f->M a f->M (.iface 179 (.agg #[.int .i64 lo,.int .i64 hi,.bool lz,a])) (Z5 lo hi lz f))
  (NU:∀(a:Value) (f:Pf) (num:Int),Nd w D a f->M a f->M (.iface 182 (.agg #[.int .i64 num,a])) (JN num f)):M v f :=
 (h (fun v f=>Nd w D v f/\M v f)
  ⟨fun S f h=>⟨set h,NQ S f h⟩,⟨start,mstart⟩,⟨fin,NV⟩,
   fun v vs fs ho hD hl hn hk=>⟨seq ho hD hl hn (fun i x f hx hf=>(hk i x f hx hf).1),NR v vs fs ho hD hl hn (fun i x f hx hf=>(hk i x f hx hf).2)⟩,
   fun v vs fs ho hD hl hn hk=>⟨alt ho hD hl hn (fun i x f hx hf=>(hk i x f hx hf).1),NW v vs fs ho hD hl hn (fun i x f hx hf=>(hk i x f hx hf).2)⟩,
   fun a f lo hi lz h=>⟨rep lo hi lz h.1,NS a f lo hi lz h.1 h.2⟩,fun a f num h=>⟨iZ num h.1,NU a f num h.1 h.2⟩⟩).2
variable {v:Value}{f:Pf}
theorem mono(h:Nd w D v f)(hD':∀k,D k->k<w.heap.size->D' k):Nd w D' v f :=
 h.ind (M:=fun v f=>Nd w D' v f) (fun S f h => .set h) .start .fin
  (fun v vs fs ho hD hl hn ih => .seq ho (fun k hk'=>hD' k (hD k hk') (ho.lt k hk').2) hl hn ih)
  (fun v vs fs ho hD hl hn ih => .alt ho (fun k hk'=>hD' k (hD k hk') (ho.lt k hk').2) hl hn ih)
  (fun a f lo hi lz _ ih => .rep lo hi lz ih) (fun a f num _ ih => .iZ num ih)
theorem keeps{E:Nat->Prop}(h:Nd w D v f)(k:Za E w w')(hE:∀i,D i->i<w.heap.size->¬E i):Nd w' D v f :=
 h.ind (M:=fun v f=>Nd w' D v f) (fun S f h => .set h) .start .fin
  (fun v vs fs ho hD hl hn ih => .seq (Zb ho k (fun i hi=>hE i (hD i hi) (ho.lt i hi).2)) hD hl hn ih)
  (fun v vs fs ho hD hl hn ih => .alt (Zb ho k (fun i hi=>hE i (hD i hi) (ho.lt i hi).2)) hD hl hn ih)
  (fun a f lo hi lz _ ih => .rep lo hi lz ih) (fun a f num _ ih => .iZ num ih)
theorem iface(h:Nd w D v f):∃t x,v=.iface t x :=
 h.ind (M:=fun v f =>∃t x,v=.iface t x) (fun S f h=>⟨_,_,rfl⟩) ⟨_,_,rfl⟩ ⟨_,_,rfl⟩ (fun v vs fs _ _ _ _ _=>⟨_,_,rfl⟩) (fun v vs fs _ _ _ _ _=>⟨_,_,rfl⟩)
  (fun a f lo hi lz _ _=>⟨_,_,rfl⟩) (fun a f num _ _=>⟨_,_,rfl⟩)
end Nd
def Z9 (R B:Nat) (s:ByteArray) (d:Int) (r:aS) (w:World) (e:Ending) (w':World):Prop :=
 match r with
 | .error x=>Z0 R x w e w'
 | .ok (f,q,g) =>∃v,e=.returned v/\Nd w' (fun k=>B<=k) v f/\Rc w' R s q g d/\Za (·=R) w w'
variable {R B x g p:Nat}{s:ByteArray}{d:Int}{r:aS}{w w':World}{v a:Value}{vs:List Value}
theorem ZE{e:Ending}(hr:r=.error x)(h:Z0 R x w e w'):Z9 R B s d r w e w':=by
 subst hr;exact h
variable {f:Pf}
theorem ZQ{q:Nat}(hr:r=.ok (f,q,g))(hN:Nd w' (fun k=>B<=k) v f)(hR:Rc w' R s q g d)(hK:Za (·=R) w w'):Z9 R B s d r w (.returned v) w':=by
 subst hr;exact⟨v,rfl,hN,hR,hK⟩
def Hu (s:ByteArray) (alt:Nat->Nat->aS) (d:Int):Prop :=
 ∀ (w:World) (R p g B:Nat),Rc w R s p g d->R<B->B<=w.heap.size->p<=s.size->g<=9->
   au 53 #[ae R] w (Z9 R B s d (alt p g) w)
def XI (s:ByteArray) (alt:Nat->Nat->aS) (room:Bool) (d:Int):Prop :=
 ∀ (w:World) (R p g B:Nat),Rc w R s p g d->R<B->B<=w.heap.size->p<s.size->g<=9->bt s p≠124->bt s p≠41->
   au 97 #[ae R] w (Z9 R B s d (Zd alt room s p g) w)
variable {S:Bs}
theorem Zmz{x:Nat}(h:Rc w R s p g d)(hs:s.size<=120)(hp:p<s.size)(hb:bt s p=91){q:Nat}(he:Zq s (p+1)=.ok (S,q))(hr:r=.ok (Qy S,q,g)):
  au 97 #[ae R] w (Z9 R B s d r w):=by
 have HB:Hid (((bt s p:Nat):Int)=91):=(by show _ = _;omega);have c1:=h.c1;clear hb;have HE:Hid (Zq s (p+1)=.ok (S,q)):=he;have HR:Hid (r=.ok (Qy S,q,g)):=hr;clear he hr;go_enter Tryz.func97,Tryz.ntmps97;go_wp2_with(first|(go_at_call 85;refine(ZH h hs hp).mono ?_;clear h;rintro e w2 ⟨rfl,hR,hK⟩;rw[HB.out])|(go_at_call 134;refine(Yz hR hs hp).mono ?_;rw[HE.out];clear hR;rintro e w3 ⟨f,hf,rfl,hR,hk⟩;replace hK:=hK.trans hk))
 go_ret;exact ZQ HR.out (.set hf) hR hK
theorem Zfl(h:Rc w R s p g d)(hs:s.size<=120)(hp:p<s.size)(hb:bt s p=91)(he:Zq s (p+1)=.error x)(hr:r=.error x):
  au 97 #[ae R] w (Z9 R B s d r w):=by
 have HB:Hid (((bt s p:Nat):Int)=91):=(by show _ = _;omega);have c1:=h.c1;clear hb;have HE:Hid (Zq s (p+1)=.error x):=he;have HR:Hid (r=.error x):=hr;clear he hr;go_enter Tryz.func97,Tryz.ntmps97;go_wp2_with(first|(go_at_call 85;refine(ZH h hs hp).mono ?_;clear h;rintro e w2 ⟨rfl,hR,hK⟩;rw[HB.out])|(go_at_call 134;refine(Yz hR hs hp).mono ?_;rw[HE.out];rintro e w3 ⟨rfl,hk⟩))
 exact⟨rfl,ZE HR.out ⟨rfl,hK.trans hk⟩⟩
theorem ZmC{x:Nat}(h:Rc w R s p g d)(hs:s.size<=120)(hp:p<s.size)(hb:bt s p=92){o:Option Nat}{q:Nat}(he:Zt s (p+1)=.ok (S,o,q))(hr:r=.ok (Qy S,q,g)):
  au 97 #[ae R] w (Z9 R B s d r w):=by
 have HB:Hid (((bt s p:Nat):Int)=92):=(by show _ = _;omega);have c1:=h.c1;clear hb;have HE:Hid (Zt s (p+1)=.ok (S,o,q)):=he;have HR:Hid (r=.ok (Qy S,q,g)):=hr;clear he hr;go_enter Tryz.func97,Tryz.ntmps97;go_wp2_with(first|(go_at_call 85;refine(ZH h hs hp).mono ?_;clear h;rintro e w2 ⟨rfl,hR,hK⟩;rw[HB.out])|(go_at_call 137;refine(MU hR hs hp).mono ?_;rw[HE.out];clear hR;rintro e w3 ⟨f,hf,rfl,hR,hk⟩;replace hK:=hK.trans hk))
 go_ret;exact ZQ HR.out (.set hf) hR hK
theorem Zfm(h:Rc w R s p g d)(hs:s.size<=120)(hp:p<s.size)(hb:bt s p=92)(he:Zt s (p+1)=.error x)(hr:r=.error x):
  au 97 #[ae R] w (Z9 R B s d r w):=by
 have HB:Hid (((bt s p:Nat):Int)=92):=(by show _ = _;omega);have c1:=h.c1;clear hb;have HE:Hid (Zt s (p+1)=.error x):=he;have HR:Hid (r=.error x):=hr;clear he hr;go_enter Tryz.func97,Tryz.ntmps97;go_wp2_with(first|(go_at_call 85;refine(ZH h hs hp).mono ?_;clear h;rintro e w2 ⟨rfl,hR,hK⟩;rw[HB.out])|(go_at_call 137;refine(MU hR hs hp).mono ?_;rw[HE.out];rintro e w3 ⟨rfl,hk⟩))
 exact⟨rfl,ZE HR.out ⟨rfl,hK.trans hk⟩⟩
theorem ZmE{x:Nat}(h:Rc w R s p g d)(hs:s.size<=120)(hp:p<s.size)(hb:bt s p=46)(hr:r=.ok (Qy dot,p+1,g)):
  au 97 #[ae R] w (Z9 R B s d r w):=by
 have HB:Hid (((bt s p:Nat):Int)=46):=(by show _ = _;omega);have c1:=h.c1;clear hb;have HR:Hid (r=.ok (Qy dot,p+1,g)):=hr;clear hr;go_enter Tryz.func97,Tryz.ntmps97;go_wp2_with(first|(go_at_call 85;refine(ZH h hs hp).mono ?_;clear h;rintro e w2 ⟨rfl,hR,hK⟩;rw[HB.out])|(go_at_call 135;refine(BV _ (by omega) (by omega)).mono ?_;rintro e w3 ⟨f,hf,rfl,hk⟩;replace hR:=hR.keeps hk id;replace hK:=hK.trans hk.none;clear hk)|(go_at_call 136;refine(Zgl hf).mono ?_;rintro e w4 ⟨f2,hf2,rfl,hk⟩;replace hR:=hR.keeps hk id;replace hK:=hK.trans hk.none;clear hk))
 go_ret;exact ZQ HR.out (.set (BS hf2 (T:=dot) (fun x _=>rfl))) hR hK
theorem ZhH{x:Nat}(h:Rc w R s p g d)(hs:s.size<=120)(hp:p<s.size)(hb:bt s p=94)(hr:r=.ok (QQ,p+1,g)):
  au 97 #[ae R] w (Z9 R B s d r w):=by
 have HB:Hid (((bt s p:Nat):Int)=94):=(by show _ = _;omega);have c1:=h.c1;clear hb;have HR:Hid (r=.ok (QQ,p+1,g)):=hr;clear hr;go_enter Tryz.func97,Tryz.ntmps97;go_wp2_with(first|(go_at_call 85;refine(ZH h hs hp).mono ?_;clear h;rintro e w2 ⟨rfl,hR,hK⟩;rw[HB.out]))
 go_ret;exact ZQ HR.out .start hR hK
theorem ZmD{x:Nat}(h:Rc w R s p g d)(hs:s.size<=120)(hp:p<s.size)(hb:bt s p=36)(hr:r=.ok (oh,p+1,g)):
  au 97 #[ae R] w (Z9 R B s d r w):=by
 have HB:Hid (((bt s p:Nat):Int)=36):=(by show _ = _;omega);have c1:=h.c1;clear hb;have HR:Hid (r=.ok (oh,p+1,g)):=hr;clear hr;go_enter Tryz.func97,Tryz.ntmps97;go_wp2_with(first|(go_at_call 85;refine(ZH h hs hp).mono ?_;clear h;rintro e w2 ⟨rfl,hR,hK⟩;rw[HB.out]))
 go_ret;exact ZQ HR.out .fin hR hK
theorem ZmF{x:Nat}(h:Rc w R s p g d)(hs:s.size<=120)(hp:p<s.size)(hb:bt s p=42\/bt s p=43\/bt s p=63\/bt s p=123\/bt s p=125\/bt s p=93)(hr:r=.error p):
  au 97 #[ae R] w (Z9 R B s d r w):=by
 have HR:Hid (r=.error p):=hr;have c1:=h.c1;clear hr
 rcases hb with hb | hb | hb | hb | hb | hb
 ·have HB:Hid (((bt s p:Nat):Int)=42):=(by show _ = _;omega);clear hb;go_enter Tryz.func97,Tryz.ntmps97;go_wp2_with(first|(go_at_call 85;refine(ZH h hs hp).mono ?_;clear h;rintro e w2 ⟨rfl,hR,hK⟩;rw[HB.out]))
  exact⟨rfl,ZE HR.out ⟨rfl,hK⟩⟩
 ·have HB:Hid (((bt s p:Nat):Int)=43):=(by show _ = _;omega);clear hb;go_enter Tryz.func97,Tryz.ntmps97;go_wp2_with(first|(go_at_call 85;refine(ZH h hs hp).mono ?_;clear h;rintro e w2 ⟨rfl,hR,hK⟩;rw[HB.out]))
  exact⟨rfl,ZE HR.out ⟨rfl,hK⟩⟩
 ·have HB:Hid (((bt s p:Nat):Int)=63):=(by show _ = _;omega);clear hb;go_enter Tryz.func97,Tryz.ntmps97;go_wp2_with(first|(go_at_call 85;refine(ZH h hs hp).mono ?_;clear h;rintro e w2 ⟨rfl,hR,hK⟩;rw[HB.out]))
  exact⟨rfl,ZE HR.out ⟨rfl,hK⟩⟩
 ·have HB:Hid (((bt s p:Nat):Int)=123):=(by show _ = _;omega);clear hb;go_enter Tryz.func97,Tryz.ntmps97;go_wp2_with(first|(go_at_call 85;refine(ZH h hs hp).mono ?_;clear h;rintro e w2 ⟨rfl,hR,hK⟩;rw[HB.out]))
  exact⟨rfl,ZE HR.out ⟨rfl,hK⟩⟩
 ·have HB:Hid (((bt s p:Nat):Int)=125):=(by show _ = _;omega);clear hb;go_enter Tryz.func97,Tryz.ntmps97;go_wp2_with(first|(go_at_call 85;refine(ZH h hs hp).mono ?_;clear h;rintro e w2 ⟨rfl,hR,hK⟩;rw[HB.out]))
  exact⟨rfl,ZE HR.out ⟨rfl,hK⟩⟩
 ·have HB:Hid (((bt s p:Nat):Int)=93):=(by show _ = _;omega);clear hb;go_enter Tryz.func97,Tryz.ntmps97;go_wp2_with(first|(go_at_call 85;refine(ZH h hs hp).mono ?_;clear h;rintro e w2 ⟨rfl,hR,hK⟩;rw[HB.out]))
  exact⟨rfl,ZE HR.out ⟨rfl,hK⟩⟩
theorem ZmA{x:Nat}(h:Rc w R s p g d)(hs:s.size<=120)(hp:p<s.size){b:Nat}(hb:bt s p=b)(hlt:b<256)(n40:b≠40)(n91:b≠91)(n46:b≠46)(n94:b≠94)(n36:b≠36)(n92:b≠92)(n41:b≠41)(n93:b≠93)(n123:b≠123)(n125:b≠125)(n42:b≠42)(n43:b≠43)(n63:b≠63)(n124:b≠124)(hr:r=.ok (Qy (one b),p+1,g)):
  au 97 #[ae R] w (Z9 R B s d r w):=by
 have HR:Hid (r=.ok (Qy (one b),p+1,g)):=hr;have HB:Hid (bt s p=b):=hb;have c1:=h.c1;have z40:((b:Int) == 40)=false:=by simp;omega
 have z91:((b:Int) == 91)=false:=by simp;omega
 have z46:((b:Int) == 46)=false:=by simp;omega
 have z94:((b:Int) == 94)=false:=by simp;omega
 have z36:((b:Int) == 36)=false:=by simp;omega
 have z92:((b:Int) == 92)=false:=by simp;omega
 have z41:((b:Int) == 41)=false:=by simp;omega
 have z93:((b:Int) == 93)=false:=by simp;omega
 have xab:((b:Int) == 123)=false:=by simp;omega
 have xaa:((b:Int) == 125)=false:=by simp;omega
 have z42:((b:Int) == 42)=false:=by simp;omega
 have z43:((b:Int) == 43)=false:=by simp;omega
 have z63:((b:Int) == 63)=false:=by simp;omega
 have z124:((b:Int) == 124)=false:=by simp;omega
 clear hr hb n40 n91 n46 n94 n36 n92 n41 n93 n123 n125 n42 n43 n63 n124;go_enter Tryz.func97,Tryz.ntmps97;go_wp2_with(first|(go_at_call 85;refine(ZH h hs hp).mono ?_;clear h;rintro e w2 ⟨rfl,hR,hK⟩;rw[HB.out])|(go_at_call 135;refine(Iz _ hlt).mono ?_;rintro e w3 ⟨f,hf,rfl,hk⟩;replace hR:=hR.keeps hk id;replace hK:=hK.trans hk.none;clear hk))
 go_ret;exact ZQ HR.out (.set hf) hR hK
def rH (alt:Nat->Nat->aS) (room:Bool) (s:ByteArray) (p g:Nat):aS :=
 if g=9\/room=false then .error p
 else match alt (p+1) (g+1) with
  | .error e => .error e
  | .ok (f,q,g')=>if bt s q=41 then .ok (JN ((g:Int)+1) f,q+1,g') else .error q
def Sa (s:ByteArray) (alt:Nat->Nat->aS) (room:Bool) (d:Int):Prop :=
 0<=d/\((room=true/\d<6/\Hu s alt (d+1))\/(room=false/\d=6))
theorem Zi2(h:Rc w R s ((p+1:Nat):Int) g d)(hg:g=9\/d=6)(hr:r=.error p):
  au 133 #[ae R,.int .i64 p] w (Z9 R B s d r w):=by
 have HR:Hid (r=.error p):=hr;have c2:=h.c2;have c3:=h.c3;clear hr
 by_cases h9:g=9
 ·have hz:((g:Int) == 9)=true:=by simp;omega
  clear hg h9;go_enter Tryz.func133,Tryz.ntmps133;go_wp2_with fail;exact⟨rfl,ZE HR.out ⟨rfl,Za.refl _ _⟩⟩
 ·have hz:((g:Int) == 9)=false:=by simp;omega
  have hz2:(d == 6)=true:=by simp;omega
  clear hg h9;go_enter Tryz.func133,Tryz.ntmps133;go_wp2_with fail;exact⟨rfl,ZE HR.out ⟨rfl,Za.refl _ _⟩⟩
theorem ZtT{alt:Nat->Nat->aS}(hP:Hu s alt (d+1))(G:ed s alt)(h:Rc w R s ((p+1:Nat):Int) g d)(hs:s.size<=120)(hp:p<s.size)(hg:g<9)(hd:0<=d)(hd6:d<6)(uz:R<B)(hB:B<=w.heap.size):
  au 133 #[ae R,.int .i64 p] w (Z9 R B s d (rH alt true s p g) w):=by
 have c2:=h.c2;have c3:=h.c3;have f2:=h.fz 2;have f3:=h.fz 3;have hz:((g:Int) == 9)=false:=by simp;omega
 have hz2:(d == 6)=false:=by simp;omega
 have hp1:p+1<=s.size:=hp;have hg1:g+1<=9:=hg;obtain⟨w1,hw1⟩:∃w1,w1=(w.setCell ⟨R,2,none⟩ (.int .i64 ((g:Int)+1))).setCell ⟨R,3,none⟩ (.int .i64 (d+1)):=⟨_,rfl⟩;have hR:Rc w1 R s ((p+1:Nat):Int) ((g+1:Nat):Int) (d+1):=hw1 ▸ (h.set2 ((g:Int)+1)).iQ (d+1);have hK:Za (·=R) w w1:=hw1 ▸ ((Za.refl (·=R) w).setCell (fun _=>rfl) _).setCell (fun _=>rfl) _;have hB1:B<=w1.heap.size:=Nat.le_trans hB hK.size;have HW:Hid (w1=(w.setCell ⟨R,2,none⟩ (.int .i64 ((g:Int)+1))).setCell ⟨R,3,none⟩ (.int .i64 (d+1))):=hw1;have hcall:=hP w1 R (p+1) (g+1) B hR uz hB1 hp1 hg1;clear hw1 h;go_enter Tryz.func133,Tryz.ntmps133;go_upto_region 5 with fail;rw[<- HW.out];have d2:w1.cell? ⟨R,2,none⟩=some (.int .i64 ((g:Int)+1)):=hR.c2;clear c2 c3 f2 f3 HW hR;have U3:Hid (¬(g=9\/true=false)):=(by show ¬_;simp;omega)
 cases ha:alt (p+1) (g+1) with
 | error x =>
   have HR:Hid (rH alt true s p g=.error x):=(by show _ = _;unfold rH;rw[if_neg U3.out,ha]);rw[ha] at hcall;clear ha;go_wp2_with(first|(go_at_call 53;refine hcall.mono ?_;rintro e w2 ⟨rfl,hk⟩))
   exact⟨rfl,ZE HR.out ⟨rfl,hK.trans hk⟩⟩
 | ok v =>
   obtain⟨f,q,g'⟩:=v;obtain⟨h1,h2,h3,-⟩:=G _ _ _ _ _ hp1 hg1 ha;rw[ha] at hcall
   by_cases hb:bt s q=41
   ·have HR:Hid (rH alt true s p g=.ok (JN ((g:Int)+1) f,q+1,g')):=(by show _ = _;unfold rH;rw[if_neg U3.out,ha];dsimp only;rw[if_pos hb]);have HB:Hid (bt s q=41):=hb;clear ha hb;go_wp2_with(first|(go_at_call 53;refine hcall.mono ?_;rintro e w2 ⟨v,rfl,hN,hR,hk⟩;obtain⟨t,x,rfl⟩:=hN.iface;replace hK:=hK.trans hk;clear hk)|(go_at_call 144;refine(JM hR hs h2 (b:=41) (by decide) HB.out).mono ?_;clear hR;rintro e w3 ⟨rfl,hR,hk⟩;replace hN:=hN.keeps hk (by intro i hi _ h;omega);replace hK:=hK.trans hk;clear hk;have c3:=hR.c3;have f3:=hR.fz 3))
    go_ret;exact ZQ HR.out (.iZ _ (hN.keeps (Qr _ R 3 _) (by intro i hi _ h;omega))) (by have:=hR.iQ d;exact this) (hK.setCell (fun _=>rfl) _)
   ·have HR:Hid (rH alt true s p g=.error q):=(by show _ = _;unfold rH;rw[if_neg U3.out,ha];dsimp only;rw[if_neg hb]);have HB:Hid (bt s q≠41):=hb;clear ha hb;go_wp2_with(first|(go_at_call 53;refine hcall.mono ?_;rintro e w2 ⟨v,rfl,hN,hR,hk⟩;obtain⟨t,x,rfl⟩:=hN.iface;replace hK:=hK.trans hk;clear hk)|(go_at_call 144;refine(Tn hR hs h2 (b:=41) (by decide) HB.out).mono ?_;rintro e w3 ⟨rfl,n,hn⟩;replace hK:=hK.trans (Ze hn).none;clear hn))
    exact⟨rfl,ZE HR.out ⟨rfl,hK⟩⟩
theorem Yv{alt:Nat->Nat->aS}{room:Bool}(qg:Sa s alt room d)(G:ed s alt)(h:Rc w R s ((p+1:Nat):Int) g d)(hs:s.size<=120)(hp:p<s.size)(hg:g<=9)(uz:R<B)(hB:B<=w.heap.size):
  au 133 #[ae R,.int .i64 p] w (Z9 R B s d (rH alt room s p g) w):=by
 obtain⟨hd,⟨rfl,hd6,hP⟩ | ⟨rfl,hd6⟩⟩:=qg
 ·by_cases h9:g=9
  ·exact Zi2 h (Or.inl h9) (by simp[rH,h9])
  ·exact ZtT hP G h hs hp (by omega) hd hd6 uz hB
 ·exact Zi2 h (Or.inr hd6) (by simp[rH])
theorem ZmB{alt:Nat->Nat->aS}{room:Bool}(qg:Sa s alt room d)(G:ed s alt)(h:Rc w R s p g d)(hs:s.size<=120)(hp:p<s.size)(hg:g<=9)(uz:R<B)(hB:B<=w.heap.size)(hb:bt s p=40):
  au 97 #[ae R] w (Z9 R B s d (rH alt room s p g) w):=by
 have HB:Hid (((bt s p:Nat):Int)=40):=(by show _ = _;omega);have c1:=h.c1;clear hb;obtain⟨r,hr⟩:∃r,rH alt room s p g=r:=⟨_,rfl⟩;rw[hr];have HR:Hid (rH alt room s p g=r):=hr;clear hr
 cases r with
 | error x =>
   go_enter Tryz.func97,Tryz.ntmps97;go_wp2_with(first|(go_at_call 85;refine(ZH h hs hp).mono ?_;clear h;rintro e w2 ⟨rfl,hR,hK⟩;rw[HB.out])|(go_at_call 133;refine(Yv qg G hR hs hp hg uz (Nat.le_trans hB hK.size)).mono ?_;rw[HR.out];rintro e w3 ⟨rfl,hk⟩))
   exact⟨rfl,rfl,hK.trans hk⟩
 | ok v =>
   obtain⟨f,q,g'⟩:=v;go_enter Tryz.func97,Tryz.ntmps97;go_wp2_with(first|(go_at_call 85;refine(ZH h hs hp).mono ?_;clear h;rintro e w2 ⟨rfl,hR,hK⟩;rw[HB.out])|(go_at_call 133;refine(Yv qg G hR hs hp hg uz (Nat.le_trans hB hK.size)).mono ?_;rw[HR.out];clear hR;rintro e w3 ⟨v,rfl,hN,hR,hk⟩))
   go_ret;exact⟨_,rfl,hN,hR,hK.trans hk⟩
theorem Zgx{alt:Nat->Nat->aS}{room:Bool}(qg:Sa s alt room d)(G:ed s alt)(hs:s.size<=120):XI s alt room d:=by
 intro w R p g B h uz hB hp hg n124 n41;have hlt:=Jh hp;unfold Zd
 by_cases KV:bt s p=40
 ·rw[if_pos KV];exact ZmB qg G h hs hp hg uz hB KV
 rw[if_neg KV]
 by_cases Hf:bt s p=91
 ·rw[if_pos Hf]
  cases hc:Zq s (p+1) with
  | error x=>exact Zfl h hs hp Hf hc rfl
  | ok v=>exact Zmz (x:=0) h hs hp Hf hc rfl
 rw[if_neg Hf]
 by_cases KU:bt s p=94
 ·rw[if_pos KU];exact ZhH (x:=0) h hs hp KU rfl
 rw[if_neg KU]
 by_cases KW:bt s p=36
 ·rw[if_pos KW];exact ZmD (x:=0) h hs hp KW rfl
 rw[if_neg KW]
 by_cases h46:bt s p=46
 ·rw[if_pos h46];exact ZmE (x:=0) h hs hp h46 rfl
 rw[if_neg h46]
 by_cases q8:bt s p=92
 ·rw[if_pos q8]
  cases hc:Zt s (p+1) with
  | error x=>exact Zfm h hs hp q8 hc rfl
  | ok v=>exact ZmC (x:=0) h hs hp q8 hc rfl
 rw[if_neg q8]
 by_cases hx:bt s p=42\/bt s p=43\/bt s p=63\/bt s p=123\/bt s p=125\/bt s p=93
 ·rw[if_pos hx];exact ZmF (x:=0) h hs hp hx rfl
 rw[if_neg hx];exact ZmA (x:=0) h hs hp rfl hlt KV Hf h46 KU KW q8 n41 (by omega) (by omega) (by omega) (by omega) (by omega) (by omega) n124 rfl
end Go.Proofs.YtfkflljplohhcaaGreatDoor
