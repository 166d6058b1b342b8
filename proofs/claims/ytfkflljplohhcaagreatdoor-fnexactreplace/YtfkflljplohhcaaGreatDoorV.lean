import Derived.Test.YtfkflljplohhcaaGreatDoorU
set_option maxHeartbeats 1000000
set_option maxRecDepth 100000
namespace Go.Proofs.YtfkflljplohhcaaGreatDoor
open Go.RowKit
set_option linter.unusedVariables false
theorem Tryz.infoNode:(Tryz.prog.info? 85).map (fun i=>(i.zero,i.size,i.bytes))=some (some .nilIface,1,16):=by kernel_rfl
structure ZtA (w:World) (D:Nat->Prop) (P:Value->Pf->Prop):Prop where
 set :∀(S:Bs) (f:Nat->Nat),Bv S f->P (.iface 172 (.agg #[.int .u64 (f 0),.int .u64 (f 1),.int .u64 (f 2),.int .u64 (f 3)])) (Qv S)
 start:P (.iface 185 (.agg #[])) QN
 fin:P (.iface 187 (.agg #[])) Zbh
 seq :∀(v:Value) (vs:List Value) (fs:List Pf),w.ownsRow 0 85 1 v vs.length vs->(∀k,v.ownBlock=some k->D k)->fs.length=vs.length->vs.length<=1000->(∀(i:Nat) (x:Value) (f:Pf),vs[i]? = some x->fs[i]? = some f->P x f)->P (.iface 175 (.agg #[v])) (Jh fs)
 alt :∀(v:Value) (vs:List Value) (fs:List Pf),w.ownsRow 0 85 1 v vs.length vs->(∀k,v.ownBlock=some k->D k)->fs.length=vs.length->vs.length<=1000->(∀(i:Nat) (x:Value) (f:Pf),vs[i]? = some x->fs[i]? = some f->P x f)->P (.iface 165 (.agg #[v])) (JW fs)
 rep :∀(a:Value) (f:Pf) (lo hi:Int) (lz:Bool),P a f->P (.iface 179 (.agg #[.int .i64 lo,.int .i64 hi,.bool lz,a])) (Z9 lo hi lz f)
 grp :∀(a:Value) (f:Pf) (num:Int),P a f->P (.iface 182 (.agg #[.int .i64 num,a])) (JT num f)
def Nd (w:World) (D:Nat->Prop) (v:Value) (f:Pf):Prop :=∀P:Value->Pf->Prop,ZtA w D P->P v f
namespace Nd
variable {w w':World} {D D':Nat->Prop}
theorem set {S:Bs} {f:Nat->Nat} (h:Bv S f):Nd w D (.iface 172 (.agg #[.int .u64 (f 0),.int .u64 (f 1),.int .u64 (f 2),.int .u64 (f 3)])) (Qv S):=fun P c=>c.set S f h
theorem start:Nd w D (.iface 185 (.agg #[])) QN:=fun P c=>c.start
theorem fin:Nd w D (.iface 187 (.agg #[])) Zbh:=fun P c=>c.fin
theorem seq {v:Value} {vs:List Value} {fs:List Pf} (ho:w.ownsRow 0 85 1 v vs.length vs) (hD :∀k,v.ownBlock=some k->D k) (hl:fs.length=vs.length) (hn:vs.length<=1000) (hk :∀(i:Nat) (x:Value) (f:Pf),vs[i]? = some x->fs[i]? = some f->Nd w D x f):Nd w D (.iface 175 (.agg #[v])) (Jh fs) :=
 fun P c=>c.seq v vs fs ho hD hl hn (fun i x f hx hf=>hk i x f hx hf P c)
theorem alt {v:Value} {vs:List Value} {fs:List Pf} (ho:w.ownsRow 0 85 1 v vs.length vs) (hD :∀k,v.ownBlock=some k->D k) (hl:fs.length=vs.length) (hn:vs.length<=1000) (hk :∀(i:Nat) (x:Value) (f:Pf),vs[i]? = some x->fs[i]? = some f->Nd w D x f):Nd w D (.iface 165 (.agg #[v])) (JW fs) :=
 fun P c=>c.alt v vs fs ho hD hl hn (fun i x f hx hf=>hk i x f hx hf P c)
theorem rep {a:Value} {f:Pf} (lo hi:Int) (lz:Bool) (h:Nd w D a f):Nd w D (.iface 179 (.agg #[.int .i64 lo,.int .i64 hi,.bool lz,a])) (Z9 lo hi lz f):=fun P c=>c.rep a f lo hi lz (h P c)
theorem grp {a:Value} {f:Pf} (num:Int) (h:Nd w D a f):Nd w D (.iface 182 (.agg #[.int .i64 num,a])) (JT num f):=fun P c=>c.grp a f num (h P c)
theorem ind {v:Value} {f:Pf} {M:Value->Pf->Prop} (h:Nd w D v f)
  (mset :∀(S:Bs) (f:Nat->Nat),Bv S f->M (.iface 172 (.agg #[.int .u64 (f 0),.int .u64 (f 1),.int .u64 (f 2),.int .u64 (f 3)])) (Qv S)) (mstart:M (.iface 185 (.agg #[])) QN) (mfin:M (.iface 187 (.agg #[])) Zbh)
  (mseq :∀(v:Value) (vs:List Value) (fs:List Pf),w.ownsRow 0 85 1 v vs.length vs->(∀k,v.ownBlock=some k->D k)->fs.length=vs.length->vs.length<=1000->(∀(i:Nat) (x:Value) (f:Pf),vs[i]? = some x->fs[i]? = some f->M x f)->M (.iface 175 (.agg #[v])) (Jh fs))
  (malt :∀(v:Value) (vs:List Value) (fs:List Pf),w.ownsRow 0 85 1 v vs.length vs->(∀k,v.ownBlock=some k->D k)->fs.length=vs.length->vs.length<=1000->(∀(i:Nat) (x:Value) (f:Pf),vs[i]? = some x->fs[i]? = some f->M x f)->M (.iface 165 (.agg #[v])) (JW fs))
  (mrep :∀(a:Value) (f:Pf) (lo hi:Int) (lz:Bool),Nd w D a f->M a f->M (.iface 179 (.agg #[.int .i64 lo,.int .i64 hi,.bool lz,a])) (Z9 lo hi lz f))
  (mgrp :∀(a:Value) (f:Pf) (num:Int),Nd w D a f->M a f->M (.iface 182 (.agg #[.int .i64 num,a])) (JT num f)):M v f :=
 (h (fun v f=>Nd w D v f/\M v f)
  ⟨fun S f h=>⟨set h,mset S f h⟩,⟨start,mstart⟩,⟨fin,mfin⟩,
   fun v vs fs ho hD hl hn hk=>⟨seq ho hD hl hn (fun i x f hx hf=>(hk i x f hx hf).1),mseq v vs fs ho hD hl hn (fun i x f hx hf=>(hk i x f hx hf).2)⟩,
   fun v vs fs ho hD hl hn hk=>⟨alt ho hD hl hn (fun i x f hx hf=>(hk i x f hx hf).1),malt v vs fs ho hD hl hn (fun i x f hx hf=>(hk i x f hx hf).2)⟩,
   fun a f lo hi lz h=>⟨rep lo hi lz h.1,mrep a f lo hi lz h.1 h.2⟩,fun a f num h=>⟨grp num h.1,mgrp a f num h.1 h.2⟩⟩).2
variable {v:Value} {f:Pf}
theorem mono (h:Nd w D v f) (hD' :∀k,D k->k < w.heap.size->D' k):Nd w D' v f :=
 h.ind (M:=fun v f=>Nd w D' v f) (fun S f h => .set h) .start .fin
  (fun v vs fs ho hD hl hn ih => .seq ho (fun k hk'=>hD' k (hD k hk') (ho.lt k hk').2) hl hn ih)
  (fun v vs fs ho hD hl hn ih => .alt ho (fun k hk'=>hD' k (hD k hk') (ho.lt k hk').2) hl hn ih)
  (fun a f lo hi lz _ ih => .rep lo hi lz ih) (fun a f num _ ih => .grp num ih)
theorem keeps {E:Nat->Prop} (h:Nd w D v f) (k:Za E w w') (hE :∀i,D i->i < w.heap.size->¬ E i):Nd w' D v f :=
 h.ind (M:=fun v f=>Nd w' D v f) (fun S f h => .set h) .start .fin
  (fun v vs fs ho hD hl hn ih => .seq (Zb ho k (fun i hi=>hE i (hD i hi) (ho.lt i hi).2)) hD hl hn ih)
  (fun v vs fs ho hD hl hn ih => .alt (Zb ho k (fun i hi=>hE i (hD i hi) (ho.lt i hi).2)) hD hl hn ih)
  (fun a f lo hi lz _ ih => .rep lo hi lz ih) (fun a f num _ ih => .grp num ih)
theorem iface (h:Nd w D v f) :∃t x,v = .iface t x :=
 h.ind (M:=fun v f =>∃t x,v = .iface t x) (fun S f h=>⟨_,_,rfl⟩) ⟨_,_,rfl⟩ ⟨_,_,rfl⟩ (fun v vs fs _ _ _ _ _=>⟨_,_,rfl⟩) (fun v vs fs _ _ _ _ _=>⟨_,_,rfl⟩)
  (fun a f lo hi lz _ _=>⟨_,_,rfl⟩) (fun a f num _ _=>⟨_,_,rfl⟩)
end Nd
def Z5 (R B:Nat) (s:ByteArray) (d:Int) (r:Rd3) (w:World) (e:Ending) (w':World):Prop :=
 match r with
 | .error x=>ZY R x w e w'
 | .ok (f,q,g) =>∃v,e = .returned v/\Nd w' (fun k=>B<=k) v f/\Rc w' R s q g d/\Za (fun k=>k=R) w w'
theorem ZA {R B:Nat} {s:ByteArray} {d:Int} {r:Rd3} {x:Nat} {w:World} {e:Ending} {w':World} (hr:r = .error x) (h:ZY R x w e w'):Z5 R B s d r w e w':=by
 subst hr; exact h
theorem ZM {R B:Nat} {s:ByteArray} {d:Int} {r:Rd3} {f:Pf} {q g:Nat} {v:Value} {w w':World} (hr:r = .ok (f,q,g)) (hN:Nd w' (fun k=>B<=k) v f) (hR:Rc w' R s q g d) (hK:Za (fun k=>k=R) w w'):Z5 R B s d r w (.returned v) w':=by
 subst hr; exact ⟨v,rfl,hN,hR,hK⟩
def ZsF (s:ByteArray) (alt:Nat->Nat->Rd3) (d:Int):Prop :=
 ∀ (w:World) (R p g B:Nat),Rc w R s p g d->R < B->B<=w.heap.size->p<=s.size->g<=9->
   Calls Tryz.prog 53 #[.pointer (some ⟨R,0,none⟩)] w (Z5 R B s d (alt p g) w)
def Zp2 (s:ByteArray) (alt:Nat->Nat->Rd3) (room:Bool) (d:Int):Prop :=
 ∀ (w:World) (R p g B:Nat),Rc w R s p g d->R < B->B<=w.heap.size->p < s.size->g<=9->bt s p≠124->bt s p≠41->
   Calls Tryz.prog 97 #[.pointer (some ⟨R,0,none⟩)] w (Z5 R B s d (Zg alt room s p g) w)
theorem ZlB {w:World} {R p g B x:Nat} {s:ByteArray} {d:Int} {r:Rd3} (h:Rc w R s p g d) (hs:s.size<=120) (hp:p < s.size) (hb:bt s p=91) {S:Bs} {q:Nat} (he:Zx s (p + 1) = .ok (S,q)) (hr:r = .ok (Qv S,q,g)) :
  Calls Tryz.prog 97 #[.pointer (some ⟨R,0,none⟩)] w (Z5 R B s d r w):=by
 have HB:Hid (((bt s p:Nat):Int)=91):=(by show _ = _; omega);have c1:=h.c1;clear hb;have HE:Hid (Zx s (p + 1) = .ok (S,q)):=he;have HR:Hid (r = .ok (Qv S,q,g)):=hr;clear he hr;go_enter Tryz.func97,Tryz.ntmps97;go_wp2_with (first
  | (go_at_call 85; refine (ZC h hs hp).mono ?_; clear h; rintro e w2 ⟨rfl,hR,hK⟩; rw [HB.out])
  | (go_at_call 134; refine (ZkA hR hs hp).mono ?_; rw [HE.out]; clear hR; rintro e w3 ⟨f,hf,rfl,hR,hk⟩; replace hK:=hK.trans hk))
 go_ret;exact ZM HR.out (.set hf) hR hK
theorem ZeU {w:World} {R p g B x:Nat} {s:ByteArray} {d:Int} {r:Rd3} (h:Rc w R s p g d) (hs:s.size<=120) (hp:p < s.size) (hb:bt s p=91) (he:Zx s (p + 1) = .error x) (hr:r = .error x) :
  Calls Tryz.prog 97 #[.pointer (some ⟨R,0,none⟩)] w (Z5 R B s d r w):=by
 have HB:Hid (((bt s p:Nat):Int)=91):=(by show _ = _; omega);have c1:=h.c1;clear hb;have HE:Hid (Zx s (p + 1) = .error x):=he;have HR:Hid (r = .error x):=hr;clear he hr;go_enter Tryz.func97,Tryz.ntmps97;go_wp2_with (first
  | (go_at_call 85; refine (ZC h hs hp).mono ?_; clear h; rintro e w2 ⟨rfl,hR,hK⟩; rw [HB.out])
  | (go_at_call 134; refine (ZkA hR hs hp).mono ?_; rw [HE.out]; rintro e w3 ⟨rfl,hk⟩))
 exact ⟨rfl,ZA HR.out ⟨rfl,hK.trans hk⟩⟩
theorem ZlE {w:World} {R p g B x:Nat} {s:ByteArray} {d:Int} {r:Rd3} (h:Rc w R s p g d) (hs:s.size<=120) (hp:p < s.size) (hb:bt s p=92) {S:Bs} {o:Option Nat} {q:Nat} (he:Zz s (p + 1) = .ok (S,o,q)) (hr:r = .ok (Qv S,q,g)) :
  Calls Tryz.prog 97 #[.pointer (some ⟨R,0,none⟩)] w (Z5 R B s d r w):=by
 have HB:Hid (((bt s p:Nat):Int)=92):=(by show _ = _; omega);have c1:=h.c1;clear hb;have HE:Hid (Zz s (p + 1) = .ok (S,o,q)):=he;have HR:Hid (r = .ok (Qv S,q,g)):=hr;clear he hr;go_enter Tryz.func97,Tryz.ntmps97;go_wp2_with (first
  | (go_at_call 85; refine (ZC h hs hp).mono ?_; clear h; rintro e w2 ⟨rfl,hR,hK⟩; rw [HB.out])
  | (go_at_call 137; refine (ZaD hR hs hp).mono ?_; rw [HE.out]; clear hR; rintro e w3 ⟨f,hf,rfl,hR,hk⟩; replace hK:=hK.trans hk))
 go_ret;exact ZM HR.out (.set hf) hR hK
theorem ZeV {w:World} {R p g B x:Nat} {s:ByteArray} {d:Int} {r:Rd3} (h:Rc w R s p g d) (hs:s.size<=120) (hp:p < s.size) (hb:bt s p=92) (he:Zz s (p + 1) = .error x) (hr:r = .error x) :
  Calls Tryz.prog 97 #[.pointer (some ⟨R,0,none⟩)] w (Z5 R B s d r w):=by
 have HB:Hid (((bt s p:Nat):Int)=92):=(by show _ = _; omega);have c1:=h.c1;clear hb;have HE:Hid (Zz s (p + 1) = .error x):=he;have HR:Hid (r = .error x):=hr;clear he hr;go_enter Tryz.func97,Tryz.ntmps97;go_wp2_with (first
  | (go_at_call 85; refine (ZC h hs hp).mono ?_; clear h; rintro e w2 ⟨rfl,hR,hK⟩; rw [HB.out])
  | (go_at_call 137; refine (ZaD hR hs hp).mono ?_; rw [HE.out]; rintro e w3 ⟨rfl,hk⟩))
 exact ⟨rfl,ZA HR.out ⟨rfl,hK.trans hk⟩⟩
theorem ZlG {w:World} {R p g B x:Nat} {s:ByteArray} {d:Int} {r:Rd3} (h:Rc w R s p g d) (hs:s.size<=120) (hp:p < s.size) (hb:bt s p=46) (hr:r = .ok (Qv dot,p + 1,g)) :
  Calls Tryz.prog 97 #[.pointer (some ⟨R,0,none⟩)] w (Z5 R B s d r w):=by
 have HB:Hid (((bt s p:Nat):Int)=46):=(by show _ = _; omega);have c1:=h.c1;clear hb;have HR:Hid (r = .ok (Qv dot,p + 1,g)):=hr;clear hr;go_enter Tryz.func97,Tryz.ntmps97;go_wp2_with (first
  | (go_at_call 85; refine (ZC h hs hp).mono ?_; clear h; rintro e w2 ⟨rfl,hR,hK⟩; rw [HB.out])
  | (go_at_call 135; refine (ZaC _ (by omega) (by omega)).mono ?_; rintro e w3 ⟨f,hf,rfl,hk⟩; replace hR:=hR.keeps hk id; replace hK:=hK.trans hk.none; clear hk)
  | (go_at_call 136; refine (ZfO hf).mono ?_; rintro e w4 ⟨f2,hf2,rfl,hk⟩; replace hR:=hR.keeps hk id; replace hK:=hK.trans hk.none; clear hk))
 go_ret;exact ZM HR.out (.set (ZaI hf2 (T:=dot) (fun x _=>rfl))) hR hK
theorem Zg6 {w:World} {R p g B x:Nat} {s:ByteArray} {d:Int} {r:Rd3} (h:Rc w R s p g d) (hs:s.size<=120) (hp:p < s.size) (hb:bt s p=94) (hr:r = .ok (QN,p + 1,g)) :
  Calls Tryz.prog 97 #[.pointer (some ⟨R,0,none⟩)] w (Z5 R B s d r w):=by
 have HB:Hid (((bt s p:Nat):Int)=94):=(by show _ = _; omega);have c1:=h.c1;clear hb;have HR:Hid (r = .ok (QN,p + 1,g)):=hr;clear hr;go_enter Tryz.func97,Tryz.ntmps97;go_wp2_with (first
  | (go_at_call 85; refine (ZC h hs hp).mono ?_; clear h; rintro e w2 ⟨rfl,hR,hK⟩; rw [HB.out]))
 go_ret;exact ZM HR.out .start hR hK
theorem ZlF {w:World} {R p g B x:Nat} {s:ByteArray} {d:Int} {r:Rd3} (h:Rc w R s p g d) (hs:s.size<=120) (hp:p < s.size) (hb:bt s p=36) (hr:r = .ok (Zbh,p + 1,g)) :
  Calls Tryz.prog 97 #[.pointer (some ⟨R,0,none⟩)] w (Z5 R B s d r w):=by
 have HB:Hid (((bt s p:Nat):Int)=36):=(by show _ = _; omega);have c1:=h.c1;clear hb;have HR:Hid (r = .ok (Zbh,p + 1,g)):=hr;clear hr;go_enter Tryz.func97,Tryz.ntmps97;go_wp2_with (first
  | (go_at_call 85; refine (ZC h hs hp).mono ?_; clear h; rintro e w2 ⟨rfl,hR,hK⟩; rw [HB.out]))
 go_ret;exact ZM HR.out .fin hR hK
theorem ZlH {w:World} {R p g B x:Nat} {s:ByteArray} {d:Int} {r:Rd3} (h:Rc w R s p g d) (hs:s.size<=120) (hp:p < s.size) (hb:bt s p=42\/bt s p=43\/bt s p=63\/bt s p=123\/bt s p=125\/bt s p=93) (hr:r = .error p) :
  Calls Tryz.prog 97 #[.pointer (some ⟨R,0,none⟩)] w (Z5 R B s d r w):=by
 have HR:Hid (r = .error p):=hr;have c1:=h.c1;clear hr
 rcases hb with hb | hb | hb | hb | hb | hb
 ·have HB:Hid (((bt s p:Nat):Int)=42):=(by show _ = _; omega);clear hb;go_enter Tryz.func97,Tryz.ntmps97;go_wp2_with (first
   | (go_at_call 85; refine (ZC h hs hp).mono ?_; clear h; rintro e w2 ⟨rfl,hR,hK⟩; rw [HB.out]))
  exact ⟨rfl,ZA HR.out ⟨rfl,hK⟩⟩
 ·have HB:Hid (((bt s p:Nat):Int)=43):=(by show _ = _; omega);clear hb;go_enter Tryz.func97,Tryz.ntmps97;go_wp2_with (first
   | (go_at_call 85; refine (ZC h hs hp).mono ?_; clear h; rintro e w2 ⟨rfl,hR,hK⟩; rw [HB.out]))
  exact ⟨rfl,ZA HR.out ⟨rfl,hK⟩⟩
 ·have HB:Hid (((bt s p:Nat):Int)=63):=(by show _ = _; omega);clear hb;go_enter Tryz.func97,Tryz.ntmps97;go_wp2_with (first
   | (go_at_call 85; refine (ZC h hs hp).mono ?_; clear h; rintro e w2 ⟨rfl,hR,hK⟩; rw [HB.out]))
  exact ⟨rfl,ZA HR.out ⟨rfl,hK⟩⟩
 ·have HB:Hid (((bt s p:Nat):Int)=123):=(by show _ = _; omega);clear hb;go_enter Tryz.func97,Tryz.ntmps97;go_wp2_with (first
   | (go_at_call 85; refine (ZC h hs hp).mono ?_; clear h; rintro e w2 ⟨rfl,hR,hK⟩; rw [HB.out]))
  exact ⟨rfl,ZA HR.out ⟨rfl,hK⟩⟩
 ·have HB:Hid (((bt s p:Nat):Int)=125):=(by show _ = _; omega);clear hb;go_enter Tryz.func97,Tryz.ntmps97;go_wp2_with (first
   | (go_at_call 85; refine (ZC h hs hp).mono ?_; clear h; rintro e w2 ⟨rfl,hR,hK⟩; rw [HB.out]))
  exact ⟨rfl,ZA HR.out ⟨rfl,hK⟩⟩
 ·have HB:Hid (((bt s p:Nat):Int)=93):=(by show _ = _; omega);clear hb;go_enter Tryz.func97,Tryz.ntmps97;go_wp2_with (first
   | (go_at_call 85; refine (ZC h hs hp).mono ?_; clear h; rintro e w2 ⟨rfl,hR,hK⟩; rw [HB.out]))
  exact ⟨rfl,ZA HR.out ⟨rfl,hK⟩⟩
theorem ZlC {w:World} {R p g B x:Nat} {s:ByteArray} {d:Int} {r:Rd3} (h:Rc w R s p g d) (hs:s.size<=120) (hp:p < s.size) {b:Nat} (hb:bt s p=b) (hlt:b < 256) (n40:b≠40) (n91:b≠91) (n46:b≠46) (n94:b≠94) (n36:b≠36) (n92:b≠92) (n41:b≠41) (n93:b≠93) (n123:b≠123) (n125:b≠125) (n42:b≠42) (n43:b≠43) (n63:b≠63) (n124:b≠124) (hr:r = .ok (Qv (one b),p + 1,g)) :
  Calls Tryz.prog 97 #[.pointer (some ⟨R,0,none⟩)] w (Z5 R B s d r w):=by
 have HR:Hid (r = .ok (Qv (one b),p + 1,g)):=hr;have HB:Hid (bt s p=b):=hb;have c1:=h.c1;have z40:((b:Int) == 40)=false:=by simp; omega
 have z91:((b:Int) == 91)=false:=by simp; omega
 have z46:((b:Int) == 46)=false:=by simp; omega
 have z94:((b:Int) == 94)=false:=by simp; omega
 have z36:((b:Int) == 36)=false:=by simp; omega
 have z92:((b:Int) == 92)=false:=by simp; omega
 have z41:((b:Int) == 41)=false:=by simp; omega
 have z93:((b:Int) == 93)=false:=by simp; omega
 have z123:((b:Int) == 123)=false:=by simp; omega
 have z125:((b:Int) == 125)=false:=by simp; omega
 have z42:((b:Int) == 42)=false:=by simp; omega
 have z43:((b:Int) == 43)=false:=by simp; omega
 have z63:((b:Int) == 63)=false:=by simp; omega
 have z124:((b:Int) == 124)=false:=by simp; omega
 clear hr hb n40 n91 n46 n94 n36 n92 n41 n93 n123 n125 n42 n43 n63 n124;go_enter Tryz.func97,Tryz.ntmps97;go_wp2_with (first
  | (go_at_call 85; refine (ZC h hs hp).mono ?_; clear h; rintro e w2 ⟨rfl,hR,hK⟩; rw [HB.out])
  | (go_at_call 135; refine (ZbI _ hlt).mono ?_; rintro e w3 ⟨f,hf,rfl,hk⟩; replace hR:=hR.keeps hk id; replace hK:=hK.trans hk.none; clear hk))
 go_ret;exact ZM HR.out (.set hf) hR hK
def Zao (alt:Nat->Nat->Rd3) (room:Bool) (s:ByteArray) (p g:Nat):Rd3 :=
 if g=9\/room=false then .error p
 else match alt (p + 1) (g + 1) with
  | .error e => .error e
  | .ok (f,q,g')=>if bt s q=41 then .ok (JT ((g:Int) + 1) f,q + 1,g') else .error q
def Ztk (s:ByteArray) (alt:Nat->Nat->Rd3) (room:Bool) (d:Int):Prop :=
 0<=d/\((room=true/\d < 6/\ZsF s alt (d + 1))\/(room=false/\d=6))
theorem Zim {w:World} {R p g B:Nat} {s:ByteArray} {d:Int} {r:Rd3} (h:Rc w R s ((p + 1:Nat):Int) g d) (hg:g=9\/d=6) (hr:r = .error p) :
  Calls Tryz.prog 133 #[.pointer (some ⟨R,0,none⟩),.int .i64 p] w (Z5 R B s d r w):=by
 have HR:Hid (r = .error p):=hr;have c2:=h.c2;have c3:=h.c3;clear hr
 by_cases h9:g=9
 ·have hz:((g:Int) == 9)=true:=by simp; omega
  clear hg h9;go_enter Tryz.func133,Tryz.ntmps133;go_wp2_with fail;exact ⟨rfl,ZA HR.out ⟨rfl,Za.refl _ _⟩⟩
 ·have hz:((g:Int) == 9)=false:=by simp; omega
  have hz2:(d == 6)=true:=by simp; omega
  clear hg h9;go_enter Tryz.func133,Tryz.ntmps133;go_wp2_with fail;exact ⟨rfl,ZA HR.out ⟨rfl,Za.refl _ _⟩⟩
theorem Zr4 {w:World} {R p g B:Nat} {s:ByteArray} {d:Int} {alt:Nat->Nat->Rd3} (hP:ZsF s alt (d + 1)) (G:Zad s alt) (h:Rc w R s ((p + 1:Nat):Int) g d) (hs:s.size<=120) (hp:p < s.size) (hg:g < 9) (hd:0<=d) (hd6:d < 6) (hRB:R < B) (hB:B<=w.heap.size) :
  Calls Tryz.prog 133 #[.pointer (some ⟨R,0,none⟩),.int .i64 p] w (Z5 R B s d (Zao alt true s p g) w):=by
 have c2:=h.c2;have c3:=h.c3;have f2:=h.fz 2;have f3:=h.fz 3;have hz:((g:Int) == 9)=false:=by simp; omega
 have hz2:(d == 6)=false:=by simp; omega
 have hp1:p + 1<=s.size:=hp;have hg1:g + 1<=9:=hg;obtain ⟨w1,hw1⟩ :∃w1,w1=(w.setCell ⟨R,2,none⟩ (.int .i64 ((g:Int) + 1))).setCell ⟨R,3,none⟩ (.int .i64 (d + 1)):=⟨_,rfl⟩;have hR:Rc w1 R s ((p + 1:Nat):Int) ((g + 1:Nat):Int) (d + 1):=hw1 ▸ (h.set2 ((g:Int) + 1)).set3 (d + 1);have hK:Za (fun k=>k=R) w w1:=hw1 ▸ ((Za.refl (fun k=>k=R) w).setCell (fun _=>rfl) _).setCell (fun _=>rfl) _;have hB1:B<=w1.heap.size:=Nat.le_trans hB hK.size;have HW:Hid (w1=(w.setCell ⟨R,2,none⟩ (.int .i64 ((g:Int) + 1))).setCell ⟨R,3,none⟩ (.int .i64 (d + 1))):=hw1;have hcall:=hP w1 R (p + 1) (g + 1) B hR hRB hB1 hp1 hg1;clear hw1 h;go_enter Tryz.func133,Tryz.ntmps133;go_upto_region 5 with fail;rw [<- HW.out];have d2:w1.cell? ⟨R,2,none⟩=some (.int .i64 ((g:Int) + 1)):=hR.c2;clear c2 c3 f2 f3 HW hR;have HN9:Hid (¬ (g=9\/true=false)):=(by show ¬ _; simp; omega)
 cases ha:alt (p + 1) (g + 1) with
 | error x =>
   have HR:Hid (Zao alt true s p g = .error x):=(by show _ = _; unfold Zao; rw [if_neg HN9.out,ha]);rw [ha] at hcall;clear ha;go_wp2_with (first
    | (go_at_call 53; refine hcall.mono ?_; rintro e w2 ⟨rfl,hk⟩))
   exact ⟨rfl,ZA HR.out ⟨rfl,hK.trans hk⟩⟩
 | ok v =>
   obtain ⟨f,q,g'⟩:=v;obtain ⟨h1,h2,h3,-⟩:=G _ _ _ _ _ hp1 hg1 ha;rw [ha] at hcall
   by_cases hb:bt s q=41
   ·have HR:Hid (Zao alt true s p g = .ok (JT ((g:Int) + 1) f,q + 1,g')):=(by show _ = _; unfold Zao; rw [if_neg HN9.out,ha]; dsimp only; rw [if_pos hb]);have HB:Hid (bt s q=41):=hb;clear ha hb;go_wp2_with (first
     | (go_at_call 53; refine hcall.mono ?_; rintro e w2 ⟨v,rfl,hN,hR,hk⟩; obtain ⟨t,x,rfl⟩:=hN.iface; replace hK:=hK.trans hk; clear hk)
     | (go_at_call 144; refine (JE hR hs h2 (b:=41) (by decide) HB.out).mono ?_; clear hR; rintro e w3 ⟨rfl,hR,hk⟩; replace hN:=hN.keeps hk (by intro i hi _ h; omega); replace hK:=hK.trans hk; clear hk; have c3:=hR.c3; have f3:=hR.fz 3))
    go_ret;exact ZM HR.out (.grp _ (hN.keeps (QJ _ R 3 _) (by intro i hi _ h; omega))) (by have:=hR.set3 d; exact this) (hK.setCell (fun _=>rfl) _)
   ·have HR:Hid (Zao alt true s p g = .error q):=(by show _ = _; unfold Zao; rw [if_neg HN9.out,ha]; dsimp only; rw [if_neg hb]);have HB:Hid (bt s q≠41):=hb;clear ha hb;go_wp2_with (first
     | (go_at_call 53; refine hcall.mono ?_; rintro e w2 ⟨v,rfl,hN,hR,hk⟩; obtain ⟨t,x,rfl⟩:=hN.iface; replace hK:=hK.trans hk; clear hk)
     | (go_at_call 144; refine (ZeL hR hs h2 (b:=41) (by decide) HB.out).mono ?_; rintro e w3 ⟨rfl,n,hn⟩; replace hK:=hK.trans (Ze hn).none; clear hn))
    exact ⟨rfl,ZA HR.out ⟨rfl,hK⟩⟩
theorem ZlT {w:World} {R p g B:Nat} {s:ByteArray} {d:Int} {alt:Nat->Nat->Rd3} {room:Bool} (hRm:Ztk s alt room d) (G:Zad s alt) (h:Rc w R s ((p + 1:Nat):Int) g d) (hs:s.size<=120) (hp:p < s.size) (hg:g<=9) (hRB:R < B) (hB:B<=w.heap.size) :
  Calls Tryz.prog 133 #[.pointer (some ⟨R,0,none⟩),.int .i64 p] w (Z5 R B s d (Zao alt room s p g) w):=by
 obtain ⟨hd,⟨rfl,hd6,hP⟩ | ⟨rfl,hd6⟩⟩:=hRm
 ·by_cases h9:g=9
  ·exact Zim h (Or.inl h9) (by simp [Zao,h9])
  ·exact Zr4 hP G h hs hp (by omega) hd hd6 hRB hB
 ·exact Zim h (Or.inr hd6) (by simp [Zao])
theorem ZlD {w:World} {R p g B:Nat} {s:ByteArray} {d:Int} {alt:Nat->Nat->Rd3} {room:Bool} (hRm:Ztk s alt room d) (G:Zad s alt) (h:Rc w R s p g d) (hs:s.size<=120) (hp:p < s.size) (hg:g<=9) (hRB:R < B) (hB:B<=w.heap.size) (hb:bt s p=40) :
  Calls Tryz.prog 97 #[.pointer (some ⟨R,0,none⟩)] w (Z5 R B s d (Zao alt room s p g) w):=by
 have HB:Hid (((bt s p:Nat):Int)=40):=(by show _ = _; omega);have c1:=h.c1;clear hb;obtain ⟨r,hr⟩ :∃r,Zao alt room s p g=r:=⟨_,rfl⟩;rw [hr];have HR:Hid (Zao alt room s p g=r):=hr;clear hr
 cases r with
 | error x =>
   go_enter Tryz.func97,Tryz.ntmps97;go_wp2_with (first
    | (go_at_call 85; refine (ZC h hs hp).mono ?_; clear h; rintro e w2 ⟨rfl,hR,hK⟩; rw [HB.out])
    | (go_at_call 133; refine (ZlT hRm G hR hs hp hg hRB (Nat.le_trans hB hK.size)).mono ?_; rw [HR.out]; rintro e w3 ⟨rfl,hk⟩))
   exact ⟨rfl,rfl,hK.trans hk⟩
 | ok v =>
   obtain ⟨f,q,g'⟩:=v;go_enter Tryz.func97,Tryz.ntmps97;go_wp2_with (first
    | (go_at_call 85; refine (ZC h hs hp).mono ?_; clear h; rintro e w2 ⟨rfl,hR,hK⟩; rw [HB.out])
    | (go_at_call 133; refine (ZlT hRm G hR hs hp hg hRB (Nat.le_trans hB hK.size)).mono ?_; rw [HR.out]; clear hR; rintro e w3 ⟨v,rfl,hN,hR,hk⟩))
   go_ret;exact ⟨_,rfl,hN,hR,hK.trans hk⟩
theorem Zf0 {s:ByteArray} {d:Int} {alt:Nat->Nat->Rd3} {room:Bool} (hRm:Ztk s alt room d) (G:Zad s alt) (hs:s.size<=120):Zp2 s alt room d:=by
 intro w R p g B h hRB hB hp hg n124 n41;have hlt:=Q9 hp;unfold Zg
 by_cases h40:bt s p=40
 ·rw [if_pos h40]; exact ZlD hRm G h hs hp hg hRB hB h40
 rw [if_neg h40]
 by_cases h91:bt s p=91
 ·rw [if_pos h91]
  cases hc:Zx s (p + 1) with
  | error x=>exact ZeU h hs hp h91 hc rfl
  | ok v=>exact ZlB (x:=0) h hs hp h91 hc rfl
 rw [if_neg h91]
 by_cases h94:bt s p=94
 ·rw [if_pos h94]; exact Zg6 (x:=0) h hs hp h94 rfl
 rw [if_neg h94]
 by_cases h36:bt s p=36
 ·rw [if_pos h36]; exact ZlF (x:=0) h hs hp h36 rfl
 rw [if_neg h36]
 by_cases h46:bt s p=46
 ·rw [if_pos h46]; exact ZlG (x:=0) h hs hp h46 rfl
 rw [if_neg h46]
 by_cases h92:bt s p=92
 ·rw [if_pos h92]
  cases hc:Zz s (p + 1) with
  | error x=>exact ZeV h hs hp h92 hc rfl
  | ok v=>exact ZlE (x:=0) h hs hp h92 hc rfl
 rw [if_neg h92]
 by_cases hx:bt s p=42\/bt s p=43\/bt s p=63\/bt s p=123\/bt s p=125\/bt s p=93
 ·rw [if_pos hx]; exact ZlH (x:=0) h hs hp hx rfl
 rw [if_neg hx];exact ZlC (x:=0) h hs hp rfl hlt h40 h91 h46 h94 h36 h92 n41 (by omega) (by omega) (by omega) (by omega) (by omega) (by omega) n124 rfl
end Go.Proofs.YtfkflljplohhcaaGreatDoor
