import Derived.Test.YtfkflljplohhcaaGreatDoorW
import Derived.Defers
import Derived.Recover
set_option maxHeartbeats 1000000
set_option maxRecDepth 100000
namespace Go.Proofs.YtfkflljplohhcaaGreatDoor
open Go.RowKit
set_option linter.unusedVariables false
def At1 (w:World) (a:Nat) (t:TypeId) (v:Value):Prop:=w.heap[a]? = some (.cells #[v] t (0,0))
namespace At1
variable {w w':World} {a:Nat} {t:TypeId} {v u:Value}
theorem lt (h:At1 w a t v):a < w.heap.size:=lt_of_block h
theorem cell (h:At1 w a t v):w.cell? ⟨a,0,none⟩=some v:=by rw [Zc h]; rfl
theorem fz (h:At1 w a t v):w.frozen? ⟨a,0,none⟩=false:=Zv h
theorem keeps {E:Nat->Prop} (h:At1 w a t v) (k:Za E w w') (hE:¬ E a):At1 w' a t v:=by
 unfold At1 at h ⊢; rw [k.block a (lt_of_block h) hE]; exact h
theorem set (h:At1 w a t v) (u:Value):At1 (w.setCell ⟨a,0,none⟩ u) a t u:=by unfold At1; rw [heap_setCell_same _ _ _ _ _ _ h]; rfl
theorem drew (h:At1 w a t v):At1 w.drew a t v:=h
end At1
theorem ZjL (p q r:Addr) (w:World) :
  CallsD Tryz.prog 52 #[.pointer (some p),.pointer (some q),.pointer (some r)] .returning w fun e u' w'=>e = .returned (.tuple #[])/\u' = .returning/\w'=w:=by
 have hnil :∀w:World,(binOp BinOp.eql 20 .nilIface .nilIface).run Tryz.prog w = .ok (.bool true) w:=fun _=>by kernel_rfl
 refine callsD_of_wpS Tryz.func52 rfl fun c₀ cs hu=>?_;apply wpS_seq;apply wpS_region;simp [wpOpsS,go_sem,recoverD,hu,Tryz.ntmps52,Exit.thenS];refine wpS_of_wp ?_;go_wp2_with fail
 cases c₀
 simp_all [bodyPostS,results,Tryz.results52]
theorem Zhr {a b c:Nat} {x:Int} {older:List PanicEntry} {w:World} {v1 v2 v3:Value} (ha:At1 w a 85 v1) (hb:At1 w b 3 v2) (hc:At1 w c 3 v3) (hab:a≠b) (hac:a≠c) (hbc:b≠c) :
  CallsD Tryz.prog 52 #[.pointer (some ⟨a,0,none⟩),.pointer (some ⟨b,0,none⟩),.pointer (some ⟨c,0,none⟩)] (.panicking ({ v:=.iface 122 (.agg #[.int .i64 x]),recovered:=false } :: older)) w fun e u' w' =>
   e = .returned (.tuple #[])/\u' = .panicking ({ v:=.iface 122 (.agg #[.int .i64 x]),recovered:=true } :: older)/\At1 w' a 85 .nilIface/\At1 w' b 3 (.int .i64 0)/\At1 w' c 3 (.int .i64 x)/\Za (fun k=>k=a\/k=b\/k=c) w w':=by
 have hnn :∀w:World,(binOp BinOp.eql 20 (.iface 122 (.agg #[.int .i64 x])) .nilIface).run Tryz.prog w = .ok (.bool false) w:=fun _=>by kernel_rfl
 have hta :∀w:World,(Instr.typeAssert (.iface 122 (.agg #[.int .i64 x])) 20 122 true).run Tryz.prog w = .ok (.tuple #[.agg #[.int .i64 x],.bool true]) w:=fun _=>by kernel_rfl
 refine callsD_of_wpS Tryz.func52 rfl fun c₀ cs hu=>?_;apply wpS_seq;apply wpS_region;simp [wpOpsS,go_sem,recoverD,hu,Tryz.ntmps52,Exit.thenS,Array.replicate];refine wpS_of_wp ?_;go_wp2_with fail;have hk1:Za N0_ w (w.alloc (.cells #[.int .i64 x] 122)):=(Za.refl _ w).alloc _;have hP:At1 (w.alloc (.cells #[.int .i64 x] 122)) w.heap.size 122 (.int .i64 x):=heap_alloc_new w _;have na:a≠w.heap.size:=Nat.ne_of_lt ha.lt;have nb:b≠w.heap.size:=Nat.ne_of_lt hb.lt;have nc:c≠w.heap.size:=Nat.ne_of_lt hc.lt;replace ha:=ha.keeps hk1 id;replace hb:=hb.keeps hk1 id;replace hc:=hc.keeps hk1 id;generalize w.alloc (.cells #[.int .i64 x] 122)=w1 at hk1 hP ha hb hc ⊢;generalize w.heap.size=P at hP na nb nc ⊢;have c1:=ha.cell; have c2:=hb.cell; have c3:=hc.cell; have c4:=hP.cell;have f1:=ha.fz; have f2:=hb.fz; have f3:=hc.fz;have hab':¬ b=a:=fun h=>hab h.symm;have hac':¬ c=a:=fun h=>hac h.symm;have hbc':¬ c=b:=fun h=>hbc h.symm;have na':¬ P=a:=fun h=>na h.symm;have nb':¬ P=b:=fun h=>nb h.symm;have nc':¬ P=c:=fun h=>nc h.symm;go_region;refine ⟨rfl,_,rfl,.tuple #[],by simp [results,Tryz.results52],rfl,rfl,?_,?_,?_,?_⟩
 ·exact (((ha.set _).keeps (QJ _ b 0 _) hab).keeps (QJ _ c 0 _) hac).drew
 ·exact (((hb.keeps (QJ _ a 0 _) hab').set _).keeps (QJ _ c 0 _) hbc).drew
 ·exact (((hc.keeps (QJ _ a 0 _) hac').keeps (QJ _ b 0 _) hbc').set _).drew
 ·exact (((hk1.none.setCell (fun _=>Or.inl rfl) _).setCell (fun _=>Or.inr (Or.inl rfl)) _).setCell (fun _=>Or.inr (Or.inr rfl)) _).drew
def ZD (s:ByteArray):Except Nat (Nat×Pf) :=
 if 120 < s.size then .error 120
 else match QL s 6 0 0 with
  | .error e => .error e
  | .ok (f,q,g)=>if q < s.size then .error q else .ok (g,f)
def Jc (s:ByteArray) (w:World) (e:Ending) (w':World):Prop :=
 match ZD s with
 | .error x=>e = .returned (.tuple #[.nilIface,.int .i64 0,.int .i64 x])/\Za N0_ w w'
 | .ok (g,f) =>∃v,e = .returned (.tuple #[v,.int .i64 g,.int .i64 0])/\Nd w' (fun k=>w.heap.size<=k) v f/\Za N0_ w w'
structure Tv (w0 w:World) (P:Nat) (v1 v2 v3:Value):Prop where
 a:At1 w P 85 v1
 b:At1 w (P + 1) 3 v2
 c:At1 w (P + 2) 3 v3
 k:Za (fun k=>P<=k) w0 w
 p:P=w0.heap.size
theorem Tv.fault {w0 w:World} {P:Nat} {v1 v2 v3:Value} (h:Tv w0 w P v1 v2 v3) {x:Nat} {s:ByteArray} (hx:ZD s = .error x) {tmps:Array Value} (ht:tmps[2]? = some (.pointer (some ⟨P,0,none⟩))) (ht3:tmps[3]? = some (.pointer (some ⟨P + 1,0,none⟩))) (ht4:tmps[4]? = some (.pointer (some ⟨P + 2,0,none⟩))) :
  Leaves Tryz.prog Tryz.f35 tmps (Jc s w0) [{ target:=Target.fn (Fn.func 52) #[.pointer (some ⟨P,0,none⟩),.pointer (some ⟨P + 1,0,none⟩),.pointer (some ⟨P + 2,0,none⟩)],args:=#[] }] (.panicking [{ v:=.iface 122 (.agg #[.int .i64 x]),recovered:=false }]) w:=by
 refine leaves_cons (f:=52) (args:=#[.pointer (some ⟨P,0,none⟩),.pointer (some ⟨P + 1,0,none⟩),.pointer (some ⟨P + 2,0,none⟩)]) (by simp) (by simp [go_sem]) ?_;refine (Zhr h.a h.b h.c (by omega) (by omega) (by omega)).mono ?_;rintro e u' w'' ⟨rfl,rfl,h1,h2,h3,hk⟩;have c1:=h1.cell; have c2:=h2.cell; have c3:=h3.cell;have hk0:Za N0_ w0 w'':=by
  have hp:=h.p;exact (h.k.trans' (E':=fun k=>k=P\/k=P + 1\/k=P + 2) hk (fun i hi h=>by omega)).mono (fun k hk h=>by omega)
 have hT:Jc s w0 (.returned (.tuple #[.nilIface,.int .i64 0,.int .i64 x])) w'':=by unfold Jc; rw [hx]; exact ⟨rfl,hk0⟩
 simp [Leaves,settle,results,Tryz.results35,go_sem,ht,ht3,ht4,c1,c2,c3];exact hT
theorem Tv.back {w0 w:World} {P g:Nat} {v:Value} {f:Pf} (h:Tv w0 w P v (.int .i64 g) (.int .i64 0)) {s:ByteArray} (hx:ZD s = .ok (g,f)) (hN:Nd w (fun k=>w0.heap.size<=k) v f) {tmps:Array Value} (ht:tmps[2]? = some (.pointer (some ⟨P,0,none⟩))) (ht3:tmps[3]? = some (.pointer (some ⟨P + 1,0,none⟩))) (ht4:tmps[4]? = some (.pointer (some ⟨P + 2,0,none⟩))) :
  Leaves Tryz.prog Tryz.f35 tmps (Jc s w0) [{ target:=Target.fn (Fn.func 52) #[.pointer (some ⟨P,0,none⟩),.pointer (some ⟨P + 1,0,none⟩),.pointer (some ⟨P + 2,0,none⟩)],args:=#[] }] .returning w:=by
 refine leaves_cons (f:=52) (args:=#[.pointer (some ⟨P,0,none⟩),.pointer (some ⟨P + 1,0,none⟩),.pointer (some ⟨P + 2,0,none⟩)]) (by simp) (by simp [go_sem]) ?_;refine (ZjL _ _ _ _).mono ?_;rintro e u' w'' ⟨rfl,rfl,rfl⟩;have c1:=h.a.cell; have c2:=h.b.cell; have c3:=h.c.cell;have hk0:Za N0_ w0 w'':=by
  have hp:=h.p;exact h.k.mono (fun k hk h=>by omega)
 have hT:Jc s w0 (.returned (.tuple #[v,.int .i64 g,.int .i64 0])) w'':=by unfold Jc; rw [hx]; exact ⟨v,rfl,hN,hk0⟩
 simp [Leaves,settle,results,Tryz.results35,go_sem,ht,ht3,ht4,c1,c2,c3];exact hT
theorem ZhP (w:World):Tv w (((w.alloc (.cells #[.nilIface] 85)).alloc (.cells #[.int .i64 0] 3)).alloc (.cells #[.int .i64 0] 3)) w.heap.size .nilIface (.int .i64 0) (.int .i64 0):=by
 have k1 :∀(w:World) (o:Obj),Za N0_ w (w.alloc o):=fun w o=>(Za.refl _ w).alloc o;have h1:At1 (w.alloc (.cells #[.nilIface] 85)) w.heap.size 85 .nilIface:=heap_alloc_new w _;have h2:At1 ((w.alloc (.cells #[.nilIface] 85)).alloc (.cells #[.int .i64 0] 3)) (w.heap.size + 1) 3 (.int .i64 0):=by
  have:=heap_alloc_new (w.alloc (.cells #[.nilIface] 85)) (.cells #[.int .i64 0] 3)
  simpa [At1] using this
 have h3:At1 (((w.alloc (.cells #[.nilIface] 85)).alloc (.cells #[.int .i64 0] 3)).alloc (.cells #[.int .i64 0] 3)) (w.heap.size + 2) 3 (.int .i64 0):=by
  have:=heap_alloc_new ((w.alloc (.cells #[.nilIface] 85)).alloc (.cells #[.int .i64 0] 3)) (.cells #[.int .i64 0] 3)
  simpa [At1] using this
 exact ⟨(h1.keeps (k1 _ _) id).keeps (k1 _ _) id,h2.keeps (k1 _ _) id,h3,(((Za.refl _ w).alloc _).alloc _).alloc _,rfl⟩
theorem Tv.keeps {w0 w w':World} {P:Nat} {v1 v2 v3:Value} {E:Nat->Prop} (h:Tv w0 w P v1 v2 v3) (k:Za E w w') (hE :∀i,i < P + 3->¬ E i):Tv w0 w' P v1 v2 v3 :=
 ⟨h.a.keeps k (hE _ (by omega)),h.b.keeps k (hE _ (by omega)),h.c.keeps k (hE _ (by omega)),h.k.trans' k (fun i hi he=>absurd he (hE i (by have:=h.p; omega))),h.p⟩
theorem Tv.set1 {w0 w:World} {P:Nat} {v1 v2 v3:Value} (h:Tv w0 w P v1 v2 v3) (u:Value):Tv w0 (w.setCell ⟨P,0,none⟩ u) P u v2 v3 :=
 ⟨h.a.set u,h.b.keeps (QJ _ P 0 _) (by omega),h.c.keeps (QJ _ P 0 _) (by omega),h.k.setCell (fun _=>Nat.le_refl _) _,h.p⟩
theorem Tv.set2 {w0 w:World} {P:Nat} {v1 v2 v3:Value} (h:Tv w0 w P v1 v2 v3) (u:Value):Tv w0 (w.setCell ⟨P + 1,0,none⟩ u) P v1 u v3 :=
 ⟨h.a.keeps (QJ _ _ 0 _) (by omega),h.b.set u,h.c.keeps (QJ _ _ 0 _) (by omega),h.k.setCell (fun _=>Nat.le_succ _) _,h.p⟩
theorem Tv.set3 {w0 w:World} {P:Nat} {v1 v2 v3:Value} (h:Tv w0 w P v1 v2 v3) (u:Value):Tv w0 (w.setCell ⟨P + 2,0,none⟩ u) P v1 v2 u :=
 ⟨h.a.keeps (QJ _ _ 0 _) (by omega),h.b.keeps (QJ _ _ 0 _) (by omega),h.c.set u,h.k.setCell (fun _=>(by show P<=P + 2; omega)) _,h.p⟩
theorem Tv.drew {w0 w:World} {P:Nat} {v1 v2 v3:Value} (h:Tv w0 w P v1 v2 v3):Tv w0 w.drew P v1 v2 v3:=⟨h.a,h.b,h.c,h.k.drew,h.p⟩
theorem Zkh {w:World} {s:ByteArray} (hs:120 < s.size) :
  Calls Tryz.prog 35 #[.string s] w (Jc s w):=by
 have hmf :∀(fn:Fn) (first cap:Array Value) (w:World),(Instr.makeFunc fn first cap).run Tryz.prog w = .ok (.func fn first cap) w:=fun _ _ _ _=>rfl;have hsz:(120:Int) < (s.size:Int):=by omega
 have HX:Hid (ZD s = .error 120):=(by show _ = _; simp [ZD,hs]);have hT:=ZhP w;go_enter_defers Tryz.func35,Tryz.ntmps35;go_wp2_with fail;exact hT.fault HX.out rfl rfl rfl
theorem ZiR {w:World} {s:ByteArray} (hs:s.size<=120) :
  Calls Tryz.prog 35 #[.string s] w (Jc s w):=by
 have hmf :∀(fn:Fn) (first cap:Array Value) (w:World),(Instr.makeFunc fn first cap).run Tryz.prog w = .ok (.func fn first cap) w:=fun _ _ _ _=>rfl;have hsz:(s.size:Int)<=120:=by omega
 have hT:=ZhP w;go_enter_defers Tryz.func35,Tryz.ntmps35;go_upto_region 5 with fail;have hT4:=hT.keeps ((Za.refl N0_ _).alloc (.cells #[.string s,.int .i64 0,.int .i64 0,.int .i64 0] 126)) (fun _ _ h=>h);have hR:Rc ((((w.alloc (.cells #[.nilIface] 85)).alloc (.cells #[.int .i64 0] 3)).alloc (.cells #[.int .i64 0] 3)).alloc (.cells #[.string s,.int .i64 0,.int .i64 0,.int .i64 0] 126)) (w.heap.size + 3) s ((0:Nat):Int) ((0:Nat):Int) 0:=by
  have:=heap_alloc_new (((w.alloc (.cells #[.nilIface] 85)).alloc (.cells #[.int .i64 0] 3)).alloc (.cells #[.int .i64 0] 3)) (.cells #[.string s,.int .i64 0,.int .i64 0,.int .i64 0] 126)
  simpa [Rc] using this
 generalize ((((w.alloc (.cells #[.nilIface] 85)).alloc (.cells #[.int .i64 0] 3)).alloc (.cells #[.int .i64 0] 3)).alloc (.cells #[.string s,.int .i64 0,.int .i64 0,.int .i64 0] 126))=w4 at hT4 hR ⊢;clear hT;have hPat:ZsF s (QL s 6) 0:=by
  have:=Zoh hs 6 (by omega)
  simpa using this
 have hcall:=hPat w4 (w.heap.size + 3) 0 0 w4.heap.size hR hR.lt (Nat.le_refl _) (Nat.zero_le _) (by omega);have hW:w.heap.size<=w4.heap.size:=hT4.k.size;have hlt4:=hR.lt;have hn120:¬ 120 < s.size:=by omega
 clear hPat hR
 cases ha:QL s 6 0 0 with
 | error x =>
   have HX:Hid (ZD s = .error x):=(by show _ = _; simp [ZD,ha,hn120]);rw [ha] at hcall;clear ha;go_wp2_with (first
    | (go_at_call 53; refine hcall.mono ?_; rintro e w5 ⟨rfl,hk⟩))
   exact (hT4.keeps hk (fun i hi h=>by omega)).fault HX.out rfl rfl rfl
 | ok r =>
   obtain ⟨f,q,g⟩:=r;obtain ⟨-,hqs,hg9,-⟩:=QD s 6 _ _ _ _ _ (Nat.zero_le _) (by omega) ha;rw [ha] at hcall;go_upto_region 6 with (go_at_call 53; refine hcall.mono ?_; rintro e w5 ⟨v,rfl,hN,hR,hk⟩; obtain ⟨t,y,rfl⟩:=hN.iface; replace hT4:=hT4.keeps hk (fun i hi h=>by omega); have c1:=hT4.a.cell; have f1:=hT4.a.fz);replace hT4:=hT4.set1 (.iface t y);replace hR:=hR.keeps (QJ w5 w.heap.size 0 (.iface t y)) (by omega);replace hN:=hN.keeps (QJ w5 w.heap.size 0 (.iface t y)) (by intro i hi _ h; omega);clear c1 f1 hcall hk;generalize w5.setCell ⟨w.heap.size,0,none⟩ (.iface t y)=w6 at hT4 hR hN ⊢
   by_cases hend:q=s.size
   ·have HX:Hid (ZD s = .ok (g,f)):=(by show _ = _; simp [ZD,ha,hn120,hend]);have HE:Hid (q=s.size):=hend;clear ha hend hn120;go_upto_region 8 with (go_at_call 54; refine (ZaZ hR HE.out).mono ?_; rintro e w7 ⟨rfl,n,hn⟩; replace hT4:=hT4.keeps (Ze hn) (fun _ _ h=>h); replace hN:=hN.keeps (Ze hn) (fun _ _ _ h=>h); replace hR:=hR.keeps (Ze hn) id; clear hn);have c1:=hT4.a.cell; have f1:=hT4.a.fz; have c2:=hT4.b.cell; have f2:=hT4.b.fz; have c3:=hT4.c.cell; have f3:=hT4.c.fz; have c4:=hR.c2;go_region;go_wp2_with fail;have hN1:=hN.keeps (QJ w7 w.heap.size 0 (.iface t y)) (by intro i hi _ h; omega);have hN2:=hN1.keeps (QJ _ (w.heap.size + 1) 0 (.int .i64 g)) (by intro i hi _ h; omega);have hN3:=hN2.keeps (QJ _ (w.heap.size + 2) 0 (.int .i64 0)) (by intro i hi _ h; omega);have hN4:=hN3.keeps ((Za.refl N0_ _).drew) (fun _ _ _ h=>h);exact (((hT4.set1 _).set2 (.int .i64 g)).set3 (.int .i64 0)).drew.back HX.out (hN4.mono (fun k hk _=>by omega)) rfl rfl rfl
   ·have HX:Hid (ZD s = .error q):=(by show _ = _; simp [ZD,ha,hn120]; omega);have hlt:q < s.size:=by omega
    clear ha hend hn120;go_wp2_with (first
     | (go_at_call 54; refine (Jr hR hlt).mono ?_; rintro e w7 ⟨rfl,n,hn⟩; replace hT4:=hT4.keeps (Ze hn) (fun _ _ h=>h); replace hR:=hR.keeps (Ze hn) id; clear hn; have c1:=hR.c1))
    exact hT4.fault HX.out rfl rfl rfl
theorem Znm {w:World} (s:ByteArray):Calls Tryz.prog 35 #[.string s] w (Jc s w):=by
 by_cases hs:120 < s.size
 ·exact Zkh hs
 ·exact ZiR (by omega)
end Go.Proofs.YtfkflljplohhcaaGreatDoor
