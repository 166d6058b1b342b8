import Derived.Test.YtfkflljplohhcaaGreatDoorTb
import Derived.Deep.LoopGhost
import Derived.LaidEql
import Derived.Stop.Asserts
import Derived.RowKitTokens
set_option maxHeartbeats 4000000
set_option maxRecDepth 100000
namespace Go.Proofs.YtfkflljplohhcaaGreatDoor
open Go.RowKit
set_option linter.unusedVariables false
theorem Zda {w:World} {base:Nat} {e:TypeId} {size:Nat} {v:Value} {n:Nat} {xs:List Value} {k:Nat} (h:w.ownsRow base e size v n xs) (hk:v.ownBlock=some k) :∃cs,w.heap[k]? = some (.cells cs e (0,0)):=by
 obtain ⟨_,⟨rfl,_⟩ | ⟨g,cap,cur,rfl,_,hh,_⟩⟩:=h
 ·simp [Value.ownBlock] at hk
 ·simp only [Value.ownBlock,Option.some.injEq] at hk;subst hk;exact ⟨_,hh⟩
def JU (s:ByteArray) (p:Nat):Option (Bt×Nat) :=
 if bt s p=36 then
  if bt s (p + 1)=36 then some ((-1,⟨#[36]⟩),p + 2)
  else if ZU (bt s (p + 1)) then some ((((bt s (p + 1):Nat):Int) - 48,⟨#[]⟩),p + 2)
  else none
 else some ((-1,Jw s p),p + 1)
theorem Jn (s:ByteArray) (p:Nat) (hp:p < s.size) (f:Nat) (acc:List Bt):Zb3 s (f + 1) p acc=match JU s p with
  | some (x,q)=>Zb3 s f q (jnB acc x)
  | none => .error (p + 1):=by
 rw [Zb3,if_neg (by omega),JU]
 split
 ·split
  ·simp [jnB]
  ·split
   ·rename_i h1 h2 h3
    have:¬ (((bt s (p + 1):Nat):Int) - 48 = -1):=by
     have:48<=bt s (p + 1):=by simp [ZU] at h3; omega
     omega
    simp [jnB,this]
   ·rfl
 ·simp [jnB]
theorem ZmB {s:ByteArray} {p q:Nat} {x:Bt} (hp:p < s.size) (h:JU s p=some (x,q)):p < q/\q<=s.size/\x.2.size<=1:=by
 unfold JU at h
 split at h
 ·split at h
  ·rename_i h1 h2
   have:p + 1 < s.size:=Decidable.byContradiction fun hn=>by rw [Z7 hn] at h2; simp at h2
   simp only [Option.some.injEq,Prod.mk.injEq] at h;obtain ⟨rfl,rfl⟩:=h;exact ⟨by omega,by omega,by decide⟩
  ·split at h
   ·rename_i h1 h2 h3
    have:p + 1 < s.size:=Decidable.byContradiction fun hn=>by rw [Z7 hn] at h3; simp [ZU] at h3
    simp only [Option.some.injEq,Prod.mk.injEq] at h;obtain ⟨rfl,rfl⟩:=h;exact ⟨by omega,by omega,Nat.zero_le 1⟩
   ·simp at h
 ·simp only [Option.some.injEq,Prod.mk.injEq] at h;obtain ⟨rfl,rfl⟩:=h;exact ⟨by omega,by omega,by simp only; unfold Jw; rw [ByteArray.size_extract]; omega⟩
theorem Zo3 {w:World} {R:Nat} {s:ByteArray} {p q:Nat} {x:Bt} (h:Cu w R s p) (hs:s.size<=100) (hp:p < s.size) (hb:JU s p=some (x,q)) :
  Calls Tryz.prog 60 #[.pointer (some ⟨R,0,none⟩)] w fun e w'=>e = .returned (.tuple #[.agg #[.int .i64 x.1,.string x.2],.nilIface])/\Cu w' R s (q:Int)/\Za (fun k=>k=R) w w':=by
 refine (ZmA h hs hp).mono ?_;rintro e w' ⟨hk,h2⟩;unfold JU at hb
 split at hb
 ·rename_i h1;rw [if_pos h1] at h2
  split at hb
  ·rename_i h3;rw [if_pos h3] at h2;simp only [Option.some.injEq,Prod.mk.injEq] at hb;obtain ⟨rfl,rfl⟩:=hb;exact ⟨h2.1,h2.2,hk⟩
  ·rename_i h3;rw [if_neg h3] at h2
   split at hb
   ·rename_i h4;rw [if_pos h4] at h2;simp only [Option.some.injEq,Prod.mk.injEq] at hb;obtain ⟨rfl,rfl⟩:=hb;exact ⟨h2.1,h2.2,hk⟩
   ·simp at hb
 ·rename_i h1;rw [if_neg h1] at h2;simp only [Option.some.injEq,Prod.mk.injEq] at hb;obtain ⟨rfl,rfl⟩:=hb;exact ⟨h2.1,h2.2,hk⟩
theorem Zo4 {w:World} {R:Nat} {s:ByteArray} {p:Nat} (h:Cu w R s p) (hs:s.size<=100) (hp:p < s.size) (hb:JU s p=none) :
  Calls Tryz.prog 60 #[.pointer (some ⟨R,0,none⟩)] w fun e w'=>e = .returned (.tuple #[.agg #[.int .i64 0,.string ⟨#[]⟩],.iface 94 (.agg #[.int .i64 ((p + 1:Nat):Int)])])/\Cu w' R s ((p + 1:Nat):Int)/\Za (fun k=>k=R) w w':=by
 refine (ZmA h hs hp).mono ?_;rintro e w' ⟨hk,h2⟩;unfold JU at hb
 split at hb
 ·rename_i h1;rw [if_pos h1] at h2
  split at hb
  ·simp at hb
  ·rename_i h3;rw [if_neg h3] at h2
   split at hb
   ·simp at hb
   ·rename_i h4;rw [if_neg h4] at h2;exact ⟨h2.1,h2.2,hk⟩
 ·simp at hb
def Zbf (s:ByteArray) (w:World) (e:Ending) (w':World):Prop :=
 Za N0_ w w'/\match ZF s with
 | .error x=>e = .returned (.tuple #[.slice none 0 0,.iface 94 (.agg #[.int .i64 (x:Int)])])
 | .ok L =>∃v,e = .returned (.tuple #[v,.nilIface])/\BR w' w.heap.size v L
theorem Zcx {s:ByteArray} {x:Nat} {w w':World} (h:ZF s = .error x) (k:Za N0_ w w'):Zbf s w (.returned (.tuple #[.slice none 0 0,.iface 94 (.agg #[.int .i64 (x:Int)])])) w':=by
 unfold Zbf;rw [h];exact ⟨k,rfl⟩
theorem Zhy {s:ByteArray} {L:List Bt} {v:Value} {w w':World} (h:ZF s = .ok L) (k:Za N0_ w w') (hB:BR w' w.heap.size v L):Zbf s w (.returned (.tuple #[v,.nilIface])) w':=by
 unfold Zbf;rw [h];exact ⟨k,v,rfl,hB⟩
theorem ZfH (s:ByteArray) (w:World) (hs63:s.size<=1048576):Calls Tryz.prog 37 #[.string s] w (Zbf s w):=by
 by_cases hs:100 < s.size
 ·have HE:Hid (ZF s = .error 100):=(by show _ = _; unfold ZF; rw [if_pos hs]);have hz:(100:Int) < (s.size:Int):=by omega
  go_enter Tryz.func37,Tryz.ntmps37;go_wp2_with fail;go_ret2;exact Zcx HE.out (Za.refl _ _)
 ·have hz:¬ (100:Int) < (s.size:Int):=by omega
  have hn1 :∀(t:TypeId) (y:Value) (w:World),(binOp BinOp.neq 90 (.iface t y) .nilIface).run Tryz.prog w = .ok (.bool true) w:=fun _ _ _=>by kernel_rfl
  have hn0 :∀(w:World),(binOp BinOp.neq 90 .nilIface .nilIface).run Tryz.prog w = .ok (.bool false) w:=fun _=>by kernel_rfl
  obtain ⟨r,hr⟩ :∃r,Zb3 s (s.size + 1) 0 []=r:=⟨_,rfl⟩;have HR0:Hid (Zb3 s (s.size + 1) 0 []=r):=hr;have HE:Hid (ZF s=r):=(by show _ = _; unfold ZF; rw [if_neg hs]; exact hr);clear hr;go_enter Tryz.func37,Tryz.ntmps37;go_upto_region 5 with fail;have kA:Za N0_ w (w.alloc (.cells #[.string s,.int .i64 0] 124)):=(Za.refl _ w).alloc _;have hC:Cu (w.alloc (.cells #[.string s,.int .i64 0] 124)) w.heap.size s ((0:Nat):Int):=heap_alloc_new w _;have hRw:w.heap.size<=w.heap.size:=Nat.le_refl _;generalize w.alloc (.cells #[.string s,.int .i64 0] 124)=w1 at kA hC ⊢;generalize hRe:w.heap.size=R at hC hRw ⊢;have HRe:Hid (w.heap.size=R):=hRe;clear hRe hRw;go_wp2;go_loopg [4,6,7] (s.size + 1) (fun gl s4 _ _ wr =>∃(p:Nat) (acc:List Bt) (v:Value),s.size < p + gl/\p<=s.size/\s4=v/\BR wr R v acc/\(∀k,v.ownBlock=some k->k≠R)/\Few p acc/\Cu wr R s (p:Int)/\Hid (Zb3 s gl p acc=r)/\Za N0_ w wr)
  case atStart=>exact ⟨0,[],_,by omega,by omega,rfl,World.ownsRow_nil _ _ _ _,fun k h=>by simp [Value.ownBlock] at h,⟨by simp,by simp⟩,hC,HR0,kA⟩
  case round =>
   clear hC kA HR0;obtain ⟨p,acc,v,hgl,hp,rfl,hB,hvR,hf,hC,HR,hK⟩:=hrel;obtain ⟨f,rfl⟩ :∃f,gk=f + 1:=⟨gk - 1,by omega⟩;obtain ⟨av,cv,hv⟩:=Zd hB
   by_cases hlt:p < s.size
   ·have hRl:R < wr.heap.size:=hC.lt;have hKR :∀{wa wb:World},Za N0_ w wa->Za (fun k=>k=R) wa wb->Za N0_ w wb:=fun h1 h2=>h1.trans' h2 (fun i hi h=>by have:=HRe.out; omega)
    cases hb:JU s p with
    | none =>
      have HX:Hid (r = .error (p + 1)):=(by show _ = _; rw [<- HR.out,Jn s p hlt,hb]);subst hv;go_wp2_with (first
       | (go_at_call 54; refine (JJ hC hlt).mono ?_; rintro e w2 ⟨rfl,n,hn⟩; have hC2:Cu w2 R s (p:Int):=(by rw [hn]; exact hC.drewN n); have hK2:Za N0_ w w2:=(by rw [hn]; exact hK.drewN n); clear hn)
       | (go_at_call 60; refine (Zo4 hC2 (by omega) hlt hb).mono ?_; rintro e w3 ⟨rfl,hC3,hk3⟩))
      go_ret2;exact Zcx (HE.out.trans HX.out) ((hKR hK2 hk3).alloc _)
    | some v =>
      obtain ⟨x,q⟩:=v;obtain ⟨hpq,hq,hxs⟩:=ZmB hlt hb;have HX:Hid (Zb3 s f q (jnB acc x)=r):=(by show _ = _; rw [<- HR.out,Jn s p hlt,hb]);have HF2:Hid (Few q (jnB acc x)):=(by
       show Few _ _;unfold jnB
       split
       ·exact (Zf4 hf hxs).mono (by omega)
       ·exact (hf.snoc (by omega)).mono (by omega))
      have HB:Hid (JU s p=some (x,q)):=hb;clear hb;subst hv;go_upto_region 9 with (first
       | (go_at_call 54; refine (JJ hC hlt).mono ?_; rintro e w2 ⟨rfl,n,hn⟩; have hC2:Cu w2 R s (p:Int):=(by rw [hn]; exact hC.drewN n); have hK2:Za N0_ w w2:=(by rw [hn]; exact hK.drewN n); have hB2:BR w2 R (.slice av acc.length cv) acc:=(by rw [hn]; exact Z6 hB rfl); clear hn)
       | (go_at_call 60; refine (Zo3 hC2 (by omega) hlt HB.out).mono ?_; rintro e w3 ⟨rfl,hC3,hk3⟩))
      have hB3:BR w3 R (.slice av acc.length cv) acc:=Zb hB2 hk3 hvR;have kB:Za N0_ w3 (w3.alloc (.cells #[.int .i64 x.1,.string x.2] 73)):=(Za.refl _ _).alloc _;have hQ:Bk (w3.alloc (.cells #[.int .i64 x.1,.string x.2] 73)) w3.heap.size 73 [.int .i64 x.1,.string x.2]:=Qz w3 _ _;have hB4:BR (w3.alloc (.cells #[.int .i64 x.1,.string x.2] 73)) R (.slice av acc.length cv) acc:=Zb hB3 kB (fun _ _ h=>h);have hC4:=hC3.keeps kB id;have hK4:=(hKR hK2 hk3).trans kB;clear hB hB2 hB3 hC hC2 hC3 hK hK2 hk3 kB;generalize w3.alloc (.cells #[.int .i64 x.1,.string x.2] 73)=w4 at hQ hB4 hC4 hK4 ⊢;generalize w3.heap.size=Q at hQ ⊢;have q0:w4.cell? ⟨Q,0,none⟩=some (.int .i64 x.1):=by rw [hQ.cell]; rfl
      have q1:w4.cell? ⟨Q,1,none⟩=some (.string x.2):=by rw [hQ.cell]; rfl
      have hcall:=Zjp x hB4 (by have:=hC4.lt; omega) (hf.mono (by omega)) (by omega);clear hQ;go_wp2_with (first
       | (go_at_call 61; refine hcall.mono ?_; rintro e w5 ⟨v',rfl,hB5,hk5⟩; obtain ⟨a5,c5,hv5⟩:=Zd hB5; subst hv5))
      go_roundg (f + 1 - 1)
      case measure=>omega
      case rel =>
       refine ⟨q,jnB acc x,_,by omega,hq,rfl,hB5,?_,HF2.out,hC4.keeps hk5 (fun h=>hvR _ h rfl),HX,hK4.trans' hk5 (fun i hi h=>by have:=(hB4.lt i h).1; have:=HRe.out; omega)⟩;intro k hk he;subst he;obtain ⟨c2,h2⟩:=Zda hB5 hk;have h3:=hC4.keeps hk5 (fun h=>hvR _ h rfl);unfold Cu at h3;rw [h3] at h2; simp at h2
   ·have hpe:p=s.size:=by omega
    have HX:Hid (r = .ok acc):=(by show _ = _; rw [<- HR.out,Zb3,if_pos (by omega)]);subst hv;go_wp2_with (first
     | (go_at_call 54; refine (Zbp hC hpe).mono ?_; rintro e w2 ⟨rfl,n,rfl⟩))
    go_ret2;exact Zhy (HE.out.trans HX.out) (hK.drewN _) (by rw [HRe.out]; exact Z6 hB rfl)
end Go.Proofs.YtfkflljplohhcaaGreatDoor
namespace Go.Proofs.YtfkflljplohhcaaGreatDoor
open Go.RowKit Go.Extern.Stop Go.Stop Go.Extern
set_option linter.unusedVariables false
theorem Zst (t:Value) (w:World):Calls Tryz.prog 38 #[.nilIface,t] w fun e w'=>e = .returned (.bool false)/\w'=w:=by
 go_enter Tryz.func38,Tryz.ntmps38;go_wp2;go_ret;exact ⟨rfl,rfl⟩
theorem ZhD (t:Addr) (w:World):(ReflectliteValue.unpack (.iface 96 (.pointer (some t)))).run Tryz.prog w
  = .ok (.agg #[.pointer (some ⟨1,96,none⟩),.pointer (some ⟨w.heap.size,0,none⟩),.int .u64 150]) (w.alloc (.cells #[.pointer (some t)] 96)):=by kernel_rfl
theorem as_typeP (a : Addr) (w : World) : (ReflectliteValue.methodAny (ReflectliteValue.valueError "reflectlite.Value.Type" 0) (fun t _ _ _ => ReflectliteType.toType t) #[.agg #[.pointer (some ⟨1, 96, none⟩), .pointer (some a), .int .u64 150]]).run Tryz.prog w
  = .ok (.iface 190 (.agg #[.pointer (some ⟨1,96,none⟩)])) w:=by kernel_rfl
theorem as_methodKind (h : Value) (w : World) : (Go.method 388 190 (.agg #[h]) "Kind").run Tryz.prog w = .ok (175, h) w := by kernel_rfl
theorem Zpe (w:World):((ReflectliteType.abiMethod fun t=>(fun a:Nat=>Value.int IntKind.u8 (a:Int)) <$> Rtype.kind t) #[.pointer (some ⟨1,96,none⟩)]).run Tryz.prog w = .ok (.int .u8 22) w:=by kernel_rfl
theorem Zpd (w:World):((ReflectliteType.abiMethod fun t=>(fun a:Nat=>Value.int IntKind.u8 (a:Int)) <$> Rtype.kind t) #[.pointer (some ⟨1,94,none⟩)]).run Tryz.prog w = .ok (.int .u8 25) w:=by kernel_rfl
theorem ZpX (z:Sem Value) (f:TypeId->Addr->Nat->Nat->Sem Value) (v:Value) :
  ReflectliteValue.method z f #[v]=(do match <- ReflectliteValue.parts v with | none=>z | some (t,a,fl)=>f t a fl (fl % 32)):=rfl
theorem Zgh (a:Addr) (w:World):(ReflectliteValue.parts (.agg #[.pointer (some ⟨1,96,none⟩),.pointer (some a),.int .u64 150])).run Tryz.prog w = .ok (some (96,a,150)) w:=by kernel_rfl
theorem ZmI (a p:Addr) (W:World) (ha:W.cell? a=some (.pointer (some p))) :
  (ReflectliteValue.method (ReflectliteValue.valueError "reflectlite.Value.IsNil" 0) ReflectliteValue.isNil #[.agg #[.pointer (some ⟨1, 96, none⟩), .pointer (some a), .int .u64 150]]).run Tryz.prog W = .ok (.bool false) W := by
 rw [ZpX];simp only [Sem.run_bind,Zgh,Result.andThen];simp [ReflectliteValue.isNil,loadVar,isAgg,underlying,Tryz.underlying96,ha,Result.andThen]
theorem as_methodElem (h : Value) (w : World) : (Go.method 388 190 (.agg #[h]) "Elem").run Tryz.prog w = .ok (200, .agg #[h]) w := by kernel_rfl
theorem as_methodImpl (h : Value) (w : World) : (Go.method 388 190 (.agg #[h]) "Implements").run Tryz.prog w = .ok (201, .agg #[h]) w := by kernel_rfl
theorem as_methodAssign (h : Value) (w : World) : (Go.method 388 190 (.agg #[h]) "AssignableTo").run Tryz.prog w = .ok (198, .agg #[h]) w := by kernel_rfl
theorem Zph (w:World):(ReflectliteType.method ReflectliteType.elem #[.agg #[.pointer (some ⟨1,96,none⟩)]]).run Tryz.prog w = .ok (.iface 190 (.agg #[.pointer (some ⟨1,94,none⟩)])) w:=by kernel_rfl
theorem as_implS (w : World) : (ReflectliteType.relation "Implements" ReflectliteType.implements_ #[.agg #[.pointer (some ⟨1, 94, none⟩)], .iface 190 (.agg #[.pointer (some ⟨1, 90, none⟩)])]).run Tryz.prog w = .ok (.bool true) w := by kernel_rfl
theorem ZjZ (v:Value) (w:World):(ReflectliteType.typeOf #[.iface 94 v]).run Tryz.prog w = .ok (.iface 190 (.agg #[.pointer (some ⟨1,94,none⟩)])) w:=by kernel_rfl
theorem as_assignS (w : World) : (ReflectliteType.relation "AssignableTo" ReflectliteType.assignableTo #[.agg #[.pointer (some ⟨1, 94, none⟩)], .iface 190 (.agg #[.pointer (some ⟨1, 94, none⟩)])]).run Tryz.prog w = .ok (.bool true) w := by kernel_rfl
theorem ZhC (n:Int) (w:World):(ReflectliteValue.unpack (.iface 94 (.agg #[.int .i64 n]))).run Tryz.prog w
  = .ok (.agg #[.pointer (some ⟨1,94,none⟩),.pointer (some ⟨w.heap.size,0,none⟩),.int .u64 153]) (w.alloc (.cells #[.int .i64 n] 94)):=by kernel_rfl
theorem Zj1 (w:World):(Rtype.elem? 96).run Tryz.prog w = .ok (some 94) w:=by kernel_rfl
theorem Zsu (p:Addr) (w:World):(ReflectliteValue.mk 94 p ReflectliteValue.flagAddr).run Tryz.prog w = .ok (.agg #[.pointer (some ⟨1,94,none⟩),.pointer (some p),.int .u64 409]) w:=by kernel_rfl
theorem Zpg (a p:Addr) (W:World) (ha:W.cell? a=some (.pointer (some p))) :
  (ReflectliteValue.method (ReflectliteValue.valueError "reflectlite.Value.Elem" 0) ReflectliteValue.elem #[.agg #[.pointer (some ⟨1, 96, none⟩), .pointer (some a), .int .u64 150]]).run Tryz.prog W
   = .ok (.agg #[.pointer (some ⟨1,94,none⟩),.pointer (some p),.int .u64 409]) W:=by
 rw [ZpX];simp only [Sem.run_bind,Zgh,Result.andThen];simp [ReflectliteValue.elem,loadVar,isAgg,underlying,Tryz.underlying96,ha,Result.andThen,Zj1,Zsu]
theorem Zss (v x:Value):ReflectliteValue.set #[v,x]=(do
  let (some (dst,a,fl),some (src,b,_)):=(<- ReflectliteValue.parts v,<- ReflectliteValue.parts x)
   | unsupported (.noEntry "extern/(internal/reflectlite.Value).Set.zeroValue")
  if fl / ReflectliteValue.flagAddr % 2 == 0 then unsupported (.noEntry "extern/(internal/reflectlite.Value).Set.unaddressable")
  let val <- loadVar src b
  if <- Rtype.directlyAssignable dst src then storeVar dst a val
  else if <- Rtype.implements dst src then
   if (<- Rtype.kind src) == 20 then
    match val with
    | .nilIface => unsupported (.noEntry "extern/reflectlite: a nil value of one interface type handed on as a value of another")
    | _=>storeVar dst a val
   else storeVar dst a (.iface src val)
  else panicString ("reflectlite.Set: value of type " ++ (← Rtype.spelt src) ++ " is not assignable to type " ++ (← Rtype.spelt dst))
  pure (.tuple #[])):=rfl
theorem Zj0 (a:Addr) (w:World):(ReflectliteValue.parts (.agg #[.pointer (some ⟨1,94,none⟩),.pointer (some a),.int .u64 409])).run Tryz.prog w = .ok (some (94,a,409)) w:=by kernel_rfl
theorem ZmH (a:Addr) (w:World):(ReflectliteValue.parts (.agg #[.pointer (some ⟨1,94,none⟩),.pointer (some a),.int .u64 153])).run Tryz.prog w = .ok (some (94,a,153)) w:=by kernel_rfl
theorem Zj2 (w:World):(Rtype.directlyAssignable 94 94).run Tryz.prog w = .ok true w:=by kernel_rfl
theorem Zrk (ta b:Nat) (n:Int) (old:Value) (W:World) (hb:W.cell? ⟨b,0,none⟩=some (.int .i64 n)) (ht:W.cell? ⟨ta,0,none⟩=some old) (hf:W.frozen? ⟨ta,0,none⟩=false) :
  (ReflectliteValue.set #[.agg #[.pointer (some ⟨1,94,none⟩),.pointer (some ⟨ta,0,none⟩),.int .u64 409],.agg #[.pointer (some ⟨1,94,none⟩),.pointer (some ⟨b,0,none⟩),.int .u64 153]]).run Tryz.prog W
   = .ok (.tuple #[]) (W.setCell ⟨ta,0,none⟩ (.int .i64 n)):=by
 rw [Zss];simp only [Sem.run_bind,Zj0,ZmH,Result.andThen];have hsz :∀w:World,(sizeOf 94).run Tryz.prog w = .ok 1 w:=fun _=>by kernel_rfl
 have hlc:(loadCells ⟨b,0,none⟩ 1).run Tryz.prog W = .ok #[.int .i64 n] W:=run_loadCells_list _ _ [Value.int IntKind.i64 n] (by
  intro j v hj
  match j,hj with
  | 0,hj=>simp at hj; subst hj; simpa [Addr.add] using hb)
 simp [ReflectliteValue.flagAddr,loadVar,isAgg,underlying,Tryz.underlying94,Result.andThen,Zj2,storeVar,Value.cells,hsz,hlc,storeCells,Addr.add];rw [run_store Tryz.prog W ⟨ta,0,none⟩ _ _ (by rfl)];simp [ht,hf]
def asW (t:Nat) (n:Int) (w:World):World:=((((w.alloc (.cells #[.pointer (some ⟨t,0,none⟩)] 96)).alloc (.cells #[.pointer (some ⟨1,96,none⟩),.pointer (some ⟨w.heap.size,0,none⟩),.int .u64 150] 142)).alloc (.cells #[.pointer (some ⟨1,96,none⟩),.pointer (some ⟨w.heap.size,0,none⟩),.int .u64 150] 142)).alloc (.cells #[.int .i64 n] 94)).setCell ⟨t,0,none⟩ (.int .i64 n)
theorem ZmJ (t:Nat) (n:Int) (w:World):Za (fun k=>k=t) w (asW t n w):=(((((Za.refl (fun k=>k=t) w).alloc _).alloc _).alloc _).alloc _).setCell (fun _=>rfl) _
theorem Zsv (n:Int) (t:Nat) (old:Value) (w:World) (hg:w.cell? ⟨0,0,none⟩=some (.iface 190 (.agg #[.pointer (some ⟨1,90,none⟩)]))) (ht0:w.cell? ⟨t,0,none⟩=some old) (hf0:w.frozen? ⟨t,0,none⟩=false) :
  Calls Tryz.prog 38 #[.iface 94 (.agg #[.int .i64 n]),.iface 96 (.pointer (some ⟨t,0,none⟩))] w fun ev w'=>ev = .returned (.bool true)/\w'=asW t n w:=by
 unfold asW;have h6 := @run_callFunc_extern Tryz.prog 62 _ (fun args=>ReflectliteValue.unpack (args.getD 0 (.tuple #[]))) Tryz.func62 (by kernel_rfl) (by kernel_rfl) (by kernel_rfl) (by kernel_rfl)
 have h7 := @run_callFunc_extern Tryz.prog 63 _ (ReflectliteValue.methodAny (ReflectliteValue.valueError "reflectlite.Value.Type" 0) (fun t _ _ _ => ReflectliteType.toType t)) Tryz.func63 (by kernel_rfl) (by kernel_rfl) (by kernel_rfl) (by kernel_rfl)
 have h8 := @run_callFunc_extern Tryz.prog 64 _ (ReflectliteValue.method (ReflectliteValue.valueError "reflectlite.Value.IsNil" 0) ReflectliteValue.isNil) Tryz.func64 (by kernel_rfl) (by kernel_rfl) (by kernel_rfl) (by kernel_rfl)
 have h27 := @run_callFunc_extern Tryz.prog 175 _ (ReflectliteType.abiMethod fun t=>do pure (.int .u8 (<- Rtype.kind t))) Tryz.func175 (by kernel_rfl) (by kernel_rfl) (by kernel_rfl) (by kernel_rfl);have h37 := @run_callFunc_extern Tryz.prog 200 _ (ReflectliteType.method ReflectliteType.elem) Tryz.func200 (by kernel_rfl) (by kernel_rfl) (by kernel_rfl) (by kernel_rfl)
 have h38 := @run_callFunc_extern Tryz.prog 201 _ (ReflectliteType.relation "Implements" ReflectliteType.implements_) Tryz.func201 (by kernel_rfl) (by kernel_rfl) (by kernel_rfl) (by kernel_rfl)
 have h10 := @run_callFunc_extern Tryz.prog 87 _ ReflectliteType.typeOf Tryz.func87 (by kernel_rfl) (by kernel_rfl) (by kernel_rfl) (by kernel_rfl)
 have h35 := @run_callFunc_extern Tryz.prog 198 _ (ReflectliteType.relation "AssignableTo" ReflectliteType.assignableTo) Tryz.func198 (by kernel_rfl) (by kernel_rfl) (by kernel_rfl) (by kernel_rfl)
 have h11 := @run_callFunc_extern Tryz.prog 88 _ (ReflectliteValue.method (ReflectliteValue.valueError "reflectlite.Value.Elem" 0) ReflectliteValue.elem) Tryz.func88 (by kernel_rfl) (by kernel_rfl) (by kernel_rfl) (by kernel_rfl)
 have h12 := @run_callFunc_extern Tryz.prog 89 _ ReflectliteValue.set Tryz.func89 (by kernel_rfl) (by kernel_rfl) (by kernel_rfl) (by kernel_rfl);have tO:=ZjZ;have mA:=as_methodAssign;have a25:=as_assignS;have v25:=ZhC;have f6:=ZhD;have f7:=as_typeP;have mK:=as_methodKind;have mE:=as_methodElem;have mI:=as_methodImpl;have k27:=Zpe;have k25:=Zpd;have e27:=Zph;have i25:=as_implS;have n8:=ZmI ⟨w.heap.size,0,none⟩ ⟨t,0,none⟩ ((w.alloc (.cells #[.pointer (some ⟨t,0,none⟩)] 96)).alloc (.cells #[.pointer (some ⟨1,96,none⟩),.pointer (some ⟨w.heap.size,0,none⟩),.int .u64 150] 142)) (by simp);have hlt:0 < w.heap.size:=by
  rcases Nat.eq_zero_or_pos w.heap.size with h0 | h
  ·simp [World.cell?,h0] at hg
  ·exact h
 have hg2:((w.alloc (.cells #[.pointer (some ⟨t,0,none⟩)] 96)).alloc (.cells #[.pointer (some ⟨1,96,none⟩),.pointer (some ⟨w.heap.size,0,none⟩),.int .u64 150] 142)).cell? ⟨0,0,none⟩=some (.iface 190 (.agg #[.pointer (some ⟨1,90,none⟩)])):=by
  rw [World.cell?_alloc_lt _ _ ⟨0,0,none⟩ (by simp),World.cell?_alloc_lt _ _ ⟨0,0,none⟩ hlt]; exact hg
 have htl:t < w.heap.size:=by
  rcases Nat.lt_or_ge t w.heap.size with h | h
  ·exact h
  ·simp [World.cell?,Array.getElem?_eq_none h] at ht0
 have el:=Zpg ⟨w.heap.size,0,none⟩ ⟨t,0,none⟩ (((w.alloc (.cells #[.pointer (some ⟨t,0,none⟩)] 96)).alloc (.cells #[.pointer (some ⟨1,96,none⟩),.pointer (some ⟨w.heap.size,0,none⟩),.int .u64 150] 142)).alloc (.cells #[.pointer (some ⟨1,96,none⟩),.pointer (some ⟨w.heap.size,0,none⟩),.int .u64 150] 142)) (by rw [World.cell?_alloc_lt _ _ ⟨w.heap.size,0,none⟩ (by simp; omega)]; simp);have st:=Zrk t (w.heap.size + 1 + 1 + 1) n old ((((w.alloc (.cells #[.pointer (some ⟨t,0,none⟩)] 96)).alloc (.cells #[.pointer (some ⟨1,96,none⟩),.pointer (some ⟨w.heap.size,0,none⟩),.int .u64 150] 142)).alloc (.cells #[.pointer (some ⟨1,96,none⟩),.pointer (some ⟨w.heap.size,0,none⟩),.int .u64 150] 142)).alloc (.cells #[.int .i64 n] 94))
  (by rw [World.cell?_alloc_at _ _ _ _ (by simp)]; rfl)
  (by rw [World.cell?_alloc_lt _ _ ⟨t,0,none⟩ (by simp; omega),World.cell?_alloc_lt _ _ ⟨t,0,none⟩ (by simp; omega),World.cell?_alloc_lt _ _ ⟨t,0,none⟩ (by simp; omega),World.cell?_alloc_lt _ _ ⟨t,0,none⟩ htl]; exact ht0)
  (by rw [World.frozen?_alloc_old _ _ ⟨t,0,none⟩ (by simp; omega),World.frozen?_alloc_old _ _ ⟨t,0,none⟩ (by simp; omega),World.frozen?_alloc_old _ _ ⟨t,0,none⟩ (by simp; omega),World.frozen?_alloc_old _ _ ⟨t,0,none⟩ (Nat.ne_of_lt htl)]; exact hf0)
 go_enter Tryz.func38,Tryz.ntmps38;go_wp2;refine wp_loop_rounds 1 ?_;rw [rounds_succ];go_wp2;go_ret;exact ⟨rfl,rfl⟩
end Go.Proofs.YtfkflljplohhcaaGreatDoor
namespace Go.Proofs.YtfkflljplohhcaaGreatDoor
open Go.RowKit
set_option linter.unusedVariables false
def tOk:Except Nat (List Bt)->Bool
 | .ok _=>true
 | .error _=>false
def tAt:Except Nat (List Bt)->Int
 | .ok _=>0
 | .error x=>x
def tL:Except Nat (List Bt)->List Bt
 | .ok L=>L
 | .error _ => []
theorem Zkn (s:ByteArray):Few 100 (tL (ZF s)):=by
 cases h:ZF s with
 | error x=>exact ⟨by simp [tL],by simp [tL]⟩
 | ok L=>exact ZiS h
def Hdl (w:World):Prop:=w.cell? ⟨0,0,none⟩=some (.iface 190 (.agg #[.pointer (some ⟨1,90,none⟩)]))
theorem Hdl.lt {w:World} (h:Hdl w):0 < w.heap.size:=by
 unfold Hdl at h
 rcases Nat.eq_zero_or_pos w.heap.size with h0 | h1
 ·simp [World.cell?,h0] at h
 ·exact h1
theorem Hdl.keeps {w w':World} {E:Nat->Prop} (h:Hdl w) (k:Za E w w') (hE:¬ E 0):Hdl w':=by
 have hl:=h.lt;unfold Hdl at h ⊢;rw [<- h];simp only [World.cell?,k.block 0 hl hE]
def Zcm (s:ByteArray) (w:World) (e:Ending) (w':World):Prop :=∃v,e = .returned (.agg #[.bool (tOk (ZF s)),.int .i64 (tAt (ZF s)),v])/\BR w' w.heap.size v (tL (ZF s))/\Za N0_ w w'
theorem Zbw (s:ByteArray) (w:World) (hs63:s.size<=1048576) (hh:Hdl w):Calls Tryz.prog 19 #[.string s] w (Zcm s w):=by
 go_enter Tryz.func19,Tryz.ntmps19;go_upto_region 1 with fail;have kA:Za N0_ w (w.alloc (.cells #[.bool false,.int .i64 0,.slice none 0 0] 56)):=(Za.refl _ w).alloc _;have hP:Bk (w.alloc (.cells #[.bool false,.int .i64 0,.slice none 0 0] 56)) w.heap.size 56 [.bool false,.int .i64 0,.slice none 0 0]:=Qz w _ _;have hw:=hh.lt;have hh1:=hh.keeps kA id;generalize w.alloc (.cells #[.bool false,.int .i64 0,.slice none 0 0] 56)=w1 at kA hP hh1 ⊢;generalize hPe:w.heap.size=P at hP hw ⊢;have HP:Hid (w.heap.size=P):=hPe;clear hPe hh;have hcall:=ZfH s w1 hs63;unfold Zbf at hcall
 cases hr:ZF s with
 | error x =>
   have HR:Hid (ZF s = .error x):=hr;rw [hr] at hcall;simp only at hcall;clear hr;go_upto_region 3 with (first
    | (go_at_call 37; refine hcall.mono ?_; rintro e w2 ⟨hk2,rfl⟩))
   have kB:Za N0_ w1 (w2.alloc (.cells #[.int .i64 0] 94)):=hk2.alloc _;have hM:Bk (w2.alloc (.cells #[.int .i64 0] 94)) w2.heap.size 94 [.int .i64 0]:=Qz w2 _ _;have hP2:=hP.keeps kB id;have hh2:=hh1.keeps kB id;have hne:w2.heap.size≠P:=by have:=hP.lt; have:=hk2.size; omega
   have hMw:w1.heap.size<=w2.heap.size:=hk2.size;clear hP hh1 hk2 hcall;generalize w2.alloc (.cells #[.int .i64 0] 94)=w3 at kB hM hP2 hh2 ⊢;generalize w2.heap.size=M at hM hne hMw ⊢;have m0:w3.cell? ⟨M,0,none⟩=some (.int .i64 0):=by rw [hM.cell]; rfl
   have mf:=hM.fz 0;have hk4:=ZmJ M (x:Int) w3;have hM4:(asW M (x:Int) w3).cell? ⟨M,0,none⟩=some (.int .i64 (x:Int)):=by
    unfold asW;exact World.cell?_setCell_same' _ _ _ (by
     have h1:((((w3.alloc (.cells #[.pointer (some ⟨M,0,none⟩)] 96)).alloc (.cells #[.pointer (some ⟨1,96,none⟩),.pointer (some ⟨w3.heap.size,0,none⟩),.int .u64 150] 142)).alloc (.cells #[.pointer (some ⟨1,96,none⟩),.pointer (some ⟨w3.heap.size,0,none⟩),.int .u64 150] 142)).alloc (.cells #[.int .i64 (x:Int)] 94)).cell? ⟨M,0,none⟩=some (.int .i64 0):=by
      rw [(hM.keeps ((((((Za.refl N0_ w3).alloc _).alloc _).alloc _).alloc _)) id).cell]; rfl
     rw [h1]; rfl)
   have hP4:=hP2.keeps hk4 (fun h=>hne h.symm);have hcall:=Zsv (x:Int) M (.int .i64 0) w3 hh2 m0 mf;generalize asW M (x:Int) w3=w4 at hk4 hM4 hP4 hcall;have d0:w4.cell? ⟨P,0,none⟩=some (.bool false):=by rw [hP4.cell]; rfl
   have d1:w4.cell? ⟨P,1,none⟩=some (.int .i64 0):=by rw [hP4.cell]; rfl
   have d2:w4.cell? ⟨P,2,none⟩=some (.slice none 0 0):=by rw [hP4.cell]; rfl
   have f0:=hP4.fz 0;have f1:=hP4.fz 1;have f2:=hP4.fz 2;have hP5:=((hP4.set 0 (.bool false)).set 1 (.int .i64 (x:Int))).set 2 (.slice none 0 0);have g0:=hP5.cell 0;have g1:=hP5.cell 1;have g2:=hP5.cell 2;simp only [List.set,List.getElem?_cons_zero,List.getElem?_cons_succ] at g0 g1 g2;have hK:Za N0_ w (((w4.setCell ⟨P,0,none⟩ (.bool false)).setCell ⟨P,1,none⟩ (.int .i64 (x:Int))).setCell ⟨P,2,none⟩ (.slice none 0 0)) :=
    ((((kA.trans kB).trans' hk4 (fun i hi h=>by have:=kA.size; omega)).setCell (fun h=>by have:=HP.out; simp at h; omega) _).setCell (fun h=>by have:=HP.out; simp at h; omega) _).setCell (fun h=>by have:=HP.out; simp at h; omega) _
   clear hP2 hM hk4 hP4 hP5 hh2 m0 mf kA kB;go_wp2_with (first
    | (go_at_call 38; refine hcall.mono ?_; rintro e w5 ⟨rfl,hw5⟩; subst w5))
   refine bodyPost_ret (v:=.agg #[.bool false,.int .i64 (x:Int),.slice none 0 0]) (by simp [results,Tryz.results19,go_sem,g0,g1,g2]) rfl ?_;refine ⟨_,by rw [HR.out]; rfl,?_,hK⟩;rw [HR.out];exact World.ownsRow_nil _ _ _ _
 | ok L =>
   have HR:Hid (ZF s = .ok L):=hr;rw [hr] at hcall;simp only at hcall;clear hr;go_upto_region 3 with (first
    | (go_at_call 37; refine hcall.mono ?_; rintro e w2 ⟨hk2,v,rfl,hB⟩; obtain ⟨av,cv,hv⟩:=Zd hB; subst hv))
   have kB:Za N0_ w1 (w2.alloc (.cells #[.int .i64 0] 94)):=hk2.alloc _;have hP2:=hP.keeps kB id;have hB2:=Zb hB ((Za.refl N0_ w2).alloc (.cells #[.int .i64 0] 94)) (fun _ _ h=>h);clear hP hh1 hk2 hcall hB;generalize w2.alloc (.cells #[.int .i64 0] 94)=w3 at kB hP2 hB2 ⊢;generalize w2.heap.size=M at ⊢;have hBk :∀k,(Value.slice av L.length cv).ownBlock=some k->k≠P:=by
    rintro k hk rfl;obtain ⟨c2,h2⟩:=Zda hB2 hk
    have:=hP2
    unfold Bk at this;rw [this] at h2; simp at h2
   have d0:w3.cell? ⟨P,0,none⟩=some (.bool false):=by rw [hP2.cell]; rfl
   have d1:w3.cell? ⟨P,1,none⟩=some (.int .i64 0):=by rw [hP2.cell]; rfl
   have d2:w3.cell? ⟨P,2,none⟩=some (.slice none 0 0):=by rw [hP2.cell]; rfl
   have f0:=hP2.fz 0;have f1:=hP2.fz 1;have f2:=hP2.fz 2;have hP5:=((hP2.set 0 (.bool true)).set 1 (.int .i64 0)).set 2 (.slice av L.length cv);have g0:=hP5.cell 0;have g1:=hP5.cell 1;have g2:=hP5.cell 2;simp only [List.set,List.getElem?_cons_zero,List.getElem?_cons_succ] at g0 g1 g2;have hK:Za N0_ w (((w3.setCell ⟨P,0,none⟩ (.bool true)).setCell ⟨P,1,none⟩ (.int .i64 0)).setCell ⟨P,2,none⟩ (.slice av L.length cv)) :=
    (((kA.trans kB).setCell (fun h=>by have:=HP.out; simp at h; omega) _).setCell (fun h=>by have:=HP.out; simp at h; omega) _).setCell (fun h=>by have:=HP.out; simp at h; omega) _
   have hB5:=Zb hB2 ((((Za.refl (fun k=>k=P) w3).setCell (a:=⟨P,0,none⟩) (fun _=>rfl) (.bool true)).setCell (a:=⟨P,1,none⟩) (fun _=>rfl) (.int .i64 0)).setCell (a:=⟨P,2,none⟩) (fun _=>rfl) (.slice av L.length cv)) hBk;have hPw:=kA.size;clear hP2 hP5 kA kB hB2 hBk;go_wp2_with (first
    | (go_at_call 38; refine (Zst _ _).mono ?_; rintro e w5 ⟨rfl,hw5⟩; subst w5))
   refine bodyPost_ret (v:=.agg #[.bool true,.int .i64 0,.slice av L.length cv]) (by simp [results,Tryz.results19,go_sem,g0,g1,g2]) rfl ?_;refine ⟨_,by rw [HR.out]; rfl,?_,hK⟩;rw [HR.out];exact Zr hB5 (fun k hk=>Nat.le_trans hPw (hB5.lt k hk).1)
end Go.Proofs.YtfkflljplohhcaaGreatDoor
