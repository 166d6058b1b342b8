import Derived.Test.YtfkflljplohhcaaGreatDoorA
import Derived.Lib.AppendStr
import Derived.Test.YtfkflljplohhcaaGreatDoorC
import Derived.Test.YtfkflljplohhcaaGreatDoorTa
import Derived.Deep.Cut
import Derived.Deep.CutRange
import Derived.Deep.DeepCutAuto
import Derived.Deep.CutBlock
set_option maxHeartbeats 1000000
set_option maxRecDepth 100000
namespace Go.Proofs.YtfkflljplohhcaaGreatDoor
open Go.RowKit
set_option linter.unusedVariables false
def ObB (w:World) (base:Nat) (v:Value) (b:ByteArray):Prop:=w.ownsRow base 5 1 v b.size (Lib.strCells b)
theorem Tryz.infoU8b:(Tryz.prog.info? 5).map (fun i=>(i.zero,i.size,i.bytes))=some (some (.int .u8 0),1,1):=by kernel_rfl
theorem Zfs (a b:ByteArray):Lib.strCells (a ++ b)=Lib.strCells a ++ Lib.strCells b:=by
 unfold Lib.strCells;rw [ByteArray.data_append];simp
theorem Zfe {w:World} {base:Nat} {v:Value} {b:ByteArray} (h:ObB w base v b) (hb:base<=w.heap.size) (s:ByteArray) (hl:b.size + s.size<=1000000000) :
  ∃ao c w',Sem.run Tryz.prog (Builtin.append_ #[22,9] 22 #[v,.string s]) w = .ok (.slice ao (b ++ s).size c) w'/\ObB w' base (.slice ao (b ++ s).size c) (b ++ s)/\Za (fun k=>v.ownBlock=some k) w w':=by
 obtain ⟨i0,hi,hz0,hz1,hz2⟩:=info_parts Tryz.infoU8b;obtain ⟨v',w',hrun,ho,hg,-⟩:=Lib.run_append_own_string (P:=Tryz.prog) w base 22 9 22 5 i0 Tryz.underlying22 Tryz.underlying9 hi hz0 hz1 hz2 v b.size (Lib.strCells b) h s (by unfold maxLen; omega) (by omega) hb;rw [<- Zfs,<- ByteArray.size_append] at ho;obtain ⟨ao,c,rfl⟩:=Zd ho;exact ⟨ao,c,w',hrun,ho,(Za.refl _ w).grown hg (fun k hk _=>hk)⟩
theorem Qn {P:Program} {w:World} {ops:Array Oper} {rest:List Oper} {o:Oper} {a:Act} {Q:Exit->Act->World->Prop} (hgd:o.guard=none) (s x:Operand) (t t2 ty:TypeId)
  (ho:o.op = .call { callee:=.builtin .append,args:=#[s,x],argTypes:=#[t,t2] }) (hty:o.type=ty) (v y v':Value) (w':World) (hs:a.eval s=v) (hx:a.eval x=y)
  (hr:Sem.run P (Builtin.append_ #[t,t2] ty #[v,y]) w = .ok v' w') (h:wpList P ops Q rest (a.put o.dst v') w'):wpList P ops Q (o :: rest) a w :=
 wpList_plain hgd fun _ hK=>by
  unfold Oper.wp execOp;simp only [ho,hty,resolve,invoke,builtin,Sem.run_bind,Sem.run_pure,Result.andThen_ok,List.map_toArray,List.map_cons,List.map_nil,hs,hx,hr];exact hK _ _ h
theorem ZaP {P:Program} {ops:Array Oper} {o:Oper} {a:Act} {w:World} {K:Act->World->Prop} {Q:Exit->Act->World->Prop} {E:Prop}
  (hg:o.guard=none) (s x:Operand) (t t2 ty:TypeId) (hop:o.op=Op.call { callee:=Callee.builtin Builtin.append,args:=#[s,x],argTypes:=#[t,t2] }) (hty:o.type=ty)
  (v y v':Value) (w':World) (hs:a.eval s=v) (hx:a.eval x=y) (hrun:Sem.run P (Builtin.append_ #[t,t2] ty #[v,y]) w = .ok v' w')
  (hK:K (a.put o.dst v') w') :
  if Region.wanted o (yielded ops a.tmps)=true then Oper.wp P o a w K Q else E:=by
 have hw:Region.wanted o (yielded ops a.tmps)=true:=by simp [Region.wanted,hg]
 rw [if_pos hw];unfold Oper.wp;simp [execOp,hop,resolve,invoke,builtin,hs,hx,hty,hrun,Result.andThen];exact hK
theorem ObB.drew {w:World} {base:Nat} {v:Value} {b:ByteArray} (h:ObB w base v b):ObB w.drew base v b:=Z6 h rfl
def JF (u:ByteArray) (m:Mt) (b:Bt):ByteArray :=
 if b.1 < 0 then b.2 else if b.1=0 then u.extract m.fr.toNat m.up.toNat
 else if 0<=(m.gs.getD (b.1 - 1).toNat (0,0)).1 then u.extract (m.gs.getD (b.1 - 1).toNat (0,0)).1.toNat (m.gs.getD (b.1 - 1).toNat (0,0)).2.toNat else ByteArray.empty
def JZ (u:ByteArray) (m:Mt) (l:List Bt):ByteArray:=l.foldl (fun o b=>o ++ JF u m b) ByteArray.empty
theorem Zcf (u:ByteArray) (m:Mt) (l:List Bt) (b:Bt):JZ u m (l ++ [b])=JZ u m l ++ JF u m b:=by simp [JZ]
theorem Zdn (l:List (Int×Int)) (j:Nat) (h:j < l.length):(ZB l)[j * 2]? = some (.int .i64 (l.getD j (0,0)).1)/\(ZB l)[j * 2 + 1]? = some (.int .i64 (l.getD j (0,0)).2):=by
 induction l generalizing j with
 | nil=>simp at h
 | cons r l ih =>
   cases j with
   | zero=>simp [ZB]
   | succ j =>
     have:=ih j (by simpa using h)
     have e:ZB (r :: l) = .int .i64 r.1 :: .int .i64 r.2 :: ZB l:=by simp [ZB]
     rw [e];have e1:(j + 1) * 2=j * 2 + 1 + 1:=by omega
     rw [e1];simpa using this
def InM (N:Nat) (m:Mt):Prop:=0<=m.fr/\m.fr<=m.up/\m.up<=(N:Int)/\m.gs.length<=9/\∀g∈m.gs,g.1 < 0\/(0<=g.1/\g.1<=g.2/\g.2<=(N:Int))
theorem ZjD {u:ByteArray} {m:Mt} {b:Bt} (hu:u.size<=200) (hb:b.2.size<=100):(JF u m b).size<=200:=by
 unfold JF
 split
 ·omega
 ·split
  ·rw [ByteArray.size_extract]; omega
  ·split
   ·rw [ByteArray.size_extract]; omega
   ·exact Nat.zero_le _
theorem Zba {u:ByteArray} {m:Mt} (hu:u.size<=200) :∀(l:List Bt),(∀b∈l,b.2.size<=100)->(JZ u m l).size<=200 * l.length:=by
 intro l;refine ZcF (M:=fun l=>(∀b∈l,b.2.size<=100)->(JZ u m l).size<=200 * l.length) (fun _=>Nat.zero_le _) ?_ l;intro l b ih
 ·intro h;have h1:=ih (fun x hx=>h x (by simp [hx]));have h2:=ZjD (m:=m) hu (h b (by simp));rw [Zcf,ByteArray.size_append,List.length_append];simp only [List.length_cons,List.length_nil];omega
theorem Zjm {w:World} {u:ByteArray} {m:Mt} {L:List Bt} {tv gv:Value} {ok:Bool} {at_:Int} {base:Nat} (hT:BR w base tv L) (hG:SpR w gv m.gs) (hm:InM u.size m) (hu:u.size<=200) (hL:L.length<=100) (hLs :∀b∈L,b.2.size<=100/\b.1<=(m.gs.length:Int)) :
  Calls Tryz.prog 30 #[.agg #[.bool ok,.int .i64 at_,tv],.string u,.agg #[.bool m.ok,.int .i64 m.fr,.int .i64 m.up,gv]] w fun e w'=>e = .returned (.string (JZ u m L))/\Za N0_ w w':=by
 obtain ⟨aT,cT,rfl⟩:=Zd hT;obtain ⟨aG,cG,rfl⟩:=Zd hG;obtain ⟨i1,i2,i3,i4,i5⟩:=hm;obtain ⟨fN,hfN⟩ :∃fN:Nat,m.fr=(fN:Int):=⟨m.fr.toNat,by omega⟩;obtain ⟨tN,htN⟩ :∃tN:Nat,m.up=(tN:Int):=⟨m.up.toNat,by omega⟩;go_enter Tryz.func30,Tryz.ntmps30;have HB:Hid (∀b∈L,b.2.size<=100/\b.1<=(m.gs.length:Int)):=hLs;have HSz:Hid (∀k,(JZ u m (L.take k)).size<=20000):=fun k=>by
  have h1:=Zba (m:=m) hu (L.take k) (fun b hb=>(hLs b (List.mem_of_mem_take hb)).1);rw [List.length_take] at h1;omega
 rw [hfN,htN];have hfz:(fN:Int)<=(tN:Int):=by omega
 have htz:(tN:Int)<=(u.size:Int):=by omega
 have hLz:(L.length:Int)<=100:=by omega
 have hgz:(m.gs.length:Int)<=9:=by omega
 have kA:Za N0_ w ((w.alloc (.cells #[.bool ok,.int .i64 at_,.slice aT L.length cT] 56)).alloc (.cells #[.bool m.ok,.int .i64 (fN:Int),.int .i64 (tN:Int),.slice aG m.gs.length cG] 38)):=((Za.refl _ w).alloc _).alloc _;have b1:((w.alloc (.cells #[.bool ok,.int .i64 at_,.slice aT L.length cT] 56)).alloc (.cells #[.bool m.ok,.int .i64 (fN:Int),.int .i64 (tN:Int),.slice aG m.gs.length cG] 38)).heap[w.heap.size + 1]? = some (.cells #[.bool m.ok,.int .i64 (fN:Int),.int .i64 (tN:Int),.slice aG m.gs.length cG] 38 (0,0)):=Zbi w _ _;have HT:Hid (∀wx,Za N0_ w wx->BR wx base (.slice aT L.length cT) L):=fun wx hx=>Zb hT hx (fun _ _ h=>h);have HG:Hid (∀wx,Za N0_ w wx->SpR wx (.slice aG m.gs.length cG) m.gs):=fun wx hx=>Zb hG hx (fun _ _ h=>h);clear hT hG hLs i1 i2 i3;go_wp2_with fail;generalize ((w.alloc (.cells #[.bool ok,.int .i64 at_,.slice aT L.length cT] 56)).alloc (.cells #[.bool m.ok,.int .i64 (fN:Int),.int .i64 (tN:Int),.slice aG m.gs.length cG] 38))=W at kA b1 ⊢;generalize w.heap.size=P at b1 ⊢;have HP:Hid (∀wx,Za N0_ W wx->wx.cell? ⟨P + 1,1,none⟩=some (.int .i64 (fN:Int))/\wx.cell? ⟨P + 1,2,none⟩=some (.int .i64 (tN:Int))/\wx.cell? ⟨P + 1,3,none⟩=some (.slice aG m.gs.length cG)):=fun wx hx=>by
  have h1:=(hx.block (P + 1) (lt_of_block b1) id).trans b1;exact ⟨by rw [Zc h1]; rfl,by rw [Zc h1]; rfl,by rw [Zc h1]; rfl⟩
 have HKA:Hid (Za N0_ w W):=kA;have HI5:Hid _:=i5;clear kA b1 i5;go_loopg [7,13] (L.length + 1) (fun gl s7 s13 wr =>∃k:Nat,k + gl=L.length + 1/\k<=L.length/\s7 = .string (JZ u m (L.take k))/\s13 = .int .i64 (k:Int)/\Hid (Za N0_ W wr))
 case atStart=>exact ⟨0,by omega,by omega,rfl,rfl,Za.refl _ _⟩
 case round =>
  obtain ⟨k,hgl,hk,rfl,rfl,HKr⟩:=hrel;have HGk:Hid (k + gk=L.length + 1):=hgl;clear hgl
  by_cases hlt:k < L.length
  ·have hkz:(k:Int) < (L.length:Int):=by omega
   have hT:=HT.out _ (HKA.out.trans HKr.out);obtain ⟨gT,rfl⟩ :∃gT,aT=some ⟨gT,0,none⟩:=by
    obtain ⟨n0,hn0⟩ :∃n0,L.length=n0 + 1:=⟨L.length - 1,by omega⟩;have h1:=hT;unfold BR at h1;rw [hn0] at h1;obtain ⟨g,cp,hv,-⟩:=ZQ h1
    cases hv
    exact ⟨g,rfl⟩
   obtain ⟨c1,c2⟩:=Jv L k L[k] (List.getElem?_eq_getElem hlt);have y1:=hT.cellAt (k * 2) (by omega);have y2:=hT.cellAt (k * 2 + 1) (by omega);rw [c1] at y1;rw [c2] at y2;obtain ⟨hbs,hbg⟩:=HB.out L[k] (List.getElem_mem hlt);have HN:Hid (JZ u m (L.take (k + 1))=JZ u m (L.take k) ++ JF u m L[k]):=(by show _ = _; rw [List.take_succ_eq_append_getElem hlt,Zcf]);have hsz:=HSz.out k;generalize L[k]=b at y1 y2 hbs hbg HN;obtain ⟨g,x⟩:=b;simp only at y1 y2 hbs hbg;obtain ⟨o,ho⟩ :∃o,JZ u m (L.take k)=o:=⟨_,rfl⟩;rw [ho] at HN hsz ⊢;have kB:Za N0_ wr (wr.alloc (.cells #[.int .i64 g,.string x] 73)):=(Za.refl _ _).alloc _;have bB:(wr.alloc (.cells #[.int .i64 g,.string x] 73)).heap[wr.heap.size]? = some (.cells #[.int .i64 g,.string x] 73 (0,0)):=heap_alloc_new _ _;clear c1 c2 hT ho;generalize L.length=nL at *;go_upto_region 5 with fail;have HK5:Hid (Za N0_ W (wr.alloc (.cells #[.int .i64 g,.string x] 73))):=HKr.out.trans kB;generalize (wr.alloc (.cells #[.int .i64 g,.string x] 73))=w5 at bB HK5 ⊢;generalize wr.heap.size=P2 at bB ⊢;have d0:w5.cell? ⟨P2,0,none⟩=some (.int .i64 g):=by rw [Zc bB]; rfl
   have d1:w5.cell? ⟨P2,1,none⟩=some (.string x):=by rw [Zc bB]; rfl
   obtain ⟨p1,p2,p3⟩:=HP.out _ HK5.out;clear y1 y2 bB kB HKr
   by_cases hg0:g < 0
   ·have z1:¬ 9223372036854775807 < o.size + x.size:=by omega
    have HF:Hid (JF u m (g,x)=x):=(by show _ = _; unfold JF; exact if_pos hg0);go_wp2_with fail;go_roundg (gk - 1)
    case measure=>have:=HGk.out; omega
    case rel=>exact ⟨k + 1,by have:=HGk.out; omega,by omega,congrArg Value.string (by rw [HN.out,HF.out]),congrArg (Value.int .i64) (by omega),HK5⟩
   ·by_cases hg1:g=0
    ·subst hg1;have z1:¬ 9223372036854775807 < o.size + (u.extract fN tN).size:=by rw [ByteArray.size_extract]; omega
     have HF:Hid (JF u m (0,x)=u.extract fN tN):=(by show _ = _; unfold JF; rw [if_neg (by simp),if_pos rfl,hfN,htN]; rfl);go_wp2_with fail;go_roundg (gk - 1)
     case measure=>have:=HGk.out; omega
     case rel=>exact ⟨k + 1,by have:=HGk.out; omega,by omega,congrArg Value.string (by rw [HN.out,HF.out]),congrArg (Value.int .i64) (by omega),HK5⟩
    ·obtain ⟨j,hj⟩ :∃j:Nat,g=(j:Int) + 1:=⟨(g - 1).toNat,by omega⟩;subst hj;have hjl:j < m.gs.length:=by omega
     have hG:=HG.out _ (HKA.out.trans HK5.out);obtain ⟨gx,rfl⟩ :∃gx,aG=some ⟨gx,0,none⟩:=by
      obtain ⟨n0,hn0⟩ :∃n0,m.gs.length=n0 + 1:=⟨m.gs.length - 1,by omega⟩;have h1:=hG;unfold SpR at h1;rw [hn0] at h1;obtain ⟨g,cp,hv,-⟩:=ZQ h1
      cases hv
      exact ⟨g,rfl⟩
     have q1:=World.ownsRow.cellAt hG (j * 2) (by omega);have q2:=World.ownsRow.cellAt hG (j * 2 + 1) (by omega);rw [(Zdn m.gs j hjl).1] at q1;rw [(Zdn m.gs j hjl).2] at q2;have hin:=HI5.out (m.gs.getD j (0,0)) (by rw [List.getD_eq_getElem?_getD,List.getElem?_eq_getElem hjl]; exact List.getElem_mem hjl);have hFB:JF u m ((j:Int) + 1,x)=if 0<=(m.gs.getD j (0,0)).1 then u.extract (m.gs.getD j (0,0)).1.toNat (m.gs.getD j (0,0)).2.toNat else ByteArray.empty:=by
      unfold JF;rw [if_neg hg0,if_neg hg1];simp only [show ((j:Int) + 1 - 1).toNat=j by omega]
     generalize m.gs.getD j (0,0)=ab at q1 q2 hin hFB;obtain ⟨a,b⟩:=ab;simp only at q1 q2 hin hFB;generalize m.gs.length=ng at *;have hjz:(j:Int) < (ng:Int):=by omega
     have hb1:((j:Int) + 1 == 0)=false:=by simp; omega
     have hsub:(j:Int) + 1 - 1=(j:Int):=by omega
     rcases hin with ha | ⟨a1,a2,a3⟩
     ·have HF:Hid (JF u m ((j:Int) + 1,x)=ByteArray.empty):=(by show _ = _; rw [hFB,if_neg (by omega)]);have ha2:¬ 0<=a:=by omega
      clear hFB;go_wp2_with fail;go_roundg (gk - 1)
      case measure=>have:=HGk.out; omega
      case rel=>exact ⟨k + 1,by have:=HGk.out; omega,by omega,congrArg Value.string (by rw [HN.out,HF.out,ByteArray.append_empty]),congrArg (Value.int .i64) (by omega),HK5⟩
     ·obtain ⟨aN,haN⟩ :∃aN:Nat,a=(aN:Int):=⟨a.toNat,by omega⟩;obtain ⟨bN,hbN⟩ :∃bN:Nat,b=(bN:Int):=⟨b.toNat,by omega⟩;subst haN;subst hbN;have HF:Hid (JF u m ((j:Int) + 1,x)=u.extract aN bN):=(by show _ = _; rw [hFB,if_pos a1]; rfl);have z1:¬ 9223372036854775807 < o.size + (u.extract aN bN).size:=by rw [ByteArray.size_extract]; omega
      clear hFB;go_upto_region 10 with fail;go_quiet (fail);go_wp2_with fail;go_roundg (gk - 1)
      case measure=>have:=HGk.out; omega
      case rel=>exact ⟨k + 1,by have:=HGk.out; omega,by omega,congrArg Value.string (by rw [HN.out,HF.out]),congrArg (Value.int .i64) (by omega),HK5.out.drewN _⟩
  ·obtain rfl:k=L.length:=by omega
   have hkz:¬ (L.length:Int) < (L.length:Int):=by omega
   rw [List.take_length];generalize L.length=nL at *;go_wp2_with fail;go_ret;exact ⟨rfl,HKA.out.trans HKr.out⟩
end Go.Proofs.YtfkflljplohhcaaGreatDoor
