import Derived.Test.YtfkflljplohhcaaGreatDoorTa
import Derived.Test.YtfkflljplohhcaaGreatDoorYe
set_option linter.unusedVariables false
set_option maxHeartbeats 1000000
set_option maxRecDepth 100000
namespace Go.Proofs.YtfkflljplohhcaaGreatDoor
open Go.RowKit
def fO (w:World) (base:Nat) (v:Value) (b:ByteArray):Prop:=w.ownsRow base 5 1 v b.size (Lib.strCells b)
theorem Tryz.qc:(Tryz.prog.info? 5).map (fun i=>(i.zero,i.size,i.bytes))=some (some (.int .u8 0),1,1):=by kernel_rfl
theorem ZfY(a b:ByteArray):Lib.strCells (a++b)=Lib.strCells a++Lib.strCells b:=by
 unfold Lib.strCells;rw[ByteArray.data_append];simp
variable {w w':World}{base A G cap:Nat}{v gv:Value}{b u x:ByteArray}{ok:Bool}{g fr up:Int}{cs:Array Value}{ao:Option Addr}
theorem xY(h:fO w base v b)(hb:base<=w.heap.size)(s:ByteArray)(hl:b.size+s.size<=1000000000):
  ∃ao c w',Sem.run Tryz.prog (Builtin.append_ #[22,9] 22 #[v,.string s]) w=.ok (.slice ao (b++s).size c) w'/\fO w' base (.slice ao (b++s).size c) (b++s)/\Za (v.ownBlock=some ·) w w':=by
 obtain⟨i0,hi,hz0,hz1,hz2⟩:=info_parts Tryz.qc;obtain⟨v',w',hrun,ho,hg,-⟩:=Lib.run_append_own_string (P:=Tryz.prog) w base 22 9 22 5 i0 Tryz.underlying22 Tryz.underlying9 hi hz0 hz1 hz2 v b.size (Lib.strCells b) h s (by unfold maxLen;omega) (by omega) hb;rw[<- ZfY,<- ByteArray.size_append] at ho;obtain⟨ao,c,rfl⟩:=aj ho;exact⟨ao,c,w',hrun,ho,(Za.refl _ w).grown hg (fun k hk _=>hk)⟩
variable {a:Act}{Q:Exit->Act->World->Prop}
theorem Qo{P:Program}{ops:Array Oper}{rest:List Oper}{o:Oper}(hgd:o.guard=none)(s x:Operand)(t t2 ty:TypeId)
  (ho:o.op=.call { callee:=.builtin .append,args:=#[s,x],argTypes:=#[t,t2] }) (hty:o.type=ty) (v y v':Value) (w':World) (hs:a.eval s=v) (hx:a.eval x=y)
  (hr:Sem.run P (Builtin.append_ #[t,t2] ty #[v,y]) w=.ok v' w') (h:wpList P ops Q rest (a.put o.dst v') w'):wpList P ops Q (o::rest) a w :=
 wpList_plain hgd fun _ hK=>by
  unfold Oper.wp execOp;simp only[ho,hty,resolve,invoke,builtin,Sem.run_bind,Sem.run_pure,Result.andThen_ok,List.map_toArray,List.map_cons,List.map_nil,hs,hx,hr];exact hK _ _ h
theorem ZaX{P:Program}{ops:Array Oper}{o:Oper}{K:Act->World->Prop}{E:Prop}
  (hg:o.guard=none) (s x:Operand) (t t2 ty:TypeId) (hop:o.op=Op.call { callee:=Callee.builtin Builtin.append,args:=#[s,x],argTypes:=#[t,t2] }) (hty:o.type=ty)
  (v y v':Value) (w':World) (hs:a.eval s=v) (hx:a.eval x=y) (hrun:Sem.run P (Builtin.append_ #[t,t2] ty #[v,y]) w=.ok v' w')
  (hK:K (a.put o.dst v') w') :
  if Region.wanted o (yielded ops a.tmps)=true then Oper.wp P o a w K Q else E:=by
 have hw:Region.wanted o (yielded ops a.tmps)=true:=by simp[Region.wanted,hg]
 rw[if_pos hw];unfold Oper.wp;simp[execOp,hop,resolve,invoke,builtin,hs,hx,hty,hrun,Result.andThen];exact hK
theorem fO.drew(h:fO w base v b):fO w.drew base v b:=Qa h rfl
def JE (u:ByteArray) (m:Mt) (b:Bt):ByteArray :=
 if b.1<0 then b.2 else if b.1=0 then u.extract m.fr.toNat m.up.toNat
 else if 0<=(m.gs.getD (b.1-1).toNat (0,0)).1 then u.extract (m.gs.getD (b.1-1).toNat (0,0)).1.toNat (m.gs.getD (b.1-1).toNat (0,0)).2.toNat else ByteArray.empty
def JD (u:ByteArray) (m:Mt) (l:List Bt):ByteArray:=l.foldl (fun o b=>o++JE u m b) ByteArray.empty
theorem Ui(u:ByteArray)(m:Mt)(l:List Bt)(b:Bt):JD u m (l++[b])=JD u m l++JE u m b:=by simp[JD]
theorem Uc(l:List (Int×Int))(j:Nat)(h:j<l.length):(ZD l)[j*2]?=some (.int .i64 (l.getD j (0,0)).1)/\(ZD l)[j*2+1]?=some (.int .i64 (l.getD j (0,0)).2):=by
 induction l generalizing j with
 | nil=>simp at h
 | cons r l ih =>
   cases j with
   | zero=>simp[ZD]
   | succ j =>
     have:=ih j (by simpa using h)
     have e:ZD (r::l)=.int .i64 r.1::.int .i64 r.2::ZD l:=by simp[ZD]
     rw[e];have e1:(j+1)*2=j*2+1+1:=by omega
     rw[e1];simpa using this
def I7 (N:Nat) (m:Mt):Prop:=0<=m.fr/\m.fr<=m.up/\m.up<=(N:Int)/\m.gs.length<=9/\∀g∈m.gs,g.1<0\/(0<=g.1/\g.1<=g.2/\g.2<=(N:Int))
variable {m:Mt}
theorem Zkq{b:Bt}(hu:u.size<=200)(hb:b.2.size<=100):(JE u m b).size<=200:=by
 unfold JE
 split
 ·omega
 ·split
  ·rw[ByteArray.size_extract];omega
  ·split
   ·rw[ByteArray.size_extract];omega
   ·exact Nat.zero_le _
theorem Mo(hu:u.size<=200):∀(l:List Bt),(∀b∈l,b.2.size<=100)->(JD u m l).size<=200*l.length:=by
 intro l;refine IA (M:=fun l=>(∀b∈l,b.2.size<=100)->(JD u m l).size<=200*l.length) (fun _=>Nat.zero_le _) ?_ l;intro l b ih
 ·intro h;have h1:=ih (fun x hx=>h x (by simp[hx]));have h2:=Zkq (m:=m) hu (h b (by simp));rw[Ui,ByteArray.size_append,List.length_append];simp only[List.length_cons,List.length_nil];omega
theorem Zj7{L:List Bt}{tv:Value}{at_:Int}(hT:BR w base tv L)(hG:rJ w gv m.gs)(hm:I7 u.size m)(hu:u.size<=200)(hL:L.length<=100)(P5:∀b∈L,b.2.size<=100/\b.1<=(m.gs.length:Int)):
  au 30 #[.agg #[.bool ok,.int .i64 at_,tv],.string u,.agg #[.bool m.ok,.int .i64 m.fr,.int .i64 m.up,gv]] w fun e w'=>e=.returned (.string (JD u m L))/\Za ai w w':=by
 obtain⟨aT,cT,rfl⟩:=aj hT;obtain⟨aG,cG,rfl⟩:=aj hG;obtain⟨i1,i2,i3,i4,i5⟩:=hm;obtain⟨fN,oV⟩:∃fN:Nat,m.fr=(fN:Int):=⟨m.fr.toNat,by omega⟩;obtain⟨tN,oK⟩:∃tN:Nat,m.up=(tN:Int):=⟨m.up.toNat,by omega⟩;go_enter Tryz.func30,Tryz.ntmps30;have HB:Hid (∀b∈L,b.2.size<=100/\b.1<=(m.gs.length:Int)):=P5;have Kc:Hid (∀k,(JD u m (L.take k)).size<=20000):=fun k=>by
  have h1:=Mo (m:=m) hu (L.take k) (fun b hb=>(P5 b (List.mem_of_mem_take hb)).1);rw[List.length_take] at h1;omega
 rw[oV,oK];have hfz:(fN:Int)<=(tN:Int):=by omega
 have htz:(tN:Int)<=(u.size:Int):=by omega
 have hLz:(L.length:Int)<=100:=by omega
 have hgz:(m.gs.length:Int)<=9:=by omega
 have kA:Za ai w ((w.alloc (.cells #[.bool ok,.int .i64 at_,.slice aT L.length cT] 56)).alloc (.cells #[.bool m.ok,.int .i64 (fN:Int),.int .i64 (tN:Int),.slice aG m.gs.length cG] 38)):=((Za.refl _ w).alloc _).alloc _;have b1:((w.alloc (.cells #[.bool ok,.int .i64 at_,.slice aT L.length cT] 56)).alloc (.cells #[.bool m.ok,.int .i64 (fN:Int),.int .i64 (tN:Int),.slice aG m.gs.length cG] 38)).heap[w.heap.size+1]?=some (.cells #[.bool m.ok,.int .i64 (fN:Int),.int .i64 (tN:Int),.slice aG m.gs.length cG] 38 (0,0)):=gH w _ _;have HT:Hid (∀wx,Za ai w wx->BR wx base (.slice aT L.length cT) L):=fun wx hx=>Zb hT hx (fun _ _ h=>h);have HG:Hid (∀wx,Za ai w wx->rJ wx (.slice aG m.gs.length cG) m.gs):=fun wx hx=>Zb hG hx (fun _ _ h=>h);clear hT hG P5 i1 i2 i3;go_wp2_with fail;generalize ((w.alloc (.cells #[.bool ok,.int .i64 at_,.slice aT L.length cT] 56)).alloc (.cells #[.bool m.ok,.int .i64 (fN:Int),.int .i64 (tN:Int),.slice aG m.gs.length cG] 38))=W at kA b1 ⊢;generalize w.heap.size=P at b1 ⊢;have HP:Hid (∀wx,Za ai W wx->wx.cell? ⟨P+1,1,none⟩=some (.int .i64 (fN:Int))/\wx.cell? ⟨P+1,2,none⟩=some (.int .i64 (tN:Int))/\wx.cell? ⟨P+1,3,none⟩=some (.slice aG m.gs.length cG)):=fun wx hx=>by
  have h1:=(hx.block (P+1) (lt_of_block b1) id).trans b1;exact⟨by rw[Zc h1];rfl,by rw[Zc h1];rfl,by rw[Zc h1];rfl⟩
 have Vb:Hid (Za ai w W):=kA;have HI5:Hid _:=i5;clear kA b1 i5;go_loopg [7,13] (L.length+1) (fun gl s7 s13 wr =>∃k:Nat,k+gl=L.length+1/\k<=L.length/\s7=.string (JD u m (L.take k))/\s13=.int .i64 (k:Int)/\Hid (Za ai W wr))
 case atStart=>exact⟨0,by omega,by omega,rfl,rfl,Za.refl _ _⟩
 case round =>
  obtain⟨k,hgl,hk,rfl,rfl,pV⟩:=hrel;have jN:Hid (k+gk=L.length+1):=hgl;clear hgl
  by_cases hlt:k<L.length
  ·have hkz:(k:Int)<(L.length:Int):=by omega
   have hT:=HT.out _ (Vb.out.trans pV.out);obtain⟨gT,rfl⟩:∃gT,aT=some ⟨gT,0,none⟩:=by
    obtain⟨n0,hn0⟩:∃n0,L.length=n0+1:=⟨L.length-1,by omega⟩;have h1:=hT;unfold BR at h1;rw[hn0] at h1;obtain⟨g,cp,hv,-⟩:=ZM h1
    cases hv
    exact⟨g,rfl⟩
   obtain⟨c1,c2⟩:=Jy L k L[k] (List.getElem?_eq_getElem hlt);have y1:=hT.cellAt (k*2) (by omega);have y2:=hT.cellAt (k*2+1) (by omega);rw[c1] at y1;rw[c2] at y2;obtain⟨hbs,hbg⟩:=HB.out L[k] (List.getElem_mem hlt);have HN:Hid (JD u m (L.take (k+1))=JD u m (L.take k)++JE u m L[k]):=(by show _ = _;rw[List.take_succ_eq_append_getElem hlt,Ui]);have hsz:=Kc.out k;generalize L[k]=b at y1 y2 hbs hbg HN;obtain⟨g,x⟩:=b;simp only at y1 y2 hbs hbg;obtain⟨o,ho⟩:∃o,JD u m (L.take k)=o:=⟨_,rfl⟩;rw[ho] at HN hsz ⊢;have kB:Za ai wr (wr.alloc (.cells #[.int .i64 g,.string x] 73)):=QT;have bB:(wr.alloc (.cells #[.int .i64 g,.string x] 73)).heap[wr.heap.size]?=some (.cells #[.int .i64 g,.string x] 73 (0,0)):=heap_alloc_new _ _;clear c1 c2 hT ho;generalize L.length=nL at *;go_upto_region 5 with fail;have nK:Hid (Za ai W (wr.alloc (.cells #[.int .i64 g,.string x] 73))):=pV.out.trans kB;generalize (wr.alloc (.cells #[.int .i64 g,.string x] 73))=w5 at bB nK ⊢;generalize wr.heap.size=P2 at bB ⊢;have d0:w5.cell? (ak P2)=some (.int .i64 g):=by rw[Zc bB];rfl
   have d1:w5.cell? ⟨P2,1,none⟩=some (.string x):=by rw[Zc bB];rfl
   obtain⟨p1,p2,p3⟩:=HP.out _ nK.out;clear y1 y2 bB kB pV
   by_cases hg0:g<0
   ·have z1:¬9223372036854775807<o.size+x.size:=by omega
    have HF:Hid (JE u m (g,x)=x):=(by show _ = _;unfold JE;exact if_pos hg0);go_wp2_with fail;go_roundg (gk-1)
    case measure=>have:=jN.out;omega
    case rel=>exact⟨k+1,by have:=jN.out;omega,by omega,congrArg Value.string (by rw[HN.out,HF.out]),congrArg (Value.int .i64) (by omega),nK⟩
   ·by_cases hg1:g=0
    ·subst hg1;have z1:¬9223372036854775807<o.size+(u.extract fN tN).size:=by rw[ByteArray.size_extract];omega
     have HF:Hid (JE u m (0,x)=u.extract fN tN):=(by show _ = _;unfold JE;rw[if_neg (by simp),if_pos rfl,oV,oK];rfl);go_wp2_with fail;go_roundg (gk-1)
     case measure=>have:=jN.out;omega
     case rel=>exact⟨k+1,by have:=jN.out;omega,by omega,congrArg Value.string (by rw[HN.out,HF.out]),congrArg (Value.int .i64) (by omega),nK⟩
    ·obtain⟨j,hj⟩:∃j:Nat,g=(j:Int)+1:=⟨(g-1).toNat,by omega⟩;subst hj;have hjl:j<m.gs.length:=by omega
     have hG:=HG.out _ (Vb.out.trans nK.out);obtain⟨gx,rfl⟩:∃gx,aG=some ⟨gx,0,none⟩:=by
      obtain⟨n0,hn0⟩:∃n0,m.gs.length=n0+1:=⟨m.gs.length-1,by omega⟩;have h1:=hG;unfold rJ at h1;rw[hn0] at h1;obtain⟨g,cp,hv,-⟩:=ZM h1
      cases hv
      exact⟨g,rfl⟩
     have q1:=World.ownsRow.cellAt hG (j*2) (by omega);have q2:=World.ownsRow.cellAt hG (j*2+1) (by omega);rw[(Uc m.gs j hjl).1] at q1;rw[(Uc m.gs j hjl).2] at q2;have hin:=HI5.out (m.gs.getD j (0,0)) (by rw[List.getD_eq_getElem?_getD,List.getElem?_eq_getElem hjl];exact List.getElem_mem hjl);have Dj:JE u m ((j:Int)+1,x)=if 0<=(m.gs.getD j (0,0)).1 then u.extract (m.gs.getD j (0,0)).1.toNat (m.gs.getD j (0,0)).2.toNat else ByteArray.empty:=by
      unfold JE;rw[if_neg hg0,if_neg hg1];simp only[show ((j:Int)+1-1).toNat=j by omega]
     generalize m.gs.getD j (0,0)=ab at q1 q2 hin Dj;obtain⟨a,b⟩:=ab;simp only at q1 q2 hin Dj;generalize m.gs.length=ng at *;have hjz:(j:Int)<(ng:Int):=by omega
     have hb1:((j:Int)+1 == 0)=false:=by simp;omega
     have hsub:(j:Int)+1-1=(j:Int):=by omega
     rcases hin with ha | ⟨a1,a2,a3⟩
     ·have HF:Hid (JE u m ((j:Int)+1,x)=ByteArray.empty):=(by show _ = _;rw[Dj,if_neg (by omega)]);have ha2:¬0<=a:=by omega
      clear Dj;go_wp2_with fail;go_roundg (gk-1)
      case measure=>have:=jN.out;omega
      case rel=>exact⟨k+1,by have:=jN.out;omega,by omega,congrArg Value.string (by rw[HN.out,HF.out,ByteArray.append_empty]),congrArg (Value.int .i64) (by omega),nK⟩
     ·obtain⟨aN,Ps⟩:∃aN:Nat,a=(aN:Int):=⟨a.toNat,by omega⟩;obtain⟨bN,hbN⟩:∃bN:Nat,b=(bN:Int):=⟨b.toNat,by omega⟩;subst Ps;subst hbN;have HF:Hid (JE u m ((j:Int)+1,x)=u.extract aN bN):=(by show _ = _;rw[Dj,if_pos a1];rfl);have z1:¬9223372036854775807<o.size+(u.extract aN bN).size:=by rw[ByteArray.size_extract];omega
      clear Dj;go_upto_region 10 with fail;go_quiet (fail);go_wp2_with fail;go_roundg (gk-1)
      case measure=>have:=jN.out;omega
      case rel=>exact⟨k+1,by have:=jN.out;omega,by omega,congrArg Value.string (by rw[HN.out,HF.out]),congrArg (Value.int .i64) (by omega),nK.out.drewN _⟩
  ·obtain rfl:k=L.length:=by omega
   have hkz:¬(L.length:Int)<(L.length:Int):=by omega
   rw[List.take_length];generalize L.length=nL at *;go_wp2_with fail;go_ret;exact⟨rfl,Vb.out.trans pV.out⟩
theorem yj(ao:Option Addr)(n m c d:Nat):(Value.slice ao n c).ownBlock=(Value.slice ao m d).ownBlock:=by cases ao <;> rfl
theorem LP{v':Value}(h:fO w base v b)(s:ByteArray)(hl:b.size+s.size<=1000000000)(hr:Sem.run Tryz.prog (Builtin.append_ #[22,9] 22 #[v,.string s]) w=.ok v' w'):jP w v v':=by
 obtain⟨i0,hi,hz0,hz1,hz2⟩:=info_parts Tryz.qc;have hown:=h;unfold fO at hown
 rcases hown.2 with⟨rfl,hn⟩ | ⟨g,cap,cur,rfl,hbg,hg,hnc,hcm,hcs,htake⟩
 ·have hb0:Lib.strCells b = []:=List.eq_nil_of_length_eq_zero (by rw[Lib.strCells_length];exact hn);obtain⟨v2,w2,hrun,ho,hg,-⟩:=Lib.run_append_own_string (P:=Tryz.prog) w w.heap.size 22 9 22 5 i0 Tryz.underlying22 Tryz.underlying9 hi hz0 hz1 hz2 (.slice none 0 0) 0 [] (World.ownsRow_nil _ _ _ _) s (by unfold maxLen;omega) (by omega) (Nat.le_refl _);rw[hrun] at hr
  cases hr
  exact fun k hk hlt=>absurd (ho.lt k hk).1 (by omega)
 ·by_cases hroom:b.size+s.size<=cap
  ·have hcs':cur.size=cap:=by simpa using hcs
   have hr2:=Lib.run_append_room_string (P:=Tryz.prog) w 22 9 22 5 i0 Tryz.underlying22 Tryz.underlying9 hi hz1 g b.size cap cur hg s hroom (by omega);rw[hr2] at hr
   cases hr
   exact fun k hk _=>hk
  ·have holds:∀j u,(Lib.strCells b)[j]?=some u->w.cell? (((ak g):Addr).add j)=some u:=World.ownsRow.cells h rfl;have hr2:=Lib.run_append_grow_string (P:=Tryz.prog) w 22 9 22 5 i0 (.int .u8 0) Tryz.underlying22 Tryz.underlying9 hi hz0 (ak g) b.size cap (Lib.strCells b) (by rw[hz1,Lib.strCells_length,Nat.mul_one]) holds s (by omega) (by omega) (by rw[hz2];exact growslice_fits (by omega) (by omega));rw[hr2] at hr
   cases hr
   intro k hk hlt;simp only[Value.ownBlock,Option.some.injEq] at hk;omega
theorem Zm3{Pb:Nat}(h:fO w base v b)(hb:base<=w.heap.size)(hl:b.size+x.size<=1000000000)(hB:w.heap[Pb]?=some (.cells #[.int .i64 g,.string x] 73 (0,0))):
  au 67 #[v,.agg #[.bool ok,.int .i64 fr,.int .i64 up,gv],ae Pb] w fun e w' =>∃ao c,e=.returned (.slice ao (b++x).size c)/\fO w' base (.slice ao (b++x).size c) (b++x)/\Za (v.ownBlock=some ·) w w'/\jP w v (.slice ao (b++x).size c):=by
 obtain⟨ao,cp,rfl⟩:=aj h;go_enter Tryz.func67,Tryz.ntmps67;have kA:Za ((Value.slice ao b.size cp).ownBlock=some ·) w (w.alloc (.cells #[.bool ok,.int .i64 fr,.int .i64 up,gv] 38)):=QT;have xL:=(kA.block Pb (lt_of_block hB) (Zi h hB (by decide))).trans hB;have c1:(w.alloc (.cells #[.bool ok,.int .i64 fr,.int .i64 up,gv] 38)).cell? ⟨Pb,1,none⟩=some (.string x):=by rw[Zc xL];rfl
 have hOb:fO (w.alloc (.cells #[.bool ok,.int .i64 fr,.int .i64 up,gv] 38)) base (.slice ao b.size cp) b:=World.ownsRow.alloc h _;obtain⟨aA,cA,wA,hrun,iy,iH⟩:=xY hOb (by have:=kA.size;omega) x hl;have Km:Hid (jP w (.slice ao b.size cp) (.slice aA (b++x).size cA)):=fun k hk hlt=>LP hOb x hl hrun k hk (Nat.lt_of_lt_of_le hlt kA.size);have OQ:=kA.trans iH;have HF:Hid (fO wA base (.slice aA (b++x).size cA) (b++x)):=iy;obtain⟨nA,jD⟩:∃nA,(b++x).size=nA:=⟨_,rfl⟩;rw[jD] at hrun;have Ep:Hid ((b++x).size=nA):=jD;clear iy jD hOb hB xL;generalize b.size=nb at *;go_wp2_with(at_builtin;refine Qo rfl _ _ _ _ _ rfl rfl (.slice ao nb cp) _ _ _ rfl rfl hrun ?_);go_ret;exact⟨aA,cA,by rw[Ep.out];rfl,HF.out,OQ,fun k hk hlt=>(yj ao _ _ cp cp).trans (Km.out k ((yj aA _ _ cA cA).trans hk) hlt)⟩
theorem Zm2{X:Nat}{fN tN:Nat}(h:fO w base v b)(hb:base<=w.heap.size)(hl:b.size+u.size<=1000000000)(hA:w.heap[A]?=some (.cells #[ae X] 52 (0,0)))(hX:w.heap[X]?=some (.cells cs 105 (0,0)))(h0:cs[0]?=some (.string u))(hf:fN<=tN)(ht:tN<=u.size):
  au 68 #[v,.agg #[.bool ok,.int .i64 (fN:Int),.int .i64 (tN:Int),gv],ae A] w fun e w' =>∃ao c,e=.returned (.slice ao (b++u.extract fN tN).size c)/\fO w' base (.slice ao (b++u.extract fN tN).size c) (b++u.extract fN tN)/\Za (v.ownBlock=some ·) w w'/\jP w v (.slice ao (b++u.extract fN tN).size c):=by
 obtain⟨ao,cp,rfl⟩:=aj h;have kA:Za ((Value.slice ao b.size cp).ownBlock=some ·) w (w.alloc (.cells #[.bool ok,.int .i64 (fN:Int),.int .i64 (tN:Int),gv] 38)):=QT;have bM:(w.alloc (.cells #[.bool ok,.int .i64 (fN:Int),.int .i64 (tN:Int),gv] 38)).heap[w.heap.size]?=some (.cells #[.bool ok,.int .i64 (fN:Int),.int .i64 (tN:Int),gv] 38 (0,0)):=heap_alloc_new _ _;have WU:=(kA.block A (lt_of_block hA) (Zi h hA (by decide))).trans hA;have Wo:=(kA.block X (lt_of_block hX) (Zi h hX (by decide))).trans hX;have hOb:fO (w.alloc (.cells #[.bool ok,.int .i64 (fN:Int),.int .i64 (tN:Int),gv] 38)) base (.slice ao b.size cp) b:=World.ownsRow.alloc h _;have CJ:(u.extract fN tN).size<=u.size:=by rw[ByteArray.size_extract];omega
 obtain⟨aA,cA,wA,hrun,iy,iH⟩:=xY hOb.drew (by have:=kA.size;show _<=(w.alloc _).heap.size;omega) (u.extract fN tN) (by omega);have Km:Hid (jP w (.slice ao b.size cp) (.slice aA (b++u.extract fN tN).size cA)):=fun k hk hlt=>LP hOb.drew (u.extract fN tN) (by omega) hrun k hk (Nat.lt_of_lt_of_le hlt kA.size);have OQ:=(kA.drew).trans iH;have HF:Hid (fO wA base (.slice aA (b++u.extract fN tN).size cA) (b++u.extract fN tN)):=iy;obtain⟨nA,jD⟩:∃nA,(b++u.extract fN tN).size=nA:=⟨_,rfl⟩;rw[jD] at hrun;have Ep:Hid ((b++u.extract fN tN).size=nA):=jD;go_enter Tryz.func68,Tryz.ntmps68;have hfz:(fN:Int)<=(tN:Int):=by omega
 have htz:(tN:Int)<=(u.size:Int):=by omega
 go_upto_region 1 with fail
 generalize w.alloc (.cells #[.bool ok,.int .i64 (fN:Int),.int .i64 (tN:Int),gv] 38)=W at *;generalize w.heap.size=P at *;have c0:W.cell? (ak A)=some ((ae X)):=by rw[Zc WU];rfl
 have c1:W.cell? (ak X)=some (.string u):=by rw[Zc Wo];exact h0
 have c2:W.cell? ⟨P,1,none⟩=some (.int .i64 (fN:Int)):=by rw[Zc bM];rfl
 have c3:W.cell? ⟨P,2,none⟩=some (.int .i64 (tN:Int)):=by rw[Zc bM];rfl
 clear iy jD hOb hA hX WU Wo bM h;generalize b.size=nb at *;go_region_law (refine ZaX rfl _ _ _ _ _ rfl rfl (.slice ao nb cp) _ _ _ rfl rfl hrun ?_)
 all_goals go_wp2_with fail
 all_goals go_ret
 all_goals exact⟨aA,cA,by rw[Ep.out];rfl,HF.out,OQ.mono (fun k _ h=>(yj ao _ nb cp cp).trans h),fun k hk hlt=>(yj ao _ _ cp cp).trans (Km.out k ((yj aA _ _ cA cA).trans hk) hlt)⟩
theorem Zm1{X Pb j ng cg gx:Nat}{a z:Int}(h:fO w base v b)(hb:base<=w.heap.size)(hl:b.size+u.size<=1000000000)(hA:w.heap[A]?=some (.cells #[ae X] 52 (0,0)))(hX:w.heap[X]?=some (.cells cs 105 (0,0)))(h0:cs[0]?=some (.string u))(hB:w.heap[Pb]?=some (.cells #[.int .i64 ((j:Int)+1),.string x] 73 (0,0)))(hj:j<ng)(FZ:ng<=9)(c1:w.cell? ⟨gx,j*2,none⟩=some (.int .i64 a))(c2:w.cell? ⟨gx,j*2+1,none⟩=some (.int .i64 z))(hp:iK a z=true->0<=a/\a<=z/\z<=(u.size:Int)){y:ByteArray}(hy:(if iK a z then u.extract a.toNat z.toNat else ByteArray.empty)=y):
  au 69 #[v,.agg #[.bool ok,.int .i64 fr,.int .i64 up,.slice (some ⟨gx,0,none⟩) ng cg],ae Pb,ae A] w fun e w' =>∃ao n c,e=.returned (.slice ao n c)/\n=(b++y).size/\fO w' base (.slice ao n c) (b++y)/\Za (v.ownBlock=some ·) w w'/\jP w v (.slice ao n c):=by
 have HY:Hid ((if iK a z then u.extract a.toNat z.toNat else ByteArray.empty)=y):=hy;clear hy;obtain⟨ao,cp,rfl⟩:=aj h;have hjz:(j:Int)<(ng:Int):=by omega
 have xas:(ng:Int)<=9:=by omega
 have hsub:(j:Int)+1-1=(j:Int):=by omega
 have k1:Za ai w (w.alloc (.cells #[.bool ok,.int .i64 fr,.int .i64 up,.slice (some ⟨gx,0,none⟩) ng cg] 38)):=QT;have b1:(w.alloc (.cells #[.bool ok,.int .i64 fr,.int .i64 up,.slice (some ⟨gx,0,none⟩) ng cg] 38)).heap[w.heap.size]?=some (.cells #[.bool ok,.int .i64 fr,.int .i64 up,.slice (some ⟨gx,0,none⟩) ng cg] 38 (0,0)):=heap_alloc_new _ _;go_enter Tryz.func69,Tryz.ntmps69;go_upto_region 1 with fail;generalize w.alloc (.cells #[.bool ok,.int .i64 fr,.int .i64 up,.slice (some ⟨gx,0,none⟩) ng cg] 38)=W1 at k1 b1 ⊢;have Hb0:Hid (base<=w.heap.size):=hb;clear hb;generalize w.heap.size=P at b1 ⊢;have kc:∀(bb jj:Nat) (vv:Value),w.cell? ⟨bb,jj,none⟩=some vv->W1.cell? ⟨bb,jj,none⟩=some vv:=fun bb jj vv hh=>by
  have hlt:bb<w.heap.size:=by
   apply Decidable.byContradiction;intro hn
   have:w.heap[bb]?=none:=Array.getElem?_eq_none (by omega)
   simp[World.cell?,this] at hh
  have hs:=k1.block bb hlt id;simp only[World.cell?,hs] at hh ⊢;exact hh
 have e1:=kc _ _ _ c1;have e2:=kc _ _ _ c2;have e3:W1.cell? ⟨P,3,none⟩=some (.slice (some ⟨gx,0,none⟩) ng cg):=by rw[Zc b1];rfl
 have hB1:=(k1.block Pb (lt_of_block hB) id).trans hB;have e4:W1.cell? (ak Pb)=some (.int .i64 ((j:Int)+1)):=by rw[Zc hB1];rfl
 have hA1:=(k1.block A (lt_of_block hA) id).trans hA;have hX1:=(k1.block X (lt_of_block hX) id).trans hX;have dF:fO W1 base (.slice ao b.size cp) b:=Zb h k1 (fun _ _ h=>h);clear kc c1 c2 h hA hX hB b1 hB1;have k2:Za ai W1 (W1.alloc (.cells #[.int .i64 a,.int .i64 z] 118)):=QT;have b2:(W1.alloc (.cells #[.int .i64 a,.int .i64 z] 118)).heap[W1.heap.size]?=some (.cells #[.int .i64 a,.int .i64 z] 118 (0,0)):=heap_alloc_new _ _;generalize hnb:b.size=nb at *;go_upto_region 2 with fail;have Ob:=k1.trans k2;have hA2:=(k2.block A (lt_of_block hA1) id).trans hA1;have hX2:=(k2.block X (lt_of_block hX1) id).trans hX1;have hO2:=Zb dF k2 (fun _ _ h=>h);generalize W1.alloc (.cells #[.int .i64 a,.int .i64 z] 118)=W2 at Ob b2 hA2 hX2 hO2 ⊢;generalize W1.heap.size=P2 at b2 ⊢;have s0:W2.cell? (ak P2)=some (.int .i64 a):=by rw[Zc b2];rfl
 have s1:W2.cell? ⟨P2,1,none⟩=some (.int .i64 z):=by rw[Zc b2];rfl
 clear e1 e2 e3 e4 hA1 hX1 dF k1 k2;have jU:=Um (w:=W2) (a:=a) (b:=z);have UL:Hid (b.size=nb):=hnb;have pR:Hid (Za ai w W2):=Ob;have HO2:Hid (fO W2 base (.slice ao nb cp) b):=hO2;have HA2:Hid (W2.heap[A]?=some (.cells #[ae X] 52 (0,0))):=hA2;have jv:Hid (W2.heap[X]?=some (.cells cs 105 (0,0))):=hX2;have Hb2:Hid (W2.heap[P2]?=some (.cells #[.int .i64 a,.int .i64 z] 118 (0,0))):=b2;have Hbz:Hid (base<=w.heap.size):=Hb0.out;clear hnb Ob hO2 hA2 hX2 b2
 cases hps:iK a z with
 | false =>
   rw[hps] at jU;have HP:Hid (iK a z=false):=hps;clear hps hp;go_wp2_with(go_at_call 70;refine jU.mono ?_;clear jU;rintro e w3 ⟨rfl,hk3⟩);go_ret;have e9:b++y=b:=by have h8:=HY.out;rw[HP.out] at h8;rw[<- h8];simp
   exact⟨ao,nb,cp,rfl,by rw[e9,UL.out],by rw[e9];exact Zb HO2.out hk3 (fun _ _ h=>h),(pR.out.trans hk3).mono (fun _ _ h=>h.elim),fun k hk _=>(yj ao _ _ cp cp).trans hk⟩
 | true =>
   rw[hps] at jU;have HP:Hid (iK a z=true):=hps;obtain⟨p1,p2,p3⟩:=hp hps;clear hps hp;obtain⟨aN,Ps⟩:∃aN:Nat,a=(aN:Int):=⟨a.toNat,by omega⟩;obtain⟨zN,hzN⟩:∃zN:Nat,z=(zN:Int):=⟨z.toNat,by omega⟩;subst Ps;subst hzN;have HYy:Hid (u.extract aN zN=y):=(by have h8:=HY.out;rw[HP.out] at h8;exact h8);clear HY;go_upto_region 4 with(go_at_call 70;refine jU.mono ?_;clear jU;rintro e w3 ⟨rfl,hk3⟩);have hA3:=(hk3.block A (lt_of_block HA2.out) id).trans HA2.out;have Wu:=(hk3.block X (lt_of_block jv.out) id).trans jv.out;have hb3:=(hk3.block P2 (lt_of_block Hb2.out) id).trans Hb2.out;have hO3:fO w3 base (.slice ao nb cp) b:=Zb HO2.out hk3 (fun _ _ h=>h);have xq:=pR.out.trans hk3;have CJ:(u.extract aN zN).size<=u.size:=by rw[ByteArray.size_extract];omega
   obtain⟨aA,cA,wA,hrun,iy,iH⟩:=xY hO3.drew (by have:=xq.size;have:=Hbz.out;show _<=w3.heap.size;omega) (u.extract aN zN) (by have:=UL.out;omega);have Km:Hid (jP w (.slice ao nb cp) (.slice aA (b++u.extract aN zN).size cA)):=fun k hk hlt=>LP hO3.drew (u.extract aN zN) (by have:=UL.out;omega) hrun k hk (Nat.lt_of_lt_of_le hlt xq.size);have HKT:Hid (Za ((Value.slice ao nb cp).ownBlock=some ·) w wA):=((xq.drew).mono (fun _ _ h=>h.elim)).trans iH;have HF:Hid (fO wA base (.slice aA (b++u.extract aN zN).size cA) (b++u.extract aN zN)):=iy;obtain⟨nA,jD⟩:∃nA,(b++u.extract aN zN).size=nA:=⟨_,rfl⟩;rw[jD] at hrun;have Ep:Hid ((b++u.extract aN zN).size=nA):=jD;have q0:w3.cell? (ak A)=some ((ae X)):=by rw[Zc hA3];rfl
   have q1:w3.cell? (ak X)=some (.string u):=by rw[Zc Wu];exact h0
   have q2:w3.cell? (ak P2)=some (.int .i64 (aN:Int)):=by rw[Zc hb3];rfl
   have q3:w3.cell? ⟨P2,1,none⟩=some (.int .i64 (zN:Int)):=by rw[Zc hb3];rfl
   clear iy jD hO3 hA3 Wu hb3 iH s0 s1 xq hk3 CJ;go_region_law (refine ZaX rfl _ _ _ _ _ rfl rfl (.slice ao nb cp) _ _ _ rfl rfl hrun ?_)
   all_goals go_wp2_with fail
   all_goals go_ret
   all_goals exact⟨aA,nA,cA,rfl,by rw[<- HYy.out,Ep.out],by rw[<- HYy.out,<- Ep.out];exact HF.out,HKT.out.mono (fun k _ h=>(yj ao _ nb cp cp).trans h),fun k hk hlt=>(yj ao _ _ cp cp).trans (Km.out k ((yj aA _ _ cA cA).trans hk) hlt)⟩
def jZ (G:Nat) (l:List Bt):Bool:=l.any fun x=>decide ((G:Int)<x.1)
variable {l:List Bt}
theorem ZnQ{k:Nat}(h:k<l.length):jZ G (l.take (k+1))=(jZ G (l.take k) || decide ((G:Int)<l[k].1)):=by
 unfold jZ;rw[List.take_succ_eq_append_getElem h,List.any_append];simp
theorem ZqG{k:Nat}(h:k<l.length)(hp:decide ((G:Int)<l[k].1)=true):jZ G l=true:=by
 unfold jZ;rw[List.any_eq_true];exact⟨l[k],List.getElem_mem h,hp⟩
def zm (w:World) (A X G:Nat):Prop:=w.heap[A]?=some (.cells #[ae X] 52 (0,0))/\∃cs a c,w.heap[X]?=some (.cells cs 105 (0,0))/\cs[1]?=some (.slice a G c)
theorem zm.same{X:Nat}(h:zm w A X G)(k:Za ai w w'):zm w' A X G:=by
 obtain⟨h1,cs,a,c,h2,h3⟩:=h;exact⟨(k.block A (lt_of_block h1) id).trans h1,cs,a,c,(k.block X (lt_of_block h2) id).trans h2,h3⟩
theorem ZmN{X:Nat}(h:zm w A X G):au 40 #[.agg #[.int .i64 g,.string x],ae A] w fun e w'=>e=.returned (.bool (decide ((G:Int)<g)))/\Za ai w w':=by
 have k1:Za ai w (w.alloc (.cells #[.int .i64 g,.string x] 73)):=QT;have b1:(w.alloc (.cells #[.int .i64 g,.string x] 73)).heap[w.heap.size]?=some (.cells #[.int .i64 g,.string x] 73 (0,0)):=heap_alloc_new _ _;obtain⟨hA,cs,a,c,hX,h1⟩:=h.same k1;go_enter Tryz.func40,Tryz.ntmps40;go_upto_region 1 with fail;generalize w.alloc (.cells #[.int .i64 g,.string x] 73)=W at *;generalize w.heap.size=P at *;have c0:W.cell? (ak P)=some (.int .i64 g):=by rw[Zc b1];rfl
 have c1:W.cell? (ak A)=some ((ae X)):=by rw[Zc hA];rfl
 have c2:W.cell? ⟨X,1,none⟩=some (.slice a G c):=by rw[Zc hX];exact h1
 clear b1 hA hX h1 h;go_quiet (fail);go_wp2_with fail;go_ret;exact⟨rfl,k1.drewN _⟩
variable {ls:List Bt}
theorem Zkc{X n:Nat}(h:BR w base (.slice ao n cap) ls)(hH:zm w A X G)(hn:ls.length=n)(hl:n<=1000):
  au 66 #[.slice ao n cap,.func (.func 40) #[] #[ae A]] w fun e w' =>∃i:Int,e=.returned (.int .i64 i)/\Hid (decide (0<=i)=jZ G ls)/\Za ai w w':=by
 have HN:Hid (ls.length=n):=hn;have HH:Hid (zm w A X G):=hH;have HB:Hid (BR w base (.slice ao n cap) ls):=h;clear hn hH h;go_enter Tryz.func66,Tryz.ntmps66;go_wp2;go_loopg [5,8] (n+1) (fun gl _ s8 wr =>∃k:Nat,k+gl=n+1/\k<=n/\s8=.int .i64 (k:Int)/\Hid (jZ G (ls.take k)=false)/\Za ai w wr)
 case atStart=>exact⟨0,by omega,by omega,rfl,(by show _ = _;simp[jZ]),Za.refl _ _⟩
 case round =>
  obtain⟨k,hgl,hk,rfl,HI,hK⟩:=hrel;have HG:Hid (k+gk=n+1):=hgl;clear hgl
  by_cases hlt:k<n
  ·have hz:(k:Int)<(n:Int):=by omega
   have hkl:k<ls.length:=by have:=HN.out;omega
   have hrow:=Zb HB.out hK (fun _ _ h=>h);rw[HN.out] at hrow;obtain⟨g,rfl⟩:∃g,ao=some ⟨g,0,none⟩:=by
    obtain⟨n0,rfl⟩:∃n0,n=n0+1:=⟨n-1,by omega⟩;obtain⟨g,cp,hv,-⟩:=ZM hrow
    cases hv
    exact⟨g,rfl⟩
   obtain⟨c1,c2⟩:=Jy ls k ls[k] (List.getElem?_eq_getElem hkl);have a0:=hrow.cellAt (k*2) (by omega);have a1:=hrow.cellAt (k*2+1) (by omega);rw[c1] at a0;rw[c2] at a1;have HT:Hid (jZ G (ls.take (k+1))=(jZ G (ls.take k) || decide ((G:Int)<ls[k].1))):=ZnQ hkl;have HY:Hid (decide ((G:Int)<ls[k].1)=true->jZ G ls=true):=(by show _->_;exact ZqG hkl);generalize ls[k]=r at a0 a1 HT HY;obtain⟨x,y⟩:=r;simp only at a0 a1;have hcall:=ZmN (g:=x) (x:=y) (HH.out.same hK);clear hrow c1 c2 hkl
   cases hb:decide ((G:Int)<x) with
   | true =>
     rw[hb] at hcall;have Ka:Hid (jZ G ls=true):=HY.out hb;clear HY HT hb;go_wp2_with(go_at_call 40;refine hcall.mono ?_;rintro e w2 ⟨rfl,hk2⟩);go_ret;exact⟨_,rfl,(by show _ = _;rw[Ka.out];simp),hK.trans hk2⟩
   | false =>
     rw[hb] at hcall;have pU:Hid (jZ G (ls.take (k+1))=false):=(by show _ = _;rw[HT.out,HI.out];simpa using hb);clear HY HT hb;go_wp2_with(go_at_call 40;refine hcall.mono ?_;rintro e w2 ⟨rfl,hk2⟩);go_roundg (gk-1)
     case measure=>have:=HG.out;omega
     case rel=>exact⟨k+1,by have:=HG.out;omega,by omega,congrArg (Value.int .i64) (by omega),pU,hK.trans hk2⟩
  ·obtain rfl:k=n:=by omega
   have HE:Hid (jZ G ls=false):=(by show _ = _;have:=HI.out;rw[<- HN.out,List.take_length] at this;exact this);clear HI;go_wp2;go_ret;exact⟨_,rfl,(by show _ = _;rw[HE.out];simp),hK⟩
theorem Zft{X n:Nat}(h:BR w base (.slice ao n cap) ls)(hH:zm w A X G)(hn:ls.length=n)(hl:n<=1000):
  au 39 #[.slice ao n cap,.func (.func 40) #[] #[ae A]] w fun e w'=>e=.returned (.bool (jZ G ls))/\Za ai w w':=by
 have hcall:=Zkc h hH hn hl;clear h hH;go_enter Tryz.func39,Tryz.ntmps39;go_wp2_with(go_at_call 66;refine hcall.mono ?_;rintro e w2 ⟨i,rfl,HI,hk2⟩);go_ret;exact⟨by rw[<- HI.out];rfl,hk2⟩
theorem Zb1{X n:Nat}{a:Option Addr}{c:Nat}(h:BR w base (.slice ao n cap) ls)(hX:w.heap[X]?=some (.cells cs 105 (0,0)))(h1:cs[1]?=some (.slice a G c))(hn:ls.length=n)(hl:n<=1000):
  au 20 #[ae X,.slice ao n cap] w fun e w'=>e=.returned (.bool (!jZ G ls))/\Za ai w w':=by
 have k1:Za ai w (w.alloc (.cells #[ae X] 52)):=QT;have hH:zm (w.alloc (.cells #[ae X] 52)) w.heap.size X G:=⟨heap_alloc_new _ _,cs,a,c,(k1.block X (lt_of_block hX) id).trans hX,h1⟩;have hcall:=Zft (base:=base) (Zb h k1 (fun _ _ h=>h)) hH hn hl;clear h hH hX h1;go_enter Tryz.func20,Tryz.ntmps20;go_wp2_with(go_at_call 39;refine hcall.mono ?_;rintro e w2 ⟨rfl,hk2⟩);go_ret;exact⟨rfl,k1.trans hk2⟩
end Go.Proofs.YtfkflljplohhcaaGreatDoor
