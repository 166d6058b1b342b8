import Derived.Test.YtfkflljplohhcaaGreatDoorTc
import Derived.Laws.DeepStrings4
set_option linter.unusedVariables false
set_option maxHeartbeats 8000000
set_option maxRecDepth 100000
namespace Go.Proofs.YtfkflljplohhcaaGreatDoor
open Go.RowKit
def gX (bits:List Bt) (t:ByteArray):List Bt:=if t.size=0 then bits else bits++[(-1,t)]
def NT (bits:List Bt):Prop :=∀y,bits.getLast?=some y->y.1≠-1
variable {t s:ByteArray}{p P O base:Nat}{w wr:World}{bv:Value}
theorem Ty(h:t.size=0):t=⟨#[]⟩:=by
 obtain⟨d⟩:=t
 congr 1
 exact Array.eq_empty_of_size_eq_zero h
theorem Zfz(t:ByteArray):(⟨#[]⟩:ByteArray)++t=t:=by
 apply ByteArray.ext;simp
variable {bits:List Bt}
theorem LD(h:NT bits)(t u:ByteArray)(hu:u.size=1):jn (gX bits t) u=gX bits (t++u):=by
 unfold gX;have hs:¬(t++u).size=0:=by rw[ByteArray.size_append];omega
 rw[if_neg hs]
 by_cases ht:t.size=0
 ·rw[if_pos ht,Ty ht,Zfz]
  rcases List.eq_nil_or_concat bits with rfl | ⟨A,y,rfl⟩
  ·rfl
  ·rw[List.concat_eq_append] at h ⊢;rw[Iw _ _ _ (h y (by simp))]
 ·rw[if_neg ht,Ir]
theorem Ea(bits:List Bt):gX bits ⟨#[]⟩=bits:=by unfold gX;rw[if_pos (show (⟨#[]⟩:ByteArray).size=0 from rfl)]
theorem ZiI{m:Nat}(h:ib m (gX bits t)):ib m bits/\t.size<=m:=by
 unfold gX at h
 split at h
 ·rename_i h0;exact⟨h,by omega⟩
 ·refine⟨⟨by have:=h.1;simp at this;omega,fun x hx=>h.2 x (by simp[hx])⟩,?_⟩;exact h.2 (-1,t) (by simp)
theorem YU(bits:List Bt)(x:Bt)(h:x.1≠-1):NT (bits++[x]):=by
 intro y hy;simp at hy;subst hy;exact h
theorem MP(h:p<s.size):(Jz s p).size=1:=by unfold Jz;rw[ByteArray.size_extract];omega
theorem Zlq(h:p<s.size)(w:World):(Instr.slice 9 (.string s) (some (.int .i64 (p:Int))) (some (.int .i64 ((p:Int)+1))) none).run Tryz.prog w=.ok (.string (Jz s p)) w:=by
 rw[run_slice_string_if w 9 s .i64 .i64 (p:Int) ((p:Int)+1) Tryz.underlying9,if_pos (by omega),if_pos (by omega)];rfl
theorem Xw(h:¬t.size=0):t.toList.isEmpty=false:=by
 rw[ByteArray.toList_eq]
 cases hc:t.data.toList.isEmpty with
 | false=>rfl
 | true =>
   rw[List.isEmpty_iff] at hc
   have:=congrArg List.length hc
   exact absurd (by simpa using this) h
theorem ZtP(h:p+1<s.size)(w:World):(Instr.index 9 (.string s) (.int .i64 ((p:Int)+1))).run Tryz.prog w=.ok (.int .u8 ((bt s (p+1):Nat):Int)) w:=by
 rw[run_index_string w 9 s .i64 ((p:Int)+1) Tryz.underlying9,dif_pos (by omega),ZX h];rfl
theorem XY(w:World):(binOp BinOp.neq 9 (.string ⟨#[]⟩) (.string ⟨#[]⟩)).run Tryz.prog w=.ok (.bool false) w:=by kernel_rfl
structure Sc (w:World) (P O:Nat) (base:Nat) (bits:List Bt) (bv:Value):Prop where
 p:Bk w P 56 [.bool false,.int .i64 0,.slice none 0 0]
 o:Bk w O 56 [.bool true,.int .i64 0,bv]
 b:BR w base bv bits
 ne:P≠O
theorem Sc.drew(h:Sc w P O base bits bv):Sc w.drew P O base bits bv:=⟨h.p,h.o,Qa h.b rfl,h.ne⟩
theorem LA(x:Bt)(hS:Sc wr P O base bits bv)(hb:base<=wr.heap.size)(hl:bits.length<=1000):
  ∃ v' w9,Sem.run Tryz.prog (Builtin.append_ #[54,54] 54 #[bv,.slice (some ⟨wr.heap.size,0,none⟩) 1 1]) (wr.alloc (.cells #[.int .i64 x.1,.string x.2] 73))=.ok v' w9/\Sc (w9.setCell ⟨O,2,none⟩ v') P O base (bits++[x]) v'/\w9.cell? ⟨O,2,none⟩=some bv/\w9.frozen? ⟨O,2,none⟩=false/\(wr.alloc (.cells #[.int .i64 x.1,.string x.2] 73)).cell? ⟨O,2,none⟩=some bv/\(∃a c,v'=.slice a (bits++[x]).length c)/\
    ∀w0,Za ai w0 wr->w0.heap.size<=base->w0.heap.size<=O->Za ai w0 (w9.setCell ⟨O,2,none⟩ v'):=by
 obtain⟨v',w9,hrun,hB,hk⟩:=SB hS.b hb (by omega) x;have kA:Za ai wr (wr.alloc (.cells #[.int .i64 x.1,.string x.2] 73)):=QT;have dF:=hS.o.keeps kA id;have hno:∀k,bv.ownBlock=some k->k≠P/\k≠O:=by
  intro k hk;obtain⟨c2,h2⟩:=Im hS.b hk;refine⟨?_,?_⟩ <;> rintro rfl
  ·have:=hS.p;unfold Bk at this;rw[this] at h2;simp at h2
  ·have:=hS.o;unfold Bk at this;rw[this] at h2;simp at h2
 have yU:=hS.o.keeps hk (fun h=>(hno _ h).2 rfl);have PO:=hS.p.keeps hk (fun h=>(hno _ h).1 rfl);have OB:∀k,v'.ownBlock=some k->k≠O:=by
  rintro k hk rfl;obtain⟨c2,h2⟩:=Im hB hk;unfold Bk at yU;rw[yU] at h2;simp at h2
 refine⟨v',w9,hrun,⟨?_,?_,Zb hB ((Za.refl (·=O) w9).setCell (a:=⟨O,2,none⟩) (fun _=>rfl) v') OB,hS.ne⟩,by rw[yU.cell];rfl,yU.fz 2,by rw[dF.cell];rfl,aj hB,?_⟩
 ·exact PO.keeps ((Za.refl (·=O) w9).setCell (a:=⟨O,2,none⟩) (fun _=>rfl) v') hS.ne
 ·have:=yU.set 2 v'
  simpa [List.set] using this
 ·intro w0 k0 h0 h1;exact(k0.trans' hk (fun i hi h=>by have:=(hS.b.lt i h).1;omega)).setCell (fun h=>by simp at h;omega) _
theorem Yw(hS:Sc wr P O base bits bv)(hK:Za ai w wr)(h1:w.heap.size<=P)(h2:w.heap.size<=base):
  BR (((wr.setCell (ak P) (.bool true)).setCell ⟨P,1,none⟩ (.int .i64 0)).setCell ⟨P,2,none⟩ bv) base bv bits/\Za ai w (((wr.setCell (ak P) (.bool true)).setCell ⟨P,1,none⟩ (.int .i64 0)).setCell ⟨P,2,none⟩ bv):=by
 refine⟨Zb hS.b ((((Za.refl (·=P) wr).setCell (a:=(ak P)) (fun _=>rfl) _).setCell (a:=⟨P,1,none⟩) (fun _=>rfl) _).setCell (a:=⟨P,2,none⟩) (fun _=>rfl) _) ?_,?_⟩
 ·rintro k hk rfl;obtain⟨c2,h2⟩:=Im hS.b hk
  have:=hS.p;unfold Bk at this;rw[this] at h2;simp at h2
 ·exact((hK.setCell (fun h=>by simp at h;omega) _).setCell (fun h=>by simp at h;omega) _).setCell (fun h=>by simp at h;omega) _
theorem Zhd(s:ByteArray)(w:World)(Ae:s.size<=1048576):au 29 #[.string s] w (DZ s w):=by
 by_cases hs:100<s.size
 ·have HE:Hid (ZF s=.error 100):=(by show _ = _;unfold ZF;rw[if_pos hs]);have hz:(100:Int)<(s.size:Int):=by omega
  go_enter Tryz.func29,Tryz.ntmps29;go_wp2_with fail;refine bodyPost_ret (v:=.agg #[.bool false,.int .i64 100,.slice none 0 0]) (by simp[results,Tryz.results29,go_sem]) rfl ?_;refine⟨_,by rw[HE.out];rfl,?_,(Za.refl _ w).alloc _⟩;rw[HE.out];exact World.ownsRow_nil _ _ _ _
 ·have hz:¬(100:Int)<(s.size:Int):=by omega
  obtain⟨r,hr⟩:∃r,gI s (s.size+1) 0 []=r:=⟨_,rfl⟩;have zL:Hid (gI s (s.size+1) 0 []=r):=hr;have HE:Hid (ZF s=r):=(by show _ = _;unfold ZF;rw[if_neg hs];exact hr);clear hr;go_enter Tryz.func29,Tryz.ntmps29;go_upto_region 6 with fail;have kA:Za ai w ((w.alloc (.cells #[.bool false,.int .i64 0,.slice none 0 0] 56)).alloc (.cells #[.bool true,.int .i64 0,.slice none 0 0] 56)):=((Za.refl _ w).alloc _).alloc _;have hS:Sc ((w.alloc (.cells #[.bool false,.int .i64 0,.slice none 0 0] 56)).alloc (.cells #[.bool true,.int .i64 0,.slice none 0 0] 56)) w.heap.size (w.heap.size+1) w.heap.size [] (.slice none 0 0) :=
   ⟨fU w _ _,gH w _ _,World.ownsRow_nil _ _ _ _,by omega⟩
  have GN:w.heap.size<=w.heap.size/\w.heap.size<=w.heap.size+1:=by omega
  generalize ((w.alloc (.cells #[.bool false,.int .i64 0,.slice none 0 0] 56)).alloc (.cells #[.bool true,.int .i64 0,.slice none 0 0] 56))=w1 at kA hS ⊢;generalize WR:w.heap.size=base at hS GN ⊢;have jy:Hid (w.heap.size=base):=WR;clear WR;generalize hOe:base+1=O at hS GN ⊢;clear hOe;generalize lH:base=P at hS GN ⊢;have HPe:Hid (base=P):=lH;rw[<- lH] at GN;obtain⟨-,hO⟩:=GN;have hSb:Sc w1 P O base [] (.slice none 0 0):=by rw[lH];exact hS
  clear lH hS;have hbp:base<=P:=by have:=HPe.out;omega
  go_wp2;go_loopg [4,5] (s.size+1) (fun gl s4 s5 wr =>∃(p:Nat) (bits:List Bt) (t:ByteArray) (bv:Value),s.size<p+gl/\p<=s.size/\s4=.string t/\s5=.int .i64 (p:Int)/\Sc wr P O base bits bv/\NT bits/\ib p (gX bits t)/\Hid (gI s gl p (gX bits t)=r)/\Za ai w wr)
  case atStart=>exact⟨0,[],⟨#[]⟩,_,by omega,by omega,rfl,rfl,hSb,fun y h=>by simp at h,by rw[Ea];exact⟨by simp,by simp⟩,by show _ = _;rw[Ea];exact zL.out,kA⟩
  case round =>
   clear hSb kA zL;obtain⟨p,bits,t,bv,hgl,hp,rfl,rfl,hS,hnt,hf,HR,hK⟩:=hrel;obtain⟨f,rfl⟩:∃f,gk=f+1:=⟨gk-1,by omega⟩;obtain⟨av,cv,hv⟩:=aj hS.b;subst hv;have hts:=(ZiI hf).2;have hbf:=(ZiI hf).1
   by_cases hlt:p<s.size
   ·have hpz:(p:Int)<(s.size:Int):=by omega
    have hxz:s[p].toNat=bt s p:=(ZX hlt).symm
    by_cases hb:bt s p=36
    ·rw[hb] at hxz
     by_cases hp1:p+1<s.size
     ·have xaq:((p+1:Nat):Int)<(s.size:Int):=by omega
      have Oz:((p:Int)+1 == (s.size:Int))=false:=by simp;omega
      have zZ:s[p+1].toNat=bt s (p+1):=(ZX hp1).symm;have hyl:=Jh hp1
      by_cases hb2:bt s (p+1)=36
      ·have HX:Hid (gI s f (p+2) (gX bits (t++⟨#[36]⟩))=r):=(by show _ = _;rw[<- HR.out,Jr s p hlt];simp only[J5,if_pos hb,if_pos hb2,mD,if_true];rw[LD hnt _ _ rfl]);have HF:Hid (ib (p+2) (gX bits (t++⟨#[36]⟩))):=(by show ib _ _;rw[<- LD hnt _ ⟨#[36]⟩ rfl];exact(Ij hf (t:=⟨#[36]⟩) (Nat.le_refl 1)).mono (by omega));have hsz:¬9223372036854775807<t.size+1:=by omega
       rw[hb2] at zZ;clear hb hb2 HR hyl;go_wp2_with fail;go_roundg (f+1-1)
       case measure=>omega
       case rel=>exact⟨p+2,bits,_,_,by omega,by omega,rfl,congrArg (Value.int .i64) (by omega),hS,hnt,HF.out,HX,hK⟩
      ·cases hd:ZI (bt s (p+1)) with
       | false =>
         have HX:Hid (r=.error (p+1)):=(by show _ = _;rw[<- HR.out,Jr s p hlt];simp only[J5,if_pos hb,if_neg hb2,hd];rfl);have d0:wr.cell? (ak P)=some (.bool false):=by rw[hS.p.cell];rfl
         have d1:wr.cell? ⟨P,1,none⟩=some (.int .i64 0):=by rw[hS.p.cell];rfl
         have d2:wr.cell? ⟨P,2,none⟩=some (.slice none 0 0):=by rw[hS.p.cell];rfl
         have f0:=hS.p.fz 0;have f1:=hS.p.fz 1;have f2:=hS.p.fz 2;have dY:=((hS.p.set 0 (.bool false)).set 1 (.int .i64 ((p:Int)+1))).set 2 (.slice none 0 0);have g0:=dY.cell 0;have g1:=dY.cell 1;have g2:=dY.cell 2;simp only[List.set,List.getElem?_cons_zero,List.getElem?_cons_succ] at g0 g1 g2;have hKf:Za ai w (((wr.setCell (ak P) (.bool false)).setCell ⟨P,1,none⟩ (.int .i64 ((p:Int)+1))).setCell ⟨P,2,none⟩ (.slice none 0 0)) :=
          ((hK.setCell (fun h=>by have:=jy.out;simp at h;omega) _).setCell (fun h=>by have:=jy.out;simp at h;omega) _).setCell (fun h=>by have:=jy.out;simp at h;omega) _
         have hdd:bt s (p+1)<48\/(48<=bt s (p+1)/\57<bt s (p+1)):=by simp[ZI] at hd;omega
         have Gy:(((bt s (p+1):Nat):Int) == 36)=false:=by simp;omega
         clear dY hS hf hnt hbf HR hb hb2 hd;generalize bt s (p+1)=y at zZ hyl hdd Gy;have hfin:DZ s w (.returned (.agg #[.bool false,.int .i64 ((p:Int)+1),.slice none 0 0])) (((wr.setCell (ak P) (.bool false)).setCell ⟨P,1,none⟩ (.int .i64 ((p:Int)+1))).setCell ⟨P,2,none⟩ (.slice none 0 0)):=by
          refine⟨_,by rw[HE.out,HX.out];rfl,?_,hKf⟩;rw[HE.out,HX.out];exact World.ownsRow_nil _ _ _ _
         rcases hdd with hq | hq
         ·have hqz:(y:Int)<48:=by omega
          go_wp2_with fail;refine bodyPost_ret (v:=.agg #[.bool false,.int .i64 ((p:Int)+1),.slice none 0 0]) (by simp[results,Tryz.results29,go_sem,g0,g1,g2]) rfl ?_;exact hfin
         ·have hqz:¬(y:Int)<48:=by omega
          have xao:57<(y:Int):=by omega
          clear hq;go_wp2_with fail;refine bodyPost_ret (v:=.agg #[.bool false,.int .i64 ((p:Int)+1),.slice none 0 0]) (by simp[results,Tryz.results29,go_sem,g0,g1,g2]) rfl ?_;exact hfin
       | true =>
         have hd1:48<=bt s (p+1)/\bt s (p+1)<=57:=by simpa [ZI] using hd
         have HX:Hid (gI s f (p+2) (gX bits t++[(((bt s (p+1):Nat):Int)-48,⟨#[]⟩)])=r):=(by show _ = _;rw[<- HR.out,Jr s p hlt];simp only[J5,if_pos hb,if_neg hb2,hd,if_true];unfold mD;rw[if_neg (by simp only;omega)]);have HF:Hid (ib (p+2) (gX bits t++[(((bt s (p+1):Nat):Int)-48,⟨#[]⟩)])):=(by show ib _ _;exact(hf.snoc (x:=(((bt s (p+1):Nat):Int)-48,⟨#[]⟩)) (Nat.zero_le (p+1))).mono (by omega));have Gy:(((bt s (p+1):Nat):Int) == 36)=false:=by simp;omega
         have z1:¬((bt s (p+1):Nat):Int)<48:=by omega
         have z2:¬57<((bt s (p+1):Nat):Int):=by omega
         clear hb hb2 hd HR;have hw:IntKind.u8.wrap (((bt s (p+1):Nat):Int)-48)=((bt s (p+1):Nat):Int)-48:=by unfold IntKind.wrap;simp[IntKind.bits,IntKind.signed];omega
         have hw2:IntKind.i64.wrap (((bt s (p+1):Nat):Int)-48)=((bt s (p+1):Nat):Int)-48:=IntWalk.i64_in _ ⟨by omega,by omega⟩;have hix:=ZtP hp1;have HY:Hid (((bt s (p+1):Nat):Int)-48≠-1):=(by show _≠_;omega);generalize bt s (p+1)=y at *;have hbw:base<=wr.heap.size:=by have:=hK.size;have:=jy.out;omega
         by_cases ht:t.size=0
         ·have HT:Hid (gX bits t=bits):=(by show _ = _;unfold gX;rw[if_pos ht]);obtain rfl:=Ty ht;have hq:=XY;obtain⟨v',w9,dX,GH,e2,ef,d2,⟨a8,c8,wW⟩,GZ⟩:=LA ((y:Int)-48,⟨#[]⟩) hS.drew hbw (by have:=hbf.1;omega);have hrun:Sem.run Tryz.prog (Builtin.append_ #[54,54] 54 #[.slice av bits.length cv,.slice (some ⟨wr.heap.size,0,none⟩) 1 1]) (wr.alloc (.cells #[.int .i64 ((y:Int)-48),.string ⟨#[]⟩] 73)).drew=.ok v' w9:=dX;have d3:(wr.alloc (.cells #[.int .i64 ((y:Int)-48),.string ⟨#[]⟩] 73)).cell? ⟨O,2,none⟩=some (.slice av bits.length cv):=d2;clear dX d2;have Gh:(bits++[(((y:Int)-48,⟨#[]⟩):Bt)]).length=bits.length+1:=by simp
          rw[Gh] at wW;clear Gh;subst wW;have hKf:=GZ w hK.drew (by have:=jy.out;omega) (by have:=jy.out;omega);have o2:wr.cell? ⟨O,2,none⟩=some (.slice av bits.length cv):=by rw[hS.o.cell];rfl
          have jv:Hid (gI s f (p+2) (gX (bits++[((y:Int)-48,⟨#[]⟩)]) ⟨#[]⟩)=r):=(by show _ = _;rw[Ea,<- HX.out,HT.out]);have Cn:Hid (ib (p+2) (gX (bits++[((y:Int)-48,⟨#[]⟩)]) ⟨#[]⟩)):=(by show ib _ _;have:=HF.out;rw[HT.out] at this;rw[Ea];exact this);have pU:Hid (NT (bits++[((y:Int)-48,⟨#[]⟩)])):=YU _ _ HY.out;generalize bits++[(((y:Int)-48,⟨#[]⟩):Bt)]=uM at GH jv Cn pU;clear hS GZ hK hf hbf hnt;clear ht hz;go_wp2_with fail;go_region_law (refine Q7 rfl _ _ _ _ rfl rfl _ _ _ _ rfl rfl hrun ?_)
          all_goals (try go_wp2_with fail)
          all_goals go_roundg (f+1-1)
          all_goals first
           | omega
           | exact⟨p+2,uM,⟨#[]⟩,_,by omega,by omega,rfl,congrArg (Value.int .i64) (by omega),GH,pU.out,Cn.out,jv,hKf⟩
         ·have HT:Hid (gX bits t=bits++[(-1,t)]):=(by show _ = _;unfold gX;rw[if_neg ht]);have hq:=Xw ht;obtain⟨v1,w8,mH,CZ,e8,RI,d8,⟨a7,c7,hv7⟩,G5⟩:=LA (-1,t) hS hbw (by have:=hbf.1;omega);have o8:wr.cell? ⟨O,2,none⟩=some (.slice av bits.length cv):=by rw[hS.o.cell];rfl
          have CP:(bits++[((-1,t):Bt)]).length=bits.length+1:=by simp
          have HL8:Hid ((bits++[((-1,t):Bt)]).length<=1000):=(by show _<=_;have:=hbf.1;omega);have Dg:=G5 w hK (by have:=jy.out;omega) (by have:=jy.out;omega);rw[CP] at hv7;subst hv7;clear hS G5 hK hbw;go_upto_region 20 with(refine Zj rfl _ _ _ _ rfl rfl _ _ _ _ rfl rfl mH ?_);clear mH e8 RI d8 o8;rw[<- CP] at CZ Dg;rw[<- CP];generalize bits++[((-1,t):Bt)]=fJ at *;clear CP hbf hnt hf;have hS:=CZ;have hK:=Dg;clear CZ Dg;generalize w8.setCell ⟨O,2,none⟩ (.slice a7 fJ.length c7)=iX at hS hK ⊢;have hbw:base<=iX.heap.size:=by have:=hK.size;have:=jy.out;omega
          obtain⟨v',w9,dX,GH,e2,ef,d2,⟨a8,c8,wW⟩,GZ⟩:=LA ((y:Int)-48,⟨#[]⟩) hS.drew hbw HL8.out;have hrun:Sem.run Tryz.prog (Builtin.append_ #[54,54] 54 #[.slice a7 fJ.length c7,.slice (some ⟨iX.heap.size,0,none⟩) 1 1]) (iX.alloc (.cells #[.int .i64 ((y:Int)-48),.string ⟨#[]⟩] 73)).drew=.ok v' w9:=dX;have d3:(iX.alloc (.cells #[.int .i64 ((y:Int)-48),.string ⟨#[]⟩] 73)).cell? ⟨O,2,none⟩=some (.slice a7 fJ.length c7):=d2;clear dX d2;have Gh:(fJ++[(((y:Int)-48,⟨#[]⟩):Bt)]).length=fJ.length+1:=by simp
          rw[Gh] at wW;clear Gh;subst wW;have hKf:=GZ w hK.drew (by have:=jy.out;omega) (by have:=jy.out;omega);have o2:iX.cell? ⟨O,2,none⟩=some (.slice a7 fJ.length c7):=by rw[hS.o.cell];rfl
          have jv:Hid (gI s f (p+2) (gX (fJ++[((y:Int)-48,⟨#[]⟩)]) ⟨#[]⟩)=r):=(by show _ = _;rw[Ea,<- HX.out,HT.out]);have Cn:Hid (ib (p+2) (gX (fJ++[((y:Int)-48,⟨#[]⟩)]) ⟨#[]⟩)):=(by show ib _ _;have:=HF.out;rw[HT.out] at this;rw[Ea];exact this);have pU:Hid (NT (fJ++[((y:Int)-48,⟨#[]⟩)])):=YU _ _ HY.out;generalize fJ++[(((y:Int)-48,⟨#[]⟩):Bt)]=uM at GH jv Cn pU;clear hS GZ hK;go_wp2_with fail;go_region_law (refine Q7 rfl _ _ _ _ rfl rfl _ _ _ _ rfl rfl hrun ?_)
          all_goals (try go_wp2_with fail)
          all_goals go_roundg (f+1-1)
          all_goals first
           | omega
           | exact⟨p+2,uM,⟨#[]⟩,_,by omega,by omega,rfl,congrArg (Value.int .i64) (by omega),GH,pU.out,Cn.out,jv,hKf⟩
     ·have hb2:bt s (p+1)≠36:=by rw[Z7 hp1];omega
      have hd:ZI (bt s (p+1))=false:=by rw[Z7 hp1];rfl
      have Oz:((p:Int)+1 == (s.size:Int))=true:=by simp;omega
      have HX:Hid (r=.error (p+1)):=(by show _ = _;rw[<- HR.out,Jr s p hlt];simp only[J5,if_pos hb,if_neg hb2,hd];rfl);have d0:wr.cell? (ak P)=some (.bool false):=by rw[hS.p.cell];rfl
      have d1:wr.cell? ⟨P,1,none⟩=some (.int .i64 0):=by rw[hS.p.cell];rfl
      have d2:wr.cell? ⟨P,2,none⟩=some (.slice none 0 0):=by rw[hS.p.cell];rfl
      have f0:=hS.p.fz 0;have f1:=hS.p.fz 1;have f2:=hS.p.fz 2;have dY:=((hS.p.set 0 (.bool false)).set 1 (.int .i64 ((p:Int)+1))).set 2 (.slice none 0 0);have g0:=dY.cell 0;have g1:=dY.cell 1;have g2:=dY.cell 2;simp only[List.set,List.getElem?_cons_zero,List.getElem?_cons_succ] at g0 g1 g2;have hKf:Za ai w (((wr.setCell (ak P) (.bool false)).setCell ⟨P,1,none⟩ (.int .i64 ((p:Int)+1))).setCell ⟨P,2,none⟩ (.slice none 0 0)) :=
       ((hK.setCell (fun h=>by have:=jy.out;simp at h;omega) _).setCell (fun h=>by have:=jy.out;simp at h;omega) _).setCell (fun h=>by have:=jy.out;simp at h;omega) _
      clear dY hS hf hnt hbf HR hb hb2 hd;go_wp2_with fail;refine bodyPost_ret (v:=.agg #[.bool false,.int .i64 ((p:Int)+1),.slice none 0 0]) (by simp[results,Tryz.results29,go_sem,g0,g1,g2]) rfl ?_;refine⟨_,by rw[HE.out,HX.out];rfl,?_,hKf⟩;rw[HE.out,HX.out];exact World.ownsRow_nil _ _ _ _
    ·have hbz:(((bt s p:Nat):Int) != 36)=true:=by simp;omega
     have HX:Hid (gI s f (p+1) (gX bits (t++Jz s p))=r):=(by show _ = _;rw[<- HR.out,Jr s p hlt];simp only[J5,if_neg hb,mD,if_true];rw[LD hnt _ _ (MP hlt)]);have HF:Hid (ib (p+1) (gX bits (t++Jz s p))):=(by show ib _ _;rw[<- LD hnt _ _ (MP hlt)];exact Ij hf (by rw[MP hlt];omega));have hsz:¬9223372036854775807<t.size+(Jz s p).size:=by rw[MP hlt];omega
     have hsl:=Zlq hlt;go_wp2_with fail;go_roundg (f+1-1)
     case measure=>omega
     case rel=>exact⟨p+1,bits,t++Jz s p,_,by omega,by omega,rfl,congrArg (Value.int .i64) (by omega),hS,hnt,HF.out,HX,hK⟩
   ·have hpe:p=s.size:=by omega
    have hlz:¬(p:Int)<(s.size:Int):=by omega
    have HX:Hid (r=.ok (gX bits t)):=(by show _ = _;rw[<- HR.out,gI,if_pos (by omega)]);have hbw:base<=wr.heap.size:=by have:=hK.size;have:=jy.out;omega
    clear hpe HR hlt
    by_cases ht:t.size=0
    ·have HT:Hid (gX bits t=bits):=(by show _ = _;unfold gX;rw[if_pos ht]);obtain rfl:=Ty ht;have hq:=XY;have d0:wr.cell? (ak P)=some (.bool false):=by rw[hS.p.cell];rfl
     have d1:wr.cell? ⟨P,1,none⟩=some (.int .i64 0):=by rw[hS.p.cell];rfl
     have d2:wr.cell? ⟨P,2,none⟩=some (.slice none 0 0):=by rw[hS.p.cell];rfl
     have f0:=hS.p.fz 0;have f1:=hS.p.fz 1;have f2:=hS.p.fz 2;have o0:wr.cell? (ak O)=some (.bool true):=by rw[hS.o.cell];rfl
     have o1:wr.cell? ⟨O,1,none⟩=some (.int .i64 0):=by rw[hS.o.cell];rfl
     have o2:wr.cell? ⟨O,2,none⟩=some (.slice av bits.length cv):=by rw[hS.o.cell];rfl
     have hfin:=Yw hS hK (by have:=jy.out;omega) (by have:=jy.out;omega);have dY:=((hS.p.set 0 (.bool true)).set 1 (.int .i64 0)).set 2 (.slice av bits.length cv);have g0:=dY.cell 0;have g1:=dY.cell 1;have g2:=dY.cell 2;simp only[List.set,List.getElem?_cons_zero,List.getElem?_cons_succ] at g0 g1 g2;clear dY hS hf hnt hbf ht;go_wp2_with fail;refine bodyPost_ret (v:=.agg #[.bool true,.int .i64 0,.slice av bits.length cv]) (by simp[results,Tryz.results29,go_sem,g0,g1,g2]) rfl ?_;refine⟨_,by rw[HE.out,HX.out];rfl,?_,hfin.2⟩;rw[HE.out,HX.out,jy.out];show BR _ _ _ (gX bits ⟨#[]⟩);rw[HT.out];exact hfin.1
    ·have HT:Hid (gX bits t=bits++[(-1,t)]):=(by show _ = _;unfold gX;rw[if_neg ht]);have hq:=Xw ht;obtain⟨v1,w8,mH,CZ,e8,RI,d8,⟨a7,c7,hv7⟩,G5⟩:=LA (-1,t) hS hbw (by have:=hbf.1;omega);have o8:wr.cell? ⟨O,2,none⟩=some (.slice av bits.length cv):=by rw[hS.o.cell];rfl
     have CP:(bits++[((-1,t):Bt)]).length=bits.length+1:=by simp
     have Dg:=G5 w hK (by have:=jy.out;omega) (by have:=jy.out;omega);rw[CP] at hv7;subst hv7;clear hS G5 hK hbw;go_upto_region 21 with fail;go_upto_region 23 with(refine Zj rfl _ _ _ _ rfl rfl _ _ _ _ rfl rfl mH ?_);clear mH e8 RI d8 o8;generalize bits++[((-1,t):Bt)]=fJ at *;clear hbf hnt hf;have hS:=CZ;have hK:=Dg;clear CZ Dg;generalize w8.setCell ⟨O,2,none⟩ (.slice a7 (bits.length+1) c7)=iX at hS hK ⊢;generalize bits.length+1=n1 at hS ⊢;have d0:iX.cell? (ak P)=some (.bool false):=by rw[hS.p.cell];rfl
     have d1:iX.cell? ⟨P,1,none⟩=some (.int .i64 0):=by rw[hS.p.cell];rfl
     have d2:iX.cell? ⟨P,2,none⟩=some (.slice none 0 0):=by rw[hS.p.cell];rfl
     have f0:=hS.p.fz 0;have f1:=hS.p.fz 1;have f2:=hS.p.fz 2;have o0:iX.cell? (ak O)=some (.bool true):=by rw[hS.o.cell];rfl
     have o1:iX.cell? ⟨O,1,none⟩=some (.int .i64 0):=by rw[hS.o.cell];rfl
     have o2:iX.cell? ⟨O,2,none⟩=some (.slice a7 n1 c7):=by rw[hS.o.cell];rfl
     have hfin:=Yw hS hK (by have:=jy.out;omega) (by have:=jy.out;omega);have dY:=((hS.p.set 0 (.bool true)).set 1 (.int .i64 0)).set 2 (.slice a7 n1 c7);have g0:=dY.cell 0;have g1:=dY.cell 1;have g2:=dY.cell 2;simp only[List.set,List.getElem?_cons_zero,List.getElem?_cons_succ] at g0 g1 g2;clear dY hS;go_wp2_with fail;refine bodyPost_ret (v:=.agg #[.bool true,.int .i64 0,.slice a7 n1 c7]) (by simp[results,Tryz.results29,go_sem,g0,g1,g2]) rfl ?_;refine⟨_,by rw[HE.out,HX.out];rfl,?_,hfin.2⟩;rw[HE.out,HX.out,jy.out];show BR _ _ _ (gX bits t);rw[HT.out];exact hfin.1
end Go.Proofs.YtfkflljplohhcaaGreatDoor
