import Derived.Test.YtfkflljplohhcaaGreatDoorMa
import Derived.Test.YtfkflljplohhcaaGreatDoorN
set_option linter.unusedVariables false
set_option maxHeartbeats 2000000
set_option maxRecDepth 100000
namespace Go.Proofs.YtfkflljplohhcaaGreatDoor
open Go.RowKit
abbrev Bt:=Int×ByteArray
def jn (acc:List Bt) (t:ByteArray):List Bt:=match acc.getLast? with
 | none=>acc++[(-1,t)]
 | some x=>if x.1 = -1 then acc.dropLast++[(-1,x.2++t)] else acc++[(-1,t)]
def Jz (s:ByteArray) (p:Nat):ByteArray:=s.extract p (p+1)
def gI (s:ByteArray):Nat->Nat->List Bt->Except Nat (List Bt)
 | 0,_,acc => .ok acc
 | f+1,p,acc =>
   if ¬p<s.size then .ok acc
   else if bt s p=36 then
    if bt s (p+1)=36 then gI s f (p+2) (jn acc ⟨#[36]⟩)
    else if ZI (bt s (p+1)) then gI s f (p+2) (acc++[(((bt s (p+1):Nat):Int)-48,⟨#[]⟩)])
    else .error (p+1)
   else gI s f (p+1) (jn acc (Jz s p))
def ZF (s:ByteArray):Except Nat (List Bt):=if 100<s.size then .error 100 else gI s (s.size+1) 0 []
theorem Sq(t:ByteArray):jn [] t = [(-1,t)]:=rfl
theorem Ir(A:List Bt)(x t:ByteArray):jn (A++[(-1,x)]) t=A++[(-1,x++t)]:=by simp[jn]
theorem Iw(A:List Bt)(x:Bt)(t:ByteArray)(h:x.1≠-1):jn (A++[x]) t=A++[x]++[(-1,t)]:=by simp[jn,h]
def ib (m:Nat) (acc:List Bt):Prop:=acc.length<=m/\∀x∈acc,x.2.size<=m
variable {m R p b:Nat}{acc:List Bt}{s:ByteArray}{w:World}
theorem ib.mono{n:Nat}(h:ib m acc)(hn:m<=n):ib n acc:=⟨Nat.le_trans h.1 hn,fun x hx=>Nat.le_trans (h.2 x hx) hn⟩
theorem ib.snoc(h:ib m acc){x:Bt}(hx:x.2.size<=m+1):ib (m+1) (acc++[x]):=by
 refine⟨by rw[List.length_append];have:=h.1;simp;omega,fun y hy=>?_⟩
 rcases List.mem_append.1 hy with hy | hy
 ·exact Nat.le_trans (h.2 y hy) (by omega)
 ·simp at hy;subst hy;exact hx
theorem Ij(h:ib m acc){t:ByteArray}(ht:t.size<=1):ib (m+1) (jn acc t):=by
 rcases List.eq_nil_or_concat acc with rfl | ⟨A,x,rfl⟩
 ·exact h.snoc (x:=(-1,t)) (by simp;omega)
 ·obtain⟨g,y⟩:=x
  by_cases hg:g = -1
  ·subst hg;rw[List.concat_eq_append,Ir];rw[List.concat_eq_append] at h;refine⟨by have:=h.1;simp at this ⊢;omega,fun z hz=>?_⟩
   rcases List.mem_append.1 hz with hz | hz
   ·exact Nat.le_trans (h.2 z (by simp[hz])) (by omega)
   ·simp at hz;subst hz
    have:=h.2 (-1,y) (by simp)
    rw[ByteArray.size_append];simp only at this;omega
  ·rw[List.concat_eq_append,Iw _ _ _ (by exact hg)];rw[List.concat_eq_append] at h;exact h.snoc (x:=(-1,t)) (by simp;omega)
theorem Zos(s:ByteArray)(f:Nat):∀p acc L,ib p acc->p<=s.size->gI s f p acc=.ok L->ib s.size L:=by
 induction f with
 | zero=>intro p acc L h hp he;simp[gI] at he;subst he;exact h.mono hp
 | succ f ih =>
   intro p acc L h hp he;rw[gI] at he
   split at he
   ·simp at he;subst he;exact h.mono hp
   ·rename_i hlt;have hlt':p<s.size:=by omega
    split at he
    ·split at he
     ·rename_i h2
      have:p+1<s.size:=Decidable.byContradiction fun hn=>by rw[Z7 hn] at h2;simp at h2
      exact ih (p+2) _ L ((Ij h (by decide)).mono (by omega)) (by omega) he
     ·split at he
      ·rename_i h2
       have:p+1<s.size:=Decidable.byContradiction fun hn=>by rw[Z7 hn] at h2;simp[ZI] at h2
       exact ih (p+2) _ L ((h.snoc (x:=(((bt s (p+1):Nat):Int)-48,⟨#[]⟩)) (Nat.zero_le (p+1))).mono (by omega)) (by omega) he
      ·simp at he
    ·exact ih (p+1) _ L (Ij h (by unfold Jz;rw[ByteArray.size_extract];omega)) (by omega) he
variable {L:List Bt}
theorem ZjD(h:ZF s=.ok L):ib 100 L:=by
 unfold ZF at h
 split at h
 ·simp at h
 ·exact(Zos s _ 0 [] L ⟨by simp,by simp⟩ (Nat.zero_le _) h).mono (by omega)
def qx (x:Bt):List Value := [.int .i64 x.1,.string x.2]
theorem ZgQ(L:List Bt):(L.flatMap qx).length=L.length*2:=by
 induction L with
 | nil=>rfl
 | cons r l ih=>simp[qx] at ih ⊢;omega
theorem Jy(L:List Bt)(j:Nat)(x:Bt)(h:L[j]?=some x):(L.flatMap qx)[j*2]?=some (.int .i64 x.1)/\(L.flatMap qx)[j*2+1]?=some (.string x.2):=by
 induction L generalizing j with
 | nil=>simp at h
 | cons r l ih =>
   cases j with
   | zero=>simp at h;subst h;simp[qx]
   | succ j =>
     have:=ih j (by simpa using h)
     have e:(r::l).flatMap qx=.int .i64 r.1::.string r.2::l.flatMap qx:=by simp[qx]
     rw[e,show (j+1)*2=j*2+1+1 by omega];simpa using this
theorem Znp(A:List Bt)(g:Int)(x y:ByteArray):((A++[(g,x)]).flatMap qx).set (A.length*2+1) (.string y)=(A++[(g,y)]).flatMap qx:=by
 rw[List.flatMap_append,List.flatMap_append,List.set_append_right _ _ (by rw[ZgQ];omega),ZgQ];have e:A.length*2+1-A.length*2=1:=by omega
 rw[e];simp[qx]
def BR (w:World) (base:Nat) (v:Value) (L:List Bt):Prop:=w.ownsRow base 73 2 v L.length (L.flatMap qx)
theorem Tryz.wT:(Tryz.prog.info? 73).map (fun i=>(i.zero,i.size,i.bytes))=some (some (.agg #[.int .i64 0,.string ⟨#[]⟩]),2,24):=by kernel_rfl
theorem SB{base:Nat}{v:Value}(h:BR w base v L)(hb:base<=w.heap.size)(hl:L.length<=100000)(x:Bt):
  ∃v' w',Sem.run Tryz.prog (Builtin.append_ #[54,54] 54 #[v,.slice (some ⟨w.heap.size,0,none⟩) 1 1]) (w.alloc (.cells #[.int .i64 x.1,.string x.2] 73))=.ok v' w'/\BR w' base v' (L++[x])/\Za (v.ownBlock=some ·) w w':=by
 obtain⟨i0,hi,hz0,hz1,hz2⟩:=info_parts Tryz.wT;obtain⟨v',w3,hrun,ho,hgr,hbk⟩:=JF (P:=Tryz.prog) (w.alloc (.cells #[.int .i64 x.1,.string x.2] 73)) base 54 54 73 i0 _ 2 24 Tryz.underlying54 hi hz0 hz1 hz2 rfl (by decide) v L.length _ (h.alloc _)
  (ak w.heap.size) 1 1 (qx x) rfl (aV w _ _) (by intro u hu;simp[qx] at hu;rcases hu with rfl | rfl <;> rfl) (by unfold maxLen;omega) (by omega) (by simp;omega)
 refine⟨v',w3,hrun,?_,((Za.refl _ w).alloc _).grown hgr (fun k hk _=>hk)⟩;unfold BR;rw[List.flatMap_append,List.length_append];simpa using ho
def Cu (w:World) (R:Nat) (s:ByteArray) (a:Int):Prop:=w.heap[R]?=some (.cells #[.string s,.int .i64 a] 124 (0,0))
namespace Cu
variable {w:World}{R:Nat}{s:ByteArray}{a:Int}
theorem lt(h:Cu w R s a):R<w.heap.size:=lt_of_block h
theorem c0(h:Cu w R s a):w.cell? (ak R)=some (.string s):=by rw[Zc h];rfl
theorem c1(h:Cu w R s a):w.cell? ⟨R,1,none⟩=some (.int .i64 a):=by rw[Zc h];rfl
theorem fz(h:Cu w R s a)(i:Nat):w.frozen? ⟨R,i,none⟩=false:=Zv h
theorem drewN(h:Cu w R s a)(n:Nat):Cu (w.drewN n) R s a:=h
theorem drew(h:Cu w R s a):Cu w.drew R s a:=h
theorem keeps{E:Nat->Prop}{w':World}(h:Cu w R s a)(k:Za E w w')(hE:¬E R):Cu w' R s a:=by
 unfold Cu at h ⊢;rw[k.block R (lt_of_block h) hE];exact h
theorem set1(h:Cu w R s a)(x:Int):Cu (w.setCell ⟨R,1,none⟩ (.int .i64 x)) R s x:=by unfold Cu;rw[heap_setCell_same _ _ _ _ _ _ h];rfl
end Cu
theorem Zdf(h:Cu w R s p):
  au 54 #[ae R] w fun e w'=>e=.returned (.bool (decide (p=s.size)))/\∃n,w'=w.drewN n:=by
 have c0:=h.c0;have c1:=h.c1;clear h;go_enter Tryz.func54,Tryz.ntmps54;go_wp2;go_quiet (fail);go_wp2;go_ret;exact⟨Z8 (by rw[Bool.eq_iff_iff];simp;omega),_,rfl⟩
theorem Ux(h:Cu w R s p)(hp:p=s.size):
  au 54 #[ae R] w fun e w'=>e=.returned (.bool true)/\∃n,w'=w.drewN n:=by
 refine(Zdf h).mono ?_;rintro e w' ⟨rfl,hn⟩;exact⟨Z8 (by simp[hp]),hn⟩
theorem JS(h:Cu w R s p)(hp:p<s.size):
  au 54 #[ae R] w fun e w'=>e=.returned (.bool false)/\∃n,w'=w.drewN n:=by
 refine(Zdf h).mono ?_;rintro e w' ⟨rfl,hn⟩;exact⟨Z8 (by simp;omega),hn⟩
theorem Zd9(h:Cu w R s p)(hs:s.size<=120)(hp:p<=s.size)(hb:b<256):
  au 95 #[ae R,.int .u8 b] w fun e w'=>e=.returned (.bool (decide (bt s p=b)))/\∃n,w'=w.drewN n:=by
 by_cases hlt:p<s.size
 ·have c0:=h.c0;have c1:=h.c1;have hpz:(p:Int)<(s.size:Int):=by omega
  have HR:Hid (Cu w R s p):=h;have HB:Hid (bt s p=s[p].toNat):=ZX hlt;clear h;go_enter Tryz.func95,Tryz.ntmps95;go_wp2;go_quiet ((go_at_call 54;exact Calls.quiet_of (JS (HR.out.drewN _) hlt)));go_wp2;go_ret;exact⟨Z8 (by rw[HB.out,Bool.eq_iff_iff];simp;omega),_,rfl⟩
 ·have hpe:p=s.size:=by omega
  have HR:Hid (Cu w R s p):=h;have HB:Hid (bt s p=256):=Z7 hlt;have c0:=h.c0;have c1:=h.c1;clear h;go_enter Tryz.func95,Tryz.ntmps95;go_wp2;go_quiet ((go_at_call 54;exact Calls.quiet_of (Ux (HR.out.drewN _) hpe)));go_wp2;go_ret;exact⟨Z8 (by rw[HB.out,Bool.eq_iff_iff];simp;omega),_,rfl⟩
theorem ZjG(h:Cu w R s p)(hs:s.size<=120)(hp:p<=s.size)(hlt:b<256)(hb:bt s p=b):
  au 76 #[ae R,.int .u8 b] w fun e w'=>e=.returned (.bool true)/\Cu w' R s ((p+1:Nat):Int)/\Za (·=R) w w':=by
 have HR:Hid (Cu w R s p):=h;have HB:Hid (bt s p=b):=hb;clear h hb;go_enter Tryz.func76,Tryz.ntmps76;go_wp2_with(first|(go_at_call 95;refine(Zd9 HR.out hs hp hlt).mono ?_;rintro e w2 ⟨rfl,n,rfl⟩;rw[show decide (bt s p=b)=true from by simp[HB.out]];have c1:=(HR.out.drewN n).c1;have f1:=(HR.out.drewN n).fz 1))
 go_ret;exact⟨rfl,(HR.out.drewN _).set1 _,((Za.refl (·=R) _).drewN _).setCell (fun _=>rfl) _⟩
theorem ZfX(h:Cu w R s p)(hs:s.size<=120)(hp:p<=s.size)(hlt:b<256)(hb:bt s p≠b):
  au 76 #[ae R,.int .u8 b] w fun e w'=>e=.returned (.bool false)/\∃n,w'=w.drewN n:=by
 have HR:Hid (Cu w R s p):=h;have HB:Hid (bt s p≠b):=hb;clear h hb;go_enter Tryz.func76,Tryz.ntmps76;go_wp2_with(first|(go_at_call 95;refine(Zd9 HR.out hs hp hlt).mono ?_;rintro e w2 ⟨rfl,n,rfl⟩;rw[show decide (bt s p=b)=false from by simp[HB.out]]))
 go_ret;exact⟨rfl,_,rfl⟩
theorem IJ(h:Cu w R s p)(hs:s.size<=120)(hp:p<s.size):
  au 85 #[ae R] w fun e w'=>e=.returned (.int .u8 (bt s p))/\Cu w' R s ((p+1:Nat):Int)/\Za (·=R) w w':=by
 have HR:Hid (Cu w R s p):=h;have HB:Hid (bt s p=s[p].toNat):=ZX hp;have hpz:(p:Int)<(s.size:Int):=by omega
 clear h;go_enter Tryz.func85,Tryz.ntmps85;go_wp2_with(first|(go_at_call 54;refine(JS HR.out hp).mono ?_;rintro e w2 ⟨rfl,n,hn⟩;have hR2:Cu w2 R s p:=(by rw[hn];exact HR.out.drewN n);have hk2:Za (·=R) w w2:=(by rw[hn];exact(Za.refl _ _).drewN _);clear hn;have c0:=hR2.c0;have c1:=hR2.c1;have f1:=hR2.fz 1))
 go_quiet (fail);go_wp2;go_ret;exact⟨ym (by rw[HB.out]),(hR2.drewN _).set1 _,(hk2.drewN _).setCell (fun _=>rfl) _⟩
theorem Zdg:
  au 86 #[.int .u8 b] w fun e w'=>e=.returned (.bool (ZI b))/\∃n,w'=w.drewN n:=by
 go_enter Tryz.func86,Tryz.ntmps86;go_wp2
 all_goals go_ret
 all_goals exact⟨Z8 (by rw[Bool.eq_iff_iff];simp[ZI];omega),0,rfl⟩
theorem Zo7(h:p<s.size):Jz s p=⟨#[s[p]]⟩:=by
 unfold Jz;apply ByteArray.ext;apply Array.ext
 ·simp[ByteArray.extract,ByteArray.copySlice];omega
 ·intro i h1 h2;simp at h2;subst h2;simp[ByteArray.data_extract];rfl
theorem fI(n:Int)(w:World):Sem.run Tryz.prog (convert 22 9 (Value.slice (some { block:=w.heap.size,off:=0 }) 1 1)) (w.alloc (Obj.cells #[Value.int IntKind.u8 n] 5))=.ok (.string ⟨#[UInt8.ofNat n.toNat]⟩) (w.alloc (Obj.cells #[Value.int IntKind.u8 n] 5)):=by
 rw[run_convert_bytes_string _ 22 9 5 _ _ _ Tryz.underlying22 Tryz.underlying5 Tryz.underlying9];rw[run_bytesToString _ _ _ _ [n]]
 ·rfl
 ·exact run_loadCells_list _ _ [Value.int IntKind.u8 n] (by
   intro j v hj
   match j,hj with
   | 0,hj=>simp at hj;subst hj;simp[Addr.add])
def Yh (R:Nat) (s:ByteArray) (p:Nat) (w:World) (e:Ending) (w':World):Prop :=
 Za (·=R) w w'/\
 if bt s p=36 then
  if bt s (p+1)=36 then e=.returned (.tuple #[.agg #[.int .i64 (-1),.string ⟨#[36]⟩],.nilIface])/\Cu w' R s ((p+2:Nat):Int)
  else if ZI (bt s (p+1)) then e=.returned (.tuple #[.agg #[.int .i64 (((bt s (p+1):Nat):Int)-48),.string ⟨#[]⟩],.nilIface])/\Cu w' R s ((p+2:Nat):Int)
  else e=.returned (.tuple #[.agg #[.int .i64 0,.string ⟨#[]⟩],.iface 94 (.agg #[.int .i64 ((p+1:Nat):Int)])])/\Cu w' R s ((p+1:Nat):Int)
 else e=.returned (.tuple #[.agg #[.int .i64 (-1),.string (Jz s p)],.nilIface])/\Cu w' R s ((p+1:Nat):Int)
theorem ZnB(h:Cu w R s p)(hs:s.size<=100)(hp:p<s.size)(hb:bt s p≠36):
  au 60 #[ae R] w fun e w'=>e=.returned (.tuple #[.agg #[.int .i64 (-1),.string (Jz s p)],.nilIface])/\Cu w' R s ((p+1:Nat):Int)/\Za (·=R) w w':=by
 have HB:Hid (Jz s p=⟨#[s[p]]⟩):=Zo7 hp;go_enter Tryz.func60,Tryz.ntmps60;go_upto_region 1 with fail;have kA:Za ai w (w.alloc (.cells #[.int .i64 0,.string ⟨#[]⟩] 73)):=(Za.refl _ w).alloc _;have hP:Bk (w.alloc (.cells #[.int .i64 0,.string ⟨#[]⟩] 73)) w.heap.size 73 [.int .i64 0,.string ⟨#[]⟩]:=QC w _ _;have h1:=h.keeps kA id;have hne:w.heap.size≠R:=by have:=h.lt;omega
 generalize w.alloc (.cells #[.int .i64 0,.string ⟨#[]⟩] 73)=w1 at kA hP h1 ⊢;generalize lH:w.heap.size=P at hP hne ⊢;have HP:Hid (w.heap.size=P):=lH;clear lH h;have hlt:=Jh hp;have HX:Hid (bt s p=s[p].toNat):=ZX hp;have hcall:=IJ h1 (by omega) hp;generalize bt s p=x at hcall hb hlt HX;have hbz:((x:Int) != 36)=true:=by simp;omega
 go_upto_region 3 with(first|(go_at_call 85;refine hcall.mono ?_;rintro e w2 ⟨rfl,h2,hk2⟩))
 have hP2:=hP.keeps hk2 hne;have kB:Za ai w2 (w2.alloc (.cells #[.int .u8 (x:Int)] 5)):=(Za.refl _ w2).alloc _;have hP3:=hP2.keeps kB id;have d0:(w2.alloc (.cells #[.int .u8 (x:Int)] 5)).cell? (ak P)=some (.int .i64 0):=by rw[hP3.cell];rfl
 have d1:(w2.alloc (.cells #[.int .u8 (x:Int)] 5)).cell? ⟨P,1,none⟩=some (.string ⟨#[]⟩):=by rw[hP3.cell];rfl
 have KZ:=hP3.fz 0;have KY:=hP3.fz 1;have hcv:=fI (x:Int);have dS:=(hP3.set 0 (.int .i64 (-1))).set 1 (.string ⟨#[UInt8.ofNat x]⟩);have g0:=dS.cell 0;have g1:=dS.cell 1;simp only[List.set,List.getElem?_cons_zero,List.getElem?_cons_succ] at g0 g1;have hK4:Za (·=R) w (((w2.alloc (.cells #[.int .u8 (x:Int)] 5)).setCell (ak P) (.int .i64 (-1))).setCell ⟨P,1,none⟩ (.string ⟨#[UInt8.ofNat x]⟩)) :=
  (((((kA.mono (fun _ _ h=>h.elim)).trans hk2).trans (kB.mono (fun _ _ h=>h.elim))).setCell (fun h=>by have:=HP.out;simp at h;omega) _).setCell (fun h=>by have:=HP.out;simp at h;omega) _)
 have h4:Cu (((w2.alloc (.cells #[.int .u8 (x:Int)] 5)).setCell (ak P) (.int .i64 (-1))).setCell ⟨P,1,none⟩ (.string ⟨#[UInt8.ofNat x]⟩)) R s ((p+1:Nat):Int) :=
  (h2.keeps kB id).keeps (((Za.refl (·=P) _).setCell (fun _=>rfl) _).setCell (fun _=>rfl) _) (Ne.symm hne)
 have HS:Hid (Jz s p=⟨#[UInt8.ofNat x]⟩):=(by show _ = _;rw[HB.out,HX.out];simp);clear hP hP2 hP3 dS h2 kB hk2 kA h1 hcall;go_wp2_with fail;refine bodyPost_ret (v:=.tuple #[.agg #[.int .i64 (-1),.string ⟨#[UInt8.ofNat x]⟩],.nilIface]) (by simp[results,Tryz.results60,go_sem,g0,g1]) rfl ?_;exact⟨by rw[HS.out],h4,hK4⟩
theorem ZkD(h:Cu w R s p)(hs:s.size<=100)(hp:p<s.size)(hb:bt s p=36)(hb2:bt s (p+1)=36):
  au 60 #[ae R] w fun e w'=>e=.returned (.tuple #[.agg #[.int .i64 (-1),.string ⟨#[36]⟩],.nilIface])/\Cu w' R s ((p+2:Nat):Int)/\Za (·=R) w w':=by
 go_enter Tryz.func60,Tryz.ntmps60;go_upto_region 1 with fail;have kA:Za ai w (w.alloc (.cells #[.int .i64 0,.string ⟨#[]⟩] 73)):=(Za.refl _ w).alloc _;have hP:Bk (w.alloc (.cells #[.int .i64 0,.string ⟨#[]⟩] 73)) w.heap.size 73 [.int .i64 0,.string ⟨#[]⟩]:=QC w _ _;have h1:=h.keeps kA id;have hne:w.heap.size≠R:=by have:=h.lt;omega
 generalize w.alloc (.cells #[.int .i64 0,.string ⟨#[]⟩] 73)=w1 at kA hP h1 ⊢;generalize lH:w.heap.size=P at hP hne ⊢;have HP:Hid (w.heap.size=P):=lH;clear lH h;have hcall:=IJ h1 (by omega) hp;rw[hb] at hcall;have HB2:Hid (bt s (p+1)=36):=hb2;clear hb hb2;go_upto_region 3 with(first|(go_at_call 85;refine hcall.mono ?_;rintro e w2 ⟨rfl,h2,hk2⟩)|(go_at_call 76;refine(ZjG (b:=36) h2 (by omega) (by omega) (by omega) HB2.out).mono ?_;rintro e w3 ⟨rfl,h3,hk3⟩))
 have Av:=hk2.trans hk3;have hP2:=hP.keeps Av hne;have kB:Za ai w3 (w3.alloc (.cells #[.int .u8 36] 5)):=(Za.refl _ w3).alloc _;have hP3:=hP2.keeps kB id;have d0:(w3.alloc (.cells #[.int .u8 36] 5)).cell? (ak P)=some (.int .i64 0):=by rw[hP3.cell];rfl
 have d1:(w3.alloc (.cells #[.int .u8 36] 5)).cell? ⟨P,1,none⟩=some (.string ⟨#[]⟩):=by rw[hP3.cell];rfl
 have KZ:=hP3.fz 0;have KY:=hP3.fz 1;have hcv:=fI 36;have dS:=(hP3.set 0 (.int .i64 (-1))).set 1 (.string ⟨#[36]⟩);have g0:=dS.cell 0;have g1:=dS.cell 1;simp only[List.set,List.getElem?_cons_zero,List.getElem?_cons_succ] at g0 g1;have hK4:Za (·=R) w (((w3.alloc (.cells #[.int .u8 36] 5)).setCell (ak P) (.int .i64 (-1))).setCell ⟨P,1,none⟩ (.string ⟨#[36]⟩)) :=
  (((((kA.mono (fun _ _ h=>h.elim)).trans Av).trans (kB.mono (fun _ _ h=>h.elim))).setCell (fun h=>by have:=HP.out;simp at h;omega) _).setCell (fun h=>by have:=HP.out;simp at h;omega) _)
 have h4:Cu (((w3.alloc (.cells #[.int .u8 36] 5)).setCell (ak P) (.int .i64 (-1))).setCell ⟨P,1,none⟩ (.string ⟨#[36]⟩)) R s ((p+2:Nat):Int) :=
  (h3.keeps kB id).keeps (((Za.refl (·=P) _).setCell (fun _=>rfl) _).setCell (fun _=>rfl) _) (Ne.symm hne)
 clear hP hP2 hP3 dS h2 h3 kB hk2 hk3 Av kA h1 hcall;go_wp2_with fail;refine bodyPost_ret (v:=.tuple #[.agg #[.int .i64 (-1),.string ⟨#[36]⟩],.nilIface]) (by simp[results,Tryz.results60,go_sem,g0,g1]) rfl ?_;exact⟨rfl,h4,hK4⟩
theorem ZnC(h:Cu w R s p)(hs:s.size<=100)(hp:p<s.size)(hb:bt s p=36)(hb2:bt s (p+1)≠36)(hd:ZI (bt s (p+1))=true):
  au 60 #[ae R] w fun e w'=>e=.returned (.tuple #[.agg #[.int .i64 (((bt s (p+1):Nat):Int)-48),.string ⟨#[]⟩],.nilIface])/\Cu w' R s ((p+2:Nat):Int)/\Za (·=R) w w':=by
 have hp1:p+1<s.size:=Decidable.byContradiction fun hn=>by rw[Z7 hn] at hd;simp[ZI] at hd
 go_enter Tryz.func60,Tryz.ntmps60;go_upto_region 1 with fail;have kA:Za ai w (w.alloc (.cells #[.int .i64 0,.string ⟨#[]⟩] 73)):=(Za.refl _ w).alloc _;have hP:Bk (w.alloc (.cells #[.int .i64 0,.string ⟨#[]⟩] 73)) w.heap.size 73 [.int .i64 0,.string ⟨#[]⟩]:=QC w _ _;have h1:=h.keeps kA id;have hne:w.heap.size≠R:=by have:=h.lt;omega
 generalize w.alloc (.cells #[.int .i64 0,.string ⟨#[]⟩] 73)=w1 at kA hP h1 ⊢;generalize lH:w.heap.size=P at hP hne ⊢;have HP:Hid (w.heap.size=P):=lH;clear lH h;have hcall:=IJ h1 (by omega) hp;rw[hb] at hcall;have HB2:Hid (bt s (p+1)≠36):=hb2;have HD:Hid (ZI (bt s (p+1))=true):=hd;have HX:Hid (bt s (p+1)=s[p+1].toNat):=ZX hp1;have hxz:s[p+1].toNat=bt s (p+1):=(ZX hp1).symm;have KJ:48<=bt s (p+1)/\bt s (p+1)<=57:=by simpa [ZI] using hd
 clear hb hb2 hd;go_upto_region 4 with(first|(go_at_call 85;refine hcall.mono ?_;rintro e w2 ⟨rfl,h2,hk2⟩)|(go_at_call 76;refine(ZfX (b:=36) h2 (by omega) (by omega) (by omega) HB2.out).mono ?_;rintro e w3 ⟨rfl,n3,vD⟩;have kC:Za ai w2 w3:=(by rw[vD];exact(Za.refl _ _).drewN _);clear vD))
 have h3:=h2.keeps kC id;have hk3:=hk2.trans (kC.mono (fun _ _ h=>h.elim));have c0:=h3.c0;have c1:=h3.c1;have hpz:((p+1:Nat):Int)<(s.size:Int):=by omega
 clear kC hk2 h2 hcall h1;go_quiet (first|(go_at_call 54;exact Calls.quiet_of (JS (h3.drewN _) hp1))|(go_at_call 86;exact Calls.quiet_of Zdg))
 rw[HD.out];have kD:Za ai w3 (w3.drewN nq):=(Za.refl _ _).drewN _;have h4:=h3.keeps kD id;have hk4:=hk3.trans (kD.mono (fun _ _ h=>h.elim));clear c0 c1 h3 hk3 kD HD HX hxz HB2;generalize w3.drewN nq=w4 at h4 hk4 ⊢;have hcall:=IJ h4 (by omega) hp1;generalize hxe:bt s (p+1)=x at hcall KJ;have UO:Hid (bt s (p+1)=x):=hxe;clear hxe;have hw:IntKind.u8.wrap ((x:Int)-48)=(x:Int)-48:=by unfold IntKind.wrap;simp[IntKind.bits,IntKind.signed];omega
 have hw2:IntKind.i64.wrap ((x:Int)-48)=(x:Int)-48:=IntWalk.i64_in _ ⟨by omega,by omega⟩;have hd1:=KJ.1;have hd2:=KJ.2;clear KJ;go_wp2_with(first|(go_at_call 85;refine hcall.mono ?_;rintro e w5 ⟨rfl,h5,hk5⟩;have dY:=hP.keeps (hk4.trans hk5) hne;have d0:w5.cell? (ak P)=some (.int .i64 0):=(by rw[dY.cell];rfl);have d1:w5.cell? ⟨P,1,none⟩=some (.string ⟨#[]⟩):=(by rw[dY.cell];rfl);have KZ:=dY.fz 0;have KY:=dY.fz 1))
 have vI:=(dY.set 0 (.int .i64 ((x:Int)-48))).set 1 (.string ⟨#[]⟩);have g0:=vI.cell 0;have g1:=vI.cell 1;simp only[List.set,List.getElem?_cons_zero,List.getElem?_cons_succ] at g0 g1;refine bodyPost_ret (v:=.tuple #[.agg #[.int .i64 ((x:Int)-48),.string ⟨#[]⟩],.nilIface]) (by simp[results,Tryz.results60,go_sem,g0,g1]) rfl ?_;refine⟨by rw[UO.out],h5.keeps (((Za.refl (·=P) _).setCell (fun _=>rfl) _).setCell (fun _=>rfl) _) (Ne.symm hne),?_⟩;exact((((kA.mono (fun _ _ h=>h.elim)).trans hk4).trans hk5).setCell (fun h=>by have:=HP.out;simp at h;omega) _).setCell (fun h=>by have:=HP.out;simp at h;omega) _
theorem ZsJ(h:Cu w R s p)(hs:s.size<=100)(hp:p<s.size)(hb:bt s p=36)(hb2:bt s (p+1)≠36)(hd:ZI (bt s (p+1))=false):
  au 60 #[ae R] w fun e w'=>e=.returned (.tuple #[.agg #[.int .i64 0,.string ⟨#[]⟩],.iface 94 (.agg #[.int .i64 ((p+1:Nat):Int)])])/\Cu w' R s ((p+1:Nat):Int)/\Za (·=R) w w':=by
 go_enter Tryz.func60,Tryz.ntmps60;go_upto_region 1 with fail;have kA:Za ai w (w.alloc (.cells #[.int .i64 0,.string ⟨#[]⟩] 73)):=(Za.refl _ w).alloc _;have hP:Bk (w.alloc (.cells #[.int .i64 0,.string ⟨#[]⟩] 73)) w.heap.size 73 [.int .i64 0,.string ⟨#[]⟩]:=QC w _ _;have h1:=h.keeps kA id;have hne:w.heap.size≠R:=by have:=h.lt;omega
 generalize w.alloc (.cells #[.int .i64 0,.string ⟨#[]⟩] 73)=w1 at kA hP h1 ⊢;generalize lH:w.heap.size=P at hP hne ⊢;have HP:Hid (w.heap.size=P):=lH;clear lH h;have hcall:=IJ h1 (by omega) hp;rw[hb] at hcall;have HB2:Hid (bt s (p+1)≠36):=hb2;have HD:Hid (ZI (bt s (p+1))=false):=hd;clear hb hb2 hd;go_upto_region 4 with(first|(go_at_call 85;refine hcall.mono ?_;rintro e w2 ⟨rfl,h2,hk2⟩)|(go_at_call 76;refine(ZfX (b:=36) h2 (by omega) (by omega) (by omega) HB2.out).mono ?_;rintro e w3 ⟨rfl,n3,vD⟩;have kC:Za ai w2 w3:=(by rw[vD];exact(Za.refl _ _).drewN _);clear vD))
 have h3:=h2.keeps kC id;have hk3:=hk2.trans (kC.mono (fun _ _ h=>h.elim));have c0:=h3.c0;have c1:=h3.c1;clear kC hk2 h2 hcall h1;have hfin:∀w4,Za ai w3 w4->Cu w4 R s ((p+1:Nat):Int)/\Za (·=R) w1 w4/\Bk w4 P 73 [.int .i64 0,.string ⟨#[]⟩]:=fun w4 k=>⟨h3.keeps k id,hk3.trans (k.mono (fun _ _ h=>h.elim)),hP.keeps (hk3.trans (k.mono (fun _ _ h=>h.elim))) hne⟩
 by_cases hp1:p+1<s.size
 ·have hpz:((p+1:Nat):Int)<(s.size:Int):=by omega
  have hxz:s[p+1].toNat=bt s (p+1):=(ZX hp1).symm;go_quiet (first|(go_at_call 54;exact Calls.quiet_of (JS (h3.drewN _) hp1))|(go_at_call 86;exact Calls.quiet_of Zdg))
  rw[HD.out];obtain⟨h4,hk4,dS⟩:=hfin (w3.drewN nq) ((Za.refl _ _).drewN _);clear c0 c1 h3 hk3 HD hxz HB2 hfin hP;generalize w3.drewN nq=w4 at h4 hk4 dS ⊢;have d0:w4.cell? (ak P)=some (.int .i64 0):=(by rw[dS.cell];rfl);have d1:w4.cell? ⟨P,1,none⟩=some (.string ⟨#[]⟩):=(by rw[dS.cell];rfl);have KZ:=dS.fz 0;have KY:=dS.fz 1;have c1:=h4.c1;go_wp2_with fail;go_region_with fail
  all_goals (try go_wp2_with fail)
  all_goals (
   have dY:=(dS.set 0 (.int .i64 0)).set 1 (.string ⟨#[]⟩);have g0:(((w4.setCell (ak P) (.int .i64 0)).setCell ⟨P,1,none⟩ (.string ⟨#[]⟩)).drew).cell? (ak P)=some (.int .i64 0):=dY.cell 0;have g1:(((w4.setCell (ak P) (.int .i64 0)).setCell ⟨P,1,none⟩ (.string ⟨#[]⟩)).drew).cell? ⟨P,1,none⟩=some (.string ⟨#[]⟩):=dY.cell 1;refine bodyPost_ret (v:=.tuple #[.agg #[.int .i64 0,.string ⟨#[]⟩],.iface 94 (.agg #[.int .i64 ((p+1:Nat):Int)])]) (by simp[results,Tryz.results60,Act.put,go_sem,g0,g1]) rfl ?_;refine⟨rfl,Cu.drew (h4.keeps (((Za.refl (·=P) _).setCell (fun _=>rfl) _).setCell (fun _=>rfl) _) (Ne.symm hne)),?_⟩;exact Za.drew (((((kA.mono (fun _ _ h=>h.elim)).trans hk4)).setCell (fun h=>by have:=HP.out;simp at h;omega) _).setCell (fun h=>by have:=HP.out;simp at h;omega) _))
 ·have hpe:p+1=s.size:=by omega
  have HPE:Hid (p+1=s.size):=hpe;clear hpe;go_quiet (first|(go_at_call 54;exact Calls.quiet_of (Ux (h3.drewN _) HPE.out)))
  obtain⟨h4,hk4,dS⟩:=hfin (w3.drewN nq) ((Za.refl _ _).drewN _);clear c0 c1 h3 hk3 HD HB2 hfin hP;generalize w3.drewN nq=w4 at h4 hk4 dS ⊢;have d0:w4.cell? (ak P)=some (.int .i64 0):=(by rw[dS.cell];rfl);have d1:w4.cell? ⟨P,1,none⟩=some (.string ⟨#[]⟩):=(by rw[dS.cell];rfl);have KZ:=dS.fz 0;have KY:=dS.fz 1;have c1:=h4.c1;go_wp2_with fail;go_region_with fail
  all_goals (try go_wp2_with fail)
  all_goals (
   have dY:=(dS.set 0 (.int .i64 0)).set 1 (.string ⟨#[]⟩);have g0:(((w4.setCell (ak P) (.int .i64 0)).setCell ⟨P,1,none⟩ (.string ⟨#[]⟩)).drew).cell? (ak P)=some (.int .i64 0):=dY.cell 0;have g1:(((w4.setCell (ak P) (.int .i64 0)).setCell ⟨P,1,none⟩ (.string ⟨#[]⟩)).drew).cell? ⟨P,1,none⟩=some (.string ⟨#[]⟩):=dY.cell 1;refine bodyPost_ret (v:=.tuple #[.agg #[.int .i64 0,.string ⟨#[]⟩],.iface 94 (.agg #[.int .i64 ((p+1:Nat):Int)])]) (by simp[results,Tryz.results60,Act.put,go_sem,g0,g1]) rfl ?_;refine⟨rfl,Cu.drew (h4.keeps (((Za.refl (·=P) _).setCell (fun _=>rfl) _).setCell (fun _=>rfl) _) (Ne.symm hne)),?_⟩;exact Za.drew (((((kA.mono (fun _ _ h=>h.elim)).trans hk4)).setCell (fun h=>by have:=HP.out;simp at h;omega) _).setCell (fun h=>by have:=HP.out;simp at h;omega) _))
theorem Yg(h:Cu w R s p)(hs:s.size<=100)(hp:p<s.size):au 60 #[ae R] w (Yh R s p w):=by
 unfold Yh
 by_cases hb:bt s p=36
 ·by_cases hb2:bt s (p+1)=36
  ·refine(ZkD h hs hp hb hb2).mono ?_;rintro e w' ⟨h1,h2,h3⟩;rw[if_pos hb,if_pos hb2];exact⟨h3,h1,h2⟩
  ·cases hd:ZI (bt s (p+1)) with
   | true =>
     refine(ZnC h hs hp hb hb2 hd).mono ?_;rintro e w' ⟨h1,h2,h3⟩;rw[if_pos hb,if_neg hb2,if_pos rfl];exact⟨h3,h1,h2⟩
   | false =>
     refine(ZsJ h hs hp hb hb2 hd).mono ?_;rintro e w' ⟨h1,h2,h3⟩;rw[if_pos hb,if_neg hb2,if_neg (by simp)];exact⟨h3,h1,h2⟩
 ·refine(ZnB h hs hp hb).mono ?_;rintro e w' ⟨h1,h2,h3⟩;rw[if_neg hb];exact⟨h3,h1,h2⟩
end Go.Proofs.YtfkflljplohhcaaGreatDoor
