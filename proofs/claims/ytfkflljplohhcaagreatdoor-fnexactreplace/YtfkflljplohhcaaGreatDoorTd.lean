import Derived.Test.YtfkflljplohhcaaGreatDoorTc
import Derived.Laws.DeepStrings4
set_option maxHeartbeats 8000000
set_option maxRecDepth 100000
namespace Go.Proofs.YtfkflljplohhcaaGreatDoor
open Go.RowKit
set_option linter.unusedVariables false
def ZbC (bits:List Bt) (t:ByteArray):List Bt:=if t.size=0 then bits else bits ++ [(-1,t)]
def NT (bits:List Bt):Prop :=∀y,bits.getLast? = some y->y.1≠-1
theorem Ze9 {t:ByteArray} (h:t.size=0):t = ⟨#[]⟩:=by
 obtain ⟨d⟩:=t
 congr 1
 exact Array.eq_empty_of_size_eq_zero h
theorem Ze8 (t:ByteArray):(⟨#[]⟩:ByteArray) ++ t=t:=by
 apply ByteArray.ext;simp
theorem ZeP {bits:List Bt} (h:NT bits) (t u:ByteArray) (hu:u.size=1):jn (ZbC bits t) u=ZbC bits (t ++ u):=by
 unfold ZbC;have hs:¬ (t ++ u).size=0:=by rw [ByteArray.size_append]; omega
 rw [if_neg hs]
 by_cases ht:t.size=0
 ·rw [if_pos ht,Ze9 ht,Ze8]
  rcases List.eq_nil_or_concat bits with rfl | ⟨A,y,rfl⟩
  ·rfl
  ·rw [List.concat_eq_append] at h ⊢;rw [ZcL _ _ _ (h y (by simp))]
 ·rw [if_neg ht,ZeO]
theorem Za6 (bits:List Bt):ZbC bits ⟨#[]⟩=bits:=by unfold ZbC; rw [if_pos (show (⟨#[]⟩:ByteArray).size=0 from rfl)]
theorem Zh4 {m:Nat} {bits:List Bt} {t:ByteArray} (h:Few m (ZbC bits t)):Few m bits/\t.size<=m:=by
 unfold ZbC at h
 split at h
 ·rename_i h0; exact ⟨h,by omega⟩
 ·refine ⟨⟨by have:=h.1; simp at this; omega,fun x hx=>h.2 x (by simp [hx])⟩,?_⟩;exact h.2 (-1,t) (by simp)
theorem Zld (bits:List Bt) (x:Bt) (h:x.1≠-1):NT (bits ++ [x]):=by
 intro y hy;simp at hy;subst hy;exact h
theorem ZaH {s:ByteArray} {p:Nat} (h:p < s.size):(Jw s p).size=1:=by unfold Jw; rw [ByteArray.size_extract]; omega
theorem Zkx {s:ByteArray} {p:Nat} (h:p < s.size) (w:World):(Instr.slice 9 (.string s) (some (.int .i64 (p:Int))) (some (.int .i64 ((p:Int) + 1))) none).run Tryz.prog w = .ok (.string (Jw s p)) w:=by
 rw [run_slice_string_if w 9 s .i64 .i64 (p:Int) ((p:Int) + 1) Tryz.underlying9,if_pos (by omega),if_pos (by omega)];rfl
theorem ZrH {t:ByteArray} (h:¬ t.size=0):t.toList.isEmpty=false:=by
 rw [ByteArray.toList_eq]
 cases hc:t.data.toList.isEmpty with
 | false=>rfl
 | true =>
   rw [List.isEmpty_iff] at hc
   have:=congrArg List.length hc
   exact absurd (by simpa using this) h
theorem Zr1 {s:ByteArray} {p:Nat} (h:p + 1 < s.size) (w:World):(Instr.index 9 (.string s) (.int .i64 ((p:Int) + 1))).run Tryz.prog w = .ok (.int .u8 ((bt s (p + 1):Nat):Int)) w:=by
 rw [run_index_string w 9 s .i64 ((p:Int) + 1) Tryz.underlying9,dif_pos (by omega),ZV h];rfl
theorem Zpz (w:World):(binOp BinOp.neq 9 (.string ⟨#[]⟩) (.string ⟨#[]⟩)).run Tryz.prog w = .ok (.bool false) w:=by kernel_rfl
structure Sc (w:World) (P O:Nat) (base:Nat) (bits:List Bt) (bv:Value):Prop where
 p:Bk w P 56 [.bool false,.int .i64 0,.slice none 0 0]
 o:Bk w O 56 [.bool true,.int .i64 0,bv]
 b:BR w base bv bits
 ne:P≠O
theorem Sc.drew {w:World} {P O base:Nat} {bits:List Bt} {bv:Value} (h:Sc w P O base bits bv):Sc w.drew P O base bits bv:=⟨h.p,h.o,Z6 h.b rfl,h.ne⟩
theorem Zh0 {wr:World} {P O base:Nat} {bits:List Bt} {bv:Value} (x:Bt) (hS:Sc wr P O base bits bv) (hb:base<=wr.heap.size) (hl:bits.length<=1000) :
  ∃ v' w9,Sem.run Tryz.prog (Builtin.append_ #[54,54] 54 #[bv,.slice (some ⟨wr.heap.size,0,none⟩) 1 1]) (wr.alloc (.cells #[.int .i64 x.1,.string x.2] 73)) = .ok v' w9/\Sc (w9.setCell ⟨O,2,none⟩ v') P O base (bits ++ [x]) v'/\w9.cell? ⟨O,2,none⟩=some bv/\w9.frozen? ⟨O,2,none⟩=false/\(wr.alloc (.cells #[.int .i64 x.1,.string x.2] 73)).cell? ⟨O,2,none⟩=some bv/\(∃a c,v' = .slice a (bits ++ [x]).length c)/\
    ∀w0,Za N0_ w0 wr->w0.heap.size<=base->w0.heap.size<=O->Za N0_ w0 (w9.setCell ⟨O,2,none⟩ v'):=by
 obtain ⟨v',w9,hrun,hB,hk⟩:=ZhE hS.b hb (by omega) x;have kA:Za N0_ wr (wr.alloc (.cells #[.int .i64 x.1,.string x.2] 73)):=(Za.refl _ _).alloc _;have hO1:=hS.o.keeps kA id;have hno :∀k,bv.ownBlock=some k->k≠P/\k≠O:=by
  intro k hk;obtain ⟨c2,h2⟩:=Zda hS.b hk;refine ⟨?_,?_⟩ <;> rintro rfl
  ·have:=hS.p; unfold Bk at this; rw [this] at h2; simp at h2
  ·have:=hS.o; unfold Bk at this; rw [this] at h2; simp at h2
 have hO9:=hS.o.keeps hk (fun h=>(hno _ h).2 rfl);have hP9:=hS.p.keeps hk (fun h=>(hno _ h).1 rfl);have hno9 :∀k,v'.ownBlock=some k->k≠O:=by
  rintro k hk rfl;obtain ⟨c2,h2⟩:=Zda hB hk;unfold Bk at hO9; rw [hO9] at h2; simp at h2
 refine ⟨v',w9,hrun,⟨?_,?_,Zb hB ((Za.refl (fun k=>k=O) w9).setCell (a:=⟨O,2,none⟩) (fun _=>rfl) v') hno9,hS.ne⟩,by rw [hO9.cell]; rfl,hO9.fz 2,by rw [hO1.cell]; rfl,Zd hB,?_⟩
 ·exact hP9.keeps ((Za.refl (fun k=>k=O) w9).setCell (a:=⟨O,2,none⟩) (fun _=>rfl) v') hS.ne
 ·have:=hO9.set 2 v'
  simpa [List.set] using this
 ·intro w0 k0 h0 h1;exact (k0.trans' hk (fun i hi h=>by have:=(hS.b.lt i h).1; omega)).setCell (fun h=>by simp at h; omega) _
theorem ZkF {w wr:World} {P O base:Nat} {bits:List Bt} {bv:Value} (hS:Sc wr P O base bits bv) (hK:Za N0_ w wr) (h1:w.heap.size<=P) (h2:w.heap.size<=base) :
  BR (((wr.setCell ⟨P,0,none⟩ (.bool true)).setCell ⟨P,1,none⟩ (.int .i64 0)).setCell ⟨P,2,none⟩ bv) base bv bits/\Za N0_ w (((wr.setCell ⟨P,0,none⟩ (.bool true)).setCell ⟨P,1,none⟩ (.int .i64 0)).setCell ⟨P,2,none⟩ bv):=by
 refine ⟨Zb hS.b ((((Za.refl (fun k=>k=P) wr).setCell (a:=⟨P,0,none⟩) (fun _=>rfl) _).setCell (a:=⟨P,1,none⟩) (fun _=>rfl) _).setCell (a:=⟨P,2,none⟩) (fun _=>rfl) _) ?_,?_⟩
 ·rintro k hk rfl;obtain ⟨c2,h2⟩:=Zda hS.b hk
  have:=hS.p; unfold Bk at this; rw [this] at h2; simp at h2
 ·exact ((hK.setCell (fun h=>by simp at h; omega) _).setCell (fun h=>by simp at h; omega) _).setCell (fun h=>by simp at h; omega) _
theorem ZgC (s:ByteArray) (w:World) (hs63:s.size<=1048576):Calls Tryz.prog 29 #[.string s] w (Zcm s w):=by
 by_cases hs:100 < s.size
 ·have HE:Hid (ZF s = .error 100):=(by show _ = _; unfold ZF; rw [if_pos hs]);have hz:(100:Int) < (s.size:Int):=by omega
  go_enter Tryz.func29,Tryz.ntmps29;go_wp2_with fail;refine bodyPost_ret (v:=.agg #[.bool false,.int .i64 100,.slice none 0 0]) (by simp [results,Tryz.results29,go_sem]) rfl ?_;refine ⟨_,by rw [HE.out]; rfl,?_,(Za.refl _ w).alloc _⟩;rw [HE.out];exact World.ownsRow_nil _ _ _ _
 ·have hz:¬ (100:Int) < (s.size:Int):=by omega
  obtain ⟨r,hr⟩ :∃r,Zb3 s (s.size + 1) 0 []=r:=⟨_,rfl⟩;have HR0:Hid (Zb3 s (s.size + 1) 0 []=r):=hr;have HE:Hid (ZF s=r):=(by show _ = _; unfold ZF; rw [if_neg hs]; exact hr);clear hr;go_enter Tryz.func29,Tryz.ntmps29;go_upto_region 6 with fail;have kA:Za N0_ w ((w.alloc (.cells #[.bool false,.int .i64 0,.slice none 0 0] 56)).alloc (.cells #[.bool true,.int .i64 0,.slice none 0 0] 56)):=((Za.refl _ w).alloc _).alloc _;have hS:Sc ((w.alloc (.cells #[.bool false,.int .i64 0,.slice none 0 0] 56)).alloc (.cells #[.bool true,.int .i64 0,.slice none 0 0] 56)) w.heap.size (w.heap.size + 1) w.heap.size [] (.slice none 0 0) :=
   ⟨Zbc w _ _,Zbi w _ _,World.ownsRow_nil _ _ _ _,by omega⟩
  have hPO:w.heap.size<=w.heap.size/\w.heap.size<=w.heap.size + 1:=by omega
  generalize ((w.alloc (.cells #[.bool false,.int .i64 0,.slice none 0 0] 56)).alloc (.cells #[.bool true,.int .i64 0,.slice none 0 0] 56))=w1 at kA hS ⊢;generalize hBe:w.heap.size=base at hS hPO ⊢;have HBe:Hid (w.heap.size=base):=hBe;clear hBe;generalize hOe:base + 1=O at hS hPO ⊢;clear hOe;generalize hPe:base=P at hS hPO ⊢;have HPe:Hid (base=P):=hPe;rw [<- hPe] at hPO;obtain ⟨-,hO⟩:=hPO;have hSb:Sc w1 P O base [] (.slice none 0 0):=by rw [hPe]; exact hS
  clear hPe hS;have hbp:base<=P:=by have:=HPe.out; omega
  go_wp2;go_loopg [4,5] (s.size + 1) (fun gl s4 s5 wr =>∃(p:Nat) (bits:List Bt) (t:ByteArray) (bv:Value),s.size < p + gl/\p<=s.size/\s4 = .string t/\s5 = .int .i64 (p:Int)/\Sc wr P O base bits bv/\NT bits/\Few p (ZbC bits t)/\Hid (Zb3 s gl p (ZbC bits t)=r)/\Za N0_ w wr)
  case atStart=>exact ⟨0,[],⟨#[]⟩,_,by omega,by omega,rfl,rfl,hSb,fun y h=>by simp at h,by rw [Za6]; exact ⟨by simp,by simp⟩,by show _ = _; rw [Za6]; exact HR0.out,kA⟩
  case round =>
   clear hSb kA HR0;obtain ⟨p,bits,t,bv,hgl,hp,rfl,rfl,hS,hnt,hf,HR,hK⟩:=hrel;obtain ⟨f,rfl⟩ :∃f,gk=f + 1:=⟨gk - 1,by omega⟩;obtain ⟨av,cv,hv⟩:=Zd hS.b;subst hv;have hts:=(Zh4 hf).2;have hbf:=(Zh4 hf).1
   by_cases hlt:p < s.size
   ·have hpz:(p:Int) < (s.size:Int):=by omega
    have hxz:s[p].toNat=bt s p:=(ZV hlt).symm
    by_cases hb:bt s p=36
    ·rw [hb] at hxz
     by_cases hp1:p + 1 < s.size
     ·have hp1z:((p + 1:Nat):Int) < (s.size:Int):=by omega
      have hp1e:((p:Int) + 1 == (s.size:Int))=false:=by simp; omega
      have hyz:s[p + 1].toNat=bt s (p + 1):=(ZV hp1).symm;have hyl:=Q9 hp1
      by_cases hb2:bt s (p + 1)=36
      ·have HX:Hid (Zb3 s f (p + 2) (ZbC bits (t ++ ⟨#[36]⟩))=r):=(by show _ = _; rw [<- HR.out,Jn s p hlt]; simp only [JU,if_pos hb,if_pos hb2,jnB,if_true]; rw [ZeP hnt _ _ rfl]);have HF:Hid (Few (p + 2) (ZbC bits (t ++ ⟨#[36]⟩))):=(by show Few _ _; rw [<- ZeP hnt _ ⟨#[36]⟩ rfl]; exact (Zf4 hf (t:=⟨#[36]⟩) (Nat.le_refl 1)).mono (by omega));have hsz:¬ 9223372036854775807 < t.size + 1:=by omega
       rw [hb2] at hyz;clear hb hb2 HR hyl;go_wp2_with fail;go_roundg (f + 1 - 1)
       case measure=>omega
       case rel=>exact ⟨p + 2,bits,_,_,by omega,by omega,rfl,congrArg (Value.int .i64) (by omega),hS,hnt,HF.out,HX,hK⟩
      ·cases hd:ZU (bt s (p + 1)) with
       | false =>
         have HX:Hid (r = .error (p + 1)):=(by show _ = _; rw [<- HR.out,Jn s p hlt]; simp only [JU,if_pos hb,if_neg hb2,hd]; rfl);have d0:wr.cell? ⟨P,0,none⟩=some (.bool false):=by rw [hS.p.cell]; rfl
         have d1:wr.cell? ⟨P,1,none⟩=some (.int .i64 0):=by rw [hS.p.cell]; rfl
         have d2:wr.cell? ⟨P,2,none⟩=some (.slice none 0 0):=by rw [hS.p.cell]; rfl
         have f0:=hS.p.fz 0;have f1:=hS.p.fz 1;have f2:=hS.p.fz 2;have hP5:=((hS.p.set 0 (.bool false)).set 1 (.int .i64 ((p:Int) + 1))).set 2 (.slice none 0 0);have g0:=hP5.cell 0;have g1:=hP5.cell 1;have g2:=hP5.cell 2;simp only [List.set,List.getElem?_cons_zero,List.getElem?_cons_succ] at g0 g1 g2;have hKf:Za N0_ w (((wr.setCell ⟨P,0,none⟩ (.bool false)).setCell ⟨P,1,none⟩ (.int .i64 ((p:Int) + 1))).setCell ⟨P,2,none⟩ (.slice none 0 0)) :=
          ((hK.setCell (fun h=>by have:=HBe.out; simp at h; omega) _).setCell (fun h=>by have:=HBe.out; simp at h; omega) _).setCell (fun h=>by have:=HBe.out; simp at h; omega) _
         have hdd:bt s (p + 1) < 48\/(48<=bt s (p + 1)/\57 < bt s (p + 1)):=by simp [ZU] at hd; omega
         have hb2z:(((bt s (p + 1):Nat):Int) == 36)=false:=by simp; omega
         clear hP5 hS hf hnt hbf HR hb hb2 hd;generalize bt s (p + 1)=y at hyz hyl hdd hb2z;have hfin:Zcm s w (.returned (.agg #[.bool false,.int .i64 ((p:Int) + 1),.slice none 0 0])) (((wr.setCell ⟨P,0,none⟩ (.bool false)).setCell ⟨P,1,none⟩ (.int .i64 ((p:Int) + 1))).setCell ⟨P,2,none⟩ (.slice none 0 0)):=by
          refine ⟨_,by rw [HE.out,HX.out]; rfl,?_,hKf⟩;rw [HE.out,HX.out];exact World.ownsRow_nil _ _ _ _
         rcases hdd with hq | hq
         ·have hqz:(y:Int) < 48:=by omega
          go_wp2_with fail;refine bodyPost_ret (v:=.agg #[.bool false,.int .i64 ((p:Int) + 1),.slice none 0 0]) (by simp [results,Tryz.results29,go_sem,g0,g1,g2]) rfl ?_;exact hfin
         ·have hqz:¬ (y:Int) < 48:=by omega
          have hqz2:57 < (y:Int):=by omega
          clear hq;go_wp2_with fail;refine bodyPost_ret (v:=.agg #[.bool false,.int .i64 ((p:Int) + 1),.slice none 0 0]) (by simp [results,Tryz.results29,go_sem,g0,g1,g2]) rfl ?_;exact hfin
       | true =>
         have hd1:48<=bt s (p + 1)/\bt s (p + 1)<=57:=by simpa [ZU] using hd
         have HX:Hid (Zb3 s f (p + 2) (ZbC bits t ++ [(((bt s (p + 1):Nat):Int) - 48,⟨#[]⟩)])=r):=(by show _ = _; rw [<- HR.out,Jn s p hlt]; simp only [JU,if_pos hb,if_neg hb2,hd,if_true]; unfold jnB; rw [if_neg (by simp only; omega)]);have HF:Hid (Few (p + 2) (ZbC bits t ++ [(((bt s (p + 1):Nat):Int) - 48,⟨#[]⟩)])):=(by show Few _ _; exact (hf.snoc (x:=(((bt s (p + 1):Nat):Int) - 48,⟨#[]⟩)) (Nat.zero_le (p + 1))).mono (by omega));have hb2z:(((bt s (p + 1):Nat):Int) == 36)=false:=by simp; omega
         have z1:¬ ((bt s (p + 1):Nat):Int) < 48:=by omega
         have z2:¬ 57 < ((bt s (p + 1):Nat):Int):=by omega
         clear hb hb2 hd HR;have hw:IntKind.u8.wrap (((bt s (p + 1):Nat):Int) - 48)=((bt s (p + 1):Nat):Int) - 48:=by unfold IntKind.wrap; simp [IntKind.bits,IntKind.signed]; omega
         have hw2:IntKind.i64.wrap (((bt s (p + 1):Nat):Int) - 48)=((bt s (p + 1):Nat):Int) - 48:=IntWalk.i64_in _ ⟨by omega,by omega⟩;have hix:=Zr1 hp1;have HY:Hid (((bt s (p + 1):Nat):Int) - 48≠-1):=(by show _≠_; omega);generalize bt s (p + 1)=y at *;have hbw:base<=wr.heap.size:=by have:=hK.size; have:=HBe.out; omega
         by_cases ht:t.size=0
         ·have HT:Hid (ZbC bits t=bits):=(by show _ = _; unfold ZbC; rw [if_pos ht]);obtain rfl:=Ze9 ht;have hq:=Zpz;obtain ⟨v',w9,hrun0,hS9,e2,ef,d2,⟨a8,c8,hv8⟩,hK9⟩:=Zh0 ((y:Int) - 48,⟨#[]⟩) hS.drew hbw (by have:=hbf.1; omega);have hrun:Sem.run Tryz.prog (Builtin.append_ #[54,54] 54 #[.slice av bits.length cv,.slice (some ⟨wr.heap.size,0,none⟩) 1 1]) (wr.alloc (.cells #[.int .i64 ((y:Int) - 48),.string ⟨#[]⟩] 73)).drew = .ok v' w9:=hrun0;have d3:(wr.alloc (.cells #[.int .i64 ((y:Int) - 48),.string ⟨#[]⟩] 73)).cell? ⟨O,2,none⟩=some (.slice av bits.length cv):=d2;clear hrun0 d2;have hl9:(bits ++ [(((y:Int) - 48,⟨#[]⟩):Bt)]).length=bits.length + 1:=by simp
          rw [hl9] at hv8;clear hl9;subst hv8;have hKf:=hK9 w hK.drew (by have:=HBe.out; omega) (by have:=HBe.out; omega);have o2:wr.cell? ⟨O,2,none⟩=some (.slice av bits.length cv):=by rw [hS.o.cell]; rfl
          have HX2:Hid (Zb3 s f (p + 2) (ZbC (bits ++ [((y:Int) - 48,⟨#[]⟩)]) ⟨#[]⟩)=r):=(by show _ = _; rw [Za6,<- HX.out,HT.out]);have HF2:Hid (Few (p + 2) (ZbC (bits ++ [((y:Int) - 48,⟨#[]⟩)]) ⟨#[]⟩)):=(by show Few _ _; have:=HF.out; rw [HT.out] at this; rw [Za6]; exact this);have HN2:Hid (NT (bits ++ [((y:Int) - 48,⟨#[]⟩)])):=Zld _ _ HY.out;generalize bits ++ [(((y:Int) - 48,⟨#[]⟩):Bt)]=bits9 at hS9 HX2 HF2 HN2;clear hS hK9 hK hf hbf hnt;clear ht hz;go_wp2_with fail;go_region_law (refine QZ rfl _ _ _ _ rfl rfl _ _ _ _ rfl rfl hrun ?_)
          all_goals (try go_wp2_with fail)
          all_goals go_roundg (f + 1 - 1)
          all_goals first
           | omega
           | exact ⟨p + 2,bits9,⟨#[]⟩,_,by omega,by omega,rfl,congrArg (Value.int .i64) (by omega),hS9,HN2.out,HF2.out,HX2,hKf⟩
         ·have HT:Hid (ZbC bits t=bits ++ [(-1,t)]):=(by show _ = _; unfold ZbC; rw [if_neg ht]);have hq:=ZrH ht;obtain ⟨v1,w8,hrun1,hS8,e8,ef8,d8,⟨a7,c7,hv7⟩,hK8⟩:=Zh0 (-1,t) hS hbw (by have:=hbf.1; omega);have o8:wr.cell? ⟨O,2,none⟩=some (.slice av bits.length cv):=by rw [hS.o.cell]; rfl
          have hl8:(bits ++ [((-1,t):Bt)]).length=bits.length + 1:=by simp
          have HL8:Hid ((bits ++ [((-1,t):Bt)]).length<=1000):=(by show _<=_; have:=hbf.1; omega);have hKw:=hK8 w hK (by have:=HBe.out; omega) (by have:=HBe.out; omega);rw [hl8] at hv7;subst hv7;clear hS hK8 hK hbw;go_upto_region 20 with (refine Zk rfl _ _ _ _ rfl rfl _ _ _ _ rfl rfl hrun1 ?_);clear hrun1 e8 ef8 d8 o8;rw [<- hl8] at hS8 hKw;rw [<- hl8];generalize bits ++ [((-1,t):Bt)]=bits1 at *;clear hl8 hbf hnt hf;have hS:=hS8;have hK:=hKw;clear hS8 hKw;generalize w8.setCell ⟨O,2,none⟩ (.slice a7 bits1.length c7)=w10 at hS hK ⊢;have hbw:base<=w10.heap.size:=by have:=hK.size; have:=HBe.out; omega
          obtain ⟨v',w9,hrun0,hS9,e2,ef,d2,⟨a8,c8,hv8⟩,hK9⟩:=Zh0 ((y:Int) - 48,⟨#[]⟩) hS.drew hbw HL8.out;have hrun:Sem.run Tryz.prog (Builtin.append_ #[54,54] 54 #[.slice a7 bits1.length c7,.slice (some ⟨w10.heap.size,0,none⟩) 1 1]) (w10.alloc (.cells #[.int .i64 ((y:Int) - 48),.string ⟨#[]⟩] 73)).drew = .ok v' w9:=hrun0;have d3:(w10.alloc (.cells #[.int .i64 ((y:Int) - 48),.string ⟨#[]⟩] 73)).cell? ⟨O,2,none⟩=some (.slice a7 bits1.length c7):=d2;clear hrun0 d2;have hl9:(bits1 ++ [(((y:Int) - 48,⟨#[]⟩):Bt)]).length=bits1.length + 1:=by simp
          rw [hl9] at hv8;clear hl9;subst hv8;have hKf:=hK9 w hK.drew (by have:=HBe.out; omega) (by have:=HBe.out; omega);have o2:w10.cell? ⟨O,2,none⟩=some (.slice a7 bits1.length c7):=by rw [hS.o.cell]; rfl
          have HX2:Hid (Zb3 s f (p + 2) (ZbC (bits1 ++ [((y:Int) - 48,⟨#[]⟩)]) ⟨#[]⟩)=r):=(by show _ = _; rw [Za6,<- HX.out,HT.out]);have HF2:Hid (Few (p + 2) (ZbC (bits1 ++ [((y:Int) - 48,⟨#[]⟩)]) ⟨#[]⟩)):=(by show Few _ _; have:=HF.out; rw [HT.out] at this; rw [Za6]; exact this);have HN2:Hid (NT (bits1 ++ [((y:Int) - 48,⟨#[]⟩)])):=Zld _ _ HY.out;generalize bits1 ++ [(((y:Int) - 48,⟨#[]⟩):Bt)]=bits9 at hS9 HX2 HF2 HN2;clear hS hK9 hK;go_wp2_with fail;go_region_law (refine QZ rfl _ _ _ _ rfl rfl _ _ _ _ rfl rfl hrun ?_)
          all_goals (try go_wp2_with fail)
          all_goals go_roundg (f + 1 - 1)
          all_goals first
           | omega
           | exact ⟨p + 2,bits9,⟨#[]⟩,_,by omega,by omega,rfl,congrArg (Value.int .i64) (by omega),hS9,HN2.out,HF2.out,HX2,hKf⟩
     ·have hb2:bt s (p + 1)≠36:=by rw [Z7 hp1]; omega
      have hd:ZU (bt s (p + 1))=false:=by rw [Z7 hp1]; rfl
      have hp1e:((p:Int) + 1 == (s.size:Int))=true:=by simp; omega
      have HX:Hid (r = .error (p + 1)):=(by show _ = _; rw [<- HR.out,Jn s p hlt]; simp only [JU,if_pos hb,if_neg hb2,hd]; rfl);have d0:wr.cell? ⟨P,0,none⟩=some (.bool false):=by rw [hS.p.cell]; rfl
      have d1:wr.cell? ⟨P,1,none⟩=some (.int .i64 0):=by rw [hS.p.cell]; rfl
      have d2:wr.cell? ⟨P,2,none⟩=some (.slice none 0 0):=by rw [hS.p.cell]; rfl
      have f0:=hS.p.fz 0;have f1:=hS.p.fz 1;have f2:=hS.p.fz 2;have hP5:=((hS.p.set 0 (.bool false)).set 1 (.int .i64 ((p:Int) + 1))).set 2 (.slice none 0 0);have g0:=hP5.cell 0;have g1:=hP5.cell 1;have g2:=hP5.cell 2;simp only [List.set,List.getElem?_cons_zero,List.getElem?_cons_succ] at g0 g1 g2;have hKf:Za N0_ w (((wr.setCell ⟨P,0,none⟩ (.bool false)).setCell ⟨P,1,none⟩ (.int .i64 ((p:Int) + 1))).setCell ⟨P,2,none⟩ (.slice none 0 0)) :=
       ((hK.setCell (fun h=>by have:=HBe.out; simp at h; omega) _).setCell (fun h=>by have:=HBe.out; simp at h; omega) _).setCell (fun h=>by have:=HBe.out; simp at h; omega) _
      clear hP5 hS hf hnt hbf HR hb hb2 hd;go_wp2_with fail;refine bodyPost_ret (v:=.agg #[.bool false,.int .i64 ((p:Int) + 1),.slice none 0 0]) (by simp [results,Tryz.results29,go_sem,g0,g1,g2]) rfl ?_;refine ⟨_,by rw [HE.out,HX.out]; rfl,?_,hKf⟩;rw [HE.out,HX.out];exact World.ownsRow_nil _ _ _ _
    ·have hbz:(((bt s p:Nat):Int) != 36)=true:=by simp; omega
     have HX:Hid (Zb3 s f (p + 1) (ZbC bits (t ++ Jw s p))=r):=(by show _ = _; rw [<- HR.out,Jn s p hlt]; simp only [JU,if_neg hb,jnB,if_true]; rw [ZeP hnt _ _ (ZaH hlt)]);have HF:Hid (Few (p + 1) (ZbC bits (t ++ Jw s p))):=(by show Few _ _; rw [<- ZeP hnt _ _ (ZaH hlt)]; exact Zf4 hf (by rw [ZaH hlt]; omega));have hsz:¬ 9223372036854775807 < t.size + (Jw s p).size:=by rw [ZaH hlt]; omega
     have hsl:=Zkx hlt;go_wp2_with fail;go_roundg (f + 1 - 1)
     case measure=>omega
     case rel=>exact ⟨p + 1,bits,t ++ Jw s p,_,by omega,by omega,rfl,congrArg (Value.int .i64) (by omega),hS,hnt,HF.out,HX,hK⟩
   ·have hpe:p=s.size:=by omega
    have hlz:¬ (p:Int) < (s.size:Int):=by omega
    have HX:Hid (r = .ok (ZbC bits t)):=(by show _ = _; rw [<- HR.out,Zb3,if_pos (by omega)]);have hbw:base<=wr.heap.size:=by have:=hK.size; have:=HBe.out; omega
    clear hpe HR hlt
    by_cases ht:t.size=0
    ·have HT:Hid (ZbC bits t=bits):=(by show _ = _; unfold ZbC; rw [if_pos ht]);obtain rfl:=Ze9 ht;have hq:=Zpz;have d0:wr.cell? ⟨P,0,none⟩=some (.bool false):=by rw [hS.p.cell]; rfl
     have d1:wr.cell? ⟨P,1,none⟩=some (.int .i64 0):=by rw [hS.p.cell]; rfl
     have d2:wr.cell? ⟨P,2,none⟩=some (.slice none 0 0):=by rw [hS.p.cell]; rfl
     have f0:=hS.p.fz 0;have f1:=hS.p.fz 1;have f2:=hS.p.fz 2;have o0:wr.cell? ⟨O,0,none⟩=some (.bool true):=by rw [hS.o.cell]; rfl
     have o1:wr.cell? ⟨O,1,none⟩=some (.int .i64 0):=by rw [hS.o.cell]; rfl
     have o2:wr.cell? ⟨O,2,none⟩=some (.slice av bits.length cv):=by rw [hS.o.cell]; rfl
     have hfin:=ZkF hS hK (by have:=HBe.out; omega) (by have:=HBe.out; omega);have hP5:=((hS.p.set 0 (.bool true)).set 1 (.int .i64 0)).set 2 (.slice av bits.length cv);have g0:=hP5.cell 0;have g1:=hP5.cell 1;have g2:=hP5.cell 2;simp only [List.set,List.getElem?_cons_zero,List.getElem?_cons_succ] at g0 g1 g2;clear hP5 hS hf hnt hbf ht;go_wp2_with fail;refine bodyPost_ret (v:=.agg #[.bool true,.int .i64 0,.slice av bits.length cv]) (by simp [results,Tryz.results29,go_sem,g0,g1,g2]) rfl ?_;refine ⟨_,by rw [HE.out,HX.out]; rfl,?_,hfin.2⟩;rw [HE.out,HX.out,HBe.out];show BR _ _ _ (ZbC bits ⟨#[]⟩);rw [HT.out];exact hfin.1
    ·have HT:Hid (ZbC bits t=bits ++ [(-1,t)]):=(by show _ = _; unfold ZbC; rw [if_neg ht]);have hq:=ZrH ht;obtain ⟨v1,w8,hrun1,hS8,e8,ef8,d8,⟨a7,c7,hv7⟩,hK8⟩:=Zh0 (-1,t) hS hbw (by have:=hbf.1; omega);have o8:wr.cell? ⟨O,2,none⟩=some (.slice av bits.length cv):=by rw [hS.o.cell]; rfl
     have hl8:(bits ++ [((-1,t):Bt)]).length=bits.length + 1:=by simp
     have hKw:=hK8 w hK (by have:=HBe.out; omega) (by have:=HBe.out; omega);rw [hl8] at hv7;subst hv7;clear hS hK8 hK hbw;go_upto_region 21 with fail;go_upto_region 23 with (refine Zk rfl _ _ _ _ rfl rfl _ _ _ _ rfl rfl hrun1 ?_);clear hrun1 e8 ef8 d8 o8;generalize bits ++ [((-1,t):Bt)]=bits1 at *;clear hbf hnt hf;have hS:=hS8;have hK:=hKw;clear hS8 hKw;generalize w8.setCell ⟨O,2,none⟩ (.slice a7 (bits.length + 1) c7)=w10 at hS hK ⊢;generalize bits.length + 1=n1 at hS ⊢;have d0:w10.cell? ⟨P,0,none⟩=some (.bool false):=by rw [hS.p.cell]; rfl
     have d1:w10.cell? ⟨P,1,none⟩=some (.int .i64 0):=by rw [hS.p.cell]; rfl
     have d2:w10.cell? ⟨P,2,none⟩=some (.slice none 0 0):=by rw [hS.p.cell]; rfl
     have f0:=hS.p.fz 0;have f1:=hS.p.fz 1;have f2:=hS.p.fz 2;have o0:w10.cell? ⟨O,0,none⟩=some (.bool true):=by rw [hS.o.cell]; rfl
     have o1:w10.cell? ⟨O,1,none⟩=some (.int .i64 0):=by rw [hS.o.cell]; rfl
     have o2:w10.cell? ⟨O,2,none⟩=some (.slice a7 n1 c7):=by rw [hS.o.cell]; rfl
     have hfin:=ZkF hS hK (by have:=HBe.out; omega) (by have:=HBe.out; omega);have hP5:=((hS.p.set 0 (.bool true)).set 1 (.int .i64 0)).set 2 (.slice a7 n1 c7);have g0:=hP5.cell 0;have g1:=hP5.cell 1;have g2:=hP5.cell 2;simp only [List.set,List.getElem?_cons_zero,List.getElem?_cons_succ] at g0 g1 g2;clear hP5 hS;go_wp2_with fail;refine bodyPost_ret (v:=.agg #[.bool true,.int .i64 0,.slice a7 n1 c7]) (by simp [results,Tryz.results29,go_sem,g0,g1,g2]) rfl ?_;refine ⟨_,by rw [HE.out,HX.out]; rfl,?_,hfin.2⟩;rw [HE.out,HX.out,HBe.out];show BR _ _ _ (ZbC bits t);rw [HT.out];exact hfin.1
end Go.Proofs.YtfkflljplohhcaaGreatDoor
