import Derived.Test.YtfkflljplohhcaaGreatDoorRa
import Derived.Deep.RegionWith
import Derived.Test.YtfkflljplohhcaaGreatDoorYe
set_option maxHeartbeats 1000000
set_option maxRecDepth 100000
namespace Go.Proofs.YtfkflljplohhcaaGreatDoor
open Go.RowKit
set_option linter.unusedVariables false
theorem ZaB (ao:Option Addr) (n m c d:Nat):(Value.slice ao n c).ownBlock=(Value.slice ao m d).ownBlock:=by cases ao <;> rfl
theorem Zfd {w w':World} {base:Nat} {v v':Value} {b:ByteArray} (h:ObB w base v b) (s:ByteArray) (hl:b.size + s.size<=1000000000) (hr:Sem.run Tryz.prog (Builtin.append_ #[22,9] 22 #[v,.string s]) w = .ok v' w'):Blk w v v':=by
 obtain ⟨i0,hi,hz0,hz1,hz2⟩:=info_parts Tryz.infoU8b;have hown:=h;unfold ObB at hown
 rcases hown.2 with ⟨rfl,hn⟩ | ⟨g,cap,cur,rfl,hbg,hg,hnc,hcm,hcs,htake⟩
 ·have hb0:Lib.strCells b = []:=List.eq_nil_of_length_eq_zero (by rw [Lib.strCells_length]; exact hn);obtain ⟨v2,w2,hrun,ho,hg,-⟩:=Lib.run_append_own_string (P:=Tryz.prog) w w.heap.size 22 9 22 5 i0 Tryz.underlying22 Tryz.underlying9 hi hz0 hz1 hz2 (.slice none 0 0) 0 [] (World.ownsRow_nil _ _ _ _) s (by unfold maxLen; omega) (by omega) (Nat.le_refl _);rw [hrun] at hr
  cases hr
  exact fun k hk hlt=>absurd (ho.lt k hk).1 (by omega)
 ·by_cases hroom:b.size + s.size<=cap
  ·have hcs':cur.size=cap:=by simpa using hcs
   have hr2:=Lib.run_append_room_string (P:=Tryz.prog) w 22 9 22 5 i0 Tryz.underlying22 Tryz.underlying9 hi hz1 g b.size cap cur hg s hroom (by omega);rw [hr2] at hr
   cases hr
   exact fun k hk _=>hk
  ·have holds :∀j u,(Lib.strCells b)[j]? = some u->w.cell? ((⟨g,0,none⟩:Addr).add j)=some u:=World.ownsRow.cells h rfl;have hr2:=Lib.run_append_grow_string (P:=Tryz.prog) w 22 9 22 5 i0 (.int .u8 0) Tryz.underlying22 Tryz.underlying9 hi hz0 ⟨g,0,none⟩ b.size cap (Lib.strCells b) (by rw [hz1,Lib.strCells_length,Nat.mul_one]) holds s (by omega) (by omega) (by rw [hz2]; exact growslice_fits (by omega) (by omega));rw [hr2] at hr
   cases hr
   intro k hk hlt;simp only [Value.ownBlock,Option.some.injEq] at hk;omega
theorem Zl5 {w:World} {base Pb:Nat} {v:Value} {b x:ByteArray} {g:Int} {ok:Bool} {fr up:Int} {gv:Value} (h:ObB w base v b) (hb:base<=w.heap.size) (hl:b.size + x.size<=1000000000) (hB:w.heap[Pb]? = some (.cells #[.int .i64 g,.string x] 73 (0,0))) :
  Calls Tryz.prog 67 #[v,.agg #[.bool ok,.int .i64 fr,.int .i64 up,gv],.pointer (some ⟨Pb,0,none⟩)] w fun e w' =>∃ao c,e = .returned (.slice ao (b ++ x).size c)/\ObB w' base (.slice ao (b ++ x).size c) (b ++ x)/\Za (fun k=>v.ownBlock=some k) w w'/\Blk w v (.slice ao (b ++ x).size c):=by
 obtain ⟨ao,cp,rfl⟩:=Zd h;go_enter Tryz.func67,Tryz.ntmps67;have kA:Za (fun k=>(Value.slice ao b.size cp).ownBlock=some k) w (w.alloc (.cells #[.bool ok,.int .i64 fr,.int .i64 up,gv] 38)):=(Za.refl _ _).alloc _;have hBA:=(kA.block Pb (lt_of_block hB) (Zi h hB (by decide))).trans hB;have c1:(w.alloc (.cells #[.bool ok,.int .i64 fr,.int .i64 up,gv] 38)).cell? ⟨Pb,1,none⟩=some (.string x):=by rw [Zc hBA]; rfl
 have hOb:ObB (w.alloc (.cells #[.bool ok,.int .i64 fr,.int .i64 up,gv] 38)) base (.slice ao b.size cp) b:=World.ownsRow.alloc h _;obtain ⟨aA,cA,wA,hrun,hObA,hkA⟩:=Zfe hOb (by have:=kA.size; omega) x hl;have HBl:Hid (Blk w (.slice ao b.size cp) (.slice aA (b ++ x).size cA)):=fun k hk hlt=>Zfd hOb x hl hrun k hk (Nat.lt_of_lt_of_le hlt kA.size);have hkT:=kA.trans hkA;have HF:Hid (ObB wA base (.slice aA (b ++ x).size cA) (b ++ x)):=hObA;obtain ⟨nA,hnA⟩ :∃nA,(b ++ x).size=nA:=⟨_,rfl⟩;rw [hnA] at hrun;have HnA:Hid ((b ++ x).size=nA):=hnA;clear hObA hnA hOb hB hBA;generalize b.size=nb at *;go_wp2_with (at_builtin; refine Qn rfl _ _ _ _ _ rfl rfl (.slice ao nb cp) _ _ _ rfl rfl hrun ?_);go_ret;exact ⟨aA,cA,by rw [HnA.out]; rfl,HF.out,hkT,fun k hk hlt=>(ZaB ao _ _ cp cp).trans (HBl.out k ((ZaB aA _ _ cA cA).trans hk) hlt)⟩
theorem Zl4 {w:World} {base A X:Nat} {v:Value} {b u:ByteArray} {fN tN:Nat} {ok:Bool} {gv:Value} {cs:Array Value} (h:ObB w base v b) (hb:base<=w.heap.size) (hl:b.size + u.size<=1000000000) (hA:w.heap[A]? = some (.cells #[.pointer (some ⟨X,0,none⟩)] 52 (0,0))) (hX:w.heap[X]? = some (.cells cs 105 (0,0))) (h0:cs[0]? = some (.string u)) (hf:fN<=tN) (ht:tN<=u.size) :
  Calls Tryz.prog 68 #[v,.agg #[.bool ok,.int .i64 (fN:Int),.int .i64 (tN:Int),gv],.pointer (some ⟨A,0,none⟩)] w fun e w' =>∃ao c,e = .returned (.slice ao (b ++ u.extract fN tN).size c)/\ObB w' base (.slice ao (b ++ u.extract fN tN).size c) (b ++ u.extract fN tN)/\Za (fun k=>v.ownBlock=some k) w w'/\Blk w v (.slice ao (b ++ u.extract fN tN).size c):=by
 obtain ⟨ao,cp,rfl⟩:=Zd h;have kA:Za (fun k=>(Value.slice ao b.size cp).ownBlock=some k) w (w.alloc (.cells #[.bool ok,.int .i64 (fN:Int),.int .i64 (tN:Int),gv] 38)):=(Za.refl _ _).alloc _;have bM:(w.alloc (.cells #[.bool ok,.int .i64 (fN:Int),.int .i64 (tN:Int),gv] 38)).heap[w.heap.size]? = some (.cells #[.bool ok,.int .i64 (fN:Int),.int .i64 (tN:Int),gv] 38 (0,0)):=heap_alloc_new _ _;have hAA:=(kA.block A (lt_of_block hA) (Zi h hA (by decide))).trans hA;have hXA:=(kA.block X (lt_of_block hX) (Zi h hX (by decide))).trans hX;have hOb:ObB (w.alloc (.cells #[.bool ok,.int .i64 (fN:Int),.int .i64 (tN:Int),gv] 38)) base (.slice ao b.size cp) b:=World.ownsRow.alloc h _;have hsE:(u.extract fN tN).size<=u.size:=by rw [ByteArray.size_extract]; omega
 obtain ⟨aA,cA,wA,hrun,hObA,hkA⟩:=Zfe hOb.drew (by have:=kA.size; show _<=(w.alloc _).heap.size; omega) (u.extract fN tN) (by omega);have HBl:Hid (Blk w (.slice ao b.size cp) (.slice aA (b ++ u.extract fN tN).size cA)):=fun k hk hlt=>Zfd hOb.drew (u.extract fN tN) (by omega) hrun k hk (Nat.lt_of_lt_of_le hlt kA.size);have hkT:=(kA.drew).trans hkA;have HF:Hid (ObB wA base (.slice aA (b ++ u.extract fN tN).size cA) (b ++ u.extract fN tN)):=hObA;obtain ⟨nA,hnA⟩ :∃nA,(b ++ u.extract fN tN).size=nA:=⟨_,rfl⟩;rw [hnA] at hrun;have HnA:Hid ((b ++ u.extract fN tN).size=nA):=hnA;go_enter Tryz.func68,Tryz.ntmps68;have hfz:(fN:Int)<=(tN:Int):=by omega
 have htz:(tN:Int)<=(u.size:Int):=by omega
 go_upto_region 1 with fail
 generalize w.alloc (.cells #[.bool ok,.int .i64 (fN:Int),.int .i64 (tN:Int),gv] 38)=W at *;generalize w.heap.size=P at *;have c0:W.cell? ⟨A,0,none⟩=some (.pointer (some ⟨X,0,none⟩)):=by rw [Zc hAA]; rfl
 have c1:W.cell? ⟨X,0,none⟩=some (.string u):=by rw [Zc hXA]; exact h0
 have c2:W.cell? ⟨P,1,none⟩=some (.int .i64 (fN:Int)):=by rw [Zc bM]; rfl
 have c3:W.cell? ⟨P,2,none⟩=some (.int .i64 (tN:Int)):=by rw [Zc bM]; rfl
 clear hObA hnA hOb hA hX hAA hXA bM h;generalize b.size=nb at *;go_region_law (refine ZaP rfl _ _ _ _ _ rfl rfl (.slice ao nb cp) _ _ _ rfl rfl hrun ?_)
 all_goals go_wp2_with fail
 all_goals go_ret
 all_goals exact ⟨aA,cA,by rw [HnA.out]; rfl,HF.out,hkT.mono (fun k _ h=>(ZaB ao _ nb cp cp).trans h),fun k hk hlt=>(ZaB ao _ _ cp cp).trans (HBl.out k ((ZaB aA _ _ cA cA).trans hk) hlt)⟩
theorem Zl3 {w:World} {base A X Pb j ng cg gx:Nat} {v:Value} {b u:ByteArray} {fr up a z:Int} {ok:Bool} {cs:Array Value} {x:ByteArray} (h:ObB w base v b) (hb:base<=w.heap.size) (hl:b.size + u.size<=1000000000) (hA:w.heap[A]? = some (.cells #[.pointer (some ⟨X,0,none⟩)] 52 (0,0))) (hX:w.heap[X]? = some (.cells cs 105 (0,0))) (h0:cs[0]? = some (.string u)) (hB:w.heap[Pb]? = some (.cells #[.int .i64 ((j:Int) + 1),.string x] 73 (0,0))) (hj:j < ng) (hng:ng<=9) (c1:w.cell? ⟨gx,j * 2,none⟩=some (.int .i64 a)) (c2:w.cell? ⟨gx,j * 2 + 1,none⟩=some (.int .i64 z)) (hp:psd a z=true->0<=a/\a<=z/\z<=(u.size:Int)) {y:ByteArray} (hy:(if psd a z then u.extract a.toNat z.toNat else ByteArray.empty)=y) :
  Calls Tryz.prog 69 #[v,.agg #[.bool ok,.int .i64 fr,.int .i64 up,.slice (some ⟨gx,0,none⟩) ng cg],.pointer (some ⟨Pb,0,none⟩),.pointer (some ⟨A,0,none⟩)] w fun e w' =>∃ao n c,e = .returned (.slice ao n c)/\n=(b ++ y).size/\ObB w' base (.slice ao n c) (b ++ y)/\Za (fun k=>v.ownBlock=some k) w w'/\Blk w v (.slice ao n c):=by
 have HY:Hid ((if psd a z then u.extract a.toNat z.toNat else ByteArray.empty)=y):=hy;clear hy;obtain ⟨ao,cp,rfl⟩:=Zd h;have hjz:(j:Int) < (ng:Int):=by omega
 have hngz:(ng:Int)<=9:=by omega
 have hsub:(j:Int) + 1 - 1=(j:Int):=by omega
 have k1:Za N0_ w (w.alloc (.cells #[.bool ok,.int .i64 fr,.int .i64 up,.slice (some ⟨gx,0,none⟩) ng cg] 38)):=(Za.refl _ _).alloc _;have b1:(w.alloc (.cells #[.bool ok,.int .i64 fr,.int .i64 up,.slice (some ⟨gx,0,none⟩) ng cg] 38)).heap[w.heap.size]? = some (.cells #[.bool ok,.int .i64 fr,.int .i64 up,.slice (some ⟨gx,0,none⟩) ng cg] 38 (0,0)):=heap_alloc_new _ _;go_enter Tryz.func69,Tryz.ntmps69;go_upto_region 1 with fail;generalize w.alloc (.cells #[.bool ok,.int .i64 fr,.int .i64 up,.slice (some ⟨gx,0,none⟩) ng cg] 38)=W1 at k1 b1 ⊢;have Hb0:Hid (base<=w.heap.size):=hb;clear hb;generalize w.heap.size=P at b1 ⊢;have kc :∀(bb jj:Nat) (vv:Value),w.cell? ⟨bb,jj,none⟩=some vv->W1.cell? ⟨bb,jj,none⟩=some vv:=fun bb jj vv hh=>by
  have hlt:bb < w.heap.size:=by
   apply Decidable.byContradiction;intro hn
   have:w.heap[bb]? = none:=Array.getElem?_eq_none (by omega)
   simp [World.cell?,this] at hh
  have hs:=k1.block bb hlt id;simp only [World.cell?,hs] at hh ⊢;exact hh
 have e1:=kc _ _ _ c1;have e2:=kc _ _ _ c2;have e3:W1.cell? ⟨P,3,none⟩=some (.slice (some ⟨gx,0,none⟩) ng cg):=by rw [Zc b1]; rfl
 have hB1:=(k1.block Pb (lt_of_block hB) id).trans hB;have e4:W1.cell? ⟨Pb,0,none⟩=some (.int .i64 ((j:Int) + 1)):=by rw [Zc hB1]; rfl
 have hA1:=(k1.block A (lt_of_block hA) id).trans hA;have hX1:=(k1.block X (lt_of_block hX) id).trans hX;have hO1:ObB W1 base (.slice ao b.size cp) b:=Zb h k1 (fun _ _ h=>h);clear kc c1 c2 h hA hX hB b1 hB1;have k2:Za N0_ W1 (W1.alloc (.cells #[.int .i64 a,.int .i64 z] 118)):=(Za.refl _ _).alloc _;have b2:(W1.alloc (.cells #[.int .i64 a,.int .i64 z] 118)).heap[W1.heap.size]? = some (.cells #[.int .i64 a,.int .i64 z] 118 (0,0)):=heap_alloc_new _ _;generalize hnb:b.size=nb at *;go_upto_region 2 with fail;have k02:=k1.trans k2;have hA2:=(k2.block A (lt_of_block hA1) id).trans hA1;have hX2:=(k2.block X (lt_of_block hX1) id).trans hX1;have hO2:=Zb hO1 k2 (fun _ _ h=>h);generalize W1.alloc (.cells #[.int .i64 a,.int .i64 z] 118)=W2 at k02 b2 hA2 hX2 hO2 ⊢;generalize W1.heap.size=P2 at b2 ⊢;have s0:W2.cell? ⟨P2,0,none⟩=some (.int .i64 a):=by rw [Zc b2]; rfl
 have s1:W2.cell? ⟨P2,1,none⟩=some (.int .i64 z):=by rw [Zc b2]; rfl
 clear e1 e2 e3 e4 hA1 hX1 hO1 k1 k2;have hpa:=Zcb (w:=W2) (a:=a) (b:=z);have Hnb:Hid (b.size=nb):=hnb;have Hk02:Hid (Za N0_ w W2):=k02;have HO2:Hid (ObB W2 base (.slice ao nb cp) b):=hO2;have HA2:Hid (W2.heap[A]? = some (.cells #[.pointer (some ⟨X,0,none⟩)] 52 (0,0))):=hA2;have HX2:Hid (W2.heap[X]? = some (.cells cs 105 (0,0))):=hX2;have Hb2:Hid (W2.heap[P2]? = some (.cells #[.int .i64 a,.int .i64 z] 118 (0,0))):=b2;have Hbz:Hid (base<=w.heap.size):=Hb0.out;clear hnb k02 hO2 hA2 hX2 b2
 cases hps:psd a z with
 | false =>
   rw [hps] at hpa;have HP:Hid (psd a z=false):=hps;clear hps hp;go_wp2_with (go_at_call 70; refine hpa.mono ?_; clear hpa; rintro e w3 ⟨rfl,hk3⟩);go_ret;have e9:b ++ y=b:=by have h8:=HY.out; rw [HP.out] at h8; rw [<- h8]; simp
   exact ⟨ao,nb,cp,rfl,by rw [e9,Hnb.out],by rw [e9]; exact Zb HO2.out hk3 (fun _ _ h=>h),(Hk02.out.trans hk3).mono (fun _ _ h=>h.elim),fun k hk _=>(ZaB ao _ _ cp cp).trans hk⟩
 | true =>
   rw [hps] at hpa;have HP:Hid (psd a z=true):=hps;obtain ⟨p1,p2,p3⟩:=hp hps;clear hps hp;obtain ⟨aN,haN⟩ :∃aN:Nat,a=(aN:Int):=⟨a.toNat,by omega⟩;obtain ⟨zN,hzN⟩ :∃zN:Nat,z=(zN:Int):=⟨z.toNat,by omega⟩;subst haN;subst hzN;have HYy:Hid (u.extract aN zN=y):=(by have h8:=HY.out; rw [HP.out] at h8; exact h8);clear HY;go_upto_region 4 with (go_at_call 70; refine hpa.mono ?_; clear hpa; rintro e w3 ⟨rfl,hk3⟩);have hA3:=(hk3.block A (lt_of_block HA2.out) id).trans HA2.out;have hX3:=(hk3.block X (lt_of_block HX2.out) id).trans HX2.out;have hb3:=(hk3.block P2 (lt_of_block Hb2.out) id).trans Hb2.out;have hO3:ObB w3 base (.slice ao nb cp) b:=Zb HO2.out hk3 (fun _ _ h=>h);have hk03:=Hk02.out.trans hk3;have hsE:(u.extract aN zN).size<=u.size:=by rw [ByteArray.size_extract]; omega
   obtain ⟨aA,cA,wA,hrun,hObA,hkA⟩:=Zfe hO3.drew (by have:=hk03.size; have:=Hbz.out; show _<=w3.heap.size; omega) (u.extract aN zN) (by have:=Hnb.out; omega);have HBl:Hid (Blk w (.slice ao nb cp) (.slice aA (b ++ u.extract aN zN).size cA)):=fun k hk hlt=>Zfd hO3.drew (u.extract aN zN) (by have:=Hnb.out; omega) hrun k hk (Nat.lt_of_lt_of_le hlt hk03.size);have HKT:Hid (Za (fun k=>(Value.slice ao nb cp).ownBlock=some k) w wA):=((hk03.drew).mono (fun _ _ h=>h.elim)).trans hkA;have HF:Hid (ObB wA base (.slice aA (b ++ u.extract aN zN).size cA) (b ++ u.extract aN zN)):=hObA;obtain ⟨nA,hnA⟩ :∃nA,(b ++ u.extract aN zN).size=nA:=⟨_,rfl⟩;rw [hnA] at hrun;have HnA:Hid ((b ++ u.extract aN zN).size=nA):=hnA;have q0:w3.cell? ⟨A,0,none⟩=some (.pointer (some ⟨X,0,none⟩)):=by rw [Zc hA3]; rfl
   have q1:w3.cell? ⟨X,0,none⟩=some (.string u):=by rw [Zc hX3]; exact h0
   have q2:w3.cell? ⟨P2,0,none⟩=some (.int .i64 (aN:Int)):=by rw [Zc hb3]; rfl
   have q3:w3.cell? ⟨P2,1,none⟩=some (.int .i64 (zN:Int)):=by rw [Zc hb3]; rfl
   clear hObA hnA hO3 hA3 hX3 hb3 hkA s0 s1 hk03 hk3 hsE;go_region_law (refine ZaP rfl _ _ _ _ _ rfl rfl (.slice ao nb cp) _ _ _ rfl rfl hrun ?_)
   all_goals go_wp2_with fail
   all_goals go_ret
   all_goals exact ⟨aA,nA,cA,rfl,by rw [<- HYy.out,HnA.out],by rw [<- HYy.out,<- HnA.out]; exact HF.out,HKT.out.mono (fun k _ h=>(ZaB ao _ nb cp cp).trans h),fun k hk hlt=>(ZaB ao _ _ cp cp).trans (HBl.out k ((ZaB aA _ _ cA cA).trans hk) hlt)⟩
def Zff (G:Nat) (l:List Bt):Bool:=l.any fun x=>decide ((G:Int) < x.1)
theorem ZmN {G:Nat} {l:List Bt} {k:Nat} (h:k < l.length):Zff G (l.take (k + 1))=(Zff G (l.take k) || decide ((G:Int) < l[k].1)):=by
 unfold Zff;rw [List.take_succ_eq_append_getElem h,List.any_append];simp
theorem Zpj {G:Nat} {l:List Bt} {k:Nat} (h:k < l.length) (hp:decide ((G:Int) < l[k].1)=true):Zff G l=true:=by
 unfold Zff;rw [List.any_eq_true];exact ⟨l[k],List.getElem_mem h,hp⟩
def Zgr (w:World) (A X G:Nat):Prop:=w.heap[A]? = some (.cells #[.pointer (some ⟨X,0,none⟩)] 52 (0,0))/\∃cs a c,w.heap[X]? = some (.cells cs 105 (0,0))/\cs[1]? = some (.slice a G c)
theorem Zgr.same {w w':World} {A X G:Nat} (h:Zgr w A X G) (k:Za N0_ w w'):Zgr w' A X G:=by
 obtain ⟨h1,cs,a,c,h2,h3⟩:=h;exact ⟨(k.block A (lt_of_block h1) id).trans h1,cs,a,c,(k.block X (lt_of_block h2) id).trans h2,h3⟩
theorem ZlP {w:World} {A X G:Nat} {g:Int} {x:ByteArray} (h:Zgr w A X G):Calls Tryz.prog 40 #[.agg #[.int .i64 g,.string x],.pointer (some ⟨A,0,none⟩)] w fun e w'=>e = .returned (.bool (decide ((G:Int) < g)))/\Za N0_ w w':=by
 have k1:Za N0_ w (w.alloc (.cells #[.int .i64 g,.string x] 73)):=(Za.refl _ _).alloc _;have b1:(w.alloc (.cells #[.int .i64 g,.string x] 73)).heap[w.heap.size]? = some (.cells #[.int .i64 g,.string x] 73 (0,0)):=heap_alloc_new _ _;obtain ⟨hA,cs,a,c,hX,h1⟩:=h.same k1;go_enter Tryz.func40,Tryz.ntmps40;go_upto_region 1 with fail;generalize w.alloc (.cells #[.int .i64 g,.string x] 73)=W at *;generalize w.heap.size=P at *;have c0:W.cell? ⟨P,0,none⟩=some (.int .i64 g):=by rw [Zc b1]; rfl
 have c1:W.cell? ⟨A,0,none⟩=some (.pointer (some ⟨X,0,none⟩)):=by rw [Zc hA]; rfl
 have c2:W.cell? ⟨X,1,none⟩=some (.slice a G c):=by rw [Zc hX]; exact h1
 clear b1 hA hX h1 h;go_quiet (fail);go_wp2_with fail;go_ret;exact ⟨rfl,k1.drewN _⟩
theorem Zjr {w:World} {A X G n cap base:Nat} {ao:Option Addr} {ls:List Bt} (h:BR w base (.slice ao n cap) ls) (hH:Zgr w A X G) (hn:ls.length=n) (hl:n<=1000) :
  Calls Tryz.prog 66 #[.slice ao n cap,.func (.func 40) #[] #[.pointer (some ⟨A,0,none⟩)]] w fun e w' =>∃i:Int,e = .returned (.int .i64 i)/\Hid (decide (0<=i)=Zff G ls)/\Za N0_ w w':=by
 have HN:Hid (ls.length=n):=hn;have HH:Hid (Zgr w A X G):=hH;have HB:Hid (BR w base (.slice ao n cap) ls):=h;clear hn hH h;go_enter Tryz.func66,Tryz.ntmps66;go_wp2;go_loopg [5,8] (n + 1) (fun gl _ s8 wr =>∃k:Nat,k + gl=n + 1/\k<=n/\s8 = .int .i64 (k:Int)/\Hid (Zff G (ls.take k)=false)/\Za N0_ w wr)
 case atStart=>exact ⟨0,by omega,by omega,rfl,(by show _ = _; simp [Zff]),Za.refl _ _⟩
 case round =>
  obtain ⟨k,hgl,hk,rfl,HI,hK⟩:=hrel;have HG:Hid (k + gk=n + 1):=hgl;clear hgl
  by_cases hlt:k < n
  ·have hz:(k:Int) < (n:Int):=by omega
   have hkl:k < ls.length:=by have:=HN.out; omega
   have hrow:=Zb HB.out hK (fun _ _ h=>h);rw [HN.out] at hrow;obtain ⟨g,rfl⟩ :∃g,ao=some ⟨g,0,none⟩:=by
    obtain ⟨n0,rfl⟩ :∃n0,n=n0 + 1:=⟨n - 1,by omega⟩;obtain ⟨g,cp,hv,-⟩:=ZQ hrow
    cases hv
    exact ⟨g,rfl⟩
   obtain ⟨c1,c2⟩:=Jv ls k ls[k] (List.getElem?_eq_getElem hkl);have a0:=hrow.cellAt (k * 2) (by omega);have a1:=hrow.cellAt (k * 2 + 1) (by omega);rw [c1] at a0;rw [c2] at a1;have HT:Hid (Zff G (ls.take (k + 1))=(Zff G (ls.take k) || decide ((G:Int) < ls[k].1))):=ZmN hkl;have HY:Hid (decide ((G:Int) < ls[k].1)=true->Zff G ls=true):=(by show _->_; exact Zpj hkl);generalize ls[k]=r at a0 a1 HT HY;obtain ⟨x,y⟩:=r;simp only at a0 a1;have hcall:=ZlP (g:=x) (x:=y) (HH.out.same hK);clear hrow c1 c2 hkl
   cases hb:decide ((G:Int) < x) with
   | true =>
     rw [hb] at hcall;have HYY:Hid (Zff G ls=true):=HY.out hb;clear HY HT hb;go_wp2_with (go_at_call 40; refine hcall.mono ?_; rintro e w2 ⟨rfl,hk2⟩);go_ret;exact ⟨_,rfl,(by show _ = _; rw [HYY.out]; simp),hK.trans hk2⟩
   | false =>
     rw [hb] at hcall;have HN2:Hid (Zff G (ls.take (k + 1))=false):=(by show _ = _; rw [HT.out,HI.out]; simpa using hb);clear HY HT hb;go_wp2_with (go_at_call 40; refine hcall.mono ?_; rintro e w2 ⟨rfl,hk2⟩);go_roundg (gk - 1)
     case measure=>have:=HG.out; omega
     case rel=>exact ⟨k + 1,by have:=HG.out; omega,by omega,congrArg (Value.int .i64) (by omega),HN2,hK.trans hk2⟩
  ·obtain rfl:k=n:=by omega
   have HE:Hid (Zff G ls=false):=(by show _ = _; have:=HI.out; rw [<- HN.out,List.take_length] at this; exact this);clear HI;go_wp2;go_ret;exact ⟨_,rfl,(by show _ = _; rw [HE.out]; simp),hK⟩
theorem Ze1 {w:World} {A X G n cap base:Nat} {ao:Option Addr} {ls:List Bt} (h:BR w base (.slice ao n cap) ls) (hH:Zgr w A X G) (hn:ls.length=n) (hl:n<=1000) :
  Calls Tryz.prog 39 #[.slice ao n cap,.func (.func 40) #[] #[.pointer (some ⟨A,0,none⟩)]] w fun e w'=>e = .returned (.bool (Zff G ls))/\Za N0_ w w':=by
 have hcall:=Zjr h hH hn hl;clear h hH;go_enter Tryz.func39,Tryz.ntmps39;go_wp2_with (go_at_call 66; refine hcall.mono ?_; rintro e w2 ⟨i,rfl,HI,hk2⟩);go_ret;exact ⟨by rw [<- HI.out]; rfl,hk2⟩
theorem ZbN {w:World} {X G n cap base:Nat} {ao:Option Addr} {ls:List Bt} {cs:Array Value} {a:Option Addr} {c:Nat} (h:BR w base (.slice ao n cap) ls) (hX:w.heap[X]? = some (.cells cs 105 (0,0))) (h1:cs[1]? = some (.slice a G c)) (hn:ls.length=n) (hl:n<=1000) :
  Calls Tryz.prog 20 #[.pointer (some ⟨X,0,none⟩),.slice ao n cap] w fun e w'=>e = .returned (.bool (!Zff G ls))/\Za N0_ w w':=by
 have k1:Za N0_ w (w.alloc (.cells #[.pointer (some ⟨X,0,none⟩)] 52)):=(Za.refl _ _).alloc _;have hH:Zgr (w.alloc (.cells #[.pointer (some ⟨X,0,none⟩)] 52)) w.heap.size X G:=⟨heap_alloc_new _ _,cs,a,c,(k1.block X (lt_of_block hX) id).trans hX,h1⟩;have hcall:=Ze1 (base:=base) (Zb h k1 (fun _ _ h=>h)) hH hn hl;clear h hH hX h1;go_enter Tryz.func20,Tryz.ntmps20;go_wp2_with (go_at_call 39; refine hcall.mono ?_; rintro e w2 ⟨rfl,hk2⟩);go_ret;exact ⟨rfl,k1.trans hk2⟩
end Go.Proofs.YtfkflljplohhcaaGreatDoor
