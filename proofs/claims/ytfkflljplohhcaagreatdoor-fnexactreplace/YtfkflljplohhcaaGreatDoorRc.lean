import Derived.Test.YtfkflljplohhcaaGreatDoorRa
set_option maxHeartbeats 1000000
set_option maxRecDepth 100000
namespace Go.Proofs.YtfkflljplohhcaaGreatDoor
open Go.RowKit
set_option linter.unusedVariables false
def rpS (u:ByteArray) (B:List Bt) (x:ByteArray×Nat) (m:Mt):ByteArray×Nat:=((x.1 ++ u.extract x.2 m.fr.toNat) ++ JZ u m B,m.up.toNat)
def rpA (u:ByteArray) (B:List Bt) (l:List Mt):ByteArray×Nat:=l.foldl (rpS u B) (ByteArray.empty,0)
def rpT (u:ByteArray) (B:List Bt) (l:List Mt):ByteArray:=(rpA u B l).1 ++ u.extract (rpA u B l).2 u.size
theorem ZeC (u:ByteArray) (B:List Bt) (l:List Mt) (m:Mt):rpA u B (l ++ [m])=rpS u B (rpA u B l) m:=by simp [rpA]
def Zkb (N:Nat):Nat->List Mt->Prop
 | _,[]=>True
 | p,m :: l=>(p:Int)<=m.fr/\InM N m/\Zkb N m.up.toNat l
theorem ZpC {u:ByteArray} {B:List Bt} :∀(l1:List Mt) (m:Mt) (l2:List Mt) (p:Nat) (x:ByteArray×Nat),Zkb u.size p (l1 ++ m :: l2)->x.2<=p->((l1.foldl (rpS u B) x).2:Int)<=m.fr/\InM u.size m:=by
 intro l1
 induction l1 with
 | nil=>intro m l2 p x h hx; have:=h.1; exact ⟨by simp only [List.foldl_nil]; omega,h.2.1⟩
 | cons m1 l1 ih =>
   intro m l2 p x h hx;exact ih m l2 m1.up.toNat (rpS u B x m1) h.2.2 (Nat.le_refl _)
theorem ZkJ {u:ByteArray} {B:List Bt} :∀(l:List Mt) (p:Nat) (x:ByteArray×Nat),Zkb u.size p l->x.2<=u.size->(l.foldl (rpS u B) x).2<=u.size:=by
 intro l
 induction l with
 | nil=>intro p x _ hx; exact hx
 | cons m l ih =>
   intro p x h hx;have h1:=h.2.1.2.2.1;have h2:=h.2.1.1;exact ih m.up.toNat (rpS u B x m) h.2.2 (by show m.up.toNat<=_; omega)
theorem ZbH {N:Nat} :∀(l:List Mt) (p k:Nat),Zkb N p l->Zkb N p (l.take k):=by
 intro l
 induction l with
 | nil=>intro p k _; simp [Zkb]
 | cons m l ih =>
   intro p k h
   cases k with
   | zero=>trivial
   | succ k=>exact ⟨h.1,h.2.1,ih _ _ h.2.2⟩
theorem ZeD {u:ByteArray} {B:List Bt} (hu:u.size<=200) (hB:B.length<=100) (hBs :∀b∈B,b.2.size<=100) :∀(l:List Mt),(rpA u B l).1.size<=20200 * l.length:=by
 intro l;refine ZcF (M:=fun l=>(rpA u B l).1.size<=20200 * l.length) (Nat.zero_le _) ?_ l;intro l m ih;have h1:=Zba (m:=m) hu B hBs;rw [ZeC,List.length_append];simp only [rpS,ByteArray.size_append,ByteArray.size_extract,List.length_cons,List.length_nil];omega
def Zrv (r:Bool×ByteArray×Nat):Value:=.agg #[.bool r.1,.string r.2.1,.int .i64 (r.2.2:Int)]
theorem ZbT (L:List Mm) (j i:Nat) (hj:j < L.length) (hi:i < 4):(L.flatMap Za0)[j * 4 + i]? = (Za0 (L[j]'hj))[i]?:=by
 induction L generalizing j with
 | nil=>simp at hj
 | cons x L ih =>
   cases j with
   | zero =>
     rw [List.flatMap_cons,List.getElem?_append_left (by simp [Za0]; omega)];simp
   | succ j =>
     have:=ih j (by simpa using hj)
     rw [List.flatMap_cons,List.getElem?_append_right (by simp [Za0]; omega)];have e:(j + 1) * 4 + i - (Za0 x).length=j * 4 + i:=by simp [Za0]; omega
     rw [e,this];simp
theorem Mts.cellsR {w:World} {g cap:Nat} {L:List Mm} (h:Mts w (.slice (some ⟨g,0,none⟩) L.length cap) L) {j:Nat} (hj:j < L.length) :
  w.cell? ⟨g,j * 4,none⟩=some (.bool (L[j]'hj).1.ok)/\w.cell? ⟨g,j * 4 + 1,none⟩=some (.int .i64 (L[j]'hj).1.fr)/\w.cell? ⟨g,j * 4 + 2,none⟩=some (.int .i64 (L[j]'hj).1.up)/\w.cell? ⟨g,j * 4 + 3,none⟩=some (L[j]'hj).2:=by
 have hc:=h.row.cellAt;refine ⟨?_,?_,?_,?_⟩
 ·have e:=hc (j * 4) (by omega); rw [e]; exact ZbT L j 0 hj (by omega)
 ·rw [hc (j * 4 + 1) (by omega)]; exact ZbT L j 1 hj (by omega)
 ·rw [hc (j * 4 + 2) (by omega)]; exact ZbT L j 2 hj (by omega)
 ·rw [hc (j * 4 + 3) (by omega)]; exact ZbT L j 3 hj (by omega)
theorem Zsa (l:List UInt8) (r:ByteArray):(l.map fun c=>(c.toNat:Int)).foldl (fun r n=>r.push (UInt8.ofNat n.toNat)) r=r ++ ⟨l.toArray⟩:=by
 induction l generalizing r with
 | nil=>apply ByteArray.ext; simp
 | cons c l ih =>
   rw [List.map_cons,List.foldl_cons,ih];apply ByteArray.ext;simp
theorem Zmi {w:World} {base:Nat} {v:Value} {b:ByteArray} (h:ObB w base v b):Sem.run Tryz.prog (convert 22 9 v) w = .ok (.string b) w:=by
 have h':=h;obtain ⟨_,⟨rfl,hl⟩ | ⟨g,cap,cur,rfl,_⟩⟩:=h
 ·rw [run_convert_bytes_string _ 22 9 5 _ _ _ Tryz.underlying22 Tryz.underlying5 Tryz.underlying9];have hb:b=ByteArray.empty:=by
   apply ByteArray.ext;apply Array.eq_empty_of_size_eq_zero;exact hl
  rw [hb];rfl
 ·rw [run_convert_bytes_string _ 22 9 5 _ _ _ Tryz.underlying22 Tryz.underlying5 Tryz.underlying9];rw [run_bytesToString _ _ _ _ (b.data.toList.map fun c=>(c.toNat:Int))]
  ·rw [Zsa]
   congr 2
  ·have h2:=run_loadCells_list (P:=Tryz.prog) w ⟨g,0,none⟩ (Lib.strCells b) (h'.cells rfl);have e:(Lib.strCells b)=List.map (Value.int IntKind.u8) (b.data.toList.map fun c=>(c.toNat:Int)):=by simp [Lib.strCells]
   rw [Lib.strCells_length] at h2;rw [<- e];exact h2
theorem Znw {w:World} {s u t:ByteArray} {most:Int} {G:Nat} {l:List Mt} {B:List Bt} {at_:Int} {Mach:World->Nat->(Nat->Prop)->Prop}
  (hof :∀w,Calls Tryz.prog 16 #[.string s,.string u] w fun e w2 =>∃R E,e = .returned (.tuple #[.pointer (some ⟨R,0,none⟩),.bool true])/\Mach w2 R E/\(∀k,E k->w.heap.size<=k/\k < w2.heap.size)/\Za N0_ w w2)
  (htp :∀w,Calls Tryz.prog 29 #[.string t] w fun e w' =>∃v,e = .returned (.agg #[.bool true,.int .i64 at_,v])/\BR w' w.heap.size v B/\Za N0_ w w')
  (hMk :∀w w' R E,Mach w R E->Za N0_ w w'->Mach w' R E)
  (hMg :∀w R E,Mach w R E->w.cell? ⟨R,2,none⟩=some (.int .i64 (G:Int)))
  (hal :∀w R E,Mach w R E->Calls Tryz.prog 17 #[.pointer (some ⟨R,0,none⟩)] w fun e w' =>∃(ao:Option Addr) (n c:Nat) (L:List Mm),e = .returned (.slice ao n c)/\L.map (·.1)=l/\Mts w' (.slice ao n c) L/\Za E w w')
  (hu:u.size<=200) (hl:l.length<=300) (hO:Zkb u.size 0 l) (hgl :∀m∈l,m.gs.length=G) (hG:G<=9) (hB:B.length<=100) (hBs :∀b∈B,b.2.size<=100/\b.1<=(G:Int)) (hm0:0<=most) (hm1:most<=9223372036854775807) :
  Calls Tryz.prog 11 #[.string s,.string u,.string t,.int .i64 most] w fun e w'=>e = .returned (Zrv (true,rpT u B (l.take most.toNat),(l.take most.toNat).length))/\Za N0_ w w':=by
 have HMk:Hid _:=hMk;have HMg:Hid _:=hMg;have Hal:Hid _:=hal;have Htp:Hid _:=htp;clear hMk hMg hal htp;go_enter Tryz.func11,Tryz.ntmps11;have hof0:=hof (w.alloc (.cells #[.bool false,.string ⟨#[]⟩,.int .i64 0] 28));have kQ:Za N0_ w (w.alloc (.cells #[.bool false,.string ⟨#[]⟩,.int .i64 0] 28)):=(Za.refl _ _).alloc _;have bQ:(w.alloc (.cells #[.bool false,.string ⟨#[]⟩,.int .i64 0] 28)).heap[w.heap.size]? = some (.cells #[.bool false,.string ⟨#[]⟩,.int .i64 0] 28 (0,0)):=heap_alloc_new _ _;clear hof;go_upto_region 2 with (go_at_call 16; refine hof0.mono ?_; clear hof0; rintro e w2 ⟨R,E,rfl,hM,hE,hk2⟩);have bQ2:=(hk2.block _ (lt_of_block bQ) id).trans bQ;have hQlt:=lt_of_block bQ;have HE:Hid (∀k,E k->w.heap.size < k/\k < w2.heap.size):=fun k hk=>by have:=hE k hk; omega
 have hk02:=kQ.trans hk2;clear kQ hk2 hE bQ hQlt;have htp:=Htp.out w2;go_upto_region 3 with (go_at_call 29; refine htp.mono ?_; clear htp; rintro e w3 ⟨tv,rfl,hT,hk3⟩; obtain ⟨aT,cT,hv⟩:=Zd hT; subst hv);have kB:Za N0_ w3 (w3.alloc (.cells #[.bool true,.int .i64 at_,.slice aT B.length cT] 56)):=(Za.refl _ _).alloc _;have bB:(w3.alloc (.cells #[.bool true,.int .i64 at_,.slice aT B.length cT] 56)).heap[w3.heap.size]? = some (.cells #[.bool true,.int .i64 at_,.slice aT B.length cT] 56 (0,0)):=heap_alloc_new _ _;have hP1:=hk3.size;have hk24:=hk3.trans kB;have hT4:=Zb hT kB (fun _ _ h=>h);clear hT kB hk3;generalize (w3.alloc (.cells #[.bool true,.int .i64 at_,.slice aT B.length cT] 56))=w4 at bB hk24 hT4 ⊢;generalize w3.heap.size=P1 at bB hP1 ⊢;have bQ4:=(hk24.block _ (lt_of_block bQ2) id).trans bQ2;have d0:w4.cell? ⟨P1,0,none⟩=some (.bool true):=by rw [Zc bB]; rfl
 have d2:w4.cell? ⟨P1,2,none⟩=some (.slice aT B.length cT):=by rw [Zc bB]; rfl
 have hmz:¬ most < 0:=by omega
 have HBs:Hid (∀b∈B,b.2.size<=100/\b.1<=(G:Int)):=hBs;have HT4:Hid (BR w4 w2.heap.size (.slice aT B.length cT) B):=hT4;have HbB:Hid (w4.heap[P1]? = some (.cells #[.bool true,.int .i64 at_,.slice aT B.length cT] 56 (0,0))):=bB;have HbQ:Hid (w4.heap[w.heap.size]? = some (.cells #[.bool false,.string ⟨#[]⟩,.int .i64 0] 28 (0,0))):=bQ4;have HM:Hid (Mach w2 R E):=hM;have Hk24:Hid (Za N0_ w2 w4):=hk24;have Hk02:Hid (Za N0_ w w2):=hk02;have hBz:(B.length:Int)<=100:=by omega
 clear bB bQ2 bQ4 hT4 hBs hM hk24 hk02;go_wp2_with fail;clear d0 d2;obtain ⟨nB,hnB⟩ :∃nB,B.length=nB:=⟨_,rfl⟩;have HnB:Hid (B.length=nB):=hnB;simp only [hnB] at hBz ⊢;clear hnB;go_loopg [42] (nB + 1) (fun gl s42 wr =>∃k:Nat,k + gl=nB + 1/\k<=nB/\s42 = .int .i64 (k:Int)/\Hid (Za N0_ w4 wr))
 case atStart=>exact ⟨0,by omega,by omega,rfl,Za.refl _ _⟩
 case round =>
  obtain ⟨k,hgl,hk,rfl,HKr⟩:=hrel;have HGk:Hid (k + gk=nB + 1):=hgl;clear hgl
  by_cases hlt:k < nB
  ·have hkz:(k:Int) < (nB:Int):=by omega
   have hkB:k < B.length:=by have:=HnB.out; omega
   have hT:=Zb HT4.out HKr.out (fun _ _ h=>h);rw [HnB.out] at hT;obtain ⟨gT,rfl⟩ :∃gT,aT=some ⟨gT,0,none⟩:=by
    obtain ⟨n0,rfl⟩ :∃n0,nB=n0 + 1:=⟨nB - 1,by omega⟩;obtain ⟨g,cp,hv,-⟩:=ZQ hT
    cases hv
    exact ⟨g,rfl⟩
   obtain ⟨c1,c2⟩:=Jv B k B[k] (List.getElem?_eq_getElem hkB);have y1:=hT.cellAt (k * 2) (by omega);have y2:=hT.cellAt (k * 2 + 1) (by omega);rw [c1] at y1;rw [c2] at y2;have hbg:=(HBs.out B[k] (List.getElem_mem hkB)).2;generalize B[k]=b at y1 y2 hbg;obtain ⟨g,x⟩:=b;simp only at y1 y2 hbg;have kC:Za N0_ wr (wr.alloc (.cells #[.int .i64 g,.string x] 73)):=(Za.refl _ _).alloc _;have bC:(wr.alloc (.cells #[.int .i64 g,.string x] 73)).heap[wr.heap.size]? = some (.cells #[.int .i64 g,.string x] 73 (0,0)):=heap_alloc_new _ _;clear c1 c2 hT hkB;go_upto_region 8 with fail;have HK5:Hid (Za N0_ w4 (wr.alloc (.cells #[.int .i64 g,.string x] 73))):=HKr.out.trans kC;generalize (wr.alloc (.cells #[.int .i64 g,.string x] 73))=w5 at bC HK5 ⊢;generalize wr.heap.size=P2 at bC ⊢;have v0:w5.cell? ⟨P2,0,none⟩=some (.int .i64 g):=by rw [Zc bC]; rfl
   have vG:=HMg.out _ _ _ (HMk.out _ _ _ _ HM.out (Hk24.out.trans HK5.out));have hgG:¬ (G:Int) < g:=by omega
   clear y1 y2 bC kC HKr;go_quiet (fail);go_wp2_with fail;go_roundg (gk - 1)
   case measure=>have:=HGk.out; omega
   case rel=>exact ⟨k + 1,by have:=HGk.out; omega,by omega,congrArg (Value.int .i64) (by omega),HK5.out.drewN _⟩
  ·have hkz:¬ (k:Int) < (nB:Int):=by omega
   obtain ⟨wb,rfl⟩ :∃wb:World,wb=wr:=⟨_,rfl⟩;have kD:Za N0_ w4 (wb.alloc (.cells #[.bool true,.string ⟨#[]⟩,.int .i64 0] 28)):=HKr.out.alloc _;have bD:(wb.alloc (.cells #[.bool true,.string ⟨#[]⟩,.int .i64 0] 28)).heap[wb.heap.size]? = some (.cells #[.bool true,.string ⟨#[]⟩,.int .i64 0] 28 (0,0)):=heap_alloc_new _ _;have hbs:=HKr.out.size;go_upto_region 12 with fail;have hal:=Hal.out _ R E (HMk.out _ _ _ _ HM.out (Hk24.out.trans kD));have HE6:Hid (∀k,E k->w.heap.size < k/\k < w2.heap.size):=HE.out;generalize (wb.alloc (.cells #[.bool true,.string ⟨#[]⟩,.int .i64 0] 28))=w6 at kD bD hal ⊢;obtain ⟨P3,hP3⟩ :∃P3,wb.heap.size=P3:=⟨_,rfl⟩;rw [hP3] at bD ⊢;have hk24s:=Hk24.out.size;have HP3:Hid (w.heap.size < P3/\w2.heap.size<=P3):=⟨by have:=Hk02.out.size; have:=lt_of_block HbQ.out; omega,by omega⟩;clear hP3;go_wp2_with (go_at_call 17; refine hal.mono ?_; clear hal; rintro e w7 ⟨a7,n7,c7,L7,rfl,hL7,hM7,hk7⟩);have bD7:=(hk7.block P3 (lt_of_block bD) (fun h=>by have:=(HE6.out _ h).2; have:=HP3.out.2; omega)).trans bD;have hb1:=HbB.out;have bT6:=(kD.block P1 (lt_of_block hb1) id).trans hb1;have bT7:=(hk7.block P1 (lt_of_block bT6) (fun h=>by have:=(HE6.out _ h).2; omega)).trans bT6;have hT6:=Zb HT4.out kD (fun _ _ h=>h);have hT7:=Zb hT6 hk7 (fun b hb h=>by have:=(HE6.out _ h).2; have:=(hT6.lt b hb).1; omega);have hq4:=HbQ.out;have bQ6:=(kD.block _ (lt_of_block hq4) id).trans hq4;have HQ7:Hid (w7.heap[w.heap.size]? = some (.cells #[.bool false,.string ⟨#[]⟩,.int .i64 0] 28 (0,0))):=(hk7.block _ (lt_of_block bQ6) (fun h=>by have:=(HE6.out _ h).1; omega)).trans bQ6;have HKw7:Hid (Za N0_ w w7):=((Hk02.out.trans Hk24.out).trans kD).trans' hk7 (fun i hi h=>by have:=(HE6.out _ h).1; omega);have hn7:n7=l.length:=by
    obtain ⟨a',c',hv⟩:=Zd hM7.row
    cases hv
    rw [<- hL7,List.length_map]
   have HNl:Hid (n7=l.length):=hn7;have HT7:Hid (BR w7 w2.heap.size (.slice aT B.length cT) B):=hT7;have HM7:Hid (Mts w7 (.slice a7 n7 c7) L7):=hM7;have HL7:Hid (L7.map (·.1)=l):=hL7;have HbT:Hid (w7.heap[P1]? = some (.cells #[.bool true,.int .i64 at_,.slice aT B.length cT] 56 (0,0))):=bT7;have HO:Hid (Zkb u.size 0 l):=hO;have HbD:Hid (w7.heap[P3]? = some (.cells #[.bool true,.string ⟨#[]⟩,.int .i64 0] 28 (0,0))):=bD7;have Hgl:Hid (∀m∈l,m.gs.length=G):=hgl;have HSz:Hid (∀k,(rpA u B (l.take k)).1.size<=10000000):=fun k=>by
    have h1:=ZeD hu hB (fun b hb=>(HBs.out b hb).1) (l.take k);rw [List.length_take] at h1;omega
   have hP13:P1≠P3:=by
    intro e;have h1:=bT7;rw [e,bD7] at h1;simp at h1
   have hn3:(n7:Int)<=300:=by omega
   clear hb1 bT6 bT7 hT6 hT7 hq4 bQ6 hk7 hn7 hM7 hL7 hO hgl kD bD HKr hbs hk24s HGk hk hlt hkz;go_loopg [15,16,60] (n7 + 1) (fun gl s15 s16 s60 wr =>∃(k:Nat) (av:Option Addr) (nv cv:Nat),k + gl=n7 + 1/\k<=n7/\(k:Int)<=most/\s15 = .slice av nv cv/\s16 = .int .i64 ((rpA u B (l.take k)).2:Int)/\s60 = .int .i64 (k:Int)/\Hid (ObB wr w7.heap.size (.slice av nv cv) (rpA u B (l.take k)).1/\wr.heap[P3]? = some (.cells #[.bool true,.string ⟨#[]⟩,.int .i64 (k:Int)] 28 (0,0))/\Za (fun b=>b=P3) w7 wr))
   case atStart=>exact ⟨0,none,0,0,by omega,by omega,hm0,rfl,rfl,rfl,World.ownsRow_nil _ _ _ _,bD7,Za.refl _ _⟩
   case round =>
    clear bD7;obtain ⟨k,av,nv,cv,hgl,hk,hkm,rfl,rfl,rfl,HR⟩:=hrel;have HGk:Hid (k + gk=n7 + 1):=hgl;clear hgl
    by_cases hlt:k < n7
    ·have hz:(k:Int) < (n7:Int):=by omega
     have hkl:k < l.length:=by have:=HNl.out; omega
     have hkL:k < L7.length:=by have:=HL7.out; rw [<- this,List.length_map] at hkl; exact hkl
     obtain ⟨hOb,bF,kF⟩:=HR.out;have hP3:=HP3.out;have h2 :∀{e:TypeId} {sz nn:Nat} {v:Value} {xs:List Value},w7.ownsRow 0 e sz v nn xs->e≠28->wr.ownsRow 0 e sz v nn xs:=fun h he=>Zb h kF (fun i hi e=>by subst e; exact Zi h HbD.out he hi);have hM:Mts wr (.slice a7 n7 c7) L7:=⟨h2 HM7.out.row (by decide),fun x hx=>h2 (HM7.out.rows x hx) (by decide)⟩;obtain ⟨gm,rfl⟩ :∃gm,a7=some ⟨gm,0,none⟩:=by
      obtain ⟨n0,rfl⟩ :∃n0,n7=n0 + 1:=⟨n7 - 1,by omega⟩;have hlen:L7.length=n0 + 1:=by have:=HNl.out; rw [this,<- HL7.out,List.length_map]
      have h3:=hM.row;rw [hlen] at h3;obtain ⟨g,cp,hv,-⟩:=ZQ h3
      cases hv
      exact ⟨g,rfl⟩
     have hlen:L7.length=n7:=by have:=HNl.out; rw [this,<- HL7.out,List.length_map]
     have hM':=hM;rw [<- hlen] at hM';obtain ⟨m0,m1,m2,m3⟩:=Mts.cellsR hM' hkL;have hgr:=hM'.rows _ (List.getElem_mem hkL);obtain ⟨ax,cx,hxv⟩:=Zd hgr;have hmk:l[k]'hkl=(L7[k]'hkL).1:=by
      have h1:l[k]? = (L7.map (·.1))[k]?:=by rw [HL7.out]
      simpa [hkl,hkL] using h1
     have hsp:l.take k ++ (L7[k]'hkL).1 :: l.drop (k + 1)=l:=by rw [<- hmk,<- List.drop_eq_getElem_cons hkl,List.take_append_drop]
     obtain ⟨hle,hin⟩:=ZpC (u:=u) (B:=B) (l.take k) (L7[k]'hkL).1 (l.drop (k + 1)) 0 (ByteArray.empty,0) (by rw [hsp]; exact HO.out) (Nat.le_refl _);change ((rpA u B (l.take k)).2:Int)<=(L7[k]'hkL).1.fr at hle;have hgG:=Hgl.out _ (List.getElem_mem hkl);have HNx:Hid (rpA u B (l.take (k + 1))=rpS u B (rpA u B (l.take k)) (L7[k]'hkL).1):=(by show _ = _; rw [List.take_succ_eq_append_getElem hkl,ZeC,hmk]);rw [hmk] at hgG;rw [hxv] at m3 hgr;generalize (L7[k]'hkL).1=m at m0 m1 m2 m3 hgr hle hin hgG HNx;obtain ⟨i1,i2,i3,-,-⟩:=id hin;have hInM:=hin;obtain ⟨fN,hfN⟩ :∃fN:Nat,m.fr=(fN:Int):=⟨m.fr.toNat,by omega⟩;obtain ⟨tN,htN⟩ :∃tN:Nat,m.up=(tN:Int):=⟨m.up.toNat,by omega⟩;rw [hfN] at m1 hle;rw [htN] at m2;rw [hgG] at m3;have kX:Za N0_ wr (wr.alloc (.cells #[.bool m.ok,.int .i64 (fN:Int),.int .i64 (tN:Int),.slice ax G cx] 38)):=(Za.refl _ _).alloc _;have bX:(wr.alloc (.cells #[.bool m.ok,.int .i64 (fN:Int),.int .i64 (tN:Int),.slice ax G cx] 38)).heap[wr.heap.size]? = some (.cells #[.bool m.ok,.int .i64 (fN:Int),.int .i64 (tN:Int),.slice ax G cx] 38 (0,0)):=heap_alloc_new _ _;have hOb8:ObB (wr.alloc (.cells #[.bool m.ok,.int .i64 (fN:Int),.int .i64 (tN:Int),.slice ax G cx] 38)) w7.heap.size (.slice av nv cv) (rpA u B (l.take k)).1:=Zb hOb kX (fun _ _ h=>h);have bF8:=(kX.block P3 (lt_of_block bF) id).trans bF;have kF8:Za (fun b=>b=P3) w7 (wr.alloc (.cells #[.bool m.ok,.int .i64 (fN:Int),.int .i64 (tN:Int),.slice ax G cx] 38)):=kF.trans (kX.mono (fun _ _ h=>h.elim));have hgr8:=Zb hgr kX (fun _ _ h=>h);have hP4:wr.heap.size≠P3:=by have:=lt_of_block bF; omega
     clear hM hM' hlen hmk hsp hxv hkL hkl hOb bF kF hgr h2;go_upto_region 17 with fail;clear m0 m1 m2 m3 kX;generalize (wr.alloc (.cells #[.bool m.ok,.int .i64 (fN:Int),.int .i64 (tN:Int),.slice ax G cx] 38))=w8 at bX hOb8 bF8 kF8 hgr8 ⊢;generalize wr.heap.size=P4 at bX hP4 ⊢;have g2:w8.cell? ⟨P3,2,none⟩=some (.int .i64 (k:Int)):=by rw [Zc bF8]; rfl
     have gf :∀i,w8.frozen? ⟨P3,i,none⟩=false:=fun i=>Zv bF8
     by_cases hkm2:(k:Int)=most
     ·have HR8:Hid (ObB w8 w7.heap.size (.slice av nv cv) (rpA u B (l.take k)).1/\w8.heap[P3]? = some (.cells #[.bool true,.string ⟨#[]⟩,.int .i64 (k:Int)] 28 (0,0))/\Za (fun b=>b=P3) w7 w8):=⟨hOb8,bF8,kF8⟩;have heq:((k:Int) == most)=true:=by simp; omega
      have HKM:Hid ((k:Int)=most):=hkm2;clear hkm2;clear hOb8 bF8 kF8 hgr8 bX hgG HNx hle hin i1 i2 i3 hInM;have hfin:(rpA u B (l.take k)).2<=u.size:=ZkJ _ _ _ (ZbH _ _ k HO.out) (Nat.zero_le _);obtain ⟨hObF,bFF,kFF⟩:=HR8.out;have hsF:=HSz.out k;have hFv:l.take k=l.take most.toNat:=(by rw [show most.toNat=k by have:=HKM.out; omega]);have HFv:Hid (rpT u B (l.take most.toNat)=(rpA u B (l.take k)).1 ++ u.extract (rpA u B (l.take k)).2 u.size/\min most.toNat l.length=k):=⟨by rw [<- hFv]; rfl,by have h5:=congrArg List.length hFv; rw [List.length_take,List.length_take] at h5; have:=HNl.out; omega⟩;generalize (rpA u B (l.take k)).1=oF at hObF hsF HFv;generalize (rpA u B (l.take k)).2=aF at hfin HFv;obtain ⟨aq,cq,wq,hrunF,hObq,hkq⟩:=Zfe hObF (Nat.le_trans (Nat.le_refl _) kFF.size) (u.extract aF u.size) (by have:(u.extract aF u.size).size<=200:=(by rw [ByteArray.size_extract]; omega); omega);have hcv:=Zmi hObq;have haz:(aF:Int)<=(u.size:Int):=by omega
      have bFq:=(hkq.block P3 (lt_of_block bFF) (Zi hObF bFF (by decide))).trans bFF;have hQ7:=HQ7.out;have bQF:=(kFF.block w.heap.size (lt_of_block hQ7) (by have:=HP3.out; omega)).trans hQ7;have bQq:=(hkq.block w.heap.size (lt_of_block bQF) (Zi hObF bQF (by decide))).trans bQF;have kq0:Za N0_ w wq:=(HKw7.out.trans' kFF (fun i hi e=>by have:=HP3.out; omega)).trans' hkq (fun i hi e=>by have:=(hObF.lt i e).1; have:=HKw7.out.size; omega);have e1:wq.cell? ⟨P3,1,none⟩=some (.string ⟨#[]⟩):=by rw [Zc bFq]; rfl
      have ef :∀i,wq.frozen? ⟨P3,i,none⟩=false:=fun i=>Zv bFq;have qf :∀i,wq.frozen? ⟨w.heap.size,i,none⟩=false:=fun i=>Zv bQq;obtain ⟨X,hX⟩ :∃X,oF ++ u.extract aF u.size=X:=⟨_,rfl⟩;obtain ⟨nq,hnq⟩ :∃nq,X.size=nq:=⟨_,rfl⟩;rw [hX] at hrunF hcv HFv;rw [hnq] at hrunF hcv;clear hObF hObq hfin hFv hsF hX hnq;go_upto_region 24 with (at_builtin; refine Qn rfl _ _ _ _ _ rfl rfl (.slice av nv cv) _ _ _ rfl rfl hrunF ?_);clear hrunF;go_upto_region 25 with fail;have bz:(wq.setCell ⟨P3,1,none⟩ (.string X)).heap[P3]? = some (.cells #[.bool true,.string X,.int .i64 (k:Int)] 28 (0,0)):=by rw [heap_setCell_same _ _ _ _ _ _ bFq]; rfl
      have kz:Za (fun b=>b=P3) wq (wq.setCell ⟨P3,1,none⟩ (.string X)):=(Za.refl (fun b=>b=P3) wq).setCell (a:=⟨P3,1,none⟩) (fun _=>rfl) _;have bQz:=(kz.block w.heap.size (lt_of_block bQq) (by have:=HP3.out; omega)).trans bQq;have HKz:Hid (Za N0_ w (wq.setCell ⟨P3,1,none⟩ (.string X))):=kq0.trans' kz (fun i hi e=>by have:=HP3.out; omega);generalize wq.setCell ⟨P3,1,none⟩ (.string X)=wz at bz bQz HKz ⊢;clear kz e1 ef qf bFq bQq kq0 hcv;have f0:wz.cell? ⟨P3,0,none⟩=some (.bool true):=by rw [Zc bz]; rfl
      have f1:wz.cell? ⟨P3,1,none⟩=some (.string X):=by rw [Zc bz]; rfl
      have f2:wz.cell? ⟨P3,2,none⟩=some (.int .i64 (k:Int)):=by rw [Zc bz]; rfl
      have q0:wz.cell? ⟨w.heap.size,0,none⟩=some (.bool false):=by rw [Zc bQz]; rfl
      have q1:wz.cell? ⟨w.heap.size,1,none⟩=some (.string ⟨#[]⟩):=by rw [Zc bQz]; rfl
      have q2:wz.cell? ⟨w.heap.size,2,none⟩=some (.int .i64 0):=by rw [Zc bQz]; rfl
      have qf :∀i,wz.frozen? ⟨w.heap.size,i,none⟩=false:=fun i=>Zv bQz;go_wp2_with fail;refine bodyPost_ret (v:=.agg #[.bool true,.string X,.int .i64 (k:Int)]) (by simp [results,Tryz.results11,go_sem,q0,q1,q2]) rfl ?_;have kW :∀(j:Nat) (v:Value) (wx:World),Za N0_ w wx->Za N0_ w (wx.setCell ⟨w.heap.size,j,none⟩ v):=fun j v wx h=>h.setCell (a:=⟨w.heap.size,j,none⟩) (fun h2=>absurd h2 (Nat.lt_irrefl _)) v;exact ⟨by unfold Zrv; simp only [HFv.out.1,List.length_take,HFv.out.2],kW _ _ _ (kW _ _ _ (kW _ _ _ HKz.out))⟩
     ·have heq:((k:Int) == most)=false:=by simp; omega
      have hkz9:(k:Int) + 1<=301:=by omega
      have hkm3:(k:Int) + 1<=most:=by omega
      go_upto_region 19 with fail
      have b9:(w8.setCell ⟨P3,2,none⟩ (.int .i64 ((k:Int) + 1))).heap[P3]? = some (.cells #[.bool true,.string ⟨#[]⟩,.int .i64 ((k:Int) + 1)] 28 (0,0)):=by rw [heap_setCell_same _ _ _ _ _ _ bF8]; rfl
      have kS:Za (fun b=>b=P3) w8 (w8.setCell ⟨P3,2,none⟩ (.int .i64 ((k:Int) + 1))):=(Za.refl (fun b=>b=P3) w8).setCell (a:=⟨P3,2,none⟩) (fun _=>rfl) _;have kF9:=kF8.trans kS;have hOb9:ObB (w8.setCell ⟨P3,2,none⟩ (.int .i64 ((k:Int) + 1))) w7.heap.size (.slice av nv cv) (rpA u B (l.take k)).1:=Zb hOb8 kS (fun i hi e=>by subst e; exact Zi hOb8 bF8 (by decide) hi);have hgr9:=Zb hgr8 kS (fun i hi e=>by subst e; exact Zi hgr8 bF8 (by decide) hi);have bX9:=(kS.block P4 (lt_of_block bX) hP4).trans bX;clear g2 gf bF8 kF8 hOb8 hgr8 bX kS;generalize w8.setCell ⟨P3,2,none⟩ (.int .i64 ((k:Int) + 1))=w9 at b9 kF9 hOb9 hgr9 bX9 ⊢;have bT9:=(kF9.block P1 (lt_of_block HbT.out) hP13).trans HbT.out;have hT9:=Zb HT7.out kF9 (fun i hi e=>by subst e; exact Zi HT7.out HbD.out (by decide) hi);have hsz:=HSz.out k;have hE1:(u.extract (rpA u B (l.take k)).2 fN).size<=200:=by rw [ByteArray.size_extract]; omega
      obtain ⟨aA,cA,wA,hrunA,hObA,hkA⟩:=Zfe hOb9 kF9.size (u.extract (rpA u B (l.take k)).2 fN) (by omega);have hx1:w9.cell? ⟨P4,1,none⟩=some (.int .i64 (fN:Int)):=by rw [Zc bX9]; rfl
      have haz:((rpA u B (l.take k)).2:Int)<=(fN:Int):=hle;have hfz:(fN:Int)<=(u.size:Int):=by omega
      have bXA:=(hkA.block P4 (lt_of_block bX9) (Zi hOb9 bX9 (by decide))).trans bX9;have bTA:=(hkA.block P1 (lt_of_block bT9) (Zi hOb9 bT9 (by decide))).trans bT9;have b9A:=(hkA.block P3 (lt_of_block b9) (Zi hOb9 b9 (by decide))).trans b9;have hTA:BR wA w2.heap.size (.slice aT B.length cT) B:=Zb hT9 hkA (fun i hi e=>by obtain ⟨c1,g1⟩:=Zu hT9 hi; exact Zi hOb9 g1 (by decide) e);have hgA:SpR wA (.slice ax m.gs.length cx) m.gs:=Zb hgr9 hkA (fun i hi e=>by obtain ⟨c1,g1⟩:=Zu hgr9 hi; exact Zi hOb9 g1 (by decide) e);have kFA:Za (fun b=>b=P3) w7 wA:=kF9.trans' hkA (fun i hi e=>absurd (hOb9.lt i e).1 (by omega));have hcall:=Zjm (ok:=true) (at_:=at_) hTA hgA hInM hu hB (fun b hb=>⟨(HBs.out b hb).1,by rw [hgG]; exact (HBs.out b hb).2⟩);rw [HnB.out,hfN,htN,hgG] at hcall;have hszF:=Zba (m:=m) hu B (fun b hb=>(HBs.out b hb).1);have HBB:Hid (∀wB,Za N0_ wA wB->∃ao c w',Sem.run Tryz.prog (Builtin.append_ #[22,9] 22 #[.slice aA ((rpA u B (l.take k)).1 ++ u.extract (rpA u B (l.take k)).2 fN).size cA,.string (JZ u m B)]) wB = .ok (.slice ao (rpA u B (l.take (k + 1))).1.size c) w'/\ObB w' w7.heap.size (.slice ao (rpA u B (l.take (k + 1))).1.size c) (rpA u B (l.take (k + 1))).1/\w'.heap[P3]? = some (.cells #[.bool true,.string ⟨#[]⟩,.int .i64 ((k:Int) + 1)] 28 (0,0))/\w'.heap[P4]? = some (.cells #[.bool m.ok,.int .i64 (fN:Int),.int .i64 (tN:Int),.slice ax G cx] 38 (0,0))/\Za (fun b=>b=P3) w7 w'):=by
       intro wB hkB;have hObB:ObB wB w7.heap.size _ _:=Zb hObA hkB (fun _ _ h=>h);have b9B:=(hkB.block P3 (lt_of_block b9A) id).trans b9A;have bXB:=(hkB.block P4 (lt_of_block bXA) id).trans bXA;have kFB:Za (fun b=>b=P3) w7 wB:=kFA.trans (hkB.mono (fun _ _ h=>h.elim));have hszB:((rpA u B (l.take k)).1 ++ u.extract (rpA u B (l.take k)).2 fN).size<=20000000:=by rw [ByteArray.size_append]; omega
       obtain ⟨aC,cC,wC,hrunC,hObC,hkC⟩:=Zfe hObB kFB.size (JZ u m B) (by omega);have e:((rpA u B (l.take k)).1 ++ u.extract (rpA u B (l.take k)).2 fN) ++ JZ u m B=(rpA u B (l.take (k + 1))).1:=by rw [HNx.out]; unfold rpS; rw [hfN]; rfl
       rw [e] at hrunC hObC;exact ⟨aC,cC,wC,hrunC,hObC,(hkC.block P3 (lt_of_block b9B) (Zi hObB b9B (by decide))).trans b9B,(hkC.block P4 (lt_of_block bXB) (Zi hObB bXB (by decide))).trans bXB,kFB.trans' hkC (fun i hi e=>absurd (hObB.lt i e).1 (by omega))⟩
      have HN2:Hid ((rpA u B (l.take (k + 1))).2=tN):=(by show _ = _; rw [HNx.out]; unfold rpS; rw [htN]; rfl);have t0:wA.cell? ⟨P1,0,none⟩=some (.bool true):=by rw [Zc bTA]; rfl
      have t1:wA.cell? ⟨P1,1,none⟩=some (.int .i64 at_):=by rw [Zc bTA]; rfl
      have t2:wA.cell? ⟨P1,2,none⟩=some (.slice aT nB cT):=by rw [Zc bTA,<- HnB.out]; rfl
      have x0:wA.cell? ⟨P4,0,none⟩=some (.bool m.ok):=by rw [Zc bXA]; rfl
      have x1:wA.cell? ⟨P4,1,none⟩=some (.int .i64 (fN:Int)):=by rw [Zc bXA]; rfl
      have x2:wA.cell? ⟨P4,2,none⟩=some (.int .i64 (tN:Int)):=by rw [Zc bXA]; rfl
      have x3:wA.cell? ⟨P4,3,none⟩=some (.slice ax G cx):=by rw [Zc bXA]; rfl
      obtain ⟨nA,hnA⟩ :∃nA,((rpA u B (l.take k)).1 ++ u.extract (rpA u B (l.take k)).2 fN).size=nA:=⟨_,rfl⟩;rw [hnA] at hrunA HBB;obtain ⟨nC,hnC⟩ :∃nC,(rpA u B (l.take (k + 1))).1.size=nC:=⟨_,rfl⟩;rw [hnC] at HBB;obtain ⟨fT,hfT⟩ :∃fT,JZ u m B=fT:=⟨_,rfl⟩;rw [hfT] at hcall HBB;generalize (rpA u B (l.take k)).2=a9 at *;clear hOb9 hObA hT9 hTA hgr9 hgA bX9 bXA bT9 bTA b9 b9A kF9 kFA hkA hnA hnC hfT hszF hsz hE1;go_upto_region 20 with (at_builtin; refine Qn rfl _ _ _ _ _ rfl rfl (.slice av nv cv) _ _ _ rfl rfl hrunA ?_);clear hrunA hx1;go_upto_region 21 with (first
       | (go_at_call 30; refine hcall.mono ?_; rintro e wB ⟨rfl,hkB⟩; obtain ⟨aC,cC,wC,hrunC,hObC,bC3,bC4,kC⟩:=HBB.out wB hkB)
       | (at_builtin; refine Qn rfl _ _ _ _ _ rfl rfl (.slice aA nA cA) _ _ _ rfl rfl hrunC ?_))
      have x2C:wC.cell? ⟨P4,2,none⟩=some (.int .i64 (tN:Int)):=by rw [Zc bC4]; rfl
      have HR9:Hid (ObB wC w7.heap.size (.slice aC nC cC) (rpA u B (l.take (k + 1))).1/\wC.heap[P3]? = some (.cells #[.bool true,.string ⟨#[]⟩,.int .i64 ((k + 1:Nat):Int)] 28 (0,0))/\Za (fun b=>b=P3) w7 wC):=⟨hObC,by rw [show ((k + 1:Nat):Int)=(k:Int) + 1 by omega]; exact bC3,kC⟩;clear hObC bC3 bC4 kC hrunC hkB t0 t1 t2 x0 x1 x2 x3 hcall HBB;go_wp2_with fail;go_roundg (gk - 1)
      case measure=>have:=HGk.out; omega
      case rel=>exact ⟨k + 1,aC,nC,cC,by have:=HGk.out; omega,by omega,by omega,rfl,congrArg (Value.int .i64) (by rw [HN2.out]),congrArg (Value.int .i64) (by omega),HR9⟩
    ·have hz:¬ (k:Int) < (n7:Int):=by omega
     have hfin:(rpA u B (l.take k)).2<=u.size:=ZkJ _ _ _ (ZbH _ _ k HO.out) (Nat.zero_le _);obtain ⟨hObF,bFF,kFF⟩:=HR.out;have hsF:=HSz.out k;have hFv:l.take k=l.take most.toNat:=(by have:=HNl.out; rw [List.take_of_length_le (by omega),List.take_of_length_le (by omega)]);have HFv:Hid (rpT u B (l.take most.toNat)=(rpA u B (l.take k)).1 ++ u.extract (rpA u B (l.take k)).2 u.size/\min most.toNat l.length=k):=⟨by rw [<- hFv]; rfl,by have h5:=congrArg List.length hFv; rw [List.length_take,List.length_take] at h5; have:=HNl.out; omega⟩;generalize (rpA u B (l.take k)).1=oF at hObF hsF HFv;generalize (rpA u B (l.take k)).2=aF at hfin HFv;obtain ⟨aq,cq,wq,hrunF,hObq,hkq⟩:=Zfe hObF (Nat.le_trans (Nat.le_refl _) kFF.size) (u.extract aF u.size) (by have:(u.extract aF u.size).size<=200:=(by rw [ByteArray.size_extract]; omega); omega);have hcv:=Zmi hObq;have haz:(aF:Int)<=(u.size:Int):=by omega
     have bFq:=(hkq.block P3 (lt_of_block bFF) (Zi hObF bFF (by decide))).trans bFF;have hQ7:=HQ7.out;have bQF:=(kFF.block w.heap.size (lt_of_block hQ7) (by have:=HP3.out; omega)).trans hQ7;have bQq:=(hkq.block w.heap.size (lt_of_block bQF) (Zi hObF bQF (by decide))).trans bQF;have kq0:Za N0_ w wq:=(HKw7.out.trans' kFF (fun i hi e=>by have:=HP3.out; omega)).trans' hkq (fun i hi e=>by have:=(hObF.lt i e).1; have:=HKw7.out.size; omega);have e1:wq.cell? ⟨P3,1,none⟩=some (.string ⟨#[]⟩):=by rw [Zc bFq]; rfl
     have ef :∀i,wq.frozen? ⟨P3,i,none⟩=false:=fun i=>Zv bFq;have qf :∀i,wq.frozen? ⟨w.heap.size,i,none⟩=false:=fun i=>Zv bQq;obtain ⟨X,hX⟩ :∃X,oF ++ u.extract aF u.size=X:=⟨_,rfl⟩;obtain ⟨nq,hnq⟩ :∃nq,X.size=nq:=⟨_,rfl⟩;rw [hX] at hrunF hcv HFv;rw [hnq] at hrunF hcv;clear hObF hObq hfin hFv hsF hX hnq;go_upto_region 24 with (at_builtin; refine Qn rfl _ _ _ _ _ rfl rfl (.slice av nv cv) _ _ _ rfl rfl hrunF ?_);clear hrunF;go_upto_region 25 with fail;have bz:(wq.setCell ⟨P3,1,none⟩ (.string X)).heap[P3]? = some (.cells #[.bool true,.string X,.int .i64 (k:Int)] 28 (0,0)):=by rw [heap_setCell_same _ _ _ _ _ _ bFq]; rfl
     have kz:Za (fun b=>b=P3) wq (wq.setCell ⟨P3,1,none⟩ (.string X)):=(Za.refl (fun b=>b=P3) wq).setCell (a:=⟨P3,1,none⟩) (fun _=>rfl) _;have bQz:=(kz.block w.heap.size (lt_of_block bQq) (by have:=HP3.out; omega)).trans bQq;have HKz:Hid (Za N0_ w (wq.setCell ⟨P3,1,none⟩ (.string X))):=kq0.trans' kz (fun i hi e=>by have:=HP3.out; omega);generalize wq.setCell ⟨P3,1,none⟩ (.string X)=wz at bz bQz HKz ⊢;clear kz e1 ef qf bFq bQq kq0 hcv;have f0:wz.cell? ⟨P3,0,none⟩=some (.bool true):=by rw [Zc bz]; rfl
     have f1:wz.cell? ⟨P3,1,none⟩=some (.string X):=by rw [Zc bz]; rfl
     have f2:wz.cell? ⟨P3,2,none⟩=some (.int .i64 (k:Int)):=by rw [Zc bz]; rfl
     have q0:wz.cell? ⟨w.heap.size,0,none⟩=some (.bool false):=by rw [Zc bQz]; rfl
     have q1:wz.cell? ⟨w.heap.size,1,none⟩=some (.string ⟨#[]⟩):=by rw [Zc bQz]; rfl
     have q2:wz.cell? ⟨w.heap.size,2,none⟩=some (.int .i64 0):=by rw [Zc bQz]; rfl
     have qf :∀i,wz.frozen? ⟨w.heap.size,i,none⟩=false:=fun i=>Zv bQz;go_wp2_with fail;refine bodyPost_ret (v:=.agg #[.bool true,.string X,.int .i64 (k:Int)]) (by simp [results,Tryz.results11,go_sem,q0,q1,q2]) rfl ?_;have kW :∀(j:Nat) (v:Value) (wx:World),Za N0_ w wx->Za N0_ w (wx.setCell ⟨w.heap.size,j,none⟩ v):=fun j v wx h=>h.setCell (a:=⟨w.heap.size,j,none⟩) (fun h2=>absurd h2 (Nat.lt_irrefl _)) v;exact ⟨by unfold Zrv; simp only [HFv.out.1,HFv.out.2],kW _ _ _ (kW _ _ _ (kW _ _ _ HKz.out))⟩
def Zak:Value:=.agg #[.bool false,.string ⟨#[]⟩,.int .i64 0]
theorem ZgB {w:World} {s u t:ByteArray} {most at_:Int} {okv tb:Bool} (hno:okv=false\/tb=false\/most < 0)
  (hof :∀w,Calls Tryz.prog 16 #[.string s,.string u] w fun e w2 =>∃R,e = .returned (.tuple #[.pointer R,.bool okv])/\Za N0_ w w2)
  (htp :∀w,Calls Tryz.prog 29 #[.string t] w fun e w' =>∃(a:Option Addr) (n c:Nat),e = .returned (.agg #[.bool tb,.int .i64 at_,.slice a n c])/\Za N0_ w w') :
  Calls Tryz.prog 11 #[.string s,.string u,.string t,.int .i64 most] w fun e w'=>e = .returned Zak/\Za N0_ w w':=by
 have Htp:Hid _:=htp;clear htp;go_enter Tryz.func11,Tryz.ntmps11;have hof0:=hof (w.alloc (.cells #[.bool false,.string ⟨#[]⟩,.int .i64 0] 28));have kQ:Za N0_ w (w.alloc (.cells #[.bool false,.string ⟨#[]⟩,.int .i64 0] 28)):=(Za.refl _ _).alloc _;have bQ:(w.alloc (.cells #[.bool false,.string ⟨#[]⟩,.int .i64 0] 28)).heap[w.heap.size]? = some (.cells #[.bool false,.string ⟨#[]⟩,.int .i64 0] 28 (0,0)):=heap_alloc_new _ _;clear hof;go_upto_region 2 with (go_at_call 16; refine hof0.mono ?_; clear hof0; rintro e w2 ⟨R,rfl,hk2⟩);have bQ2:=(hk2.block _ (lt_of_block bQ) id).trans bQ;have hk02:=kQ.trans hk2;clear kQ hk2 bQ;have htp:=Htp.out w2;go_upto_region 3 with (go_at_call 29; refine htp.mono ?_; clear htp; rintro e w3 ⟨aT,nT,cT,rfl,hk3⟩);have kB:Za N0_ w3 (w3.alloc (.cells #[.bool tb,.int .i64 at_,.slice aT nT cT] 56)):=(Za.refl _ _).alloc _;have bB:(w3.alloc (.cells #[.bool tb,.int .i64 at_,.slice aT nT cT] 56)).heap[w3.heap.size]? = some (.cells #[.bool tb,.int .i64 at_,.slice aT nT cT] 56 (0,0)):=heap_alloc_new _ _;have hk24:=hk3.trans kB;clear kB hk3;generalize (w3.alloc (.cells #[.bool tb,.int .i64 at_,.slice aT nT cT] 56))=w4 at bB hk24 ⊢;generalize w3.heap.size=P1 at bB ⊢;have bQ4:=(hk24.block _ (lt_of_block bQ2) id).trans bQ2;have d0:w4.cell? ⟨P1,0,none⟩=some (.bool tb):=by rw [Zc bB]; rfl
 have HK:Hid (Za N0_ w w4):=hk02.trans hk24;have q0:w4.cell? ⟨w.heap.size,0,none⟩=some (.bool false):=by rw [Zc bQ4]; rfl
 have q1:w4.cell? ⟨w.heap.size,1,none⟩=some (.string ⟨#[]⟩):=by rw [Zc bQ4]; rfl
 have q2:w4.cell? ⟨w.heap.size,2,none⟩=some (.int .i64 0):=by rw [Zc bQ4]; rfl
 have qf :∀i,w4.frozen? ⟨w.heap.size,i,none⟩=false:=fun i=>Zv bQ4;clear bB bQ4 bQ2 hk24 hk02;have kW :∀(j:Nat) (v:Value) (wx:World),Za N0_ w wx->Za N0_ w (wx.setCell ⟨w.heap.size,j,none⟩ v):=fun j v wx h=>h.setCell (a:=⟨w.heap.size,j,none⟩) (fun h2=>absurd h2 (Nat.lt_irrefl _)) v;have HW:Hid _:=kW;clear kW
 cases okv with
 | false =>
   clear hno;go_wp2_with fail;refine bodyPost_ret (v:=Zak) (by simp [Zak,results,Tryz.results11,go_sem,q0,q1,q2]) rfl ?_;exact ⟨rfl,HW.out _ _ _ (HW.out _ _ _ (HW.out _ _ _ HK.out))⟩
 | true =>
   cases tb with
   | false =>
     clear hno;go_wp2_with fail;refine bodyPost_ret (v:=Zak) (by simp [Zak,results,Tryz.results11,go_sem,q0,q1,q2]) rfl ?_;exact ⟨rfl,HW.out _ _ _ (HW.out _ _ _ (HW.out _ _ _ HK.out))⟩
   | true =>
     have hm:most < 0:=by simpa using hno
     clear hno;go_wp2_with fail;refine bodyPost_ret (v:=Zak) (by simp [Zak,results,Tryz.results11,go_sem,q0,q1,q2]) rfl ?_;exact ⟨rfl,HW.out _ _ _ (HW.out _ _ _ (HW.out _ _ _ HK.out))⟩
theorem Znx {w:World} {s u t:ByteArray} {most:Int} {G:Nat} {B:List Bt} {at_:Int} {Mach:World->Nat->Prop}
  (hof :∀w,Calls Tryz.prog 16 #[.string s,.string u] w fun e w2 =>∃R,e = .returned (.tuple #[.pointer (some ⟨R,0,none⟩),.bool true])/\Mach w2 R/\Za N0_ w w2)
  (htp :∀w,Calls Tryz.prog 29 #[.string t] w fun e w' =>∃v,e = .returned (.agg #[.bool true,.int .i64 at_,v])/\BR w' w.heap.size v B/\Za N0_ w w')
  (hMk :∀w w' R,Mach w R->Za N0_ w w'->Mach w' R)
  (hMg :∀w R,Mach w R->w.cell? ⟨R,2,none⟩=some (.int .i64 (G:Int)))
  (hB:B.length<=100) (hBs :∃b∈B,(G:Int) < b.1) (hG:G<=9) (hm0:0<=most) :
  Calls Tryz.prog 11 #[.string s,.string u,.string t,.int .i64 most] w fun e w'=>e = .returned Zak/\Za N0_ w w':=by
 have HMk:Hid _:=hMk;have HMg:Hid _:=hMg;have Htp:Hid _:=htp;clear hMk hMg htp;go_enter Tryz.func11,Tryz.ntmps11;have hof0:=hof (w.alloc (.cells #[.bool false,.string ⟨#[]⟩,.int .i64 0] 28));have kQ:Za N0_ w (w.alloc (.cells #[.bool false,.string ⟨#[]⟩,.int .i64 0] 28)):=(Za.refl _ _).alloc _;have bQ:(w.alloc (.cells #[.bool false,.string ⟨#[]⟩,.int .i64 0] 28)).heap[w.heap.size]? = some (.cells #[.bool false,.string ⟨#[]⟩,.int .i64 0] 28 (0,0)):=heap_alloc_new _ _;clear hof;go_upto_region 2 with (go_at_call 16; refine hof0.mono ?_; clear hof0; rintro e w2 ⟨R,rfl,hM,hk2⟩);have bQ2:=(hk2.block _ (lt_of_block bQ) id).trans bQ;have hQlt:=lt_of_block bQ;have hk02:=kQ.trans hk2;clear kQ hk2 bQ hQlt;have htp:=Htp.out w2;go_upto_region 3 with (go_at_call 29; refine htp.mono ?_; clear htp; rintro e w3 ⟨tv,rfl,hT,hk3⟩; obtain ⟨aT,cT,hv⟩:=Zd hT; subst hv);have kB:Za N0_ w3 (w3.alloc (.cells #[.bool true,.int .i64 at_,.slice aT B.length cT] 56)):=(Za.refl _ _).alloc _;have bB:(w3.alloc (.cells #[.bool true,.int .i64 at_,.slice aT B.length cT] 56)).heap[w3.heap.size]? = some (.cells #[.bool true,.int .i64 at_,.slice aT B.length cT] 56 (0,0)):=heap_alloc_new _ _;have hP1:=hk3.size;have hk24:=hk3.trans kB;have hT4:=Zb hT kB (fun _ _ h=>h);clear hT kB hk3;generalize (w3.alloc (.cells #[.bool true,.int .i64 at_,.slice aT B.length cT] 56))=w4 at bB hk24 hT4 ⊢;generalize w3.heap.size=P1 at bB hP1 ⊢;have bQ4:=(hk24.block _ (lt_of_block bQ2) id).trans bQ2;have d0:w4.cell? ⟨P1,0,none⟩=some (.bool true):=by rw [Zc bB]; rfl
 have d2:w4.cell? ⟨P1,2,none⟩=some (.slice aT B.length cT):=by rw [Zc bB]; rfl
 have hmz:¬ most < 0:=by omega
 have HBs:Hid (∃b∈B,(G:Int) < b.1):=hBs;have HT4:Hid (BR w4 w2.heap.size (.slice aT B.length cT) B):=hT4;have HbB:Hid (w4.heap[P1]? = some (.cells #[.bool true,.int .i64 at_,.slice aT B.length cT] 56 (0,0))):=bB;have HbQ:Hid (w4.heap[w.heap.size]? = some (.cells #[.bool false,.string ⟨#[]⟩,.int .i64 0] 28 (0,0))):=bQ4;have HM:Hid (Mach w2 R):=hM;have Hk24:Hid (Za N0_ w2 w4):=hk24;have Hk02:Hid (Za N0_ w w2):=hk02;have hBz:(B.length:Int)<=100:=by omega
 clear bB bQ2 bQ4 hT4 hBs hM hk24 hk02;go_wp2_with fail;clear d0 d2;obtain ⟨nB,hnB⟩ :∃nB,B.length=nB:=⟨_,rfl⟩;have HnB:Hid (B.length=nB):=hnB;simp only [hnB] at hBz ⊢;clear hnB;go_loopg [42] (nB + 1) (fun gl s42 wr =>∃k:Nat,k + gl=nB + 1/\k<=nB/\s42 = .int .i64 (k:Int)/\Hid (∀b∈B.take k,b.1<=(G:Int))/\Hid (Za N0_ w4 wr))
 case atStart=>exact ⟨0,by omega,by omega,rfl,fun b hb=>by simp at hb,Za.refl _ _⟩
 case round =>
  obtain ⟨k,hgl,hk,rfl,HTk,HKr⟩:=hrel;have HGk:Hid (k + gk=nB + 1):=hgl;clear hgl
  by_cases hlt:k < nB
  ·have hkz:(k:Int) < (nB:Int):=by omega
   have hkB:k < B.length:=by have:=HnB.out; omega
   have hT:=Zb HT4.out HKr.out (fun _ _ h=>h);rw [HnB.out] at hT;obtain ⟨gT,rfl⟩ :∃gT,aT=some ⟨gT,0,none⟩:=by
    obtain ⟨n0,rfl⟩ :∃n0,nB=n0 + 1:=⟨nB - 1,by omega⟩;obtain ⟨g,cp,hv,-⟩:=ZQ hT
    cases hv
    exact ⟨g,rfl⟩
   obtain ⟨c1,c2⟩:=Jv B k B[k] (List.getElem?_eq_getElem hkB);have y1:=hT.cellAt (k * 2) (by omega);have y2:=hT.cellAt (k * 2 + 1) (by omega);rw [c1] at y1;rw [c2] at y2;have HNk:Hid (B[k].1<=(G:Int)->∀b∈B.take (k + 1),b.1<=(G:Int)):=fun h1 b hb=>by
    rw [List.take_succ_eq_append_getElem hkB] at hb
    rcases List.mem_append.1 hb with h2 | h2
    ·exact HTk.out b h2
    ·simp at h2; subst h2; exact h1
   generalize B[k]=b at y1 y2 HNk;obtain ⟨g,x⟩:=b;simp only at y1 y2;have kC:Za N0_ wr (wr.alloc (.cells #[.int .i64 g,.string x] 73)):=(Za.refl _ _).alloc _;have bC:(wr.alloc (.cells #[.int .i64 g,.string x] 73)).heap[wr.heap.size]? = some (.cells #[.int .i64 g,.string x] 73 (0,0)):=heap_alloc_new _ _;clear c1 c2 hT hkB;go_upto_region 8 with fail;have HK5:Hid (Za N0_ w4 (wr.alloc (.cells #[.int .i64 g,.string x] 73))):=HKr.out.trans kC;generalize (wr.alloc (.cells #[.int .i64 g,.string x] 73))=w5 at bC HK5 ⊢;generalize wr.heap.size=P2 at bC ⊢;have v0:w5.cell? ⟨P2,0,none⟩=some (.int .i64 g):=by rw [Zc bC]; rfl
   have vG:=HMg.out _ _ (HMk.out _ _ _ HM.out (Hk24.out.trans HK5.out));have bQ5:=(HK5.out.block _ (lt_of_block HbQ.out) id).trans HbQ.out;have q0 :∀n,(w5.drewN n).cell? ⟨w.heap.size,0,none⟩=some (.bool false):=fun n=>by show w5.cell? _ = _; rw [Zc bQ5]; rfl
   have q1 :∀n,(w5.drewN n).cell? ⟨w.heap.size,1,none⟩=some (.string ⟨#[]⟩):=fun n=>by show w5.cell? _ = _; rw [Zc bQ5]; rfl
   have q2 :∀n,(w5.drewN n).cell? ⟨w.heap.size,2,none⟩=some (.int .i64 0):=fun n=>by show w5.cell? _ = _; rw [Zc bQ5]; rfl
   have qf :∀n i,(w5.drewN n).frozen? ⟨w.heap.size,i,none⟩=false:=fun n i=>by show w5.frozen? _ = _; exact Zv bQ5
   clear y1 y2 bC kC HKr bQ5
   by_cases hgG:(G:Int) < g
   ·go_quiet (fail);go_wp2_with fail;refine bodyPost_ret (v:=Zak) (by simp [Zak,results,Tryz.results11,go_sem,q0,q1,q2]) rfl ?_;have kW :∀(j:Nat) (v:Value) (wx:World),Za N0_ w wx->Za N0_ w (wx.setCell ⟨w.heap.size,j,none⟩ v):=fun j v wx h=>h.setCell (a:=⟨w.heap.size,j,none⟩) (fun h2=>absurd h2 (Nat.lt_irrefl _)) v;exact ⟨rfl,kW _ _ _ (kW _ _ _ (kW _ _ _ (((Hk02.out.trans Hk24.out).trans HK5.out).drewN _)))⟩
   ·have HNk2:=HNk.out (by show g<=_; omega);have HNk3:Hid _:=HNk2;clear HNk HNk2 q0 q1 q2 qf;go_quiet (fail);go_wp2_with fail;go_roundg (gk - 1)
    case measure=>have:=HGk.out; omega
    case rel=>exact ⟨k + 1,by have:=HGk.out; omega,by omega,congrArg (Value.int .i64) (by omega),HNk3,HK5.out.drewN _⟩
  ·exfalso;obtain ⟨b,hb,hbG⟩:=HBs.out;have h1:=HTk.out b (by rw [List.take_of_length_le (by have:=HnB.out; omega)]; exact hb);omega
end Go.Proofs.YtfkflljplohhcaaGreatDoor
