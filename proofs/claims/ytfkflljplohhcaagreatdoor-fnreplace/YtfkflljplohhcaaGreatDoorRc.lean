import Derived.Test.YtfkflljplohhcaaGreatDoorRb
set_option linter.unusedVariables false
set_option maxHeartbeats 1000000
set_option maxRecDepth 100000
namespace Go.Proofs.YtfkflljplohhcaaGreatDoor
open Go.RowKit
def kV (u:ByteArray) (B:List Bt) (x:ByteArray×Nat) (m:Mt):ByteArray×Nat:=((x.1++u.extract x.2 m.fr.toNat)++JD u m B,m.up.toNat)
def cz (u:ByteArray) (B:List Bt) (l:List Mt):ByteArray×Nat:=l.foldl (kV u B) (ByteArray.empty,0)
def vz (u:ByteArray) (B:List Bt) (l:List Mt):ByteArray:=(cz u B l).1++u.extract (cz u B l).2 u.size
theorem TL(u:ByteArray)(B:List Bt)(l:List Mt)(m:Mt):cz u B (l++[m])=kV u B (cz u B l) m:=by simp[cz]
def lU (N:Nat):Nat->List Mt->Prop
 | _,[]=>True
 | p,m::l=>(p:Int)<=m.fr/\I7 N m/\lU N m.up.toNat l
variable {u s t:ByteArray}{B:List Bt}{w:World}{most at_:Int}{G:Nat}
theorem XW:∀(l1:List Mt) (m:Mt) (l2:List Mt) (p:Nat) (x:ByteArray×Nat),lU u.size p (l1++m::l2)->x.2<=p->((l1.foldl (kV u B) x).2:Int)<=m.fr/\I7 u.size m:=by
 intro l1
 induction l1 with
 | nil=>intro m l2 p x h hx;have:=h.1;exact⟨by simp only[List.foldl_nil];omega,h.2.1⟩
 | cons m1 l1 ih =>
   intro m l2 p x h hx;exact ih m l2 m1.up.toNat (kV u B x m1) h.2.2 (Nat.le_refl _)
theorem Ig:∀(l:List Mt) (p:Nat) (x:ByteArray×Nat),lU u.size p l->x.2<=u.size->(l.foldl (kV u B) x).2<=u.size:=by
 intro l
 induction l with
 | nil=>intro p x _ hx;exact hx
 | cons m l ih =>
   intro p x h hx;have h1:=h.2.1.2.2.1;have h2:=h.2.1.1;exact ih m.up.toNat (kV u B x m) h.2.2 (by show m.up.toNat<=_;omega)
theorem Mw{N:Nat}:∀(l:List Mt) (p k:Nat),lU N p l->lU N p (l.take k):=by
 intro l
 induction l with
 | nil=>intro p k _;simp[lU]
 | cons m l ih =>
   intro p k h
   cases k with
   | zero=>trivial
   | succ k=>exact⟨h.1,h.2.1,ih _ _ h.2.2⟩
theorem TK(hu:u.size<=200)(hB:B.length<=100)(uH:∀b∈B,b.2.size<=100):∀(l:List Mt),(cz u B l).1.size<=20200*l.length:=by
 intro l;refine IA (M:=fun l=>(cz u B l).1.size<=20200*l.length) (Nat.zero_le _) ?_ l;intro l m ih;have h1:=Mo (m:=m) hu B uH;rw[TL,List.length_append];simp only[kV,ByteArray.size_append,ByteArray.size_extract,List.length_cons,List.length_nil];omega
def BD (r:Bool×ByteArray×Nat):Value:=.agg #[.bool r.1,.string r.2.1,.int .i64 (r.2.2:Int)]
theorem MG(L:List Mm)(j i:Nat)(hj:j<L.length)(hi:i<4):(L.flatMap Jx)[j*4+i]?=(Jx (L[j]'hj))[i]?:=by
 induction L generalizing j with
 | nil=>simp at hj
 | cons x L ih =>
   cases j with
   | zero =>
     rw[List.flatMap_cons,List.getElem?_append_left (by simp[Jx];omega)];simp
   | succ j =>
     have:=ih j (by simpa using hj)
     rw[List.flatMap_cons,List.getElem?_append_right (by simp[Jx];omega)];have e:(j+1)*4+i-(Jx x).length=j*4+i:=by simp[Jx];omega
     rw[e,this];simp
theorem kg.uK{g cap:Nat}{L:List Mm}(h:kg w (.slice (some ⟨g,0,none⟩) L.length cap) L){j:Nat}(hj:j<L.length):
  w.cell? ⟨g,j*4,none⟩=some (.bool (L[j]'hj).1.ok)/\w.cell? ⟨g,j*4+1,none⟩=some (.int .i64 (L[j]'hj).1.fr)/\w.cell? ⟨g,j*4+2,none⟩=some (.int .i64 (L[j]'hj).1.up)/\w.cell? ⟨g,j*4+3,none⟩=some (L[j]'hj).2:=by
 have hc:=h.row.cellAt;refine⟨?_,?_,?_,?_⟩
 ·have e:=hc (j*4) (by omega);rw[e];exact MG L j 0 hj (by omega)
 ·rw[hc (j*4+1) (by omega)];exact MG L j 1 hj (by omega)
 ·rw[hc (j*4+2) (by omega)];exact MG L j 2 hj (by omega)
 ·rw[hc (j*4+3) (by omega)];exact MG L j 3 hj (by omega)
theorem ZtZ(l:List UInt8)(r:ByteArray):(l.map fun c=>(c.toNat:Int)).foldl (fun r n=>r.push (UInt8.ofNat n.toNat)) r=r++⟨l.toArray⟩:=by
 induction l generalizing r with
 | nil=>apply ByteArray.ext;simp
 | cons c l ih =>
   rw[List.map_cons,List.foldl_cons,ih];apply ByteArray.ext;simp
theorem Sg{base:Nat}{v:Value}{b:ByteArray}(h:fO w base v b):Sem.run Tryz.prog (convert 22 9 v) w=.ok (.string b) w:=by
 have h':=h;obtain⟨_,⟨rfl,hl⟩ | ⟨g,cap,cur,rfl,_⟩⟩:=h
 ·rw[run_convert_bytes_string _ 22 9 5 _ _ _ Tryz.underlying22 Tryz.underlying5 Tryz.underlying9];have hb:b=ByteArray.empty:=by
   apply ByteArray.ext;apply Array.eq_empty_of_size_eq_zero;exact hl
  rw[hb];rfl
 ·rw[run_convert_bytes_string _ 22 9 5 _ _ _ Tryz.underlying22 Tryz.underlying5 Tryz.underlying9];rw[run_bytesToString _ _ _ _ (b.data.toList.map fun c=>(c.toNat:Int))]
  ·rw[ZtZ]
   congr 2
  ·have h2:=run_loadCells_list (P:=Tryz.prog) w (ak g) (Lib.strCells b) (h'.cells rfl);have e:(Lib.strCells b)=List.map (Value.int IntKind.u8) (b.data.toList.map fun c=>(c.toNat:Int)):=by simp[Lib.strCells]
   rw[Lib.strCells_length] at h2;rw[<- e];exact h2
theorem ZoC{l:List Mt}{Mach:World->Nat->(Nat->Prop)->Prop}
  (hof:∀w,au 16 #[.string s,.string u] w fun e w2 =>∃R E,e=.returned (.tuple #[ae R,.bool true])/\Mach w2 R E/\(∀k,E k->w.heap.size<=k/\k<w2.heap.size)/\Za ai w w2)
  (htp:∀w,au 29 #[.string t] w fun e w' =>∃v,e=.returned (.agg #[.bool true,.int .i64 at_,v])/\BR w' w.heap.size v B/\Za ai w w')
  (GU:∀w w' R E,Mach w R E->Za ai w w'->Mach w' R E)
  (GV:∀w R E,Mach w R E->w.cell? ⟨R,2,none⟩=some (.int .i64 (G:Int)))
  (hal:∀w R E,Mach w R E->au 17 #[ae R] w fun e w' =>∃(ao:Option Addr) (n c:Nat) (L:List Mm),e=.returned (.slice ao n c)/\L.map (·.1)=l/\kg w' (.slice ao n c) L/\Za E w w')
  (hu:u.size<=200) (hl:l.length<=300) (hO:lU u.size 0 l) (hgl:∀m∈l,m.gs.length=G) (hG:G<=9) (hB:B.length<=100) (uH:∀b∈B,b.2.size<=100/\b.1<=(G:Int)) (hm0:0<=most) (hm1:most<=9223372036854775807) :
  au 11 #[.string s,.string u,.string t,.int .i64 most] w fun e w'=>e=.returned (BD (true,vz u B (l.take most.toNat),(l.take most.toNat).length))/\Za ai w w':=by
 have M8:Hid _:=GU;have U5:Hid _:=GV;have Hal:Hid _:=hal;have I8:Hid _:=htp;clear GU GV hal htp;go_enter Tryz.func11,Tryz.ntmps11;have mP:=hof (w.alloc (.cells #[.bool false,.string ⟨#[]⟩,.int .i64 0] 28));have kQ:Za ai w (w.alloc (.cells #[.bool false,.string ⟨#[]⟩,.int .i64 0] 28)):=QT;have bQ:(w.alloc (.cells #[.bool false,.string ⟨#[]⟩,.int .i64 0] 28)).heap[w.heap.size]?=some (.cells #[.bool false,.string ⟨#[]⟩,.int .i64 0] 28 (0,0)):=heap_alloc_new _ _;clear hof;go_upto_region 2 with(go_at_call 16;refine mP.mono ?_;clear mP;rintro e w2 ⟨R,E,rfl,hM,hE,hk2⟩);have pE:=(hk2.block _ (lt_of_block bQ) id).trans bQ;have AZ:=lt_of_block bQ;have HE:Hid (∀k,E k->w.heap.size<k/\k<w2.heap.size):=fun k hk=>by have:=hE k hk;omega
 have mW:=kQ.trans hk2;clear kQ hk2 hE bQ AZ;have htp:=I8.out w2;go_upto_region 3 with(go_at_call 29;refine htp.mono ?_;clear htp;rintro e w3 ⟨tv,rfl,hT,hk3⟩;obtain⟨aT,cT,hv⟩:=aj hT;subst hv);have kB:Za ai w3 (w3.alloc (.cells #[.bool true,.int .i64 at_,.slice aT B.length cT] 56)):=QT;have bB:(w3.alloc (.cells #[.bool true,.int .i64 at_,.slice aT B.length cT] 56)).heap[w3.heap.size]?=some (.cells #[.bool true,.int .i64 at_,.slice aT B.length cT] 56 (0,0)):=heap_alloc_new _ _;have hP1:=hk3.size;have iw:=hk3.trans kB;have fw:=Zb hT kB (fun _ _ h=>h);clear hT kB hk3;generalize (w3.alloc (.cells #[.bool true,.int .i64 at_,.slice aT B.length cT] 56))=w4 at bB iw fw ⊢;generalize w3.heap.size=P1 at bB hP1 ⊢;have nk:=(iw.block _ (lt_of_block pE) id).trans pE;have d0:w4.cell? (ak P1)=some (.bool true):=by rw[Zc bB];rfl
 have d2:w4.cell? ⟨P1,2,none⟩=some (.slice aT B.length cT):=by rw[Zc bB];rfl
 have hmz:¬most<0:=by omega
 have Co:Hid (∀b∈B,b.2.size<=100/\b.1<=(G:Int)):=uH;have M0:Hid (BR w4 w2.heap.size (.slice aT B.length cT) B):=fw;have HbB:Hid (w4.heap[P1]?=some (.cells #[.bool true,.int .i64 at_,.slice aT B.length cT] 56 (0,0))):=bB;have I9:Hid (w4.heap[w.heap.size]?=some (.cells #[.bool false,.string ⟨#[]⟩,.int .i64 0] 28 (0,0))):=nk;have HM:Hid (Mach w2 R E):=hM;have pQ:Hid (Za ai w2 w4):=iw;have pR:Hid (Za ai w w2):=mW;have Ru:(B.length:Int)<=100:=by omega
 clear bB pE nk fw uH hM iw mW;go_wp2_with fail;clear d0 d2;obtain⟨nB,iU⟩:∃nB,B.length=nB:=⟨_,rfl⟩;have zK:Hid (B.length=nB):=iU;simp only[iU] at Ru ⊢;clear iU;go_loopg [42] (nB+1) (fun gl ND wr =>∃k:Nat,k+gl=nB+1/\k<=nB/\ND=.int .i64 (k:Int)/\Hid (Za ai w4 wr))
 case atStart=>exact⟨0,by omega,by omega,rfl,Za.refl _ _⟩
 case round =>
  obtain⟨k,hgl,hk,rfl,pV⟩:=hrel;have jN:Hid (k+gk=nB+1):=hgl;clear hgl
  by_cases hlt:k<nB
  ·have hkz:(k:Int)<(nB:Int):=by omega
   have hkB:k<B.length:=by have:=zK.out;omega
   have hT:=Zb M0.out pV.out (fun _ _ h=>h);rw[zK.out] at hT;obtain⟨gT,rfl⟩:∃gT,aT=some ⟨gT,0,none⟩:=by
    obtain⟨n0,rfl⟩:∃n0,nB=n0+1:=⟨nB-1,by omega⟩;obtain⟨g,cp,hv,-⟩:=ZM hT
    cases hv
    exact⟨g,rfl⟩
   obtain⟨c1,c2⟩:=Jy B k B[k] (List.getElem?_eq_getElem hkB);have y1:=hT.cellAt (k*2) (by omega);have y2:=hT.cellAt (k*2+1) (by omega);rw[c1] at y1;rw[c2] at y2;have hbg:=(Co.out B[k] (List.getElem_mem hkB)).2;generalize B[k]=b at y1 y2 hbg;obtain⟨g,x⟩:=b;simp only at y1 y2 hbg;have kC:Za ai wr (wr.alloc (.cells #[.int .i64 g,.string x] 73)):=QT;have bC:(wr.alloc (.cells #[.int .i64 g,.string x] 73)).heap[wr.heap.size]?=some (.cells #[.int .i64 g,.string x] 73 (0,0)):=heap_alloc_new _ _;clear c1 c2 hT hkB;go_upto_region 8 with fail;have nK:Hid (Za ai w4 (wr.alloc (.cells #[.int .i64 g,.string x] 73))):=pV.out.trans kC;generalize (wr.alloc (.cells #[.int .i64 g,.string x] 73))=w5 at bC nK ⊢;generalize wr.heap.size=P2 at bC ⊢;have v0:w5.cell? (ak P2)=some (.int .i64 g):=by rw[Zc bC];rfl
   have vG:=U5.out _ _ _ (M8.out _ _ _ _ HM.out (pQ.out.trans nK.out));have yQ:¬(G:Int)<g:=by omega
   clear y1 y2 bC kC pV;go_quiet (fail);go_wp2_with fail;go_roundg (gk-1)
   case measure=>have:=jN.out;omega
   case rel=>exact⟨k+1,by have:=jN.out;omega,by omega,congrArg (Value.int .i64) (by omega),nK.out.drewN _⟩
  ·have hkz:¬(k:Int)<(nB:Int):=by omega
   obtain⟨wb,rfl⟩:∃wb:World,wb=wr:=⟨_,rfl⟩;have kD:Za ai w4 (wb.alloc (.cells #[.bool true,.string ⟨#[]⟩,.int .i64 0] 28)):=pV.out.alloc _;have bD:(wb.alloc (.cells #[.bool true,.string ⟨#[]⟩,.int .i64 0] 28)).heap[wb.heap.size]?=some (.cells #[.bool true,.string ⟨#[]⟩,.int .i64 0] 28 (0,0)):=heap_alloc_new _ _;have hbs:=pV.out.size;go_upto_region 12 with fail;have hal:=Hal.out _ R E (M8.out _ _ _ _ HM.out (pQ.out.trans kD));have Kj:Hid (∀k,E k->w.heap.size<k/\k<w2.heap.size):=HE.out;generalize (wb.alloc (.cells #[.bool true,.string ⟨#[]⟩,.int .i64 0] 28))=w6 at kD bD hal ⊢;obtain⟨P3,hP3⟩:∃P3,wb.heap.size=P3:=⟨_,rfl⟩;rw[hP3] at bD ⊢;have Gl:=pQ.out.size;have vZ:Hid (w.heap.size<P3/\w2.heap.size<=P3):=⟨by have:=pR.out.size;have:=lt_of_block I9.out;omega,by omega⟩;clear hP3;go_wp2_with(go_at_call 17;refine hal.mono ?_;clear hal;rintro e w7 ⟨a7,n7,c7,L7,rfl,hL7,PY,iq⟩);have K9:=(iq.block P3 (lt_of_block bD) (fun h=>by have:=(Kj.out _ h).2;have:=vZ.out.2;omega)).trans bD;have hb1:=HbB.out;have RP:=(kD.block P1 (lt_of_block hb1) id).trans hb1;have RO:=(iq.block P1 (lt_of_block RP) (fun h=>by have:=(Kj.out _ h).2;omega)).trans RP;have CY:=Zb M0.out kD (fun _ _ h=>h);have Wz:=Zb CY iq (fun b hb h=>by have:=(Kj.out _ h).2;have:=(CY.lt b hb).1;omega);have hq4:=I9.out;have RS:=(kD.block _ (lt_of_block hq4) id).trans hq4;have HQ7:Hid (w7.heap[w.heap.size]?=some (.cells #[.bool false,.string ⟨#[]⟩,.int .i64 0] 28 (0,0))):=(iq.block _ (lt_of_block RS) (fun h=>by have:=(Kj.out _ h).1;omega)).trans RS;have yw:Hid (Za ai w w7):=((pR.out.trans pQ.out).trans kD).trans' iq (fun i hi h=>by have:=(Kj.out _ h).1;omega);have V4:n7=l.length:=by
    obtain⟨a',c',hv⟩:=aj PY.row
    cases hv
    rw[<- hL7,List.length_map]
   have Ev:Hid (n7=l.length):=V4;have HT7:Hid (BR w7 w2.heap.size (.slice aT B.length cT) B):=Wz;have HM7:Hid (kg w7 (.slice a7 n7 c7) L7):=PY;have Nh:Hid (L7.map (·.1)=l):=hL7;have HbT:Hid (w7.heap[P1]?=some (.cells #[.bool true,.int .i64 at_,.slice aT B.length cT] 56 (0,0))):=RO;have HO:Hid (lU u.size 0 l):=hO;have HbD:Hid (w7.heap[P3]?=some (.cells #[.bool true,.string ⟨#[]⟩,.int .i64 0] 28 (0,0))):=K9;have Hgl:Hid (∀m∈l,m.gs.length=G):=hgl;have Kc:Hid (∀k,(cz u B (l.take k)).1.size<=10000000):=fun k=>by
    have h1:=TK hu hB (fun b hb=>(Co.out b hb).1) (l.take k);rw[List.length_take] at h1;omega
   have PQ:P1≠P3:=by
    intro e;have h1:=RO;rw[e,K9] at h1;simp at h1
   have vD:(n7:Int)<=300:=by omega
   clear hb1 RP RO CY Wz hq4 RS iq V4 PY hL7 hO hgl kD bD pV hbs Gl jN hk hlt hkz;go_loopg [15,16,60] (n7+1) (fun gl s15 s16 Nz wr =>∃(k:Nat) (av:Option Addr) (nv cv:Nat),k+gl=n7+1/\k<=n7/\(k:Int)<=most/\s15=.slice av nv cv/\s16=.int .i64 ((cz u B (l.take k)).2:Int)/\Nz=.int .i64 (k:Int)/\Hid (fO wr w7.heap.size (.slice av nv cv) (cz u B (l.take k)).1/\wr.heap[P3]?=some (.cells #[.bool true,.string ⟨#[]⟩,.int .i64 (k:Int)] 28 (0,0))/\Za (·=P3) w7 wr))
   case atStart=>exact⟨0,none,0,0,by omega,by omega,hm0,rfl,rfl,rfl,World.ownsRow_nil _ _ _ _,K9,Za.refl _ _⟩
   case round =>
    clear K9;obtain⟨k,av,nv,cv,hgl,hk,hkm,rfl,rfl,rfl,HR⟩:=hrel;have jN:Hid (k+gk=n7+1):=hgl;clear hgl
    by_cases hlt:k<n7
    ·have hz:(k:Int)<(n7:Int):=by omega
     have hkl:k<l.length:=by have:=Ev.out;omega
     have vE:k<L7.length:=by have:=Nh.out;rw[<- this,List.length_map] at hkl;exact hkl
     obtain⟨hOb,bF,kF⟩:=HR.out;have hP3:=vZ.out;have h2:∀{e:TypeId} {sz nn:Nat} {v:Value} {xs:List Value},w7.ownsRow 0 e sz v nn xs->e≠28->wr.ownsRow 0 e sz v nn xs:=fun h he=>Zb h kF (fun i hi e=>by subst e;exact Zi h HbD.out he hi);have hM:kg wr (.slice a7 n7 c7) L7:=⟨h2 HM7.out.row (by decide),fun x hx=>h2 (HM7.out.rows x hx) (by decide)⟩;obtain⟨gm,rfl⟩:∃gm,a7=some ⟨gm,0,none⟩:=by
      obtain⟨n0,rfl⟩:∃n0,n7=n0+1:=⟨n7-1,by omega⟩;have hlen:L7.length=n0+1:=by have:=Ev.out;rw[this,<- Nh.out,List.length_map]
      have h3:=hM.row;rw[hlen] at h3;obtain⟨g,cp,hv,-⟩:=ZM h3
      cases hv
      exact⟨g,rfl⟩
     have hlen:L7.length=n7:=by have:=Ev.out;rw[this,<- Nh.out,List.length_map]
     have hM':=hM;rw[<- hlen] at hM';obtain⟨m0,m1,m2,m3⟩:=kg.uK hM' vE;have hgr:=hM'.rows _ (List.getElem_mem vE);obtain⟨ax,cx,hxv⟩:=aj hgr;have hmk:l[k]'hkl=(L7[k]'vE).1:=by
      have h1:l[k]?=(L7.map (·.1))[k]?:=by rw[Nh.out]
      simpa [hkl,vE] using h1
     have hsp:l.take k++(L7[k]'vE).1::l.drop (k+1)=l:=by rw[<- hmk,<- List.drop_eq_getElem_cons hkl,List.take_append_drop]
     obtain⟨hle,hin⟩:=XW (u:=u) (B:=B) (l.take k) (L7[k]'vE).1 (l.drop (k+1)) 0 (ByteArray.empty,0) (by rw[hsp];exact HO.out) (Nat.le_refl _);change ((cz u B (l.take k)).2:Int)<=(L7[k]'vE).1.fr at hle;have yQ:=Hgl.out _ (List.getElem_mem hkl);have uX:Hid (cz u B (l.take (k+1))=kV u B (cz u B (l.take k)) (L7[k]'vE).1):=(by show _ = _;rw[List.take_succ_eq_append_getElem hkl,TL,hmk]);rw[hmk] at yQ;rw[hxv] at m3 hgr;generalize (L7[k]'vE).1=m at m0 m1 m2 m3 hgr hle hin yQ uX;obtain⟨i1,i2,i3,-,-⟩:=id hin;have G7:=hin;obtain⟨fN,oV⟩:∃fN:Nat,m.fr=(fN:Int):=⟨m.fr.toNat,by omega⟩;obtain⟨tN,oK⟩:∃tN:Nat,m.up=(tN:Int):=⟨m.up.toNat,by omega⟩;rw[oV] at m1 hle;rw[oK] at m2;rw[yQ] at m3;have kX:Za ai wr (wr.alloc (.cells #[.bool m.ok,.int .i64 (fN:Int),.int .i64 (tN:Int),.slice ax G cx] 38)):=QT;have bX:(wr.alloc (.cells #[.bool m.ok,.int .i64 (fN:Int),.int .i64 (tN:Int),.slice ax G cx] 38)).heap[wr.heap.size]?=some (.cells #[.bool m.ok,.int .i64 (fN:Int),.int .i64 (tN:Int),.slice ax G cx] 38 (0,0)):=heap_alloc_new _ _;have qX:fO (wr.alloc (.cells #[.bool m.ok,.int .i64 (fN:Int),.int .i64 (tN:Int),.slice ax G cx] 38)) w7.heap.size (.slice av nv cv) (cz u B (l.take k)).1:=Zb hOb kX (fun _ _ h=>h);have xP:=(kX.block P3 (lt_of_block bF) id).trans bF;have EW:Za (·=P3) w7 (wr.alloc (.cells #[.bool m.ok,.int .i64 (fN:Int),.int .i64 (tN:Int),.slice ax G cx] 38)):=kF.trans (kX.mono (fun _ _ h=>h.elim));have uo:=Zb hgr kX (fun _ _ h=>h);have dS:wr.heap.size≠P3:=by have:=lt_of_block bF;omega
     clear hM hM' hlen hmk hsp hxv vE hkl hOb bF kF hgr h2;go_upto_region 17 with fail;clear m0 m1 m2 m3 kX;generalize (wr.alloc (.cells #[.bool m.ok,.int .i64 (fN:Int),.int .i64 (tN:Int),.slice ax G cx] 38))=w8 at bX qX xP EW uo ⊢;generalize wr.heap.size=P4 at bX dS ⊢;have g2:w8.cell? ⟨P3,2,none⟩=some (.int .i64 (k:Int)):=by rw[Zc xP];rfl
     have gf:∀i,w8.frozen? ⟨P3,i,none⟩=false:=fun i=>Zv xP
     by_cases Gj:(k:Int)=most
     ·have HR8:Hid (fO w8 w7.heap.size (.slice av nv cv) (cz u B (l.take k)).1/\w8.heap[P3]?=some (.cells #[.bool true,.string ⟨#[]⟩,.int .i64 (k:Int)] 28 (0,0))/\Za (·=P3) w7 w8):=⟨qX,xP,EW⟩;have heq:((k:Int) == most)=true:=by simp;omega
      have Va:Hid ((k:Int)=most):=Gj;clear Gj;clear qX xP EW uo bX yQ uX hle hin i1 i2 i3 G7;have hfin:(cz u B (l.take k)).2<=u.size:=Ig _ _ _ (Mw _ _ k HO.out) (Nat.zero_le _);obtain⟨iI,Br,zW⟩:=HR8.out;have CG:=Kc.out k;have Ba:l.take k=l.take most.toNat:=(by rw[show most.toNat=k by have:=Va.out;omega]);have uY:Hid (vz u B (l.take most.toNat)=(cz u B (l.take k)).1++u.extract (cz u B (l.take k)).2 u.size/\min most.toNat l.length=k):=⟨by rw[<- Ba];rfl,by have h5:=congrArg List.length Ba;rw[List.length_take,List.length_take] at h5;have:=Ev.out;omega⟩;generalize (cz u B (l.take k)).1=oF at iI CG uY;generalize (cz u B (l.take k)).2=aF at hfin uY;obtain⟨aq,cq,wq,dQ,mY,hkq⟩:=xY iI (Nat.le_trans (Nat.le_refl _) zW.size) (u.extract aF u.size) (by have:(u.extract aF u.size).size<=200:=(by rw[ByteArray.size_extract];omega);omega);have hcv:=Sg mY;have haz:(aF:Int)<=(u.size:Int):=by omega
      have xO:=(hkq.block P3 (lt_of_block Br) (Zi iI Br (by decide))).trans Br;have GK:=HQ7.out;have Bp:=(zW.block w.heap.size (lt_of_block GK) (by have:=vZ.out;omega)).trans GK;have nW:=(hkq.block w.heap.size (lt_of_block Bp) (Zi iI Bp (by decide))).trans Bp;have ES:Za ai w wq:=(yw.out.trans' zW (fun i hi e=>by have:=vZ.out;omega)).trans' hkq (fun i hi e=>by have:=(iI.lt i e).1;have:=yw.out.size;omega);have e1:wq.cell? ⟨P3,1,none⟩=some (.string ⟨#[]⟩):=by rw[Zc xO];rfl
      have ef:∀i,wq.frozen? ⟨P3,i,none⟩=false:=fun i=>Zv xO;have qf:∀i,wq.frozen? ⟨w.heap.size,i,none⟩=false:=fun i=>Zv nW;obtain⟨X,hX⟩:∃X,oF++u.extract aF u.size=X:=⟨_,rfl⟩;obtain⟨nq,hnq⟩:∃nq,X.size=nq:=⟨_,rfl⟩;rw[hX] at dQ hcv uY;rw[hnq] at dQ hcv;clear iI mY hfin Ba CG hX hnq;go_upto_region 24 with(at_builtin;refine Qo rfl _ _ _ _ _ rfl rfl (.slice av nv cv) _ _ _ rfl rfl dQ ?_);clear dQ;go_upto_region 25 with fail;have bz:(wq.setCell ⟨P3,1,none⟩ (.string X)).heap[P3]?=some (.cells #[.bool true,.string X,.int .i64 (k:Int)] 28 (0,0)):=by rw[heap_setCell_same _ _ _ _ _ _ xO];rfl
      have kz:Za (·=P3) wq (wq.setCell ⟨P3,1,none⟩ (.string X)):=(Za.refl (·=P3) wq).setCell (a:=⟨P3,1,none⟩) (fun _=>rfl) _;have uN:=(kz.block w.heap.size (lt_of_block nW) (by have:=vZ.out;omega)).trans nW;have Kh:Hid (Za ai w (wq.setCell ⟨P3,1,none⟩ (.string X))):=ES.trans' kz (fun i hi e=>by have:=vZ.out;omega);generalize wq.setCell ⟨P3,1,none⟩ (.string X)=wz at bz uN Kh ⊢;clear kz e1 ef qf xO nW ES hcv;have f0:wz.cell? (ak P3)=some (.bool true):=by rw[Zc bz];rfl
      have f1:wz.cell? ⟨P3,1,none⟩=some (.string X):=by rw[Zc bz];rfl
      have f2:wz.cell? ⟨P3,2,none⟩=some (.int .i64 (k:Int)):=by rw[Zc bz];rfl
      have q0:wz.cell? (ak w.heap.size)=some (.bool false):=by rw[Zc uN];rfl
      have q1:wz.cell? ⟨w.heap.size,1,none⟩=some (.string ⟨#[]⟩):=by rw[Zc uN];rfl
      have q2:wz.cell? ⟨w.heap.size,2,none⟩=some (.int .i64 0):=by rw[Zc uN];rfl
      have qf:∀i,wz.frozen? ⟨w.heap.size,i,none⟩=false:=fun i=>Zv uN;go_wp2_with fail;refine bodyPost_ret (v:=.agg #[.bool true,.string X,.int .i64 (k:Int)]) (by simp[results,Tryz.results11,go_sem,q0,q1,q2]) rfl ?_;have kW:∀(j:Nat) (v:Value) (wx:World),Za ai w wx->Za ai w (wx.setCell ⟨w.heap.size,j,none⟩ v):=fun j v wx h=>h.setCell (a:=⟨w.heap.size,j,none⟩) (fun h2=>absurd h2 (Nat.lt_irrefl _)) v;exact⟨by unfold BD;simp only[uY.out.1,List.length_take,uY.out.2],kW _ _ _ (kW _ _ _ (kW _ _ _ Kh.out))⟩
     ·have heq:((k:Int) == most)=false:=by simp;omega
      have xau:(k:Int)+1<=301:=by omega
      have xaw:(k:Int)+1<=most:=by omega
      go_upto_region 19 with fail
      have b9:(w8.setCell ⟨P3,2,none⟩ (.int .i64 ((k:Int)+1))).heap[P3]?=some (.cells #[.bool true,.string ⟨#[]⟩,.int .i64 ((k:Int)+1)] 28 (0,0)):=by rw[heap_setCell_same _ _ _ _ _ _ xP];rfl
      have kS:Za (·=P3) w8 (w8.setCell ⟨P3,2,none⟩ (.int .i64 ((k:Int)+1))):=(Za.refl (·=P3) w8).setCell (a:=⟨P3,2,none⟩) (fun _=>rfl) _;have CB:=EW.trans kS;have lJ:fO (w8.setCell ⟨P3,2,none⟩ (.int .i64 ((k:Int)+1))) w7.heap.size (.slice av nv cv) (cz u B (l.take k)).1:=Zb qX kS (fun i hi e=>by subst e;exact Zi qX xP (by decide) hi);have xu:=Zb uo kS (fun i hi e=>by subst e;exact Zi uo xP (by decide) hi);have vM:=(kS.block P4 (lt_of_block bX) dS).trans bX;clear g2 gf xP EW qX uo bX kS;generalize w8.setCell ⟨P3,2,none⟩ (.int .i64 ((k:Int)+1))=w9 at b9 CB lJ xu vM ⊢;have K6:=(CB.block P1 (lt_of_block HbT.out) PQ).trans HbT.out;have CX:=Zb HT7.out CB (fun i hi e=>by subst e;exact Zi HT7.out HbD.out (by decide) hi);have hsz:=Kc.out k;have hE1:(u.extract (cz u B (l.take k)).2 fN).size<=200:=by rw[ByteArray.size_extract];omega
      obtain⟨aA,cA,wA,hrunA,iy,iH⟩:=xY lJ CB.size (u.extract (cz u B (l.take k)).2 fN) (by omega);have hx1:w9.cell? ⟨P4,1,none⟩=some (.int .i64 (fN:Int)):=by rw[Zc vM];rfl
      have haz:((cz u B (l.take k)).2:Int)<=(fN:Int):=hle;have hfz:(fN:Int)<=(u.size:Int):=by omega
      have Bn:=(iH.block P4 (lt_of_block vM) (Zi lJ vM (by decide))).trans vM;have K5:=(iH.block P1 (lt_of_block K6) (Zi lJ K6 (by decide))).trans K6;have R4:=(iH.block P3 (lt_of_block b9) (Zi lJ b9 (by decide))).trans b9;have Wy:BR wA w2.heap.size (.slice aT B.length cT) B:=Zb CX iH (fun i hi e=>by obtain⟨c1,g1⟩:=Zx CX hi;exact Zi lJ g1 (by decide) e);have hgA:rJ wA (.slice ax m.gs.length cx) m.gs:=Zb xu iH (fun i hi e=>by obtain⟨c1,g1⟩:=Zx xu hi;exact Zi lJ g1 (by decide) e);have VG:Za (·=P3) w7 wA:=CB.trans' iH (fun i hi e=>absurd (lJ.lt i e).1 (by omega));have hcall:=Zj7 (ok:=true) (at_:=at_) Wy hgA G7 hu hB (fun b hb=>⟨(Co.out b hb).1,by rw[yQ];exact(Co.out b hb).2⟩);rw[zK.out,oV,oK,yQ] at hcall;have Oq:=Mo (m:=m) hu B (fun b hb=>(Co.out b hb).1);have Cq:Hid (∀wB,Za ai wA wB->∃ao c w',Sem.run Tryz.prog (Builtin.append_ #[22,9] 22 #[.slice aA ((cz u B (l.take k)).1++u.extract (cz u B (l.take k)).2 fN).size cA,.string (JD u m B)]) wB=.ok (.slice ao (cz u B (l.take (k+1))).1.size c) w'/\fO w' w7.heap.size (.slice ao (cz u B (l.take (k+1))).1.size c) (cz u B (l.take (k+1))).1/\w'.heap[P3]?=some (.cells #[.bool true,.string ⟨#[]⟩,.int .i64 ((k:Int)+1)] 28 (0,0))/\w'.heap[P4]?=some (.cells #[.bool m.ok,.int .i64 (fN:Int),.int .i64 (tN:Int),.slice ax G cx] 38 (0,0))/\Za (·=P3) w7 w'):=by
       intro wB hkB;have xC:fO wB w7.heap.size _ _:=Zb iy hkB (fun _ _ h=>h);have RZ:=(hkB.block P3 (lt_of_block R4) id).trans R4;have RN:=(hkB.block P4 (lt_of_block Bn) id).trans Bn;have VF:Za (·=P3) w7 wB:=VG.trans (hkB.mono (fun _ _ h=>h.elim));have xai:((cz u B (l.take k)).1++u.extract (cz u B (l.take k)).2 fN).size<=20000000:=by rw[ByteArray.size_append];omega
       obtain⟨aC,cC,wC,mG,uC,OU⟩:=xY xC VF.size (JD u m B) (by omega);have e:((cz u B (l.take k)).1++u.extract (cz u B (l.take k)).2 fN)++JD u m B=(cz u B (l.take (k+1))).1:=by rw[uX.out];unfold kV;rw[oV];rfl
       rw[e] at mG uC;exact⟨aC,cC,wC,mG,uC,(OU.block P3 (lt_of_block RZ) (Zi xC RZ (by decide))).trans RZ,(OU.block P4 (lt_of_block RN) (Zi xC RN (by decide))).trans RN,VF.trans' OU (fun i hi e=>absurd (xC.lt i e).1 (by omega))⟩
      have pU:Hid ((cz u B (l.take (k+1))).2=tN):=(by show _ = _;rw[uX.out];unfold kV;rw[oK];rfl);have t0:wA.cell? (ak P1)=some (.bool true):=by rw[Zc K5];rfl
      have t1:wA.cell? ⟨P1,1,none⟩=some (.int .i64 at_):=by rw[Zc K5];rfl
      have t2:wA.cell? ⟨P1,2,none⟩=some (.slice aT nB cT):=by rw[Zc K5,<- zK.out];rfl
      have x0:wA.cell? (ak P4)=some (.bool m.ok):=by rw[Zc Bn];rfl
      have x1:wA.cell? ⟨P4,1,none⟩=some (.int .i64 (fN:Int)):=by rw[Zc Bn];rfl
      have x2:wA.cell? ⟨P4,2,none⟩=some (.int .i64 (tN:Int)):=by rw[Zc Bn];rfl
      have x3:wA.cell? ⟨P4,3,none⟩=some (.slice ax G cx):=by rw[Zc Bn];rfl
      obtain⟨nA,jD⟩:∃nA,((cz u B (l.take k)).1++u.extract (cz u B (l.take k)).2 fN).size=nA:=⟨_,rfl⟩;rw[jD] at hrunA Cq;obtain⟨nC,V3⟩:∃nC,(cz u B (l.take (k+1))).1.size=nC:=⟨_,rfl⟩;rw[V3] at Cq;obtain⟨fT,Wi⟩:∃fT,JD u m B=fT:=⟨_,rfl⟩;rw[Wi] at hcall Cq;generalize (cz u B (l.take k)).2=a9 at *;clear lJ iy CX Wy xu hgA vM Bn K6 K5 b9 R4 CB VG iH jD V3 Wi Oq hsz hE1;go_upto_region 20 with(at_builtin;refine Qo rfl _ _ _ _ _ rfl rfl (.slice av nv cv) _ _ _ rfl rfl hrunA ?_);clear hrunA hx1;go_upto_region 21 with(first|(go_at_call 30;refine hcall.mono ?_;rintro e wB ⟨rfl,hkB⟩;obtain⟨aC,cC,wC,mG,uC,Xm,Xl,kC⟩:=Cq.out wB hkB)|(at_builtin;refine Qo rfl _ _ _ _ _ rfl rfl (.slice aA nA cA) _ _ _ rfl rfl mG ?_))
      have x2C:wC.cell? ⟨P4,2,none⟩=some (.int .i64 (tN:Int)):=by rw[Zc Xl];rfl
      have HR9:Hid (fO wC w7.heap.size (.slice aC nC cC) (cz u B (l.take (k+1))).1/\wC.heap[P3]?=some (.cells #[.bool true,.string ⟨#[]⟩,.int .i64 ((k+1:Nat):Int)] 28 (0,0))/\Za (·=P3) w7 wC):=⟨uC,by rw[show ((k+1:Nat):Int)=(k:Int)+1 by omega];exact Xm,kC⟩;clear uC Xm Xl kC mG hkB t0 t1 t2 x0 x1 x2 x3 hcall Cq;go_wp2_with fail;go_roundg (gk-1)
      case measure=>have:=jN.out;omega
      case rel=>exact⟨k+1,aC,nC,cC,by have:=jN.out;omega,by omega,by omega,rfl,congrArg (Value.int .i64) (by rw[pU.out]),congrArg (Value.int .i64) (by omega),HR9⟩
    ·have hz:¬(k:Int)<(n7:Int):=by omega
     have hfin:(cz u B (l.take k)).2<=u.size:=Ig _ _ _ (Mw _ _ k HO.out) (Nat.zero_le _);obtain⟨iI,Br,zW⟩:=HR.out;have CG:=Kc.out k;have Ba:l.take k=l.take most.toNat:=(by have:=Ev.out;rw[List.take_of_length_le (by omega),List.take_of_length_le (by omega)]);have uY:Hid (vz u B (l.take most.toNat)=(cz u B (l.take k)).1++u.extract (cz u B (l.take k)).2 u.size/\min most.toNat l.length=k):=⟨by rw[<- Ba];rfl,by have h5:=congrArg List.length Ba;rw[List.length_take,List.length_take] at h5;have:=Ev.out;omega⟩;generalize (cz u B (l.take k)).1=oF at iI CG uY;generalize (cz u B (l.take k)).2=aF at hfin uY;obtain⟨aq,cq,wq,dQ,mY,hkq⟩:=xY iI (Nat.le_trans (Nat.le_refl _) zW.size) (u.extract aF u.size) (by have:(u.extract aF u.size).size<=200:=(by rw[ByteArray.size_extract];omega);omega);have hcv:=Sg mY;have haz:(aF:Int)<=(u.size:Int):=by omega
     have xO:=(hkq.block P3 (lt_of_block Br) (Zi iI Br (by decide))).trans Br;have GK:=HQ7.out;have Bp:=(zW.block w.heap.size (lt_of_block GK) (by have:=vZ.out;omega)).trans GK;have nW:=(hkq.block w.heap.size (lt_of_block Bp) (Zi iI Bp (by decide))).trans Bp;have ES:Za ai w wq:=(yw.out.trans' zW (fun i hi e=>by have:=vZ.out;omega)).trans' hkq (fun i hi e=>by have:=(iI.lt i e).1;have:=yw.out.size;omega);have e1:wq.cell? ⟨P3,1,none⟩=some (.string ⟨#[]⟩):=by rw[Zc xO];rfl
     have ef:∀i,wq.frozen? ⟨P3,i,none⟩=false:=fun i=>Zv xO;have qf:∀i,wq.frozen? ⟨w.heap.size,i,none⟩=false:=fun i=>Zv nW;obtain⟨X,hX⟩:∃X,oF++u.extract aF u.size=X:=⟨_,rfl⟩;obtain⟨nq,hnq⟩:∃nq,X.size=nq:=⟨_,rfl⟩;rw[hX] at dQ hcv uY;rw[hnq] at dQ hcv;clear iI mY hfin Ba CG hX hnq;go_upto_region 24 with(at_builtin;refine Qo rfl _ _ _ _ _ rfl rfl (.slice av nv cv) _ _ _ rfl rfl dQ ?_);clear dQ;go_upto_region 25 with fail;have bz:(wq.setCell ⟨P3,1,none⟩ (.string X)).heap[P3]?=some (.cells #[.bool true,.string X,.int .i64 (k:Int)] 28 (0,0)):=by rw[heap_setCell_same _ _ _ _ _ _ xO];rfl
     have kz:Za (·=P3) wq (wq.setCell ⟨P3,1,none⟩ (.string X)):=(Za.refl (·=P3) wq).setCell (a:=⟨P3,1,none⟩) (fun _=>rfl) _;have uN:=(kz.block w.heap.size (lt_of_block nW) (by have:=vZ.out;omega)).trans nW;have Kh:Hid (Za ai w (wq.setCell ⟨P3,1,none⟩ (.string X))):=ES.trans' kz (fun i hi e=>by have:=vZ.out;omega);generalize wq.setCell ⟨P3,1,none⟩ (.string X)=wz at bz uN Kh ⊢;clear kz e1 ef qf xO nW ES hcv;have f0:wz.cell? (ak P3)=some (.bool true):=by rw[Zc bz];rfl
     have f1:wz.cell? ⟨P3,1,none⟩=some (.string X):=by rw[Zc bz];rfl
     have f2:wz.cell? ⟨P3,2,none⟩=some (.int .i64 (k:Int)):=by rw[Zc bz];rfl
     have q0:wz.cell? (ak w.heap.size)=some (.bool false):=by rw[Zc uN];rfl
     have q1:wz.cell? ⟨w.heap.size,1,none⟩=some (.string ⟨#[]⟩):=by rw[Zc uN];rfl
     have q2:wz.cell? ⟨w.heap.size,2,none⟩=some (.int .i64 0):=by rw[Zc uN];rfl
     have qf:∀i,wz.frozen? ⟨w.heap.size,i,none⟩=false:=fun i=>Zv uN;go_wp2_with fail;refine bodyPost_ret (v:=.agg #[.bool true,.string X,.int .i64 (k:Int)]) (by simp[results,Tryz.results11,go_sem,q0,q1,q2]) rfl ?_;have kW:∀(j:Nat) (v:Value) (wx:World),Za ai w wx->Za ai w (wx.setCell ⟨w.heap.size,j,none⟩ v):=fun j v wx h=>h.setCell (a:=⟨w.heap.size,j,none⟩) (fun h2=>absurd h2 (Nat.lt_irrefl _)) v;exact⟨by unfold BD;simp only[uY.out.1,uY.out.2],kW _ _ _ (kW _ _ _ (kW _ _ _ Kh.out))⟩
def j6:Value:=.agg #[.bool false,.string ⟨#[]⟩,.int .i64 0]
theorem SH{okv tb:Bool}(hno:okv=false\/tb=false\/most<0)
  (hof:∀w,au 16 #[.string s,.string u] w fun e w2 =>∃R,e=.returned (.tuple #[.pointer R,.bool okv])/\Za ai w w2)
  (htp:∀w,au 29 #[.string t] w fun e w' =>∃(a:Option Addr) (n c:Nat),e=.returned (.agg #[.bool tb,.int .i64 at_,.slice a n c])/\Za ai w w') :
  au 11 #[.string s,.string u,.string t,.int .i64 most] w fun e w'=>e=.returned j6/\Za ai w w':=by
 have I8:Hid _:=htp;clear htp;go_enter Tryz.func11,Tryz.ntmps11;have mP:=hof (w.alloc (.cells #[.bool false,.string ⟨#[]⟩,.int .i64 0] 28));have kQ:Za ai w (w.alloc (.cells #[.bool false,.string ⟨#[]⟩,.int .i64 0] 28)):=QT;have bQ:(w.alloc (.cells #[.bool false,.string ⟨#[]⟩,.int .i64 0] 28)).heap[w.heap.size]?=some (.cells #[.bool false,.string ⟨#[]⟩,.int .i64 0] 28 (0,0)):=heap_alloc_new _ _;clear hof;go_upto_region 2 with(go_at_call 16;refine mP.mono ?_;clear mP;rintro e w2 ⟨R,rfl,hk2⟩);have pE:=(hk2.block _ (lt_of_block bQ) id).trans bQ;have mW:=kQ.trans hk2;clear kQ hk2 bQ;have htp:=I8.out w2;go_upto_region 3 with(go_at_call 29;refine htp.mono ?_;clear htp;rintro e w3 ⟨aT,nT,cT,rfl,hk3⟩);have kB:Za ai w3 (w3.alloc (.cells #[.bool tb,.int .i64 at_,.slice aT nT cT] 56)):=QT;have bB:(w3.alloc (.cells #[.bool tb,.int .i64 at_,.slice aT nT cT] 56)).heap[w3.heap.size]?=some (.cells #[.bool tb,.int .i64 at_,.slice aT nT cT] 56 (0,0)):=heap_alloc_new _ _;have iw:=hk3.trans kB;clear kB hk3;generalize (w3.alloc (.cells #[.bool tb,.int .i64 at_,.slice aT nT cT] 56))=w4 at bB iw ⊢;generalize w3.heap.size=P1 at bB ⊢;have nk:=(iw.block _ (lt_of_block pE) id).trans pE;have d0:w4.cell? (ak P1)=some (.bool tb):=by rw[Zc bB];rfl
 have HK:Hid (Za ai w w4):=mW.trans iw;have q0:w4.cell? (ak w.heap.size)=some (.bool false):=by rw[Zc nk];rfl
 have q1:w4.cell? ⟨w.heap.size,1,none⟩=some (.string ⟨#[]⟩):=by rw[Zc nk];rfl
 have q2:w4.cell? ⟨w.heap.size,2,none⟩=some (.int .i64 0):=by rw[Zc nk];rfl
 have qf:∀i,w4.frozen? ⟨w.heap.size,i,none⟩=false:=fun i=>Zv nk;clear bB nk pE iw mW;have kW:∀(j:Nat) (v:Value) (wx:World),Za ai w wx->Za ai w (wx.setCell ⟨w.heap.size,j,none⟩ v):=fun j v wx h=>h.setCell (a:=⟨w.heap.size,j,none⟩) (fun h2=>absurd h2 (Nat.lt_irrefl _)) v;have HW:Hid _:=kW;clear kW
 cases okv with
 | false =>
   clear hno;go_wp2_with fail;refine bodyPost_ret (v:=j6) (by simp[j6,results,Tryz.results11,go_sem,q0,q1,q2]) rfl ?_;exact⟨rfl,HW.out _ _ _ (HW.out _ _ _ (HW.out _ _ _ HK.out))⟩
 | true =>
   cases tb with
   | false =>
     clear hno;go_wp2_with fail;refine bodyPost_ret (v:=j6) (by simp[j6,results,Tryz.results11,go_sem,q0,q1,q2]) rfl ?_;exact⟨rfl,HW.out _ _ _ (HW.out _ _ _ (HW.out _ _ _ HK.out))⟩
   | true =>
     have hm:most<0:=by simpa using hno
     clear hno;go_wp2_with fail;refine bodyPost_ret (v:=j6) (by simp[j6,results,Tryz.results11,go_sem,q0,q1,q2]) rfl ?_;exact⟨rfl,HW.out _ _ _ (HW.out _ _ _ (HW.out _ _ _ HK.out))⟩
theorem ZoD{Mach:World->Nat->Prop}
  (hof:∀w,au 16 #[.string s,.string u] w fun e w2 =>∃R,e=.returned (.tuple #[ae R,.bool true])/\Mach w2 R/\Za ai w w2)
  (htp:∀w,au 29 #[.string t] w fun e w' =>∃v,e=.returned (.agg #[.bool true,.int .i64 at_,v])/\BR w' w.heap.size v B/\Za ai w w')
  (GU:∀w w' R,Mach w R->Za ai w w'->Mach w' R)
  (GV:∀w R,Mach w R->w.cell? ⟨R,2,none⟩=some (.int .i64 (G:Int)))
  (hB:B.length<=100) (uH:∃b∈B,(G:Int)<b.1) (hG:G<=9) (hm0:0<=most) :
  au 11 #[.string s,.string u,.string t,.int .i64 most] w fun e w'=>e=.returned j6/\Za ai w w':=by
 have M8:Hid _:=GU;have U5:Hid _:=GV;have I8:Hid _:=htp;clear GU GV htp;go_enter Tryz.func11,Tryz.ntmps11;have mP:=hof (w.alloc (.cells #[.bool false,.string ⟨#[]⟩,.int .i64 0] 28));have kQ:Za ai w (w.alloc (.cells #[.bool false,.string ⟨#[]⟩,.int .i64 0] 28)):=QT;have bQ:(w.alloc (.cells #[.bool false,.string ⟨#[]⟩,.int .i64 0] 28)).heap[w.heap.size]?=some (.cells #[.bool false,.string ⟨#[]⟩,.int .i64 0] 28 (0,0)):=heap_alloc_new _ _;clear hof;go_upto_region 2 with(go_at_call 16;refine mP.mono ?_;clear mP;rintro e w2 ⟨R,rfl,hM,hk2⟩);have pE:=(hk2.block _ (lt_of_block bQ) id).trans bQ;have AZ:=lt_of_block bQ;have mW:=kQ.trans hk2;clear kQ hk2 bQ AZ;have htp:=I8.out w2;go_upto_region 3 with(go_at_call 29;refine htp.mono ?_;clear htp;rintro e w3 ⟨tv,rfl,hT,hk3⟩;obtain⟨aT,cT,hv⟩:=aj hT;subst hv);have kB:Za ai w3 (w3.alloc (.cells #[.bool true,.int .i64 at_,.slice aT B.length cT] 56)):=QT;have bB:(w3.alloc (.cells #[.bool true,.int .i64 at_,.slice aT B.length cT] 56)).heap[w3.heap.size]?=some (.cells #[.bool true,.int .i64 at_,.slice aT B.length cT] 56 (0,0)):=heap_alloc_new _ _;have hP1:=hk3.size;have iw:=hk3.trans kB;have fw:=Zb hT kB (fun _ _ h=>h);clear hT kB hk3;generalize (w3.alloc (.cells #[.bool true,.int .i64 at_,.slice aT B.length cT] 56))=w4 at bB iw fw ⊢;generalize w3.heap.size=P1 at bB hP1 ⊢;have nk:=(iw.block _ (lt_of_block pE) id).trans pE;have d0:w4.cell? (ak P1)=some (.bool true):=by rw[Zc bB];rfl
 have d2:w4.cell? ⟨P1,2,none⟩=some (.slice aT B.length cT):=by rw[Zc bB];rfl
 have hmz:¬most<0:=by omega
 have Co:Hid (∃b∈B,(G:Int)<b.1):=uH;have M0:Hid (BR w4 w2.heap.size (.slice aT B.length cT) B):=fw;have HbB:Hid (w4.heap[P1]?=some (.cells #[.bool true,.int .i64 at_,.slice aT B.length cT] 56 (0,0))):=bB;have I9:Hid (w4.heap[w.heap.size]?=some (.cells #[.bool false,.string ⟨#[]⟩,.int .i64 0] 28 (0,0))):=nk;have HM:Hid (Mach w2 R):=hM;have pQ:Hid (Za ai w2 w4):=iw;have pR:Hid (Za ai w w2):=mW;have Ru:(B.length:Int)<=100:=by omega
 clear bB pE nk fw uH hM iw mW;go_wp2_with fail;clear d0 d2;obtain⟨nB,iU⟩:∃nB,B.length=nB:=⟨_,rfl⟩;have zK:Hid (B.length=nB):=iU;simp only[iU] at Ru ⊢;clear iU;go_loopg [42] (nB+1) (fun gl ND wr =>∃k:Nat,k+gl=nB+1/\k<=nB/\ND=.int .i64 (k:Int)/\Hid (∀b∈B.take k,b.1<=(G:Int))/\Hid (Za ai w4 wr))
 case atStart=>exact⟨0,by omega,by omega,rfl,fun b hb=>by simp at hb,Za.refl _ _⟩
 case round =>
  obtain⟨k,hgl,hk,rfl,oq,pV⟩:=hrel;have jN:Hid (k+gk=nB+1):=hgl;clear hgl
  by_cases hlt:k<nB
  ·have hkz:(k:Int)<(nB:Int):=by omega
   have hkB:k<B.length:=by have:=zK.out;omega
   have hT:=Zb M0.out pV.out (fun _ _ h=>h);rw[zK.out] at hT;obtain⟨gT,rfl⟩:∃gT,aT=some ⟨gT,0,none⟩:=by
    obtain⟨n0,rfl⟩:∃n0,nB=n0+1:=⟨nB-1,by omega⟩;obtain⟨g,cp,hv,-⟩:=ZM hT
    cases hv
    exact⟨g,rfl⟩
   obtain⟨c1,c2⟩:=Jy B k B[k] (List.getElem?_eq_getElem hkB);have y1:=hT.cellAt (k*2) (by omega);have y2:=hT.cellAt (k*2+1) (by omega);rw[c1] at y1;rw[c2] at y2;have U0:Hid (B[k].1<=(G:Int)->∀b∈B.take (k+1),b.1<=(G:Int)):=fun h1 b hb=>by
    rw[List.take_succ_eq_append_getElem hkB] at hb
    rcases List.mem_append.1 hb with h2 | h2
    ·exact oq.out b h2
    ·simp at h2;subst h2;exact h1
   generalize B[k]=b at y1 y2 U0;obtain⟨g,x⟩:=b;simp only at y1 y2;have kC:Za ai wr (wr.alloc (.cells #[.int .i64 g,.string x] 73)):=QT;have bC:(wr.alloc (.cells #[.int .i64 g,.string x] 73)).heap[wr.heap.size]?=some (.cells #[.int .i64 g,.string x] 73 (0,0)):=heap_alloc_new _ _;clear c1 c2 hT hkB;go_upto_region 8 with fail;have nK:Hid (Za ai w4 (wr.alloc (.cells #[.int .i64 g,.string x] 73))):=pV.out.trans kC;generalize (wr.alloc (.cells #[.int .i64 g,.string x] 73))=w5 at bC nK ⊢;generalize wr.heap.size=P2 at bC ⊢;have v0:w5.cell? (ak P2)=some (.int .i64 g):=by rw[Zc bC];rfl
   have vG:=U5.out _ _ (M8.out _ _ _ HM.out (pQ.out.trans nK.out));have Ho:=(nK.out.block _ (lt_of_block I9.out) id).trans I9.out;have q0:∀n,(w5.drewN n).cell? (ak w.heap.size)=some (.bool false):=fun n=>by show w5.cell? _ = _;rw[Zc Ho];rfl
   have q1:∀n,(w5.drewN n).cell? ⟨w.heap.size,1,none⟩=some (.string ⟨#[]⟩):=fun n=>by show w5.cell? _ = _;rw[Zc Ho];rfl
   have q2:∀n,(w5.drewN n).cell? ⟨w.heap.size,2,none⟩=some (.int .i64 0):=fun n=>by show w5.cell? _ = _;rw[Zc Ho];rfl
   have qf:∀n i,(w5.drewN n).frozen? ⟨w.heap.size,i,none⟩=false:=fun n i=>by show w5.frozen? _ = _;exact Zv Ho
   clear y1 y2 bC kC pV Ho
   by_cases yQ:(G:Int)<g
   ·go_quiet (fail);go_wp2_with fail;refine bodyPost_ret (v:=j6) (by simp[j6,results,Tryz.results11,go_sem,q0,q1,q2]) rfl ?_;have kW:∀(j:Nat) (v:Value) (wx:World),Za ai w wx->Za ai w (wx.setCell ⟨w.heap.size,j,none⟩ v):=fun j v wx h=>h.setCell (a:=⟨w.heap.size,j,none⟩) (fun h2=>absurd h2 (Nat.lt_irrefl _)) v;exact⟨rfl,kW _ _ _ (kW _ _ _ (kW _ _ _ (((pR.out.trans pQ.out).trans nK.out).drewN _)))⟩
   ·have Ke:=U0.out (by show g<=_;omega);have UZ:Hid _:=Ke;clear U0 Ke q0 q1 q2 qf;go_quiet (fail);go_wp2_with fail;go_roundg (gk-1)
    case measure=>have:=jN.out;omega
    case rel=>exact⟨k+1,by have:=jN.out;omega,by omega,congrArg (Value.int .i64) (by omega),UZ,nK.out.drewN _⟩
  ·exfalso;obtain⟨b,hb,hbG⟩:=Co.out;have h1:=oq.out b (by rw[List.take_of_length_le (by have:=zK.out;omega)];exact hb);omega
end Go.Proofs.YtfkflljplohhcaaGreatDoor
