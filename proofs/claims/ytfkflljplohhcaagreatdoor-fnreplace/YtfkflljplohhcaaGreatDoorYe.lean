import Derived.Test.YtfkflljplohhcaaGreatDoorYd
set_option linter.unusedVariables false
set_option maxHeartbeats 1000000
set_option maxRecDepth 100000
namespace Go.Proofs.YtfkflljplohhcaaGreatDoor
open Go.RowKit
variable {w w':World}{S g p cap i N base Cb fn:Nat}{Q:Ending->World->Prop}{v nx:Value}{fs:List Value}{rq:Array Value}{ao:Option Addr}
theorem Zus{n:Nat}{ag:Option Addr}{ng cg:Nat}{I:Nat->World->Prop}(hn:n<=1000)(cS:w.cell? (ak S)=some (.slice (some ⟨g,0,none⟩) n cap))(h0:I 0 w)
  (hone:∀i w',I i w'->i<n->∃(fn:Nat) (cap':Array Value),w'.cell? ⟨g,i,none⟩=some (.func (.func fn) #[] cap')/\(∀(args:Array Value) (w:World),(callFunc fn args).run Tryz.prog w=.ok (.enter fn args) w)/\
   au fn (#[.int .i64 (p:Int),.slice ag ng cg]++cap') w' (fun e w2 =>∃b,e=.returned (.bool b)/\Hid (b=true->I (i+1) w2)/\Hid (b=false->Q (.returned (.bool false)) w2)))
  (hend:∀w',I n w'->Q (.returned (.bool true)) w') :
  au 102 (#[.int .i64 (p:Int),.slice ag ng cg]++#[ae S]) w Q:=by
 go_enter Tryz.func102,Tryz.ntmps102;go_wp2;go_loopg [7,10] (n+1) (fun gl _ s10 wr =>∃k:Nat,k+gl=n+1/\k<=n/\s10=.int .i64 (k:Int)/\Hid (I k wr))
 case atStart=>exact⟨0,by omega,by omega,rfl,h0⟩
 case round =>
  obtain⟨k,hgl,hk,rfl,HI⟩:=hrel;have HG:Hid (k+gk=n+1):=hgl;clear hgl
  by_cases hlt:k<n
  ·have hz:(k:Int)<(n:Int):=by omega
   obtain⟨fn,cap',cf,hcf,hcall⟩:=hone k wr HI.out hlt;clear hone h0 cS HI;go_wp2_with((with_reducible (refine hcall.mono ?_));rintro e w3 ⟨b,rfl,HT,HF⟩;cases b)
   ·exact HF.out (by first | exact trivial | rfl)
   ·go_roundg (gk-1)
    case measure=>have:=HG.out;omega
    case rel=>exact⟨k+1,by have:=HG.out;omega,by omega,congrArg (Value.int .i64) (by omega),HT.out (by first | exact trivial | rfl)⟩
  ·obtain rfl:k=n:=by omega
   have hQ:=hend wr HI.out;clear hone hend h0 cS HI;go_wp2;exact hQ
structure IY (w:World) (F:az) (v:Value) (fs:List Value):Prop where
 form:∃g cap,v=.slice (some ⟨g,0,none⟩) fs.length cap
 row:w.ownsRow 0 102 1 v fs.length fs
 out:∀k,v.ownBlock=some k->¬F k
variable {F F':az}
theorem IY.later(h:IY w F v fs)(l:aH w F w' F'):IY w' F' v fs:=by
 obtain⟨h1,h2⟩:=ZB ⟨h.row,h.out⟩ l;exact⟨h.form,h1,h2⟩
def lV (Ws:List Wt):Wt:=fun p=>Ws.flatMap fun W=>W p
variable {Ws:List Wt}
theorem ZnU(h:i<Ws.length)(p:Nat):lV (Ws.take (i+1)) p=lV (Ws.take i) p++Ws[i] p:=by
 unfold lV;rw[List.take_succ_eq_append_getElem h,List.flatMap_append];simp
theorem ZnV(h:i<Ws.length)(p:Nat):lV Ws p=lV (Ws.take i) p++(Ws[i] p++lV (Ws.drop (i+1)) p):=by
 unfold lV
 conv=>lhs;rw[<- List.take_append_drop i Ws,List.flatMap_append]
 rw[List.drop_eq_getElem_cons h,List.flatMap_cons]
structure Xn (C:Cx) (ρ:Rx) (ats:List aO) (τ:jG) (T:Tt) (V:Vs) (out:List (Nat×Rs)) (gs:Rs) (b:Bo) (w:World) (F Fr:az) (L:Wn) (w':World):Prop where
 more:JI τ.stop V L=true
 st:∃T' F' aM,Run C ρ ats τ T' (out++ek τ.stop V L gs) w' F' aM/\aJ w F Fr w' F' aM/\jH C.u.size T T' (bI V L) (some b)
variable {T:Tt}{V:Vs}{b:Bo}
theorem jH.trans{T1 T2:Tt}{V2:Vs}(h:jH N T T1 V (some b))(h2:jH N T1 T2 V2 (some b)):jH N T T2 V2 (some b):=⟨h2.1,fun j hj=>(h2.2 j hj).trans (h.2 j hj)⟩
variable {C:Cx}
theorem ZqJ{mine:List aO}(hS:di w F S 213 v)(hv:IY w F v fs)(hl:fs.length=Ws.length)(hn:fs.length<=1000)(hfs:∀(i:Nat) (h1:i<fs.length) (h2:i<Ws.length),Qg C w F fs[i] Ws[i] (some b) mine):
  Qg C w F (.func (.func 102) #[] #[ae S]) (lV Ws) (some b) mine:=by
 refine⟨_,_,rfl,fun _ _=>by kernel_rfl,?_⟩;intro w' F' l aW ρ ats τ T V out Fr p gv gs ha hm hτ hR hg hgl hp hP hno;have hS':=hS.later l;have hv':=hv.later l;obtain⟨ag,cg,hgv⟩:∃ag cg,gv=.slice ag gs.length cg:=by obtain⟨a,c,h,_⟩:=hg;exact⟨a,c,h⟩
 obtain⟨g,cap,eZ⟩:=hv'.form;have eX:=JG hτ ha hR;rw[eZ] at hS';rw[hgv];refine Zus (n:=fs.length) (I:=fun i wi=>Xn C ρ ats τ T V out gs b w' F' Fr (lV (Ws.take i) p) wi) hn hS'.cell ?_ ?_ ?_
 ·refine⟨by simp[lV,D7],T,F',Fr,?_,aJ.refl eX,?_⟩
  ·simpa [lV,Ma] using hR
  ·simp only[List.take_zero,lV,List.flatMap_nil,Q9];exact jH.refl (W:=lV Ws) (p:=p) hP
 ·rintro i wi ⟨hc,T1,F1,dO,aK,hT1,hP1⟩ hi;have l1:=hT1.dm eX;have eQ:=vT hτ ha aW hT1 aK;have hv1:=hv'.later l1;obtain⟨fn,cap',hfe,hcf,hcall⟩:=(hfs i hi (by omega)).later (l.trans l1);have hx:=ZnV (Ws:=Ws) (i:=i) (by omega) p;have hsum:=(Ec _ _ _ _ gs τ.stop ((Ec out V _ _ gs τ.stop (by rw[<- hx];exact hno)).2 hc)).1;have hF1:=JG hτ ha aK;refine⟨fn,cap',?_,hcf,?_⟩
  ·have hrow:=hv1.row;rw[eZ] at hrow;rw[hrow.cellAt i (by omega),List.getElem?_eq_getElem hi,hfe]
  ·have hst:=hcall wi F1 (aH.refl _ _) eQ ρ ats τ T1 (bI V (lV (Ws.take i) p)) (out++ek τ.stop V (lV (Ws.take i) p) gs) dO p gv gs ha hm hτ aK (hg.later l1) hgl hp hP1.1 hsum;rw[hgv] at hst;refine hst.mono ?_;rintro e w2 ⟨rfl,T2,F2,bf,hR2,o5,hP2⟩;rw[List.append_assoc,<- JX hc] at hR2;refine⟨_,rfl,fun h1=>?_,fun h1=>?_⟩
   ·show Xn C ρ ats τ T V out gs b w' F' Fr (lV (Ws.take (i+1)) p) w2;rw[ZnU (by omega)];refine⟨by rw[Eg hc,h1],T2,F2,bf,hR2,hT1.trans o5,?_⟩;rw[Qc h1,<- JT] at hP2;exact hP1.trans hP2
   ·refine⟨by rw[hx,Eg hc,ML h1],T2,F2,bf,?_,hT1.trans o5,?_⟩
    ·rw[hx,JX hc,TW h1,<- JX hc];exact hR2
    ·rw[hx,Uq hc,QE (ML h1 _)];rw[QE h1] at hP2;exact hP1.trans hP2
 ·rintro wi ⟨hc,T1,F1,dO,aK,hT1,hP1⟩;rw[hl,List.take_length] at hc aK hP1;exact⟨by rw[hc],T1,F1,dO,aK,hT1,by rw[Qc hc];exact hP1⟩
def eY (w:World) (F:az) (b i:Nat) (v:Value):Prop:=w.cell? ⟨b,i,none⟩=some v/\¬F b/\b<w.heap.size
theorem eY.later{b:Nat}(h:eY w F b i v)(l:aH w F w' F'):eY w' F' b i v:=by
 obtain⟨h1,h2⟩:=l.stay h.2.2 h.2.1;refine⟨?_,h2,Nat.lt_of_lt_of_le h.2.2 l.size⟩
 have:=h.1
 unfold World.cell? at this ⊢;simp only at this ⊢;rw[h1];exact this
theorem Jv(l:List (Int×Int))(k:Nat)(h:k<l.length):(ZD l)[k*2]?=some (.int .i64 l[k].1)/\(ZD l)[k*2+1]?=some (.int .i64 l[k].2):=by
 induction l generalizing k with
 | nil=>simp at h
 | cons r l ih =>
   cases k with
   | zero=>exact⟨rfl,rfl⟩
   | succ k =>
     have:=ih k (by simpa using h)
     rw[show (k+1)*2=k*2+2 by omega,show k*2+2+1=k*2+1+2 by omega];exact this
theorem QL(r:Int×Int)(l:List (Int×Int)):ZD (r::l)=.int .i64 r.1::.int .i64 r.2::ZD l:=by simp[ZD]
theorem ZpK(l:Rs)(k p:Nat)(h:k<l.length):(ZD l).set (k*2) (.int .i64 (p:Int))=ZD (sF k p l):=by
 have e:sF k p l=l.set k ((p:Int),l[k].2):=by
  apply List.ext_getElem
  ·simp[sF]
  ·intro i h1 h2
   by_cases hi:i=k
   ·subst hi;simp[sF]
   ·simp[sF,hi,List.getElem_set_ne (Ne.symm hi)]
 rw[e];clear e
 induction l generalizing k with
 | nil=>simp at h
 | cons r l ih =>
   cases k with
   | zero=>simp[QL]
   | succ k =>
     rw[QL,show (k+1)*2=k*2+2 by omega];simp only[List.set_cons_succ,List.getElem_cons_succ];rw[ih k (by simpa using h),QL]
theorem ZpJ(l:Rs)(k p:Nat)(h:k<l.length):(ZD l).set (k*2+1) (.int .i64 (p:Int))=ZD (sT k p l):=by
 have e:sT k p l=l.set k (l[k].1,(p:Int)):=by
  apply List.ext_getElem
  ·simp[sT]
  ·intro i h1 h2
   by_cases hi:i=k
   ·subst hi;simp[sT]
   ·simp[sT,hi,List.getElem_set_ne (Ne.symm hi)]
 rw[e];clear e
 induction l generalizing k with
 | nil=>simp at h
 | cons r l ih =>
   cases k with
   | zero=>simp[QL]
   | succ k =>
     rw[QL,show (k+1)*2+1=(k*2+1)+2 by omega];simp only[List.set_cons_succ,List.getElem_cons_succ];rw[ih k (by simpa using h),QL]
theorem ZmW(l:Rs):∀u∈ZD l,u.oneCell'=true:=by
 intro u hu;unfold ZD at hu;rw[List.mem_flatMap] at hu;obtain⟨r,_,hr⟩:=hu;simp at hr
 rcases hr with rfl | rfl <;> rfl
theorem Tryz.jR:(Tryz.prog.info? 118).map (fun i=>(i.zero,i.size,i.bytes))=some (some (.agg #[.int .i64 0,.int .i64 0]),2,16):=by kernel_rfl
variable {gs:Rs}
theorem ZnO{n:Nat}(h:w.ownsRow base 118 2 (.slice (some ⟨g,0,none⟩) n cap) n (ZD gs))(hn:gs.length=n)(hl:n<=1000):
  ∃v' w',Sem.run Tryz.prog (Builtin.append_ #[36,36] 36 #[.slice (some ⟨w.heap.size,0,none⟩) 0 0,.slice (some ⟨g,0,none⟩) n cap]) (w.alloc (.cells #[] 118))=.ok v' w'/\w'.ownsRow w.heap.size 118 2 v' n (ZD gs)/\Za ai w w':=by
 obtain⟨i0,hi,hz0,hz1,hz2⟩:=info_parts Tryz.jR;have h0:(w.alloc (.cells #[] 118)).ownsRow w.heap.size 118 2 (.slice (some ⟨w.heap.size,0,none⟩) 0 0) 0 []:=World.ownsRow_lit w #[] 0 (Nat.le_refl _) (by unfold maxLen;omega) rfl;have h1:=h.alloc (.cells #[] 118);obtain⟨v',w3,hrun,ho,hgr,hbk⟩:=JF (P:=Tryz.prog) (w.alloc (.cells #[] 118)) w.heap.size 36 36 118 i0 _ 2 16 Tryz.underlying36 hi hz0 hz1 hz2 rfl (by decide) _ 0 [] h0
  (ak g) n cap (ZD gs) (by rw[IQ,hn]) (fun j u hu=>h1.cells rfl j u hu) (ZmW gs) (by unfold maxLen;omega) (by omega) (by simp)
 refine⟨v',w3,hrun,by simpa using ho,?_⟩;refine((Za.refl _ w).alloc _).grown hgr (fun k hk hlt=>?_);simp[Value.ownBlock] at hk;omega
theorem MH{n:Nat}(h:w.ownsRow base 118 2 (.slice (some ⟨g,0,none⟩) n cap) n (ZD gs))(hn:gs.length=n)(hl:n<=1000)(h0:0<n):
  au 91 #[.slice (some ⟨g,0,none⟩) n cap] w fun e w' =>∃g1 c1,e=.returned (.slice (some ⟨g1,0,none⟩) n c1)/\w'.ownsRow w.heap.size 118 2 (.slice (some ⟨g1,0,none⟩) n c1) n (ZD gs)/\Za ai w w':=by
 have hq:∀w:World,(binOp BinOp.eql 36 (.slice (some ⟨g,0,none⟩) n cap) (.slice none 0 0)).run Tryz.prog w=.ok (.bool false) w:=fun _=>by kernel_rfl
 obtain⟨v',w',hrun,ho,hk⟩:=ZnO h hn hl;clear h;go_enter Tryz.func91,Tryz.ntmps91;go_wp2_with(at_builtin;refine Zj rfl _ _ _ _ rfl rfl _ _ _ _ rfl rfl hrun ?_);go_ret;obtain⟨m,rfl⟩:∃m,n=m+1:=⟨n-1,by omega⟩;obtain⟨g1,c1,rfl,_,hlt⟩:=ZM ho;exact⟨g1,c1,rfl,ho,hk⟩
variable {W:Wt}{B:Option Bo}
theorem X9{t:Nat->Tr}(h:Pre N (fun q=>pr (t q) (W q)) T V p B):Pre N W T V p B:=by
 cases B with
 | none =>
   intro y hy;exact h (y.1,fun g=>y.2 (t p g)) (by unfold pr;rw[List.mem_map];exact⟨y,hy,rfl⟩)
 | some b=>exact h
theorem YO{ρ:Rx}{ats:List aO}{τ:jG}{out:List (Nat×Rs)}{L:Wn}{t:Tr}{Fr:az}{e:Ending}(h:Q0 C ρ ats τ T V out L (t gs) B w F Fr e w'):Q0 C ρ ats τ T V out (pr t L) gs B w F Fr e w':=by
 unfold Q0 at *;rw[SI,YK,ZiD];exact h
theorem ZpE{k n:Nat}(cn:w.cell? (ak N)=some (.int .i64 ((k:Int)+1)))(De:N<w.heap.size)(hcb:aP w Cb 102 (.func (.func fn) #[] rq))(hrow:w.ownsRow 0 118 2 (.slice (some ⟨g,0,none⟩) n cap) n (ZD gs))(hn:gs.length=n)(hl:n<=1000)(hk:k<n)
  (hcf:∀(args:Array Value) (w:World),(callFunc fn args).run Tryz.prog w=.ok (.enter fn args) w)
  (ih:∀(w1:World) (g1 c1:Nat),Za ai w w1->w1.ownsRow w.heap.size 118 2 (.slice (some ⟨g1,0,none⟩) n c1) n (ZD (sT k p gs))->au fn (#[.int .i64 (p:Int),.slice (some ⟨g1,0,none⟩) n c1]++rq) w1 (fun e w2 =>∃b,e=.returned (.bool b)/\Q (.returned (.bool b)) w2)) :
  au 117 (#[.int .i64 (p:Int),.slice (some ⟨g,0,none⟩) n cap]++#[ae N,ae Cb]) w Q:=by
 have hcl:=MH hrow hn hl (by omega);have hkz:(k:Int)<(n:Int):=by omega
 have hkl:k<gs.length:=by omega
 have HN:Hid (gs.length=n):=hn;clear hn hrow;go_enter Tryz.func117,Tryz.ntmps117;go_upto_region 2 with(go_at_call 91;refine hcl.mono ?_;rintro e w2 ⟨g1,c1,rfl,hr2,hk2⟩);have hg1:w.heap.size<=g1/\g1<w2.heap.size:=hr2.lt g1 rfl;have K4:w2.cell? (ak N)=some (.int .i64 ((k:Int)+1)):=((show eY w ai N 0 _ from ⟨cn,fun h=>h,De⟩).later (aH.ay hk2)).1;have f2:=hr2.frozenAt (k*2+1);have c2:=hr2.cellAt (k*2+1) (by omega);rw[(Jv gs k hkl).2] at c2;have hs:=(hr2.stored (k*2+1) (.int .i64 (p:Int))).1;rw[ZpJ gs k p hkl] at hs;have hks:Za ai w (w2.setCell ⟨g1,k*2+1,none⟩ (.int .i64 (p:Int))):=hk2.setCell (fun h=>by simp at h;omega) _;have cc:=(hcb.keeps hks id).cell;have hcall:=ih _ g1 c1 hks hs;clear ih hcl hr2 hs hks hcb hk2;go_wp2_with((with_reducible (refine hcall.mono ?_));rintro e w3 ⟨b,rfl,hQ⟩);exact hQ
theorem Zkg{k:Nat}{mine:List aO}(hN:eY w F N 0 (.int .i64 ((k:Int)+1)))(hC:di w F Cb 102 nx)(hnx:Qg C w F nx W B mine)(hk:k<C.G)(hG:C.G<=9):
  Qg C w F (.func (.func 117) #[] #[ae N,ae Cb]) (fun q=>pr (sT k q) (W q)) B mine:=by
 refine⟨_,_,rfl,fun _ _=>by kernel_rfl,?_⟩;intro w' F' l aW ρ ats τ T V out Fr p gv gs ha hm hτ hR hg hl hp hP hno;have hN':=hN.later l;have hC':=hC.later l;have lq:=hnx.later l;have eX:=JG hτ ha hR;obtain⟨ao,cg,rfl,hsp⟩:=hg;obtain⟨hrow,hout⟩:=hsp (by omega);obtain⟨g,cap,hge,OX⟩:∃g cap,(Value.slice ao gs.length cg)=.slice (some ⟨g,0,none⟩) gs.length cap/\g<w'.heap.size:=by
  obtain⟨m,hm⟩:∃m,gs.length=m+1:=⟨gs.length-1,by omega⟩;rw[hm] at hrow ⊢;obtain⟨g,cap,h1,_,hlt⟩:=ZM hrow;exact⟨g,cap,h1,hlt⟩
 rw[hge] at hrow ⊢;obtain⟨fn,rq,rfl,hcf,hcall⟩:=lq;refine ZpE hN'.1 hN'.2.2 hC'.1 hrow rfl (by omega) (by omega) hcf ?_;intro w1 g1 c1 k1 hr1;have hlen:(sT k p gs).length=gs.length:=Ztv k p gs;have hsp1:fF w1 F' (.slice (some ⟨g1,0,none⟩) gs.length c1) (sT k p gs):=by
  refine⟨_,c1,by rw[hlen],fun _=>⟨?_,fun i hi hF=>?_⟩⟩
  ·rw[hlen];exact Zp hr1 (fun _ _=>Nat.zero_le _)
  ·have:=(hr1.lt i hi).1
   have:=aW i hF
   omega
 have hst:=hcall w1 F' (aH.ay k1) (aW.keeps k1) ρ ats τ T V out Fr p _ (sT k p gs) ha hm hτ (Ql hτ ha hR k1).1 hsp1 (by rw[hlen];exact hl) hp (X9 hP) (by rw[Sw] at hno;exact hno);refine hst.mono ?_;intro e2 w2 h2;exact⟨_,h2.1,by rw[<- h2.1];exact YO (h2.from eX k1)⟩
theorem Zkh{k n:Nat}(cn:w.cell? (ak N)=some (.int .i64 ((k:Int)+1)))(De:N<w.heap.size)(hcb:aP w Cb 102 (.func (.func fn) #[] rq))(hrow:w.ownsRow 0 118 2 (.slice (some ⟨g,0,none⟩) n cap) n (ZD gs))(hn:gs.length=n)(hl:n<=1000)(hk:k<n)
  (hcf:∀(args:Array Value) (w:World),(callFunc fn args).run Tryz.prog w=.ok (.enter fn args) w)
  (ih:∀(w1:World) (g1 c1:Nat),Za ai w w1->w1.ownsRow w.heap.size 118 2 (.slice (some ⟨g1,0,none⟩) n c1) n (ZD (sF k p gs))->au fn (#[.int .i64 (p:Int),.slice (some ⟨g1,0,none⟩) n c1]++rq) w1 (fun e w2 =>∃b,e=.returned (.bool b)/\Q (.returned (.bool b)) w2)) :
  au 118 (#[.int .i64 (p:Int),.slice (some ⟨g,0,none⟩) n cap]++#[ae N,ae Cb]) w Q:=by
 have hcl:=MH hrow hn hl (by omega);have hkz:(k:Int)<(n:Int):=by omega
 have hkl:k<gs.length:=by omega
 have HN:Hid (gs.length=n):=hn;clear hn hrow;go_enter Tryz.func118,Tryz.ntmps118;go_upto_region 2 with(go_at_call 91;refine hcl.mono ?_;rintro e w2 ⟨g1,c1,rfl,hr2,hk2⟩);have hg1:w.heap.size<=g1/\g1<w2.heap.size:=hr2.lt g1 rfl;have K4:w2.cell? (ak N)=some (.int .i64 ((k:Int)+1)):=((show eY w ai N 0 _ from ⟨cn,fun h=>h,De⟩).later (aH.ay hk2)).1;have f2:=hr2.frozenAt (k*2);have c2:=hr2.cellAt (k*2) (by omega);rw[(Jv gs k hkl).1] at c2;have hs:=(hr2.stored (k*2) (.int .i64 (p:Int))).1;rw[ZpK gs k p hkl] at hs;have hks:Za ai w (w2.setCell ⟨g1,k*2,none⟩ (.int .i64 (p:Int))):=hk2.setCell (fun h=>by simp at h;omega) _;have cc:=(hcb.keeps hks id).cell;have hcall:=ih _ g1 c1 hks hs;clear ih hcl hr2 hs hks hcb hk2;go_wp2_with((with_reducible (refine hcall.mono ?_));rintro e w3 ⟨b,rfl,hQ⟩);exact hQ
theorem Zgz{k:Nat}{mine:List aO}(hN:eY w F N 0 (.int .i64 ((k:Int)+1)))(hC:di w F Cb 102 nx)(hnx:Qg C w F nx W B mine)(hk:k<C.G)(hG:C.G<=9):
  Qg C w F (.func (.func 118) #[] #[ae N,ae Cb]) (fun q=>pr (sF k q) (W q)) B mine:=by
 refine⟨_,_,rfl,fun _ _=>by kernel_rfl,?_⟩;intro w' F' l aW ρ ats τ T V out Fr p gv gs ha hm hτ hR hg hl hp hP hno;have hN':=hN.later l;have hC':=hC.later l;have lq:=hnx.later l;have eX:=JG hτ ha hR;obtain⟨ao,cg,rfl,hsp⟩:=hg;obtain⟨hrow,hout⟩:=hsp (by omega);obtain⟨g,cap,hge,OX⟩:∃g cap,(Value.slice ao gs.length cg)=.slice (some ⟨g,0,none⟩) gs.length cap/\g<w'.heap.size:=by
  obtain⟨m,hm⟩:∃m,gs.length=m+1:=⟨gs.length-1,by omega⟩;rw[hm] at hrow ⊢;obtain⟨g,cap,h1,_,hlt⟩:=ZM hrow;exact⟨g,cap,h1,hlt⟩
 rw[hge] at hrow ⊢;obtain⟨fn,rq,rfl,hcf,hcall⟩:=lq;refine Zkh hN'.1 hN'.2.2 hC'.1 hrow rfl (by omega) (by omega) hcf ?_;intro w1 g1 c1 k1 hr1;have hlen:(sF k p gs).length=gs.length:=Ztw k p gs;have hsp1:fF w1 F' (.slice (some ⟨g1,0,none⟩) gs.length c1) (sF k p gs):=by
  refine⟨_,c1,by rw[hlen],fun _=>⟨?_,fun i hi hF=>?_⟩⟩
  ·rw[hlen];exact Zp hr1 (fun _ _=>Nat.zero_le _)
  ·have:=(hr1.lt i hi).1
   have:=aW i hF
   omega
 have hst:=hcall w1 F' (aH.ay k1) (aW.keeps k1) ρ ats τ T V out Fr p _ (sF k p gs) ha hm hτ (Ql hτ ha hR k1).1 hsp1 (by rw[hlen];exact hl) hp (X9 hP) (by rw[Sw] at hno;exact hno);refine hst.mono ?_;intro e2 w2 h2;exact⟨_,h2.1,by rw[<- h2.1];exact YO (h2.from eX k1)⟩
theorem ZbW:au 56 #[] w fun e w'=>e=.returned (.agg #[.int .i64 (-1),.int .i64 (-1)])/\Za ai w w':=by
 go_enter Tryz.func56,Tryz.ntmps56;go_wp2_with fail;refine bodyPost_ret (v:=.agg #[.int .i64 (-1),.int .i64 (-1)]) (by simp[results,Tryz.results56,go_sem]) rfl ?_;exact⟨rfl,(Za.refl _ _).alloc _⟩
def iK (a b:Int):Bool := !(a == -1 && b == -1)
theorem Zpd(a b:Int)(w:World):(binOp BinOp.neq 118 (.agg #[.int .i64 a,.int .i64 b]) (.agg #[.int .i64 (-1),.int .i64 (-1)])).run Tryz.prog w=.ok (.bool (iK a b)) w:=by
 rw[run_neq_struct,run_equalIn_agg _ _ _ _ _ (by kernel_rfl) (by kernel_rfl)]
 by_cases ha:a = -1 <;> by_cases hb:b = -1 <;> simp[go_sem,iK,ha,hb]
theorem Um{a b:Int}:au 70 #[.agg #[.int .i64 a,.int .i64 b]] w fun e w'=>e=.returned (.bool (iK a b))/\Za ai w w':=by
 have hK:Za ai w (w.alloc (.cells #[.int .i64 a,.int .i64 b] 118)):=QT;have hq:=Zpd a b;go_enter Tryz.func70,Tryz.ntmps70;go_upto_region 1 with fail;have c0:(w.alloc (.cells #[.int .i64 a,.int .i64 b] 118)).cell? (ak w.heap.size)=some (.int .i64 a):=by rw[Zc (heap_alloc_new _ _)];rfl
 have c1:(w.alloc (.cells #[.int .i64 a,.int .i64 b] 118)).cell? ⟨w.heap.size,1,none⟩=some (.int .i64 b):=by rw[Zc (heap_alloc_new _ _)];rfl
 have hb:(w.alloc (.cells #[.int .i64 a,.int .i64 b] 118)).heap[w.heap.size]? = _:=heap_alloc_new _ _;generalize (w.alloc (.cells #[.int .i64 a,.int .i64 b] 118))=w1 at hK c0 c1 hb ⊢;go_region_with (first|(go_at_call 56;refine ZbW.mono ?_;rintro e w2 ⟨rfl,hk⟩;replace hk:=hkd hk;have d0:w2.cell? (ak w.heap.size)=some (.int .i64 a):=(by rw[Zc (by rw[hk.block _ (lt_of_block hb) id];exact hb)];rfl);have d1:w2.cell? ⟨w.heap.size,1,none⟩=some (.int .i64 b):=(by rw[Zc (by rw[hk.block _ (lt_of_block hb) id];exact hb)];rfl)))
 all_goals (try go_wp2_with fail)
 all_goals go_ret
 all_goals exact⟨rfl,hK.trans hk⟩
def j4 (l:Rs):Bool:=l.any fun x=>iK x.1 x.2
variable {l:Rs}
theorem ZnP{k:Nat}(h:k<l.length):j4 (l.take (k+1))=(j4 (l.take k) || iK l[k].1 l[k].2):=by
 unfold j4;rw[List.take_succ_eq_append_getElem h,List.any_append];simp
theorem Y8{k:Nat}(h:k<l.length)(hp:iK l[k].1 l[k].2=true):j4 l=true:=by
 unfold j4;rw[List.any_eq_true];exact⟨l[k],List.getElem_mem h,hp⟩
theorem fF.row0{n:Nat}(h:fF w F (.slice ao n cap) gs)(hn:0<n):∃g,ao=some ⟨g,0,none⟩/\gs.length=n/\g<w.heap.size/\¬F g/\w.ownsRow 0 118 2 (.slice (some ⟨g,0,none⟩) n cap) n (ZD gs):=by
 obtain⟨nu,cap',he,h2⟩:=h;simp only[Value.slice.injEq] at he;obtain⟨rfl,rfl,rfl⟩:=he;obtain⟨h3,h4⟩:=h2 hn;obtain⟨m,hm⟩:∃m,gs.length=m+1:=⟨gs.length-1,by omega⟩;rw[hm] at h3 h4;obtain⟨g,c,h5,_,hlt⟩:=ZM h3;simp only[Value.slice.injEq] at h5;obtain⟨rfl,_,rfl⟩:=h5;refine⟨g,rfl,rfl,hlt,h4 g rfl,?_⟩;rw[hm];exact h3
variable {ls:Rs}
theorem Zmy{n:Nat}(h:fF w F (.slice ao n cap) ls)(hn:ls.length=n)(hl:n<=1000):
  au 154 #[.slice ao n cap,.func (.func 70) #[] #[]] w fun e w' =>∃i:Int,e=.returned (.int .i64 i)/\Hid (decide (0<=i)=j4 ls)/\Za ai w w':=by
 have HN:Hid (ls.length=n):=hn;clear hn;go_enter Tryz.func154,Tryz.ntmps154;go_wp2;go_loopg [5,8] (n+1) (fun gl _ s8 wr =>∃k:Nat,k+gl=n+1/\k<=n/\s8=.int .i64 (k:Int)/\Hid (j4 (ls.take k)=false)/\Za ai w wr)
 case atStart=>exact⟨0,by omega,by omega,rfl,(by show _ = _;simp[j4]),Za.refl _ _⟩
 case round =>
  obtain⟨k,hgl,hk,rfl,HI,hK⟩:=hrel;have HG:Hid (k+gk=n+1):=hgl;clear hgl
  by_cases hlt:k<n
  ·have hz:(k:Int)<(n:Int):=by omega
   have hkl:k<ls.length:=by have:=HN.out;omega
   obtain⟨g,rfl,-,-,-,hrow⟩:=(h.later (aH.ay hK)).row0 (by omega);have a0:=hrow.cellAt (k*2) (by omega);have a1:=hrow.cellAt (k*2+1) (by omega);rw[(Jv ls k hkl).1] at a0;rw[(Jv ls k hkl).2] at a1;have HT:Hid (j4 (ls.take (k+1))=(j4 (ls.take k) || iK ls[k].1 ls[k].2)):=ZnP hkl;have HY:Hid (iK ls[k].1 ls[k].2=true->j4 ls=true):=(by show _->_;exact Y8 hkl);generalize ls[k]=r at a0 a1 HT HY;obtain⟨x,y⟩:=r;simp only at a0 a1;have hcall:=Um (w:=wr) (a:=x) (b:=y);clear hrow h
   cases hb:iK x y with
   | true =>
     rw[hb] at hcall;have Ka:Hid (j4 ls=true):=HY.out hb;clear HY HT hb;go_wp2_with(go_at_call 70;refine hcall.mono ?_;rintro e w2 ⟨rfl,hk2⟩);go_ret;exact⟨_,rfl,(by show _ = _;rw[Ka.out];simp),hK.trans hk2⟩
   | false =>
     rw[hb] at hcall;have pU:Hid (j4 (ls.take (k+1))=false):=(by show _ = _;rw[HT.out,HI.out];simpa using hb);clear HY HT hb;go_wp2_with(go_at_call 70;refine hcall.mono ?_;rintro e w2 ⟨rfl,hk2⟩);go_roundg (gk-1)
     case measure=>have:=HG.out;omega
     case rel=>exact⟨k+1,by have:=HG.out;omega,by omega,congrArg (Value.int .i64) (by omega),pU,hK.trans hk2⟩
  ·obtain rfl:k=n:=by omega
   have HE:Hid (j4 ls=false):=(by show _ = _;have:=HI.out;rw[<- HN.out,List.take_length] at this;exact this);clear HI h;go_wp2;go_ret;exact⟨_,rfl,(by show _ = _;rw[HE.out];simp),hK⟩
theorem ZcO{n:Nat}(h:fF w F (.slice ao n cap) ls)(hn:ls.length=n)(hl:n<=1000):
  au 141 #[.slice ao n cap,.func (.func 70) #[] #[]] w fun e w'=>e=.returned (.bool (j4 ls))/\Za ai w w':=by
 have hcall:=Zmy h hn hl;clear h;go_enter Tryz.func141,Tryz.ntmps141;go_wp2_with(go_at_call 154;refine hcall.mono ?_;rintro e w2 ⟨i,rfl,HI,hk2⟩);go_ret;exact⟨by rw[<- HI.out];rfl,hk2⟩
end Go.Proofs.YtfkflljplohhcaaGreatDoor
