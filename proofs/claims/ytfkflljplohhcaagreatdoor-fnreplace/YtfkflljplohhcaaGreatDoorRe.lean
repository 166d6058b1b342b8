import Derived.Test.YtfkflljplohhcaaGreatDoorRd
import Derived.Laws.DeepStrings4
set_option linter.unusedVariables false
set_option maxHeartbeats 2000000
set_option maxRecDepth 100000
namespace Go.Proofs.YtfkflljplohhcaaGreatDoor
open Go.RowKit
variable {w w' w2:World}{v tv:Value}{base N Xa Py Pg most:Nat}{bK:Array Value}{xt:ByteArray}
theorem Zlr{X:Nat}{g:Int}{x:ByteArray}(hb:(-1:Int)<=g):au 41 #[ae X,.agg #[.int .i64 g,.string x]] w fun e w' =>∃f bK,e=.returned (.func f #[] bK)/\Hid (∀F:az,(∀k,F k->k<w.heap.size)->pX X (g,x) (.func f #[] bK) w' F)/\Za ai w w':=by
 have mR:∀(fn:Fn) (first cap:Array Value) (w:World),(Instr.makeFunc fn first cap).run Tryz.prog w=.ok (.func fn first cap) w:=fun _ _ _ _=>rfl;have k2:Za ai w ((w.alloc (.cells #[ae X] 52)).alloc (.cells #[.int .i64 g,.string x] 73)):=((Za.refl _ _).alloc _).alloc _;have bA:((w.alloc (.cells #[ae X] 52)).alloc (.cells #[.int .i64 g,.string x] 73)).heap[w.heap.size]?=some (.cells #[ae X] 52 (0,0)):=fU w _ _;have bB:((w.alloc (.cells #[ae X] 52)).alloc (.cells #[.int .i64 g,.string x] 73)).heap[w.heap.size+1]?=some (.cells #[.int .i64 g,.string x] 73 (0,0)):=gH w _ _;go_enter Tryz.func41,Tryz.ntmps41
 by_cases h1:g = -1
 ·subst h1;have HF:Hid (∀F:az,(∀k,F k->k<w.heap.size)->pX X (-1,x) (.func (.func 67) #[] #[.pointer (some ⟨w.heap.size+1,0,none⟩)]) ((w.alloc (.cells #[ae X] 52)).alloc (.cells #[.int .i64 (-1),.string x] 73)) F):=fun F hF=>Or.inl ⟨rfl,_,rfl,bB,fun h=>by have:=hF _ h;omega⟩;clear bA bB;go_wp2;go_ret;exact⟨_,_,rfl,HF,k2⟩
 ·by_cases h2:g=0
  ·subst h2;have HF:Hid (∀F:az,(∀k,F k->k<w.heap.size)->pX X (0,x) (.func (.func 68) #[] #[ae w.heap.size]) ((w.alloc (.cells #[ae X] 52)).alloc (.cells #[.int .i64 0,.string x] 73)) F):=fun F hF=>Or.inr (Or.inl ⟨rfl,_,rfl,bA,fun h=>by have:=hF _ h;omega⟩);clear bA bB;go_wp2;go_ret;exact⟨_,_,rfl,HF,k2⟩
  ·have HF:Hid (∀F:az,(∀k,F k->k<w.heap.size)->pX X (g,x) (.func (.func 69) #[] #[.pointer (some ⟨w.heap.size+1,0,none⟩),ae w.heap.size]) ((w.alloc (.cells #[ae X] 52)).alloc (.cells #[.int .i64 g,.string x] 73)) F):=fun F hF=>Or.inr (Or.inr ⟨by show (0:Int)<g;omega,_,_,rfl,⟨bB,fun h=>by have:=hF _ h;omega⟩,⟨bA,fun h=>by have:=hF _ h;omega⟩⟩);have z1:(g == -1)=false:=by simp;omega
   have z2:(g == 0)=false:=by simp;omega
   clear bA bB h1 h2;go_wp2;go_ret;exact⟨_,_,rfl,HF,k2⟩
variable {b:Bt}{F:az}
theorem pX.row{X B n:Nat}{vo:Value}{xs:List Value}(h:pX X b v w F)(hr:w.ownsRow B 66 1 vo n xs)(k:Za (vo.ownBlock=some ·) w w'):pX X b v w' F:=by
 have hk:∀(j:Nat) (cs:Array Value) (t:TypeId),t≠66->su w F j (.cells cs t (0,0))->su w' F j (.cells cs t (0,0)):=fun j cs t ht hj=>⟨(k.block j hj.lt (Zi hr hj.1 (Ne.symm ht))).trans hj.1,hj.2⟩
 rcases h with⟨h1,Pb,h2,h3⟩ | ⟨h1,A,h2,h3⟩ | ⟨h1,Pb,A,h2,h3,h4⟩
 ·exact Or.inl ⟨h1,Pb,h2,hk _ _ _ (by decide) h3⟩
 ·exact Or.inr (Or.inl ⟨h1,A,h2,hk _ _ _ (by decide) h3⟩)
 ·exact Or.inr (Or.inr ⟨h1,Pb,A,h2,hk _ _ _ (by decide) h3,hk _ _ _ (by decide) h4⟩)
theorem Tryz.sZ:(Tryz.prog.info? 66).map (fun i=>(i.zero,i.size,i.bytes))=some (some .nilFunc,1,8):=by kernel_rfl
theorem Zum{L:List Value}(h:w.ownsRow base 66 1 v L.length L)(hb:base<=w.heap.size)(hl:L.length<=100000)(f:Fn)(bK:Array Value):
  ∃ao c w',Sem.run Tryz.prog (Builtin.append_ #[59,59] 59 #[v,.slice (some ⟨w.heap.size,0,none⟩) 1 1]) (w.alloc (.cells #[.func f #[] bK] 66))=.ok (.slice ao (L.length+1) c) w'/\w'.ownsRow base 66 1 (.slice ao (L.length+1) c) (L.length+1) (L++[.func f #[] bK])/\Za (v.ownBlock=some ·) w w':=by
 obtain⟨i0,hi,hz0,hz1,hz2⟩:=info_parts Tryz.sZ;obtain⟨v',w3,hrun,ho,hgr,hbk⟩:=JF (P:=Tryz.prog) (w.alloc (.cells #[.func f #[] bK] 66)) base 59 59 66 i0 _ 1 8 Tryz.underlying59 hi hz0 hz1 hz2 rfl (by decide) v L.length _ (h.alloc _)
  (ak w.heap.size) 1 1 [.func f #[] bK] rfl (aV w _ _) (by intro u hu;simp at hu;subst hu;rfl) (by unfold maxLen;omega) (by omega) (by simp;omega)
 obtain⟨ao,c,rfl⟩:=aj ho;exact⟨ao,c,w3,hrun,ho,((Za.refl _ w).alloc _).grown hgr (fun k hk _=>hk)⟩
structure Ey (w:World) (X:Nat) (Bs:List Bt) (fs:List Value) (v:Value) (wr:World):Prop where
 row:wr.ownsRow w.heap.size 66 1 v fs.length fs
 one:∀(i:Nat) (h:i<fs.length) (h2:i<Bs.length) (F:az),(∀k,F k->k<w.heap.size)->pX X Bs[i] fs[i] wr F
 keeps:Za ai w wr
variable {f:Fn}
theorem Ey.more{X:Nat}{Bs:List Bt}{fs:List Value}{v':Value}{wr w5 wA:World}(h:Ey w X Bs fs v wr)(k5:Za ai wr w5)(k2:Za ai w5 w2)(hf:∀F:az,(∀k,F k->k<w5.heap.size)->pX X b (.func f #[] bK) w2 F)(hb:∀h:fs.length<Bs.length,Bs[fs.length]=b)
  (ho:wA.ownsRow w.heap.size 66 1 v' (fs.length+1) (fs++[.func f #[] bK])) (kA:Za (v.ownBlock=some ·) w2 wA):Ey w X Bs (fs++[.func f #[] bK]) v' wA:=by
 have Oa:=k5.trans k2;have hrow:=Zb h.row Oa (fun _ _ h=>h);refine⟨by rw[List.length_append];exact ho,fun i hi hi2 F hF=>?_,?_⟩
 ·by_cases hlt:i<fs.length
  ·have h1:=(h.one i hlt hi2 F hF).later (aH.ay Oa);have h2:=h1.row hrow kA;rw[List.getElem_append_left hlt];exact h2
  ·have e:i=fs.length:=by rw[List.length_append] at hi;simp at hi;omega
   subst e;have h1:=hf F (fun k hk=>by have:=hF k hk;have:=h.keeps.size;have:=k5.size;omega);rw[List.getElem_append_right (Nat.le_refl _),hb hi2];simp only[Nat.sub_self,List.getElem_cons_zero];exact h1.row hrow kA
 ·exact((h.keeps.trans Oa).trans' kA (fun i hi hk=>by have:=(hrow.lt i hk).1;omega))
theorem ZmZ{X n cap:Nat}{ao:Option Addr}{Bs:List Bt}(h:BR w base (.slice ao n cap) Bs)(hn:Bs.length=n)(hl:n<=1000)(hge:∀b∈Bs,(-1:Int)<=b.1):
  au 21 #[ae X,.slice ao n cap] w fun e w' =>∃a2 c2 fs,e=.returned (.slice a2 n c2)/\fs.length=n/\Ey w X Bs fs (.slice a2 n c2) w':=by
 have HN:Hid (Bs.length=n):=hn;have HB:Hid (BR w base (.slice ao n cap) Bs):=h;have HGe:Hid (∀b∈Bs,(-1:Int)<=b.1):=hge;clear hn h hge;go_enter Tryz.func21,Tryz.ntmps21;go_wp2;go_loopg [5,10] (n+1) (fun gl s5 s10 wr =>∃(k:Nat) (a2:Option Addr) (c2:Nat) (fs:List Value),k+gl=n+1/\k<=n/\s5=.slice a2 k c2/\s10=.int .i64 (k:Int)/\Hid (fs.length=k/\Ey w X Bs fs (.slice a2 k c2) wr))
 case atStart=>exact⟨0,none,0,[],by omega,by omega,rfl,rfl,rfl,World.ownsRow_nil _ _ _ _,fun i hi=>by simp at hi,Za.refl _ _⟩
 case round =>
  obtain⟨k,a2,c2,fs,hgl,hk,rfl,rfl,HI⟩:=hrel;have HG:Hid (k+gk=n+1):=hgl;clear hgl
  by_cases hlt:k<n
  ·have hz:(k:Int)<(n:Int):=by omega
   have hkl:k<Bs.length:=by have:=HN.out;omega
   have hrow:=Zb HB.out HI.out.2.keeps (fun _ _ h=>h);rw[HN.out] at hrow;obtain⟨g,rfl⟩:∃g,ao=some ⟨g,0,none⟩:=by
    obtain⟨n0,rfl⟩:∃n0,n=n0+1:=⟨n-1,by omega⟩;obtain⟨g,cp,hv,-⟩:=ZM hrow
    cases hv
    exact⟨g,rfl⟩
   obtain⟨c1,c2'⟩:=Jy Bs k Bs[k] (List.getElem?_eq_getElem hkl);have a0:=hrow.cellAt (k*2) (by omega);have a1:=hrow.cellAt (k*2+1) (by omega);rw[c1] at a0;rw[c2'] at a1;have hgb:=HGe.out Bs[k] (List.getElem_mem hkl);have Vj:Hid (∀h:k<Bs.length,Bs[k]=Bs[k]'hkl):=fun _=>rfl;generalize Bs[k]'hkl=r at a0 a1 hgb Vj;obtain⟨x,y⟩:=r;simp only at a0 a1 hgb;have kB:Za ai wr (wr.alloc (.cells #[.int .i64 x,.string y] 73)):=QT;have bB:(wr.alloc (.cells #[.int .i64 x,.string y] 73)).heap[wr.heap.size]?=some (.cells #[.int .i64 x,.string y] 73 (0,0)):=heap_alloc_new _ _;clear hrow c1 c2';go_upto_region 5 with fail;generalize (wr.alloc (.cells #[.int .i64 x,.string y] 73))=w5 at kB bB ⊢;generalize wr.heap.size=P2 at bB ⊢;have d0:w5.cell? (ak P2)=some (.int .i64 x):=by rw[Zc bB];rfl
   have d1:w5.cell? ⟨P2,1,none⟩=some (.string y):=by rw[Zc bB];rfl
   have hcall:=Zlr (w:=w5) (X:=X) (g:=x) (x:=y) hgb;have HA:Hid (∀(f:Fn) (bK:Array Value) (w2:World),Za ai w5 w2->(∀F:az,(∀k,F k->k<w5.heap.size)->pX X (x,y) (.func f #[] bK) w2 F)->∃aA cA wA,Sem.run Tryz.prog (Builtin.append_ #[59,59] 59 #[.slice a2 k c2,.slice (some ⟨w2.heap.size,0,none⟩) 1 1]) (w2.alloc (.cells #[.func f #[] bK] 66))=.ok (.slice aA (k+1) cA) wA/\Hid (Ey w X Bs (fs++[.func f #[] bK]) (.slice aA (k+1) cA) wA)):=by
    intro f bK w2 hk2 hf;obtain⟨e1,hR⟩:=HI.out;have hrow2:=Zb hR.row (kB.trans hk2) (fun _ _ h=>h);obtain⟨aA,cA,wA,hrun,hoA,iH⟩:=Zum hrow2 (by have:=hR.keeps.size;have:=kB.size;have:=hk2.size;omega) (by omega) f bK;have hM:=hR.more kB hk2 hf (fun h=>by have:=Vj.out (by omega);subst e1;exact this) hoA iH;rw[e1] at hrun hM;exact⟨aA,cA,wA,hrun,hM⟩
   have Ew:Hid (fs.length=k):=HI.out.1;clear HI Vj a0 a1 bB kB hkl hgb;go_wp2_with(first|(go_at_call 41;refine hcall.mono ?_;rintro e w2 ⟨f,bK,rfl,HF,hk2⟩;obtain⟨aA,cA,wA,hrun,HM⟩:=HA.out f bK w2 hk2 HF.out)|(at_builtin;refine Zj rfl _ _ _ _ rfl rfl (.slice a2 k c2) _ _ _ rfl rfl hrun ?_))
   go_roundg (gk-1)
   case measure=>have:=HG.out;omega
   case rel=>exact⟨k+1,aA,cA,fs++[.func f #[] bK],by have:=HG.out;omega,by omega,rfl,congrArg (Value.int .i64) (by omega),by rw[List.length_append,Ew.out];rfl,HM.out⟩
  ·obtain rfl:k=n:=by omega
   clear hlt;go_wp2;go_ret;exact⟨a2,c2,fs,rfl,HI.out.1,HI.out.2⟩
end Go.Proofs.YtfkflljplohhcaaGreatDoor
namespace Go.Proofs.YtfkflljplohhcaaGreatDoor
open Go.RowKit Go.Shelf
attribute [local go_sem] Oper.semAt_some
variable {R Q:aO}{w w' w2:World}{F Fr F2:az}{v tv:Value}{base N Xa Py Pg most:Nat}{bK:Array Value}{xt:ByteArray}
theorem ZnN(hR:Zs R)(hQ:Zs Q){F' F1:az}(h:iW R Q w F Fr F1 F2)(l:aH w F w' F')(hF:∀k,Fr k->F' k)(hk:∀k,Fr k->w'.heap[k]?=w.heap[k]?):iW R Q w' F' Fr F1 F2 :=
 ⟨h.all,h.fe,hR.frame h.one l (fun k hk1=>hF k ((h.all k).2 (Or.inl hk1))) (fun k hk1=>hk k ((h.all k).2 (Or.inl hk1))),hQ.frame h.two l (fun k hk1=>hF k ((h.all k).2 (Or.inr hk1))) (fun k hk1=>hk k ((h.all k).2 (Or.inr hk1)))⟩
def Ez (P:Nat) (n:Nat):aO:=fun w F Fr=>(∀k,Fr k↔k=P)/\F P/\aP w P 3 (.int .i64 (n:Int))
theorem DF(P n:Nat):Zs (Ez P n):=by
 refine⟨?_,?_⟩
 ·rintro w F Fr ⟨h1,h2,h3⟩ k hk;obtain rfl:=(h1 k).1 hk;exact⟨h2,h3.lt⟩
 ·rintro w w' F F' Fr ⟨h1,h2,h3⟩ l hF' hk;exact⟨h1,hF' P ((h1 P).2 rfl),by unfold aP at h3 ⊢;rw[hk P ((h1 P).2 rfl)];exact h3⟩
def Cr (Py Pm Pg most:Nat) (τ:zH) (b:Nat) (out:List Mt):aO:=fun w F Fr=>eY w F Py 0 (.func (.yield τ.l) #[] #[])/\eY w F Pm 0 (.int .i64 (most:Int))/\∃F1 F2,iW (τ.tl b out) (Ez Pg out.length) w F Fr F1 F2
variable {Al:List Mt}{τ:zH}
theorem Sj(hτ:rW N Al Xa xt τ)(Py Pm Pg most b:Nat)(out:List Mt):Zs (Cr Py Pm Pg most τ b out):=by
 refine⟨?_,?_⟩
 ·rintro w F Fr ⟨-,-,F1,F2,h⟩ k hk
  rcases(h.all k).1 hk with hk | hk
  ·exact(hτ.ok b out).lt h.one k hk
  ·exact(DF _ _).lt h.two k hk
 ·rintro w w' F F' Fr ⟨h1,h2,F1,F2,h⟩ l hF' hk;exact⟨h1.later l,h2.later l,F1,F2,ZnN (hτ.ok b out) (DF _ _) h l hF' hk⟩
theorem Zuq(hτ:rW N Al Xa xt τ){Pm:Nat}(b b':Nat)(out:List Mt)(w:World)(F Fr:az)(hb:b<=b')(h:Cr Py Pm Pg most τ b out w F Fr):Cr Py Pm Pg most τ b' out w F Fr:=by
 obtain⟨h1,h2,F1,F2,h⟩:=h;exact⟨h1,h2,F1,F2,h.all,h.fe,hτ.up _ _ _ _ _ _ hb h.one,h.two⟩
variable {bf:az}
theorem Zrz{w1:World}{P:Nat}(k1:Za ai w w1)(hP:w.heap.size<=P)(t:aJ w1 (fun k=>F k\/k=P) (fun k=>k=P\/Fr k) w2 F2 bf):aJ w F Fr w2 F2 bf:=by
 refine⟨?_,fun k hk=>?_,fun k hk=>?_,fun k hs hk hn=>?_,t.own⟩
 ·exact((k1.mono (fun _ _ h=>h.elim)).trans' (E:=Fr) t.keeps (fun i hi h=>h.elim (fun e=>by omega) id))
 ·rcases t.fresh k hk with(h | h) | h
  ·exact Or.inr (by omega)
  ·exact Or.inl h
  ·exact Or.inr (Nat.le_trans k1.size h)
 ·rcases t.out k hk with⟨h1,h2⟩ | h
  ·rcases h1 with h1 | h1
   ·exact Or.inl ⟨h1,fun h=>h2 (Or.inr h)⟩
   ·exact absurd (Or.inl h1) h2
  ·exact Or.inr h
 ·exact t.dP k (Nat.lt_of_lt_of_le hs k1.size) (Or.inl hk) (fun h=>h.elim (fun e=>by omega) hn)
variable {C:Cx}{ρ:Rx}{U:aO}
theorem Znb{T':Tt}{D:Nat}{mine:List aO}(hU:Zs U)(ha:∀R∈mine,Zs R)(h:Zr (aR C ρ tv T'::l9 D::U::mine) w2 F2 bf)(t:aJ w F Fr w2 F2 bf):
  w2.heap[D]?=some (.deferred (some []))/\∃F3 fV,Zr (aR C ρ tv T'::U::mine) (w2.putObj D (.deferred none)) F3 fV/\aJ w F Fr (w2.putObj D (.deferred none)) F3 fV:=by
 have ug:Zs (Zr (aR C ρ tv T'::U::mine)):=ZT (fun R hR=>by
  rcases List.mem_cons.1 hR with rfl | hR
  ·exact QA _ _ _ _
  ·rcases List.mem_cons.1 hR with rfl | hR
   ·exact hU
   ·exact ha R hR)
 obtain⟨FD,Fl,hA⟩:=Zo.1 (Zy h);obtain⟨hD1,hD2,hD3⟩:=id hA.one;have kD:Za FD w2 (w2.putObj D (.deferred none)):=(JZ w2 D _).mono (fun k _ e=>(hD1 k).2 e);have tD:aJ w2 F2 FD (w2.putObj D (.deferred none)) F2 FD:=aJ.same (fun k hk=>((QO D).lt hA.one k hk).1) kD;obtain⟨hA2,t2⟩:=hA.upd (R':=Le) (QO D) ug tD (fun k hk=>⟨((QO D).lt hA.one k hk).1,Nat.lt_of_lt_of_le ((QO D).lt hA.one k hk).2 kD.size⟩);obtain⟨G1,G2,-,q2,q3⟩:=Ca SA ug (Zo.2 ⟨_,_,hA2⟩) (t.trans t2);exact⟨hD3,_,G2,q2,q3⟩
theorem ZjI{S:aO}{mine:List aO}(h:Zr (S::U::mine) w F Fr)(hU:∀Fu,U w F Fu->∃F1 F2,iW R Q w F Fu F1 F2):Zr (Q::S::R::mine) w F Fr:=by
 obtain⟨A1,A2,eA,dA,hS,U1,M1,eU,dU,hu,hM⟩:=h;obtain⟨G1,G2,hG⟩:=hU U1 hu;refine⟨G2,fun k=>A1 k\/G1 k\/M1 k,fun k=>?_,fun k h1 h2=>?_,hG.two,A1,fun k=>G1 k\/M1 k,fun k=>Iff.rfl,fun k h1 h2=>?_,hS,G1,M1,fun k=>Iff.rfl,fun k h1 h2=>?_,hG.one,hM⟩
 ·rw[eA k,eU k,hG.all k];constructor
  ·rintro(h |(h | h) | h)
   ·exact Or.inr (Or.inl h)
   ·exact Or.inr (Or.inr (Or.inl h))
   ·exact Or.inl h
   ·exact Or.inr (Or.inr (Or.inr h))
  ·rintro(h | h | h | h)
   ·exact Or.inr (Or.inl (Or.inr h))
   ·exact Or.inl h
   ·exact Or.inr (Or.inl (Or.inl h))
   ·exact Or.inr (Or.inr h)
 ·rcases h2 with h2 | h2 | h2
  ·exact dA k h2 ((eU k).2 (Or.inl ((hG.all k).2 (Or.inr h1))))
  ·exact hG.fe k h2 h1
  ·exact dU k ((hG.all k).2 (Or.inr h1)) h2
 ·rcases h2 with h2 | h2
  ·exact dA k h1 ((eU k).2 (Or.inl ((hG.all k).2 (Or.inl h2))))
  ·exact dA k h1 ((eU k).2 (Or.inr h2))
 ·exact dU k ((hG.all k).2 (Or.inl h1)) h2
variable {f:Fn}
theorem ZkJ{n:Int}:au 22 #[.int .i64 n,.func f #[] bK] w fun e w'=>e=.returned (.func (.func 42) #[] #[ae w.heap.size,.pointer (some ⟨w.heap.size+1,0,none⟩)])/\aP w' w.heap.size 3 (.int .i64 n)/\aP w' (w.heap.size+1) 62 (.func f #[] bK)/\Za ai w w':=by
 have mR:∀(fn:Fn) (first cap:Array Value) (w:World),(Instr.makeFunc fn first cap).run Tryz.prog w=.ok (.func fn first cap) w:=fun _ _ _ _=>rfl;have b1:=fU w (.cells #[.int .i64 n] 3) (.cells #[.func f #[] bK] 62);have b2:=gH w (.cells #[.int .i64 n] 3) (.cells #[.func f #[] bK] 62);go_enter Tryz.func22,Tryz.ntmps22;go_wp2;go_ret;exact⟨rfl,b1,b2,((Za.refl _ _).alloc _).alloc _⟩
theorem JA{G T:Prop}(m:G->T)(g:G):T:=m g
theorem Jn{P:Program}{Fe:Fence}{nn:Nat}{ops:Array Oper}{o:Oper}{a:Act}{K:Act->World->Prop}{Q:Exit->Act->World->Prop}{E:Prop}
  (hg:o.guard=none) (s x:Operand) (t t2 ty:TypeId) (hop:o.op=Op.call { callee:=Callee.builtin Builtin.append,args:=#[s,x],argTypes:=#[t,t2] }) (hty:o.type=ty)
  (v y v':Value) (w':World) (hs:a.eval s=v) (hx:a.eval x=y) (hrun:Sem.run P (Builtin.append_ #[t,t2] ty #[v,y]) w=.ok v' w')
  (hK:K (a.put o.dst v') w') :
  if Region.wanted o (yielded ops a.tmps)=true then Oper.wpIn Fe nn P o a w K Q else E:=by
 have hw:Region.wanted o (yielded ops a.tmps)=true:=by simp[Region.wanted,hg]
 rw[if_pos hw];unfold Oper.wpIn;refine⟨?_,?_⟩
 ·simp[Oper.about,hop,resolve,Target.leads,Sem.run_pure]
 ·rw[Oper.semAt_plain Fe _ _ (by rw[hop];intro c hc';cases hc')];simp[execOp,hop,hty,resolve,invoke,builtin,hs,hx,hrun,Result.andThen];exact hK
theorem ZjL{u:ByteArray}{a b:Nat}(h1:a<=b)(h2:b<=u.size)(w:World):(Instr.slice 9 (.string u) (some (.int .i64 (a:Int))) (some (.int .i64 (b:Int))) none).run Tryz.prog w=.ok (.string (u.extract a b)) w:=by
 rw[run_slice_string_if w 9 u .i64 .i64 (a:Int) (b:Int) Tryz.underlying9,if_pos (by omega),if_pos (by omega)];rfl
theorem ZsY(hτ:rW N Al Xa xt τ){Pm b:Nat}{out:List Mt}{m:Mt}{ag:Option Addr}{ng cg:Nat}{Fu:az}(hU:Cr Py Pm Pg most τ b out w F Fu)(aW:Fb w F)(hb:b<=w.heap.size)(hrow:w.ownsRow b 118 2 (.slice ag ng cg) m.gs.length (ZD m.gs))(hnF:∀k,(Value.slice ag ng cg).ownBlock=some k->¬F k)(h1:m.ok=true)(h2:m.gs.length<=9)(h3:0<=m.fr)(h4:m.fr<=m.up)(h5:m.up<=(N:Int))(h6:out.length < τ.cap)(h7 : τ.on out=true)(h8:out++[m] <+: Al)(hT:pM Xa xt w):
  w.cell? (ak Pg)=some (.int .i64 (out.length:Int))/\w.frozen? (ak Pg)=false/\(w.setCell (ak Pg) (.int .i64 ((out.length:Int)+1))).cell? (ak Py)=some (.func (.yield τ.l) #[] #[])/\Za (·=Pg) w (w.setCell (ak Pg) (.int .i64 ((out.length:Int)+1)))/\Fu Pg/\
  YieldAt Fence.wide 0 Tryz.prog τ.l #[.agg #[.bool m.ok,.int .i64 m.fr,.int .i64 m.up,.slice ag ng cg]] (w.setCell (ak Pg) (.int .i64 ((out.length:Int)+1))) fun e w'=>e=.returned (.bool (τ.on (out++[m])))/\w'.cell? (ak Pg)=some (.int .i64 ((out.length:Int)+1))/\w'.cell? (ak Pm)=some (.int .i64 (most:Int))/\Hid (∃F' si,Cr Py Pm Pg most τ w'.heap.size (out++[m]) w' F' si/\aJ w F Fu w' F' si):=by
 obtain⟨cy,cm,F1,F2,hA⟩:=hU;obtain⟨e1,e2,e3⟩:=hA.two;have hP2:F2 Pg:=(e1 Pg).2 rfl;have hFu:Fu Pg:=(hA.all Pg).2 (Or.inr hP2);have kS:Za (·=Pg) w (w.setCell (ak Pg) (.int .i64 ((out.length:Int)+1))):=Zh _ _ _ _;have e4:aP (w.setCell (ak Pg) (.int .i64 ((out.length:Int)+1))) Pg 3 (.int .i64 ((out.length:Int)+1)):=by unfold aP at e3 ⊢;rw[heap_setCell_same _ _ _ _ _ _ e3];rfl
 have c0:=e3.cell;have f0:=Zv e3 (i:=0);have dm:aH w F (w.setCell (ak Pg) (.int .i64 ((out.length:Int)+1))) F:=⟨kS.mono (fun k _ e=>e ▸ e2),fun k h=>Or.inl h⟩;have t2:aJ w F F2 (w.setCell (ak Pg) (.int .i64 ((out.length:Int)+1))) F F2:=aJ.same (fun k hk=>((DF _ _).lt hA.two k hk).1) (kS.mono (fun k _ e=>(e1 k).2 e));have hA':iW (Ez Pg out.length) (τ.tl b out) w F Fu F2 F1:=⟨fun k=>(hA.all k).trans Or.comm,fun k h1 h2=>hA.fe k h2 h1,hA.two,hA.one⟩;have hC2:Ez Pg (out++[m]).length (w.setCell (ak Pg) (.int .i64 ((out.length:Int)+1))) F F2:=⟨e1,e2,by rw[List.length_append];exact e4⟩;obtain⟨hB,tB⟩:=hA'.upd (DF _ _) (hτ.ok b out) t2 hC2;have hTx:pM Xa xt (w.setCell (ak Pg) (.int .i64 ((out.length:Int)+1))):=hT.keeps kS (fun e=>by
  obtain⟨cs,hX1,-⟩:=hT;unfold aP at e3;rw[e,e3] at hX1;simp only[Option.some.injEq,Obj.cells.injEq] at hX1;exact absurd hX1.2.1 (by decide))
 obtain⟨hr,hn⟩:=ZB ⟨hrow,hnF⟩ dm;have WZ:=cy.later dm;have Xd:=cm.later dm;have lK:Fb (w.setCell (ak Pg) (.int .i64 ((out.length:Int)+1))) F:=aW.keeps kS;generalize (w.setCell (ak Pg) (.int .i64 ((out.length:Int)+1)))=w2 at *;refine⟨c0,f0,WZ.1,kS,hFu,?_⟩;refine(hτ.yl w2 F F1 b out m ag ng cg lK hB.two (Nat.le_trans hb kS.size) hr hn h1 h2 h3 h4 h5 h6 h7 h8 hTx).mono ?_;rintro e w' ⟨rfl,F',aM,g1,g2⟩;have hB':iW (τ.tl b out) (Ez Pg (out++[m]).length) w2 F (fun k=>F2 k\/F1 k) F1 F2:=⟨fun k=>Or.comm,fun k h1 h2=>hB.fe k h2 h1,hB.two,hB.one⟩;obtain⟨hD,tD⟩:=hB'.upd (hτ.ok b out) (DF _ _) g2 g1;have hF1:∀k,F1 k->F k:=fun k hk=>((hτ.ok b out).lt hB.two k hk).1;have l2:aH w2 F w' F':=g2.dm hF1;have e5:=hD.two.2.2;rw[List.length_append] at e5;exact⟨rfl,e5.cell,(Xd.later l2).1,F',_,⟨WZ.later l2,Xd.later l2,aM,F2,hD⟩,tB.trans tD⟩
theorem ZkI{X:Xs}{B:Option Bo}{mine:List aO}{T:Tt}{A Pm Pf b0:Nat}(hτ:rW C.u.size ((Q5 (fun a=>(X a).map (QN C.G a)) C.u.size (C.u.size+2) 0).take most) C.X C.u τ)(hS:ja C w F ρ.bg X B mine)(hA:eY w F A 0 ((ae C.X)))(hM:eY w F Pm 0 (.int .i64 (most:Int)))(PN:eY w F Pf 0 (.func (.func 43) #[] #[ae A]))(hR:Zr (aR C ρ tv T::τ.tl b0 []::mine) w F Fr)(aW:Fb w F)(hrd:iB C.u.size T B)(hX:dh C.u.size 0 C.G X)(hu:C.u.size<=200)(hG:C.G<=9)(hb:b0<=w.heap.size)(hcap:C.u.size+1<=τ.cap)(hmz:(most:Int)<=9223372036854775807):
  au 42 #[.func (.yield τ.l) #[] #[],ae Pm,ae Pf] w (zG C ρ B mine τ (Q2 τ.on [] ((Q5 (fun a=>(X a).map (QN C.G a)) C.u.size (C.u.size+2) 0).take most)) w F Fr):=by
 have hfn:∀f,Fence.wide.fn f:=fun _=>trivial;have hdp:Fence.wide.depth=none:=rfl;have hok0:=xV (C:=C) (ρ := ρ) (tv:=tv) (T:=T) hS.ok (hτ.ok b0 []);have gQ:=hok0.lt hR;have k1:Za ai w (w.alloc (.cells #[.func (.yield τ.l) #[] #[]] 108)):=QT;have bY:aP (w.alloc (.cells #[.func (.yield τ.l) #[] #[]] 108)) w.heap.size 108 (.func (.yield τ.l) #[] #[]):=heap_alloc_new _ _;have l1:aH w F (w.alloc (.cells #[.func (.yield τ.l) #[] #[]] 108)) F:=aH.ay k1;have aK:=hok0.frame hR l1 (fun k hk=>(gQ k hk).1) (fun k hk=>k1.block k (gQ k hk).2 id);have t1:aJ w F Fr (w.alloc (.cells #[.func (.yield τ.l) #[] #[]] 108)) F Fr:=aJ.ay (fun k hk=>(gQ k hk).1) k1;have VX:¬F w.heap.size:=fun h=>by have:=aW _ h;omega
 have cM:=(hM.later l1).1;refine(callsIn_wide (n:=3)).1 ?_;refine callsIn_of_wp_marks Tryz.func42 rfl trivial ?_;simp only[Tryz.ntmps42,List.size_toArray,List.length_cons,List.length_nil,Nat.reduceAdd,Nat.reduceSub,Array.replicate_succ,Array.replicate_zero,List.push_toArray,List.append_toArray,List.nil_append,List.cons_append]
 by_cases hmo:most=0
 ·subst hmo;have HF:Hid (zG C ρ B mine τ [] w F Fr (.returned (.tuple #[])) (w.alloc (.cells #[.func (.yield τ.l) #[] #[]] 108))):=⟨rfl,T,tv,F,Fr,b0,aK,t1,hrd⟩;have cM0:(w.alloc (.cells #[.func (.yield τ.l) #[] #[]] 108)).cell? (ak Pm)=some (.int .i64 0):=cM;clear hτ hS hA hM PN hR aW hrd hX hok0 gQ bY l1 aK t1 cM;gi_wp2;refine⟨_,results_none rfl _ _ _,?_⟩;exact HF.out
 ·have hmp:0<most:=by omega
  have z1:((most:Int) == 0)=false:=by simp;omega
  have k2:Za ai w ((w.alloc (.cells #[.func (.yield τ.l) #[] #[]] 108)).alloc (.cells #[.int .i64 0] 3)):=k1.alloc _;have RL:aP ((w.alloc (.cells #[.func (.yield τ.l) #[] #[]] 108)).alloc (.cells #[.int .i64 0] 3)) w.heap.size 108 (.func (.yield τ.l) #[] #[]):=fU w _ _;have RX:aP ((w.alloc (.cells #[.func (.yield τ.l) #[] #[]] 108)).alloc (.cells #[.int .i64 0] 3)) (w.heap.size+1) 3 (.int .i64 0):=gH w _ _;obtain⟨F2,hF2⟩:∃F2:az,F2=fun i=>F i\/i=w.heap.size+1:=⟨_,rfl⟩;have l2:aH w F ((w.alloc (.cells #[.func (.yield τ.l) #[] #[]] 108)).alloc (.cells #[.int .i64 0] 3)) F2:=⟨k2.mono (fun _ _ h=>h.elim),fun i hi=>by rw[hF2] at hi;exact hi.imp id (fun e=>by omega)⟩;have hR2:=hok0.frame hR l2 (fun k hk=>by rw[hF2];exact Or.inl (gQ k hk).1) (fun k hk=>k2.block k (gQ k hk).2 id);have hM2:=hM.later l2;have hA2:=hA.later l2;have A7:=PN.later l2;have hS2:=hS.later l2;have hY2:eY ((w.alloc (.cells #[.func (.yield τ.l) #[] #[]] 108)).alloc (.cells #[.int .i64 0] 3)) F2 w.heap.size 0 (.func (.yield τ.l) #[] #[]):=⟨RL.cell,by rw[hF2];intro h;rcases h with h | h;exact VX h;omega,RL.lt⟩;have hsz2:=RX.lt;have lK:Fb ((w.alloc (.cells #[.func (.yield τ.l) #[] #[]] 108)).alloc (.cells #[.int .i64 0] 3)) F2:=fun i hi=>by
   rw[hF2] at hi
   rcases hi with h | h
   ·have:=aW i h;omega
   ·omega
  have hlt2:∀k,Fr k->k≠w.heap.size+1:=fun k hk e=>by have:=(gQ k hk).2;omega
  have gB:Zr (aR C ρ tv T::Cr w.heap.size Pm (w.heap.size+1) most τ b0 []::mine) ((w.alloc (.cells #[.func (.yield τ.l) #[] #[]] 108)).alloc (.cells #[.int .i64 0] 3)) F2 (fun k=>k=w.heap.size+1\/Fr k):=by
   obtain⟨A1,A2,eA,dA,iD,D1,M1,eD,dD,htl,dK⟩:=hR2;have hD:∀k,D1 k->Fr k:=fun k h=>(eA k).2 (Or.inr ((eD k).2 (Or.inl h)));have WH:∀k,M1 k->Fr k:=fun k h=>(eA k).2 (Or.inr ((eD k).2 (Or.inr h)));refine⟨A1,fun k=>(D1 k\/k=w.heap.size+1)\/M1 k,fun k=>?_,fun k h1 h2=>?_,iD,fun k=>D1 k\/k=w.heap.size+1,M1,fun k=>Iff.rfl,fun k h1 h2=>?_,⟨hY2,hM2,D1,fun k=>k=w.heap.size+1,fun k=>Iff.rfl,fun k h1 h2=>hlt2 k (hD k h1) h2,htl,fun k=>Iff.rfl,by rw[hF2];exact Or.inr rfl,RX⟩,dK⟩
   ·constructor
    ·rintro(h | h)
     ·exact Or.inr (Or.inl (Or.inr h))
     ·rcases(eA k).1 h with h | h
      ·exact Or.inl h
      ·rcases(eD k).1 h with h | h
       ·exact Or.inr (Or.inl (Or.inl h))
       ·exact Or.inr (Or.inr h)
    ·rintro(h |(h | h) | h)
     ·exact Or.inr ((eA k).2 (Or.inl h))
     ·exact Or.inr (hD k h)
     ·exact Or.inl h
     ·exact Or.inr (WH k h)
   ·rcases h2 with(h2 | h2) | h2
    ·exact dA k h1 ((eD k).2 (Or.inl h2))
    ·exact hlt2 k ((eA k).2 (Or.inl h1)) h2
    ·exact dA k h1 ((eD k).2 (Or.inr h2))
   ·rcases h1 with h1 | h1
    ·exact dD k h1 h2
    ·exact hlt2 k (WH k h2) h1
  have Xe:=A7.1;have HR3:Hid _:=gB;have hok:=hS.ok;have hbz:b0<=((w.alloc (.cells #[.func (.yield τ.l) #[] #[]] 108)).alloc (.cells #[.int .i64 0] 3)).heap.size:=Nat.le_trans hb k2.size;clear gB hR2 hR aK t1 l1 gQ hok0 hS hA hM PN bY RL RX VX hlt2;gi_wp2;refine ZbS (cap := τ.cap) (cc:=nX τ.on most) (b0:=b0) (ρ := ρ) (X:=X) (U:=Cr w.heap.size Pm (w.heap.size+1) most τ) (fun b out=>Sj hτ _ _ _ _ b out) (fun b b' out w F Fr hb h=>Zuq hτ b b' out w F Fr hb h) (by simp[nX]) rfl ?round rfl hS2 hA2 lK HR3.out hrd hX hu hG hbz hcap ?done
  case round =>
   intro l w5 F5 Fu b out m ag ng cg fP hU hb5 hrow hnF h1 h2 h3 h4 h5 hn hcc hpx pg hll hnl;obtain⟨hon,hlen⟩:=ZqI hτ.Vw hmp hcc;have Ah:=List.prefix_take_iff.2 ⟨hpx,show (out++[m]).length<=most by rw[List.length_append];exact hlen⟩;have PM:∀k,Fu k->k<w5.heap.size:=fun k hk=>((Sj hτ _ _ _ _ b out).lt hU k hk).2;clear hU hpx HR3 hA2 hS2 A7 hM2 hY2 lK hX hrd Xe cM;refine⟨fun a1 w6=>w6.heap[w5.heap.size]?=some (.cells #[.bool m.ok,.int .i64 m.fr,.int .i64 m.up,.slice ag ng cg] 38 (0,0))/\a1 = { tmps:=#[.func (.yield τ.l) #[] #[],ae Pm,ae Pf,ae w.heap.size,.pointer (some ⟨w.heap.size+1,0,none⟩),ae w5.heap.size,.int .i64 (most:Int),.bool false,.func (.func 43) #[] #[ae A],.agg #[.bool m.ok,.int .i64 m.fr,.int .i64 m.up,.slice ag ng cg],undef,undef,undef,undef,undef,undef,undef,undef,undef,undef,undef],defers := [] },?_,?_⟩
   ·have HK:Hid (Za ai w5 (w5.alloc (.cells #[.bool m.ok,.int .i64 m.fr,.int .i64 m.up,.slice ag ng cg] 38))):=QT;have HA:Hid ((w5.alloc (.cells #[.bool m.ok,.int .i64 m.fr,.int .i64 m.up,.slice ag ng cg] 38)).heap[w5.heap.size]?=some (.cells #[.bool m.ok,.int .i64 m.fr,.int .i64 m.up,.slice ag ng cg] 38 (0,0))):=heap_alloc_new _ _;clear h1 h2 h3 h4 h5 hrow hnF hn hcc Ah hon PM z1;gi_wp2;exact⟨HK.out,HA.out,by first | trivial | rfl⟩
   ·rintro a1 w6 w7 k6 ⟨AQ,rfl⟩ k7 hTx oZ;have AU:w7.heap[w5.heap.size]?=some (.cells #[.bool m.ok,.int .i64 m.fr,.int .i64 m.up,.slice ag ng cg] 38 (0,0)):=by rw[k7.block _ (lt_of_block AQ) (by omega)];exact AQ
    have qB:aH w5 F5 w7 F5:=(aH.ay k6).trans ⟨k7.mono (fun k _ e=>e ▸ pg),fun k h=>Or.inl h⟩;obtain⟨mJ,tZ⟩:=ZB ⟨hrow,hnF⟩ qB;have jq:Fb w7 F5:=(fP.keeps k6).keeps k7;obtain⟨c0,f0,cy,kS,G8,hY⟩:=ZsY hτ oZ jq (Nat.le_trans hb5 qB.size) mJ tZ h1 h2 h3 h4 h5 hn hon Ah hTx;have CV:=(kS.block _ (lt_of_block AU) (by have:=PM _ G8;omega)).trans AU;have hz:(out.length:Int)<9223372036854775807:=by omega
    obtain⟨HX1,jv,HX3⟩:=Zur (on := τ.on) (most:=most) (out:=out) (m:=m);have UT:Hid _:=HX1;have UR:Hid _:=jv;have UQ:Hid _:=HX3;obtain⟨N,hN⟩:∃N,out.length=N:=⟨_,rfl⟩;have HN:Hid (out.length=N):=hN;rw[hN] at c0 cy hY CV hz hlen kS;have hlz:(N:Int)<(most:Int):=by omega
    obtain⟨fn,tmps,assign,body,hy,qW⟩:=hY;have d0:(w7.setCell ⟨w.heap.size+1,0,none⟩ (.int .i64 ((N:Int)+1))).cell? (ak w5.heap.size)=some (.bool m.ok):=by rw[Zc CV];rfl
    have d1:(w7.setCell ⟨w.heap.size+1,0,none⟩ (.int .i64 ((N:Int)+1))).cell? ⟨w5.heap.size,1,none⟩=some (.int .i64 m.fr):=by rw[Zc CV];rfl
    have d2:(w7.setCell ⟨w.heap.size+1,0,none⟩ (.int .i64 ((N:Int)+1))).cell? ⟨w5.heap.size,2,none⟩=some (.int .i64 m.up):=by rw[Zc CV];rfl
    have d3:(w7.setCell ⟨w.heap.size+1,0,none⟩ (.int .i64 ((N:Int)+1))).cell? ⟨w5.heap.size,3,none⟩=some (.slice ag ng cg):=by rw[Zc CV];rfl
    clear h1 h2 h3 h4 h5 hrow hnF hn hcc Ah hon PM z1 CV kS AU AQ k6 k7 hTx oZ qB mJ tZ jq fP hb5 HX1 jv HX3 G8 hN hll hnl pg;gi_wp2;refine(show RoundIn (Fence.wide.inRound l) 0 Tryz.prog τ.l fn tmps assign body _ _ from TS qW).mono ?_;rintro e w9 ⟨rfl,cG,cMo,HU⟩;clear hy qW d0 d1 d2 d3 c0 f0 cy
    cases hon : τ.on (out++[m]) with
    | false =>
      have HX:Hid (xS (nX τ.on most (out++[m])) .ret):=UT.out hon;clear hon;gi_wp2;exact⟨HX.out,HU.out⟩
    | true =>
      by_cases hme:most=N+1
      ·have HX:Hid (xS (nX τ.on most (out++[m])) .ret):=UR.out hon (by have:=HN.out;omega);have z2:((N:Int)+1 == (most:Int))=true:=by simp;omega
       clear hon hme hlz hlen;gi_wp2;exact⟨HX.out,HU.out⟩
      ·have HX:Hid (xS (nX τ.on most (out++[m])) .normal):=UQ.out hon (by have:=HN.out;omega);have z2:((N:Int)+1 == (most:Int))=false:=by simp;omega
       clear hon hme hlz hlen;gi_wp2;exact⟨HX.out,HU.out⟩
  case done =>
   intro D b' out T' tv' w5 F5 gK hout hst nQ hD Af;have hcc:nX τ.on most out=none\/nX τ.on most out=some .ret:=by
    unfold nX
    split
    ·exact Or.inl rfl
    ·split
     ·exact Or.inr rfl
     ·exact Or.inl rfl
   obtain⟨hD1,F3,fV,q1,q2⟩:=Znb (Sj hτ _ _ _ _ b' out) hok hst nQ;have st:=ZjI (R := τ.tl b' out) (Q:=Ez (w.heap.size+1) out.length) q1 (fun Fu h=>h.2.2);obtain⟨FR,Fl,-,p2,p3⟩:=Ca (DF _ _) (xV hok (hτ.ok b' out)) st q2;rw[hF2] at p3;have hfin:=Zrz k2 (by omega) p3;rw[ZqH _ _ hmp] at hout;simp only[List.length_nil,Nat.sub_zero] at hout;have HF:Hid (zG C ρ B mine τ (Q2 τ.on [] ((Q5 (fun a=>(X a).map (QN C.G a)) C.u.size (C.u.size+2) 0).take most)) w F Fr (.returned (.tuple #[])) (w5.putObj D (.deferred none))):=⟨rfl,T',tv',_,Fl,b',by rw[<- hout];exact p2,hfin,Af⟩;have HD:Hid (w5.heap[D]?=some (.deferred (some []))):=hD1;clear hout hst nQ Af hD1 q1 q2 st p2 p3 hfin HR3 hA2 hS2 A7 hM2 hY2 lK hX hrd Xe cM z1 hτ hok
   rcases hcc with h | h
   ·simp only[h];gi_wp2;refine⟨by simp,.inl ⟨_,_,rfl,run_takeDeferred HD.out,?_⟩⟩;refine⟨_,results_none rfl _ _ _,?_⟩;exact HF.out
   ·simp only[h];gi_wp2;refine⟨by simp,.inl ⟨_,_,rfl,run_takeDeferred HD.out,?_⟩⟩;refine⟨_,results_none rfl _ _ _,?_⟩;exact HF.out
end Go.Proofs.YtfkflljplohhcaaGreatDoor
