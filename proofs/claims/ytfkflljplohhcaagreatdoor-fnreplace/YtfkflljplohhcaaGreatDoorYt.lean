import Derived.Test.YtfkflljplohhcaaGreatDoorYs
import Derived.Test.YtfkflljplohhcaaGreatDoorNa
set_option linter.unusedVariables false
set_option maxHeartbeats 2000000
set_option maxRecDepth 100000
namespace Go.Proofs.YtfkflljplohhcaaGreatDoor
open Go.RowKit Go.Shelf
attribute [local go_sem] Oper.semAt_some
variable {L:Nat->List Mt}
theorem ZkY{L':Nat->List Mt}{N:Nat}(h:∀a,a<=N->L a=L' a):∀(k p:Nat),Q5 L N k p=Q5 L' N k p:=by
 intro k
 induction k with
 | zero=>intro p;rfl
 | succ k ih =>
   intro p;have e:Z2 L (N+1-p) p=Z2 L' (N+1-p) p:=ZdJ fun a h1 h2=>h a (by omega);simp only[Q5,e,ih]
variable {s u:ByteArray}{w:World}{tl:Value}{A:Nat}
theorem ZnZ{g:Nat}{f:Pf}(hw:wanted s u 0=true)(ht:ZA s=.ok (g,f)):Z1 s u=Q5 (fun a=>(dx u [] f a).map (QN g a)) u.size (u.size+2) 0:=by
 unfold Z1;refine ZkY (fun a ha=>?_) _ _;have hw2:wanted s u (a:Int)=true:=by
  simp only[wanted,ht,Bool.true_and,Bool.and_eq_true,decide_eq_true_eq] at hw ⊢;omega
 simp[ZP,hw2,ht]
theorem Zko(h:∀a,L a = []):∀(k p:Nat),Z2 L k p=none:=by
 intro k
 induction k with
 | zero=>intro p;rfl
 | succ k ih=>intro p;simp only[Z2,h,ih]
theorem ZkX(hw:wanted s u 0≠true):Z1 s u = []:=by
 have h:∀a:Nat,ZP s u (a:Int) = []:=fun a=>by
  have hn:wanted s u (a:Int)=false:=by
   cases ht:ZA s with
   | error x=>simp[wanted,ht]
   | ok gf =>
     simp only[wanted,ht,Bool.true_and,Bool.and_eq_true,decide_eq_true_eq,ne_eq] at hw;simp only[wanted,ht,Bool.true_and,Bool.and_eq_false_iff,decide_eq_false_iff_not];left;left;omega
  simp[ZP,hn]
 unfold Z1;simp only[Q5,Zko h]
theorem Zmd(out l:List Mt):Q2 (fun _=>true) out l=out++l:=by
 induction l generalizing out with
 | nil=>simp[Q2]
 | cons m l ih=>simp[Q2,ih]
def zI (S B b:Nat) (out:List Mt):aO:=fun w F Fr =>∃(v:Value) (L:List Mm),aP w S 25 v/\L.map (·.1)=out/\w.ownsRow B 38 4 v L.length (L.flatMap Jx)/\Ch B w F L/\(∀k,Fr k↔k=S\/v.ownBlock=some k)/\(∀k,Fr k->F k)/\v.ownBlock≠some S/\B<=b/\∀x∈L,∀k,x.2.ownBlock=some k->k<b
theorem X5(S B b:Nat)(out:List Mt):Zs (zI S B b out):=by
 refine⟨?_,?_⟩
 ·rintro w F Fr ⟨v,L,h1,h2,h3,h4,h5,h6,h7,h8⟩ k hk;refine⟨h6 k hk,?_⟩
  rcases(h5 k).1 hk with rfl | hk
  ·exact h1.lt
  ·exact(h3.lt k hk).2
 ·rintro w w' F F' Fr ⟨v,L,h1,h2,h3,h4,h5,h6,h7,h8⟩ l hF' hk;exact⟨v,L,by unfold aP;rw[hk S ((h5 S).2 (Or.inl rfl))];exact h1,h2,QJ h3 (fun k h=>hk k ((h5 k).2 (Or.inr h))),h4.later l,h5,hF',h7,h8⟩
theorem ZtL(S B:Nat)(b b':Nat)(out:List Mt)(w:World)(F Fr:az)(hb:b<=b')(h:zI S B b out w F Fr):zI S B b' out w F Fr:=by
 obtain⟨v,L,h1,h2,h3,h4,h5,h6,h7,h8,h9⟩:=h;exact⟨v,L,h1,h2,h3,h4,h5,h6,h7,Nat.le_trans h8 hb,fun x hx k hk=>Nat.lt_of_lt_of_le (h9 x hx k hk) hb⟩
variable {F Fr:az}
theorem Zr9{S B b:Nat}{m:Mt}{out:List Mt}{a:Option Addr}{n c:Nat}{v:Value}{L:List Mm}(aW:Fb w F)(hb:b<=w.heap.size)(h1:aP w S 25 v)(h2:L.map (·.1)=out)(h3:w.ownsRow B 38 4 v L.length (L.flatMap Jx))(h4:Ch B w F L)(h5:∀k,Fr k↔k=S\/v.ownBlock=some k)(h6:∀k,Fr k->F k)(h7:v.ownBlock≠some S)(h8:B<=b)(h9:∀x∈L,∀k,x.2.ownBlock=some k->k<b)(hl:out.length<1000)
  (hrow:w.ownsRow b 118 2 (.slice a n c) m.gs.length (ZD m.gs)) (hnF:∀k,(Value.slice a n c).ownBlock=some k->¬F k) :
  ∃ v' w3,Sem.run Tryz.prog (Builtin.append_ #[25,25] 25 #[v,.slice (some ⟨w.heap.size,0,none⟩) 1 1]) (w.alloc (.cells #[.bool m.ok,.int .i64 m.fr,.int .i64 m.up,.slice a n c] 38))=.ok v' w3/\(∃ao n cap,v'=.slice ao n cap)/\w3.cell? (ak S)=some v/\w3.frozen? (ak S)=false/\
    ∃F4 gZ,zI S B (w3.setCell (ak S) v').heap.size (out++[m]) (w3.setCell (ak S) v') F4 gZ/\aJ w F Fr (w3.setCell (ak S) v') F4 gZ:=by
 have hlen:L.length=out.length:=by have:=congrArg List.length h2;simpa using this
 obtain⟨v',w',hrun,ho,hk,hbk⟩:=ZkR h3 (Nat.le_trans h8 hb) (by omega) (m,.slice a n c) rfl;have hS:aP w' S 25 v:=h1.keeps hk h7;have hS2:(w'.setCell (ak S) v').heap[S]?=some (.cells #[v'] 25 (0,0)):=by rw[heap_setCell_same _ _ _ _ _ _ hS];rfl
 have hne:v'.ownBlock≠some S:=fun e=>by
  rcases hbk S e with h | h
  ·exact h7 h
  ·have:=h1.lt;omega
 have kS:Za (·=S) w' (w'.setCell (ak S) v'):=Zh _ _ _ _;have mr:Za Fr w (w'.setCell (ak S) v'):=(hk.mono (fun k _ h=>(h5 k).2 (Or.inr h))).trans (kS.mono (fun k _ e=>(h5 k).2 (Or.inl e)));have hsz:=mr.size;have ho2:(w'.setCell (ak S) v').ownsRow B 38 4 v' (L++[(m,Value.slice a n c)]).length ((L++[(m,Value.slice a n c)]).flatMap Jx):=QJ ho (fun k h=>Below.heap_setCell _ _ _ _ (fun e=>hne (by rw[h];exact congrArg some e)));obtain⟨F4,nS⟩:∃F4:az,F4=fun k=>(F k/\¬Fr k)\/k=S\/v'.ownBlock=some k:=⟨_,rfl⟩;have lt:aH w F (w'.setCell (ak S) v') F4:=⟨mr.mono (fun k _ h=>h6 k h),fun k h=>by
  rw[nS] at h
  rcases h with h | h | h
  ·exact Or.inl h.1
  ·exact Or.inl (h6 k ((h5 k).2 (Or.inl h)))
  ·rcases hbk k h with h | h
   ·exact Or.inl (h6 k ((h5 k).2 (Or.inr h)))
   ·exact Or.inr (by omega)⟩
 have hfresh:∀k,(Value.slice a n c).ownBlock=some k->b<=k/\k<w.heap.size:=fun k hk=>hrow.lt k hk;refine⟨v',w',hrun,(by obtain⟨ao,cap,rfl⟩:=aj ho;exact⟨_,_,_,rfl⟩),hS.cell,Zv hS,F4,fun k=>k=S\/v'.ownBlock=some k,?_,?_⟩
 ·refine⟨v',L++[(m,.slice a n c)],hS2,by simp[h2],ho2,⟨fun x hx=>?_,?_⟩,fun k=>Iff.rfl,fun k h=>by rw[nS];exact Or.inr h,hne,by omega,fun x hx k hk2=>?_⟩
  ·rcases List.mem_append.1 hx with hx | hx
   ·exact ZB (h4.rows x hx) lt
   ·simp at hx;subst hx;obtain⟨r1,r2⟩:=ZB ⟨hrow,hnF⟩ lt;exact⟨Zp r1 (fun k hk=>Nat.le_trans h8 (hfresh k hk).1),r2⟩
  ·rw[List.filterMap_append,List.nodup_append];refine⟨h4.sep,?_,fun i hi j hj e=>?_⟩
   ·cases hc:(Value.slice a n c).ownBlock <;> simp[hc]
   ·obtain⟨x,hx,hxe⟩:=List.mem_filterMap.1 hi;have hj2:(Value.slice a n c).ownBlock=some j:=by
     obtain⟨y,hy,hye⟩:=List.mem_filterMap.1 hj;simp at hy;subst hy;exact hye
    subst e
    have:=h9 x hx _ hxe
    have:=(hfresh _ hj2).1
    omega
  ·rcases List.mem_append.1 hx with hx | hx
   ·have:=h9 x hx k hk2;omega
   ·simp at hx;subst hx
    have:=(hfresh k hk2).2;omega
 ·refine⟨mr,fun k h=>?_,fun k h=>by rw[nS] at h;exact h,fun k _ h hn=>by rw[nS];exact Or.inl ⟨h,hn⟩,fun k h=>by rw[nS];exact Or.inr h⟩
  rcases h with h | h
  ·exact Or.inl ((h5 k).2 (Or.inl h))
  ·rcases hbk k h with h | h
   ·exact Or.inl ((h5 k).2 (Or.inr h))
   ·exact Or.inr (by omega)
def Dt (l:List Mt) (w:World) (Fr:az) (e:Ending) (w':World):Prop :=
 ∃(ao:Option Addr) (n c:Nat) (L:List Mm),e=.returned (.slice ao n c)/\L.map (·.1)=l/\w'.ownsRow w.heap.size 38 4 (.slice ao n c) L.length (L.flatMap Jx)/\Ch w.heap.size w' ai L/\Za Fr w w'
variable {C:Cx}{ρ:Rx}{B:Option Bo}{T:Tt}
theorem Zif{X:Xs}{mine:List aO}(hS:ja C w F ρ.bg X B mine)(hA:eY w F A 0 ((ae C.X)))(aW:Fb w F)(hR:Zr (aR C ρ tl T::mine) w F Fr)(hrd:iB C.u.size T B)(hX:dh C.u.size 0 C.G X)(hu:C.u.size<=200)(hG:C.G<=9):
  au 50 #[.slice none 0 0,.func (.func 43) #[] #[ae A]] w (Dt (Q5 (fun a=>(X a).map (QN C.G a)) C.u.size (C.u.size+2) 0) w Fr):=by
 have uh:Zs (Zr (aR C ρ tl T::mine)):=pK hS.ok _ _ _ _;have k1:Za ai w (w.alloc (.cells #[.slice none 0 0] 25)):=(Za.refl _ w).alloc _;have b1:aP (w.alloc (.cells #[.slice none 0 0] 25)) w.heap.size 25 (.slice none 0 0):=heap_alloc_new _ _;have l1:aH w F (w.alloc (.cells #[.slice none 0 0] 25)) (fun k=>F k\/k=w.heap.size):=⟨k1.mono (fun _ _ h=>h.elim),fun k hk=>hk.imp id (fun e=>by omega)⟩;have iY:∀k,Fr k->F k/\k<w.heap.size:=uh.lt hR;have aK:Zr (aR C ρ tl T::mine) (w.alloc (.cells #[.slice none 0 0] 25)) (fun k=>F k\/k=w.heap.size) Fr:=uh.frame hR l1 (fun k hk=>Or.inl (iY k hk).1) (fun k hk=>k1.block k (iY k hk).2 id);have He:zI w.heap.size w.heap.size w.heap.size [] (w.alloc (.cells #[.slice none 0 0] 25)) (fun k=>F k\/k=w.heap.size) (·=w.heap.size):=⟨_,[],b1,rfl,World.ownsRow_nil _ _ _ _,⟨by simp,by simp⟩,fun k=>by simp[Value.ownBlock],fun k hk=>Or.inr hk,by simp[Value.ownBlock],Nat.le_refl _,by simp⟩;have hR2:Zr (aR C ρ tl T::zI w.heap.size w.heap.size w.heap.size []::mine) (w.alloc (.cells #[.slice none 0 0] 25)) (fun k=>F k\/k=w.heap.size) (fun k=>k=w.heap.size\/Fr k):=Zy (ME uh aK (fun h=>by have:=(iY _ h).2;omega) (Or.inr rfl) He);have eQ:Fb (w.alloc (.cells #[.slice none 0 0] 25)) (fun k=>F k\/k=w.heap.size):=fun k hk=>hk.elim (fun h=>Nat.lt_of_lt_of_le (aW k h) k1.size) (fun e=>by have:=b1.lt;omega);have hS1:=hS.later l1;have hA1:=hA.later l1;have hb1:w.heap.size<=(w.alloc (.cells #[.slice none 0 0] 25)).heap.size:=k1.size;clear aK He l1 hS hA aW hR uh iY;refine(callsIn_wide (n:=3)).1 ?_;refine callsIn_of_wp_marks Tryz.func50 rfl trivial ?_;simp only[Tryz.ntmps50,List.size_toArray,List.length_cons,List.length_nil,Nat.reduceAdd,Nat.reduceSub,Array.replicate_succ,Array.replicate_zero,List.push_toArray,List.append_toArray,List.nil_append,List.cons_append];gi_wp2;refine ZbS (cap:=1000) (cc:=fun _=>none) (U:=zI w.heap.size w.heap.size) (fun b out=>X5 _ _ b out) (fun b b' out w F Fr=>ZtL _ _ b b' out w F Fr) rfl rfl ?round rfl hS1 hA1 eQ hR2 hrd hX hu hG hb1 (by omega) ?done
 case round =>
  intro l w1 F1 Fu b out m ag ng cg aW hU hbs hrow hnF hok hgl hfr hup Ol hn hcc hpx Be hll hnl;clear hgl hfr hup Ol hcc hpx;refine⟨fun a1 w2=>w2.heap[w1.heap.size]?=some (.cells #[.bool m.ok,.int .i64 m.fr,.int .i64 m.up,.slice ag ng cg] 38 (0,0))/\a1 = { tmps:=#[.slice none 0 0,.func (.func 43) #[] #[ae A],ae w.heap.size,undef,.slice none 0 0,ae w1.heap.size,.func (.func 43) #[] #[ae A],.agg #[.bool m.ok,.int .i64 m.fr,.int .i64 m.up,.slice ag ng cg],undef,undef,undef,undef,undef],defers := [] },?_,?_⟩
  ·have HK:Hid (Za ai w1 (w1.alloc (.cells #[.bool m.ok,.int .i64 m.fr,.int .i64 m.up,.slice ag ng cg] 38))):=QT;have HA:Hid ((w1.alloc (.cells #[.bool m.ok,.int .i64 m.fr,.int .i64 m.up,.slice ag ng cg] 38)).heap[w1.heap.size]?=some (.cells #[.bool m.ok,.int .i64 m.fr,.int .i64 m.up,.slice ag ng cg] 38 (0,0))):=heap_alloc_new _ _;clear hU hrow hnF hok;gi_wp2;exact⟨HK.out,HA.out,by first | trivial | rfl⟩
  ·rintro a1 w2 w3 k2 ⟨hb,rfl⟩ k3 hTx ⟨v,L,c1,c2,c3,c4,c5,c6,c7,c8,c9⟩;have hb3:w3.heap[w1.heap.size]?=some (.cells #[.bool m.ok,.int .i64 m.fr,.int .i64 m.up,.slice ag ng cg] 38 (0,0)):=by rw[k3.block _ (lt_of_block hb) (by omega)];exact hb
   have l3:aH w1 F1 w3 F1:=(aH.ay k2).trans ⟨k3.mono (fun k _ e=>e ▸ Be),fun k h=>Or.inl h⟩;have iA:Fb w3 F1:=(aW.keeps k2).keeps k3;obtain⟨ao,n,cap,eZ⟩:∃ao n cap,v=.slice ao n cap:=by obtain⟨ao,cap,h⟩:=aj c3;exact⟨_,_,_,h⟩
   have e0:=c1.cell;have e1:w3.cell? (ak w1.heap.size)=some (.bool m.ok):=by rw[Zc hb3];rfl
   have e2:w3.cell? ⟨w1.heap.size,1,none⟩=some (.int .i64 m.fr):=by rw[Zc hb3];rfl
   have e3:w3.cell? ⟨w1.heap.size,2,none⟩=some (.int .i64 m.up):=by rw[Zc hb3];rfl
   have e4:w3.cell? ⟨w1.heap.size,3,none⟩=some (.slice ag ng cg):=by rw[Zc hb3];rfl
   obtain⟨r1,r2⟩:=ZB ⟨hrow,hnF⟩ l3;obtain⟨v',w4,hrun,⟨nu,n',cap',rfl⟩,cS,fS,hfin⟩:=Zr9 (m:=m) iA (Nat.le_trans hbs (Nat.le_trans k2.size k3.size)) c1 c2 c3 c4 c5 c6 c7 c8 c9 hn r1 r2;have es:(w4.setCell (ak w.heap.size) (.slice nu n' cap')).heap.size=w4.heap.size:=by simp[World.setCell]
   rw[es] at hfin;have HF:Hid (∃F4 gZ,zI w.heap.size w.heap.size w4.heap.size (out++[m]) (w4.setCell (ak w.heap.size) (.slice nu n' cap')) F4 gZ/\aJ w3 F1 Fu (w4.setCell (ak w.heap.size) (.slice nu n' cap')) F4 gZ):=hfin;rw[eZ] at e0 hrun cS;clear hfin es c1 c2 c3 c4 c5 c6 c7 c8 c9 hb3 l3 iA hb k2 k3 hU hrow hnF eZ r1 r2 hok;gi_wp2_with(gi_at_builtin;refine JW rfl _ _ _ _ rfl rfl _ _ _ _ rfl rfl hrun ?_);exact⟨rfl,HF.out⟩
 case done =>
  intro D b' out T' tv w2 F2 bf hout hst ht hD Af;obtain⟨hD1,F3,fV,F4,FU,q1,q2,q3,q4⟩:=Zi7 (X5 _ _ _ _) hS1.ok hst ht;obtain⟨v,L,c1,c2,c3,c4,c5,c6,c7,c8,c9⟩:=q3;have c0:aP w2 w.heap.size 25 v:=by
   have:D≠w.heap.size:=by have:=b1.lt;omega
   unfold aP at c1 ⊢;rw[QX (Ne.symm this)] at c1;exact c1
  obtain⟨ao,cap,eZ⟩:=aj c3;subst eZ;have e0:=c0.cell;have hmt:(Q2 (fun o=>((fun (_:List Mt)=>(none:Option Code)) o).isNone) [] (Q5 (fun a=>(X a).map (QN C.G a)) C.u.size (C.u.size+2) 0))=Q5 (fun a=>(X a).map (QN C.G a)) C.u.size (C.u.size+2) 0:=by
   have:=Zmd [] (Q5 (fun a=>(X a).map (QN C.G a)) C.u.size (C.u.size+2) 0)
   rw[List.nil_append] at this;exact this
  have HF:Hid (Dt (Q5 (fun a=>(X a).map (QN C.G a)) C.u.size (C.u.size+2) 0) w Fr (.returned (.slice ao L.length cap)) (w2.putObj D (.deferred none))):=⟨ao,L.length,cap,L,rfl,by rw[c2,hout,hmt],c3,⟨fun x hx=>⟨(c4.rows x hx).1,fun _ _ h=>h⟩,c4.sep⟩,(k1.mono (fun _ _ h=>h.elim)).trans' (E:=Fr) q2.keeps (fun i hi h=>h.elim (fun e=>by omega) id)⟩;have HD:Hid (w2.heap[D]?=some (.deferred (some []))):=hD1;clear q1 q2 q4 hD1 hst ht c0 c1 c2 c3 c4 c5 c6 c7 c8 c9 hS1 hA1 hR2 eQ hX hout hmt;gi_wp2;refine⟨by simp,.inl ⟨_,_,rfl,run_takeDeferred HD.out,?_⟩⟩;refine⟨_,results_tmp rfl _ _ _,?_⟩;exact HF.out
theorem ZgL{X:Xs}{mine:List aO}(hS:ja C w F ρ.bg X B mine)(hA:eY w F A 0 ((ae C.X)))(aW:Fb w F)(hR:Zr (aR C ρ tl T::mine) w F Fr)(hrd:iB C.u.size T B)(hX:dh C.u.size 0 C.G X)(hu:C.u.size<=200)(hG:C.G<=9):
  au 31 #[.func (.func 43) #[] #[ae A]] w (Dt (Q5 (fun a=>(X a).map (QN C.G a)) C.u.size (C.u.size+2) 0) w Fr):=by
 have hcall:au 50 #[.slice none 0 0,.func (.func 43) #[] #[ae A]] w (fun e w' =>∃ao n cap,e=.returned (.slice ao n cap)/\Hid (Dt (Q5 (fun a=>(X a).map (QN C.G a)) C.u.size (C.u.size+2) 0) w Fr (.returned (.slice ao n cap)) w')):=by
  refine(Zif hS hA aW hR hrd hX hu hG).mono ?_;intro e w' h;obtain⟨ao,n,c,L,rfl,h1⟩:=id h;exact⟨_,_,_,rfl,h⟩
 clear hS hA aW hR hrd hX;go_enter Tryz.func31,Tryz.ntmps31;go_wp2_with(go_at_call 50;refine hcall.mono ?_;rintro e w2 ⟨ao,n,cap,rfl,HF⟩);go_ret;exact HF.out
theorem ZpB:au 12 #[.string s,.string u] w (Dt (Z1 s u) w ai):=by
 have hpn:∀(a:Addr) (w:World),(binOp BinOp.eql 52 (.pointer (some a)) (.pointer none)).run Tryz.prog w=.ok (.bool false) w:=fun _ _=>by kernel_rfl
 have xg:∀(w:World),(binOp BinOp.eql 52 (.pointer none) (.pointer none)).run Tryz.prog w=.ok (.bool true) w:=fun _=>by kernel_rfl
 have qd:au 18 #[.string s,.string u,.int .i64 0] w _:=JJ (F:=fun _=>False) (fun _ h=>h.elim)
 by_cases hw:wanted s u 0=true
 ·have hu:u.size<=200:=by
   simp only[wanted,Bool.and_eq_true,decide_eq_true_eq] at hw;omega
  have Ac:au 18 #[.string s,.string u,.int .i64 0] w (fun e w2 =>∃X2,e=.returned ((ae X2))/\Hid (∀w3 A,Za ai w2 w3->w2.heap.size<=A->aP w3 A 52 ((ae X2))->au 31 #[.func (.func 43) #[] #[ae A]] w3 (fun e w' =>∃ao n cap,e=.returned (.slice ao n cap)/\Hid (Dt (Z1 s u) w ai (.returned (.slice ao n cap)) w')))):=by
   refine qd.mono ?_;rintro e w2 (⟨h1,-⟩ | ⟨g,f,X2,h1,ht,rfl,o7⟩)
   ·rw[hw] at h1;cases h1
   ·have k12:=IG o7;obtain⟨C,kk,bg,B,mine,F',aM,Bf,nV,qY,hres,hT,hS⟩:=o7.ex;obtain⟨hfg,dH,hf1,AA⟩:=yo ht;have hX:dh C.u.size 0 C.G (dx u [] f):=by rw[nV,qY];exact zi u ⟨f,hfg,rfl⟩
    have hok:=pK (C:=C) (ρ:=⟨(kk:Int),bg,[]⟩) (tl:=.nilFunc) (T:=iP) hS.ok;have hlt:=hok.lt hres;have hF':∀i,F' i->w.heap.size<=i/\i<w2.heap.size:=fun i hi=>by
     rcases hT.out i hi with h | h
     ·exact h.1.elim
     ·rcases hT.fresh i h with h2 | h2
      ·exact h2.elim
      ·exact⟨h2,(hlt i h).2⟩
    refine⟨X2,rfl,?_⟩;intro w3 A k3 hA2 hA;have l3:aH w2 F' w3 F':=aH.ay k3;have FC:=k3.size;have FM:=hok.frame hres l3 (fun i hi=>(hlt i hi).1) (fun i hi=>k3.block i (hlt i hi).2 id);subst Bf;refine(ZgL (hS.later l3) ⟨hA.cell,fun h=>by have:=(hF' _ h).2;omega,hA.lt⟩ (fun i hi=>Nat.lt_of_lt_of_le (hF' i hi).2 FC) FM iB.no hX (by rw[nV];exact hu) (by rw[qY];exact dH)).mono ?_;rintro e w' ⟨ao,n,c,L,rfl,h1,h2,h3,h4⟩;have FH:=k12.size;have hle:w.heap.size<=w3.heap.size:=Nat.le_trans FH FC;refine⟨ao,n,c,rfl,ao,n,c,L,rfl,?_,Zp h2 (fun k hk=>Nat.le_trans hle (h2.lt k hk).1),⟨fun x hx=>⟨Zp (h3.rows x hx).1 (fun k hk=>Nat.le_trans hle ((h3.rows x hx).1.lt k hk).1),fun _ _ h=>h⟩,h3.sep⟩,?_⟩
    ·rw[h1,ZnZ hw ht,nV,qY]
    ·exact(k12.trans k3).trans' h4 (fun i hi h=>by have:=(hF' i (hlt i h).1).1;omega)
  clear qd xg;go_enter Tryz.func12,Tryz.ntmps12;go_wp2_with(first|(go_at_call 18;refine Ac.mono ?_;rintro e w2 ⟨X2,rfl,HM⟩)|(go_at_call 23;refine Zdt.mono ?_;rintro e w4 ⟨rfl,bA,k4⟩)|(go_at_call 31;refine(HM.out _ _ k4 (Nat.le_refl _) bA).mono ?_;rintro e w5 ⟨ao,n,cap,rfl,HF⟩))
  go_ret;exact HF.out
 ·have Ac:au 18 #[.string s,.string u,.int .i64 0] w (fun e w2=>e=.returned (.pointer none)/\Za ai w w2):=by
   refine qd.mono ?_;rintro e w2 (⟨h1,rfl,h2⟩ | ⟨g,f,X2,h1,-⟩)
   ·exact⟨rfl,h2⟩
   ·rw[h1] at hw;exact absurd rfl hw
  rw[ZkX hw];clear qd hpn;go_enter Tryz.func12,Tryz.ntmps12;go_wp2_with(go_at_call 18;refine Ac.mono ?_;rintro e w2 ⟨rfl,hk⟩);go_ret;exact⟨none,0,0,[],rfl,rfl,World.ownsRow_nil _ _ _ _,⟨by simp,by simp⟩,hk⟩
open Go.RowKit
def ZvD (l:List Mt) (w:World) (e:Ending) (w':World):Prop :=
 ∃(ao:Option Addr) (n c:Nat) (L:List Mm),e=.returned (.slice ao n c)/\L.map (·.1)=l/\kg w' (.slice ao n c) L/\Za ai w w'
theorem Zkp(h:∀a,L a = []):∀(k p:Nat),Z2 L k p=none:=by
 intro k
 induction k with
 | zero=>intro p;rfl
 | succ k ih=>intro p;rw[Uj (h p)];exact ih _
theorem Zim(h:Ask s u=none):Z1 s u = []:=by
 unfold Z1;simp only[Q5];rw[Zkp (fun a=>Zqy h _)]
theorem ZoK(hs:s.size<=1048576)(hu:u.size<=1048576):au 6 #[.string s,.string u] w (ZvD (Z1 s u) w):=by
 have hof:=ZiU (w:=w) hs hu;unfold Lr at hof
 cases ha:Ask s u with
 | none =>
   rw[ha] at hof;simp only at hof;rw[Zim ha];clear ha;go_enter Tryz.func6,Tryz.ntmps6;go_wp2_with(go_at_call 16;refine hof.mono ?_;rintro e w2 ⟨R,rfl,hk⟩);go_ret;exact⟨none,0,0,[],rfl,rfl,⟨World.ownsRow_nil _ _ _ _,by simp⟩,hk⟩
 | some gp =>
   obtain⟨g,ps⟩:=gp;rw[ha] at hof;simp only at hof;have il:au 16 #[.string s,.string u] w (fun e w2 =>∃Z,e=.returned (.tuple #[.pointer (some ⟨Z.R,0,none⟩),.bool true])/\Hid (Mr w2 Z g ps u/\w.heap.size<=Z.Bd/\w.heap.size<=Z.Bl)/\Za ai w w2):=by
    refine hof.mono ?_;rintro e w2 ⟨Z,rfl,h1,h2,h3⟩;exact⟨Z,rfl,⟨h1,h2.1,h2.2⟩,h3⟩
   have HA:Hid (Ask s u=some (g,ps)):=ha;clear ha hof;go_enter Tryz.func6,Tryz.ntmps6;go_wp2_with(first|(go_at_call 16;refine il.mono ?_;rintro e w2 ⟨Z,rfl,HM,hk1⟩;clear il)|(go_at_call 17;refine(Xt HA.out HM.out.1).mono ?_;rintro e w3 ⟨ao,n,c,L,rfl,HL,hO,hM2,hk2⟩))
   go_ret;exact⟨ao,n,c,L,rfl,HL,hO,hk1.trans' hk2 (fun i hi h=>by have h1:=HM.out.2.1;have h2:=HM.out.2.2;rcases h with h | h <;> omega)⟩
end Go.Proofs.YtfkflljplohhcaaGreatDoor
