import Derived.Test.YtfkflljplohhcaaGreatDoorYb
import Derived.RangeFuncBound
import Derived.Shelf.RegionOpen
import Derived.OwnWalkIn
import Derived.LoopNIn
import Derived.LoopIn
set_option linter.unusedVariables false
set_option maxHeartbeats 2000000
set_option maxRecDepth 100000
namespace Go.Proofs.YtfkflljplohhcaaGreatDoor
open Go.RowKit Go.Shelf
attribute [local go_sem] Oper.semAt_some
def Q1:Wt:=fun p => [(p,fun g=>g)]
variable {C:Cx}{ρ:Rx}{ats:List aO}{τ:jG}{T:Tt}{V:Vs}{out:List (Nat×Rs)}{gs:Rs}{B:Option Bo}{w w1 w':World}{F Fr:az}{p A S Cb ng cg j:Nat}{f:Nat->Nat}{u:ByteArray}{ag:Option Addr}{tl:Value}
theorem Q0.from{L:Wn}{w2:World}{e:Ending}(h:Q0 C ρ ats τ T V out L gs B w1 F Fr e w2)(hF:∀k,Fr k->F k)(k:Za ai w w1):Q0 C ρ ats τ T V out L gs B w F Fr e w2:=by
 obtain⟨h1,T',F',aM,h2,h3,h4⟩:=h;exact⟨h1,T',F',aM,h2,(aJ.ay hF k).trans h3,h4⟩
theorem Zlf{V:Nat}(hv:di w F V 52 ((ae C.X))):
  Qg C w F (.func (.func 59) #[] #[ae V]) Q1 none []:=by
 refine⟨_,_,rfl,fun _ _=>by kernel_rfl,?_⟩;intro w' F' l aW ρ ats τ T V2 out Fr p gv gs ha _ hτ hR hg hl hp hP hn;have cv:=(hv.later l).cell;have c5:=(Qu hR).c5;obtain⟨F1,F2,hA⟩:=Ztx hR;obtain⟨ly,hty,hY⟩:=hτ.yl;have Wv:V2 p=false:=hP (p,fun g=>g) (by simp[Q1]);obtain⟨ht1,ht2,ht3⟩:=Zot (stop := τ.stop) (t:=fun g=>g) Wv gs;have hlen:out.length < τ.cap:=by
  have:ic τ.stop V2 (Q1 p)=1:=by show ic τ.stop V2 [(p,fun g=>g)]=1;unfold ic;rw[ht3];cases τ.stop <;> rfl
  omega
 obtain⟨fn,tmps,assign,body,hy,qW⟩:=hY w' F' F1 out p gv gs aW hA.one hg hl hp hlen;rw[hty] at c5;have hfin:∀e w2,(e=.returned (.bool (!τ.stop))/\∃F3 fV,τ.tl (out++[(p,gs)]) w2 F3 fV/\aJ w' F' F1 w2 F3 fV)->Q0 C ρ ats τ T V2 out (Q1 p) gs none w' F' Fr e w2:=by
  rintro e w2 ⟨rfl,F3,fV,h1,h2⟩;obtain⟨h3,h4⟩:=hA.upd (hτ.ok _) (pK ha _ _ _ _) h2 h1;refine⟨by show _=Ending.returned (.bool (JI τ.stop V2 [(p,fun g=>g)]));rw[ht2],T,F3,_,?_,h4,rfl⟩;show Run C ρ ats τ T (out++ek τ.stop V2 [(p,fun g=>g)] gs) w2 F3 _;rw[ht1];exact ZlC h3
 obtain⟨ag,cg,rfl,-⟩:=hg;have HF:Hid (∀e w2,(e=.returned (.bool (!τ.stop))/\∃F3 fV,τ.tl (out++[(p,gs)]) w2 F3 fV/\aJ w' F' F1 w2 F3 fV)->Q0 C ρ ats τ T V2 out (Q1 p) gs none w' F' Fr e w2):=hfin;clear hfin hA hR hP hn hτ hY ha l hv ht1 ht2 ht3 hty hl hlen Wv;refine(callsIn_wide (n:=1)).1 ?_;refine callsIn_of_wp Tryz.func59 rfl trivial ?_;simp only[Tryz.ntmps59,List.size_toArray,List.length_cons,List.length_nil,Nat.reduceAdd,Nat.reduceSub,Array.replicate_succ,Array.replicate_zero,List.push_toArray,List.append_toArray,List.nil_append,List.cons_append];gi_wp2;refine(TS qW).mono ?_;rintro e w2 ⟨rfl,h2⟩;gi_wp2;go_ret;exact HF.out _ _ ⟨rfl,h2⟩
open Go.RowKit
variable {W:Wt}
theorem TQ(hτ:j5 C τ)(ha:∀R∈ats,Zs R)(hR:Run C ρ ats τ T out w F Fr)(hP:Pre C.u.size W T V p B)(k:Za ai w w'):
  Q0 C ρ ats τ T V out [] gs B w F Fr (.returned (.bool true)) w':=by
 obtain⟨h1,h2⟩:=Ql hτ ha hR k;refine⟨by rw[D7],T,F,Fr,?_,h2,?_⟩
 ·rw[Ma,List.append_nil];exact h1
 ·rw[Qc (D7 _ _),Q9];exact jH.refl hP
def MX (w:World) (F:az) (b:Nat) (f:Nat->Nat):Prop:=Sb w b f/\¬F b
theorem MX.later{F':az}{b:Nat}(h:MX w F b f)(l:aH w F w' F'):MX w' F' b f:=by
 obtain⟨h1,h2⟩:=l.stay (lt_of_block h.1) h.2;exact⟨by unfold Sb;rw[h1];exact h.1,h2⟩
def uR (u:ByteArray) (S:Bs) (p:Nat):Bool:=decide (p<u.size) && S (bt u p)
def xU (u:ByteArray) (S:Bs) (W:Wt):Wt:=fun p=>if uR u S p then W (p+1) else []
variable {St:Bs}
theorem Zkz{X:Nat}(c0:w.cell? (ak X)=some (.string u))(ca:w.cell? (ak A)=some ((ae X)))(s:Sb w S f)(hf:Bv St f)(hu:u.size<=200)(hp:p<=u.size)(hb:uR u St p=false):
  au 100 (#[.int .i64 (p:Int),.slice ag ng cg]++#[ae A,ae S,ae Cb]) w fun e w'=>e=.returned (.bool true)/\Za ai w w':=by
 have s0:=s.cell (q:=0) (by omega);have s1:=s.cell (q:=1) (by omega);have s2:=s.cell (q:=2) (by omega);have s3:=s.cell (q:=3) (by omega);have hK:=Za.refl ai w
 by_cases hlt:p<u.size
 ·have hpz:(p:Int)<(u.size:Int):=by omega
  have hc:u[p].toNat=bt u p:=(ZX hlt).symm;have hlt2:=Jh hlt;have HB:Hid (St (bt u p)=false):=(by show _ = _;simpa [uR,hlt] using hb);clear hb;generalize bt u p=x at hc hlt2 HB;have hwr:IntKind.i64.wrap (x:Int)=(x:Int):=IntWalk.i64_in _ ⟨by omega,by omega⟩;go_enter Tryz.func100,Tryz.ntmps100;go_wp2_with fail;go_region_with (first|(go_at_call 101;refine(LC hf x hlt2).mono ?_;rintro e w2 ⟨rfl,hk⟩;rw[HB.out];replace hk:=hkd hk;replace hK:=hK.trans hk;clear hk))
  all_goals (try go_wp2_with fail)
  all_goals go_ret
  all_goals exact⟨rfl,by first | exact hK | exact hK.drew⟩
 ·obtain rfl:p=u.size:=by omega
  clear hb hlt hp;go_enter Tryz.func100,Tryz.ntmps100;go_wp2_with fail;go_quiet (fail);go_wp2_with fail;go_ret;exact⟨rfl,hK.drewN _⟩
theorem Zh4{X fn:Nat}{cap:Array Value}{Q:Ending->World->Prop}(c0:w.cell? (ak X)=some (.string u))(ca:w.cell? (ak A)=some ((ae X)))(s:Sb w S f)(hf:Bv St f)(c:aP w Cb 102 (.func (.func fn) #[] cap))
  (hcf:∀(args:Array Value) (w:World),(callFunc fn args).run Tryz.prog w=.ok (.enter fn args) w) (hu:u.size<=200) (hb:uR u St p=true)
  (ih:∀w1,Za ai w w1->au fn (#[.int .i64 ((p:Int)+1),.slice ag ng cg]++cap) w1 (fun e w2 =>∃b,e=.returned (.bool b)/\Q (.returned (.bool b)) w2)) :
  au 100 (#[.int .i64 (p:Int),.slice ag ng cg]++#[ae A,ae S,ae Cb]) w Q:=by
 have s0:=s.cell (q:=0) (by omega);have s1:=s.cell (q:=1) (by omega);have s2:=s.cell (q:=2) (by omega);have s3:=s.cell (q:=3) (by omega);have hK:=Za.refl ai w;have hp:p<u.size:=by simp[uR] at hb;exact hb.1
 have hpz:(p:Int)<(u.size:Int):=by omega
 have hc:u[p].toNat=bt u p:=(ZX hp).symm;have hlt2:=Jh hp;have HB:Hid (St (bt u p)=true):=(by show _ = _;simp[uR] at hb;exact hb.2);clear hb;generalize bt u p=x at hc hlt2 HB;have hwr:IntKind.i64.wrap (x:Int)=(x:Int):=IntWalk.i64_in _ ⟨by omega,by omega⟩;go_enter Tryz.func100,Tryz.ntmps100;go_upto_region 1 with fail;go_cut [25] from 8 (fun t25 wc=>t25=.bool true/\Za ai w wc)
 case first =>
  go_region_with (first|(go_at_call 101;refine(LC hf x hlt2).mono ?_;rintro e w2 ⟨rfl,hk⟩;rw[HB.out];replace hk:=hkd hk;replace hK:=hK.trans hk;clear hk))
  all_goals (go_wp2_with fail;go_meet;exact⟨rfl,by first | exact hK | exact hK.drew⟩)
 case rest =>
  obtain⟨rfl,hk⟩:=hcut;have cc:=(c.keeps hk id).cell;have hcall:=ih wc hk;clear ih c0 ca s c s0 s1 s2 s3 hc hwr hK;go_wp2_with((with_reducible (refine hcall.mono ?_));rintro e w3 ⟨b,rfl,hQ⟩);exact hQ
theorem Znq{nx:Value}{mine:List aO}(hA:di w F A 52 ((ae C.X)))(hS:MX w F S f)(hf:Bv St f)(hC:di w F Cb 102 nx)(hnx:Qg C w F nx W B mine)(hu:C.u.size<=200):
  Qg C w F (.func (.func 100) #[] #[ae A,ae S,ae Cb]) (xU C.u St W) B mine:=by
 refine⟨_,_,rfl,fun _ _=>by kernel_rfl,?_⟩;intro w' F' l aW ρ ats τ T V out Fr p gv gs ha hm hτ hR hg hl hp hP hn;have hA':=hA.later l;have hS':=hS.later l;have hC':=hC.later l;have lq:=hnx.later l;have c0:=(Qu hR).c0;have hO:=DL hτ ha ρ T out;obtain⟨ag,cg,hgv⟩:∃ag cg,gv=.slice ag gs.length cg:=by obtain⟨a,c,h,_⟩:=hg;exact⟨a,c,h⟩
 cases hb:uR C.u St p with
 | false =>
   have e:xU C.u St W p = []:=by simp[xU,hb]
   rw[e];rw[hgv];refine(Zkz c0 hA'.1.cell hS'.1 hf hu hp hb).mono ?_;rintro e w2 ⟨rfl,hk⟩;exact TQ (p:=p) hτ ha hR hP hk
 | true =>
   have e:xU C.u St W p=W (p+1):=by simp[xU,hb]
   rw[e] at hn ⊢;have hp1:p+1<=C.u.size:=by simp[uR] at hb;exact hb.1
   obtain⟨fn,cap,rfl,hcf,hcall⟩:=lq;have hP':Pre C.u.size W T V (p+1) B:=by
    cases B with
    | none=>intro y hy;exact hP y (by rw[e];exact hy)
    | some b=>exact hP
   rw[hgv];refine Zh4 c0 hA'.1.cell hS'.1 hf hC'.1 hcf hu hb ?_;intro w1 k1;rw[<- hgv]
   have:=hcall w1 F' (aH.ay k1) (aW.keeps k1) ρ ats τ T V out Fr (p+1) gv gs ha hm hτ (Ql hτ ha hR k1).1 (hg.later (aH.ay k1)) hl hp1 hP' hn
   refine this.mono ?_;intro e2 w2 h2;exact⟨_,h2.1,by rw[<- h2.1];exact h2.from (fun k hk=>(hO.lt hR k hk).1) k1⟩
theorem SG(f:Nat->Nat):(sQ f).length=201:=by simp[sQ]
theorem ZrP(f:Nat->Nat)(p:Nat)(hp:p<=200):(sQ f)[p]?=some (.int .u8 ((f p:Nat):Int)):=by simp[sQ,show p<201 by omega]
theorem ZrO(f:Nat->Nat)(p v:Nat):(sQ f).set p (.int .u8 ((v:Nat):Int))=sQ (fun q=>if q=p then v else f q):=by
 apply List.ext_getElem?;intro i;rw[List.getElem?_set]
 by_cases hi:i<201
 ·by_cases h:p=i
  ·subst h;simp[sQ,hi]
  ·simp[sQ,hi,h,Ne.symm h]
 ·rw[List.getElem?_eq_none (by rw[SG];omega),List.getElem?_eq_none (by rw[SG];omega)]
  split
  ·rename_i h;subst h;simp[SG,hi]
  ·rfl
namespace Rm
variable {w w':World}{r:Nat}{f:Nat->Nat}
theorem cell(h:Rm w r f)(hp:p<=200):w.cell? ⟨r,p,none⟩=some (.int .u8 ((f p:Nat):Int)):=by rw[Zc h];simpa using ZrP f p hp
theorem fz(h:Rm w r f)(p:Nat):w.frozen? ⟨r,p,none⟩=false:=Zv h
theorem set(h:Rm w r f)(p v:Nat):Rm (w.setCell ⟨r,p,none⟩ (.int .u8 ((v:Nat):Int))) r (fun q=>if q=p then v else f q):=by
 unfold Rm;rw[heap_setCell_same _ _ _ _ _ _ h,<- ZrO];simp
end Rm
theorem Q8{a:Addr}{v:Value}{k:Nat}(h:k≠a.block):(w.setCell a v).heap[k]?=w.heap[k]?:=Below.heap_setCell _ _ _ _ h
theorem Zh(w:World)(r p:Nat)(v:Value):Za (·=r) w (w.setCell ⟨r,p,none⟩ v):=(Za.refl (·=r) w).setCell (a:=⟨r,p,none⟩) (fun _=>rfl) v
theorem Zgp{α β:Type}{f : α->β}{L:List α}(h:(L.map f).Nodup){x y : α}(hx:x∈L)(hy:y∈L)(he:f x=f y):x=y:=by
 induction L with
 | nil=>simp at hx
 | cons a L ih =>
   simp only[List.map_cons,List.nodup_cons] at h
   rcases List.mem_cons.1 hx with h1 | h1
   ·rcases List.mem_cons.1 hy with h2 | h2
    ·rw[h1,h2]
    ·exact(h.1 (List.mem_map.2 ⟨y,h2,by rw[<- he,h1]⟩)).elim
   ·rcases List.mem_cons.1 hy with h2 | h2
    ·exact(h.1 (List.mem_map.2 ⟨x,h1,by rw[he,h2]⟩)).elim
    ·exact ih h.2 h1 h2
theorem ZrG(h:aR C ρ tl T w F Fr){x:Et}(hx:x∈ρ.pn)(p:Nat){v:Nat}(hv:v<=255):
  aR C ρ tl (fC T x.1.1 x.1.2 p v) (w.setCell ⟨x.2.1,p,none⟩ (.int .u8 ((v:Nat):Int))) F Fr/\aJ w F Fr (w.setCell ⟨x.2.1,p,none⟩ (.int .u8 ((v:Nat):Int))) F Fr:=by
 have dW:=QA C ρ tl T;have hlt:=fun k hk=>(dW.lt h k hk).1;obtain⟨L,hS,hT,hpn,he,hF,hne,hX⟩:=h;have vC:=hpn x hx;have hr:Fr x.2.1:=(he _).2 (Or.inr (Or.inr ⟨x,vC,rfl⟩));have hk:=Zh w x.2.1 p (.int .u8 ((v:Nat):Int));refine⟨⟨L,hS.same (Q8 (Ne.symm (hX x vC))),⟨?_,hT.keys,hT.pz,fun y hy=>?_,fun j n hjn q=>?_,fun j n q=>?_,hT.apart⟩,hpn,he,hF,hne,hX⟩,?_⟩
 ·rw[Q8 (Ne.symm (hT.apart x vC))];exact hT.mp
 ·by_cases hxy:y=x
  ·subst hxy
   have:=(hT.room y hy).set p v
   have e:(fun q=>if q=p then v else T y.1.1 y.1.2 q)=fC T y.1.1 y.1.2 p v y.1.1 y.1.2:=by funext q;simp[fC]
   rw[e] at this;exact this
  ·have hb:y.2.1≠x.2.1:=fun hb=>hxy (Zgp hT.pz hy vC hb);have hkk:y.1≠x.1:=fun hb=>hxy (Zgp hT.keys hy vC hb);unfold Rm;rw[Q8 hb];have e:fC T x.1.1 x.1.2 p v y.1.1 y.1.2=T y.1.1 y.1.2:=by
    funext q
    exact Z3 T (fun ⟨h1,h2,_⟩=>hkk (Prod.ext h1 h2))
   rw[e];exact hT.room y hy
 ·have:¬(j=x.1.1/\n=x.1.2/\q=p):=fun ⟨h1,h2,_⟩=>hjn x vC (by rw[h1,h2])
  rw[Z3 T this];exact hT.rest j n hjn q
 ·unfold fC
  split
  ·exact hv
  ·exact hT.few j n q
 ·refine⟨hk.mono (fun k _ h=>by rw[h];exact hr),fun k hk=>Or.inl hk,fun k hk=>?_,fun k _ h _=>h,hF⟩
  by_cases h2:Fr k
  ·exact Or.inr h2
  ·exact Or.inl ⟨hk,h2⟩
theorem ZrI{L:List Et}{clock n r:Nat}(hS:Se w C ρ.jn ρ.bg tl)(hT:Tb w C.m T L)(hpn:∀x∈ρ.pn,x∈L)(he:∀k,Fr k↔k=C.X\/k=C.m\/∃x∈L,x.2.1=k)(hF:∀k,Fr k->F k)(hne:C.X≠C.m)(hX:∀x∈L,x.2.1≠C.X)
  (k:Za ai w w1) (hr:Rm w1 r (fun _=>0)) (hw:w.heap.size<=r) (hno:∀x∈L,x.1≠(j,n)) :
  aR C { ρ with pn:=((j,n),r,clock)::ρ.pn } tl T (w1.putObj C.m (.map ((L++[((j,n),r,clock)]).map J8).toArray (clock+1))) (fun k=>F k\/k=r) (fun k=>Fr k\/k=r)/\
   aJ w F Fr (w1.putObj C.m (.map ((L++[((j,n),r,clock)]).map J8).toArray (clock+1))) (fun k=>F k\/k=r) (fun k=>Fr k\/k=r):=by
 have hm:C.m<w.heap.size:=by obtain⟨c,hc⟩:=hT.mp;exact(Array.getElem?_eq_some_iff.1 hc).1
 have hmr:r≠C.m:=by omega
 have hXr:r≠C.X:=by have:=hS.lt;omega
 have hb:∀x∈L,x.2.1<w.heap.size:=fun x hx=>lt_of_block (hT.room x hx);refine⟨⟨L++[((j,n),r,clock)],?_,⟨⟨_,TJ (Nat.lt_of_lt_of_le hm k.size)⟩,?_,?_,?_,?_,hT.few,?_⟩,?_,?_,?_,hne,?_⟩,?_⟩
 ·exact hS.same (by rw[QX hne,k.block _ hS.lt id])
 ·rw[List.map_append,List.nodup_append];refine⟨hT.keys,by simp,?_⟩;intro a ha b hb2;obtain⟨x,hx,rfl⟩:=List.mem_map.1 ha;simp at hb2;subst hb2;exact hno x hx
 ·rw[List.map_append,List.nodup_append];refine⟨hT.pz,by simp,?_⟩;intro a ha b hb2;obtain⟨x,hx,rfl⟩:=List.mem_map.1 ha;simp at hb2;subst hb2
  have:=hb x hx
  omega
 ·intro x hx
  rcases List.mem_append.1 hx with hx | hx
  ·unfold Rm;rw[QX (hT.apart x hx),k.block _ (hb x hx) id];exact hT.room x hx
  ·simp at hx;subst hx;unfold Rm;rw[QX hmr];have e:T j n=fun _=>0:=by funext q;exact hT.rest j n hno q
   show w1.heap[r]?=some (.cells (sQ (T j n)).toArray 243 (0,0));rw[e];exact hr
 ·intro a b hab q;exact hT.rest a b (fun x hx=>hab x (by simp[hx])) q
 ·intro x hx
  rcases List.mem_append.1 hx with hx | hx
  ·exact hT.apart x hx
  ·simp at hx;subst hx;exact hmr
 ·intro x hx
  rcases List.mem_cons.1 hx with rfl | hx
  ·simp
  ·simp[hpn x hx]
 ·intro i;show (Fr i\/i=r)↔_;rw[he i];constructor
  ·rintro((h | h | ⟨x,hx,h⟩) | h)
   ·exact Or.inl h
   ·exact Or.inr (Or.inl h)
   ·exact Or.inr (Or.inr ⟨x,by simp[hx],h⟩)
   ·exact Or.inr (Or.inr ⟨((j,n),r,clock),by simp,h.symm⟩)
  ·rintro(h | h | ⟨x,hx,h⟩)
   ·exact Or.inl (Or.inl h)
   ·exact Or.inl (Or.inr (Or.inl h))
   ·rcases List.mem_append.1 hx with hx | hx
    ·exact Or.inl (Or.inr (Or.inr ⟨x,hx,h⟩))
    ·simp at hx;subst hx;exact Or.inr h.symm
 ·rintro i (h | h)
  ·exact Or.inl (hF i h)
  ·exact Or.inr h
 ·intro x hx
  rcases List.mem_append.1 hx with hx | hx
  ·exact hX x hx
  ·simp at hx;subst hx;exact hXr
 ·refine⟨(k.mono (fun _ _ h=>h.elim)).trans ((JZ w1 C.m _).mono (fun i _ h=>by rw[h];exact(he _).2 (Or.inr (Or.inl rfl)))),?_,?_,?_,?_⟩
  ·rintro i (h | h)
   ·exact Or.inl h
   ·exact Or.inr (by omega)
  ·rintro i (h | h)
   ·by_cases h2:Fr i
    ·exact Or.inr (Or.inl h2)
    ·exact Or.inl ⟨h,h2⟩
   ·exact Or.inr (Or.inr h)
  ·intro i _ h _;exact Or.inl h
  ·rintro i (h | h)
   ·exact Or.inl (hF i h)
   ·exact Or.inr h
theorem ZrH{pn:List Et}(h:aR C ρ tl T w F Fr)(hp:∀x∈pn,x∈ρ.pn):aR C { ρ with pn:=pn } tl T w F Fr:=by
 obtain⟨L,hS,hT,hpn,rest⟩:=h;exact⟨L,hS,hT,fun x hx=>hpn x (hp x hx),rest⟩
theorem MF:zq Tryz.prog 98 132 214 where
 map:=by kernel_rfl
 key:=⟨Tryz.prog.fieldsOf 132,by kernel_rfl⟩
 eq:=fun a b c d w=>by
  have hs:Tryz.prog.stoodInHeld 132=false:=by kernel_rfl
  have hf:Tryz.prog.underlying 132=some (.struct (Tryz.prog.fieldsOf 132)):=by kernel_rfl
  unfold jF Op.equal;rw[show Op.maxDepth=9999+1 from rfl,run_equalIn_struct w 9999 132 _ _ hf hs];simp[go_sem]
  by_cases h1:a=c
  ·by_cases h2:b=d
   ·subst h1 h2;simp
   ·subst h1;have h3:¬((b:Int)=(d:Int)):=by omega
    simp[h3,h2]
  ·have h3:¬((a:Int)=(c:Int)):=by omega
   simp[h3,h1]
 check:=fun e a b w=>by kernel_rfl
 zero:=fun w=>by kernel_rfl
theorem ZuR:Tryz.zeroCells243=(sQ fun _=>0).toArray:=by kernel_rfl
def Zip (C:Cx) (ρ:Rx) (tl:Value) (T:Tt) (j n:Nat) (w:World) (F Fr:az) (e:Ending) (w':World):Prop :=
 ∃(x:Et) (F' aM:az),e=.returned (.pointer (some ⟨x.2.1,0,none⟩))/\x.1=(j,n)/\aR C { ρ with pn:=x::ρ.pn } tl T w' F' aM/\aJ w F Fr w' F' aM
theorem ZtJ{n:Nat}(h:aR C ρ tl T w F Fr):
  au 105 #[.agg #[.map (some C.m)],.agg #[.int .i64 ((j:Nat):Int),.int .i64 ((n:Nat):Int)]] w (Zip C ρ tl T j n w F Fr):=by
 have dW:=QA C ρ tl T;have hpn:∀(a:Addr) (w:World),(binOp BinOp.eql 214 (.pointer (some a)) (.pointer none)).run Tryz.prog w=.ok (.bool false) w:=fun _ _=>by kernel_rfl
 have xg:∀(w:World),(binOp BinOp.eql 214 (.pointer none) (.pointer none)).run Tryz.prog w=.ok (.bool true) w:=fun _=>by kernel_rfl
 have kA:Za ai w ((w.alloc (.cells #[.map (some C.m)] 100)).alloc (.cells #[.int .i64 ((j:Nat):Int),.int .i64 ((n:Nat):Int)] 132)):=((Za.refl _ w).alloc _).alloc _;have b1:=fU w (.cells #[.map (some C.m)] 100) (.cells #[.int .i64 ((j:Nat):Int),.int .i64 ((n:Nat):Int)] 132);have b2:=gH w (.cells #[.map (some C.m)] 100) (.cells #[.int .i64 ((j:Nat):Int),.int .i64 ((n:Nat):Int)] 132);have h2:=dW.frame h (aH.ay kA) (fun i hi=>(dW.lt h i hi).1) (fun i hi=>kA.block i (dW.lt h i hi).2 id);have ht2:aJ w F Fr _ F Fr:=aJ.ay (fun i hi=>(dW.lt h i hi).1) kA;clear h;obtain⟨L,hS,hT,qK,he,hF,hne,hX⟩:=h2;obtain⟨clock,hm⟩:=hT.mp
 by_cases hx:∃x∈L,x.1=(j,n)
 ·obtain⟨x,vC,hxk⟩:=hx;have hlk:=Zj6 MF hm hT.keys vC hxk;unfold jF at hlk;have hfin:∀w2,w2=((w.alloc (.cells #[.map (some C.m)] 100)).alloc (.cells #[.int .i64 ((j:Nat):Int),.int .i64 ((n:Nat):Int)] 132))->Zip C ρ tl T j n w F Fr (.returned (.pointer (some ⟨x.2.1,0,none⟩))) w2:=by
   rintro w2 rfl;exact⟨x,F,Fr,rfl,hxk,⟨L,hS,hT,fun y hy=>(List.mem_cons.1 hy).elim (fun e=>e ▸ vC) (qK y),he,hF,hne,hX⟩,ht2⟩
  go_enter Tryz.func105,Tryz.ntmps105;go_upto_region 1 with fail;generalize ((w.alloc (.cells #[.map (some C.m)] 100)).alloc (.cells #[.int .i64 ((j:Nat):Int),.int .i64 ((n:Nat):Int)] 132))=w2 at *;have c1:w2.cell? (ak w.heap.size)=some (.map (some C.m)):=by rw[Zc b1];rfl
  have c2:w2.cell? ⟨w.heap.size+1,0,none⟩=some (.int .i64 ((j:Nat):Int)):=by rw[Zc b2];rfl
  have c3:w2.cell? ⟨w.heap.size+1,1,none⟩=some (.int .i64 ((n:Nat):Int)):=by rw[Zc b2];rfl
  have hf2:=hfin w2 rfl;clear b1 b2 hS hT hm hfin xg hX he hF ht2 kA qK dW hne vC hxk;go_wp2_with fail;go_ret;exact hf2
 ·have wV:∀x∈L,x.1≠(j,n):=fun x hx1 he1=>hx ⟨x,hx1,he1⟩;have hlk:=ZhE MF hm wV;unfold jF at hlk;go_enter Tryz.func105,Tryz.ntmps105;go_upto_region 1 with fail;generalize ((w.alloc (.cells #[.map (some C.m)] 100)).alloc (.cells #[.int .i64 ((j:Nat):Int),.int .i64 ((n:Nat):Int)] 132))=w2 at *;have c1:w2.cell? (ak w.heap.size)=some (.map (some C.m)):=by rw[Zc b1];rfl
  have c2:w2.cell? ⟨w.heap.size+1,0,none⟩=some (.int .i64 ((j:Nat):Int)):=by rw[Zc b2];rfl
  have c3:w2.cell? ⟨w.heap.size+1,1,none⟩=some (.int .i64 ((n:Nat):Int)):=by rw[Zc b2];rfl
  have kB:Za ai w2 (w2.alloc (.cells Tryz.zeroCells243 243)):=(Za.refl _ w2).alloc _;have hr:Rm (w2.alloc (.cells Tryz.zeroCells243 243)) w2.heap.size (fun _=>0):=(by unfold Rm;rw[<- ZuR];exact heap_alloc_new w2 _);have KF:(w2.alloc (.cells Tryz.zeroCells243 243)).heap[C.m]?=some (.map (L.map J8).toArray clock):=by rw[kB.block _ (Array.getElem?_eq_some_iff.1 hm).1 id];exact hm
  have hup:=Zg9 (r:=w2.heap.size) MF KF wV;unfold jF at hup;obtain⟨g1,g2⟩:=ZrI (j:=j) (n:=n) (clock:=clock) hS hT qK he hF hne hX kB hr (Nat.le_refl _) wV;have c4:(w2.alloc (.cells Tryz.zeroCells243 243)).cell? (ak w.heap.size)=some (.map (some C.m)):=by rw[Zc (by rw[kB.block _ (lt_of_block b1) id];exact b1)];rfl
  have c5:(w2.alloc (.cells Tryz.zeroCells243 243)).cell? ⟨w.heap.size+1,0,none⟩=some (.int .i64 ((j:Nat):Int)):=by rw[Zc (by rw[kB.block _ (lt_of_block b2) id];exact b2)];rfl
  have c6:(w2.alloc (.cells Tryz.zeroCells243 243)).cell? ⟨w.heap.size+1,1,none⟩=some (.int .i64 ((n:Nat):Int)):=by rw[Zc (by rw[kB.block _ (lt_of_block b2) id];exact b2)];rfl
  have hf2:Zip C ρ tl T j n w F Fr (.returned ((ae w2.heap.size))) _:=⟨((j,n),w2.heap.size,clock),_,_,rfl,rfl,g1,ht2.trans g2⟩;clear b1 b2 hS hT hm KF hX he hF ht2 kA qK dW hne g1 g2 hr kB hx wV;generalize (w2.alloc (.cells Tryz.zeroCells243 243)).putObj C.m (.map ((L++[((j,n),w2.heap.size,clock)]).map J8).toArray (clock+1))=w9 at hup hf2;go_wp2_with fail;go_ret;exact hf2
end Go.Proofs.YtfkflljplohhcaaGreatDoor
