import Derived.Test.YtfkflljplohhcaaGreatDoorYj
set_option maxHeartbeats 800000
set_option maxRecDepth 100000
namespace Go.Proofs.YtfkflljplohhcaaGreatDoor
open Go.RowKit
set_option linter.unusedVariables false
theorem Zqs {w:World} {Ab Sb Kb p kr n cap:Nat} {ao:Option Addr} {l c:Nat} {Q:Ending->World->Prop} (hp:p<=200) (hpn:p < n) (cA:w.cell? ⟨Ab,p,none⟩=some (.bool true)) (cK:w.cell? ⟨Kb,0,none⟩=some (.slice (some ⟨kr,0,none⟩) n cap)) (cR:w.cell? ⟨kr,p,none⟩=some (.slice ao l c)) (hQ:Q (.returned (.slice ao l c)) w) :
  Calls Tryz.prog 138 (#[.int .i64 (p:Int)] ++ #[.pointer (some ⟨Ab,0,none⟩),.pointer (some ⟨Sb,0,none⟩),.pointer (some ⟨Kb,0,none⟩)]) w Q:=by
 have hpz:(p:Int) < 201:=by omega
 have hnz:(p:Int) < (n:Int):=by omega
 go_enter Tryz.func138,Tryz.ntmps138;go_wp2_with fail;exact hQ
theorem Zqt {w:World} {Ab Sb Kb X m p kr n cap:Nat} {R2:World->Prop} {R3:Nat->Nat->World->Prop} {Q:Ending->World->Prop} (hp:p<=200) (hpn:p < n) (cA:w.cell? ⟨Ab,p,none⟩=some (.bool false)) (fA:w.frozen? ⟨Ab,p,none⟩=false)
  (c1:(w.setCell ⟨Ab,p,none⟩ (.bool true)).cell? ⟨Sb,0,none⟩=some (.pointer (some ⟨X,0,none⟩))) (c2:(w.setCell ⟨Ab,p,none⟩ (.bool true)).cell? ⟨X,3,none⟩=some (.map (some m)))
  (hclr:Calls Tryz.prog 139 #[.agg #[.map (some m)]] (w.setCell ⟨Ab,p,none⟩ (.bool true)) (fun e w2=>e = .returned (.tuple #[])/\Hid (R2 w2)/\w2.cell? ⟨Kb,0,none⟩=some (.slice (some ⟨kr,0,none⟩) n cap)/\w2.cell? ⟨Sb,0,none⟩=some (.pointer (some ⟨X,0,none⟩))))
  (hends :∀w2 w3,R2 w2->Za N0_ w2 w3->Calls Tryz.prog 71 #[.pointer (some ⟨X,0,none⟩),.int .i64 (p:Int)] w3 (fun e w4 =>∃A P,e = .returned (.func (.func 90) #[] #[.pointer (some ⟨A,0,none⟩),.pointer (some ⟨P,0,none⟩)])/\Hid (R3 A P w4)/\(w4.cell? ⟨Kb,0,none⟩=some (.slice (some ⟨kr,0,none⟩) n cap)/\w4.cell? ⟨Sb,0,none⟩=some (.pointer (some ⟨X,0,none⟩)))))
  (hcol :∀A P w3 w4,R3 A P w3->Za N0_ w3 w4->Calls Tryz.prog 140 #[.func (.func 90) #[] #[.pointer (some ⟨A,0,none⟩),.pointer (some ⟨P,0,none⟩)]] w4 (fun e w5 =>∃ao l c u,e = .returned (.slice ao l c)/\w5.cell? ⟨kr,p,none⟩=some u/\w5.frozen? ⟨kr,p,none⟩=false/\(w5.setCell ⟨kr,p,none⟩ (.slice ao l c)).cell? ⟨Kb,0,none⟩=some (.slice (some ⟨kr,0,none⟩) n cap)/\(w5.setCell ⟨kr,p,none⟩ (.slice ao l c)).cell? ⟨Sb,0,none⟩=some (.pointer (some ⟨X,0,none⟩))/\(w5.setCell ⟨kr,p,none⟩ (.slice ao l c)).cell? ⟨kr,p,none⟩=some (.slice ao l c)/\Q (.returned (.slice ao l c)) (w5.setCell ⟨kr,p,none⟩ (.slice ao l c))/\(w5.cell? ⟨Kb,0,none⟩=some (.slice (some ⟨kr,0,none⟩) n cap)/\w5.cell? ⟨Sb,0,none⟩=some (.pointer (some ⟨X,0,none⟩))))) :
  Calls Tryz.prog 138 (#[.int .i64 (p:Int)] ++ #[.pointer (some ⟨Ab,0,none⟩),.pointer (some ⟨Sb,0,none⟩),.pointer (some ⟨Kb,0,none⟩)]) w Q:=by
 have hpz:(p:Int) < 201:=by omega
 have hnz:(p:Int) < (n:Int):=by omega
 go_enter Tryz.func138,Tryz.ntmps138;go_upto_region 3 with fail;generalize (w.setCell ⟨Ab,p,none⟩ (.bool true))=w1 at c1 c2 hclr ⊢;clear cA fA;go_upto_region 4 with (go_at_call 139; refine hclr.mono ?_; rintro e w2 ⟨rfl,HR2,hK2,hS2⟩);have hends2:=hends w2 w2.drew HR2.out (Za.refl _ _).drew;have hS0:(w2.drew.cell? ⟨Kb,0,none⟩=some (.slice (some ⟨kr,0,none⟩) n cap)/\w2.drew.cell? ⟨Sb,0,none⟩=some (.pointer (some ⟨X,0,none⟩))):=⟨hK2,hS2⟩;clear hK2 hS2 c1 c2 hends hclr;go_region_held3 (fun w'=>(w'.cell? ⟨Kb,0,none⟩=some (.slice (some ⟨kr,0,none⟩) n cap)/\w'.cell? ⟨Sb,0,none⟩=some (.pointer (some ⟨X,0,none⟩)))) (first | assumption | go_keep) (first
  | (go_at_call 71; refine hends2.mono ?_; rintro e w4 ⟨A,P,rfl,HR3,hS4⟩; have hcol4:=hcol A P w4 w4 HR3.out (Za.refl _ _))
  | (go_at_call 140; refine hcol4.mono ?_; rintro e w5 ⟨ao,l,c,u,rfl,cu,fu,ck,cs,cr,hQ,hS5⟩; have hst:(store ⟨kr,p,none⟩ (.slice ao l c)).run Tryz.prog w5 = .ok () (w5.setCell ⟨kr,p,none⟩ (.slice ao l c)):=(by rw [run_store _ _ _ _ _ rfl]; simp [cu,fu,go_sem])))
 all_goals (try go_wp2_with fail)
 all_goals exact hQ
theorem ZkY {w:World} {base:Nat} {e:TypeId} {size n cap g:Nat} {xs:List Value} (h:w.ownsRow base e size (.slice (some ⟨g,0,none⟩) n cap) n xs) (j:Nat) (v:Value):(w.setCell ⟨g,j,none⟩ v).ownsRow base e size (.slice (some ⟨g,0,none⟩) n cap) n (xs.set j v):=by
 obtain ⟨h1,h2⟩:=h;refine ⟨by simpa using h1,Or.inr ?_⟩
 rcases h2 with ⟨h2,_⟩ | ⟨g',cap',cur,hv,hg,hh,hc,hm,hs,ht⟩
 ·simp at h2
 ·simp only [Value.slice.injEq,Option.some.injEq,Addr.mk.injEq,and_true,true_and] at hv;obtain ⟨rfl,rfl⟩:=hv;refine ⟨g,cap,cur.setIfInBounds j v,rfl,hg,?_,hc,hm,by simpa using hs,?_⟩
  ·rw [heap_setCell_same _ _ _ _ _ _ hh]
  ·rw [<- ht];simp only [Array.toList_setIfInBounds];rw [List.take_set]
theorem ZcH {w:World} {base:Nat} {e:TypeId} {size n cap g:Nat} {xs:List Value} (h:w.ownsRow base e size (.slice (some ⟨g,0,none⟩) n cap) n xs) (j:Nat):w.frozen? ⟨g,j,none⟩=false/\g < w.heap.size:=by
 obtain ⟨h1,h2⟩:=h
 rcases h2 with ⟨h2,_⟩ | ⟨g',cap',cur,hv,hg,hh,hc,hm,hs,ht⟩
 ·simp at h2
 ·simp only [Value.slice.injEq,Option.some.injEq,Addr.mk.injEq,and_true,true_and] at hv;obtain ⟨rfl,rfl⟩:=hv;exact ⟨Zv hh,lt_of_block hh⟩
abbrev Kf:=Nat->Option (Value×List Em)
def knv (K:Kf) (n:Nat):List Value:=(List.range n).map fun p=>match K p with | none => .slice none 0 0 | some x=>x.1
def asv (A:Nat->Bool):List Value:=(List.range 201).map fun p => .bool (A p)
def Zm7 (K:Kf) (p:Nat) (x:Value×List Em):Kf:=fun q=>if q=p then some x else K q
theorem Zdh (K:Kf) (n:Nat):(knv K n).length=n:=by simp [knv]
theorem ZeN (K:Kf) {n p:Nat} (hp:p < n):(knv K n)[p]? = some (match K p with | none => .slice none 0 0 | some x=>x.1):=by simp [knv,hp]
theorem ZqK (K:Kf) (n p:Nat) (x:Value×List Em):(knv K n).set p x.1=knv (Zm7 K p x) n:=by
 apply List.ext_getElem?;intro i;rw [List.getElem?_set]
 by_cases hi:i < n
 ·rw [ZeN _ hi,ZeN _ hi]
  by_cases h:p=i
  ·subst h; simp [Zdh,hi,Zm7]
  ·rw [if_neg h]; simp [Zm7,Ne.symm h]
 ·rw [List.getElem?_eq_none (l:=knv (Zm7 K p x) n) (by rw [Zdh]; omega),List.getElem?_eq_none (l:=knv K n) (by rw [Zdh]; omega)]
  split
  ·rename_i h; subst h; simp [Zdh,hi]
  ·rfl
theorem ZhB (A:Nat->Bool) {p:Nat} (hp:p<=200):(asv A)[p]? = some (.bool (A p)):=by simp [asv,show p < 201 by omega]
theorem Zrh (A:Nat->Bool) (p:Nat):(asv A).set p (.bool true)=asv (fun q=>if q=p then true else A q):=by
 apply List.ext_getElem?;intro i;rw [List.getElem?_set]
 by_cases hi:i<=200
 ·rw [ZhB _ hi,ZhB _ hi]
  by_cases h:p=i
  ·subst h; simp [asv]; omega
  ·rw [if_neg h]; simp [Ne.symm h]
 ·rw [List.getElem?_eq_none (l:=asv (fun q=>if q=p then true else A q)) (by simp [asv]; omega),List.getElem?_eq_none (l:=asv A) (by simp [asv]; omega)]
  split
  ·rename_i h; subst h; simp [asv]; omega
  ·rfl
structure Kn where
 kr:Nat
 Ab:Nat
 N:Nat
 G:Nat
 X:Xs
def KnB (κ:Kn) (K:Kf) (A:Nat->Bool):Rsc:=fun w F Fr =>
 (w.ownsRow 0 221 1 (.slice (some ⟨κ.kr,0,none⟩) (κ.N + 1) (κ.N + 1)) (κ.N + 1) (knv K (κ.N + 1))/\w.heap[κ.Ab]? = some (.cells (asv A).toArray 245 (0,0)))/\(∀k,Fr k↔k = κ.kr\/k = κ.Ab)/\F κ.kr/\F κ.Ab/\κ.kr≠κ.Ab/\
  ∀p v M,K p=some (v,M)->EnI w F v M/\M.map (fun x=>(x.1,x.2.1))=(κ.X p).map (fun e=>(e.1,ap e.2 (noS κ.G)))
theorem Zd2 (κ:Kn) (K:Kf) (A:Nat->Bool):Zq (KnB κ K A):=by
 refine ⟨?_,?_⟩
 ·rintro w F Fr ⟨⟨h1,h2⟩,h3,h4,h5,h6,h7⟩ k hk
  rcases (h3 k).1 hk with rfl | rfl
  ·exact ⟨h4,(ZcH h1 0).2⟩
  ·exact ⟨h5,lt_of_block h2⟩
 ·rintro w w' F F' Fr ⟨⟨h1,h2⟩,h3,h4,h5,h6,h7⟩ l hF hk;refine ⟨⟨Jj h1 (fun k h=>?_),by rw [hk _ ((h3 _).2 (Or.inr rfl))]; exact h2⟩,h3,hF _ ((h3 _).2 (Or.inl rfl)),hF _ ((h3 _).2 (Or.inr rfl)),h6,fun p v M h=>⟨(h7 p v M h).1.later l,(h7 p v M h).2⟩⟩;simp [Value.ownBlock] at h;subst h;exact hk _ ((h3 _).2 (Or.inl rfl))
def Ztl (C:Cx) (ρ:Rx) (κ:Kn) (mine:List Rsc):Rsc:=fun w F Fr =>∃(T:Tt) (tl:Value) (K:Kf),Zp (SeR C ρ tl T :: KnB κ K (fun p=>(K p).isSome) :: mine) w F Fr
theorem Ji {C:Cx} {ρ:Rx} {κ:Kn} {mine:List Rsc} (ha :∀R∈mine,Zq R) (T:Tt) (tl:Value) (K:Kf) (A:Nat->Bool) :∀R∈(SeR C ρ tl T :: KnB κ K A :: mine),Zq R:=by
 intro R hR
 rcases List.mem_cons.1 hR with rfl | hR
 ·exact Qx _ _ _ _
 ·rcases List.mem_cons.1 hR with rfl | hR
  ·exact Zd2 _ _ _
  ·exact ha R hR
theorem Zqu {C:Cx} {ρ:Rx} {κ:Kn} {mine:List Rsc} (ha :∀R∈mine,Zq R):Zq (Ztl C ρ κ mine):=by
 refine ⟨?_,?_⟩
 ·rintro w F Fr ⟨T,tl,K,h⟩;exact (ZR (Ji ha T tl K _)).lt h
 ·rintro w w' F F' Fr ⟨T,tl,K,h⟩ l hF hk;exact ⟨T,tl,K,(ZR (Ji ha T tl K _)).frame h l hF hk⟩
theorem Zke.ctx {C C':Cx} {w:World} {F:Bs2} {fv:Value} {X:Xs} {R:Rsc} (h:Zke C w F fv X R) (hu:C'.u=C.u) (hG:C'.G=C.G):Zke C' w F fv X R:=by
 unfold Zke at h ⊢;rw [hu,hG];exact h
theorem ZnN {C:Cx} {ρ:Rx} {κ:Kn} {mine:List Rsc} {B:Option Bo} {w0:World} {F0:Bs2} {Sb Kb lo hi:Nat} (hS:ZdC C w0 F0 ρ.bg κ.X B mine) (hSb:BxI w0 F0 Sb 52 (.pointer (some ⟨C.X,0,none⟩))) (hKb:BxI w0 F0 Kb 244 (.slice (some ⟨κ.kr,0,none⟩) (κ.N + 1) (κ.N + 1))) (hpn : ρ.pn = []) (hN : κ.N=C.u.size) (hG : κ.G=C.G) (hu:C.u.size<=200) (hX:OkX C.u.size lo hi κ.X) :
  Zke C w0 F0 (.func (.func 138) #[] #[.pointer (some ⟨κ.Ab,0,none⟩),.pointer (some ⟨Sb,0,none⟩),.pointer (some ⟨Kb,0,none⟩)]) κ.X (Ztl C ρ κ mine):=by
 refine ⟨_,_,rfl,fun _ _=>by kernel_rfl,?_⟩;rintro w F l hFb Fr p ⟨T,tl,K,hR⟩ hp;have hS1:=hS.later l; have hSb1:=hSb.later l; have hKb1:=hKb.later l;have hok:=ZR (Ji (C:=C) (ρ := ρ) (κ := κ) hS.ok T tl K (fun p=>(K p).isSome));have hF0 :∀k,Fr k->F k:=fun k hk=>(hok.lt hR k hk).1;obtain ⟨FK,FS,hA⟩:=Zl.1 (Zy hR);obtain ⟨⟨r1,r2⟩,r3,r4,r5,r6,r7⟩:=id hA.one;have hp200:p<=200:=by omega
 have cA:w.cell? ⟨κ.Ab,p,none⟩=some (.bool (K p).isSome):=by rw [Zc r2]; simpa using ZhB (fun p=>(K p).isSome) hp200
 have cR:=r1.cellAt p (by omega);rw [ZeN K (by omega)] at cR
 cases hK:K p with
 | some x =>
   obtain ⟨v,M⟩:=x;rw [hK] at cA cR;obtain ⟨hEn,hM⟩:=r7 p v M hK;obtain ⟨ao,cap,hvf⟩:=hEn.form;refine Zqs (ao:=ao) (l:=M.length) (c:=cap) hp200 (by omega) cA hKb1.cell (by rw [cR,<- hvf]) ?_;exact ⟨_,M,F,Fr,rfl,⟨T,tl,K,hR⟩,Trn.refl hF0,by rw [<- hvf]; exact hEn,by rw [hM,hG]⟩
 | none =>
   rw [hK] at cA;have hk1:Za (fun k=>k = κ.Ab) w (w.setCell ⟨κ.Ab,p,none⟩ (.bool true)):=Zh w _ _ _;have hl1:Lat w F (w.setCell ⟨κ.Ab,p,none⟩ (.bool true)) F:=⟨hk1.mono (fun k _ e=>e ▸ r5),fun k h=>Or.inl h⟩;have hKn1:KnB κ K (fun q=>if q=p then true else (K q).isSome) (w.setCell ⟨κ.Ab,p,none⟩ (.bool true)) F FK:=by
    refine ⟨⟨Jj r1 (fun k h=>?_),?_⟩,r3,r4,r5,r6,fun q v M h=>⟨(r7 q v M h).1.later hl1,(r7 q v M h).2⟩⟩
    ·simp [Value.ownBlock] at h;subst h;exact Q0 r6
    ·rw [heap_setCell_same _ _ _ _ _ _ r2,<- Zrh];simp
   have t1:Trn w F FK (w.setCell ⟨κ.Ab,p,none⟩ (.bool true)) F FK:=Trn.same (fun k hk=>((Zd2 _ _ _).lt hA.one k hk).1) (hk1.mono (fun k _ e=>(r3 k).2 (Or.inr e)));obtain ⟨hA1,t1'⟩:=hA.upd (Zd2 _ _ _) (Zb7 hS.ok _ _ _ _) t1 hKn1;have hR1:Zp (SeR C ρ tl T :: KnB κ K (fun q=>if q=p then true else (K q).isSome) :: mine) (w.setCell ⟨κ.Ab,p,none⟩ (.bool true)) F _:=Zy (Zl.2 ⟨_,_,hA1⟩);have hok1 :∀tl T,Zq (Zp (KnB κ K (fun q=>if q=p then true else (K q).isSome) :: mine)):=fun tl T=>ZR (fun R hR=>(Ji (C:=C) (ρ := ρ) hS.ok T tl K _) R (List.mem_cons.2 (Or.inr hR)));obtain ⟨Fs1,Fk1,hB1⟩:=Zl.1 hR1;have hSe1:Se (w.setCell ⟨κ.Ab,p,none⟩ (.bool true)) C ρ.jn ρ.bg tl:=hB1.one.choose_spec.1;refine Zqt (X:=C.X) (m:=C.m) (kr := κ.kr) (n := κ.N + 1) (cap := κ.N + 1)
    (R2:=fun w2 =>∃F2 Fr2,Zp (SeR C ρ tl tno :: KnB κ K (fun q=>if q=p then true else (K q).isSome) :: mine) w2 F2 Fr2/\Trn w F Fr w2 F2 Fr2)
    (R3:=fun A P w2 =>∃F2 Fr2,Zp (SeR C ρ tl tno :: KnB κ K (fun q=>if q=p then true else (K q).isSome) :: mine) w2 F2 Fr2/\Trn w F Fr w2 F2 Fr2/\BxI w2 F2 A 52 (.pointer (some ⟨C.X,0,none⟩))/\BxI w2 F2 P 3 (.int .i64 (p:Int)))
    hp200 (by omega) cA (Zv r2) (hSb1.later hl1).cell hSe1.c3 ?_ ?_ ?_
   ·refine (Zmm hB1.one hpn).mono ?_;rintro e w2 ⟨rfl,F2,Fs2,g1,g2⟩;obtain ⟨p1,p2⟩:=hB1.upd (Qx _ _ _ _) (hok1 tl T) g2 g1;have t2:=t1'.trans p2;have l2:=t2.lat hF0;exact ⟨rfl,⟨F2,_,Zl.2 ⟨_,_,p1⟩,t2⟩,(hKb1.later l2).cell,(hSb1.later l2).cell⟩
   ·rintro w2 w3 ⟨F2,Fr2,g1,g2⟩ k3;have hokn:=ZR (Ji (C:=C) (ρ := ρ) (κ := κ) hS.ok tno tl K (fun q=>if q=p then true else (K q).isSome));have hFb2:Fb w2 F2:=hFb.trn g2 (fun k hk=>(hokn.lt g1 k hk).2);refine (Ziq (C:=C) (p:=(p:Int))).mono ?_;rintro e w4 ⟨rfl,b1,b2,k4⟩;have k24:=k3.trans k4;have hF2 :∀k,Fr2 k->F2 k:=fun k hk=>(hokn.lt g1 k hk).1;have g1':=hokn.frame g1 (Lat.ofKeeps k24) hF2 (fun k hk=>k24.block k (hokn.lt g1 k hk).2 id);have t4:Trn w F Fr w4 F2 Fr2:=g2.trans (Trn.ofKeeps hF2 k24);have l4:=t4.lat hF0;have hbig :∀k,w3.heap.size<=k->¬ F2 k:=fun k hk h=>by have:=hFb2 k h; have:=k3.size; omega
    exact ⟨_,_,rfl,⟨F2,Fr2,g1',t4,⟨b1,hbig _ (Nat.le_refl _)⟩,⟨b2,hbig _ (by omega)⟩⟩,(hKb1.later l4).cell,(hSb1.later l4).cell⟩
   ·rintro A P w3 w4 ⟨F2,Fr2,g1,g2,b1,b2⟩ k4;have hokn:=ZR (Ji (C:=C) (ρ := ρ) (κ := κ) hS.ok tno tl K (fun q=>if q=p then true else (K q).isSome));have hF2 :∀k,Fr2 k->F2 k:=fun k hk=>(hokn.lt g1 k hk).1;have g1':=hokn.frame g1 (Lat.ofKeeps k4) hF2 (fun k hk=>k4.block k (hokn.lt g1 k hk).2 id);have t4:Trn w F Fr w4 F2 Fr2:=g2.trans (Trn.ofKeeps hF2 k4);have l4:=t4.lat hF0;have hFb4:Fb w4 F2:=hFb.trn t4 (fun k hk=>(hokn.lt g1' k hk).2);obtain ⟨FK4,FS4,hA4⟩:=Zl.1 (Zy g1');refine (Zho (hS1.later l4) (b1.later (Lat.ofKeeps k4)) (b2.later (Lat.ofKeeps k4)) hFb4 hA4.two hp hu ZpE hX).mono ?_;rintro e w5 ⟨v,M,T',tv,F5,Fr5,rfl,c1,c2,c3,c4⟩;obtain ⟨p1,p2⟩:=hA4.swap.upd (Zb7 hS.ok _ _ _ _) (Zd2 _ _ _) c2 c1;have t5:=t4.trans p2;have l5:=t5.lat hF0;obtain ⟨⟨s1,s2⟩,s3,s4,s5,s6,s7⟩:=id p1.two;obtain ⟨ao,cap,hvf⟩:=c3.form;have hk6:Za (fun k=>k = κ.kr) w5 (w5.setCell ⟨κ.kr,p,none⟩ v):=Zh w5 _ _ _;have l6:Lat w5 F5 (w5.setCell ⟨κ.kr,p,none⟩ v) F5:=⟨hk6.mono (fun k _ e=>e ▸ s4),fun k h=>Or.inl h⟩;have cs1:=s1.cellAt p (by omega);rw [ZeN K (by omega),hK] at cs1;have hKn6:KnB κ (Zm7 K p (v,M)) (fun q=>(Zm7 K p (v,M) q).isSome) (w5.setCell ⟨κ.kr,p,none⟩ v) F5 FK4:=by
     refine ⟨⟨?_,?_⟩,s3,s4,s5,s6,fun q v' M' h=>?_⟩
     ·rw [<- ZqK]; exact ZkY s1 p v
     ·have e:(fun q=>if q=p then true else (K q).isSome)=(fun q=>(Zm7 K p (v,M) q).isSome):=by funext q; unfold Zm7; by_cases hq:q=p <;> simp [hq]
      rw [Q0 (Ne.symm s6),<- e];exact s2
     ·unfold Zm7 at h
      split at h
      ·rename_i hq;subst hq;simp at h;obtain ⟨rfl,rfl⟩:=h;exact ⟨c3.later l6,by rw [c4,hG]⟩
      ·exact ⟨(s7 q v' M' h).1.later l6,(s7 q v' M' h).2⟩
    have t6:Trn w5 F5 FK4 (w5.setCell ⟨κ.kr,p,none⟩ v) F5 FK4:=Trn.same (fun k hk=>((Zd2 _ _ _).lt p1.two k hk).1) (hk6.mono (fun k _ e=>(s3 k).2 (Or.inl e)));obtain ⟨q1,q2⟩:=p1.swap.upd (Zd2 _ _ _) (Zb7 hS.ok _ _ _ _) t6 hKn6;refine ⟨ao,M.length,cap,_,by rw [hvf],cs1,(ZcH s1 p).1,?_,?_,?_,?_,(hKb1.later l5).cell,(hSb1.later l5).cell⟩
    ·rw [<- hvf]; exact (hKb1.later (l5.trans l6)).cell
    ·rw [<- hvf]; exact (hSb1.later (l5.trans l6)).cell
    ·rw [<- hvf]
     have:=(ZkY s1 p v).cellAt p (by omega)
     rw [this,List.getElem?_set_self (by rw [Zdh]; omega)]
    ·rw [<- hvf];exact ⟨v,M,F5,_,rfl,⟨T',tv,Zm7 K p (v,M),Zy (Zl.2 ⟨_,_,q1⟩)⟩,t5.trans q2,c3.later l6,c4⟩
theorem Tryz.infoEndsP:(Tryz.prog.info? 221).map (fun i=>(i.zero,i.size,i.bytes))=some (some (.slice none 0 0),1,24):=by kernel_rfl
theorem Ztf:Tryz.zeroCells245=(asv fun _=>false).toArray:=by kernel_rfl
def kno:Kf:=fun _=>none
theorem Zjg (n:Nat) (hn:n<=1000000) (w:World) :∃w',(Instr.makeSlice 244 (.int .i64 (n:Int)) (.int .i64 (n:Int))).run Tryz.prog w = .ok (.slice (some ⟨w.heap.size,0,none⟩) n n) w'/\w'.ownsRow 0 221 1 (.slice (some ⟨w.heap.size,0,none⟩) n n) n (knv kno n)/\Za N0_ w w':=by
 obtain ⟨i0,hi,hz0,hz1,hz2⟩:=info_parts Tryz.infoEndsP;obtain ⟨w1,hmk,hrow,hgrow⟩:=run_make_full (P:=Tryz.prog) w 0 244 221 i0 (.slice none 0 0) 1 Tryz.underlying244 hi hz0 hz1 .i64 .i64 n (by rw [hz2]; omega) (by unfold maxLen; omega) (Nat.zero_le _);refine ⟨w1,hmk,?_,(Za.refl _ _).grown hgrow (by simp)⟩;have e:(madeCells (Value.cells (.slice none 0 0)) (n * 1)).toList=knv kno n:=by
  rw [Nat.mul_one];refine (toList_madeCells_one _ _).trans ?_;simp [knv,kno,List.map_const']
 rw [e] at hrow;exact hrow
theorem ZdE {w:World} {C:Cx} {jn:Int} {bg tl:Value} (h:Se w C jn bg tl) (hu:C.u.size<=200) :
  Calls Tryz.prog 108 #[.pointer (some ⟨C.X,0,none⟩)] w fun e w' =>∃Ab Sb Kb kr,e = .returned (.func (.func 138) #[] #[.pointer (some ⟨Ab,0,none⟩),.pointer (some ⟨Sb,0,none⟩),.pointer (some ⟨Kb,0,none⟩)])/\(w.heap.size<=Ab/\w.heap.size<=Sb/\w.heap.size<=Kb/\w.heap.size<=kr/\kr≠Ab/\kr≠Sb/\kr≠Kb/\Ab≠Sb/\Ab≠Kb)/\At1 w' Sb 52 (.pointer (some ⟨C.X,0,none⟩))/\At1 w' Kb 244 (.slice (some ⟨kr,0,none⟩) (C.u.size + 1) (C.u.size + 1))/\w'.ownsRow 0 221 1 (.slice (some ⟨kr,0,none⟩) (C.u.size + 1) (C.u.size + 1)) (C.u.size + 1) (knv kno (C.u.size + 1))/\w'.heap[Ab]? = some (.cells (asv fun _=>false).toArray 245 (0,0))/\Za N0_ w w':=by
 have hmf :∀(fn:Fn) (first cap:Array Value) (w:World),(Instr.makeFunc fn first cap).run Tryz.prog w = .ok (.func fn first cap) w:=fun _ _ _ _=>rfl;have b1:At1 (w.alloc (.cells #[.pointer (some ⟨C.X,0,none⟩)] 52)) w.heap.size 52 (.pointer (some ⟨C.X,0,none⟩)):=heap_alloc_new _ _;have k1:Za N0_ w (w.alloc (.cells #[.pointer (some ⟨C.X,0,none⟩)] 52)):=(Za.refl _ w).alloc _;have c0:=(h.same (k1.block C.X h.lt id)).c0;clear h;go_enter Tryz.func108,Tryz.ntmps108;go_upto_region 1 with fail;have s1:=b1.lt;generalize (w.alloc (.cells #[.pointer (some ⟨C.X,0,none⟩)] 52))=w1 at b1 k1 c0 s1 ⊢;have cb:=b1.cell;obtain ⟨w2,hmk,hrow,k2⟩:=Zjg (C.u.size + 1) (by omega) w1;have hz:((C.u.size:Nat):Int) + 1=((C.u.size + 1:Nat):Int):=by push_cast; rfl
 have hwr:IntKind.i64.wrap ((C.u.size:Int) + 1)=((C.u.size + 1:Nat):Int):=by rw [hz]; exact IntWalk.i64_in _ ⟨by omega,by omega⟩
 have s2:=(ZcH hrow 0).2;have k3:Za N0_ w2 (w2.alloc (.cells #[.slice (some ⟨w1.heap.size,0,none⟩) (C.u.size + 1) (C.u.size + 1)] 244)):=(Za.refl _ w2).alloc _;have b3:At1 (w2.alloc (.cells #[.slice (some ⟨w1.heap.size,0,none⟩) (C.u.size + 1) (C.u.size + 1)] 244)) w2.heap.size 244 (.slice (some ⟨w1.heap.size,0,none⟩) (C.u.size + 1) (C.u.size + 1)):=heap_alloc_new _ _;have hN:=k1.size;generalize hN1:C.u.size + 1=N1 at *;have HN1:Hid (C.u.size + 1=N1):=hN1;clear hN1;go_upto_region 2 with fail;have s3:=b3.lt;generalize (w2.alloc (.cells #[.slice (some ⟨w1.heap.size,0,none⟩) N1 N1] 244))=w3 at b3 k3 s3 ⊢;have k4:Za N0_ w3 (w3.alloc (.cells Tryz.zeroCells245 245)):=(Za.refl _ w3).alloc _;have b4:(w3.alloc (.cells Tryz.zeroCells245 245)).heap[w3.heap.size]? = some (.cells (asv fun _=>false).toArray 245 (0,0)):=(by rw [<- Ztf]; exact heap_alloc_new w3 _);go_upto_region 3 with fail;generalize (w3.alloc (.cells Tryz.zeroCells245 245))=w4 at b4 k4 ⊢;have B1:At1 w4 w.heap.size 52 (.pointer (some ⟨C.X,0,none⟩)):=((b1.keeps k2 id).keeps k3 id).keeps k4 id;have B3:=b3.keeps k4 id;have R3:=Zb (Zb hrow k3 (fun _ _ h=>h)) k4 (fun _ _ h=>h);have HF:Hid (∃Ab Sb Kb kr,(Value.func (.func 138) #[] #[.pointer (some ⟨w3.heap.size,0,none⟩),.pointer (some ⟨w.heap.size,0,none⟩),.pointer (some ⟨w2.heap.size,0,none⟩)])=(.func (.func 138) #[] #[.pointer (some ⟨Ab,0,none⟩),.pointer (some ⟨Sb,0,none⟩),.pointer (some ⟨Kb,0,none⟩)])/\(w.heap.size<=Ab/\w.heap.size<=Sb/\w.heap.size<=Kb/\w.heap.size<=kr/\kr≠Ab/\kr≠Sb/\kr≠Kb/\Ab≠Sb/\Ab≠Kb)/\At1 w4 Sb 52 (.pointer (some ⟨C.X,0,none⟩))/\At1 w4 Kb 244 (.slice (some ⟨kr,0,none⟩) N1 N1)/\w4.ownsRow 0 221 1 (.slice (some ⟨kr,0,none⟩) N1 N1) N1 (knv kno N1)/\w4.heap[Ab]? = some (.cells (asv fun _=>false).toArray 245 (0,0))/\Za N0_ w w4) :=
  ⟨_,_,_,w1.heap.size,rfl,⟨by omega,by omega,by omega,by omega,by omega,by omega,by omega,by omega,by omega⟩,B1,B3,R3,b4,((k1.trans k2).trans k3).trans k4⟩
 clear B1 B3 R3 b1 b3 b4 k1 k2 k3 k4 hrow hmk c0 cb;go_wp2_with fail;go_ret;obtain ⟨Ab,Sb,Kb,kr,h1,h2⟩:=HF.out;have e:=HN1.out;subst e;exact ⟨Ab,Sb,Kb,kr,congrArg Ending.returned h1,h2⟩
def At4 (w:World) (b:Nat) (lo hi:Int) (lz:Bool) (ty:TypeId) (y:Value):Prop:=w.cell? ⟨b,0,none⟩=some (.int .i64 lo)/\w.cell? ⟨b,1,none⟩=some (.int .i64 hi)/\w.cell? ⟨b,2,none⟩=some (.bool lz)/\w.cell? ⟨b,3,none⟩=some (.iface ty y)
def Zbm (Q:Ending->World->Prop) (e:Ending) (w:World):Prop :=∃fn cap,e = .returned (.func (.func fn) #[] cap)/\Hid (Q (.returned (.func (.func fn) #[] cap)) w)
theorem Znq {w:World} {X fn:Nat} {cap:Array Value} {f:Nat->Nat} {Q:Ending->World->Prop}
  (hcall :∀w1,Za N0_ w w1->Calls Tryz.prog 78 #[.pointer (some ⟨X,0,none⟩),.agg #[.int .u64 (f 0),.int .u64 (f 1),.int .u64 (f 2),.int .u64 (f 3)],.func (.func fn) #[] cap] w1 (Zbm Q)) :
  Calls Tryz.prog 58 #[.pointer (some ⟨X,0,none⟩),.iface 172 (.agg #[.int .u64 (f 0),.int .u64 (f 1),.int .u64 (f 2),.int .u64 (f 3)]),.func (.func fn) #[] cap] w Q:=by
 have hc:=hcall (w.alloc (.cells #[.int .u64 (f 0),.int .u64 (f 1),.int .u64 (f 2),.int .u64 (f 3)] 172)) ((Za.refl _ _).alloc _);clear hcall;have ta0 :∀(x:Value) (w:World),(Instr.typeAssert (.iface 172 x) 85 172 true).run Tryz.prog w = .ok (.tuple #[x,.bool true]) w:=fun _ _=>by kernel_rfl
 go_enter Tryz.func58,Tryz.ntmps58;go_wp2_with (go_at_call 78; refine hc.mono ?_; rintro e w2 ⟨fn2,cap2,rfl,hQ⟩);exact hQ.out
theorem ZiW {w:World} {X fn:Nat} {cap:Array Value} {Q:Ending->World->Prop}
  (hcall :∀w1,Za N0_ w w1->Calls Tryz.prog 84 #[.int .i64 0,.func (.func fn) #[] cap] w1 (Zbm Q)) :
  Calls Tryz.prog 58 #[.pointer (some ⟨X,0,none⟩),.iface 185 (.agg #[]),.func (.func fn) #[] cap] w Q:=by
 have hc:=hcall (w.alloc (.cells #[] 185)) ((Za.refl _ _).alloc _);clear hcall;have ta0 :∀(x:Value) (w:World),(Instr.typeAssert (.iface 185 x) 85 172 true).run Tryz.prog w = .ok (.tuple #[.agg #[.int .u64 0,.int .u64 0,.int .u64 0,.int .u64 0],.bool false]) w:=fun _ _=>by kernel_rfl
 have ta1 :∀(x:Value) (w:World),(Instr.typeAssert (.iface 185 x) 85 175 true).run Tryz.prog w = .ok (.tuple #[.agg #[.slice none 0 0],.bool false]) w:=fun _ _=>by kernel_rfl
 have ta2 :∀(x:Value) (w:World),(Instr.typeAssert (.iface 185 x) 85 165 true).run Tryz.prog w = .ok (.tuple #[.agg #[.slice none 0 0],.bool false]) w:=fun _ _=>by kernel_rfl
 have ta3 :∀(x:Value) (w:World),(Instr.typeAssert (.iface 185 x) 85 179 true).run Tryz.prog w = .ok (.tuple #[.agg #[.int .i64 0,.int .i64 0,.bool false,.nilIface],.bool false]) w:=fun _ _=>by kernel_rfl
 have ta4 :∀(x:Value) (w:World),(Instr.typeAssert (.iface 185 x) 85 182 true).run Tryz.prog w = .ok (.tuple #[.agg #[.int .i64 0,.nilIface],.bool false]) w:=fun _ _=>by kernel_rfl
 have ta5 :∀(x:Value) (w:World),(Instr.typeAssert (.iface 185 x) 85 185 true).run Tryz.prog w = .ok (.tuple #[x,.bool true]) w:=fun _ _=>by kernel_rfl
 go_enter Tryz.func58,Tryz.ntmps58;go_wp2_with (go_at_call 84; refine hc.mono ?_; rintro e w2 ⟨fn2,cap2,rfl,hQ⟩);exact hQ.out
theorem Znu {w:World} {X fn:Nat} {cap:Array Value} {u:ByteArray} {Q:Ending->World->Prop} (c0 :∀w1,Za N0_ w w1->w1.cell? ⟨X,0,none⟩=some (.string u))
  (hcall :∀w1,Za N0_ w w1->Calls Tryz.prog 84 #[.int .i64 (u.size:Int),.func (.func fn) #[] cap] w1 (Zbm Q)) :
  Calls Tryz.prog 58 #[.pointer (some ⟨X,0,none⟩),.iface 187 (.agg #[]),.func (.func fn) #[] cap] w Q:=by
 have hc:=hcall (w.alloc (.cells #[] 187)) ((Za.refl _ _).alloc _);have c1:=c0 (w.alloc (.cells #[] 187)) ((Za.refl _ _).alloc _);clear hcall c0;have ta0 :∀(x:Value) (w:World),(Instr.typeAssert (.iface 187 x) 85 172 true).run Tryz.prog w = .ok (.tuple #[.agg #[.int .u64 0,.int .u64 0,.int .u64 0,.int .u64 0],.bool false]) w:=fun _ _=>by kernel_rfl
 have ta1 :∀(x:Value) (w:World),(Instr.typeAssert (.iface 187 x) 85 175 true).run Tryz.prog w = .ok (.tuple #[.agg #[.slice none 0 0],.bool false]) w:=fun _ _=>by kernel_rfl
 have ta2 :∀(x:Value) (w:World),(Instr.typeAssert (.iface 187 x) 85 165 true).run Tryz.prog w = .ok (.tuple #[.agg #[.slice none 0 0],.bool false]) w:=fun _ _=>by kernel_rfl
 have ta3 :∀(x:Value) (w:World),(Instr.typeAssert (.iface 187 x) 85 179 true).run Tryz.prog w = .ok (.tuple #[.agg #[.int .i64 0,.int .i64 0,.bool false,.nilIface],.bool false]) w:=fun _ _=>by kernel_rfl
 have ta4 :∀(x:Value) (w:World),(Instr.typeAssert (.iface 187 x) 85 182 true).run Tryz.prog w = .ok (.tuple #[.agg #[.int .i64 0,.nilIface],.bool false]) w:=fun _ _=>by kernel_rfl
 have ta5 :∀(x:Value) (w:World),(Instr.typeAssert (.iface 187 x) 85 185 true).run Tryz.prog w = .ok (.tuple #[.agg #[],.bool false]) w:=fun _ _=>by kernel_rfl
 have ta6 :∀(x:Value) (w:World),(Instr.typeAssert (.iface 187 x) 85 187 true).run Tryz.prog w = .ok (.tuple #[x,.bool true]) w:=fun _ _=>by kernel_rfl
 go_enter Tryz.func58,Tryz.ntmps58;go_wp2_with (go_at_call 84; refine hc.mono ?_; rintro e w2 ⟨fn2,cap2,rfl,hQ⟩);exact hQ.out
theorem Znr {w:World} {X fn:Nat} {cap:Array Value} {ao:Option Addr} {n c:Nat} {Q:Ending->World->Prop}
  (hcall :∀w1,Za N0_ w w1->Calls Tryz.prog 79 #[.pointer (some ⟨X,0,none⟩),.slice ao n c,.func (.func fn) #[] cap] w1 (Zbm Q)) :
  Calls Tryz.prog 58 #[.pointer (some ⟨X,0,none⟩),.iface 175 (.agg #[.slice ao n c]),.func (.func fn) #[] cap] w Q:=by
 have hc:=hcall (w.alloc (.cells #[.slice ao n c] 175)) ((Za.refl _ _).alloc _);clear hcall;have ta0 :∀(x:Value) (w:World),(Instr.typeAssert (.iface 175 x) 85 172 true).run Tryz.prog w = .ok (.tuple #[.agg #[.int .u64 0,.int .u64 0,.int .u64 0,.int .u64 0],.bool false]) w:=fun _ _=>by kernel_rfl
 have ta1 :∀(x:Value) (w:World),(Instr.typeAssert (.iface 175 x) 85 175 true).run Tryz.prog w = .ok (.tuple #[x,.bool true]) w:=fun _ _=>by kernel_rfl
 go_enter Tryz.func58,Tryz.ntmps58;go_wp2_with (go_at_call 79; refine hc.mono ?_; rintro e w2 ⟨fn2,cap2,rfl,hQ⟩);exact hQ.out
theorem Znt {w:World} {X fn:Nat} {cap:Array Value} {num:Int} {ty:TypeId} {y:Value} {Q:Ending->World->Prop}
  (hcall :∀w1,Za N0_ w w1->Calls Tryz.prog 83 #[.pointer (some ⟨X,0,none⟩),.agg #[.int .i64 num,.iface ty y],.func (.func fn) #[] cap] w1 (Zbm Q)) :
  Calls Tryz.prog 58 #[.pointer (some ⟨X,0,none⟩),.iface 182 (.agg #[.int .i64 num,.iface ty y]),.func (.func fn) #[] cap] w Q:=by
 have hc:=hcall (w.alloc (.cells #[.int .i64 num,.iface ty y] 182)) ((Za.refl _ _).alloc _);clear hcall;have ta0 :∀(x:Value) (w:World),(Instr.typeAssert (.iface 182 x) 85 172 true).run Tryz.prog w = .ok (.tuple #[.agg #[.int .u64 0,.int .u64 0,.int .u64 0,.int .u64 0],.bool false]) w:=fun _ _=>by kernel_rfl
 have ta1 :∀(x:Value) (w:World),(Instr.typeAssert (.iface 182 x) 85 175 true).run Tryz.prog w = .ok (.tuple #[.agg #[.slice none 0 0],.bool false]) w:=fun _ _=>by kernel_rfl
 have ta2 :∀(x:Value) (w:World),(Instr.typeAssert (.iface 182 x) 85 165 true).run Tryz.prog w = .ok (.tuple #[.agg #[.slice none 0 0],.bool false]) w:=fun _ _=>by kernel_rfl
 have ta3 :∀(x:Value) (w:World),(Instr.typeAssert (.iface 182 x) 85 179 true).run Tryz.prog w = .ok (.tuple #[.agg #[.int .i64 0,.int .i64 0,.bool false,.nilIface],.bool false]) w:=fun _ _=>by kernel_rfl
 have ta4 :∀(x:Value) (w:World),(Instr.typeAssert (.iface 182 x) 85 182 true).run Tryz.prog w = .ok (.tuple #[x,.bool true]) w:=fun _ _=>by kernel_rfl
 go_enter Tryz.func58,Tryz.ntmps58;go_wp2_with (go_at_call 83; refine hc.mono ?_; rintro e w2 ⟨fn2,cap2,rfl,hQ⟩);exact hQ.out
theorem Znv {w:World} {X fn:Nat} {cap:Array Value} {ao:Option Addr} {n c:Nat} {R:Nat->Array Value->World->Prop} {Q:Ending->World->Prop}
  (honce :∀w1,Za N0_ w w1->w1.cell? ⟨w.heap.size,0,none⟩=some (.slice ao n c)->Calls Tryz.prog 81 #[.pointer (some ⟨X,0,none⟩),.func (.func fn) #[] cap] w1 (fun e w2 =>∃fn2 cap2,e = .returned (.func (.func fn2) #[] cap2)/\Hid (R fn2 cap2 w2)/\w2.cell? ⟨w.heap.size,0,none⟩=some (.slice ao n c)))
  (hcall :∀fn2 cap2 w1 w2,R fn2 cap2 w1->Za N0_ w1 w2->w2.cell? ⟨w.heap.size,0,none⟩=some (.slice ao n c)->Calls Tryz.prog 80 #[.pointer (some ⟨X,0,none⟩),.slice ao n c,.func (.func fn2) #[] cap2] w2 (fun e w3=>Zbm Q e w3/\w3.cell? ⟨w.heap.size,0,none⟩=some (.slice ao n c))) :
  Calls Tryz.prog 58 #[.pointer (some ⟨X,0,none⟩),.iface 165 (.agg #[.slice ao n c]),.func (.func fn) #[] cap] w Q:=by
 have b1:At1 (w.alloc (.cells #[.slice ao n c] 165)) w.heap.size 165 (.slice ao n c):=heap_alloc_new _ _;have hS0:(w.alloc (.cells #[.slice ao n c] 165)).drew.cell? ⟨w.heap.size,0,none⟩=some (.slice ao n c):=b1.cell;have hc:=honce (w.alloc (.cells #[.slice ao n c] 165)).drew (((Za.refl _ _).alloc _).drew) hS0;clear honce b1;have ta0 :∀(x:Value) (w:World),(Instr.typeAssert (.iface 165 x) 85 172 true).run Tryz.prog w = .ok (.tuple #[.agg #[.int .u64 0,.int .u64 0,.int .u64 0,.int .u64 0],.bool false]) w:=fun _ _=>by kernel_rfl
 have ta1 :∀(x:Value) (w:World),(Instr.typeAssert (.iface 165 x) 85 175 true).run Tryz.prog w = .ok (.tuple #[.agg #[.slice none 0 0],.bool false]) w:=fun _ _=>by kernel_rfl
 have ta2 :∀(x:Value) (w:World),(Instr.typeAssert (.iface 165 x) 85 165 true).run Tryz.prog w = .ok (.tuple #[x,.bool true]) w:=fun _ _=>by kernel_rfl
 go_enter Tryz.func58,Tryz.ntmps58;go_upto_region 10 with fail;generalize w.heap.size=pb at *;go_region_held3 (fun w'=>(w'.cell? ⟨pb,0,none⟩=some (.slice ao n c))) (first | assumption | go_keep) (first
  | (go_at_call 81; refine hc.mono ?_; rintro e w2 ⟨fn2,cap2,rfl,HR,hS2⟩; have hc2:=hcall fn2 cap2 w2 w2 HR.out (Za.refl _ _) hS2)
  | (go_at_call 80; refine hc2.mono ?_; rintro e w3 ⟨⟨fn3,cap3,rfl,hQ⟩,hS3⟩))
 all_goals (try go_wp2_with fail)
 all_goals exact hQ.out
theorem Zns {w:World} {X fn:Nat} {cap:Array Value} {lo hi:Int} {lz:Bool} {ty:TypeId} {y:Value} {R:Nat->Array Value->World->Prop} {Q:Ending->World->Prop}
  (honce :∀w1,Za N0_ w w1->At4 w1 w.heap.size lo hi lz ty y->Calls Tryz.prog 81 #[.pointer (some ⟨X,0,none⟩),.func (.func fn) #[] cap] w1 (fun e w2 =>∃fn2 cap2,e = .returned (.func (.func fn2) #[] cap2)/\Hid (R fn2 cap2 w2)/\At4 w2 w.heap.size lo hi lz ty y))
  (hcall :∀fn2 cap2 w1 w2,R fn2 cap2 w1->Za N0_ w1 w2->At4 w2 w.heap.size lo hi lz ty y->Calls Tryz.prog 82 #[.pointer (some ⟨X,0,none⟩),.agg #[.int .i64 lo,.int .i64 hi,.bool lz,.iface ty y],.func (.func fn2) #[] cap2] w2 (fun e w3=>Zbm Q e w3/\At4 w3 w.heap.size lo hi lz ty y)) :
  Calls Tryz.prog 58 #[.pointer (some ⟨X,0,none⟩),.iface 179 (.agg #[.int .i64 lo,.int .i64 hi,.bool lz,.iface ty y]),.func (.func fn) #[] cap] w Q:=by
 have b1:(w.alloc (.cells #[.int .i64 lo,.int .i64 hi,.bool lz,.iface ty y] 179)).heap[w.heap.size]? = some (.cells #[.int .i64 lo,.int .i64 hi,.bool lz,.iface ty y] 179 (0,0)):=heap_alloc_new _ _;have hS0:At4 (w.alloc (.cells #[.int .i64 lo,.int .i64 hi,.bool lz,.iface ty y] 179)).drew w.heap.size lo hi lz ty y:=⟨by rw [Zc (w:=(w.alloc _).drew) b1]; rfl,by rw [Zc (w:=(w.alloc _).drew) b1]; rfl,by rw [Zc (w:=(w.alloc _).drew) b1]; rfl,by rw [Zc (w:=(w.alloc _).drew) b1]; rfl⟩;have hc:=honce (w.alloc (.cells #[.int .i64 lo,.int .i64 hi,.bool lz,.iface ty y] 179)).drew (((Za.refl _ _).alloc _).drew) hS0;clear honce b1;unfold At4 at hS0 hc hcall;have ta0 :∀(x:Value) (w:World),(Instr.typeAssert (.iface 179 x) 85 172 true).run Tryz.prog w = .ok (.tuple #[.agg #[.int .u64 0,.int .u64 0,.int .u64 0,.int .u64 0],.bool false]) w:=fun _ _=>by kernel_rfl
 have ta1 :∀(x:Value) (w:World),(Instr.typeAssert (.iface 179 x) 85 175 true).run Tryz.prog w = .ok (.tuple #[.agg #[.slice none 0 0],.bool false]) w:=fun _ _=>by kernel_rfl
 have ta2 :∀(x:Value) (w:World),(Instr.typeAssert (.iface 179 x) 85 165 true).run Tryz.prog w = .ok (.tuple #[.agg #[.slice none 0 0],.bool false]) w:=fun _ _=>by kernel_rfl
 have ta3 :∀(x:Value) (w:World),(Instr.typeAssert (.iface 179 x) 85 179 true).run Tryz.prog w = .ok (.tuple #[x,.bool true]) w:=fun _ _=>by kernel_rfl
 go_enter Tryz.func58,Tryz.ntmps58;go_upto_region 13 with fail;generalize w.heap.size=pb at *;go_region_held3 (fun w'=>(w'.cell? ⟨pb,0,none⟩=some (.int .i64 lo)/\w'.cell? ⟨pb,1,none⟩=some (.int .i64 hi)/\w'.cell? ⟨pb,2,none⟩=some (.bool lz)/\w'.cell? ⟨pb,3,none⟩=some (.iface ty y))) (first | assumption | go_keep) (first
  | (go_at_call 81; refine hc.mono ?_; rintro e w2 ⟨fn2,cap2,rfl,HR,hS2⟩; have hc2:=hcall fn2 cap2 w2 w2 HR.out (Za.refl _ _) hS2)
  | (go_at_call 82; refine hc2.mono ?_; rintro e w3 ⟨⟨fn3,cap3,rfl,hQ⟩,hS3⟩))
 all_goals (try go_wp2_with fail)
 all_goals exact hQ.out
end Go.Proofs.YtfkflljplohhcaaGreatDoor
