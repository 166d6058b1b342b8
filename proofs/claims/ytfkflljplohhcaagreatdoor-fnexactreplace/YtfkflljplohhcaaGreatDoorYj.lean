import Derived.Test.YtfkflljplohhcaaGreatDoorYi
set_option maxHeartbeats 1000000
set_option maxRecDepth 100000
namespace Go.Proofs.YtfkflljplohhcaaGreatDoor
open Go.RowKit
set_option linter.unusedVariables false
theorem Trn.same {w w1:World} {F O:Bs2} (hO :∀k,O k->F k) (k:Za O w w1):Trn w F O w1 F O :=
 ⟨k,fun _ h=>Or.inl h,fun k h=>by by_cases hk:O k; exact Or.inr hk; exact Or.inl ⟨h,hk⟩,fun k _ h _=>h,hO⟩
def Zal (fn:FuncId) (tmps:Array Value) (ps:Array Tmp) (assign body:Code) (D:Nat) (st:LoopState) (pe:Option Code):Loop :=
 { state:=st,pending:=pe,fn:=fn,tmps:=tmps,params:=ps,assign:=assign,body:=body,defers:=D }
def LpR (l:Nat) (r:Loop) (U:Rsc):Rsc:=fun w F Fr =>∃Fu,(∀k,Fr k↔k=l\/Fu k)/\¬ Fu l/\F l/\w.heap[l]? = some (.loop r)/\U w F Fu
theorem ZpJ {l:Nat} {r:Loop} {U:Rsc} (h:Zq U):Zq (LpR l r U):=by
 refine ⟨?_,?_⟩
 ·rintro w F Fr ⟨Fu,he,hn,hF,hl,hU⟩ k hk
  rcases (he k).1 hk with rfl | hk
  ·exact ⟨hF,(Array.getElem?_eq_some_iff.1 hl).1⟩
  ·exact h.lt hU k hk
 ·rintro w w' F F' Fr ⟨Fu,he,hn,hF,hl,hU⟩ lt hF' hk;exact ⟨Fu,he,hn,hF' l ((he l).2 (Or.inl rfl)),by rw [hk l ((he l).2 (Or.inl rfl))]; exact hl,h.frame hU lt (fun k h1=>hF' k ((he k).2 (Or.inr h1))) (fun k h1=>hk k ((he k).2 (Or.inr h1)))⟩
def Zoz:Option Code->Exit->Prop
 | none,e=>e = .normal
 | some .ret,e=>e = .ret
 | some (.exit id),e=>e = .exit id
 | _,_=>False
theorem LpR.put {l:Nat} {r r':Loop} {U:Rsc} (hU:Zq U) {w:World} {F Fu:Bs2} (hn:¬ Fu l) (hF:F l) (hl:w.heap[l]? = some (.loop r)) (h:U w F Fu) :
  (w.putObj l (.loop r')).heap[l]? = some (.loop r')/\U (w.putObj l (.loop r')) F Fu/\Za (fun k=>k=l) w (w.putObj l (.loop r')):=by
 have hlt:=(Array.getElem?_eq_some_iff.1 hl).1;have hk:=JP w l (.loop r');have hlat:Lat w F (w.putObj l (.loop r')) F:=⟨hk.mono (fun k _ h=>by subst h; exact hF),fun k h=>Or.inl h⟩;exact ⟨ZeH hlt,hU.frame h hlat (fun k h1=>(hU.lt h k h1).1) (fun k h1=>Q3 (fun e=>hn (e ▸ h1))),hk⟩
theorem Zc2 {l fn D:Nat} {tmps:Array Value} {ps:Array Tmp} {assign body:Code} {c:Option Code} {arg:Array Value} {U U':Rsc} {w:World} {F Fr Fu:Bs2} {Ax:Act->World->Prop}
  (hU:Zq U) (hU':Zq U') (hps:arg.size=ps.size) (he :∀k,Fr k↔k=l\/Fu k) (hn:¬ Fu l) (hF:F l) (hl:w.heap[l]? = some (.loop (Zal fn tmps ps assign body D .ready none))) (hUw:U w F Fu)
  (ha:assign.wpIn (Fence.wide.inRound l) 0 Tryz.prog (Exit.then (fun a1 w1=>Za N0_ w w1/\Ax a1 w1) (fun _ _ _=>False)) { tmps:=(ps.zip arg).foldl (fun t (p,v)=>t.setIfInBounds p v) tmps,defers := [] } w)
  (hb :∀(a1:Act) (w1 w2:World),Za N0_ w w1->Ax a1 w1->Za (fun k=>k=l) w1 w2->U w2 F Fu->
   body.wpIn (Fence.wide.inRound l) 0 Tryz.prog (fun e a3 w3=>Zoz c e/\∃F' Fu',U' w3 F' Fu'/\Trn w2 F Fu w3 F' Fu') a1 w2) :
  YieldAt Fence.wide 0 Tryz.prog l arg w (fun e w'=>e = .returned (.bool c.isNone)/\∃F' Fr',LpR l (Zal fn tmps ps assign body D (if c.isNone then .ready else .done) c) U' w' F' Fr'/\Trn w F Fr w' F' Fr'):=by
 have hlt:=(Array.getElem?_eq_some_iff.1 hl).1;refine ⟨fn,_,assign,body,run_yield hl hps,roundIn_of_wpIn trivial (wpIn_mono ha ?_)⟩;intro e a1 w1 h
 cases e with
 | normal =>
   obtain ⟨k1,hA⟩:=h;have hl1:w1.heap[l]? = some (.loop (Zal fn tmps ps assign body D .ready none)):=by rw [k1.block l hlt id]; exact hl
   have hU1:U w1 F Fu:=hU.frame hUw (Lat.ofKeeps k1) (fun k h1=>(hU.lt hUw k h1).1) (fun k h1=>k1.block k (hU.lt hUw k h1).2 id);refine ⟨_,run_beginRound hl1 rfl,?_⟩;obtain ⟨q1,q2,q3⟩:=LpR.put (r' := { Zal fn tmps ps assign body D .ready none with state:=.busy }) hU hn hF hl1 hU1;generalize hw2:(w1.putObj l (.loop { Zal fn tmps ps assign body D .ready none with state:=.busy }))=w2 at *;have hlt2:l < w2.heap.size:=(Array.getElem?_eq_some_iff.1 q1).1;refine wpIn_mono (hb a1 w1 w2 k1 hA q3 q2) ?_;rintro e a3 w3 ⟨hx,F',Fu',g1,g2⟩;have hn':¬ Fu' l:=fun h=>(g2.fresh l h).elim hn (fun h2=>by omega);have hF':F' l:=g2.inn l hlt2 hF hn;have hl3:w3.heap[l]? = some (.loop { Zal fn tmps ps assign body D .ready none with state:=.busy }):=by rw [g2.keeps.block l hlt2 hn]; exact q1
   obtain ⟨p1,p2,p3⟩:=LpR.put (r':=Zal fn tmps ps assign body D (if c.isNone then .ready else .done) c) hU' hn' hF' hl3 g1;have hend:(Instr.endRound l c).run Tryz.prog w3 = .ok (.bool c.isNone) (w3.putObj l (.loop (Zal fn tmps ps assign body D (if c.isNone then .ready else .done) c))):=run_endRound c hl3;have hfin:(∃F' Fr',LpR l (Zal fn tmps ps assign body D (if c.isNone then .ready else .done) c) U' (w3.putObj l (.loop (Zal fn tmps ps assign body D (if c.isNone then .ready else .done) c))) F' Fr'/\Trn w F Fr (w3.putObj l (.loop (Zal fn tmps ps assign body D (if c.isNone then .ready else .done) c))) F' Fr'):=by
    refine ⟨F',fun k=>k=l\/Fu' k,⟨Fu',fun k=>Iff.rfl,hn',hF',p1,p2⟩,?_⟩;have hFr :∀k,Fr k->F k:=fun k hk=>((he k).1 hk).elim (fun e=>e ▸ hF) (fun h1=>(hU.lt hUw k h1).1);have t1:Trn w F Fr w1 F Fr:=Trn.ofKeeps hFr k1;have t2:Trn w1 F Fr w2 F Fr:=Trn.same hFr (q3.mono (fun k _ e=>(he k).2 (Or.inl e)));have t3:Trn w2 F Fr w3 F' (fun k=>k=l\/Fu' k):=(g2.wide (P:=fun k=>k=l) (fun k e=>by subst e; exact ⟨hF,hlt2,hn⟩)).congr (fun k=>by rw [he k]; exact Or.comm) (fun k=>Or.comm);have t4:Trn w3 F' (fun k=>k=l\/Fu' k) (w3.putObj l (.loop (Zal fn tmps ps assign body D (if c.isNone then .ready else .done) c))) F' (fun k=>k=l\/Fu' k) :=
     Trn.same (fun k hk=>hk.elim (fun e=>e ▸ hF') (fun h1=>(hU'.lt g1 k h1).1)) (p3.mono (fun k _ e=>Or.inl e))
    exact ((t1.trans t2).trans t3).trans t4
   cases c with
   | none =>
     cases hx
     exact ⟨_,_,hend,rfl,hfin⟩
   | some cd =>
     cases cd <;> first | (exact hx.elim) | (cases hx; exact ⟨_,_,hend,rfl,hfin⟩)
 | _=>exact h.elim
theorem ZdQ {g:Operand} {ps:Array Tmp} {assign body:Code} {Q:Exit->Act->World->Prop} {a:Act} {w:World} {gf n:Nat} {lb:Array Value} (hg:a.eval g = .func (.func gf) #[] lb) (eg:ZdD gf)
  (h :∀fn,Calls Tryz.prog gf (#[.func (.yield (w.heap.size + 1)) #[] #[]] ++ lb) ((w.alloc (.deferred (some []))).alloc (.loop (Zal fn a.tmps ps assign body w.heap.size .ready none)))
   (fun e w2 =>∃v,e = .returned v/\∃st pe,w2.heap[w.heap.size + 1]? = some (.loop (Zal fn a.tmps ps assign body w.heap.size st pe))/\st≠.busy/\
    match pe with
    | none=>Q .normal { a with defers := { target:=.collected w.heap.size,args:=#[] } :: a.defers } (w2.putObj (w.heap.size + 1) (.loop (Zal fn a.tmps ps assign body w.heap.size .exhausted pe)))
    | some c=>c.wpIn Fence.wide n Tryz.prog Q { a with defers := { target:=.collected w.heap.size,args:=#[] } :: a.defers } (w2.putObj (w.heap.size + 1) (.loop (Zal fn a.tmps ps assign body w.heap.size .exhausted pe))))) :
  (Code.rangeFunc g ps assign body).wpIn Fence.wide n Tryz.prog Q a w:=by
 refine wpIn_rangeFunc ?_;intro fn hfn;rw [show Fence.wide.round=none from rfl];obtain ⟨W1,hW1⟩ :∃W1,((w.alloc (.deferred (some []))).alloc (.loop (Zal fn a.tmps ps assign body w.heap.size .ready none)))=W1:=⟨_,rfl⟩;have h1:=h fn;rw [hW1] at h1;refine ⟨w.heap.size + 1,[{ target:=.collected w.heap.size,args:=#[] }],W1,{ target:=.fn (.func gf) lb,args:=#[.func (.yield (w.heap.size + 1)) #[] #[]] },W1,gf,
  #[.func (.yield (w.heap.size + 1)) #[] #[]] ++ lb,W1,?_,?_,?_,?_,?_,?_⟩
 ·rw [<- hW1]; exact run_enterLoop_outer _ _ _ _ _
 ·simp only [resolve,hg];simp [go_sem]
 ·exact fun _ _=>trivial
 ·simp [invoke,go_sem,eg _ _]
 ·intro hh; simp [Fence.wide] at hh
 ·refine callsIn_wide.2 (h1.mono ?_);rintro e w2 ⟨v,rfl,st,pe,h1,h2,h3⟩;refine ⟨pe,_,run_endLoop h1 h2,?_⟩
  cases pe with
  | none=>exact h3
  | some c=>exact h3
def Zjj (l:Nat) (r:LoopState->Option Code->Loop) (c:Option Code) (U:List (Nat×Rs)->Rsc) (out:List (Nat×Rs)):Rsc:=if c.isSome=true/\out≠[] then LpR l (r .done c) (U out) else LpR l (r .ready none) (U out)
def Zji (l:Nat) (r:LoopState->Option Code->Loop) (c:Option Code) (cap:Nat) (U:List (Nat×Rs)->Rsc):Tlr:=⟨.func (.yield l) #[] #[],c.isSome,if c.isSome then 1 else cap,Zjj l r c U⟩
theorem Zdc (l:Nat) (r:LoopState->Option Code->Loop) (U:List (Nat×Rs)->Rsc) (out:List (Nat×Rs)):Zjj l r none U out=LpR l (r .ready none) (U out):=by simp [Zjj]
theorem ZeM (l:Nat) (r:LoopState->Option Code->Loop) (c:Option Code) (U:List (Nat×Rs)->Rsc):Zjj l r c U []=LpR l (r .ready none) (U []):=by simp [Zjj]
theorem ZfV (l:Nat) (r:LoopState->Option Code->Loop) (c:Code) (U:List (Nat×Rs)->Rsc) {out:List (Nat×Rs)} (h:out≠[]):Zjj l r (some c) U out=LpR l (r .done (some c)) (U out):=by simp [Zjj,h]
theorem Zn4 {C:Cx} {l cap:Nat} {r:LoopState->Option Code->Loop} {c:Option Code} {U:List (Nat×Rs)->Rsc} (hU :∀out,Zq (U out))
  (h :∀(w:World) (F Fr:Bs2) (out:List (Nat×Rs)) (q:Nat) (gv:Value) (gs:Rs),Fb w F->LpR l (r .ready none) (U out) w F Fr->SpI w F gv gs->gs.length=C.G->q<=C.u.size->out.length < (if c.isSome then 1 else cap)->
   YieldAt Fence.wide 0 Tryz.prog l #[.agg #[.int .i64 (q:Int),gv]] w fun e w'=>e = .returned (.bool c.isNone)/\∃F' Fr',LpR l (r (if c.isNone then .ready else .done) c) (U (out ++ [(q,gs)])) w' F' Fr'/\Trn w F Fr w' F' Fr'):Zas C (Zji l r c cap U):=by
 refine ⟨fun out=>?_,l,rfl,?_⟩
 ·show Zq (Zjj l r c U out);unfold Zjj
  split <;> exact ZpJ (hU out)
 ·intro w F Fr out q gv gs hFb ht hg hl hq hn;have hn':out.length < (if c.isSome then 1 else cap):=hn;have ht':LpR l (r .ready none) (U out) w F Fr:=by
   have:Zjj l r c U out w F Fr:=ht
   cases c with
   | none=>rw [Zdc] at this; exact this
   | some c =>
     obtain rfl:out = []:=by
      simp at hn';exact hn'
     rw [ZeM] at this; exact this
  refine (h w F Fr out q gv gs hFb ht' hg hl hq hn').mono ?_;rintro e w' ⟨rfl,F',Fr',g1,g2⟩;refine ⟨?_,F',Fr',?_,g2⟩
  ·cases c <;> rfl
  ·show Zjj l r c U (out ++ [(q,gs)]) w' F' Fr'
   cases c with
   | none=>rw [Zdc]; exact g1
   | some c=>rw [ZfV _ _ _ _ (by simp)]; exact g1
structure ZdC (C:Cx) (w:World) (F:Bs2) (bg:Value) (X:Xs) (B:Option Bo) (mine:List Rsc):Prop where
 st:Qe C w F bg (fun p=>bn (X p) QU) B mine
 nn:SpI w F C.nn (noS C.G)
 ok :∀R∈mine,Zq R
theorem ZdC.later {C:Cx} {w w':World} {F F':Bs2} {bg:Value} {X:Xs} {B:Option Bo} {mine:List Rsc} (h:ZdC C w F bg X B mine) (l:Lat w F w' F'):ZdC C w' F' bg X B mine:=⟨h.st.later l,h.nn.later l,h.ok⟩
theorem ZnC {C:Cx} {ρ:Rx} {tl:Value} {T:Tt} {w:World} {F Fr:Bs2} (h:SeR C ρ tl T w F Fr) (tv:Value):SeR C ρ tv T (w.setCell ⟨C.X,5,none⟩ tv) F Fr/\Za (fun k=>k=C.X) w (w.setCell ⟨C.X,5,none⟩ tv):=by
 obtain ⟨L,hS,hT,hpn,he,hF,hne,hx⟩:=h;have k1:Za (fun k=>k=C.X) w (w.setCell ⟨C.X,5,none⟩ tv):=(Za.refl (fun k=>k=C.X) w).setCell (fun _=>rfl) _;have hb :∀k,k≠C.X->(w.setCell ⟨C.X,5,none⟩ tv).heap[k]? = w.heap[k]?:=fun k hk=>Below.heap_setCell _ _ _ _ hk;refine ⟨⟨L,hS.set5 tv,⟨by rw [hb _ (Ne.symm hne)]; exact hT.mp,hT.keys,hT.blks,fun x hx'=>?_,hT.rest,hT.few,hT.apart⟩,hpn,he,hF,hne,hx⟩,k1⟩;unfold Rm;rw [hb _ (hx x hx')];exact hT.room x hx'
theorem Zma {C:Cx} {ρ:Rx} {X:Xs} {B:Option Bo} {mine:List Rsc} {τ:Tlr} {T:Tt} {out:List (Nat×Rs)} {tl:Value} {w:World} {F Fr:Bs2} {A Pb p:Nat} (hS:ZdC C w F ρ.bg X B mine) (hA:BxI w F A 52 (.pointer (some ⟨C.X,0,none⟩))) (hP:BxI w F Pb 3 (.int .i64 (p:Int))) (hτ:Zas C τ) (hFb:Fb w F) (hR:Zp (SeR C ρ tl T :: τ.tl out :: mine) w F Fr) (hp:p<=C.u.size) (hPre:Pre C.u.size (fun p=>bn (X p) QU) T sno p B) (hno:out.length + tln τ.stop sno (bn (X p) QU)<=τ.cap) :
  Calls Tryz.prog 90 #[τ.tv,.pointer (some ⟨A,0,none⟩),.pointer (some ⟨Pb,0,none⟩)] w (fun e w'=>e = .returned (.tuple #[])/\∃T' F' Fr',Run C ρ mine τ T' (out ++ Zae τ.stop sno (bn (X p) QU) (noS C.G)) w' F' Fr'/\Trn w F Fr w' F' Fr'/\Pst C.u.size T T' (QR τ.stop sno (bn (X p) QU)) B):=by
 obtain ⟨ly,hty,-⟩:=hτ.yl;obtain ⟨fn,cap,hfe,hcf,hcall⟩:=hS.st;obtain ⟨an,cn,hnn,-⟩:=hS.nn;have hOk:Zq (Zp (τ.tl out :: mine)):=ZrG hτ hS.ok out;obtain ⟨F1,F2,hApt⟩:=Zl.1 hR;have hSe0:Se w C ρ.jn ρ.bg tl:=hApt.one.choose_spec.1;have hX1:F1 C.X:=by obtain ⟨L,-,-,-,he,-⟩:=hApt.one; exact (he _).2 (Or.inl rfl)
 have hF1 :∀k,F1 k->F k:=fun k hk=>((Qx C ρ tl T).lt hApt.one k hk).1;obtain ⟨q1,q2⟩:=ZnC hApt.one τ.tv;have t1:Trn w F F1 (w.setCell ⟨C.X,5,none⟩ τ.tv) F F1:=Trn.same hF1 (q2.mono (fun k _ e=>by subst e; exact hX1));obtain ⟨hA2,t2⟩:=hApt.upd (Qx C ρ tl T) hOk t1 q1;have hR2:Run C ρ mine τ T out (w.setCell ⟨C.X,5,none⟩ τ.tv) F (fun k=>F1 k\/F2 k):=Zc1 hA2;have kd:Za N0_ (w.setCell ⟨C.X,5,none⟩ τ.tv) (w.setCell ⟨C.X,5,none⟩ τ.tv).drew:=(Za.refl _ _).drew;obtain ⟨hR3,t3⟩:=Qk hτ hS.ok hR2 kd;have hF0 :∀k,Fr k->F k:=fun k hk=>((hApt.all k).1 hk).elim (hF1 k) (fun h=>(hOk.lt hApt.two k h).1);have t13:=t2.trans t3;have l13:Lat w F (w.setCell ⟨C.X,5,none⟩ τ.tv).drew F:=t13.lat hF0;have hFb3:Fb (w.setCell ⟨C.X,5,none⟩ τ.tv).drew F:=hFb.trn t13 (fun k hk=>((ZdN hτ hS.ok ρ T out).lt hR3 k hk).2);have hst:=hcall _ F l13 hFb3 ρ mine τ T sno out _ p C.nn (noS C.G) hS.ok (fun _ h=>h) hτ hR3 (hS.nn.later l13) (by simp [noS]) hp hPre hno;rw [hnn] at hst;rw [hfe] at hSe0;rw [hty] at hst ⊢;refine ZoL (P:=Pb) (p:=p) hSe0 hnn hA.cell hP.cell (fun e=>hA.2 (e ▸ hF1 _ hX1)) (fun e=>hP.2 (e ▸ hF1 _ hX1)) hcf (hst.mono ?_);rintro e w2 ⟨rfl,T',F',Fr',g1,g2,g3⟩;have t:=t13.trans (by rw [hty]; exact g2);have l2:=t.lat hF0;have hS2:=Qq g1;have c4:=hS2.c4;rw [hfe] at c4;have c1:=hS2.c1;rw [hnn] at c1;exact ⟨_,rfl,⟨rfl,T',F',Fr',g1,t,g3⟩,(hA.later l2).cell,(hP.later l2).cell,c1,c4⟩
theorem Zmw (L:En):bn L QU=L.map fun e=>(e.1,ap e.2):=by
 unfold bn QU pr
 induction L with
 | nil=>rfl
 | cons a L ih=>rw [List.flatMap_cons,ih]; rfl
theorem ZgK (L:En):(bn L QU).map (·.1)=L.map (·.1):=by rw [Zmw,List.map_map]; rfl
theorem Zhk {N lo hi p:Nat} {X:Xs} (h:OkX N lo hi X) (hp:p<=N):dd sno (bn (X p) QU)=(X p).map fun e=>(e.1,ap e.2):=by
 rw [Zsh (by rw [ZgK]; exact (h p hp).1) (fun _ _=>rfl),Zmw]
theorem Zki {N lo hi p:Nat} {X:Xs} (h:OkX N lo hi X) (hp:p<=N) (g:Rs):Zae false sno (bn (X p) QU) g=(X p).map fun e=>(e.1,ap e.2 g):=by
 unfold Zae;rw [Zhk h hp,List.map_map];rfl
theorem ZiT {N lo hi p:Nat} {X:Xs} (h:OkX N lo hi X) (hp:p<=N) (g:Rs):Zae true sno (bn (X p) QU) g=((X p).map fun e=>(e.1,ap e.2 g)).take 1:=by
 unfold Zae;rw [Zhk h hp,List.map_map];rfl
theorem Zlf :∀(N:Nat) (L:List Nat),L.Nodup->(∀x∈L,x < N)->L.length<=N:=by
 intro N
 induction N with
 | zero =>
   intro L _ hx
   cases L with
   | nil=>simp
   | cons a l=>have:=hx a (by simp); omega
 | succ N ih =>
   intro L hn hx;have h1:=ih (L.erase N) (hn.erase N) (fun x h=>by
    have h2:=(hn.mem_erase_iff).1 h
    have:=hx x h2.2
    have:=h2.1
    omega)
   have h3:L.length<=(L.erase N).length + 1:=by rw [List.length_erase]; split <;> omega
   omega
theorem ZgV {N lo hi p:Nat} {X:Xs} (h:OkX N lo hi X) (hp:p<=N):(X p).length<=N + 1:=by
 have:=Zlf (N + 1) ((X p).map (·.1)) (h p hp).1 (fun x hx=>by
  obtain ⟨e,he,rfl⟩:=List.mem_map.1 hx
  have:=((h p hp).2 e he).2.1
  omega)
 simpa using this
theorem Znp {N lo hi p:Nat} {X:Xs} (h:OkX N lo hi X) (hp:p<=N) (stop:Bool):tln stop sno (bn (X p) QU)<=N + 1:=by
 refine Nat.le_trans (ZrF _ _ _) ?_;rw [Zhk h hp,List.length_map];exact ZgV h hp
theorem ZpE {N:Nat} {W:Wt} {p:Nat} {B:Option Bo}:Pre N W tno sno p B:=by
 cases B with
 | none=>exact fun _ _=>rfl
 | some b=>exact ⟨fun p hp=>⟨fun h=>absurd rfl h,fun _ _ _=>rfl⟩,fun x hx n p hp h=>absurd rfl h⟩
def Rdy (N:Nat) (T:Tt):Option Bo->Prop
 | none=>True
 | some b=>Cls N b T sno
theorem Rdy.pre {N:Nat} {T:Tt} {B:Option Bo} (h:Rdy N T B) (W:Wt) (p:Nat):Pre N W T sno p B:=by
 cases B with
 | none=>exact fun _ _=>rfl
 | some b=>exact h
theorem Rdy.no {N:Nat} {B:Option Bo}:Rdy N tno B:=by
 cases B with
 | none=>trivial
 | some b=>exact ZpE (W:=fun _ => []) (p:=0) (B:=some b)
theorem Rdy.post {N:Nat} {T T':Tt} {L:Wn} {B:Option Bo} (h:Pst N T T' (QR true sno L) B):Rdy N T' B:=by
 cases B with
 | none=>trivial
 | some b =>
   have e:QR true sno L=sno:=by
    unfold QR
    split
    ·rename_i hc
     have:dd sno L = []:=by simpa [JB] using hc
     rw [<- Zcq,this,Q1]
    ·rfl
   have:=h.1
   rw [e] at this;exact this
theorem Bo.le_refl (b:Bo):b.le b:=⟨rfl,rfl,fun _ h=>h,fun _ h=>Or.inl h⟩
theorem Bo.le_has {b c:Bo} (h:b.le c) {j:Nat} (hj:b.has j):c.has j:=by
 rcases hj with h1 | ⟨x,hx,h1⟩
 ·exact Or.inl (h1.trans h.j0.symm)
 ·exact Or.inr ⟨x,h.js x hx,h1⟩
theorem Bo.le_trans {b c d:Bo} (h:b.le c) (h2:c.le d):b.le d :=
 ⟨h2.j0.trans h.j0,h2.W0.trans h.W0,fun x hx=>h2.js x (h.js x hx),fun x hx=>by
  rcases h2.new x hx with h3 | h3
  ·exact h.new x h3
  ·exact Or.inr fun h4=>h3 (Bo.le_has h h4)⟩
def Lid (k:Nat) (B:Option Bo):Prop :=∀b,B=some b->∀j,b.has j->j<=k
theorem Lid.mono {k k':Nat} {B:Option Bo} (h:Lid k B) (hk:k<=k'):Lid k' B:=fun b hb j hj=>Nat.le_trans (h b hb j hj) hk
theorem Lid.nw {k:Nat} {B:Option Bo} (h:Lid k B):Nw (k + 1) B:=fun b hb hj=>by have:=h b hb _ hj; omega
def Ble (B B':Option Bo):Prop :=∀b,B=some b->∃b',B'=some b'/\b.le b'
theorem Ble.refl (B:Option Bo):Ble B B:=fun b hb=>⟨b,hb,b.le_refl⟩
theorem Ble.trans {A B D:Option Bo} (h:Ble A B) (h2:Ble B D):Ble A D:=fun b hb=>by
 obtain ⟨c,hc,l1⟩:=h b hb;obtain ⟨d,hd,l2⟩:=h2 c hc;exact ⟨d,hd,Bo.le_trans l1 l2⟩
theorem ZdT {k:Nat} {W:Wt} {B:Option Bo} (h:Lid k B):Lid (k + 1) (some (Qy (k + 1) W B)):=by
 intro b hb j hj
 cases hb
 cases B with
 | none =>
   rcases hj with h1 | ⟨x,hx,h1⟩
   ·exact Nat.le_of_eq h1
   ·simp [Qy] at hx
 | some b =>
   rcases hj with h1 | ⟨x,hx,h1⟩
   ·have:=h b rfl j (Or.inl h1); omega
   ·rcases List.mem_cons.1 hx with rfl | hx
    ·exact Nat.le_of_eq h1.symm
    ·have:=h b rfl j (Or.inr ⟨x,hx,h1⟩); omega
theorem ZdU {k:Nat} {W:Wt} {B:Option Bo} (h:Lid k B):Ble B (some (Qy (k + 1) W B)):=by
 intro b hb;subst hb;refine ⟨_,rfl,rfl,rfl,fun x hx=>List.mem_cons.2 (Or.inr hx),fun x hx=>?_⟩
 rcases List.mem_cons.1 hx with rfl | hx
 ·exact Or.inr (h.nw b rfl)
 ·exact Or.inl hx
theorem ZnJ {N j:Nat} {X:Xs} {r:Rp} {W:Wt} {b:Bo} (h:¬ b.has j):b.le (Zbg N j X r W b) :=
 ⟨rfl,rfl,fun x hx=>List.mem_cons.2 (Or.inr hx),fun x hx=>by
  rcases List.mem_cons.1 hx with rfl | hx
  ·exact Or.inr h
  ·exact Or.inl hx⟩
theorem ZkN {N k:Nat} {X:Xs} {r:Rp} {W:Wt} {b:Bo} (h:Lid k (some b)):Lid (k + 1) (some (Zbg N (k + 1) X r W b)):=by
 intro c hc j hj
 cases hc
 rcases hj with h1 | ⟨x,hx,h1⟩
 ·have:=h b rfl j (Or.inl h1); omega
 ·rcases List.mem_cons.1 hx with rfl | hx
  ·exact Nat.le_of_eq h1.symm
  ·have:=h b rfl j (Or.inr ⟨x,hx,h1⟩); omega
theorem Qe.alkO {C:Cx} {w:World} {F:Bs2} {fv:Value} {W W':Wt} {B:Option Bo} {mine:List Rsc} (h:Qe C w F fv W B mine) (hW :∀p,p<=C.u.size->Alk (W p) (W' p)):Qe C w F fv W' B mine:=by
 cases B with
 | some b=>exact h.alk hW
 | none =>
   obtain ⟨fn,cap,h1,h2,h3⟩:=h;refine ⟨fn,cap,h1,h2,fun w2 F2 l2 hb2 ρ ats τ T V out Fr p gv gs ha hm hτ hR hg hl hp hP hn=>?_⟩;have hP':Pre C.u.size W T V p none:=by
    intro y hy;have h5:sal sno (W p) y.1=true:=Zax hy;rw [(hW p hp).sal] at h5
    rcases ZeB.1 h5 with h6 | ⟨z,hz,h6⟩
    ·simp [sno] at h6
    ·rw [<- h6]; exact hP z hz
   refine (h3 w2 F2 l2 hb2 ρ ats τ T V out Fr p gv gs ha hm hτ hR hg hl hp hP' (by rw [Zkl (hW p hp)]; exact hn)).mono ?_;rintro e w' ⟨rfl,T',F',Fr',g1,g2,g3⟩;refine ⟨by rw [Ze2 (hW p hp)],T',F',Fr',?_,g2,?_⟩
   ·rw [ZhQ (hW p hp)] at g1; exact g1
   ·rw [ZfE (hW p hp)] at g3; exact g3
theorem Zen {L M:Wn} (h:Alk L M) {y:Nat×Tr} (hy:y∈L) :∃z∈M,z.1=y.1:=by
 have h5:sal sno L y.1=true:=Zax hy;rw [h.sal] at h5
 rcases ZeB.1 h5 with h6 | ⟨z,hz,h6⟩
 ·simp [sno] at h6
 ·exact ⟨z,hz,h6⟩
theorem Inj.alk {N:Nat} {W W':Wt} (h:Inj N W) (hW :∀p,p<=N->Alk (W p) (W' p)):Inj N W':=by
 intro p q hp hq y hy z hz e;obtain ⟨y1,hy1,e1⟩:=Zen (hW p hp).symm hy;obtain ⟨z1,hz1,e2⟩:=Zen (hW q hq).symm hz;exact h p q hp hq y1 hy1 z1 hz1 (by rw [e1,e2,e])
theorem Zoi {N:Nat}:Inj N QU:=by
 intro p q hp hq y hy z hz e;simp [QU] at hy hz;subst hy hz;exact e
theorem Zok {u:ByteArray} {S:Bs} {W:Wt} (h:Inj u.size W) (hb :∀p,ZlQ u S p=true->p < u.size):Inj u.size (Ze5 u S W):=by
 intro p q hp hq y hy z hz e;unfold Ze5 at hy hz
 split at hy
 ·rename_i h1
  split at hz
  ·rename_i h2
   have:=h (p + 1) (q + 1) (by have:=hb p h1; omega) (by have:=hb q h2; omega) y hy z hz e
   omega
  ·simp at hz
 ·simp at hy
theorem Zoj {N k:Nat} {W:Wt} (h:Inj N W):Inj N (ZeK k W):=by
 intro p q hp hq y hy z hz e;unfold ZeK at hy hz
 split at hy
 ·split at hz
  ·exact h p q hp hq y hy z hz e
  ·simp at hz
 ·simp at hy
theorem ZpM {N:Nat} {W:Wt} {t:Nat->Tr} (h:Inj N W):Inj N (fun p=>pr (t p) (W p)):=by
 intro p q hp hq y hy z hz e;obtain ⟨y1,hy1,rfl⟩:=List.mem_map.1 hy;obtain ⟨z1,hz1,rfl⟩:=List.mem_map.1 hz;exact h p q hp hq y1 hy1 z1 hz1 e
theorem Zey (u:ByteArray) :∀(fs:List Pf) (pre:List Pc),(ZbB u pre fs).length=fs.length:=by
 intro fs
 induction fs with
 | nil=>intro pre; rfl
 | cons f fs ih=>intro pre; simp [ZbB,ih]
theorem ZhV (u:ByteArray) :∀(fs:List Pf) (pre:List Pc) (i:Nat) (h:i < fs.length) (h2:i < (ZbB u pre fs).length),(ZbB u pre fs)[i]=smx u (pre ++ cat (fs.take i) pre.length) fs[i]:=by
 intro fs
 induction fs with
 | nil=>intro pre i h; simp at h
 | cons f fs ih =>
   intro pre i h h2
   cases i with
   | zero=>simp [ZbB,cat]
   | succ i =>
     simp only [ZbB,List.getElem_cons_succ,List.take_succ_cons,cat];rw [ih (pre ++ f pre.length) i (by simpa using h)];simp
theorem ZlW {lo hi:Nat} :∀(fs:List Pf) (n i:Nat) (h:i < fs.length),FpL lo hi n fs->Fp lo hi (n + (cat (fs.take i) n).length) (fs[i] (n + (cat (fs.take i) n).length)):=by
 intro fs
 induction fs with
 | nil=>intro n i h; simp at h
 | cons f fs ih =>
   intro n i h hF
   cases i with
   | zero=>simpa [cat] using hF.1
   | succ i =>
     have:=ih (n + (f n).length) i (by simpa using h) hF.2
     simpa [cat,Nat.add_assoc] using this
theorem Zgg (fs:List Pf) (n i:Nat) (h:i < fs.length):(cat (fs.take (i + 1)) n).length=(cat (fs.take i) n).length + (fs[i] (n + (cat (fs.take i) n).length)).length:=by
 induction fs generalizing n i with
 | nil=>simp at h
 | cons f fs ih =>
   cases i with
   | zero=>simp [cat]
   | succ i =>
     have:=ih (n + (f n).length) i (by simpa using h)
     simp only [List.take_succ_cons,cat,List.length_append,List.getElem_cons_succ] at this ⊢;rw [this];simp [Nat.add_assoc]
theorem Zo0 (l:List Xs) (W:Wt) (i:Nat) (h:i < l.length) (p:Nat):bns (l.drop i) W p=bn (l[i] p) (bns (l.drop (i + 1)) W):=by
 rw [List.drop_eq_getElem_cons h];rfl
theorem ZgJ (S:Bs) (n:Nat):(∀r∈Zs S n,r.1<=r.2/\r.2 < (n:Int))/\∀x:Nat,(∃r∈Zs S n,r.1<=(x:Int)/\(x:Int)<=r.2)↔(x < n/\S x=true):=by
 induction n with
 | zero=>simp [Zs]
 | succ b ih =>
   obtain ⟨h1,h2⟩:=ih
   cases hS:S b with
   | false =>
     have e:Zs S (b + 1)=Zs S b:=by rw [Zs]; simp [hS]
     rw [e];refine ⟨fun r hr=>by have:=h1 r hr; omega,fun x=>?_⟩;rw [h2 x];constructor
     ·rintro ⟨a,c⟩; exact ⟨by omega,c⟩
     ·rintro ⟨a,c⟩;refine ⟨?_,c⟩
      rcases Nat.lt_succ_iff_lt_or_eq.mp a with h | h
      ·exact h
      ·subst h; rw [hS] at c; simp at c
   | true =>
     rcases List.eq_nil_or_concat (Zs S b) with hL | ⟨A,r,hL⟩
     ·have e:Zs S (b + 1) = [((b:Int),(b:Int))]:=by rw [Zs]; simp [hS,hL]
      rw [e];rw [hL] at h2;refine ⟨by simp; omega,fun x=>?_⟩;have h3:=h2 x;simp at h3;constructor
      ·rintro ⟨r,hr,ha,hb⟩;simp at hr; subst hr;simp at ha hb
       have:x=b:=by omega
       subst this; exact ⟨by omega,hS⟩
      ·rintro ⟨ha,hb⟩;refine ⟨_,List.mem_singleton.2 rfl,?_⟩
       rcases Nat.lt_succ_iff_lt_or_eq.mp ha with h | h
       ·exact absurd hb (by simp [h3 h])
       ·subst h; simp
     ·rw [List.concat_eq_append] at hL;rw [hL] at h1 h2;have hr:=h1 r (by simp);have hlast:(Zs S b).getLast? = some r:=by rw [hL]; simp
      by_cases hq:r.2=(b:Int) - 1
      ·have e:Zs S (b + 1)=A ++ [(r.1,(b:Int))]:=by
        rw [Zs,if_pos hS,hlast]; simp only; rw [if_pos hq,hL]; simp
       rw [e];constructor
       ·intro z hz
        rcases List.mem_append.1 hz with hz | hz
        ·have:=h1 z (by simp [hz]); omega
        ·simp at hz; subst hz; simp; omega
       ·intro x;have h3:=h2 x;constructor
        ·rintro ⟨z,hz,ha,hb⟩
         rcases List.mem_append.1 hz with hz | hz
         ·have:=h3.1 ⟨z,by simp [hz],ha,hb⟩; exact ⟨by omega,this.2⟩
         ·simp at hz; subst hz;simp at ha hb
          by_cases hx:x=b
          ·subst hx; exact ⟨by omega,hS⟩
          ·have:=h3.1 ⟨r,by simp,ha,by omega⟩; exact ⟨by omega,this.2⟩
        ·rintro ⟨ha,hb⟩
         by_cases hx:x=b
         ·subst hx; exact ⟨_,List.mem_append.2 (Or.inr (List.mem_singleton.2 rfl)),by simp; omega,by simp⟩
         ·obtain ⟨z,hz,h4,h5⟩:=h3.2 ⟨by omega,hb⟩
          rcases List.mem_append.1 hz with hz | hz
          ·exact ⟨z,List.mem_append.2 (Or.inl hz),h4,h5⟩
          ·simp at hz; subst hz;exact ⟨_,List.mem_append.2 (Or.inr (List.mem_singleton.2 rfl)),h4,by simp; omega⟩
      ·have e:Zs S (b + 1)=(A ++ [r]) ++ [((b:Int),(b:Int))]:=by
        rw [Zs,if_pos hS,hlast]; simp only; rw [if_neg hq,hL]
       rw [e];constructor
       ·intro z hz
        rcases List.mem_append.1 hz with hz | hz
        ·have:=h1 z hz; omega
        ·simp at hz; subst hz; simp; omega
       ·intro x;have h3:=h2 x;constructor
        ·rintro ⟨z,hz,ha,hb⟩
         rcases List.mem_append.1 hz with hz | hz
         ·have:=h3.1 ⟨z,hz,ha,hb⟩; exact ⟨by omega,this.2⟩
         ·simp at hz; subst hz;simp at ha hb
          have:x=b:=by omega
          subst this; exact ⟨by omega,hS⟩
        ·rintro ⟨ha,hb⟩
         by_cases hx:x=b
         ·subst hx; exact ⟨_,List.mem_append.2 (Or.inr (List.mem_singleton.2 rfl)),by simp⟩
         ·obtain ⟨z,hz,h4,h5⟩:=h3.2 ⟨by omega,hb⟩;exact ⟨z,List.mem_append.2 (Or.inl hz),h4,h5⟩
theorem Zjs (S:Bs) (b:Nat) (hb:b < 256):inR (Q2 S) (b:Int)=S b:=by
 have h:=(ZgJ S 256).2 b;rw [Bool.eq_iff_iff];unfold inR;rw [List.any_eq_true];constructor
 ·rintro ⟨r,hr,h1⟩;simp at h1;exact (h.1 ⟨r,hr,h1.1,h1.2⟩).2
 ·intro h1;obtain ⟨r,hr,h2,h3⟩:=h.2 ⟨hb,h1⟩;exact ⟨r,hr,by simp [h2,h3]⟩
theorem Ziz (u:ByteArray) (S:Bs) (W:Wt) (pre:List Pc) (p:Nat):Ze5 u S W p=bn (smx u pre (Qv S) p) W:=by
 rw [Zkq];unfold Ze5 ZpG ZlQ;have e:(decide (p < u.size) && S (bt u p))=(decide (p < u.size) && inR (Q2 S) (bt u p)):=by
  by_cases hp:p < u.size
  ·rw [Zjs S _ (Q9 hp)]
  ·simp [hp]
 rw [e]
 split
 ·rw [ZiD]
 ·rw [ZpU]
theorem Zh9 (k:Nat) (W:Wt) (p:Nat):ZeK k W p=bn (atX k p) W:=by
 unfold ZeK atX
 split
 ·rw [ZiD]
 ·rw [ZpU]
structure ZO (C:Cx) (bg tl:Value) (mine:List Rsc) (k:Nat) (nx:Value) (W:Wt) (B:Option Bo) (w:World) (F Fr:Bs2):Prop where
 fb:Fb w F
 ok :∀R∈mine,Zq R
 res:Zp (SeR C ⟨(k:Int),bg,[]⟩ tl tno :: mine) w F Fr
 st:Qe C w F nx W B mine
 lid:Lid k B
 inj:B=none->Inj C.u.size W
 nn:SpI w F C.nn (noS C.G)
def Qo (C:Cx) (bg tl:Value) (mine:List Rsc) (k n:Nat) (W':Wt) (B:Option Bo) (w:World) (F Fr:Bs2) (e:Ending) (w':World):Prop :=
 ∃(fv:Value) (B':Option Bo) (new:List Rsc) (k':Nat) (F' Fr':Bs2),e = .returned fv/\ZO C bg tl (new ++ mine) k' fv W' B' w' F' Fr'/\Trn w F Fr w' F' Fr'/\k<=k'/\k'<=k + n/\Ble B B'
variable {C:Cx} {bg tl:Value} {mine:List Rsc} {k n:Nat} {nx fv:Value} {W W':Wt} {B B':Option Bo} {w w1:World} {F Fr:Bs2} {e:Ending}
theorem ZO.resOk (h:ZO C bg tl mine k nx W B w F Fr):Zq (Zp (SeR C ⟨(k:Int),bg,[]⟩ tl tno :: mine)):=Zb7 h.ok _ _ _ _
theorem ZO.inn (h:ZO C bg tl mine k nx W B w F Fr) :∀i,Fr i->F i:=fun i hi=>(h.resOk.lt h.res i hi).1
theorem ZO.se (h:ZO C bg tl mine k nx W B w F Fr):Se w C (k:Int) bg tl:=by
 obtain ⟨F1,F2,h⟩:=Zl.1 h.res;exact h.one.choose_spec.1
theorem ZO.inX (h:ZO C bg tl mine k nx W B w F Fr):Fr C.X/\F C.X:=by
 have h2:=h.inn;obtain ⟨F1,F2,h⟩:=Zl.1 h.res;obtain ⟨L,-,-,-,he,-⟩:=h.one
 have:Fr C.X:=(h.all _).2 (Or.inl ((he _).2 (Or.inl rfl)))
 exact ⟨this,h2 _ this⟩
theorem ZO.same (h:ZO C bg tl mine k nx W B w F Fr) (k1:Za N0_ w w1):ZO C bg tl mine k nx W B w1 F Fr/\Trn w F Fr w1 F Fr :=
 ⟨⟨h.fb.keeps k1,h.ok,h.resOk.frame h.res (Lat.ofKeeps k1) h.inn (fun i hi=>k1.block i (h.resOk.lt h.res i hi).2 id),h.st.later (Lat.ofKeeps k1),h.lid,h.inj,h.nn.later (Lat.ofKeeps k1)⟩,Trn.ofKeeps h.inn k1⟩
theorem ZO.give (h:ZO C bg tl mine k nx W B w F Fr) (k1:Za N0_ w w1) (hs:Qe C w1 F fv W' B mine) (hi:B=none->Inj C.u.size W'):Qo C bg tl mine k n W' B w F Fr (.returned fv) w1:=by
 obtain ⟨h1,t1⟩:=h.same k1;exact ⟨fv,B,[],k,F,Fr,rfl,⟨h1.fb,h1.ok,h1.res,hs,h1.lid,hi,h1.nn⟩,t1,Nat.le_refl _,by omega,Ble.refl _⟩
theorem Qo.alk (h:Qo C bg tl mine k n W B w F Fr e w1) (hW :∀p,p<=C.u.size->Alk (W p) (W' p)):Qo C bg tl mine k n W' B w F Fr e w1:=by
 obtain ⟨fv,B',new,k',F',Fr',h1,h2,h3,h4,h5,h6⟩:=h;exact ⟨fv,B',new,k',F',Fr',h1,⟨h2.fb,h2.ok,h2.res,h2.st.alkO hW,h2.lid,fun h=>(h2.inj h).alk hW,h2.nn⟩,h3,h4,h5,h6⟩
def ZbX (w0:World) (F0:Bs2) (v:Value) (f:Pf):Prop :=
 ∀ (pre:List Pc) (lo hi:Nat) (C:Cx) (w:World) (F Fr:Bs2) (bg tl:Value) (mine:List Rsc) (k:Nat) (nx:Value) (W:Wt) (B:Option Bo),
   Lat w0 F0 w F->ZO C bg tl mine k nx W B w F Fr->Fp lo hi pre.length (f pre.length)->hi<=C.G->C.G<=9->C.u.size<=200->k + 2 * (f pre.length).length<=100000->
   Calls Tryz.prog 58 #[.pointer (some ⟨C.X,0,none⟩),v,nx] w (Qo C bg tl mine k (2 * (f pre.length).length) (fun p=>bn (smx C.u pre f p) W) B w F Fr)
theorem Zbo {P:Program} {Fe:Fence} {n:Nat} {w:World} {ops:Array Oper} {rest:List Oper} {o:Oper} {a:Act} {Q:Exit->Act->World->Prop} (hgd:o.guard=none) (s x:Operand) (t ty:TypeId)
  (ho:o.op = .call { callee:=.builtin .append,args:=#[s,x],argTypes:=#[t,t] }) (hty:o.type=ty) (v y v':Value) (w':World) (hs:a.eval s=v) (hx:a.eval x=y)
  (hr:Sem.run P (Builtin.append_ #[t,t] ty #[v,y]) w = .ok v' w') (h:wpListIn Fe n P ops Q rest (a.put o.dst v') w'):wpListIn Fe n P ops Q (o :: rest) a w:=by
 refine wpListIn_plain hgd fun K hK'=>?_;unfold Oper.wpIn;refine ⟨?_,?_⟩
 ·simp [Oper.about,ho,resolve,Target.leads,Sem.run_pure]
 ·rw [Oper.semAt_plain Fe _ _ (by rw [ho]; intro c hc'; cases hc')];simp [execOp,ho,hty,resolve,invoke,builtin,hs,hx,hr,Result.andThen];exact hK' _ _ h
def DfR (D:Nat):Rsc:=fun w F Fr=>(∀k,Fr k↔k=D)/\F D/\w.heap[D]? = some (.deferred (some []))
theorem QK (D:Nat):Zq (DfR D):=by
 refine ⟨?_,?_⟩
 ·rintro w F Fr ⟨he,hF,hD⟩ k hk;obtain rfl:=(he k).1 hk;exact ⟨hF,(Array.getElem?_eq_some_iff.1 hD).1⟩
 ·rintro w w' F F' Fr ⟨he,hF,hD⟩ l hF' hk;exact ⟨he,hF' D ((he D).2 rfl),by rw [hk D ((he D).2 rfl)]; exact hD⟩
theorem QQ {R Q:Rsc} {w:World} {F Fr:Bs2}:Zp [R,Q] w F Fr↔∃F1 F2,Apt R Q w F Fr F1 F2:=by
 constructor
 ·rintro ⟨F1,F2,h1,h2,h3,F3,F4,h4,h5,h6,h7⟩;obtain rfl:F2=F3:=funext fun k=>propext ⟨fun h=>((h4 k).1 h).elim id (fun h=>absurd h (h7 k)),fun h=>(h4 k).2 (Or.inl h)⟩;exact ⟨F1,F2,h1,h2,h3,h6⟩
 ·rintro ⟨F1,F2,h⟩;exact ⟨F1,F2,h.all,h.dis,h.one,F2,fun _=>False,fun k=>by simp,fun _ _ h=>h,h.two,fun _ h=>h⟩
theorem ZcY {R:Rsc} {l:List Rsc} {w:World} {F Fr:Bs2} {b:Nat} (hl:Zq (Zp l)) (h:Zp l w F Fr) (hb:¬ Fr b) (hF:F b) (hR:R w F (fun k=>k=b)):Zp (R :: l) w F (fun k=>k=b\/Fr k) :=
 ⟨fun k=>k=b,Fr,fun k=>Iff.rfl,fun k e h=>hb (e ▸ h),hR,h⟩
theorem Zy {R Q:Rsc} {l:List Rsc} {w:World} {F Fr:Bs2} (h:Zp (R :: Q :: l) w F Fr):Zp (Q :: R :: l) w F Fr:=Zb4 h
def rdU (D:Nat) (U:List (Nat×Rs)->Rsc) (out:List (Nat×Rs)):Rsc:=Zp [DfR D,U out]
theorem ZfI {D:Nat} {U:List (Nat×Rs)->Rsc} (hU :∀out,Zq (U out)) (out:List (Nat×Rs)):Zq (rdU D U out) :=
 ZR (fun R hR=>by
  rcases List.mem_cons.1 hR with rfl | hR
  ·exact QK D
  ·rcases List.mem_cons.1 hR with rfl | hR
   ·exact hU out
   ·simp at hR)
def ZpZ (C:Cx) (tmps:Array Value) (ps:Array Tmp) (assign body:Code) (c:Option Code) (cap:Nat) (U:List (Nat×Rs)->Rsc):Prop :=
 ∀ (l:Nat) (w1:World) (F1 Fu:Bs2) (out:List (Nat×Rs)) (q:Nat) (gv:Value) (gs:Rs),Fb w1 F1->U out w1 F1 Fu->SpI w1 F1 gv gs->gs.length=C.G->q<=C.u.size->out.length < cap->F1 l->l < w1.heap.size->¬ Fu l->
   ∃ Ax:Act->World->Prop,assign.wpIn (Fence.wide.inRound l) 0 Tryz.prog (Exit.then (fun a1 w2=>Za N0_ w1 w2/\Ax a1 w2) (fun _ _ _=>False)) { tmps:=(ps.zip #[.agg #[.int .i64 (q:Int),gv]]).foldl (fun t (p,v)=>t.setIfInBounds p v) tmps,defers := [] } w1/\
     ∀ (a1:Act) (w2 w3:World),Za N0_ w1 w2->Ax a1 w2->Za (fun k=>k=l) w2 w3->U out w3 F1 Fu->
       body.wpIn (Fence.wide.inRound l) 0 Tryz.prog (fun e a3 w4=>Zoz c e/\∃F4 Fu4,U (out ++ [(q,gs)]) w4 F4 Fu4/\Trn w3 F1 Fu w4 F4 Fu4) a1 w3
theorem ZnO {C:Cx} {l D fn cap:Nat} {tmps:Array Value} {ps:Array Tmp} {assign body:Code} {c:Option Code} {U:List (Nat×Rs)->Rsc} (hU :∀out,Zq (U out)) (hps:ps.size=1) (h:ZpZ C tmps ps assign body c (if c.isSome then 1 else cap) U) :
  Zas C (Zji l (Zal fn tmps ps assign body D) c cap (rdU D U)):=by
 refine Zn4 (fun out=>ZfI hU out) ?_;intro w F Fr out q gv gs hFb hw hg hl hq hn;obtain ⟨Fu0,he0,hn0,hF0,hl0,hU0⟩:=id hw;have hlt:l < w.heap.size:=(Array.getElem?_eq_some_iff.1 hl0).1;obtain ⟨Fa,Fu,hA⟩:=QQ.1 hU0;have hnu:¬ Fu l:=fun h=>hn0 ((hA.all l).2 (Or.inr h));obtain ⟨Ax,h1,h2⟩:=h l w F Fu out q gv gs hFb hA.two hg hl hq hn hF0 hlt hnu;refine Zc2 (U:=rdU D U out) (U':=rdU D U (out ++ [(q,gs)])) (Ax:=Ax) (ZfI hU out) (ZfI hU _) (by simp [hps]) he0 hn0 hF0 hl0 hU0 h1 ?_;intro a1 w1 w2 k1 hx k2 hUv;have hlat:Lat w F w2 F:=(Lat.ofKeeps k1).trans ⟨k2.mono (fun k _ e=>e ▸ hF0),fun k h=>Or.inl h⟩;have hsame :∀k,k < w.heap.size->k≠l->w2.heap[k]? = w.heap[k]?:=fun k hk hne=>by
  rw [k2.block k (Nat.lt_of_lt_of_le hk k1.size) hne,k1.block k hk id]
 have hU2:U out w2 F Fu:=(hU out).frame hA.two hlat (fun k hk=>((hU out).lt hA.two k hk).1) (fun k hk=>hsame k ((hU out).lt hA.two k hk).2 (fun e=>hnu (e ▸ hk)));have hD2:DfR D w2 F Fa:=(QK D).frame hA.one hlat (fun k hk=>((QK D).lt hA.one k hk).1) (fun k hk=>hsame k ((QK D).lt hA.one k hk).2 (fun e=>hn0 (e ▸ (hA.all k).2 (Or.inl hk))));have hA2:Apt (U out) (DfR D) w2 F Fu0 Fu Fa:=⟨fun k=>(hA.all k).trans Or.comm,fun k h1 h2=>hA.dis k h2 h1,hU2,hD2⟩;refine wpIn_mono (h2 a1 w1 w2 k1 hx k2 hU2) ?_;rintro e a3 w4 ⟨hex,F4,Fu4,g1,g2⟩;obtain ⟨p1,p2⟩:=hA2.upd (hU out) (QK D) g2 g1;exact ⟨hex,F4,_,QQ.2 ⟨_,_,p1.swap⟩,p2⟩
theorem ZdR {g:Operand} {ps:Array Tmp} {assign body:Code} {Q:Exit->Act->World->Prop} {a:Act} {w:World} {n cap:Nat} {C:Cx} {ρ:Rx} {X:Xs} {B:Option Bo} {mine:List Rsc} {T:Tt} {tl:Value} {F Fr:Bs2} {A Pb p:Nat} {c:Option Code} {U:List (Nat×Rs)->Rsc}
  (hU :∀out,Zq (U out)) (hps:ps.size=1) (hround:ZpZ C a.tmps ps assign body c (if c.isSome then 1 else cap) U)
  (hg:a.eval g = .func (.func 90) #[] #[.pointer (some ⟨A,0,none⟩),.pointer (some ⟨Pb,0,none⟩)])
  (hS:ZdC C w F ρ.bg X B mine) (hA:BxI w F A 52 (.pointer (some ⟨C.X,0,none⟩))) (hP:BxI w F Pb 3 (.int .i64 (p:Int))) (hFb:Fb w F) (hR:Zp (SeR C ρ tl T :: U [] :: mine) w F Fr) (hp:p<=C.u.size) (hPre:Pre C.u.size (fun p=>bn (X p) QU) T sno p B) (hno:tln c.isSome sno (bn (X p) QU)<=if c.isSome then 1 else cap)
  (hdone :∀(D:Nat) (out:List (Nat×Rs)) (T':Tt) (tv:Value) (w2:World) (F2 Fr2:Bs2),out=Zae c.isSome sno (bn (X p) QU) (noS C.G)->Zp (SeR C ρ tv T' :: DfR D :: U out :: mine) w2 F2 Fr2->Trn w F Fr w2 F2 Fr2->w.heap.size<=D->Pst C.u.size T T' (QR c.isSome sno (bn (X p) QU)) B->
   match (if out = [] then none else c) with
   | none=>Q .normal { a with defers := { target:=.collected D,args:=#[] } :: a.defers } w2
   | some c=>c.wpIn Fence.wide n Tryz.prog Q { a with defers := { target:=.collected D,args:=#[] } :: a.defers } w2) :
  (Code.rangeFunc g ps assign body).wpIn Fence.wide n Tryz.prog Q a w:=by
 refine ZdQ hg (fun _ _=>by kernel_rfl) ?_;intro fn;have hUs :∀R∈(SeR C ρ tl T :: U [] :: mine),Zq R:=by
  intro R hR
  rcases List.mem_cons.1 hR with rfl | hR
  ·exact Qx _ _ _ _
  ·rcases List.mem_cons.1 hR with rfl | hR
   ·exact hU []
   ·exact hS.ok R hR
 have hOk0:=ZR hUs;have hFr :∀k,Fr k->F k/\k < w.heap.size:=hOk0.lt hR;generalize hW1:((w.alloc (.deferred (some []))).alloc (.loop (Zal fn a.tmps ps assign body w.heap.size .ready none)))=W1;have k1:Za N0_ w W1:=by rw [<- hW1]; exact ((Za.refl _ w).alloc _).alloc _
 have bD:W1.heap[w.heap.size]? = some (.deferred (some [])):=by rw [<- hW1]; exact Zbc w _ _
 have bL:W1.heap[w.heap.size + 1]? = some (.loop (Zal fn a.tmps ps assign body w.heap.size .ready none)):=by rw [<- hW1]; exact Zbi w _ _
 obtain ⟨F1,hF1⟩ :∃F1:Bs2,F1=fun k=>F k\/k=w.heap.size\/k=w.heap.size + 1:=⟨_,rfl⟩;have l1:Lat w F W1 F1:=⟨k1.mono (fun _ _ h=>h.elim),fun k hk=>by rw [hF1] at hk; rcases hk with h | h | h; exact Or.inl h; exact Or.inr (by omega); exact Or.inr (by omega)⟩;have hR1:Zp (SeR C ρ tl T :: U [] :: mine) W1 F1 Fr:=hOk0.frame hR l1 (fun k hk=>by rw [hF1]; exact Or.inl (hFr k hk).1) (fun k hk=>k1.block k (hFr k hk).2 id);have hltL:w.heap.size + 1 < W1.heap.size:=(Array.getElem?_eq_some_iff.1 bL).1;have hFb1:Fb W1 F1:=fun k hk=>by
  rw [hF1] at hk
  rcases hk with h | h | h
  ·exact Nat.lt_of_lt_of_le (hFb k h) k1.size
  ·omega
  ·omega
 have hτ:Zas C (Zji (w.heap.size + 1) (Zal fn a.tmps ps assign body w.heap.size) c cap (rdU w.heap.size U)):=ZnO hU hps hround;obtain ⟨G1,G2,hApt⟩:=Zl.1 (Zy hR1);have hdG :∀k,Fr k↔G1 k\/G2 k:=hApt.all;have hbig :∀k,Fr k->k < w.heap.size:=fun k hk=>(hFr k hk).2;have htl:Zjj (w.heap.size + 1) (Zal fn a.tmps ps assign body w.heap.size) c (rdU w.heap.size U) [] W1 F1 (fun k=>k=w.heap.size + 1\/k=w.heap.size\/G1 k):=by
  rw [ZeM];refine ⟨fun k=>k=w.heap.size\/G1 k,fun k=>Iff.rfl,fun h=>?_,by rw [hF1]; exact Or.inr (Or.inr rfl),bL,?_⟩
  ·rcases h with h | h
   ·omega
   ·have:=hbig _ ((hdG _).2 (Or.inl h)); omega
  ·refine QQ.2 ⟨fun k=>k=w.heap.size,G1,fun k=>Iff.rfl,fun k e h=>?_,⟨fun k=>Iff.rfl,by rw [hF1]; exact Or.inr (Or.inl rfl),bD⟩,hApt.one⟩
   have:=hbig _ ((hdG _).2 (Or.inl h)); omega
 have hR2:Zp (SeR C ρ tl T :: (Zji (w.heap.size + 1) (Zal fn a.tmps ps assign body w.heap.size) c cap (rdU w.heap.size U)).tl [] :: mine) W1 F1 (fun k=>(k=w.heap.size + 1\/k=w.heap.size\/G1 k)\/G2 k):=by
  refine Zy ⟨fun k=>k=w.heap.size + 1\/k=w.heap.size\/G1 k,G2,fun k=>Iff.rfl,fun k h1 h2=>?_,htl,hApt.two⟩
  rcases h1 with h1 | h1 | h1
  ·have:=hbig _ ((hdG _).2 (Or.inr h2)); omega
  ·have:=hbig _ ((hdG _).2 (Or.inr h2)); omega
  ·exact hApt.dis k h1 h2
 have hrun:=Zma (τ:=Zji (w.heap.size + 1) (Zal fn a.tmps ps assign body w.heap.size) c cap (rdU w.heap.size U)) (out := []) (hS.later l1) (hA.later l1) (hP.later l1) hτ hFb1 hR2 hp hPre (by simpa [Zji] using hno);refine Calls.mono hrun ?_;rintro e w2 ⟨rfl,T',F2,Fr2,g1,g2,g3⟩;rw [List.nil_append] at g1;change Zp (SeR C ρ (.func (.yield (w.heap.size + 1)) #[] #[]) T' :: Zjj (w.heap.size + 1) (Zal fn a.tmps ps assign body w.heap.size) c (rdU w.heap.size U) (Zae c.isSome sno (bn (X p) QU) (noS C.G)) :: mine) w2 F2 Fr2 at g1;change Pst C.u.size T T' (QR c.isSome sno (bn (X p) QU)) B at g3;generalize hout:Zae c.isSome sno (bn (X p) QU) (noS C.G)=out at g1;obtain ⟨H1,H2,hB⟩:=Zl.1 (Zy g1);have hrec :∃st pe,LpR (w.heap.size + 1) (Zal fn a.tmps ps assign body w.heap.size st pe) (rdU w.heap.size U out) w2 F2 H1/\st≠.busy/\pe=(if out = [] then none else c):=by
  have h1:=hB.one
  by_cases ho:out = []
  ·subst ho;rw [ZeM] at h1;exact ⟨_,_,h1,by simp,by simp⟩
  ·cases c with
   | none=>rw [Zdc] at h1; exact ⟨_,_,h1,by simp,by simp⟩
   | some c=>rw [ZfV _ _ _ _ ho] at h1; exact ⟨_,_,h1,by simp,by simp [ho]⟩
 obtain ⟨st,pe,⟨Fu,he,hn,hF,hl,hUw⟩,hst,hpe⟩:=hrec;refine ⟨_,rfl,st,pe,hl,hst,?_⟩;obtain ⟨q1,q2,q3⟩:=LpR.put (r':=Zal fn a.tmps ps assign body w.heap.size .exhausted pe) (ZfI hU out) hn hF hl hUw;generalize hw3:w2.putObj (w.heap.size + 1) (.loop (Zal fn a.tmps ps assign body w.heap.size .exhausted pe))=w3 at q1 q2 q3 ⊢;have hSes:Zq (Zp (SeR C ρ (.func (.yield (w.heap.size + 1)) #[] #[]) T' :: mine)):=Zb7 hS.ok _ _ _ _;obtain ⟨J1,J2,hC⟩:=QQ.1 q2;have hnotL:¬ H2 (w.heap.size + 1):=fun h=>hB.dis _ ((he _).2 (Or.inl rfl)) h;have hlt2 :∀k,Fr2 k->F2 k/\k < w2.heap.size:=fun k hk=>by
  rcases (hB.all k).1 hk with h | h
  ·rcases (he k).1 h with rfl | h
   ·exact ⟨hF,(Array.getElem?_eq_some_iff.1 hl).1⟩
   ·exact (ZfI hU out).lt hUw k h
  ·exact hSes.lt hB.two k h
 obtain ⟨F3,hF3⟩ :∃F3:Bs2,F3=fun k=>F2 k/\k≠w.heap.size + 1:=⟨_,rfl⟩;have l3:Lat w2 F2 w3 F3:=⟨q3.mono (fun k _ e=>e ▸ hF),fun k hk=>by rw [hF3] at hk; exact Or.inl hk.1⟩;have hH2:Zp (SeR C ρ (.func (.yield (w.heap.size + 1)) #[] #[]) T' :: mine) w3 F3 H2:=hSes.frame hB.two l3 (fun k hk=>by rw [hF3]; exact ⟨(hSes.lt hB.two k hk).1,fun e=>hnotL (e ▸ hk)⟩) (fun k hk=>q3.block k (hSes.lt hB.two k hk).2 (fun e=>hnotL (e ▸ hk)));have hl33:Lat w3 F2 w3 F3:=⟨Za.refl _ _,fun k hk=>by rw [hF3] at hk; exact Or.inl hk.1⟩;have hJ1:DfR w.heap.size w3 F3 J1:=(QK _).frame hC.one hl33 (fun k hk=>by rw [hF3]; exact ⟨((QK _).lt hC.one k hk).1,fun e=>hn (e ▸ (hC.all k).2 (Or.inl hk))⟩) (fun _ _=>rfl);have hJ2:U out w3 F3 J2:=(hU out).frame hC.two hl33 (fun k hk=>by rw [hF3]; exact ⟨((hU out).lt hC.two k hk).1,fun e=>hn (e ▸ (hC.all k).2 (Or.inr hk))⟩) (fun _ _=>rfl);have hFuH :∀k,Fu k->H1 k:=fun k hk=>(he k).2 (Or.inr hk);have hfin:Zp (SeR C ρ (.func (.yield (w.heap.size + 1)) #[] #[]) T' :: DfR w.heap.size :: U out :: mine) w3 F3 (fun k=>Fu k\/H2 k):=by
  obtain ⟨K1,K2,hD⟩:=Zl.1 hH2;refine ⟨K1,fun k=>J1 k\/J2 k\/K2 k,fun k=>?_,fun k h1 h2=>?_,hD.one,J1,fun k=>J2 k\/K2 k,fun k=>Iff.rfl,fun k h1 h2=>?_,hJ1,J2,K2,fun k=>Iff.rfl,fun k h1 h2=>?_,hJ2,hD.two⟩
  ·show Fu k\/H2 k↔K1 k\/(J1 k\/J2 k\/K2 k);rw [hC.all k,hD.all k];constructor
   ·rintro ((h | h) | h | h)
    ·exact Or.inr (Or.inl h)
    ·exact Or.inr (Or.inr (Or.inl h))
    ·exact Or.inl h
    ·exact Or.inr (Or.inr (Or.inr h))
   ·rintro (h | h | h | h)
    ·exact Or.inr (Or.inl h)
    ·exact Or.inl (Or.inl h)
    ·exact Or.inl (Or.inr h)
    ·exact Or.inr (Or.inr h)
  ·rcases h2 with h2 | h2 | h2
   ·exact hB.dis k (hFuH k ((hC.all k).2 (Or.inl h2))) ((hD.all k).2 (Or.inl h1))
   ·exact hB.dis k (hFuH k ((hC.all k).2 (Or.inr h2))) ((hD.all k).2 (Or.inl h1))
   ·exact hD.dis k h1 h2
  ·rcases h2 with h2 | h2
   ·exact hC.dis k h1 h2
   ·exact hB.dis k (hFuH k ((hC.all k).2 (Or.inl h1))) ((hD.all k).2 (Or.inr h2))
  ·exact hB.dis k (hFuH k ((hC.all k).2 (Or.inr h1))) ((hD.all k).2 (Or.inr h2))
 have ht:Trn w F Fr w3 F3 (fun k=>Fu k\/H2 k):=by
  have hrel :∀k,(Fu k\/H2 k)->Fr2 k/\k≠w.heap.size + 1:=fun k hk=>by
   rcases hk with hk | hk
   ·exact ⟨(hB.all k).2 (Or.inl (hFuH k hk)),fun e=>hn (e ▸ hk)⟩
   ·exact ⟨(hB.all k).2 (Or.inr hk),fun e=>hnotL (e ▸ hk)⟩
  refine ⟨?_,fun k hk=>?_,fun k hk=>?_,fun k hs hk hnk=>?_,fun k hk=>?_⟩
  ·have kk:Za (fun k=>Fr k\/w.heap.size<=k) w w3:=((k1.mono (fun _ _ h=>h.elim)).trans (E:=fun k=>Fr k\/w.heap.size<=k) (g2.keeps.mono (fun k _ hk=>by
    rcases hk with (h | h | h) | h
    ·exact Or.inr (by omega)
    ·exact Or.inr (by omega)
    ·exact Or.inl ((hdG k).2 (Or.inl h))
    ·exact Or.inl ((hdG k).2 (Or.inr h))))).trans (q3.mono (fun k _ e=>Or.inr (by omega)))
   exact kk.mono (fun k hk h=>h.elim id (fun h=>by omega))
  ·rcases g2.fresh k (hrel k hk).1 with ((h | h | h) | h) | h
   ·exact absurd h (hrel k hk).2
   ·exact Or.inr (by omega)
   ·exact Or.inl ((hdG k).2 (Or.inl h))
   ·exact Or.inl ((hdG k).2 (Or.inr h))
   ·exact Or.inr (Nat.le_trans k1.size h)
  ·rw [hF3] at hk
   rcases g2.out k hk.1 with ⟨h1,h2⟩ | h
   ·rw [hF1] at h1;refine Or.inl ⟨?_,fun h=>h2 (((hdG k).1 h).elim (fun h=>Or.inl (Or.inr (Or.inr h))) Or.inr)⟩
    rcases h1 with h | h | h
    ·exact h
    ·exact absurd (Or.inl (Or.inr (Or.inl h))) h2
    ·exact absurd h hk.2
   ·rcases (hB.all k).1 h with h | h
    ·rcases (he k).1 h with h | h
     ·exact absurd h hk.2
     ·exact Or.inr (Or.inl h)
    ·exact Or.inr (Or.inr h)
  ·rw [hF3];refine ⟨g2.inn k (Nat.lt_of_lt_of_le hs k1.size) (by rw [hF1]; exact Or.inl hk) (fun h=>?_),by omega⟩
   rcases h with (h | h | h) | h
   ·omega
   ·omega
   ·exact hnk ((hdG k).2 (Or.inl h))
   ·exact hnk ((hdG k).2 (Or.inr h))
  ·rw [hF3];exact ⟨(hlt2 k (hrel k hk).1).1,(hrel k hk).2⟩
 have:=hdone w.heap.size out T' (.func (.yield (w.heap.size + 1)) #[] #[]) w3 F3 _ hout.symm hfin ht (Nat.le_refl _) g3
 rw [<- hpe] at this;exact this
theorem Zat {R:Rsc} {l:List Rsc} {w0 w:World} {F0 Fr0 F Fr:Bs2} (hR:Zq R) (hl:Zq (Zp l)) (h:Zp (R :: l) w F Fr) (t:Trn w0 F0 Fr0 w F Fr) :
  ∃FR Fl,R w F FR/\Zp l w (fun k=>F k/\¬ FR k) Fl/\Trn w0 F0 Fr0 w (fun k=>F k/\¬ FR k) Fl:=by
 obtain ⟨FR,Fl,hA⟩:=Zl.1 h;refine ⟨FR,Fl,hA.one,hl.frame hA.two ⟨Za.refl _ _,fun k hk=>Or.inl hk.1⟩ (fun k hk=>⟨(hl.lt hA.two k hk).1,fun h=>hA.dis k h hk⟩) (fun _ _=>rfl),t.keeps,fun k hk=>t.fresh k ((hA.all k).2 (Or.inr hk)),fun k hk=>?_,fun k hs hk hn=>⟨t.inn k hs hk hn,fun h=>?_⟩,fun k hk=>⟨(hl.lt hA.two k hk).1,fun h=>hA.dis k h hk⟩⟩
 ·rcases t.out k hk.1 with h1 | h1
  ·exact Or.inl h1
  ·rcases (hA.all k).1 h1 with h2 | h2
   ·exact absurd h2 hk.2
   ·exact Or.inr h2
 ·rcases t.fresh k ((hA.all k).2 (Or.inl h)) with h1 | h1
  ·exact hn h1
  ·omega
def ZsS:Rsc:=fun w F Fr =>∀k,Fr k->F k/\k < w.heap.size
theorem ZhF:Zq ZsS:=⟨fun h=>h,fun h l hF _ k hk=>⟨hF k hk,Nat.lt_of_lt_of_le (h k hk).2 l.size⟩⟩
theorem ZoM {C:Cx} {ρ:Rx} {tv:Value} {T':Tt} {D:Nat} {U:Rsc} {mine:List Rsc} {w w2:World} {F Fr F2 Fr2:Bs2} (hU:Zq U) (ha :∀R∈mine,Zq R) (h:Zp (SeR C ρ tv T' :: DfR D :: U :: mine) w2 F2 Fr2) (t:Trn w F Fr w2 F2 Fr2) :
  w2.heap[D]? = some (.deferred (some []))/\∃F3 Fr3 F4 FU,Zp (SeR C ρ tv T' :: mine) (w2.putObj D (.deferred none)) F3 Fr3/\Trn w F Fr (w2.putObj D (.deferred none)) F3 Fr3/\U (w2.putObj D (.deferred none)) F4 FU/\(∀k,F3 k->F4 k/\¬ FU k):=by
 have hmS:Zq (Zp (SeR C ρ tv T' :: mine)):=Zb7 ha _ _ _ _;have hmU:Zq (Zp (U :: SeR C ρ tv T' :: mine)):=ZR (fun R hR=>by
  rcases List.mem_cons.1 hR with rfl | hR
  ·exact hU
  ·rcases List.mem_cons.1 hR with rfl | hR
   ·exact Qx _ _ _ _
   ·exact ha R hR)
 have hmU':Zq (Zp (SeR C ρ tv T' :: U :: mine)):=ZR (fun R hR=>by
  rcases List.mem_cons.1 hR with rfl | hR
  ·exact Qx _ _ _ _
  ·rcases List.mem_cons.1 hR with rfl | hR
   ·exact hU
   ·exact ha R hR)
 obtain ⟨FD,Fl,hA⟩:=Zl.1 (Zy h);obtain ⟨hD1,hD2,hD3⟩:=id hA.one;have hlt:D < w2.heap.size:=(Array.getElem?_eq_some_iff.1 hD3).1;have kD:Za FD w2 (w2.putObj D (.deferred none)):=(JP w2 D _).mono (fun k _ e=>(hD1 k).2 e);have tD:Trn w2 F2 FD (w2.putObj D (.deferred none)) F2 FD:=Trn.same (fun k hk=>((QK D).lt hA.one k hk).1) kD;obtain ⟨hA2,t2⟩:=hA.upd (R':=ZsS) (QK D) hmU' tD (fun k hk=>⟨((QK D).lt hA.one k hk).1,Nat.lt_of_lt_of_le ((QK D).lt hA.one k hk).2 kD.size⟩);obtain ⟨G1,G2,-,q2,q3⟩:=Zat ZhF hmU' (Zl.2 ⟨_,_,hA2⟩) (t.trans t2);obtain ⟨H1,H2,p1,p2,p3⟩:=Zat hU hmS (Zy q2) q3;exact ⟨hD3,_,H2,_,H1,p2,p3,p1,fun k hk=>hk⟩
theorem Jj {w w':World} {base:Nat} {e:TypeId} {size:Nat} {v:Value} {n:Nat} {xs:List Value} (h:w.ownsRow base e size v n xs) (hh :∀k,v.ownBlock=some k->w'.heap[k]? = w.heap[k]?):w'.ownsRow base e size v n xs:=by
 obtain ⟨h1,h2⟩:=h;refine ⟨h1,?_⟩
 rcases h2 with h2 | ⟨g,cap,cur,hv,hg,hh',r⟩
 ·exact Or.inl h2
 ·subst hv;exact Or.inr ⟨g,cap,cur,rfl,hg,by rw [hh g rfl]; exact hh',r⟩
theorem SpI.oneCell {w:World} {F:Bs2} {v:Value} {gs:Rs} (h:SpI w F v gs):v.oneCell'=true:=by
 obtain ⟨ao,cap,rfl,-⟩:=h;rfl
theorem SpI.less {w:World} {F F':Bs2} {v:Value} {gs:Rs} (h:SpI w F v gs) (hF :∀k,F' k->F k):SpI w F' v gs:=h.later ⟨Za.refl _ _,fun k hk=>Or.inl (hF k hk)⟩
def Zrx (S:Nat) (out:List (Nat×Rs)):Rsc:=fun w F Fr =>∃(v:Value) (M:List Em),At1 w S 221 v/\M.map (fun x=>(x.1,x.2.1))=out/\w.ownsRow 0 135 2 v M.length (M.flatMap Zge)/\(∀x∈M,SpI w F x.2.2 x.2.1)/\(∀k,Fr k↔k=S\/v.ownBlock=some k)/\(∀k,Fr k->F k)/\v.ownBlock≠some S
theorem Zmj (S:Nat) (out:List (Nat×Rs)):Zq (Zrx S out):=by
 refine ⟨?_,?_⟩
 ·rintro w F Fr ⟨v,M,h1,h2,h3,h4,h5,h6,h7⟩ k hk;refine ⟨h6 k hk,?_⟩
  rcases (h5 k).1 hk with rfl | hk
  ·exact h1.lt
  ·exact (h3.lt k hk).2
 ·rintro w w' F F' Fr ⟨v,M,h1,h2,h3,h4,h5,h6,h7⟩ l hF' hk;exact ⟨v,M,by unfold At1; rw [hk S ((h5 S).2 (Or.inl rfl))]; exact h1,h2,Jj h3 (fun k h=>hk k ((h5 k).2 (Or.inr h))),fun x hx=>(h4 x hx).later l,h5,hF',h7⟩
theorem ZoY {S q:Nat} {gv:Value} {gs:Rs} {out:List (Nat×Rs)} {w:World} {F Fr:Bs2} {v:Value} {M:List Em} (hFb:Fb w F) (h1:At1 w S 221 v) (h2:M.map (fun x=>(x.1,x.2.1))=out) (h3:w.ownsRow 0 135 2 v M.length (M.flatMap Zge)) (h4 :∀x∈M,SpI w F x.2.2 x.2.1) (h5 :∀k,Fr k↔k=S\/v.ownBlock=some k) (h6 :∀k,Fr k->F k) (h7:v.ownBlock≠some S) (hsp:SpI w F gv gs) (hl:out.length < 1000) :
  ∃ v' w',Sem.run Tryz.prog (Builtin.append_ #[221,221] 221 #[v,.slice (some ⟨w.heap.size,0,none⟩) 1 1]) (w.alloc (.cells #[.int .i64 (q:Int),gv] 135)) = .ok v' w'/\(∃ao n cap,v' = .slice ao n cap)/\w'.cell? ⟨S,0,none⟩=some v/\w'.frozen? ⟨S,0,none⟩=false/\
    ∃F4 Fu4,Zrx S (out ++ [(q,gs)]) (w'.setCell ⟨S,0,none⟩ v') F4 Fu4/\Trn w F Fr (w'.setCell ⟨S,0,none⟩ v') F4 Fu4:=by
 have hlen:M.length=out.length:=by rw [<- h2,List.length_map]
 obtain ⟨v',w',hrun,ho,hk,hbk⟩:=Zrl h3 (Nat.zero_le _) (by omega) (q,gs,gv) hsp.oneCell;have hS:At1 w' S 221 v:=h1.keeps hk h7;have hS2:(w'.setCell ⟨S,0,none⟩ v').heap[S]? = some (.cells #[v'] 221 (0,0)):=by rw [heap_setCell_same _ _ _ _ _ _ hS]; rfl
 have hne:v'.ownBlock≠some S:=fun e=>by
  rcases hbk S e with h | h
  ·exact h7 h
  ·have:=h1.lt; omega
 have kS:Za (fun k=>k=S) w' (w'.setCell ⟨S,0,none⟩ v'):=(Za.refl (fun k=>k=S) w').setCell (fun _=>rfl) _;have kAll:Za Fr w (w'.setCell ⟨S,0,none⟩ v'):=(hk.mono (fun k _ h=>(h5 k).2 (Or.inr h))).trans (kS.mono (fun k _ e=>(h5 k).2 (Or.inl e)));have ho2:(w'.setCell ⟨S,0,none⟩ v').ownsRow 0 135 2 v' (M ++ [(q,gs,gv)]).length ((M ++ [(q,gs,gv)]).flatMap Zge):=Jj ho (fun k h=>Below.heap_setCell _ _ _ _ (fun e=>hne (by rw [h]; exact congrArg some e)));refine ⟨v',w',hrun,(by obtain ⟨ao,cap,rfl⟩:=Zd ho; exact ⟨_,_,_,rfl⟩),hS.cell,Zv hS,fun k=>(F k/\¬ Fr k)\/k=S\/v'.ownBlock=some k,fun k=>k=S\/v'.ownBlock=some k,?_,?_⟩
 ·have lt:Lat w F (w'.setCell ⟨S,0,none⟩ v') (fun k=>(F k/\¬ Fr k)\/k=S\/v'.ownBlock=some k):=⟨kAll.mono (fun k _ h=>h6 k h),fun k h=>by
   rcases h with h | h | h
   ·exact Or.inl h.1
   ·exact Or.inl (h6 k ((h5 k).2 (Or.inl h)))
   ·rcases hbk k h with h | h
    ·exact Or.inl (h6 k ((h5 k).2 (Or.inr h)))
    ·exact Or.inr h⟩
  refine ⟨v',M ++ [(q,gs,gv)],hS2,by simp [h2],ho2,fun x hx=>?_,fun k=>Iff.rfl,fun k h=>Or.inr h,hne⟩
  rcases List.mem_append.1 hx with hx | hx
  ·exact (h4 x hx).later lt
  ·simp at hx; subst hx; exact hsp.later lt
 ·refine ⟨kAll,fun k h=>?_,fun k h=>h,fun k _ h hn=>Or.inl ⟨h,hn⟩,fun k h=>Or.inr h⟩
  rcases h with h | h
  ·exact Or.inl ((h5 k).2 (Or.inl h))
  ·rcases hbk k h with h | h
   ·exact Or.inl ((h5 k).2 (Or.inr h))
   ·exact Or.inr h
end Go.Proofs.YtfkflljplohhcaaGreatDoor
namespace Go.Proofs.YtfkflljplohhcaaGreatDoor
open Go.RowKit Go.Shelf
set_option linter.unusedVariables false
attribute [local go_sem] Oper.semAt_some
def Zfi (C:Cx) (ρ:Rx) (X:Xs) (mine:List Rsc) (p:Nat) (w:World) (F Fr:Bs2) (e:Ending) (w':World):Prop :=
 ∃(v:Value) (M:List Em) (T':Tt) (tv:Value) (F' Fr':Bs2),e = .returned v/\Zp (SeR C ρ tv T' :: mine) w' F' Fr'/\Trn w F Fr w' F' Fr'/\EnI w' F' v M/\M.map (fun x=>(x.1,x.2.1))=(X p).map (fun e=>(e.1,ap e.2 (noS C.G)))
theorem Zj4 {C:Cx} {ρ:Rx} {X:Xs} {B:Option Bo} {mine:List Rsc} {T:Tt} {tl:Value} {w:World} {F Fr:Bs2} {A Pb p lo hi:Nat} (hS:ZdC C w F ρ.bg X B mine) (hA:BxI w F A 52 (.pointer (some ⟨C.X,0,none⟩))) (hP:BxI w F Pb 3 (.int .i64 (p:Int))) (hFb:Fb w F) (hR:Zp (SeR C ρ tl T :: mine) w F Fr) (hp:p<=C.u.size) (hu:C.u.size<=200) (hPre:Pre C.u.size (fun p=>bn (X p) QU) T sno p B) (hX:OkX C.u.size lo hi X) :
  Calls Tryz.prog 153 #[.slice none 0 0,.func (.func 90) #[] #[.pointer (some ⟨A,0,none⟩),.pointer (some ⟨Pb,0,none⟩)]] w (Zfi C ρ X mine p w F Fr):=by
 have hmS:Zq (Zp (SeR C ρ tl T :: mine)):=Zb7 hS.ok _ _ _ _;have k1:Za N0_ w (w.alloc (.cells #[.slice none 0 0] 221)):=(Za.refl _ w).alloc _;have b1:At1 (w.alloc (.cells #[.slice none 0 0] 221)) w.heap.size 221 (.slice none 0 0):=heap_alloc_new _ _;have l1:Lat w F (w.alloc (.cells #[.slice none 0 0] 221)) (fun k=>F k\/k=w.heap.size):=⟨k1.mono (fun _ _ h=>h.elim),fun k hk=>hk.imp id (fun e=>by omega)⟩;have hFr :∀k,Fr k->F k/\k < w.heap.size:=hmS.lt hR;have hR1:Zp (SeR C ρ tl T :: mine) (w.alloc (.cells #[.slice none 0 0] 221)) (fun k=>F k\/k=w.heap.size) Fr:=hmS.frame hR l1 (fun k hk=>Or.inl (hFr k hk).1) (fun k hk=>k1.block k (hFr k hk).2 id);have hC1:Zrx w.heap.size [] (w.alloc (.cells #[.slice none 0 0] 221)) (fun k=>F k\/k=w.heap.size) (fun k=>k=w.heap.size):=⟨_,[],b1,rfl,World.ownsRow_nil _ _ _ _,by simp,fun k=>by simp [Value.ownBlock],fun k hk=>Or.inr hk,by simp [Value.ownBlock]⟩;have hR2:Zp (SeR C ρ tl T :: Zrx w.heap.size [] :: mine) (w.alloc (.cells #[.slice none 0 0] 221)) (fun k=>F k\/k=w.heap.size) (fun k=>k=w.heap.size\/Fr k):=Zy (ZcY hmS hR1 (fun h=>by have:=(hFr _ h).2; omega) (Or.inr rfl) hC1);have hFb1:Fb (w.alloc (.cells #[.slice none 0 0] 221)) (fun k=>F k\/k=w.heap.size):=fun k hk=>hk.elim (fun h=>Nat.lt_of_lt_of_le (hFb k h) k1.size) (fun e=>by have:=b1.lt; omega);have t1 :∀(w2:World) (F2 Fr2:Bs2),Trn (w.alloc (.cells #[.slice none 0 0] 221)) (fun k=>F k\/k=w.heap.size) (fun k=>k=w.heap.size\/Fr k) w2 F2 Fr2->Trn w F Fr w2 F2 Fr2:=by
  intro w2 F2 Fr2 t;refine ⟨?_,fun k hk=>?_,fun k hk=>?_,fun k hs hk hn=>?_,t.own⟩
  ·exact ((k1.mono (fun _ _ h=>h.elim)).trans' (E:=Fr) t.keeps (fun i hi h=>h.elim (fun e=>by omega) id))
  ·rcases t.fresh k hk with (h | h) | h
   ·exact Or.inr (by omega)
   ·exact Or.inl h
   ·exact Or.inr (Nat.le_trans k1.size h)
  ·rcases t.out k hk with ⟨h1,h2⟩ | h
   ·rcases h1 with h1 | h1
    ·exact Or.inl ⟨h1,fun h=>h2 (Or.inr h)⟩
    ·exact absurd (Or.inl h1) h2
   ·exact Or.inr h
  ·exact t.inn k (Nat.lt_of_lt_of_le hs k1.size) (Or.inl hk) (fun h=>h.elim (fun e=>by omega) hn)
 have hS1:=hS.later l1; have hA1:=hA.later l1; have hP1:=hP.later l1;clear hR1 hC1 l1 hS hA hP hFb hR hmS hFr;refine (callsIn_wide (n:=3)).1 ?_;refine callsIn_of_wp_marks Tryz.func153 rfl trivial ?_;simp only [Tryz.ntmps153,List.size_toArray,List.length_cons,List.length_nil,Nat.reduceAdd,Nat.reduceSub,Array.replicate_succ,Array.replicate_zero,List.push_toArray,List.append_toArray,List.nil_append,List.cons_append];gi_wp2;refine ZdR (cap:=1000) (c:=none) (U:=Zrx w.heap.size) (fun out=>Zmj _ out) rfl ?round rfl hS1 hA1 hP1 hFb1 hR2 hp hPre (Nat.le_trans (Znp hX hp _) (by simp; omega)) ?done
 case round =>
  intro l w1 F1 Fu out q gv gs hFb hU hsp hgl hq hn hF1l hll hnl;obtain ⟨ag,ng,cg,hgv⟩ :∃ag ng cg,gv = .slice ag ng cg:=by obtain ⟨a,c,h,_⟩:=hsp; exact ⟨a,_,c,h⟩
  subst hgv;clear hgl;refine ⟨fun a1 w2=>w2.heap[w1.heap.size]? = some (.cells #[.int .i64 (q:Int),.slice ag ng cg] 135 (0,0))/\a1 = { tmps:=#[.slice none 0 0,.func (.func 90) #[] #[.pointer (some ⟨A,0,none⟩),.pointer (some ⟨Pb,0,none⟩)],.pointer (some ⟨w.heap.size,0,none⟩),undef,.slice none 0 0,.pointer (some ⟨w1.heap.size,0,none⟩),.func (.func 90) #[] #[.pointer (some ⟨A,0,none⟩),.pointer (some ⟨Pb,0,none⟩)],.agg #[.int .i64 (q:Int),.slice ag ng cg],undef,undef,undef,undef,undef],defers := [] },?_,?_⟩
  ·have ha:w1.heap.size=w1.heap.size/\(w1.alloc (.cells #[.int .i64 (q:Int),.slice ag ng cg] 135)).heap[w1.heap.size]? = some (.cells #[.int .i64 (q:Int),.slice ag ng cg] 135 (0,0)):=⟨rfl,heap_alloc_new _ _⟩;clear hU hsp;have HK:Hid (Za N0_ w1 (w1.alloc (.cells #[.int .i64 (q:Int),.slice ag ng cg] 135))):=(Za.refl _ _).alloc _;have HA:Hid _:=ha.2;clear ha;gi_wp2;exact ⟨HK.out,HA.out,by first | trivial | rfl⟩
  ·rintro a1 w2 w3 k2 ⟨hb,rfl⟩ k3 ⟨v,M,c1,c2,c3,c4,c5,c6,c7⟩;have hb3:w3.heap[w1.heap.size]? = some (.cells #[.int .i64 (q:Int),.slice ag ng cg] 135 (0,0)):=by rw [k3.block _ (lt_of_block hb) (by omega)]; exact hb
   have l3:Lat w1 F1 w3 F1:=(Lat.ofKeeps k2).trans ⟨k3.mono (fun k _ e=>e ▸ hF1l),fun k h=>Or.inl h⟩;have hFb3:Fb w3 F1:=(hFb.keeps k2).keeps k3;obtain ⟨ao,m,cap,hvf⟩ :∃ao m cap,v = .slice ao m cap:=by obtain ⟨ao,cap,h⟩:=Zd c3; exact ⟨_,_,_,h⟩
   have e0:=c1.cell;have e1:w3.cell? ⟨w1.heap.size,0,none⟩=some (.int .i64 (q:Int)):=by rw [Zc hb3]; rfl
   have e2:w3.cell? ⟨w1.heap.size,1,none⟩=some (.slice ag ng cg):=by rw [Zc hb3]; rfl
   obtain ⟨v',w4,hrun,⟨ao',n',cap',rfl⟩,cS,fS,hfin⟩:=ZoY (q:=q) hFb3 c1 c2 c3 c4 c5 c6 c7 (hsp.later l3) (by simpa using hn);have HF:Hid (∃F4 Fu4,Zrx w.heap.size (out ++ [(q,gs)]) (w4.setCell ⟨w.heap.size,0,none⟩ (.slice ao' n' cap')) F4 Fu4/\Trn w3 F1 Fu (w4.setCell ⟨w.heap.size,0,none⟩ (.slice ao' n' cap')) F4 Fu4):=hfin;rw [hvf] at e0 hrun cS;clear hfin c1 c2 c3 c4 c5 c6 c7 hb3 l3 hFb3 hb k2 k3 hU hsp hvf;gi_wp2_with (gi_at_builtin; refine Zbo rfl _ _ _ _ rfl rfl _ _ _ _ rfl rfl hrun ?_);exact ⟨rfl,HF.out⟩
 case done =>
  intro D out T' tv w2 F2 Fr2 hout hst ht hD hpst;obtain ⟨hD1,F3,Fr3,F4,FU,q1,q2,q3,q4⟩:=ZoM (Zmj _ _) hS1.ok hst ht;have hc :∃v M,At1 w2 w.heap.size 221 v/\Zrx w.heap.size out (w2.putObj D (.deferred none)) F4 FU/\(∃ao n cap,v = .slice ao n cap)/\At1 (w2.putObj D (.deferred none)) w.heap.size 221 v/\EnI (w2.putObj D (.deferred none)) F3 v M/\M.map (fun x=>(x.1,x.2.1))=out:=by
   obtain ⟨v,M,c1,c2,c3,c4,c5,c6,c7⟩:=id q3;have c0:At1 w2 w.heap.size 221 v:=by
    have:D≠w.heap.size:=by have:=b1.lt; omega
    unfold At1 at c1 ⊢;rw [Q3 (Ne.symm this)] at c1;exact c1
   obtain ⟨ao,cap,hvf⟩:=Zd c3;refine ⟨v,M,c0,q3,⟨_,_,_,hvf⟩,c1,⟨⟨ao,cap,hvf⟩,fun _=>⟨c3,fun k hk h=>(q4 k h).2 ((c5 k).2 (Or.inr hk))⟩,fun x hx=>(c4 x hx).less (fun k h=>(q4 k h).1)⟩,c2⟩
  obtain ⟨v,M,c0,-,⟨ao,n,cap,rfl⟩,c1,hEn,hM⟩:=hc;have e0:=c0.cell;have e:(if out = [] then (none:Option Code) else none)=none:=by split <;> rfl
  rw [e];have HF:Hid (Zfi C ρ X mine p w F Fr (.returned (.slice ao n cap)) (w2.putObj D (.deferred none))):=⟨_,M,T',tv,F3,Fr3,rfl,q1,t1 _ _ _ q2,hEn,by rw [hM,hout]; exact Zki hX hp _⟩;have HD:Hid (w2.heap[D]? = some (.deferred (some []))):=hD1;clear q1 q2 q3 q4 hEn hM hD1 hst ht hpst c0 c1 t1 hS1 hA1 hP1 hR2 hFb1 hX hout;gi_wp2;refine ⟨by simp,.inl ⟨_,_,rfl,run_takeDeferred HD.out,?_⟩⟩;refine ⟨_,results_tmp rfl _ _ _,?_⟩;exact HF.out
theorem Zho {C:Cx} {ρ:Rx} {X:Xs} {B:Option Bo} {mine:List Rsc} {T:Tt} {tl:Value} {w:World} {F Fr:Bs2} {A Pb p lo hi:Nat} (hS:ZdC C w F ρ.bg X B mine) (hA:BxI w F A 52 (.pointer (some ⟨C.X,0,none⟩))) (hP:BxI w F Pb 3 (.int .i64 (p:Int))) (hFb:Fb w F) (hR:Zp (SeR C ρ tl T :: mine) w F Fr) (hp:p<=C.u.size) (hu:C.u.size<=200) (hPre:Pre C.u.size (fun p=>bn (X p) QU) T sno p B) (hX:OkX C.u.size lo hi X) :
  Calls Tryz.prog 140 #[.func (.func 90) #[] #[.pointer (some ⟨A,0,none⟩),.pointer (some ⟨Pb,0,none⟩)]] w (Zfi C ρ X mine p w F Fr):=by
 have hcall:Calls Tryz.prog 153 #[.slice none 0 0,.func (.func 90) #[] #[.pointer (some ⟨A,0,none⟩),.pointer (some ⟨Pb,0,none⟩)]] w (fun e w' =>∃ao n cap,e = .returned (.slice ao n cap)/\Hid (Zfi C ρ X mine p w F Fr (.returned (.slice ao n cap)) w')):=by
  refine (Zj4 hS hA hP hFb hR hp hu hPre hX).mono ?_;intro e w' h;obtain ⟨v,M,T',tv,F',Fr',rfl,h1,h2,h3,h4⟩:=id h;obtain ⟨ao,cap,rfl⟩:=h3.form;exact ⟨_,_,_,rfl,h⟩
 clear hS hA hP hFb hR hPre hX;go_enter Tryz.func140,Tryz.ntmps140;go_wp2_with (go_at_call 153; refine hcall.mono ?_; rintro e w2 ⟨ao,n,cap,rfl,HF⟩);go_ret;exact HF.out
end Go.Proofs.YtfkflljplohhcaaGreatDoor
