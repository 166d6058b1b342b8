import Derived.Test.YtfkflljplohhcaaGreatDoorYh
set_option linter.unusedVariables false
set_option maxHeartbeats 1000000
set_option maxRecDepth 100000
namespace Go.Proofs.YtfkflljplohhcaaGreatDoor
open Go.RowKit
variable {w w':World}{C:Cx}{A p fn base l D N lo hi j:Nat}{cap tmps:Array Value}{tl bg v:Value}
theorem Zp2{P:Nat}{jn:Int}{ly:Nat}{an:Option Addr}{nn cn:Nat}{Q:Ending->World->Prop}(hS:Se w C jn (.func (.func fn) #[] cap) tl)(hnn:C.nn=.slice an nn cn)(cA:w.cell? (ak A)=some ((ae C.X)))(cP:w.cell? (ak P)=some (.int .i64 (p:Int)))(hAX:A≠C.X)(hPX:P≠C.X)(hcf:jE fn)
  (hcall:au fn (#[.int .i64 (p:Int),.slice an nn cn]++cap) (w.setCell ⟨C.X,5,none⟩ (.func (.yield ly) #[] #[])).drew (fun e w2 =>∃b,e=.returned (.bool b)/\Q (.returned (.tuple #[])) w2/\(w2.cell? (ak A)=some ((ae C.X))/\w2.cell? (ak P)=some (.int .i64 (p:Int))/\w2.cell? ⟨C.X,1,none⟩=some (.slice an nn cn)/\w2.cell? ⟨C.X,4,none⟩=some (.func (.func fn) #[] cap)))) :
  au 90 #[.func (.yield ly) #[] #[],ae A,ae P] w Q:=by
 unfold jE at hcf;have c5:=hS.c5;have WY:=hS.fz 5;have hst:(store ⟨C.X,5,none⟩ (.func (.yield ly) #[] #[])).run Tryz.prog w=.ok () (w.setCell ⟨C.X,5,none⟩ (.func (.yield ly) #[] #[])):=by
  rw[run_store _ _ _ _ _ rfl];simp[c5,WY,go_sem]
 have f5:=hS.fz 5;have hS1:=hS.EN (.func (.yield ly) #[] #[]);have s1:=hS1.c1;rw[hnn] at s1;have s4:=hS1.c4;have a1:(w.setCell ⟨C.X,5,none⟩ (.func (.yield ly) #[] #[])).cell? (ak A)=some ((ae C.X)):=by
  unfold World.cell? at cA ⊢;simp only at cA ⊢;rw[Below.heap_setCell _ _ _ _ hAX];exact cA
 have p1:(w.setCell ⟨C.X,5,none⟩ (.func (.yield ly) #[] #[])).cell? (ak P)=some (.int .i64 (p:Int)):=by
  unfold World.cell? at cP ⊢;simp only at cP ⊢;rw[Below.heap_setCell _ _ _ _ hPX];exact cP
 go_enter Tryz.func90,Tryz.ntmps90;go_upto_region 1 with fail;clear hS hS1 cA cP c5 f5 WY hst;generalize (w.setCell ⟨C.X,5,none⟩ (.func (.yield ly) #[] #[]))=w1 at *;have hS0:(w1.drew.cell? (ak A)=some ((ae C.X))/\w1.drew.cell? (ak P)=some (.int .i64 (p:Int))/\w1.drew.cell? ⟨C.X,1,none⟩=some (.slice an nn cn)/\w1.drew.cell? ⟨C.X,4,none⟩=some (.func (.func fn) #[] cap)):=⟨a1,p1,s1,s4⟩;clear a1 p1 s1 s4;go_region_held3 (fun w'=>(w'.cell? (ak A)=some ((ae C.X))/\w'.cell? (ak P)=some (.int .i64 (p:Int))/\w'.cell? ⟨C.X,1,none⟩=some (.slice an nn cn)/\w'.cell? ⟨C.X,4,none⟩=some (.func (.func fn) #[] cap))) (first | assumption | go_keep) (first|((with_reducible (refine hcall.mono ?_));rintro e w2 ⟨b,rfl,hQ,hS2⟩))
 all_goals (try go_wp2_with fail)
 all_goals (go_end0;exact hQ)
theorem ZjW{k:Int}:au 84 #[.int .i64 k,.func (.func fn) #[] cap] w fun e w'=>e=.returned (.func (.func 119) #[] #[ae w.heap.size,.pointer (some ⟨w.heap.size+1,0,none⟩)])/\aP w' w.heap.size 3 (.int .i64 k)/\aP w' (w.heap.size+1) 102 (.func (.func fn) #[] cap)/\Za ai w w':=by
 have mR:∀(fn:Fn) (first cap:Array Value) (w:World),(Instr.makeFunc fn first cap).run Tryz.prog w=.ok (.func fn first cap) w:=fun _ _ _ _=>rfl;have b1:=fU w (.cells #[.int .i64 k] 3) (.cells #[.func (.func fn) #[] cap] 102);have b2:=gH w (.cells #[.int .i64 k] 3) (.cells #[.func (.func fn) #[] cap] 102);have hK:Za ai w ((w.alloc (.cells #[.int .i64 k] 3)).alloc (.cells #[.func (.func fn) #[] cap] 102)):=((Za.refl _ w).alloc _).alloc _;go_enter Tryz.func84,Tryz.ntmps84;go_wp2_with fail;go_ret;exact⟨by simp,b1,b2,hK⟩
theorem Zi6{p:Int}:au 71 #[ae C.X,.int .i64 p] w fun e w'=>e=.returned (.func (.func 90) #[] #[ae w.heap.size,.pointer (some ⟨w.heap.size+1,0,none⟩)])/\aP w' w.heap.size 52 ((ae C.X))/\aP w' (w.heap.size+1) 3 (.int .i64 p)/\Za ai w w':=by
 have mR:∀(fn:Fn) (first cap:Array Value) (w:World),(Instr.makeFunc fn first cap).run Tryz.prog w=.ok (.func fn first cap) w:=fun _ _ _ _=>rfl;have b1:=fU w (.cells #[ae C.X] 52) (.cells #[.int .i64 p] 3);have b2:=gH w (.cells #[ae C.X] 52) (.cells #[.int .i64 p] 3);have hK:Za ai w ((w.alloc (.cells #[ae C.X] 52)).alloc (.cells #[.int .i64 p] 3)):=((Za.refl _ w).alloc _).alloc _;go_enter Tryz.func71,Tryz.ntmps71;go_wp2_with fail;go_ret;exact⟨by simp,b1,b2,hK⟩
theorem Zgt{jn:Int}(h:Se w C jn bg tl)(h0:0<=jn)(h1:jn<=100000):au 103 #[ae C.X] w fun e w'=>e=.returned (.int .i64 (jn+1))/\Se w' C (jn+1) bg tl/\Za (·=C.X) w w':=by
 have c2:=h.c2;have f2:=h.fz 2;have hS:=h.set2 (jn+1);have d2:=hS.c2;have hK:Za (·=C.X) w (w.setCell ⟨C.X,2,none⟩ (.int .i64 (jn+1))):=(Za.refl (·=C.X) w).setCell (fun _=>rfl) _;have hwr:IntKind.i64.wrap (jn+1)=jn+1:=IntWalk.i64_in _ ⟨by omega,by omega⟩;clear h;go_enter Tryz.func103,Tryz.ntmps103;go_wp2_with fail;go_ret;exact⟨rfl,hS,hK⟩
theorem Zo9{jn:Int}(h:Se w C jn bg tl)(h0:0<=jn)(h1:jn<=100000):au 81 #[ae C.X,.func (.func fn) #[] cap] w fun e w' =>∃J,e=.returned (.func (.func 104) #[] #[ae w.heap.size,ae J,.pointer (some ⟨w.heap.size+1,0,none⟩)])/\w.heap.size<=J/\Se w' C (jn+1) bg tl/\aP w' w.heap.size 52 ((ae C.X))/\aP w' J 3 (.int .i64 (jn+1))/\aP w' (w.heap.size+1) 102 (.func (.func fn) #[] cap)/\Za (·=C.X) w w':=by
 have mR:∀(fn:Fn) (first cap:Array Value) (w:World),(Instr.makeFunc fn first cap).run Tryz.prog w=.ok (.func fn first cap) w:=fun _ _ _ _=>rfl;have b1:aP ((w.alloc (.cells #[ae C.X] 52)).alloc (.cells #[.func (.func fn) #[] cap] 102)) w.heap.size 52 ((ae C.X)):=fU w _ _;have b2:aP ((w.alloc (.cells #[ae C.X] 52)).alloc (.cells #[.func (.func fn) #[] cap] 102)) (w.heap.size+1) 102 (.func (.func fn) #[] cap):=gH w _ _;have hK:Za ai w ((w.alloc (.cells #[ae C.X] 52)).alloc (.cells #[.func (.func fn) #[] cap] 102)):=((Za.refl _ w).alloc _).alloc _;have hX:=h.lt;have hS:=h.same (hK.block C.X hX id);go_enter Tryz.func81,Tryz.ntmps81;go_upto_region 1 with fail;generalize ((w.alloc (.cells #[ae C.X] 52)).alloc (.cells #[.func (.func fn) #[] cap] 102))=w1 at *;have c1:=b1.cell;have hj:=Zgt hS h0 h1;go_upto_region 2 with(go_at_call 103;refine hj.mono ?_;rintro e w2 ⟨rfl,hS2,hk2⟩);have hs2:=hk2.size;have hs1:=hK.size;have l1:w.heap.size<w1.heap.size:=b1.lt;have l2:w.heap.size+1<w1.heap.size:=b2.lt;have hlast:aP (w2.alloc (.cells #[.int .i64 (jn+1)] 3)) w2.heap.size 3 (.int .i64 (jn+1)):=heap_alloc_new _ _;have rT:Se (w2.alloc (.cells #[.int .i64 (jn+1)] 3)) C (jn+1) bg tl:=hS2.same (((Za.refl ai w2).alloc _).block C.X hS2.lt id);have B1:=b1.keeps (hk2.alloc (.cells #[.int .i64 (jn+1)] 3)) (fun h=>by omega);have B2:=b2.keeps (hk2.alloc (.cells #[.int .i64 (jn+1)] 3)) (fun h=>by omega);have hKK:Za (·=C.X) w (w2.alloc (.cells #[.int .i64 (jn+1)] 3)):=(hK.mono (fun _ _ h=>h.elim)).trans (hk2.alloc _);generalize hw3:(w2.alloc (.cells #[.int .i64 (jn+1)] 3))=w3 at *;go_wp2_with fail;go_ret;exact⟨w2.heap.size,by simp,by omega,rT,B1,hlast,B2,hKK⟩
theorem za(w:World)(x y z:Obj):(((w.alloc x).alloc y).alloc z).heap[w.heap.size]?=some x/\(((w.alloc x).alloc y).alloc z).heap[w.heap.size+1]?=some y/\(((w.alloc x).alloc y).alloc z).heap[w.heap.size+2]?=some z:=by
 refine⟨?_,?_,?_⟩
 ·rw[Below.heap_alloc _ _ _ (by simp;omega)];exact fU w x y
 ·rw[Below.heap_alloc _ _ _ (by simp)];exact gH w x y
 ·have:=heap_alloc_new ((w.alloc x).alloc y) z
  simpa using this
theorem ZkA{f:Nat->Nat}:au 78 #[ae C.X,.agg #[.int .u64 (f 0),.int .u64 (f 1),.int .u64 (f 2),.int .u64 (f 3)],.func (.func fn) #[] cap] w fun e w'=>e=.returned (.func (.func 100) #[] #[ae w.heap.size,.pointer (some ⟨w.heap.size+1,0,none⟩),.pointer (some ⟨w.heap.size+2,0,none⟩)])/\aP w' w.heap.size 52 ((ae C.X))/\Sb w' (w.heap.size+1) f/\aP w' (w.heap.size+2) 102 (.func (.func fn) #[] cap)/\Za ai w w':=by
 have mR:∀(fn:Fn) (first cap:Array Value) (w:World),(Instr.makeFunc fn first cap).run Tryz.prog w=.ok (.func fn first cap) w:=fun _ _ _ _=>rfl;obtain⟨b1,b2,b3⟩:=za w (.cells #[ae C.X] 52) (.cells #[.int .u64 (f 0),.int .u64 (f 1),.int .u64 (f 2),.int .u64 (f 3)] 170) (.cells #[.func (.func fn) #[] cap] 102);have hK:Za ai w (((w.alloc (.cells #[ae C.X] 52)).alloc (.cells #[.int .u64 (f 0),.int .u64 (f 1),.int .u64 (f 2),.int .u64 (f 3)] 170)).alloc (.cells #[.func (.func fn) #[] cap] 102)):=(((Za.refl _ w).alloc _).alloc _).alloc _;go_enter Tryz.func78,Tryz.ntmps78;go_wp2_with fail;go_ret;exact⟨by simp,b1,b2,b3,hK⟩
variable {ρ:Rx}{T:Tt}{F Fr:az}
theorem Zly{L:List Et}{clock:Nat}(hS:Se w C ρ.jn ρ.bg tl)(hT:Tb w C.m T L)(he:∀k,Fr k↔k=C.X\/k=C.m\/∃x∈L,x.2.1=k)(hF:∀k,Fr k->F k)(hne:C.X≠C.m)(hm:w.heap[C.m]?=some (.map (L.map J8).toArray clock))(hpn : ρ.pn = []):
  ∃F' aM,aR C ρ tl iP (w.putObj C.m (.map #[] clock)) F' aM/\aJ w F Fr (w.putObj C.m (.map #[] clock)) F' aM:=by
 have hlt:=(Array.getElem?_eq_some_iff.1 hm).1;refine⟨fun k=>(F k/\¬Fr k)\/k=C.X\/k=C.m,fun k=>k=C.X\/k=C.m,⟨[],hS.same (QX hne),⟨⟨clock,by rw[TJ hlt];rfl⟩,by simp,by simp,by simp,fun _ _ _ _=>rfl,fun _ _ _=>by simp[iP],by simp⟩,by rw[hpn];simp,fun k=>by simp,fun k hk=>Or.inr hk,hne,by simp⟩,?_⟩;refine⟨(JZ w C.m _).mono (fun k _ hk=>by subst hk;exact(he _).2 (Or.inr (Or.inl rfl))),fun k hk=>Or.inl ((he k).2 (hk.imp id Or.inl)),fun k hk=>hk,fun k _ h1 h2=>Or.inl ⟨h1,h2⟩,fun k hk=>Or.inr hk⟩
theorem Zno(h:aR C ρ tl T w F Fr)(hpn : ρ.pn = []):
  au 139 #[.agg #[.map (some C.m)]] w fun e w'=>e=.returned (.tuple #[])/\∃F' aM,aR C ρ tl iP w' F' aM/\aJ w F Fr w' F' aM:=by
 have dW:=QA C ρ tl T;have kA:Za ai w (w.alloc (.cells #[.map (some C.m)] 100)):=(Za.refl _ w).alloc _;have h2:=dW.frame h (aH.ay kA) (fun i hi=>(dW.lt h i hi).1) (fun i hi=>kA.block i (dW.lt h i hi).2 id);have ht2:aJ w F Fr _ F Fr:=aJ.ay (fun i hi=>(dW.lt h i hi).1) kA;have b1:aP (w.alloc (.cells #[.map (some C.m)] 100)) w.heap.size 100 (.map (some C.m)):=heap_alloc_new _ _;clear h;obtain⟨L,hS,hT,qK,he,hF,hne,hX⟩:=h2;obtain⟨clock,hm⟩:=hT.mp;go_enter Tryz.func139,Tryz.ntmps139;go_upto_region 1 with fail;generalize (w.alloc (.cells #[.map (some C.m)] 100))=w2 at *;have c1:=b1.cell;have hcl:=fun t=>Znn (P:=Tryz.prog) t MF hm;obtain⟨F',aM,q1,q2⟩:=Zly hS hT he hF hne hm hpn;have hf:∃F' aM,aR C ρ tl iP (w2.putObj C.m (.map #[] clock)) F' aM/\aJ w F Fr (w2.putObj C.m (.map #[] clock)) F' aM:=⟨F',aM,q1,ht2.trans q2⟩;clear q1 q2 hS hT he hF hX qK hm ht2 kA dW;go_wp2_with fail;go_end0;exact⟨rfl,hf⟩
theorem Tryz.tq:(Tryz.prog.info? 135).map (fun i=>(i.zero,i.size,i.bytes))=some (some (.agg #[.int .i64 0,.slice none 0 0]),2,32):=by kernel_rfl
theorem ZsX{M:List Em}(h:w.ownsRow base 135 2 v M.length (M.flatMap zh))(hb:base<=w.heap.size)(hl:M.length<=1000)(x:Em)(hx:x.2.2.oneCell'=true):
  ∃v' w',Sem.run Tryz.prog (Builtin.append_ #[221,221] 221 #[v,.slice (some ⟨w.heap.size,0,none⟩) 1 1]) (w.alloc (.cells #[.int .i64 (x.1:Int),x.2.2] 135))=.ok v' w'/\w'.ownsRow base 135 2 v' (M++[x]).length ((M++[x]).flatMap zh)/\Za (v.ownBlock=some ·) w w'/\(∀k,v'.ownBlock=some k->v.ownBlock=some k\/w.heap.size<=k):=by
 obtain⟨i0,hi,hz0,hz1,hz2⟩:=info_parts Tryz.tq;obtain⟨v',w3,hrun,ho,hgr,hbk⟩:=JF (P:=Tryz.prog) (w.alloc (.cells #[.int .i64 (x.1:Int),x.2.2] 135)) base 221 221 135 i0 _ 2 32 Tryz.underlying221 hi hz0 hz1 hz2 rfl (by decide) v M.length _ (h.alloc _)
  (ak w.heap.size) 1 1 [.int .i64 (x.1:Int),x.2.2] rfl (aV w _ _) (by intro u hu;simp at hu;rcases hu with rfl | rfl;rfl;exact hx) (by unfold maxLen;omega) (by omega) (by simp;omega)
 refine⟨v',w3,hrun,?_,((Za.refl _ w).alloc _).grown hgr (fun k hk _=>hk),fun k hk=>?_⟩
 ·rw[List.flatMap_append,List.length_append];exact ho
 ·by_cases hlt:k<w.heap.size
  ·exact Or.inl (hbk k hk (by simp;omega))
  ·exact Or.inr (by omega)
theorem aJ.same{w1:World}{O:az}(hO:∀k,O k->F k)(k:Za O w w1):aJ w F O w1 F O :=
 ⟨k,fun _ h=>Or.inl h,fun k h=>by by_cases hk:O k;exact Or.inr hk;exact Or.inl ⟨h,hk⟩,fun k _ h _=>h,hO⟩
def eF (fn:FuncId) (tmps:Array Value) (ps:Array Tmp) (assign body:Code) (D:Nat) (st:LoopState) (pe:Option Code):Loop :=
 { state:=st,pending:=pe,fn:=fn,tmps:=tmps,params:=ps,assign:=assign,body:=body,defers:=D }
def ko (l:Nat) (r:Loop) (U:aO):aO:=fun w F Fr =>∃Fu,(∀k,Fr k↔k=l\/Fu k)/\¬Fu l/\F l/\w.heap[l]?=some (.loop r)/\U w F Fu
variable {U:aO}
theorem X3{r:Loop}(h:Zs U):Zs (ko l r U):=by
 refine⟨?_,?_⟩
 ·rintro w F Fr ⟨Fu,he,hn,hF,hl,hU⟩ k hk
  rcases(he k).1 hk with rfl | hk
  ·exact⟨hF,(Array.getElem?_eq_some_iff.1 hl).1⟩
  ·exact h.lt hU k hk
 ·rintro w w' F F' Fr ⟨Fu,he,hn,hF,hl,hU⟩ lt hF' hk;exact⟨Fu,he,hn,hF' l ((he l).2 (Or.inl rfl)),by rw[hk l ((he l).2 (Or.inl rfl))];exact hl,h.frame hU lt (fun k h1=>hF' k ((he k).2 (Or.inr h1))) (fun k h1=>hk k ((he k).2 (Or.inr h1)))⟩
def xS:Option Code->Exit->Prop
 | none,e=>e=.normal
 | some .ret,e=>e=.ret
 | some (.exit id),e=>e=.exit id
 | _,_=>False
variable {Fu:az}
theorem ko.put{r r':Loop}(hU:Zs U)(hn:¬Fu l)(hF:F l)(hl:w.heap[l]?=some (.loop r))(h:U w F Fu):
  (w.putObj l (.loop r')).heap[l]?=some (.loop r')/\U (w.putObj l (.loop r')) F Fu/\Za (·=l) w (w.putObj l (.loop r')):=by
 have hlt:=(Array.getElem?_eq_some_iff.1 hl).1;have hk:=JZ w l (.loop r');have hlat:aH w F (w.putObj l (.loop r')) F:=⟨hk.mono (fun k _ h=>by subst h;exact hF),fun k h=>Or.inl h⟩;exact⟨TJ hlt,hU.frame h hlat (fun k h1=>(hU.lt h k h1).1) (fun k h1=>QX (fun e=>hn (e ▸ h1))),hk⟩
variable {assign body:Code}{c:Option Code}
theorem Zdk{ps:Array Tmp}{arg:Array Value}{U':aO}{Ax:Act->World->Prop}
  (hU:Zs U) (Ww:Zs U') (hps:arg.size=ps.size) (he:∀k,Fr k↔k=l\/Fu k) (hn:¬Fu l) (hF:F l) (hl:w.heap[l]?=some (.loop (eF fn tmps ps assign body D .ready none))) (oZ:U w F Fu)
  (ha:assign.wpIn (Fence.wide.inRound l) 0 Tryz.prog (Exit.then (fun a1 w1=>Za ai w w1/\Ax a1 w1) (fun _ _ _=>False)) { tmps:=(ps.zip arg).foldl (fun t (p,v)=>t.setIfInBounds p v) tmps,defers := [] } w)
  (hb:∀(a1:Act) (w1 w2:World),Za ai w w1->Ax a1 w1->Za (·=l) w1 w2->U w2 F Fu->
   body.wpIn (Fence.wide.inRound l) 0 Tryz.prog (fun e a3 w3=>xS c e/\∃F' si,U' w3 F' si/\aJ w2 F Fu w3 F' si) a1 w2) :
  YieldAt Fence.wide 0 Tryz.prog l arg w (fun e w'=>e=.returned (.bool c.isNone)/\∃F' aM,ko l (eF fn tmps ps assign body D (if c.isNone then .ready else .done) c) U' w' F' aM/\aJ w F Fr w' F' aM):=by
 have hlt:=(Array.getElem?_eq_some_iff.1 hl).1;refine⟨fn,_,assign,body,run_yield hl hps,roundIn_of_wpIn trivial (wpIn_mono ha ?_)⟩;intro e a1 w1 h
 cases e with
 | normal =>
   obtain⟨k1,hA⟩:=h;have hl1:w1.heap[l]?=some (.loop (eF fn tmps ps assign body D .ready none)):=by rw[k1.block l hlt id];exact hl
   have KN:U w1 F Fu:=hU.frame oZ (aH.ay k1) (fun k h1=>(hU.lt oZ k h1).1) (fun k h1=>k1.block k (hU.lt oZ k h1).2 id);refine⟨_,run_beginRound hl1 rfl,?_⟩;obtain⟨q1,q2,q3⟩:=ko.put (r' := { eF fn tmps ps assign body D .ready none with state:=.busy }) hU hn hF hl1 KN;generalize hw2:(w1.putObj l (.loop { eF fn tmps ps assign body D .ready none with state:=.busy }))=w2 at *;have hlt2:l<w2.heap.size:=(Array.getElem?_eq_some_iff.1 q1).1;refine wpIn_mono (hb a1 w1 w2 k1 hA q3 q2) ?_;rintro e a3 w3 ⟨hx,F',si,g1,g2⟩;have hn':¬si l:=fun h=>(g2.fresh l h).elim hn (fun h2=>by omega);have hF':F' l:=g2.dP l hlt2 hF hn;have hl3:w3.heap[l]?=some (.loop { eF fn tmps ps assign body D .ready none with state:=.busy }):=by rw[g2.keeps.block l hlt2 hn];exact q1
   obtain⟨p1,p2,p3⟩:=ko.put (r':=eF fn tmps ps assign body D (if c.isNone then .ready else .done) c) Ww hn' hF' hl3 g1;have hend:(Instr.endRound l c).run Tryz.prog w3=.ok (.bool c.isNone) (w3.putObj l (.loop (eF fn tmps ps assign body D (if c.isNone then .ready else .done) c))):=run_endRound c hl3;have hfin:(∃F' aM,ko l (eF fn tmps ps assign body D (if c.isNone then .ready else .done) c) U' (w3.putObj l (.loop (eF fn tmps ps assign body D (if c.isNone then .ready else .done) c))) F' aM/\aJ w F Fr (w3.putObj l (.loop (eF fn tmps ps assign body D (if c.isNone then .ready else .done) c))) F' aM):=by
    refine⟨F',fun k=>k=l\/si k,⟨si,fun k=>Iff.rfl,hn',hF',p1,p2⟩,?_⟩;have iY:∀k,Fr k->F k:=fun k hk=>((he k).1 hk).elim (fun e=>e ▸ hF) (fun h1=>(hU.lt oZ k h1).1);have t1:aJ w F Fr w1 F Fr:=aJ.ay iY k1;have t2:aJ w1 F Fr w2 F Fr:=aJ.same iY (q3.mono (fun k _ e=>(he k).2 (Or.inl e)));have t3:aJ w2 F Fr w3 F' (fun k=>k=l\/si k):=(g2.wide (P:=fun k=>k=l) (fun k e=>by subst e;exact⟨hF,hlt2,hn⟩)).congr (fun k=>by rw[he k];exact Or.comm) (fun k=>Or.comm);have t4:aJ w3 F' (fun k=>k=l\/si k) (w3.putObj l (.loop (eF fn tmps ps assign body D (if c.isNone then .ready else .done) c))) F' (fun k=>k=l\/si k) :=
     aJ.same (fun k hk=>hk.elim (fun e=>e ▸ hF') (fun h1=>(Ww.lt g1 k h1).1)) (p3.mono (fun k _ e=>Or.inl e))
    exact((t1.trans t2).trans t3).trans t4
   cases c with
   | none =>
     cases hx
     exact⟨_,_,hend,rfl,hfin⟩
   | some cd =>
     cases cd <;> first |(exact hx.elim) |(cases hx;exact⟨_,_,hend,rfl,hfin⟩)
 | _=>exact h.elim
variable {Q:Exit->Act->World->Prop}{a:Act}
theorem Zee{g:Operand}{ps:Array Tmp}{gf n:Nat}{lb:Array Value}(hg:a.eval g=.func (.func gf) #[] lb)(eg:jE gf)
  (h:∀fn,au gf (#[.func (.yield (w.heap.size+1)) #[] #[]]++lb) ((w.alloc (.deferred (some []))).alloc (.loop (eF fn a.tmps ps assign body w.heap.size .ready none)))
   (fun e w2 =>∃v,e=.returned v/\∃st pe,w2.heap[w.heap.size+1]?=some (.loop (eF fn a.tmps ps assign body w.heap.size st pe))/\st≠.busy/\
    match pe with
    | none=>Q .normal { a with defers := { target:=.collected w.heap.size,args:=#[] }::a.defers } (w2.putObj (w.heap.size+1) (.loop (eF fn a.tmps ps assign body w.heap.size .exhausted pe)))
    | some c=>c.wpIn Fence.wide n Tryz.prog Q { a with defers := { target:=.collected w.heap.size,args:=#[] }::a.defers } (w2.putObj (w.heap.size+1) (.loop (eF fn a.tmps ps assign body w.heap.size .exhausted pe))))) :
  (Code.rangeFunc g ps assign body).wpIn Fence.wide n Tryz.prog Q a w:=by
 refine wpIn_rangeFunc ?_;intro fn hfn;rw[show Fence.wide.round=none from rfl];obtain⟨W1,hW1⟩:∃W1,((w.alloc (.deferred (some []))).alloc (.loop (eF fn a.tmps ps assign body w.heap.size .ready none)))=W1:=⟨_,rfl⟩;have h1:=h fn;rw[hW1] at h1;refine⟨w.heap.size+1,[{ target:=.collected w.heap.size,args:=#[] }],W1,{ target:=.fn (.func gf) lb,args:=#[.func (.yield (w.heap.size+1)) #[] #[]] },W1,gf,
  #[.func (.yield (w.heap.size+1)) #[] #[]]++lb,W1,?_,?_,?_,?_,?_,?_⟩
 ·rw[<- hW1];exact run_enterLoop_outer _ _ _ _ _
 ·simp only[resolve,hg];simp[go_sem]
 ·exact fun _ _=>trivial
 ·simp[invoke,go_sem,eg _ _]
 ·intro hh;simp[Fence.wide] at hh
 ·refine callsIn_wide.2 (h1.mono ?_);rintro e w2 ⟨v,rfl,st,pe,h1,h2,h3⟩;refine⟨pe,_,run_endLoop h1 h2,?_⟩
  cases pe with
  | none=>exact h3
  | some c=>exact h3
def rD (l:Nat) (r:LoopState->Option Code->Loop) (c:Option Code) (U:List (Nat×Rs)->aO) (out:List (Nat×Rs)):aO:=if c.isSome=true/\out≠[] then ko l (r .done c) (U out) else ko l (r .ready none) (U out)
def DD (l:Nat) (r:LoopState->Option Code->Loop) (c:Option Code) (cap:Nat) (U:List (Nat×Rs)->aO):jG:=⟨.func (.yield l) #[] #[],c.isSome,if c.isSome then 1 else cap,rD l r c U⟩
theorem TP(l:Nat)(r:LoopState->Option Code->Loop)(U:List (Nat×Rs)->aO)(out:List (Nat×Rs)):rD l r none U out=ko l (r .ready none) (U out):=by simp[rD]
theorem Tm(l:Nat)(r:LoopState->Option Code->Loop)(c:Option Code)(U:List (Nat×Rs)->aO):rD l r c U []=ko l (r .ready none) (U []):=by simp[rD]
variable {out:List (Nat×Rs)}
theorem Zgs(l:Nat)(r:LoopState->Option Code->Loop)(c:Code)(U:List (Nat×Rs)->aO)(h:out≠[]):rD l r (some c) U out=ko l (r .done (some c)) (U out):=by simp[rD,h]
theorem Zpi{cap:Nat}{r:LoopState->Option Code->Loop}{U:List (Nat×Rs)->aO}(hU:∀out,Zs (U out))
  (h:∀(w:World) (F Fr:az) (out:List (Nat×Rs)) (q:Nat) (gv:Value) (gs:Rs),Fb w F->ko l (r .ready none) (U out) w F Fr->fF w F gv gs->gs.length=C.G->q<=C.u.size->out.length<(if c.isSome then 1 else cap)->
   YieldAt Fence.wide 0 Tryz.prog l #[.agg #[.int .i64 (q:Int),gv]] w fun e w'=>e=.returned (.bool c.isNone)/\∃F' aM,ko l (r (if c.isNone then .ready else .done) c) (U (out++[(q,gs)])) w' F' aM/\aJ w F Fr w' F' aM):j5 C (DD l r c cap U):=by
 refine⟨fun out=>?_,l,rfl,?_⟩
 ·show Zs (rD l r c U out);unfold rD
  split <;> exact X3 (hU out)
 ·intro w F Fr out q gv gs aW ht hg hl hq hn;have hn':out.length<(if c.isSome then 1 else cap):=hn;have ht':ko l (r .ready none) (U out) w F Fr:=by
   have:rD l r c U out w F Fr:=ht
   cases c with
   | none=>rw[TP] at this;exact this
   | some c =>
     obtain rfl:out = []:=by
      simp at hn';exact hn'
     rw[Tm] at this;exact this
  refine(h w F Fr out q gv gs aW ht' hg hl hq hn').mono ?_;rintro e w' ⟨rfl,F',aM,g1,g2⟩;refine⟨?_,F',aM,?_,g2⟩
  ·cases c <;> rfl
  ·show rD l r c U (out++[(q,gs)]) w' F' aM
   cases c with
   | none=>rw[TP];exact g1
   | some c=>rw[Zgs _ _ _ _ (by simp)];exact g1
structure ja (C:Cx) (w:World) (F:az) (bg:Value) (X:Xs) (B:Option Bo) (mine:List aO):Prop where
 st:Qg C w F bg (fun p=>bn (X p) Q1) B mine
 nn:fF w F C.nn (eG C.G)
 ok:∀R∈mine,Zs R
variable {F':az}{B:Option Bo}
theorem ja.later{X:Xs}{mine:List aO}(h:ja C w F bg X B mine)(l:aH w F w' F'):ja C w' F' bg X B mine:=⟨h.st.later l,h.nn.later l,h.ok⟩
theorem ZoJ(h:aR C ρ tl T w F Fr)(tv:Value):aR C ρ tv T (w.setCell ⟨C.X,5,none⟩ tv) F Fr/\Za (·=C.X) w (w.setCell ⟨C.X,5,none⟩ tv):=by
 obtain⟨L,hS,hT,hpn,he,hF,hne,hx⟩:=h;have k1:Za (·=C.X) w (w.setCell ⟨C.X,5,none⟩ tv):=(Za.refl (·=C.X) w).setCell (fun _=>rfl) _;have hb:∀k,k≠C.X->(w.setCell ⟨C.X,5,none⟩ tv).heap[k]?=w.heap[k]?:=fun k hk=>Below.heap_setCell _ _ _ _ hk;refine⟨⟨L,hS.EN tv,⟨by rw[hb _ (Ne.symm hne)];exact hT.mp,hT.keys,hT.pz,fun x hx'=>?_,hT.rest,hT.few,hT.apart⟩,hpn,he,hF,hne,hx⟩,k1⟩;unfold Rm;rw[hb _ (hx x hx')];exact hT.room x hx'
theorem Zm8{X:Xs}{mine:List aO}{τ:jG}{Pb:Nat}(hS:ja C w F ρ.bg X B mine)(hA:di w F A 52 ((ae C.X)))(hP:di w F Pb 3 (.int .i64 (p:Int)))(hτ:j5 C τ)(aW:Fb w F)(hR:Zr (aR C ρ tl T::τ.tl out::mine) w F Fr)(hp:p<=C.u.size)(mX:Pre C.u.size (fun p=>bn (X p) Q1) T bq p B)(hno:out.length+ic τ.stop bq (bn (X p) Q1)<=τ.cap):
  au 90 #[τ.tv,ae A,ae Pb] w (fun e w'=>e=.returned (.tuple #[])/\∃T' F' aM,Run C ρ mine τ T' (out++ek τ.stop bq (bn (X p) Q1) (eG C.G)) w' F' aM/\aJ w F Fr w' F' aM/\jH C.u.size T T' (QW τ.stop bq (bn (X p) Q1)) B):=by
 obtain⟨ly,hty,-⟩:=hτ.yl;obtain⟨fn,cap,hfe,hcf,hcall⟩:=hS.st;obtain⟨an,cn,hnn,-⟩:=hS.nn;have dW:Zs (Zr (τ.tl out::mine)):=Xx hτ hS.ok out;obtain⟨F1,F2,dZ⟩:=Zo.1 hR;have GG:Se w C ρ.jn ρ.bg tl:=dZ.one.choose_spec.1;have hX1:F1 C.X:=by obtain⟨L,-,-,-,he,-⟩:=dZ.one;exact(he _).2 (Or.inl rfl)
 have hF1:∀k,F1 k->F k:=fun k hk=>((QA C ρ tl T).lt dZ.one k hk).1;obtain⟨q1,q2⟩:=ZoJ dZ.one τ.tv;have t1:aJ w F F1 (w.setCell ⟨C.X,5,none⟩ τ.tv) F F1:=aJ.same hF1 (q2.mono (fun k _ e=>by subst e;exact hX1));obtain⟨hA2,t2⟩:=dZ.upd (QA C ρ tl T) dW t1 q1;have hR2:Run C ρ mine τ T out (w.setCell ⟨C.X,5,none⟩ τ.tv) F (fun k=>F1 k\/F2 k):=TT hA2;have kd:Za ai (w.setCell ⟨C.X,5,none⟩ τ.tv) (w.setCell ⟨C.X,5,none⟩ τ.tv).drew:=(Za.refl _ _).drew;obtain⟨gB,t3⟩:=Ql hτ hS.ok hR2 kd;have eX:∀k,Fr k->F k:=fun k hk=>((dZ.all k).1 hk).elim (hF1 k) (fun h=>(dW.lt dZ.two k h).1);have t13:=t2.trans t3;have VC:aH w F (w.setCell ⟨C.X,5,none⟩ τ.tv).drew F:=t13.dm eX;have iA:Fb (w.setCell ⟨C.X,5,none⟩ τ.tv).drew F:=aW.vk t13 (fun k hk=>((DL hτ hS.ok ρ T out).lt gB k hk).2);have hst:=hcall _ F VC iA ρ mine τ T bq out _ p C.nn (eG C.G) hS.ok (fun _ h=>h) hτ gB (hS.nn.later VC) (by simp[eG]) hp mX hno;rw[hnn] at hst;rw[hfe] at GG;rw[hty] at hst ⊢;refine Zp2 (P:=Pb) (p:=p) GG hnn hA.cell hP.cell (fun e=>hA.2 (e ▸ hF1 _ hX1)) (fun e=>hP.2 (e ▸ hF1 _ hX1)) hcf (hst.mono ?_);rintro e w2 ⟨rfl,T',F',aM,g1,g2,g3⟩;have t:=t13.trans (by rw[hty];exact g2);have l2:=t.dm eX;have hS2:=Qu g1;have c4:=hS2.c4;rw[hfe] at c4;have c1:=hS2.c1;rw[hnn] at c1;exact⟨_,rfl,⟨rfl,T',F',aM,g1,t,g3⟩,(hA.later l2).cell,(hP.later l2).cell,c1,c4⟩
theorem Ya(L:En):bn L Q1=L.map fun e=>(e.1,ap e.2):=by
 unfold bn Q1 pr
 induction L with
 | nil=>rfl
 | cons a L ih=>rw[List.flatMap_cons,ih];rfl
theorem Zhm(L:En):(bn L Q1).map (·.1)=L.map (·.1):=by rw[Ya,List.map_map];rfl
theorem SK{X:Xs}(h:dh N lo hi X)(hp:p<=N):dd bq (bn (X p) Q1)=(X p).map fun e=>(e.1,ap e.2):=by
 rw[XG (by rw[Zhm];exact(h p hp).1) (fun _ _=>rfl),Ya]
theorem Zlb{X:Xs}(h:dh N lo hi X)(hp:p<=N)(g:Rs):ek false bq (bn (X p) Q1) g=(X p).map fun e=>(e.1,ap e.2 g):=by
 unfold ek;rw[SK h hp,List.map_map];rfl
theorem ZjE{X:Xs}(h:dh N lo hi X)(hp:p<=N)(g:Rs):ek true bq (bn (X p) Q1) g=((X p).map fun e=>(e.1,ap e.2 g)).take 1:=by
 unfold ek;rw[SK h hp,List.map_map];rfl
theorem Zma:∀(N:Nat) (L:List Nat),L.Nodup->(∀x∈L,x<N)->L.length<=N:=by
 intro N
 induction N with
 | zero =>
   intro L _ hx
   cases L with
   | nil=>simp
   | cons a l=>have:=hx a (by simp);omega
 | succ N ih =>
   intro L hn hx;have h1:=ih (L.erase N) (hn.erase N) (fun x h=>by
    have h2:=(hn.mem_erase_iff).1 h
    have:=hx x h2.2
    have:=h2.1
    omega)
   have h3:L.length<=(L.erase N).length+1:=by rw[List.length_erase];split <;> omega
   omega
theorem SE{X:Xs}(h:dh N lo hi X)(hp:p<=N):(X p).length<=N+1:=by
 have:=Zma (N+1) ((X p).map (·.1)) (h p hp).1 (fun x hx=>by
  obtain⟨e,he,rfl⟩:=List.mem_map.1 hx
  have:=((h p hp).2 e he).2.1
  omega)
 simpa using this
theorem Zou{X:Xs}(h:dh N lo hi X)(hp:p<=N)(stop:Bool):ic stop bq (bn (X p) Q1)<=N+1:=by
 refine Nat.le_trans (Ztn _ _ _) ?_;rw[SK h hp,List.length_map];exact SE h hp
variable {W:Wt}
theorem X8:Pre N W iP bq p B:=by
 cases B with
 | none=>exact fun _ _=>rfl
 | some b=>exact⟨fun p hp=>⟨fun h=>absurd rfl h,fun _ _ _=>rfl⟩,fun x hx n p hp h=>absurd rfl h⟩
def iB (N:Nat) (T:Tt):Option Bo->Prop
 | none=>True
 | some b=>ky N b T bq
theorem iB.pre(h:iB N T B)(W:Wt)(p:Nat):Pre N W T bq p B:=by
 cases B with
 | none=>exact fun _ _=>rfl
 | some b=>exact h
theorem iB.no:iB N iP B:=by
 cases B with
 | none=>trivial
 | some b=>exact X8 (W:=fun _ => []) (p:=0) (B:=some b)
variable {T':Tt}{L:Wn}
theorem iB.post(h:jH N T T' (QW true bq L) B):iB N T' B:=by
 cases B with
 | none=>trivial
 | some b =>
   have e:QW true bq L=bq:=by
    unfold QW
    split
    ·rename_i hc
     have:dd bq L = []:=by simpa [JI] using hc
     rw[<- zu,this,Q9]
    ·rfl
   have:=h.1
   rw[e] at this;exact this
theorem Bo.le_refl(b:Bo):b.le b:=⟨rfl,rfl,fun _ h=>h,fun _ h=>Or.inl h⟩
variable {b:Bo}
theorem Bo.zS{c:Bo}(h:b.le c)(hj:b.has j):c.has j:=by
 rcases hj with h1 | ⟨x,hx,h1⟩
 ·exact Or.inl (h1.trans h.j0.symm)
 ·exact Or.inr ⟨x,h.js x hx,h1⟩
theorem Bo.le_trans{c d:Bo}(h:b.le c)(h2:c.le d):b.le d :=
 ⟨h2.j0.trans h.j0,h2.W0.trans h.W0,fun x hx=>h2.js x (h.js x hx),fun x hx=>by
  rcases h2.new x hx with h3 | h3
  ·exact h.new x h3
  ·exact Or.inr fun h4=>h3 (Bo.zS h h4)⟩
def rZ (k:Nat) (B:Option Bo):Prop :=∀b,B=some b->∀j,b.has j->j<=k
theorem rZ.mono{k k':Nat}(h:rZ k B)(hk:k<=k'):rZ k' B:=fun b hb j hj=>Nat.le_trans (h b hb j hj) hk
theorem rZ.nw{k:Nat}(h:rZ k B):Nw (k+1) B:=fun b hb hj=>by have:=h b hb _ hj;omega
def vg (B B':Option Bo):Prop :=∀b,B=some b->∃b',B'=some b'/\b.le b'
theorem vg.refl(B:Option Bo):vg B B:=fun b hb=>⟨b,hb,b.le_refl⟩
theorem vg.trans{A D:Option Bo}(h:vg A B)(h2:vg B D):vg A D:=fun b hb=>by
 obtain⟨c,hc,l1⟩:=h b hb;obtain⟨d,hd,l2⟩:=h2 c hc;exact⟨d,hd,Bo.le_trans l1 l2⟩
theorem Zeh{k:Nat}(h:rZ k B):rZ (k+1) (some (QB (k+1) W B)):=by
 intro b hb j hj
 cases hb
 cases B with
 | none =>
   rcases hj with h1 | ⟨x,hx,h1⟩
   ·exact Nat.le_of_eq h1
   ·simp[QB] at hx
 | some b =>
   rcases hj with h1 | ⟨x,hx,h1⟩
   ·have:=h b rfl j (Or.inl h1);omega
   ·rcases List.mem_cons.1 hx with rfl | hx
    ·exact Nat.le_of_eq h1.symm
    ·have:=h b rfl j (Or.inr ⟨x,hx,h1⟩);omega
theorem Zei{k:Nat}(h:rZ k B):vg B (some (QB (k+1) W B)):=by
 intro b hb;subst hb;refine⟨_,rfl,rfl,rfl,fun x hx=>List.mem_cons.2 (Or.inr hx),fun x hx=>?_⟩
 rcases List.mem_cons.1 hx with rfl | hx
 ·exact Or.inr (h.nw b rfl)
 ·exact Or.inl hx
variable {r:Rp}
theorem ZoW{X:Xs}(h:¬b.has j):b.le (om N j X r W b) :=
 ⟨rfl,rfl,fun x hx=>List.mem_cons.2 (Or.inr hx),fun x hx=>by
  rcases List.mem_cons.1 hx with rfl | hx
  ·exact Or.inr h
  ·exact Or.inl hx⟩
theorem ZlG{k:Nat}{X:Xs}(h:rZ k (some b)):rZ (k+1) (some (om N (k+1) X r W b)):=by
 intro c hc j hj
 cases hc
 rcases hj with h1 | ⟨x,hx,h1⟩
 ·have:=h b rfl j (Or.inl h1);omega
 ·rcases List.mem_cons.1 hx with rfl | hx
  ·exact Nat.le_of_eq h1.symm
  ·have:=h b rfl j (Or.inr ⟨x,hx,h1⟩);omega
variable {W':Wt}
theorem Qg.Hr{fv:Value}{mine:List aO}(h:Qg C w F fv W B mine)(hW:∀p,p<=C.u.size->gV (W p) (W' p)):Qg C w F fv W' B mine:=by
 cases B with
 | some b=>exact h.uO hW
 | none =>
   obtain⟨fn,cap,h1,h2,h3⟩:=h;refine⟨fn,cap,h1,h2,fun w2 F2 l2 hb2 ρ ats τ T V out Fr p gv gs ha hm hτ hR hg hl hp hP hn=>?_⟩;have hP':Pre C.u.size W T V p none:=by
    intro y hy;have h5:bI bq (W p) y.1=true:=yn hy;rw[(hW p hp).bI] at h5
    rcases LW.1 h5 with h6 | ⟨z,hz,h6⟩
    ·simp[bq] at h6
    ·rw[<- h6];exact hP z hz
   refine(h3 w2 F2 l2 hb2 ρ ats τ T V out Fr p gv gs ha hm hτ hR hg hl hp hP' (by rw[YJ (hW p hp)];exact hn)).mono ?_;rintro e w' ⟨rfl,T',F',aM,g1,g2,g3⟩;refine⟨by rw[Tf (hW p hp)],T',F',aM,?_,g2,?_⟩
   ·rw[Zit (hW p hp)] at g1;exact g1
   ·rw[Zga (hW p hp)] at g3;exact g3
theorem ZeK{M:Wn}(h:gV L M){y:Nat×Tr}(hy:y∈L):∃z∈M,z.1=y.1:=by
 have h5:bI bq L y.1=true:=yn hy;rw[h.bI] at h5
 rcases LW.1 h5 with h6 | ⟨z,hz,h6⟩
 ·simp[bq] at h6
 ·exact⟨z,hz,h6⟩
theorem nJ.uO(h:nJ N W)(hW:∀p,p<=N->gV (W p) (W' p)):nJ N W':=by
 intro p q hp hq y hy z hz e;obtain⟨y1,hy1,e1⟩:=ZeK (hW p hp).symm hy;obtain⟨z1,hz1,e2⟩:=ZeK (hW q hq).symm hz;exact h p q hp hq y1 hy1 z1 hz1 (by rw[e1,e2,e])
theorem Zpx:nJ N Q1:=by
 intro p q hp hq y hy z hz e;simp[Q1] at hy hz;subst hy hz;exact e
theorem Zpz{u:ByteArray}{S:Bs}(h:nJ u.size W)(hb:∀p,uR u S p=true->p<u.size):nJ u.size (xU u S W):=by
 intro p q hp hq y hy z hz e;unfold xU at hy hz
 split at hy
 ·rename_i h1
  split at hz
  ·rename_i h2
   have:=h (p+1) (q+1) (by have:=hb p h1;omega) (by have:=hb q h2;omega) y hy z hz e
   omega
  ·simp at hz
 ·simp at hy
theorem Zpy{k:Nat}(h:nJ N W):nJ N (x8 k W):=by
 intro p q hp hq y hy z hz e;unfold x8 at hy hz
 split at hy
 ·split at hz
  ·exact h p q hp hq y hy z hz e
  ·simp at hz
 ·simp at hy
theorem XZ{t:Nat->Tr}(h:nJ N W):nJ N (fun p=>pr (t p) (W p)):=by
 intro p q hp hq y hy z hz e;obtain⟨y1,hy1,rfl⟩:=List.mem_map.1 hy;obtain⟨z1,hz1,rfl⟩:=List.mem_map.1 hz;exact h p q hp hq y1 hy1 z1 hz1 e
theorem TB(u:ByteArray):∀(fs:List Pf) (pre:List Pc),(gY u pre fs).length=fs.length:=by
 intro fs
 induction fs with
 | nil=>intro pre;rfl
 | cons f fs ih=>intro pre;simp[gY,ih]
theorem Ziz(u:ByteArray):∀(fs:List Pf) (pre:List Pc) (i:Nat) (h:i<fs.length) (h2:i<(gY u pre fs).length),(gY u pre fs)[i]=dx u (pre++cat (fs.take i) pre.length) fs[i]:=by
 intro fs
 induction fs with
 | nil=>intro pre i h;simp at h
 | cons f fs ih =>
   intro pre i h h2
   cases i with
   | zero=>simp[gY,cat]
   | succ i =>
     simp only[gY,List.getElem_cons_succ,List.take_succ_cons,cat];rw[ih (pre++f pre.length) i (by simpa using h)];simp
theorem Yr:∀(fs:List Pf) (n i:Nat) (h:i<fs.length),uZ lo hi n fs->Fp lo hi (n+(cat (fs.take i) n).length) (fs[i] (n+(cat (fs.take i) n).length)):=by
 intro fs
 induction fs with
 | nil=>intro n i h;simp at h
 | cons f fs ih =>
   intro n i h hF
   cases i with
   | zero=>simpa [cat] using hF.1
   | succ i =>
     have:=ih (n+(f n).length) i (by simpa using h) hF.2
     simpa [cat,Nat.add_assoc] using this
theorem ZgR(fs:List Pf)(n i:Nat)(h:i<fs.length):(cat (fs.take (i+1)) n).length=(cat (fs.take i) n).length+(fs[i] (n+(cat (fs.take i) n).length)).length:=by
 induction fs generalizing n i with
 | nil=>simp at h
 | cons f fs ih =>
   cases i with
   | zero=>simp[cat]
   | succ i =>
     have:=ih (n+(f n).length) i (by simpa using h)
     simp only[List.take_succ_cons,cat,List.length_append,List.getElem_cons_succ] at this ⊢;rw[this];simp[Nat.add_assoc]
theorem Zqk(l:List Xs)(W:Wt)(i:Nat)(h:i<l.length)(p:Nat):uL (l.drop i) W p=bn (l[i] p) (uL (l.drop (i+1)) W):=by
 rw[List.drop_eq_getElem_cons h];rfl
theorem Zhl(S:Bs)(n:Nat):(∀r∈Zw S n,r.1<=r.2/\r.2<(n:Int))/\∀x:Nat,(∃r∈Zw S n,r.1<=(x:Int)/\(x:Int)<=r.2)↔(x<n/\S x=true):=by
 induction n with
 | zero=>simp[Zw]
 | succ b ih =>
   obtain⟨h1,h2⟩:=ih
   cases hS:S b with
   | false =>
     have e:Zw S (b+1)=Zw S b:=by rw[Zw];simp[hS]
     rw[e];refine⟨fun r hr=>by have:=h1 r hr;omega,fun x=>?_⟩;rw[h2 x];constructor
     ·rintro⟨a,c⟩;exact⟨by omega,c⟩
     ·rintro⟨a,c⟩;refine⟨?_,c⟩
      rcases Nat.lt_succ_iff_lt_or_eq.mp a with h | h
      ·exact h
      ·subst h;rw[hS] at c;simp at c
   | true =>
     rcases List.eq_nil_or_concat (Zw S b) with hL | ⟨A,r,hL⟩
     ·have e:Zw S (b+1) = [((b:Int),(b:Int))]:=by rw[Zw];simp[hS,hL]
      rw[e];rw[hL] at h2;refine⟨by simp;omega,fun x=>?_⟩;have h3:=h2 x;simp at h3;constructor
      ·rintro⟨r,hr,ha,hb⟩;simp at hr;subst hr;simp at ha hb
       have:x=b:=by omega
       subst this;exact⟨by omega,hS⟩
      ·rintro⟨ha,hb⟩;refine⟨_,List.mem_singleton.2 rfl,?_⟩
       rcases Nat.lt_succ_iff_lt_or_eq.mp ha with h | h
       ·exact absurd hb (by simp[h3 h])
       ·subst h;simp
     ·rw[List.concat_eq_append] at hL;rw[hL] at h1 h2;have hr:=h1 r (by simp);have hlast:(Zw S b).getLast?=some r:=by rw[hL];simp
      by_cases hq:r.2=(b:Int)-1
      ·have e:Zw S (b+1)=A++[(r.1,(b:Int))]:=by
        rw[Zw,if_pos hS,hlast];simp only;rw[if_pos hq,hL];simp
       rw[e];constructor
       ·intro z hz
        rcases List.mem_append.1 hz with hz | hz
        ·have:=h1 z (by simp[hz]);omega
        ·simp at hz;subst hz;simp;omega
       ·intro x;have h3:=h2 x;constructor
        ·rintro⟨z,hz,ha,hb⟩
         rcases List.mem_append.1 hz with hz | hz
         ·have:=h3.1 ⟨z,by simp[hz],ha,hb⟩;exact⟨by omega,this.2⟩
         ·simp at hz;subst hz;simp at ha hb
          by_cases hx:x=b
          ·subst hx;exact⟨by omega,hS⟩
          ·have:=h3.1 ⟨r,by simp,ha,by omega⟩;exact⟨by omega,this.2⟩
        ·rintro⟨ha,hb⟩
         by_cases hx:x=b
         ·subst hx;exact⟨_,List.mem_append.2 (Or.inr (List.mem_singleton.2 rfl)),by simp;omega,by simp⟩
         ·obtain⟨z,hz,h4,h5⟩:=h3.2 ⟨by omega,hb⟩
          rcases List.mem_append.1 hz with hz | hz
          ·exact⟨z,List.mem_append.2 (Or.inl hz),h4,h5⟩
          ·simp at hz;subst hz;exact⟨_,List.mem_append.2 (Or.inr (List.mem_singleton.2 rfl)),h4,by simp;omega⟩
      ·have e:Zw S (b+1)=(A++[r])++[((b:Int),(b:Int))]:=by
        rw[Zw,if_pos hS,hlast];simp only;rw[if_neg hq,hL]
       rw[e];constructor
       ·intro z hz
        rcases List.mem_append.1 hz with hz | hz
        ·have:=h1 z hz;omega
        ·simp at hz;subst hz;simp;omega
       ·intro x;have h3:=h2 x;constructor
        ·rintro⟨z,hz,ha,hb⟩
         rcases List.mem_append.1 hz with hz | hz
         ·have:=h3.1 ⟨z,hz,ha,hb⟩;exact⟨by omega,this.2⟩
         ·simp at hz;subst hz;simp at ha hb
          have:x=b:=by omega
          subst this;exact⟨by omega,hS⟩
        ·rintro⟨ha,hb⟩
         by_cases hx:x=b
         ·subst hx;exact⟨_,List.mem_append.2 (Or.inr (List.mem_singleton.2 rfl)),by simp⟩
         ·obtain⟨z,hz,h4,h5⟩:=h3.2 ⟨by omega,hb⟩;exact⟨z,List.mem_append.2 (Or.inl hz),h4,h5⟩
theorem Zkd(S:Bs)(b:Nat)(hb:b<256):jd (Ja S) (b:Int)=S b:=by
 have h:=(Zhl S 256).2 b;rw[Bool.eq_iff_iff];unfold jd;rw[List.any_eq_true];constructor
 ·rintro⟨r,hr,h1⟩;simp at h1;exact(h.1 ⟨r,hr,h1.1,h1.2⟩).2
 ·intro h1;obtain⟨r,hr,h2,h3⟩:=h.2 ⟨hb,h1⟩;exact⟨r,hr,by simp[h2,h3]⟩
theorem Zjf(u:ByteArray)(S:Bs)(W:Wt)(pre:List Pc)(p:Nat):xU u S W p=bn (dx u pre (Qy S) p) W:=by
 rw[YH];unfold xU zg uR;have e:(decide (p<u.size) && S (bt u p))=(decide (p<u.size) && jd (Ja S) (bt u p)):=by
  by_cases hp:p<u.size
  ·rw[Zkd S _ (Jh hp)]
  ·simp[hp]
 rw[e]
 split
 ·rw[Lt]
 ·rw[XP]
theorem ZiN(k:Nat)(W:Wt)(p:Nat):x8 k W p=bn (pF k p) W:=by
 unfold x8 pF
 split
 ·rw[Lt]
 ·rw[XP]
structure ZR (C:Cx) (bg tl:Value) (mine:List aO) (k:Nat) (nx:Value) (W:Wt) (B:Option Bo) (w:World) (F Fr:az):Prop where
 fb:Fb w F
 ok:∀R∈mine,Zs R
 res:Zr (aR C ⟨(k:Int),bg,[]⟩ tl iP::mine) w F Fr
 st:Qg C w F nx W B mine
 lid:rZ k B
 inj:B=none->nJ C.u.size W
 nn:fF w F C.nn (eG C.G)
def Qq (C:Cx) (bg tl:Value) (mine:List aO) (k n:Nat) (W':Wt) (B:Option Bo) (w:World) (F Fr:az) (e:Ending) (w':World):Prop :=
 ∃(fv:Value) (B':Option Bo) (new:List aO) (k':Nat) (F' aM:az),e=.returned fv/\ZR C bg tl (new++mine) k' fv W' B' w' F' aM/\aJ w F Fr w' F' aM/\k<=k'/\k'<=k+n/\vg B B'
variable {C:Cx}{bg tl:Value}{mine:List aO}{k n:Nat}{nx fv:Value}{W W':Wt}{B B':Option Bo}{w w1:World}{F Fr:az}{e:Ending}
theorem ZR.fZ(h:ZR C bg tl mine k nx W B w F Fr):Zs (Zr (aR C ⟨(k:Int),bg,[]⟩ tl iP::mine)):=pK h.ok _ _ _ _
theorem ZR.dP(h:ZR C bg tl mine k nx W B w F Fr):∀i,Fr i->F i:=fun i hi=>(h.fZ.lt h.res i hi).1
theorem ZR.se(h:ZR C bg tl mine k nx W B w F Fr):Se w C (k:Int) bg tl:=by
 obtain⟨F1,F2,h⟩:=Zo.1 h.res;exact h.one.choose_spec.1
theorem ZR.VP(h:ZR C bg tl mine k nx W B w F Fr):Fr C.X/\F C.X:=by
 have h2:=h.dP;obtain⟨F1,F2,h⟩:=Zo.1 h.res;obtain⟨L,-,-,-,he,-⟩:=h.one
 have:Fr C.X:=(h.all _).2 (Or.inl ((he _).2 (Or.inl rfl)))
 exact⟨this,h2 _ this⟩
theorem ZR.same(h:ZR C bg tl mine k nx W B w F Fr)(k1:Za ai w w1):ZR C bg tl mine k nx W B w1 F Fr/\aJ w F Fr w1 F Fr :=
 ⟨⟨h.fb.keeps k1,h.ok,h.fZ.frame h.res (aH.ay k1) h.dP (fun i hi=>k1.block i (h.fZ.lt h.res i hi).2 id),h.st.later (aH.ay k1),h.lid,h.inj,h.nn.later (aH.ay k1)⟩,aJ.ay h.dP k1⟩
theorem ZR.give(h:ZR C bg tl mine k nx W B w F Fr)(k1:Za ai w w1)(hs:Qg C w1 F fv W' B mine)(hi:B=none->nJ C.u.size W'):Qq C bg tl mine k n W' B w F Fr (.returned fv) w1:=by
 obtain⟨h1,t1⟩:=h.same k1;exact⟨fv,B,[],k,F,Fr,rfl,⟨h1.fb,h1.ok,h1.res,hs,h1.lid,hi,h1.nn⟩,t1,Nat.le_refl _,by omega,vg.refl _⟩
theorem Qq.uO(h:Qq C bg tl mine k n W B w F Fr e w1)(hW:∀p,p<=C.u.size->gV (W p) (W' p)):Qq C bg tl mine k n W' B w F Fr e w1:=by
 obtain⟨fv,B',new,k',F',aM,h1,h2,h3,h4,h5,h6⟩:=h;exact⟨fv,B',new,k',F',aM,h1,⟨h2.fb,h2.ok,h2.res,h2.st.Hr hW,h2.lid,fun h=>(h2.inj h).uO hW,h2.nn⟩,h3,h4,h5,h6⟩
def yc (w0:World) (F0:az) (v:Value) (f:Pf):Prop :=
 ∀ (pre:List Pc) (lo hi:Nat) (C:Cx) (w:World) (F Fr:az) (bg tl:Value) (mine:List aO) (k:Nat) (nx:Value) (W:Wt) (B:Option Bo),
   aH w0 F0 w F->ZR C bg tl mine k nx W B w F Fr->Fp lo hi pre.length (f pre.length)->hi<=C.G->C.G<=9->C.u.size<=200->k+2*(f pre.length).length<=100000->
   au 58 #[ae C.X,v,nx] w (Qq C bg tl mine k (2*(f pre.length).length) (fun p=>bn (dx C.u pre f p) W) B w F Fr)
theorem JW{P:Program}{Fe:Fence}{n:Nat}{w:World}{ops:Array Oper}{rest:List Oper}{o:Oper}(hgd:o.guard=none)(s x:Operand)(t ty:TypeId)
  (ho:o.op=.call { callee:=.builtin .append,args:=#[s,x],argTypes:=#[t,t] }) (hty:o.type=ty) (v y v':Value) (w':World) (hs:a.eval s=v) (hx:a.eval x=y)
  (hr:Sem.run P (Builtin.append_ #[t,t] ty #[v,y]) w=.ok v' w') (h:wpListIn Fe n P ops Q rest (a.put o.dst v') w'):wpListIn Fe n P ops Q (o::rest) a w:=by
 refine wpListIn_plain hgd fun K hK'=>?_;unfold Oper.wpIn;refine⟨?_,?_⟩
 ·simp[Oper.about,ho,resolve,Target.leads,Sem.run_pure]
 ·rw[Oper.semAt_plain Fe _ _ (by rw[ho];intro c hc';cases hc')];simp[execOp,ho,hty,resolve,invoke,builtin,hs,hx,hr,Result.andThen];exact hK' _ _ h
def l9 (D:Nat):aO:=fun w F Fr=>(∀k,Fr k↔k=D)/\F D/\w.heap[D]?=some (.deferred (some []))
theorem QO(D:Nat):Zs (l9 D):=by
 refine⟨?_,?_⟩
 ·rintro w F Fr ⟨he,hF,hD⟩ k hk;obtain rfl:=(he k).1 hk;exact⟨hF,(Array.getElem?_eq_some_iff.1 hD).1⟩
 ·rintro w w' F F' Fr ⟨he,hF,hD⟩ l hF' hk;exact⟨he,hF' D ((he D).2 rfl),by rw[hk D ((he D).2 rfl)];exact hD⟩
variable {R:aO}
theorem QU{Q:aO}{w:World}{F Fr:az}:Zr [R,Q] w F Fr↔∃F1 F2,iW R Q w F Fr F1 F2:=by
 constructor
 ·rintro⟨F1,F2,h1,h2,h3,F3,F4,h4,h5,h6,h7⟩;obtain rfl:F2=F3:=funext fun k=>propext ⟨fun h=>((h4 k).1 h).elim id (fun h=>absurd h (h7 k)),fun h=>(h4 k).2 (Or.inl h)⟩;exact⟨F1,F2,h1,h2,h3,h6⟩
 ·rintro⟨F1,F2,h⟩;exact⟨F1,F2,h.all,h.fe,h.one,F2,fun _=>False,fun k=>by simp,fun _ _ h=>h,h.two,fun _ h=>h⟩
theorem ME{l:List aO}{w:World}{F Fr:az}{b:Nat}(hl:Zs (Zr l))(h:Zr l w F Fr)(hb:¬Fr b)(hF:F b)(hR:R w F (·=b)):Zr (R::l) w F (fun k=>k=b\/Fr k) :=
 ⟨fun k=>k=b,Fr,fun k=>Iff.rfl,fun k e h=>hb (e ▸ h),hR,h⟩
theorem Zy{Q:aO}{l:List aO}{w:World}{F Fr:az}(h:Zr (R::Q::l) w F Fr):Zr (Q::R::l) w F Fr:=Us h
def vB (D:Nat) (U:List (Nat×Rs)->aO) (out:List (Nat×Rs)):aO:=Zr [l9 D,U out]
theorem Ie{U:List (Nat×Rs)->aO}(hU:∀out,Zs (U out))(out:List (Nat×Rs)):Zs (vB D U out) :=
 ZT (fun R hR=>by
  rcases List.mem_cons.1 hR with rfl | hR
  ·exact QO D
  ·rcases List.mem_cons.1 hR with rfl | hR
   ·exact hU out
   ·simp at hR)
def XK (C:Cx) (tmps:Array Value) (ps:Array Tmp) (assign body:Code) (c:Option Code) (cap:Nat) (U:List (Nat×Rs)->aO):Prop :=
 ∀ (l:Nat) (w1:World) (F1 Fu:az) (out:List (Nat×Rs)) (q:Nat) (gv:Value) (gs:Rs),Fb w1 F1->U out w1 F1 Fu->fF w1 F1 gv gs->gs.length=C.G->q<=C.u.size->out.length<cap->F1 l->l<w1.heap.size->¬Fu l->
   ∃ Ax:Act->World->Prop,assign.wpIn (Fence.wide.inRound l) 0 Tryz.prog (Exit.then (fun a1 w2=>Za ai w1 w2/\Ax a1 w2) (fun _ _ _=>False)) { tmps:=(ps.zip #[.agg #[.int .i64 (q:Int),gv]]).foldl (fun t (p,v)=>t.setIfInBounds p v) tmps,defers := [] } w1/\
     ∀ (a1:Act) (w2 w3:World),Za ai w1 w2->Ax a1 w2->Za (·=l) w2 w3->U out w3 F1 Fu->
       body.wpIn (Fence.wide.inRound l) 0 Tryz.prog (fun e a3 w4=>xS c e/\∃F4 gZ,U (out++[(q,gs)]) w4 F4 gZ/\aJ w3 F1 Fu w4 F4 gZ) a1 w3
theorem Zo1{C:Cx}{cap:Nat}{ps:Array Tmp}{U:List (Nat×Rs)->aO}(hU:∀out,Zs (U out))(hps:ps.size=1)(h:XK C tmps ps assign body c (if c.isSome then 1 else cap) U):
  j5 C (DD l (eF fn tmps ps assign body D) c cap (vB D U)):=by
 refine Zpi (fun out=>Ie hU out) ?_;intro w F Fr out q gv gs aW hw hg hl hq hn;obtain⟨Vm,he0,hn0,eX,hl0,GD⟩:=id hw;have hlt:l<w.heap.size:=(Array.getElem?_eq_some_iff.1 hl0).1;obtain⟨Fa,Fu,hA⟩:=QU.1 GD;have hnu:¬Fu l:=fun h=>hn0 ((hA.all l).2 (Or.inr h));obtain⟨Ax,h1,h2⟩:=h l w F Fu out q gv gs aW hA.two hg hl hq hn eX hlt hnu;refine Zdk (U:=vB D U out) (U':=vB D U (out++[(q,gs)])) (Ax:=Ax) (Ie hU out) (Ie hU _) (by simp[hps]) he0 hn0 eX hl0 GD h1 ?_;intro a1 w1 w2 k1 hx k2 hUv;have hlat:aH w F w2 F:=(aH.ay k1).trans ⟨k2.mono (fun k _ e=>e ▸ eX),fun k h=>Or.inl h⟩;have hsame:∀k,k<w.heap.size->k≠l->w2.heap[k]?=w.heap[k]?:=fun k hk hne=>by
  rw[k2.block k (Nat.lt_of_lt_of_le hk k1.size) hne,k1.block k hk id]
 have GA:U out w2 F Fu:=(hU out).frame hA.two hlat (fun k hk=>((hU out).lt hA.two k hk).1) (fun k hk=>hsame k ((hU out).lt hA.two k hk).2 (fun e=>hnu (e ▸ hk)));have hD2:l9 D w2 F Fa:=(QO D).frame hA.one hlat (fun k hk=>((QO D).lt hA.one k hk).1) (fun k hk=>hsame k ((QO D).lt hA.one k hk).2 (fun e=>hn0 (e ▸ (hA.all k).2 (Or.inl hk))));have hA2:iW (U out) (l9 D) w2 F Vm Fu Fa:=⟨fun k=>(hA.all k).trans Or.comm,fun k h1 h2=>hA.fe k h2 h1,GA,hD2⟩;refine wpIn_mono (h2 a1 w1 w2 k1 hx k2 GA) ?_;rintro e a3 w4 ⟨hex,F4,gZ,g1,g2⟩;obtain⟨p1,p2⟩:=hA2.upd (hU out) (QO D) g2 g1;exact⟨hex,F4,_,QU.2 ⟨_,_,p1.swap⟩,p2⟩
theorem Zef{g:Operand}{ps:Array Tmp}{w:World}{n cap:Nat}{C:Cx}{X:Xs}{B:Option Bo}{mine:List aO}{tl:Value}{F Fr:az}{Pb:Nat}{U:List (Nat×Rs)->aO}
  (hU:∀out,Zs (U out)) (hps:ps.size=1) (je:XK C a.tmps ps assign body c (if c.isSome then 1 else cap) U)
  (hg:a.eval g=.func (.func 90) #[] #[ae A,ae Pb])
  (hS:ja C w F ρ.bg X B mine) (hA:di w F A 52 ((ae C.X))) (hP:di w F Pb 3 (.int .i64 (p:Int))) (aW:Fb w F) (hR:Zr (aR C ρ tl T::U []::mine) w F Fr) (hp:p<=C.u.size) (mX:Pre C.u.size (fun p=>bn (X p) Q1) T bq p B) (hno:ic c.isSome bq (bn (X p) Q1)<=if c.isSome then 1 else cap)
  (hdone:∀(D:Nat) (out:List (Nat×Rs)) (T':Tt) (tv:Value) (w2:World) (F2 bf:az),out=ek c.isSome bq (bn (X p) Q1) (eG C.G)->Zr (aR C ρ tv T'::l9 D::U out::mine) w2 F2 bf->aJ w F Fr w2 F2 bf->w.heap.size<=D->jH C.u.size T T' (QW c.isSome bq (bn (X p) Q1)) B->
   match (if out = [] then none else c) with
   | none=>Q .normal { a with defers := { target:=.collected D,args:=#[] }::a.defers } w2
   | some c=>c.wpIn Fence.wide n Tryz.prog Q { a with defers := { target:=.collected D,args:=#[] }::a.defers } w2) :
  (Code.rangeFunc g ps assign body).wpIn Fence.wide n Tryz.prog Q a w:=by
 refine Zee hg (fun _ _=>by kernel_rfl) ?_;intro fn;have Pw:∀R∈(aR C ρ tl T::U []::mine),Zs R:=by
  intro R hR
  rcases List.mem_cons.1 hR with rfl | hR
  ·exact QA _ _ _ _
  ·rcases List.mem_cons.1 hR with rfl | hR
   ·exact hU []
   ·exact hS.ok R hR
 have uB:=ZT Pw;have iY:∀k,Fr k->F k/\k<w.heap.size:=uB.lt hR;generalize hW1:((w.alloc (.deferred (some []))).alloc (.loop (eF fn a.tmps ps assign body w.heap.size .ready none)))=W1;have k1:Za ai w W1:=by rw[<- hW1];exact((Za.refl _ w).alloc _).alloc _
 have bD:W1.heap[w.heap.size]?=some (.deferred (some [])):=by rw[<- hW1];exact fU w _ _
 have bL:W1.heap[w.heap.size+1]?=some (.loop (eF fn a.tmps ps assign body w.heap.size .ready none)):=by rw[<- hW1];exact gH w _ _
 obtain⟨F1,hF1⟩:∃F1:az,F1=fun k=>F k\/k=w.heap.size\/k=w.heap.size+1:=⟨_,rfl⟩;have l1:aH w F W1 F1:=⟨k1.mono (fun _ _ h=>h.elim),fun k hk=>by rw[hF1] at hk;rcases hk with h | h | h;exact Or.inl h;exact Or.inr (by omega);exact Or.inr (by omega)⟩;have aK:Zr (aR C ρ tl T::U []::mine) W1 F1 Fr:=uB.frame hR l1 (fun k hk=>by rw[hF1];exact Or.inl (iY k hk).1) (fun k hk=>k1.block k (iY k hk).2 id);have OL:w.heap.size+1<W1.heap.size:=(Array.getElem?_eq_some_iff.1 bL).1;have eQ:Fb W1 F1:=fun k hk=>by
  rw[hF1] at hk
  rcases hk with h | h | h
  ·exact Nat.lt_of_lt_of_le (aW k h) k1.size
  ·omega
  ·omega
 have hτ:j5 C (DD (w.heap.size+1) (eF fn a.tmps ps assign body w.heap.size) c cap (vB w.heap.size U)):=Zo1 hU hps je;obtain⟨G1,G2,dZ⟩:=Zo.1 (Zy aK);have jl:∀k,Fr k↔G1 k\/G2 k:=dZ.all;have hbig:∀k,Fr k->k<w.heap.size:=fun k hk=>(iY k hk).2;have htl:rD (w.heap.size+1) (eF fn a.tmps ps assign body w.heap.size) c (vB w.heap.size U) [] W1 F1 (fun k=>k=w.heap.size+1\/k=w.heap.size\/G1 k):=by
  rw[Tm];refine⟨fun k=>k=w.heap.size\/G1 k,fun k=>Iff.rfl,fun h=>?_,by rw[hF1];exact Or.inr (Or.inr rfl),bL,?_⟩
  ·rcases h with h | h
   ·omega
   ·have:=hbig _ ((jl _).2 (Or.inl h));omega
  ·refine QU.2 ⟨fun k=>k=w.heap.size,G1,fun k=>Iff.rfl,fun k e h=>?_,⟨fun k=>Iff.rfl,by rw[hF1];exact Or.inr (Or.inl rfl),bD⟩,dZ.one⟩
   have:=hbig _ ((jl _).2 (Or.inl h));omega
 have hR2:Zr (aR C ρ tl T::(DD (w.heap.size+1) (eF fn a.tmps ps assign body w.heap.size) c cap (vB w.heap.size U)).tl []::mine) W1 F1 (fun k=>(k=w.heap.size+1\/k=w.heap.size\/G1 k)\/G2 k):=by
  refine Zy ⟨fun k=>k=w.heap.size+1\/k=w.heap.size\/G1 k,G2,fun k=>Iff.rfl,fun k h1 h2=>?_,htl,dZ.two⟩
  rcases h1 with h1 | h1 | h1
  ·have:=hbig _ ((jl _).2 (Or.inr h2));omega
  ·have:=hbig _ ((jl _).2 (Or.inr h2));omega
  ·exact dZ.fe k h1 h2
 have hrun:=Zm8 (τ:=DD (w.heap.size+1) (eF fn a.tmps ps assign body w.heap.size) c cap (vB w.heap.size U)) (out := []) (hS.later l1) (hA.later l1) (hP.later l1) hτ eQ hR2 hp mX (by simpa [DD] using hno);refine Calls.mono hrun ?_;rintro e w2 ⟨rfl,T',F2,bf,g1,g2,g3⟩;rw[List.nil_append] at g1;change Zr (aR C ρ (.func (.yield (w.heap.size+1)) #[] #[]) T'::rD (w.heap.size+1) (eF fn a.tmps ps assign body w.heap.size) c (vB w.heap.size U) (ek c.isSome bq (bn (X p) Q1) (eG C.G))::mine) w2 F2 bf at g1;change jH C.u.size T T' (QW c.isSome bq (bn (X p) Q1)) B at g3;generalize hout:ek c.isSome bq (bn (X p) Q1) (eG C.G)=out at g1;obtain⟨H1,H2,hB⟩:=Zo.1 (Zy g1);have hrec:∃st pe,ko (w.heap.size+1) (eF fn a.tmps ps assign body w.heap.size st pe) (vB w.heap.size U out) w2 F2 H1/\st≠.busy/\pe=(if out = [] then none else c):=by
  have h1:=hB.one
  by_cases ho:out = []
  ·subst ho;rw[Tm] at h1;exact⟨_,_,h1,by simp,by simp⟩
  ·cases c with
   | none=>rw[TP] at h1;exact⟨_,_,h1,by simp,by simp⟩
   | some c=>rw[Zgs _ _ _ _ ho] at h1;exact⟨_,_,h1,by simp,by simp[ho]⟩
 obtain⟨st,pe,⟨Fu,he,hn,hF,hl,oZ⟩,hst,hpe⟩:=hrec;refine⟨_,rfl,st,pe,hl,hst,?_⟩;obtain⟨q1,q2,q3⟩:=ko.put (r':=eF fn a.tmps ps assign body w.heap.size .exhausted pe) (Ie hU out) hn hF hl oZ;generalize hw3:w2.putObj (w.heap.size+1) (.loop (eF fn a.tmps ps assign body w.heap.size .exhausted pe))=w3 at q1 q2 q3 ⊢;have lF:Zs (Zr (aR C ρ (.func (.yield (w.heap.size+1)) #[] #[]) T'::mine)):=pK hS.ok _ _ _ _;obtain⟨J1,J2,hC⟩:=QU.1 q2;have jg:¬H2 (w.heap.size+1):=fun h=>hB.fe _ ((he _).2 (Or.inl rfl)) h;have hlt2:∀k,bf k->F2 k/\k<w2.heap.size:=fun k hk=>by
  rcases(hB.all k).1 hk with h | h
  ·rcases(he k).1 h with rfl | h
   ·exact⟨hF,(Array.getElem?_eq_some_iff.1 hl).1⟩
   ·exact(Ie hU out).lt oZ k h
  ·exact lF.lt hB.two k h
 obtain⟨F3,jr⟩:∃F3:az,F3=fun k=>F2 k/\k≠w.heap.size+1:=⟨_,rfl⟩;have l3:aH w2 F2 w3 F3:=⟨q3.mono (fun k _ e=>e ▸ hF),fun k hk=>by rw[jr] at hk;exact Or.inl hk.1⟩;have hH2:Zr (aR C ρ (.func (.yield (w.heap.size+1)) #[] #[]) T'::mine) w3 F3 H2:=lF.frame hB.two l3 (fun k hk=>by rw[jr];exact⟨(lF.lt hB.two k hk).1,fun e=>jg (e ▸ hk)⟩) (fun k hk=>q3.block k (lF.lt hB.two k hk).2 (fun e=>jg (e ▸ hk)));have ui:aH w3 F2 w3 F3:=⟨Za.refl _ _,fun k hk=>by rw[jr] at hk;exact Or.inl hk.1⟩;have Re:l9 w.heap.size w3 F3 J1:=(QO _).frame hC.one ui (fun k hk=>by rw[jr];exact⟨((QO _).lt hC.one k hk).1,fun e=>hn (e ▸ (hC.all k).2 (Or.inl hk))⟩) (fun _ _=>rfl);have hJ2:U out w3 F3 J2:=(hU out).frame hC.two ui (fun k hk=>by rw[jr];exact⟨((hU out).lt hC.two k hk).1,fun e=>hn (e ▸ (hC.all k).2 (Or.inr hk))⟩) (fun _ _=>rfl);have jo:∀k,Fu k->H1 k:=fun k hk=>(he k).2 (Or.inr hk);have hfin:Zr (aR C ρ (.func (.yield (w.heap.size+1)) #[] #[]) T'::l9 w.heap.size::U out::mine) w3 F3 (fun k=>Fu k\/H2 k):=by
  obtain⟨K1,K2,hD⟩:=Zo.1 hH2;refine⟨K1,fun k=>J1 k\/J2 k\/K2 k,fun k=>?_,fun k h1 h2=>?_,hD.one,J1,fun k=>J2 k\/K2 k,fun k=>Iff.rfl,fun k h1 h2=>?_,Re,J2,K2,fun k=>Iff.rfl,fun k h1 h2=>?_,hJ2,hD.two⟩
  ·show Fu k\/H2 k↔K1 k\/(J1 k\/J2 k\/K2 k);rw[hC.all k,hD.all k];constructor
   ·rintro((h | h) | h | h)
    ·exact Or.inr (Or.inl h)
    ·exact Or.inr (Or.inr (Or.inl h))
    ·exact Or.inl h
    ·exact Or.inr (Or.inr (Or.inr h))
   ·rintro(h | h | h | h)
    ·exact Or.inr (Or.inl h)
    ·exact Or.inl (Or.inl h)
    ·exact Or.inl (Or.inr h)
    ·exact Or.inr (Or.inr h)
  ·rcases h2 with h2 | h2 | h2
   ·exact hB.fe k (jo k ((hC.all k).2 (Or.inl h2))) ((hD.all k).2 (Or.inl h1))
   ·exact hB.fe k (jo k ((hC.all k).2 (Or.inr h2))) ((hD.all k).2 (Or.inl h1))
   ·exact hD.fe k h1 h2
  ·rcases h2 with h2 | h2
   ·exact hC.fe k h1 h2
   ·exact hB.fe k (jo k ((hC.all k).2 (Or.inl h1))) ((hD.all k).2 (Or.inr h2))
  ·exact hB.fe k (jo k ((hC.all k).2 (Or.inr h1))) ((hD.all k).2 (Or.inr h2))
 have ht:aJ w F Fr w3 F3 (fun k=>Fu k\/H2 k):=by
  have hrel:∀k,(Fu k\/H2 k)->bf k/\k≠w.heap.size+1:=fun k hk=>by
   rcases hk with hk | hk
   ·exact⟨(hB.all k).2 (Or.inl (jo k hk)),fun e=>hn (e ▸ hk)⟩
   ·exact⟨(hB.all k).2 (Or.inr hk),fun e=>jg (e ▸ hk)⟩
  refine⟨?_,fun k hk=>?_,fun k hk=>?_,fun k hs hk hnk=>?_,fun k hk=>?_⟩
  ·have kk:Za (fun k=>Fr k\/w.heap.size<=k) w w3:=((k1.mono (fun _ _ h=>h.elim)).trans (E:=fun k=>Fr k\/w.heap.size<=k) (g2.keeps.mono (fun k _ hk=>by
    rcases hk with(h | h | h) | h
    ·exact Or.inr (by omega)
    ·exact Or.inr (by omega)
    ·exact Or.inl ((jl k).2 (Or.inl h))
    ·exact Or.inl ((jl k).2 (Or.inr h))))).trans (q3.mono (fun k _ e=>Or.inr (by omega)))
   exact kk.mono (fun k hk h=>h.elim id (fun h=>by omega))
  ·rcases g2.fresh k (hrel k hk).1 with((h | h | h) | h) | h
   ·exact absurd h (hrel k hk).2
   ·exact Or.inr (by omega)
   ·exact Or.inl ((jl k).2 (Or.inl h))
   ·exact Or.inl ((jl k).2 (Or.inr h))
   ·exact Or.inr (Nat.le_trans k1.size h)
  ·rw[jr] at hk
   rcases g2.out k hk.1 with⟨h1,h2⟩ | h
   ·rw[hF1] at h1;refine Or.inl ⟨?_,fun h=>h2 (((jl k).1 h).elim (fun h=>Or.inl (Or.inr (Or.inr h))) Or.inr)⟩
    rcases h1 with h | h | h
    ·exact h
    ·exact absurd (Or.inl (Or.inr (Or.inl h))) h2
    ·exact absurd h hk.2
   ·rcases(hB.all k).1 h with h | h
    ·rcases(he k).1 h with h | h
     ·exact absurd h hk.2
     ·exact Or.inr (Or.inl h)
    ·exact Or.inr (Or.inr h)
  ·rw[jr];refine⟨g2.dP k (Nat.lt_of_lt_of_le hs k1.size) (by rw[hF1];exact Or.inl hk) (fun h=>?_),by omega⟩
   rcases h with(h | h | h) | h
   ·omega
   ·omega
   ·exact hnk ((jl k).2 (Or.inl h))
   ·exact hnk ((jl k).2 (Or.inr h))
  ·rw[jr];exact⟨(hlt2 k (hrel k hk).1).1,(hrel k hk).2⟩
 have:=hdone w.heap.size out T' (.func (.yield (w.heap.size+1)) #[] #[]) w3 F3 _ hout.symm hfin ht (Nat.le_refl _) g3
 rw[<- hpe] at this;exact this
theorem Ca{l:List aO}{w0 w:World}{F0 pY F Fr:az}(hR:Zs R)(hl:Zs (Zr l))(h:Zr (R::l) w F Fr)(t:aJ w0 F0 pY w F Fr):
  ∃FR Fl,R w F FR/\Zr l w (fun k=>F k/\¬FR k) Fl/\aJ w0 F0 pY w (fun k=>F k/\¬FR k) Fl:=by
 obtain⟨FR,Fl,hA⟩:=Zo.1 h;refine⟨FR,Fl,hA.one,hl.frame hA.two ⟨Za.refl _ _,fun k hk=>Or.inl hk.1⟩ (fun k hk=>⟨(hl.lt hA.two k hk).1,fun h=>hA.fe k h hk⟩) (fun _ _=>rfl),t.keeps,fun k hk=>t.fresh k ((hA.all k).2 (Or.inr hk)),fun k hk=>?_,fun k hs hk hn=>⟨t.dP k hs hk hn,fun h=>?_⟩,fun k hk=>⟨(hl.lt hA.two k hk).1,fun h=>hA.fe k h hk⟩⟩
 ·rcases t.out k hk.1 with h1 | h1
  ·exact Or.inl h1
  ·rcases(hA.all k).1 h1 with h2 | h2
   ·exact absurd h2 hk.2
   ·exact Or.inr h2
 ·rcases t.fresh k ((hA.all k).2 (Or.inl h)) with h1 | h1
  ·exact hn h1
  ·omega
def Le:aO:=fun w F Fr =>∀k,Fr k->F k/\k<w.heap.size
theorem SA:Zs Le:=⟨fun h=>h,fun h l hF _ k hk=>⟨hF k hk,Nat.lt_of_lt_of_le (h k hk).2 l.size⟩⟩
theorem Zi7{C:Cx}{tv:Value}{mine:List aO}{w w2:World}{F Fr F2 bf:az}(hU:Zs U)(ha:∀R∈mine,Zs R)(h:Zr (aR C ρ tv T'::l9 D::U::mine) w2 F2 bf)(t:aJ w F Fr w2 F2 bf):
  w2.heap[D]?=some (.deferred (some []))/\∃F3 fV F4 FU,Zr (aR C ρ tv T'::mine) (w2.putObj D (.deferred none)) F3 fV/\aJ w F Fr (w2.putObj D (.deferred none)) F3 fV/\U (w2.putObj D (.deferred none)) F4 FU/\(∀k,F3 k->F4 k/\¬FU k):=by
 have uh:Zs (Zr (aR C ρ tv T'::mine)):=pK ha _ _ _ _;have hmU:Zs (Zr (U::aR C ρ tv T'::mine)):=ZT (fun R hR=>by
  rcases List.mem_cons.1 hR with rfl | hR
  ·exact hU
  ·rcases List.mem_cons.1 hR with rfl | hR
   ·exact QA _ _ _ _
   ·exact ha R hR)
 have ug:Zs (Zr (aR C ρ tv T'::U::mine)):=ZT (fun R hR=>by
  rcases List.mem_cons.1 hR with rfl | hR
  ·exact QA _ _ _ _
  ·rcases List.mem_cons.1 hR with rfl | hR
   ·exact hU
   ·exact ha R hR)
 obtain⟨FD,Fl,hA⟩:=Zo.1 (Zy h);obtain⟨hD1,hD2,hD3⟩:=id hA.one;have hlt:D<w2.heap.size:=(Array.getElem?_eq_some_iff.1 hD3).1;have kD:Za FD w2 (w2.putObj D (.deferred none)):=(JZ w2 D _).mono (fun k _ e=>(hD1 k).2 e);have tD:aJ w2 F2 FD (w2.putObj D (.deferred none)) F2 FD:=aJ.same (fun k hk=>((QO D).lt hA.one k hk).1) kD;obtain⟨hA2,t2⟩:=hA.upd (R':=Le) (QO D) ug tD (fun k hk=>⟨((QO D).lt hA.one k hk).1,Nat.lt_of_lt_of_le ((QO D).lt hA.one k hk).2 kD.size⟩);obtain⟨G1,G2,-,q2,q3⟩:=Ca SA ug (Zo.2 ⟨_,_,hA2⟩) (t.trans t2);obtain⟨H1,H2,p1,p2,p3⟩:=Ca hU uh (Zy q2) q3;exact⟨hD3,_,H2,_,H1,p2,p3,p1,fun k hk=>hk⟩
theorem QJ{w:World}{e:TypeId}{size:Nat}{n:Nat}{xs:List Value}(h:w.ownsRow base e size v n xs)(hh:∀k,v.ownBlock=some k->w'.heap[k]?=w.heap[k]?):w'.ownsRow base e size v n xs:=by
 obtain⟨h1,h2⟩:=h;refine⟨h1,?_⟩
 rcases h2 with h2 | ⟨g,cap,cur,hv,hg,hh',r⟩
 ·exact Or.inl h2
 ·subst hv;exact Or.inr ⟨g,cap,cur,rfl,hg,by rw[hh g rfl];exact hh',r⟩
variable {gs:Rs}
theorem fF.oneCell{w:World}{F:az}(h:fF w F v gs):v.oneCell'=true:=by
 obtain⟨ao,cap,rfl,-⟩:=h;rfl
theorem fF.less{w:World}{F:az}(h:fF w F v gs)(hF:∀k,F' k->F k):fF w F' v gs:=h.later ⟨Za.refl _ _,fun k hk=>Or.inl (hF k hk)⟩
def Bz (S:Nat) (out:List (Nat×Rs)):aO:=fun w F Fr =>∃(v:Value) (M:List Em),aP w S 221 v/\M.map (fun x=>(x.1,x.2.1))=out/\w.ownsRow 0 135 2 v M.length (M.flatMap zh)/\(∀x∈M,fF w F x.2.2 x.2.1)/\(∀k,Fr k↔k=S\/v.ownBlock=some k)/\(∀k,Fr k->F k)/\v.ownBlock≠some S
theorem Yc(S:Nat)(out:List (Nat×Rs)):Zs (Bz S out):=by
 refine⟨?_,?_⟩
 ·rintro w F Fr ⟨v,M,h1,h2,h3,h4,h5,h6,h7⟩ k hk;refine⟨h6 k hk,?_⟩
  rcases(h5 k).1 hk with rfl | hk
  ·exact h1.lt
  ·exact(h3.lt k hk).2
 ·rintro w w' F F' Fr ⟨v,M,h1,h2,h3,h4,h5,h6,h7⟩ l hF' hk;exact⟨v,M,by unfold aP;rw[hk S ((h5 S).2 (Or.inl rfl))];exact h1,h2,QJ h3 (fun k h=>hk k ((h5 k).2 (Or.inr h))),fun x hx=>(h4 x hx).later l,h5,hF',h7⟩
theorem Zqh{S q:Nat}{gv:Value}{w:World}{F Fr:az}{M:List Em}(aW:Fb w F)(h1:aP w S 221 v)(h2:M.map (fun x=>(x.1,x.2.1))=out)(h3:w.ownsRow 0 135 2 v M.length (M.flatMap zh))(h4:∀x∈M,fF w F x.2.2 x.2.1)(h5:∀k,Fr k↔k=S\/v.ownBlock=some k)(h6:∀k,Fr k->F k)(h7:v.ownBlock≠some S)(hsp:fF w F gv gs)(hl:out.length<1000):
  ∃ v' w',Sem.run Tryz.prog (Builtin.append_ #[221,221] 221 #[v,.slice (some ⟨w.heap.size,0,none⟩) 1 1]) (w.alloc (.cells #[.int .i64 (q:Int),gv] 135))=.ok v' w'/\(∃ao n cap,v'=.slice ao n cap)/\w'.cell? (ak S)=some v/\w'.frozen? (ak S)=false/\
    ∃F4 gZ,Bz S (out++[(q,gs)]) (w'.setCell (ak S) v') F4 gZ/\aJ w F Fr (w'.setCell (ak S) v') F4 gZ:=by
 have hlen:M.length=out.length:=by rw[<- h2,List.length_map]
 obtain⟨v',w',hrun,ho,hk,hbk⟩:=ZsX h3 (Nat.zero_le _) (by omega) (q,gs,gv) hsp.oneCell;have hS:aP w' S 221 v:=h1.keeps hk h7;have hS2:(w'.setCell (ak S) v').heap[S]?=some (.cells #[v'] 221 (0,0)):=by rw[heap_setCell_same _ _ _ _ _ _ hS];rfl
 have hne:v'.ownBlock≠some S:=fun e=>by
  rcases hbk S e with h | h
  ·exact h7 h
  ·have:=h1.lt;omega
 have kS:Za (·=S) w' (w'.setCell (ak S) v'):=(Za.refl (·=S) w').setCell (fun _=>rfl) _;have mr:Za Fr w (w'.setCell (ak S) v'):=(hk.mono (fun k _ h=>(h5 k).2 (Or.inr h))).trans (kS.mono (fun k _ e=>(h5 k).2 (Or.inl e)));have ho2:(w'.setCell (ak S) v').ownsRow 0 135 2 v' (M++[(q,gs,gv)]).length ((M++[(q,gs,gv)]).flatMap zh):=QJ ho (fun k h=>Below.heap_setCell _ _ _ _ (fun e=>hne (by rw[h];exact congrArg some e)));refine⟨v',w',hrun,(by obtain⟨ao,cap,rfl⟩:=aj ho;exact⟨_,_,_,rfl⟩),hS.cell,Zv hS,fun k=>(F k/\¬Fr k)\/k=S\/v'.ownBlock=some k,fun k=>k=S\/v'.ownBlock=some k,?_,?_⟩
 ·have lt:aH w F (w'.setCell (ak S) v') (fun k=>(F k/\¬Fr k)\/k=S\/v'.ownBlock=some k):=⟨mr.mono (fun k _ h=>h6 k h),fun k h=>by
   rcases h with h | h | h
   ·exact Or.inl h.1
   ·exact Or.inl (h6 k ((h5 k).2 (Or.inl h)))
   ·rcases hbk k h with h | h
    ·exact Or.inl (h6 k ((h5 k).2 (Or.inr h)))
    ·exact Or.inr h⟩
  refine⟨v',M++[(q,gs,gv)],hS2,by simp[h2],ho2,fun x hx=>?_,fun k=>Iff.rfl,fun k h=>Or.inr h,hne⟩
  rcases List.mem_append.1 hx with hx | hx
  ·exact(h4 x hx).later lt
  ·simp at hx;subst hx;exact hsp.later lt
 ·refine⟨mr,fun k h=>?_,fun k h=>h,fun k _ h hn=>Or.inl ⟨h,hn⟩,fun k h=>Or.inr h⟩
  rcases h with h | h
  ·exact Or.inl ((h5 k).2 (Or.inl h))
  ·rcases hbk k h with h | h
   ·exact Or.inl ((h5 k).2 (Or.inr h))
   ·exact Or.inr h
end Go.Proofs.YtfkflljplohhcaaGreatDoor
namespace Go.Proofs.YtfkflljplohhcaaGreatDoor
open Go.RowKit Go.Shelf
attribute [local go_sem] Oper.semAt_some
def LK (C:Cx) (ρ:Rx) (X:Xs) (mine:List aO) (p:Nat) (w:World) (F Fr:az) (e:Ending) (w':World):Prop :=
 ∃(v:Value) (M:List Em) (T':Tt) (tv:Value) (F' aM:az),e=.returned v/\Zr (aR C ρ tv T'::mine) w' F' aM/\aJ w F Fr w' F' aM/\yC w' F' v M/\M.map (fun x=>(x.1,x.2.1))=(X p).map (fun e=>(e.1,ap e.2 (eG C.G)))
variable {C:Cx}{ρ:Rx}{B:Option Bo}{T:Tt}{tl bg v:Value}{w w':World}{F Fr:az}{A p lo hi fn base l D N j:Nat}{cap tmps:Array Value}
theorem ZkQ{X:Xs}{mine:List aO}{Pb:Nat}(hS:ja C w F ρ.bg X B mine)(hA:di w F A 52 ((ae C.X)))(hP:di w F Pb 3 (.int .i64 (p:Int)))(aW:Fb w F)(hR:Zr (aR C ρ tl T::mine) w F Fr)(hp:p<=C.u.size)(hu:C.u.size<=200)(mX:Pre C.u.size (fun p=>bn (X p) Q1) T bq p B)(hX:dh C.u.size lo hi X):
  au 153 #[.slice none 0 0,.func (.func 90) #[] #[ae A,ae Pb]] w (LK C ρ X mine p w F Fr):=by
 have uh:Zs (Zr (aR C ρ tl T::mine)):=pK hS.ok _ _ _ _;have k1:Za ai w (w.alloc (.cells #[.slice none 0 0] 221)):=(Za.refl _ w).alloc _;have b1:aP (w.alloc (.cells #[.slice none 0 0] 221)) w.heap.size 221 (.slice none 0 0):=heap_alloc_new _ _;have l1:aH w F (w.alloc (.cells #[.slice none 0 0] 221)) (fun k=>F k\/k=w.heap.size):=⟨k1.mono (fun _ _ h=>h.elim),fun k hk=>hk.imp id (fun e=>by omega)⟩;have iY:∀k,Fr k->F k/\k<w.heap.size:=uh.lt hR;have aK:Zr (aR C ρ tl T::mine) (w.alloc (.cells #[.slice none 0 0] 221)) (fun k=>F k\/k=w.heap.size) Fr:=uh.frame hR l1 (fun k hk=>Or.inl (iY k hk).1) (fun k hk=>k1.block k (iY k hk).2 id);have He:Bz w.heap.size [] (w.alloc (.cells #[.slice none 0 0] 221)) (fun k=>F k\/k=w.heap.size) (·=w.heap.size):=⟨_,[],b1,rfl,World.ownsRow_nil _ _ _ _,by simp,fun k=>by simp[Value.ownBlock],fun k hk=>Or.inr hk,by simp[Value.ownBlock]⟩;have hR2:Zr (aR C ρ tl T::Bz w.heap.size []::mine) (w.alloc (.cells #[.slice none 0 0] 221)) (fun k=>F k\/k=w.heap.size) (fun k=>k=w.heap.size\/Fr k):=Zy (ME uh aK (fun h=>by have:=(iY _ h).2;omega) (Or.inr rfl) He);have eQ:Fb (w.alloc (.cells #[.slice none 0 0] 221)) (fun k=>F k\/k=w.heap.size):=fun k hk=>hk.elim (fun h=>Nat.lt_of_lt_of_le (aW k h) k1.size) (fun e=>by have:=b1.lt;omega);have t1:∀(w2:World) (F2 bf:az),aJ (w.alloc (.cells #[.slice none 0 0] 221)) (fun k=>F k\/k=w.heap.size) (fun k=>k=w.heap.size\/Fr k) w2 F2 bf->aJ w F Fr w2 F2 bf:=by
  intro w2 F2 bf t;refine⟨?_,fun k hk=>?_,fun k hk=>?_,fun k hs hk hn=>?_,t.own⟩
  ·exact((k1.mono (fun _ _ h=>h.elim)).trans' (E:=Fr) t.keeps (fun i hi h=>h.elim (fun e=>by omega) id))
  ·rcases t.fresh k hk with(h | h) | h
   ·exact Or.inr (by omega)
   ·exact Or.inl h
   ·exact Or.inr (Nat.le_trans k1.size h)
  ·rcases t.out k hk with⟨h1,h2⟩ | h
   ·rcases h1 with h1 | h1
    ·exact Or.inl ⟨h1,fun h=>h2 (Or.inr h)⟩
    ·exact absurd (Or.inl h1) h2
   ·exact Or.inr h
  ·exact t.dP k (Nat.lt_of_lt_of_le hs k1.size) (Or.inl hk) (fun h=>h.elim (fun e=>by omega) hn)
 have hS1:=hS.later l1;have hA1:=hA.later l1;have hP1:=hP.later l1;clear aK He l1 hS hA hP aW hR uh iY;refine(callsIn_wide (n:=3)).1 ?_;refine callsIn_of_wp_marks Tryz.func153 rfl trivial ?_;simp only[Tryz.ntmps153,List.size_toArray,List.length_cons,List.length_nil,Nat.reduceAdd,Nat.reduceSub,Array.replicate_succ,Array.replicate_zero,List.push_toArray,List.append_toArray,List.nil_append,List.cons_append];gi_wp2;refine Zef (cap:=1000) (c:=none) (U:=Bz w.heap.size) (fun out=>Yc _ out) rfl ?round rfl hS1 hA1 hP1 eQ hR2 hp mX (Nat.le_trans (Zou hX hp _) (by simp;omega)) ?done
 case round =>
  intro l w1 F1 Fu out q gv gs aW hU hsp hgl hq hn Be hll hnl;obtain⟨ag,ng,cg,hgv⟩:∃ag ng cg,gv=.slice ag ng cg:=by obtain⟨a,c,h,_⟩:=hsp;exact⟨a,_,c,h⟩
  subst hgv;clear hgl;refine⟨fun a1 w2=>w2.heap[w1.heap.size]?=some (.cells #[.int .i64 (q:Int),.slice ag ng cg] 135 (0,0))/\a1 = { tmps:=#[.slice none 0 0,.func (.func 90) #[] #[ae A,ae Pb],ae w.heap.size,undef,.slice none 0 0,ae w1.heap.size,.func (.func 90) #[] #[ae A,ae Pb],.agg #[.int .i64 (q:Int),.slice ag ng cg],undef,undef,undef,undef,undef],defers := [] },?_,?_⟩
  ·have ha:w1.heap.size=w1.heap.size/\(w1.alloc (.cells #[.int .i64 (q:Int),.slice ag ng cg] 135)).heap[w1.heap.size]?=some (.cells #[.int .i64 (q:Int),.slice ag ng cg] 135 (0,0)):=⟨rfl,heap_alloc_new _ _⟩;clear hU hsp;have HK:Hid (Za ai w1 (w1.alloc (.cells #[.int .i64 (q:Int),.slice ag ng cg] 135))):=QT;have HA:Hid _:=ha.2;clear ha;gi_wp2;exact⟨HK.out,HA.out,by first | trivial | rfl⟩
  ·rintro a1 w2 w3 k2 ⟨hb,rfl⟩ k3 ⟨v,M,c1,c2,c3,c4,c5,c6,c7⟩;have hb3:w3.heap[w1.heap.size]?=some (.cells #[.int .i64 (q:Int),.slice ag ng cg] 135 (0,0)):=by rw[k3.block _ (lt_of_block hb) (by omega)];exact hb
   have l3:aH w1 F1 w3 F1:=(aH.ay k2).trans ⟨k3.mono (fun k _ e=>e ▸ Be),fun k h=>Or.inl h⟩;have iA:Fb w3 F1:=(aW.keeps k2).keeps k3;obtain⟨ao,m,cap,eZ⟩:∃ao m cap,v=.slice ao m cap:=by obtain⟨ao,cap,h⟩:=aj c3;exact⟨_,_,_,h⟩
   have e0:=c1.cell;have e1:w3.cell? (ak w1.heap.size)=some (.int .i64 (q:Int)):=by rw[Zc hb3];rfl
   have e2:w3.cell? ⟨w1.heap.size,1,none⟩=some (.slice ag ng cg):=by rw[Zc hb3];rfl
   obtain⟨v',w4,hrun,⟨nu,n',cap',rfl⟩,cS,fS,hfin⟩:=Zqh (q:=q) iA c1 c2 c3 c4 c5 c6 c7 (hsp.later l3) (by simpa using hn);have HF:Hid (∃F4 gZ,Bz w.heap.size (out++[(q,gs)]) (w4.setCell (ak w.heap.size) (.slice nu n' cap')) F4 gZ/\aJ w3 F1 Fu (w4.setCell (ak w.heap.size) (.slice nu n' cap')) F4 gZ):=hfin;rw[eZ] at e0 hrun cS;clear hfin c1 c2 c3 c4 c5 c6 c7 hb3 l3 iA hb k2 k3 hU hsp eZ;gi_wp2_with(gi_at_builtin;refine JW rfl _ _ _ _ rfl rfl _ _ _ _ rfl rfl hrun ?_);exact⟨rfl,HF.out⟩
 case done =>
  intro D out T' tv w2 F2 bf hout hst ht hD tQ;obtain⟨hD1,F3,fV,F4,FU,q1,q2,q3,q4⟩:=Zi7 (Yc _ _) hS1.ok hst ht;have hc:∃v M,aP w2 w.heap.size 221 v/\Bz w.heap.size out (w2.putObj D (.deferred none)) F4 FU/\(∃ao n cap,v=.slice ao n cap)/\aP (w2.putObj D (.deferred none)) w.heap.size 221 v/\yC (w2.putObj D (.deferred none)) F3 v M/\M.map (fun x=>(x.1,x.2.1))=out:=by
   obtain⟨v,M,c1,c2,c3,c4,c5,c6,c7⟩:=id q3;have c0:aP w2 w.heap.size 221 v:=by
    have:D≠w.heap.size:=by have:=b1.lt;omega
    unfold aP at c1 ⊢;rw[QX (Ne.symm this)] at c1;exact c1
   obtain⟨ao,cap,eZ⟩:=aj c3;refine⟨v,M,c0,q3,⟨_,_,_,eZ⟩,c1,⟨⟨ao,cap,eZ⟩,fun _=>⟨c3,fun k hk h=>(q4 k h).2 ((c5 k).2 (Or.inr hk))⟩,fun x hx=>(c4 x hx).less (fun k h=>(q4 k h).1)⟩,c2⟩
  obtain⟨v,M,c0,-,⟨ao,n,cap,rfl⟩,c1,nU,hM⟩:=hc;have e0:=c0.cell;have e:(if out = [] then (none:Option Code) else none)=none:=by split <;> rfl
  rw[e];have HF:Hid (LK C ρ X mine p w F Fr (.returned (.slice ao n cap)) (w2.putObj D (.deferred none))):=⟨_,M,T',tv,F3,fV,rfl,q1,t1 _ _ _ q2,nU,by rw[hM,hout];exact Zlb hX hp _⟩;have HD:Hid (w2.heap[D]?=some (.deferred (some []))):=hD1;clear q1 q2 q3 q4 nU hM hD1 hst ht tQ c0 c1 t1 hS1 hA1 hP1 hR2 eQ hX hout;gi_wp2;refine⟨by simp,.inl ⟨_,_,rfl,run_takeDeferred HD.out,?_⟩⟩;refine⟨_,results_tmp rfl _ _ _,?_⟩;exact HF.out
theorem ZhZ{X:Xs}{mine:List aO}{Pb:Nat}(hS:ja C w F ρ.bg X B mine)(hA:di w F A 52 ((ae C.X)))(hP:di w F Pb 3 (.int .i64 (p:Int)))(aW:Fb w F)(hR:Zr (aR C ρ tl T::mine) w F Fr)(hp:p<=C.u.size)(hu:C.u.size<=200)(mX:Pre C.u.size (fun p=>bn (X p) Q1) T bq p B)(hX:dh C.u.size lo hi X):
  au 140 #[.func (.func 90) #[] #[ae A,ae Pb]] w (LK C ρ X mine p w F Fr):=by
 have hcall:au 153 #[.slice none 0 0,.func (.func 90) #[] #[ae A,ae Pb]] w (fun e w' =>∃ao n cap,e=.returned (.slice ao n cap)/\Hid (LK C ρ X mine p w F Fr (.returned (.slice ao n cap)) w')):=by
  refine(ZkQ hS hA hP aW hR hp hu mX hX).mono ?_;intro e w' h;obtain⟨v,M,T',tv,F',aM,rfl,h1,h2,h3,h4⟩:=id h;obtain⟨ao,cap,rfl⟩:=h3.form;exact⟨_,_,_,rfl,h⟩
 clear hS hA hP aW hR mX hX;go_enter Tryz.func140,Tryz.ntmps140;go_wp2_with(go_at_call 153;refine hcall.mono ?_;rintro e w2 ⟨ao,n,cap,rfl,HF⟩);go_ret;exact HF.out
end Go.Proofs.YtfkflljplohhcaaGreatDoor
