import Derived.Test.YthkmmeamplmnhaaGreatYh
set_option maxHeartbeats 400000
set_option maxRecDepth 100000
namespace Go.Proofs.YthkmmeamplmnhaaGreat
open Go.RowKit
set_option linter.unusedVariables false
theorem ends1_go {w:World} {C:Cx} {A P p fn:Nat} {cap:Array Value} {jn:Int} {tl:Value} {ly:Nat} {an:Option Addr} {nn cn:Nat} {Q:Ending→World→Prop} (hS:Se w C jn (.func (.func fn) #[] cap) tl) (hnn:C.nn = .slice an nn cn) (cA:w.cell? ⟨A,0,none⟩=some (.pointer (some ⟨C.X,0,none⟩))) (cP:w.cell? ⟨P,0,none⟩=some (.int .i64 (p:Int))) (hAX:A≠C.X) (hPX:P≠C.X) (hcf:CfOk fn)
  (hcall:Calls Tryz.prog fn (#[.int .i64 (p:Int),.slice an nn cn] ++ cap) (w.setCell ⟨C.X,5,none⟩ (.func (.yield ly) #[] #[])).drew (fun e w2 =>∃b,e = .returned (.bool b)∧Q (.returned (.tuple #[])) w2∧(w2.cell? ⟨A,0,none⟩=some (.pointer (some ⟨C.X,0,none⟩))∧w2.cell? ⟨P,0,none⟩=some (.int .i64 (p:Int))∧w2.cell? ⟨C.X,1,none⟩=some (.slice an nn cn)∧w2.cell? ⟨C.X,4,none⟩=some (.func (.func fn) #[] cap)))) :
  Calls Tryz.prog 64 #[.func (.yield ly) #[] #[],.pointer (some ⟨A,0,none⟩),.pointer (some ⟨P,0,none⟩)] w Q:=by
 unfold CfOk at hcf
 have c5:=hS.c5
 have f5':=hS.fz 5
 have hst:(store ⟨C.X,5,none⟩ (.func (.yield ly) #[] #[])).run Tryz.prog w = .ok () (w.setCell ⟨C.X,5,none⟩ (.func (.yield ly) #[] #[])):=by
  rw [run_store _ _ _ _ _ rfl]
  simp [c5,f5',go_sem]
 have f5:=hS.fz 5
 have hS1:=hS.set5 (.func (.yield ly) #[] #[])
 have s1:=hS1.c1
 rw [hnn] at s1
 have s4:=hS1.c4
 have a1:(w.setCell ⟨C.X,5,none⟩ (.func (.yield ly) #[] #[])).cell? ⟨A,0,none⟩=some (.pointer (some ⟨C.X,0,none⟩)):=by
  unfold World.cell? at cA ⊢
  simp only at cA ⊢
  rw [Below.heap_setCell _ _ _ _ hAX]
  exact cA
 have p1:(w.setCell ⟨C.X,5,none⟩ (.func (.yield ly) #[] #[])).cell? ⟨P,0,none⟩=some (.int .i64 (p:Int)):=by
  unfold World.cell? at cP ⊢
  simp only at cP ⊢
  rw [Below.heap_setCell _ _ _ _ hPX]
  exact cP
 go_enter Tryz.func64,Tryz.ntmps64
 go_upto_region 1 with fail
 clear hS hS1 cA cP c5 f5 f5' hst
 generalize (w.setCell ⟨C.X,5,none⟩ (.func (.yield ly) #[] #[]))=w1 at *
 have hS0:(w1.drew.cell? ⟨A,0,none⟩=some (.pointer (some ⟨C.X,0,none⟩))∧w1.drew.cell? ⟨P,0,none⟩=some (.int .i64 (p:Int))∧w1.drew.cell? ⟨C.X,1,none⟩=some (.slice an nn cn)∧w1.drew.cell? ⟨C.X,4,none⟩=some (.func (.func fn) #[] cap)):=⟨a1,p1,s1,s4⟩
 clear a1 p1 s1 s4
 go_region_held3 (fun w'=>(w'.cell? ⟨A,0,none⟩=some (.pointer (some ⟨C.X,0,none⟩))∧w'.cell? ⟨P,0,none⟩=some (.int .i64 (p:Int))∧w'.cell? ⟨C.X,1,none⟩=some (.slice an nn cn)∧w'.cell? ⟨C.X,4,none⟩=some (.func (.func fn) #[] cap))) (first | assumption | go_keep) (first
  | ((with_reducible (refine hcall.mono ?_)); rintro e w2 ⟨b,rfl,hQ,hS2⟩))
 all_goals (try go_wp2_with fail)
 all_goals (go_end0; exact hQ)
theorem onlyAt_any {w:World} {k:Int} {fn:Nat} {cap:Array Value}:Calls Tryz.prog 89 #[.int .i64 k,.func (.func fn) #[] cap] w fun e w'=>e = .returned (.func (.func 123) #[] #[.pointer (some ⟨w.heap.size,0,none⟩),.pointer (some ⟨w.heap.size + 1,0,none⟩)])∧At1 w' w.heap.size 3 (.int .i64 k)∧At1 w' (w.heap.size + 1) 119 (.func (.func fn) #[] cap)∧Keeps (fun _=>False) w w':=by
 have hmf :∀(fn:Fn) (first cap:Array Value) (w:World),(Instr.makeFunc fn first cap).run Tryz.prog w = .ok (.func fn first cap) w:=fun _ _ _ _=>rfl
 have b1:=box1 w (.cells #[.int .i64 k] 3) (.cells #[.func (.func fn) #[] cap] 119)
 have b2:=box2 w (.cells #[.int .i64 k] 3) (.cells #[.func (.func fn) #[] cap] 119)
 have hK:Keeps (fun _=>False) w ((w.alloc (.cells #[.int .i64 k] 3)).alloc (.cells #[.func (.func fn) #[] cap] 119)):=((Keeps.refl _ w).alloc _).alloc _
 go_enter Tryz.func89,Tryz.ntmps89
 go_wp2_with fail
 go_ret
 exact ⟨by simp,b1,b2,hK⟩
theorem ends_any {w:World} {C:Cx} {p:Int}:Calls Tryz.prog 44 #[.pointer (some ⟨C.X,0,none⟩),.int .i64 p] w fun e w'=>e = .returned (.func (.func 64) #[] #[.pointer (some ⟨w.heap.size,0,none⟩),.pointer (some ⟨w.heap.size + 1,0,none⟩)])∧At1 w' w.heap.size 61 (.pointer (some ⟨C.X,0,none⟩))∧At1 w' (w.heap.size + 1) 3 (.int .i64 p)∧Keeps (fun _=>False) w w':=by
 have hmf :∀(fn:Fn) (first cap:Array Value) (w:World),(Instr.makeFunc fn first cap).run Tryz.prog w = .ok (.func fn first cap) w:=fun _ _ _ _=>rfl
 have b1:=box1 w (.cells #[.pointer (some ⟨C.X,0,none⟩)] 61) (.cells #[.int .i64 p] 3)
 have b2:=box2 w (.cells #[.pointer (some ⟨C.X,0,none⟩)] 61) (.cells #[.int .i64 p] 3)
 have hK:Keeps (fun _=>False) w ((w.alloc (.cells #[.pointer (some ⟨C.X,0,none⟩)] 61)).alloc (.cells #[.int .i64 p] 3)):=((Keeps.refl _ w).alloc _).alloc _
 go_enter Tryz.func44,Tryz.ntmps44
 go_wp2_with fail
 go_ret
 exact ⟨by simp,b1,b2,hK⟩
theorem joint_any {w:World} {C:Cx} {jn:Int} {bg tl:Value} (h:Se w C jn bg tl) (h0:0≤jn) (h1:jn≤100000):Calls Tryz.prog 107 #[.pointer (some ⟨C.X,0,none⟩)] w fun e w'=>e = .returned (.int .i64 (jn + 1))∧Se w' C (jn + 1) bg tl∧Keeps (fun k=>k=C.X) w w':=by
 have c2:=h.c2
 have f2:=h.fz 2
 have hS:=h.set2 (jn + 1)
 have d2:=hS.c2
 have hK:Keeps (fun k=>k=C.X) w (w.setCell ⟨C.X,2,none⟩ (.int .i64 (jn + 1))):=(Keeps.refl (fun k=>k=C.X) w).setCell (fun _=>rfl) _
 have hwr:IntKind.i64.wrap (jn + 1)=jn + 1:=IntWalk.i64_in _ ⟨by omega,by omega⟩
 clear h
 go_enter Tryz.func107,Tryz.ntmps107
 go_wp2_with fail
 go_ret
 exact ⟨rfl,hS,hK⟩
theorem once_any {w:World} {C:Cx} {jn:Int} {bg tl:Value} {fn:Nat} {cap:Array Value} (h:Se w C jn bg tl) (h0:0≤jn) (h1:jn≤100000):Calls Tryz.prog 86 #[.pointer (some ⟨C.X,0,none⟩),.func (.func fn) #[] cap] w fun e w' =>∃J,e = .returned (.func (.func 108) #[] #[.pointer (some ⟨w.heap.size,0,none⟩),.pointer (some ⟨J,0,none⟩),.pointer (some ⟨w.heap.size + 1,0,none⟩)])∧w.heap.size≤J∧Se w' C (jn + 1) bg tl∧At1 w' w.heap.size 61 (.pointer (some ⟨C.X,0,none⟩))∧At1 w' J 3 (.int .i64 (jn + 1))∧At1 w' (w.heap.size + 1) 119 (.func (.func fn) #[] cap)∧Keeps (fun k=>k=C.X) w w':=by
 have hmf :∀(fn:Fn) (first cap:Array Value) (w:World),(Instr.makeFunc fn first cap).run Tryz.prog w = .ok (.func fn first cap) w:=fun _ _ _ _=>rfl
 have b1:At1 ((w.alloc (.cells #[.pointer (some ⟨C.X,0,none⟩)] 61)).alloc (.cells #[.func (.func fn) #[] cap] 119)) w.heap.size 61 (.pointer (some ⟨C.X,0,none⟩)):=box1 w _ _
 have b2:At1 ((w.alloc (.cells #[.pointer (some ⟨C.X,0,none⟩)] 61)).alloc (.cells #[.func (.func fn) #[] cap] 119)) (w.heap.size + 1) 119 (.func (.func fn) #[] cap):=box2 w _ _
 have hK:Keeps (fun _=>False) w ((w.alloc (.cells #[.pointer (some ⟨C.X,0,none⟩)] 61)).alloc (.cells #[.func (.func fn) #[] cap] 119)):=((Keeps.refl _ w).alloc _).alloc _
 have hX:=h.lt
 have hS:=h.same (hK.block C.X hX (fun h=>h))
 go_enter Tryz.func86,Tryz.ntmps86
 go_upto_region 1 with fail
 generalize ((w.alloc (.cells #[.pointer (some ⟨C.X,0,none⟩)] 61)).alloc (.cells #[.func (.func fn) #[] cap] 119))=w1 at *
 have c1:=b1.cell
 have hj:=joint_any hS h0 h1
 go_upto_region 2 with (go_at_call 107; refine hj.mono ?_; rintro e w2 ⟨rfl,hS2,hk2⟩)
 have hs2:=hk2.size
 have hs1:=hK.size
 have l1:w.heap.size < w1.heap.size:=b1.lt
 have l2:w.heap.size + 1 < w1.heap.size:=b2.lt
 have hlast:At1 (w2.alloc (.cells #[.int .i64 (jn + 1)] 3)) w2.heap.size 3 (.int .i64 (jn + 1)):=heap_alloc_new _ _
 have hS3:Se (w2.alloc (.cells #[.int .i64 (jn + 1)] 3)) C (jn + 1) bg tl:=hS2.same (((Keeps.refl (fun _=>False) w2).alloc _).block C.X hS2.lt (fun h=>h))
 have B1:=b1.keeps (hk2.alloc (.cells #[.int .i64 (jn + 1)] 3)) (fun h=>by omega)
 have B2:=b2.keeps (hk2.alloc (.cells #[.int .i64 (jn + 1)] 3)) (fun h=>by omega)
 have hKK:Keeps (fun k=>k=C.X) w (w2.alloc (.cells #[.int .i64 (jn + 1)] 3)):=(hK.mono (fun _ _ h=>h.elim)).trans (hk2.alloc _)
 generalize hw3:(w2.alloc (.cells #[.int .i64 (jn + 1)] 3))=w3 at *
 go_wp2_with fail
 go_ret
 exact ⟨w2.heap.size,by simp,by omega,hS3,B1,hlast,B2,hKK⟩
theorem box3 (w:World) (x y z:Obj):(((w.alloc x).alloc y).alloc z).heap[w.heap.size]? = some x∧(((w.alloc x).alloc y).alloc z).heap[w.heap.size + 1]? = some y∧(((w.alloc x).alloc y).alloc z).heap[w.heap.size + 2]? = some z:=by
 refine ⟨?_,?_,?_⟩
 ·rw [Below.heap_alloc _ _ _ (by simp; omega)]; exact box1 w x y
 ·rw [Below.heap_alloc _ _ _ (by simp)]; exact box2 w x y
 ·have:=heap_alloc_new ((w.alloc x).alloc y) z
  simpa using this
theorem byteOf_any {w:World} {C:Cx} {f:Nat→Nat} {fn:Nat} {cap:Array Value}:Calls Tryz.prog 83 #[.pointer (some ⟨C.X,0,none⟩),.agg #[.int .u64 (f 0),.int .u64 (f 1),.int .u64 (f 2),.int .u64 (f 3)],.func (.func fn) #[] cap] w fun e w'=>e = .returned (.func (.func 104) #[] #[.pointer (some ⟨w.heap.size,0,none⟩),.pointer (some ⟨w.heap.size + 1,0,none⟩),.pointer (some ⟨w.heap.size + 2,0,none⟩)])∧At1 w' w.heap.size 61 (.pointer (some ⟨C.X,0,none⟩))∧Sb w' (w.heap.size + 1) f∧At1 w' (w.heap.size + 2) 119 (.func (.func fn) #[] cap)∧Keeps (fun _=>False) w w':=by
 have hmf :∀(fn:Fn) (first cap:Array Value) (w:World),(Instr.makeFunc fn first cap).run Tryz.prog w = .ok (.func fn first cap) w:=fun _ _ _ _=>rfl
 obtain ⟨b1,b2,b3⟩:=box3 w (.cells #[.pointer (some ⟨C.X,0,none⟩)] 61) (.cells #[.int .u64 (f 0),.int .u64 (f 1),.int .u64 (f 2),.int .u64 (f 3)] 144) (.cells #[.func (.func fn) #[] cap] 119)
 have hK:Keeps (fun _=>False) w (((w.alloc (.cells #[.pointer (some ⟨C.X,0,none⟩)] 61)).alloc (.cells #[.int .u64 (f 0),.int .u64 (f 1),.int .u64 (f 2),.int .u64 (f 3)] 144)).alloc (.cells #[.func (.func fn) #[] cap] 119)):=(((Keeps.refl _ w).alloc _).alloc _).alloc _
 go_enter Tryz.func83,Tryz.ntmps83
 go_wp2_with fail
 go_ret
 exact ⟨by simp,b1,b2,b3,hK⟩
theorem seR_clear {C:Cx} {ρ:Rx} {tl:Value} {T:Tt} {w:World} {F Fr:Bs2} {L:List Et} {clock:Nat} (hS:Se w C ρ.jn ρ.bg tl) (hT:Tb w C.m T L) (he :∀k,Fr k↔k=C.X∨k=C.m∨∃x∈L,x.2.1=k) (hF :∀k,Fr k→F k) (hne:C.X≠C.m) (hm:w.heap[C.m]? = some (.map (L.map entOf).toArray clock)) (hpn : ρ.pn = []) :
  ∃F' Fr',SeR C ρ tl tno (w.putObj C.m (.map #[] clock)) F' Fr'∧Trn w F Fr (w.putObj C.m (.map #[] clock)) F' Fr':=by
 have hlt:=(Array.getElem?_eq_some_iff.1 hm).1
 refine ⟨fun k=>(F k∧¬ Fr k)∨k=C.X∨k=C.m,fun k=>k=C.X∨k=C.m,⟨[],hS.same (put_other hne),⟨⟨clock,by rw [put_same hlt]; rfl⟩,by simp,by simp,by simp,fun _ _ _ _=>rfl,fun _ _ _=>by simp [tno],by simp⟩,by rw [hpn]; simp,fun k=>by simp,fun k hk=>Or.inr hk,hne,by simp⟩,?_⟩
 refine ⟨(put_keeps w C.m _).mono (fun k _ hk=>by subst hk; exact (he _).2 (Or.inr (Or.inl rfl))),fun k hk=>Or.inl ((he k).2 (hk.imp id Or.inl)),fun k hk=>hk,fun k _ h1 h2=>Or.inl ⟨h1,h2⟩,fun k hk=>Or.inr hk⟩
theorem clear_any {C:Cx} {ρ:Rx} {tl:Value} {T:Tt} {w:World} {F Fr:Bs2} (h:SeR C ρ tl T w F Fr) (hpn : ρ.pn = []) :
  Calls Tryz.prog 137 #[.agg #[.map (some C.m)]] w fun e w'=>e = .returned (.tuple #[])∧∃F' Fr',SeR C ρ tl tno w' F' Fr'∧Trn w F Fr w' F' Fr':=by
 have hOk:=seR_ok C ρ tl T
 have kA:Keeps (fun _=>False) w (w.alloc (.cells #[.map (some C.m)] 117)):=(Keeps.refl _ w).alloc _
 have h2:=hOk.frame h (Lat.ofKeeps kA) (fun i hi=>(hOk.lt h i hi).1) (fun i hi=>kA.block i (hOk.lt h i hi).2 (fun h=>h))
 have ht2:Trn w F Fr _ F Fr:=Trn.ofKeeps (fun i hi=>(hOk.lt h i hi).1) kA
 have b1:At1 (w.alloc (.cells #[.map (some C.m)] 117)) w.heap.size 117 (.map (some C.m)):=heap_alloc_new _ _
 clear h
 obtain ⟨L,hS,hT,hpn1,he,hF,hne,hX⟩:=h2
 obtain ⟨clock,hm⟩:=hT.mp
 go_enter Tryz.func137,Tryz.ntmps137
 go_upto_region 1 with fail
 generalize (w.alloc (.cells #[.map (some C.m)] 117))=w2 at *
 have c1:=b1.cell
 have hcl:=fun t=>clear_map (P:=Tryz.prog) t tr_keyMap hm
 obtain ⟨F',Fr',q1,q2⟩:=seR_clear hS hT he hF hne hm hpn
 have hf :∃F' Fr',SeR C ρ tl tno (w2.putObj C.m (.map #[] clock)) F' Fr'∧Trn w F Fr (w2.putObj C.m (.map #[] clock)) F' Fr':=⟨F',Fr',q1,ht2.trans q2⟩
 clear q1 q2 hS hT he hF hX hpn1 hm ht2 kA hOk
 go_wp2_with fail
 go_end0
 exact ⟨rfl,hf⟩
theorem Tryz.infoEndY:(Tryz.prog.info? 83).map (fun i=>(i.zero,i.size,i.bytes))=some (some (.agg #[.int .i64 0,.slice none 0 0]),2,32):=by kernel_rfl
theorem app_end {w:World} {base:Nat} {v:Value} {M:List Em} (h:w.ownsRow base 83 2 v M.length (M.flatMap cellE)) (hb:base≤w.heap.size) (hl:M.length≤1000) (x:Em) (hx:x.2.2.oneCell'=true) :
  ∃v' w',Sem.run Tryz.prog (Builtin.append_ #[189,189] 189 #[v,.slice (some ⟨w.heap.size,0,none⟩) 1 1]) (w.alloc (.cells #[.int .i64 (x.1:Int),x.2.2] 83)) = .ok v' w'∧w'.ownsRow base 83 2 v' (M ++ [x]).length ((M ++ [x]).flatMap cellE)∧Keeps (fun k=>v.ownBlock=some k) w w'∧(∀k,v'.ownBlock=some k→v.ownBlock=some k∨w.heap.size≤k):=by
 obtain ⟨i0,hi,hz0,hz1,hz2⟩:=info_parts Tryz.infoEndY
 obtain ⟨v',w3,hrun,ho,hgr,hbk⟩:=app_any (P:=Tryz.prog) (w.alloc (.cells #[.int .i64 (x.1:Int),x.2.2] 83)) base 189 189 83 i0 _ 2 32 Tryz.underlying189 hi hz0 hz1 hz2 rfl (by decide) v M.length _ (h.alloc _)
  ⟨w.heap.size,0,none⟩ 1 1 [.int .i64 (x.1:Int),x.2.2] rfl (cells_new w _ _) (by intro u hu; simp at hu; rcases hu with rfl | rfl; rfl; exact hx) (by unfold maxLen; omega) (by omega) (by simp; omega)
 refine ⟨v',w3,hrun,?_,((Keeps.refl _ w).alloc _).grown hgr (fun k hk _=>hk),fun k hk=>?_⟩
 ·rw [List.flatMap_append,List.length_append]
  exact ho
 ·by_cases hlt:k < w.heap.size
  ·exact Or.inl (hbk k hk (by simp; omega))
  ·exact Or.inr (by omega)
end Go.Proofs.YthkmmeamplmnhaaGreat
