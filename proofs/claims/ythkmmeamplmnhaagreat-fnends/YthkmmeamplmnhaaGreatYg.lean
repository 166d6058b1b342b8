import Derived.Test.YthkmmeamplmnhaaGreatYf
namespace Go.Proofs.YthkmmeamplmnhaaGreat
open Go.RowKit
set_option linter.unusedVariables false
theorem cell_keeps {w w':World} {b i:Nat} {v:Value} (h:w.cell? ⟨b,i,none⟩=some v) (k:Keeps (fun _=>False) w w'):w'.cell? ⟨b,i,none⟩=some v:=by
 have hlt:b < w.heap.size:=by
  apply Decidable.byContradiction
  intro hc
  unfold World.cell? at h
  simp only at h
  rw [Array.getElem?_eq_none (by omega)] at h
  simp at h
 exact ((show CeI w (fun _=>False) b i v from ⟨h,fun h=>h,hlt⟩).later (Lat.ofKeeps k)).1
set_option maxHeartbeats 800000 in
set_option maxRecDepth 100000 in
theorem rep3_go {w:World} {A J X m Nb Gb j l nd rm p:Nat} {mo:Int} {lz:Bool} {ty:TypeId} {y:Value} {ag:Option Addr} {ng cg:Nat} {R:Nat→World→Prop} {Q:Ending→World→Prop}
  (hS :∀w1,Keeps (fun _=>False) w w1→At1 w1 w.heap.size 3 (.int .i64 (p:Int))→(w1.cell? ⟨A,0,none⟩=some (.pointer (some ⟨X,0,none⟩))∧w1.cell? ⟨J,0,none⟩=some (.int .i64 (j:Int))∧w1.cell? ⟨X,3,none⟩=some (.map (some m))∧w1.cell? ⟨Nb,0,none⟩=some (.int .i64 (l:Int))∧w1.cell? ⟨Nb,1,none⟩=some (.int .i64 mo)∧w1.cell? ⟨Nb,2,none⟩=some (.bool lz)∧w1.cell? ⟨Nb,3,none⟩=some (.iface ty y)∧w1.cell? ⟨w.heap.size,0,none⟩=some (.int .i64 (p:Int))))
  (hnd :∀w1,Calls Tryz.prog 114 #[.agg #[.int .i64 (l:Int),.int .i64 mo,.bool lz,.iface ty y],.int .i64 0] w1 (fun e w2=>e = .returned (.int .i64 (nd:Int))∧Keeps (fun _=>False) w1 w2))
  (hrm :∀w1,Calls Tryz.prog 115 #[.agg #[.int .i64 (l:Int),.int .i64 mo,.bool lz,.iface ty y],.int .i64 0] w1 (fun e w2=>e = .returned (.int .u8 (rm:Int))∧Keeps (fun _=>False) w1 w2))
  (hof :∀w1,Keeps (fun _=>False) w w1→At1 w1 w.heap.size 3 (.int .i64 (p:Int))→At1 w1 (w.heap.size + 1) 27 (.slice ag ng cg)→Calls Tryz.prog 109 #[.agg #[.map (some m)],.agg #[.int .i64 (j:Int),.int .i64 (nd:Int)]] w1 (fun e w2 =>∃r,e = .returned (.pointer (some ⟨r,0,none⟩))∧Hid (R r w2)∧(w2.cell? ⟨A,0,none⟩=some (.pointer (some ⟨X,0,none⟩))∧w2.cell? ⟨J,0,none⟩=some (.int .i64 (j:Int))∧w2.cell? ⟨X,3,none⟩=some (.map (some m))∧w2.cell? ⟨Nb,0,none⟩=some (.int .i64 (l:Int))∧w2.cell? ⟨Nb,1,none⟩=some (.int .i64 mo)∧w2.cell? ⟨Nb,2,none⟩=some (.bool lz)∧w2.cell? ⟨Nb,3,none⟩=some (.iface ty y)∧w2.cell? ⟨w.heap.size,0,none⟩=some (.int .i64 (p:Int)))))
  (hvis :∀r w2 w3,R r w2→Keeps (fun _=>False) w2 w3→Calls Tryz.prog 110 #[.pointer (some ⟨r,0,none⟩),.int .i64 (p:Int),.int .u8 (rm:Int),.func (.func 120) #[] #[.pointer (some ⟨Gb,0,none⟩),.pointer (some ⟨w.heap.size,0,none⟩),.pointer (some ⟨w.heap.size + 1,0,none⟩)]] w3 (fun e w4 =>∃b,e = .returned (.bool b)∧Q (.returned (.bool b)) w4∧(w4.cell? ⟨A,0,none⟩=some (.pointer (some ⟨X,0,none⟩))∧w4.cell? ⟨J,0,none⟩=some (.int .i64 (j:Int))∧w4.cell? ⟨X,3,none⟩=some (.map (some m))∧w4.cell? ⟨Nb,0,none⟩=some (.int .i64 (l:Int))∧w4.cell? ⟨Nb,1,none⟩=some (.int .i64 mo)∧w4.cell? ⟨Nb,2,none⟩=some (.bool lz)∧w4.cell? ⟨Nb,3,none⟩=some (.iface ty y)∧w4.cell? ⟨w.heap.size,0,none⟩=some (.int .i64 (p:Int))))) :
  Calls Tryz.prog 119 (#[.int .i64 (p:Int),.slice ag ng cg] ++ #[.pointer (some ⟨A,0,none⟩),.pointer (some ⟨J,0,none⟩),.pointer (some ⟨Nb,0,none⟩),.pointer (some ⟨Gb,0,none⟩)]) w Q:=by
 have hmf :∀(fn:Fn) (first cap:Array Value) (w:World),(Instr.makeFunc fn first cap).run Tryz.prog w = .ok (.func fn first cap) w:=fun _ _ _ _=>rfl
 have kA:Keeps (fun _=>False) w ((w.alloc (.cells #[.int .i64 (p:Int)] 3)).alloc (.cells #[.slice ag ng cg] 27)):=((Keeps.refl _ w).alloc _).alloc _
 have b1:At1 ((w.alloc (.cells #[.int .i64 (p:Int)] 3)).alloc (.cells #[.slice ag ng cg] 27)) w.heap.size 3 (.int .i64 (p:Int)):=box1 w _ _
 have b2:At1 ((w.alloc (.cells #[.int .i64 (p:Int)] 3)).alloc (.cells #[.slice ag ng cg] 27)) (w.heap.size + 1) 27 (.slice ag ng cg):=box2 w _ _
 go_enter Tryz.func119,Tryz.ntmps119
 go_upto_region 1 with fail
 generalize ((w.alloc (.cells #[.int .i64 (p:Int)] 3)).alloc (.cells #[.slice ag ng cg] 27))=w2 at kA b1 b2 ⊢
 have kd:Keeps (fun _=>False) w w2.drew:=kA.drew
 have hS0:=hS w2.drew kd b1
 have hnd2:=hnd w2.drew
 have hof2 :∀w3,Keeps (fun _=>False) w2.drew w3→Calls Tryz.prog 109 #[.agg #[.map (some m)],.agg #[.int .i64 (j:Int),.int .i64 (nd:Int)]] w3 (fun e w2 =>∃r,e = .returned (.pointer (some ⟨r,0,none⟩))∧Hid (R r w2)∧(w2.cell? ⟨A,0,none⟩=some (.pointer (some ⟨X,0,none⟩))∧w2.cell? ⟨J,0,none⟩=some (.int .i64 (j:Int))∧w2.cell? ⟨X,3,none⟩=some (.map (some m))∧w2.cell? ⟨Nb,0,none⟩=some (.int .i64 (l:Int))∧w2.cell? ⟨Nb,1,none⟩=some (.int .i64 mo)∧w2.cell? ⟨Nb,2,none⟩=some (.bool lz)∧w2.cell? ⟨Nb,3,none⟩=some (.iface ty y)∧w2.cell? ⟨w.heap.size,0,none⟩=some (.int .i64 (p:Int)))) :=
  fun w3 k3=>hof w3 (kd.trans k3) ((show At1 w2.drew _ _ _ from b1).keeps k3 (fun h=>h)) ((show At1 w2.drew _ _ _ from b2).keeps k3 (fun h=>h))
 clear hof hS hnd b1 b2 kA kd
 generalize w.heap.size=pb at *
 go_region_held3 (fun w'=>(w'.cell? ⟨A,0,none⟩=some (.pointer (some ⟨X,0,none⟩))∧w'.cell? ⟨J,0,none⟩=some (.int .i64 (j:Int))∧w'.cell? ⟨X,3,none⟩=some (.map (some m))∧w'.cell? ⟨Nb,0,none⟩=some (.int .i64 (l:Int))∧w'.cell? ⟨Nb,1,none⟩=some (.int .i64 mo)∧w'.cell? ⟨Nb,2,none⟩=some (.bool lz)∧w'.cell? ⟨Nb,3,none⟩=some (.iface ty y)∧w'.cell? ⟨pb,0,none⟩=some (.int .i64 (p:Int)))) (first | assumption | go_keep) (first
  | (go_at_call 114; refine hnd2.mono ?_; rintro e w3 ⟨rfl,hk3⟩; have hS3:(w3.cell? ⟨A,0,none⟩=some (.pointer (some ⟨X,0,none⟩))∧w3.cell? ⟨J,0,none⟩=some (.int .i64 (j:Int))∧w3.cell? ⟨X,3,none⟩=some (.map (some m))∧w3.cell? ⟨Nb,0,none⟩=some (.int .i64 (l:Int))∧w3.cell? ⟨Nb,1,none⟩=some (.int .i64 mo)∧w3.cell? ⟨Nb,2,none⟩=some (.bool lz)∧w3.cell? ⟨Nb,3,none⟩=some (.iface ty y)∧w3.cell? ⟨pb,0,none⟩=some (.int .i64 (p:Int))):=⟨cell_keeps hS0.1 hk3,cell_keeps hS0.2.1 hk3,cell_keeps hS0.2.2.1 hk3,cell_keeps hS0.2.2.2.1 hk3,cell_keeps hS0.2.2.2.2.1 hk3,cell_keeps hS0.2.2.2.2.2.1 hk3,cell_keeps hS0.2.2.2.2.2.2.1 hk3,cell_keeps hS0.2.2.2.2.2.2.2 hk3⟩; have hof3:=hof2 w3 hk3; clear hof2)
  | (go_at_call 109; refine hof3.mono ?_; rintro e w4 ⟨r,rfl,HR,hS4⟩; have hrm4:=hrm w4)
  | (go_at_call 115; refine hrm4.mono ?_; rintro e w5 ⟨rfl,hk5⟩; have hS5:(w5.cell? ⟨A,0,none⟩=some (.pointer (some ⟨X,0,none⟩))∧w5.cell? ⟨J,0,none⟩=some (.int .i64 (j:Int))∧w5.cell? ⟨X,3,none⟩=some (.map (some m))∧w5.cell? ⟨Nb,0,none⟩=some (.int .i64 (l:Int))∧w5.cell? ⟨Nb,1,none⟩=some (.int .i64 mo)∧w5.cell? ⟨Nb,2,none⟩=some (.bool lz)∧w5.cell? ⟨Nb,3,none⟩=some (.iface ty y)∧w5.cell? ⟨pb,0,none⟩=some (.int .i64 (p:Int))):=⟨cell_keeps hS4.1 hk5,cell_keeps hS4.2.1 hk5,cell_keeps hS4.2.2.1 hk5,cell_keeps hS4.2.2.2.1 hk5,cell_keeps hS4.2.2.2.2.1 hk5,cell_keeps hS4.2.2.2.2.2.1 hk5,cell_keeps hS4.2.2.2.2.2.2.1 hk5,cell_keeps hS4.2.2.2.2.2.2.2 hk5⟩; have hvis5:=hvis r w4 w5 HR.out hk5)
  | (go_at_call 110; refine hvis5.mono ?_; rintro e w6 ⟨b,rfl,hQ,hS6⟩))
 all_goals (try go_wp2_with fail)
 all_goals exact hQ
set_option maxHeartbeats 400000 in
set_option maxRecDepth 100000 in
theorem rep1_most {w:World} {A J Nb At Gb d p:Nat} {ag:Option Addr} {ng cg:Nat} (c1:w.cell? ⟨Nb,1,none⟩=some (.int .i64 (d:Int))) (hlt:Nb < w.heap.size) :
  Calls Tryz.prog 113 (#[.int .i64 (d:Int),.int .i64 (p:Int),.slice ag ng cg] ++ #[.pointer (some ⟨Nb,0,none⟩),.pointer (some ⟨A,0,none⟩),.pointer (some ⟨J,0,none⟩),.pointer (some ⟨At,0,none⟩),.pointer (some ⟨Gb,0,none⟩)]) w fun e w'=>e = .returned (.bool true)∧Keeps (fun _=>False) w w':=by
 have kA:Keeps (fun _=>False) w ((w.alloc (.cells #[.int .i64 (d:Int)] 3)).alloc (.cells #[.slice ag ng cg] 27)):=((Keeps.refl _ w).alloc _).alloc _
 have b1:At1 ((w.alloc (.cells #[.int .i64 (d:Int)] 3)).alloc (.cells #[.slice ag ng cg] 27)) w.heap.size 3 (.int .i64 (d:Int)):=box1 w _ _
 have c2:=cell_keeps c1 kA
 have c3:=b1.cell
 go_enter Tryz.func113,Tryz.ntmps113
 go_upto_region 1 with fail
 generalize ((w.alloc (.cells #[.int .i64 (d:Int)] 3)).alloc (.cells #[.slice ag ng cg] 27))=w2 at kA b1 c2 c3 ⊢
 go_wp2_with fail
 go_ret
 exact ⟨rfl,kA⟩
set_option maxHeartbeats 1000000 in
set_option maxRecDepth 100000 in
theorem rep1_go {w:World} {A J X m Nb At Gb j l nd rm d p fat:Nat} {capat:Array Value} {mo:Int} {lz:Bool} {ty:TypeId} {y:Value} {ag:Option Addr} {ng cg:Nat} {R:Nat→World→Prop} {I:Nat→Option Addr→Nat→Nat→Nat→World→Prop} {Q:Ending→World→Prop} (hd:d≤1000) (hne:¬ (d:Int)=mo) (hcf:CfOk fat)
  (hS :∀w1,Keeps (fun _=>False) w w1→At1 w1 w.heap.size 3 (.int .i64 (d:Int))→(w1.cell? ⟨A,0,none⟩=some (.pointer (some ⟨X,0,none⟩))∧w1.cell? ⟨J,0,none⟩=some (.int .i64 (j:Int))∧w1.cell? ⟨X,3,none⟩=some (.map (some m))∧w1.cell? ⟨Nb,0,none⟩=some (.int .i64 (l:Int))∧w1.cell? ⟨Nb,1,none⟩=some (.int .i64 mo)∧w1.cell? ⟨Nb,2,none⟩=some (.bool lz)∧w1.cell? ⟨Nb,3,none⟩=some (.iface ty y)∧w1.cell? ⟨w.heap.size,0,none⟩=some (.int .i64 (d:Int))))
  (hnd :∀w1,Calls Tryz.prog 114 #[.agg #[.int .i64 (l:Int),.int .i64 mo,.bool lz,.iface ty y],.int .i64 ((d:Int) + 1)] w1 (fun e w2=>e = .returned (.int .i64 (nd:Int))∧Keeps (fun _=>False) w1 w2))
  (hrm :∀w1,Calls Tryz.prog 115 #[.agg #[.int .i64 (l:Int),.int .i64 mo,.bool lz,.iface ty y],.int .i64 ((d:Int) + 1)] w1 (fun e w2=>e = .returned (.int .u8 (rm:Int))∧Keeps (fun _=>False) w1 w2))
  (hof :∀w1,Keeps (fun _=>False) w w1→At1 w1 w.heap.size 3 (.int .i64 (d:Int))→At1 w1 (w.heap.size + 1) 27 (.slice ag ng cg)→Calls Tryz.prog 109 #[.agg #[.map (some m)],.agg #[.int .i64 (j:Int),.int .i64 (nd:Int)]] w1 (fun e w2 =>∃r,e = .returned (.pointer (some ⟨r,0,none⟩))∧Hid (R r w2)∧(w2.cell? ⟨A,0,none⟩=some (.pointer (some ⟨X,0,none⟩))∧w2.cell? ⟨J,0,none⟩=some (.int .i64 (j:Int))∧w2.cell? ⟨X,3,none⟩=some (.map (some m))∧w2.cell? ⟨Nb,0,none⟩=some (.int .i64 (l:Int))∧w2.cell? ⟨Nb,1,none⟩=some (.int .i64 mo)∧w2.cell? ⟨Nb,2,none⟩=some (.bool lz)∧w2.cell? ⟨Nb,3,none⟩=some (.iface ty y)∧w2.cell? ⟨w.heap.size,0,none⟩=some (.int .i64 (d:Int)))))
  (hat :∀r w3 w4,R r w3→Keeps (fun _=>False) w3 w4→w4.cell? ⟨At,0,none⟩=some (.func (.func fat) #[] capat)∧Calls Tryz.prog fat (#[.int .i64 (p:Int)] ++ capat) w4 (fun e w5 =>∃ao n cp,e = .returned (.slice ao n cp)∧n≤1000∧Hid (I r ao n cp 0 w5)))
  (hone :∀r ao n cp i w',I r ao n cp i w'→i < n→∃(g q:Nat) (av:Option Addr) (nv cv:Nat),ao=some ⟨g,0,none⟩∧w'.cell? ⟨g,i * 2,none⟩=some (.int .i64 (q:Int))∧w'.cell? ⟨g,i * 2 + 1,none⟩=some (.slice av nv cv)∧w'.cell? ⟨Nb,0,none⟩=some (.int .i64 (l:Int))∧w'.cell? ⟨w.heap.size,0,none⟩=some (.int .i64 (d:Int))∧
   Hid ((l:Int)≤(d:Int)→(q:Int)=(p:Int)→∀w2,Keeps (fun _=>False) w' w2→I r ao n cp (i + 1) w2)∧
   Hid (¬ ((l:Int)≤(d:Int)∧(q:Int)=(p:Int))→∀w2 Eb,Keeps (fun _=>False) w' w2→w'.heap.size≤Eb→w2.heap[Eb]? = some (.cells #[.int .i64 (q:Int),.slice av nv cv] 83 (0,0))→
    Calls Tryz.prog 110 #[.pointer (some ⟨r,0,none⟩),.int .i64 (q:Int),.int .u8 (rm:Int),.func (.func 116) #[] #[.pointer (some ⟨Gb,0,none⟩),.pointer (some ⟨w.heap.size,0,none⟩),.pointer (some ⟨Eb,0,none⟩),.pointer (some ⟨w.heap.size + 1,0,none⟩)]] w2 (fun e w3 =>∃b,e = .returned (.bool b)∧Hid (b=true→I r ao n cp (i + 1) w3)∧Hid (b=false→Q (.returned (.bool false)) w3))))
  (hend :∀r ao n cp w',I r ao n cp n w'→Q (.returned (.bool true)) w') :
  Calls Tryz.prog 113 (#[.int .i64 (d:Int),.int .i64 (p:Int),.slice ag ng cg] ++ #[.pointer (some ⟨Nb,0,none⟩),.pointer (some ⟨A,0,none⟩),.pointer (some ⟨J,0,none⟩),.pointer (some ⟨At,0,none⟩),.pointer (some ⟨Gb,0,none⟩)]) w Q:=by
 unfold CfOk at hcf
 have hmf :∀(fn:Fn) (first cap:Array Value) (w:World),(Instr.makeFunc fn first cap).run Tryz.prog w = .ok (.func fn first cap) w:=fun _ _ _ _=>rfl
 have hwr:IntKind.i64.wrap ((d:Int) + 1)=(d:Int) + 1:=IntWalk.i64_in _ ⟨by omega,by omega⟩
 have kA:Keeps (fun _=>False) w ((w.alloc (.cells #[.int .i64 (d:Int)] 3)).alloc (.cells #[.slice ag ng cg] 27)):=((Keeps.refl _ w).alloc _).alloc _
 have b1:At1 ((w.alloc (.cells #[.int .i64 (d:Int)] 3)).alloc (.cells #[.slice ag ng cg] 27)) w.heap.size 3 (.int .i64 (d:Int)):=box1 w _ _
 have b2:At1 ((w.alloc (.cells #[.int .i64 (d:Int)] 3)).alloc (.cells #[.slice ag ng cg] 27)) (w.heap.size + 1) 27 (.slice ag ng cg):=box2 w _ _
 go_enter Tryz.func113,Tryz.ntmps113
 go_upto_region 1 with fail
 generalize ((w.alloc (.cells #[.int .i64 (d:Int)] 3)).alloc (.cells #[.slice ag ng cg] 27))=w2 at kA b1 b2 ⊢
 have kd:Keeps (fun _=>False) w w2.drew:=kA.drew
 have hS1:=hS w2 kA b1
 have hS0:=hS w2.drew kd b1
 obtain ⟨-,-,-,-,cmo,-,-,cdd⟩:=hS1
 have hnd2:=hnd w2.drew
 have hof2 :∀w3,Keeps (fun _=>False) w2.drew w3→Calls Tryz.prog 109 #[.agg #[.map (some m)],.agg #[.int .i64 (j:Int),.int .i64 (nd:Int)]] w3 (fun e w2 =>∃r,e = .returned (.pointer (some ⟨r,0,none⟩))∧Hid (R r w2)∧(w2.cell? ⟨A,0,none⟩=some (.pointer (some ⟨X,0,none⟩))∧w2.cell? ⟨J,0,none⟩=some (.int .i64 (j:Int))∧w2.cell? ⟨X,3,none⟩=some (.map (some m))∧w2.cell? ⟨Nb,0,none⟩=some (.int .i64 (l:Int))∧w2.cell? ⟨Nb,1,none⟩=some (.int .i64 mo)∧w2.cell? ⟨Nb,2,none⟩=some (.bool lz)∧w2.cell? ⟨Nb,3,none⟩=some (.iface ty y)∧w2.cell? ⟨w.heap.size,0,none⟩=some (.int .i64 (d:Int)))) :=
  fun w3 k3=>hof w3 (kd.trans k3) ((show At1 w2.drew _ _ _ from b1).keeps k3 (fun h=>h)) ((show At1 w2.drew _ _ _ from b2).keeps k3 (fun h=>h))
 clear hof hS hnd b1 b2 kA kd
 generalize w.heap.size=pb at *
 have HO:Hid (∀r ao n cp i w',I r ao n cp i w'→i < n→∃(g q:Nat) (av:Option Addr) (nv cv:Nat),ao=some ⟨g,0,none⟩∧w'.cell? ⟨g,i * 2,none⟩=some (.int .i64 (q:Int))∧w'.cell? ⟨g,i * 2 + 1,none⟩=some (.slice av nv cv)∧w'.cell? ⟨Nb,0,none⟩=some (.int .i64 (l:Int))∧w'.cell? ⟨pb,0,none⟩=some (.int .i64 (d:Int))∧
   Hid ((l:Int)≤(d:Int)→(q:Int)=(p:Int)→∀w2,Keeps (fun _=>False) w' w2→I r ao n cp (i + 1) w2)∧
   Hid (¬ ((l:Int)≤(d:Int)∧(q:Int)=(p:Int))→∀w2 Eb,Keeps (fun _=>False) w' w2→w'.heap.size≤Eb→w2.heap[Eb]? = some (.cells #[.int .i64 (q:Int),.slice av nv cv] 83 (0,0))→
    Calls Tryz.prog 110 #[.pointer (some ⟨r,0,none⟩),.int .i64 (q:Int),.int .u8 (rm:Int),.func (.func 116) #[] #[.pointer (some ⟨Gb,0,none⟩),.pointer (some ⟨pb,0,none⟩),.pointer (some ⟨Eb,0,none⟩),.pointer (some ⟨pb + 1,0,none⟩)]] w2 (fun e w3 =>∃b,e = .returned (.bool b)∧Hid (b=true→I r ao n cp (i + 1) w3)∧Hid (b=false→Q (.returned (.bool false)) w3)))):=hone
 have HAt:Hid (∀r w3 w4,R r w3→Keeps (fun _=>False) w3 w4→w4.cell? ⟨At,0,none⟩=some (.func (.func fat) #[] capat)∧Calls Tryz.prog fat (#[.int .i64 (p:Int)] ++ capat) w4 (fun e w5 =>∃ao n cp,e = .returned (.slice ao n cp)∧n≤1000∧Hid (I r ao n cp 0 w5))):=hat
 have HE:Hid (∀r ao n cp w',I r ao n cp n w'→Q (.returned (.bool true)) w'):=hend
 clear hone hat hend
 go_upto_region 3 with fail
 go_cut [12] from 17 (fun s wc =>∃r,s = .pointer (some ⟨r,0,none⟩)∧Hid (R r wc)∧(wc.cell? ⟨A,0,none⟩=some (.pointer (some ⟨X,0,none⟩))∧wc.cell? ⟨J,0,none⟩=some (.int .i64 (j:Int))∧wc.cell? ⟨X,3,none⟩=some (.map (some m))∧wc.cell? ⟨Nb,0,none⟩=some (.int .i64 (l:Int))∧wc.cell? ⟨Nb,1,none⟩=some (.int .i64 mo)∧wc.cell? ⟨Nb,2,none⟩=some (.bool lz)∧wc.cell? ⟨Nb,3,none⟩=some (.iface ty y)∧wc.cell? ⟨pb,0,none⟩=some (.int .i64 (d:Int))))
 case first =>
  go_region_held3 (fun w'=>(w'.cell? ⟨A,0,none⟩=some (.pointer (some ⟨X,0,none⟩))∧w'.cell? ⟨J,0,none⟩=some (.int .i64 (j:Int))∧w'.cell? ⟨X,3,none⟩=some (.map (some m))∧w'.cell? ⟨Nb,0,none⟩=some (.int .i64 (l:Int))∧w'.cell? ⟨Nb,1,none⟩=some (.int .i64 mo)∧w'.cell? ⟨Nb,2,none⟩=some (.bool lz)∧w'.cell? ⟨Nb,3,none⟩=some (.iface ty y)∧w'.cell? ⟨pb,0,none⟩=some (.int .i64 (d:Int)))) (first | assumption | go_keep) (first
   | ((try rw [hwr]); go_at_call 114; refine hnd2.mono ?_; rintro e w3 ⟨rfl,hk3⟩; have hS3:(w3.cell? ⟨A,0,none⟩=some (.pointer (some ⟨X,0,none⟩))∧w3.cell? ⟨J,0,none⟩=some (.int .i64 (j:Int))∧w3.cell? ⟨X,3,none⟩=some (.map (some m))∧w3.cell? ⟨Nb,0,none⟩=some (.int .i64 (l:Int))∧w3.cell? ⟨Nb,1,none⟩=some (.int .i64 mo)∧w3.cell? ⟨Nb,2,none⟩=some (.bool lz)∧w3.cell? ⟨Nb,3,none⟩=some (.iface ty y)∧w3.cell? ⟨pb,0,none⟩=some (.int .i64 (d:Int))):=⟨cell_keeps hS0.1 hk3,cell_keeps hS0.2.1 hk3,cell_keeps hS0.2.2.1 hk3,cell_keeps hS0.2.2.2.1 hk3,cell_keeps hS0.2.2.2.2.1 hk3,cell_keeps hS0.2.2.2.2.2.1 hk3,cell_keeps hS0.2.2.2.2.2.2.1 hk3,cell_keeps hS0.2.2.2.2.2.2.2 hk3⟩; have hof3:=hof2 w3 hk3; clear hof2)
   | (go_at_call 109; refine hof3.mono ?_; rintro e w4 ⟨r,rfl,HR,hS4⟩))
  all_goals (try go_wp2_with fail)
  all_goals go_meet
  all_goals exact ⟨r,rfl,HR,hS4⟩
 case rest =>
  obtain ⟨r,rfl,HR,-,-,-,n0,n1,n2,n3,dc⟩:=hcut
  clear hnd2 hof2 hS0 cmo cdd
  have hrm3:=hrm wc
  go_wp2_with (first
   | ((try rw [hwr]); go_at_call 115; refine hrm3.mono ?_; rintro e w4 ⟨rfl,hk4⟩; obtain ⟨cat,hat⟩:=HAt.out r wc w4 HR.out hk4)
   | ((with_reducible (refine hat.mono ?_)); rintro e w5 ⟨ao,n,cp,rfl,hn,HI⟩))
  clear hrm hrm3 HAt HR n0 n1 n2 n3 dc hwr hne
  go_loopg [15,16,40] (n + 1) (fun gl _ _ s40 wr =>∃k:Nat,k + gl=n + 1∧k≤n∧s40 = .int .i64 (k:Int)∧Hid (I r ao n cp k wr))
  case atStart=>exact ⟨0,by omega,by omega,rfl,HI⟩
  case round =>
   clear HI
   obtain ⟨k,hgl,hk,rfl,HI⟩:=hrel
   have HG:Hid (k + gk=n + 1):=hgl
   clear hgl
   by_cases hlt:k < n
   ·have hz:(k:Int) < (n:Int):=by omega
    obtain ⟨g,q,av,nv,cv,rfl,e0,e1,cn0,cd,HSk,HV⟩:=HO.out r ao n cp k wr HI.out hlt
    clear HO HE HI
    go_upto_region 8 with fail
    have kB:Keeps (fun _=>False) wr (wr.alloc (.cells #[.int .i64 (q:Int),.slice av nv cv] 83)):=(Keeps.refl _ wr).alloc _
    have hb:(wr.alloc (.cells #[.int .i64 (q:Int),.slice av nv cv] 83)).heap[wr.heap.size]? = _:=heap_alloc_new _ _
    generalize (wr.alloc (.cells #[.int .i64 (q:Int),.slice av nv cv] 83))=w6 at kB hb ⊢
    have hEb:wr.heap.size≤wr.heap.size:=Nat.le_refl _
    have f0:w6.cell? ⟨wr.heap.size,0,none⟩=some (.int .i64 (q:Int)):=by rw [cell_of hb]; rfl
    have f1:=cell_keeps cn0 kB
    have f2:=cell_keeps cd kB
    clear e0 e1 cn0 cd
    by_cases h1:(l:Int)≤(d:Int)
    ·by_cases h2:(q:Int)=(p:Int)
     ·have HN:Hid (I r (some ⟨g,0,none⟩) n cp (k + 1) w6):=HSk.out h1 h2 w6 kB
      clear HSk HV hb
      generalize wr.heap.size=eb at *
      go_wp2_with fail
      go_roundg (gk - 1)
      case measure=>have:=HG.out; omega
      case rel=>exact ⟨k + 1,by have:=HG.out; omega,by omega,congrArg (Value.int .i64) (by omega),HN⟩
     ·have hvis:=HV.out (fun h=>h2 h.2) w6 wr.heap.size kB hEb hb
      clear HSk HV hb
      generalize wr.heap.size=eb at *
      go_wp2_with (go_at_call 110; refine hvis.mono ?_; rintro e w7 ⟨b,rfl,HT,HF⟩; cases b)
      ·exact HF.out (by first | exact trivial | rfl)
      ·go_roundg (gk - 1)
       case measure=>have:=HG.out; omega
       case rel=>exact ⟨k + 1,by have:=HG.out; omega,by omega,congrArg (Value.int .i64) (by omega),HT.out (by first | exact trivial | rfl)⟩
    ·have hvis:=HV.out (fun h=>h1 h.1) w6 wr.heap.size kB hEb hb
     clear HSk HV hb
     generalize wr.heap.size=eb at *
     go_wp2_with (go_at_call 110; refine hvis.mono ?_; rintro e w7 ⟨b,rfl,HT,HF⟩; cases b)
     ·exact HF.out (by first | exact trivial | rfl)
     ·go_roundg (gk - 1)
      case measure=>have:=HG.out; omega
      case rel=>exact ⟨k + 1,by have:=HG.out; omega,by omega,congrArg (Value.int .i64) (by omega),HT.out (by first | exact trivial | rfl)⟩
   ·obtain rfl:k=n:=by omega
    have hQ:=HE.out r ao k cp wr HI.out
    clear HO HE HI
    go_wp2
    exact hQ
end Go.Proofs.YthkmmeamplmnhaaGreat
