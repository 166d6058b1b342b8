import Derived.Test.YthkmmeamplmnhaaGreatYl
namespace Go.Proofs.YthkmmeamplmnhaaGreat
open Go.RowKit
set_option linter.unusedVariables false
def AltNext (I:Nat→Value→World→Prop) (S i:Nat) (v:Value) (e:Ending) (w2:World):Prop :=
 ∃fn2 cap2 ao m cp u w3,e = .returned (.func (.func fn2) #[] cap2)∧w2.cell? ⟨S,0,none⟩=some v∧Sem.run Tryz.prog (Builtin.append_ #[181,181] 181 #[v,.slice (some ⟨w2.heap.size,0,none⟩) 1 1]) (w2.alloc (.cells #[.func (.func fn2) #[] cap2] 119)) = .ok (.slice ao m cp) w3∧w3.cell? ⟨S,0,none⟩=some u∧w3.frozen? ⟨S,0,none⟩=false∧Hid (I (i + 1) (.slice ao m cp) (w3.setCell ⟨S,0,none⟩ (.slice ao m cp)))
set_option maxHeartbeats 800000 in
set_option maxRecDepth 100000 in
theorem altB_go {w:World} {X n g c fn:Nat} {cap:Array Value} {I:Nat→Value→World→Prop} {Q:Ending→World→Prop} (hn:n≤1000) (h0:I 0 (.slice none 0 0) (w.alloc (.cells #[.slice none 0 0] 181)))
  (hstep :∀i v wi,I i v wi→i < n→(∃ao m cp,v = .slice ao m cp)∧wi.cell? ⟨w.heap.size,0,none⟩=some v∧∃ty y,wi.cell? ⟨g,i,none⟩=some (.iface ty y)∧Calls Tryz.prog 76 #[.pointer (some ⟨X,0,none⟩),.iface ty y,.func (.func fn) #[] cap] wi.drew (AltNext I w.heap.size i v))
  (hQ :∀v wi,I n v wi→Q (.returned (.func (.func 106) #[] #[.pointer (some ⟨w.heap.size,0,none⟩)])) wi) :
  Calls Tryz.prog 85 #[.pointer (some ⟨X,0,none⟩),.slice (some ⟨g,0,none⟩) n c,.func (.func fn) #[] cap] w Q:=by
 have hmf :∀(fn:Fn) (first cap:Array Value) (w:World),(Instr.makeFunc fn first cap).run Tryz.prog w = .ok (.func fn first cap) w:=fun _ _ _ _=>rfl
 have HI:Hid (∀i v wi,I i v wi→i < n→(∃ao m cp,v = .slice ao m cp)∧wi.cell? ⟨w.heap.size,0,none⟩=some v∧∃ty y,wi.cell? ⟨g,i,none⟩=some (.iface ty y)∧Calls Tryz.prog 76 #[.pointer (some ⟨X,0,none⟩),.iface ty y,.func (.func fn) #[] cap] wi.drew (AltNext I w.heap.size i v)):=hstep
 have HQ:Hid (∀v wi,I n v wi→Q (.returned (.func (.func 106) #[] #[.pointer (some ⟨w.heap.size,0,none⟩)])) wi):=hQ
 have H0:Hid (I 0 (.slice none 0 0) (w.alloc (.cells #[.slice none 0 0] 181))):=h0
 clear hstep hQ h0
 go_enter Tryz.func85,Tryz.ntmps85
 go_upto_region 2 with fail
 generalize (w.alloc (.cells #[.slice none 0 0] 181))=w1 at H0 ⊢
 generalize w.heap.size=S at HI HQ ⊢
 go_wp2
 go_loopg [9,12] (n + 1) (fun gl _ s12 wr =>∃(k:Nat) (v:Value),k + gl=n + 1∧k≤n∧s12 = .int .i64 (k:Int)∧Hid (I k v wr))
 case atStart=>exact ⟨0,_,by omega,by omega,rfl,H0⟩
 case round =>
  clear H0
  obtain ⟨k,v,hgl,hk,rfl,HIk⟩:=hrel
  have HG:Hid (k + gk=n + 1):=hgl
  clear hgl
  by_cases hlt:k < n
  ·have hz:(k:Int) < (n:Int):=by omega
   obtain ⟨⟨ao,m,cp,rfl⟩,hS0,ty,y,hc,hcall⟩:=HI.out k v wr HIk.out hlt
   clear HI HQ HIk
   unfold AltNext at hcall
   go_upto_region 5 with fail
   have hS1:wr.drew.cell? ⟨S,0,none⟩=some (.slice ao m cp):=hS0
   clear hS0 hc
   go_region_law (first
    | (refine step_append_run rfl _ _ _ _ rfl rfl _ _ _ _ rfl rfl hrun ?_)
    | (go_simp; go_wp2_with (go_at_call 76; refine hcall.mono ?_; rintro e w2 ⟨fn2,cap2,ao2,m2,cp2,u,w3,rfl,cS2,hrun,cS3,fS3,HN⟩; have cS4:=cell_keeps cS2 ((Keeps.refl (fun _=>False) w2).alloc (.cells #[.func (.func fn2) #[] cap2] 119)); have hst:(store ⟨S,0,none⟩ (.slice ao2 m2 cp2)).run Tryz.prog w3 = .ok () (w3.setCell ⟨S,0,none⟩ (.slice ao2 m2 cp2)):=(by rw [run_store _ _ _ _ _ rfl]; simp [cS3,fS3,go_sem]))))
   all_goals go_wp2
   all_goals go_roundg (gk - 1)
   all_goals first
    | (case measure=>have:=HG.out; omega)
    | skip
   all_goals exact ⟨k + 1,_,by have:=HG.out; omega,by omega,congrArg (Value.int .i64) (by omega),HN⟩
  ·obtain rfl:k=n:=by omega
   have hq:=HQ.out v wr HIk.out
   clear HI HQ HIk
   go_wp2
   exact hq
structure Rb3 (w':World) (b X fn:Nat) (cap:Array Value) (lo hi:Int) (lz:Bool) (ty:TypeId) (y:Value):Prop where
 a:At1 w' b 61 (.pointer (some ⟨X,0,none⟩))
 n:w'.heap[b + 1]? = some (.cells #[.int .i64 lo,.int .i64 hi,.bool lz,.iface ty y] 153 (0,0))
 c:At1 w' (b + 2) 119 (.func (.func fn) #[] cap)
theorem cell_put_new {w4 w6:World} {b i:Nat} {v0 v u:Value} (h4:w4.cell? ⟨b,i,none⟩=some v0) (h6:w6.cell? ⟨b,i,none⟩=some v):(w6.setCell ⟨w4.heap.size,0,none⟩ u).cell? ⟨b,i,none⟩=some v:=by
 have hlt:b < w4.heap.size:=by
  apply Decidable.byContradiction
  intro hc
  unfold World.cell? at h4
  simp only at h4
  rw [Array.getElem?_eq_none (by omega)] at h4
  simp at h4
 unfold World.cell? at h6 ⊢
 simp only at h6 ⊢
 rw [Below.heap_setCell _ _ _ _ (by simp; omega)]
 exact h6
def AtAt (w2 w3 w4 w5 w6:World) (At:Nat):Prop:=(w2.heap.size < At∧At < w3.heap.size)∨(w4.heap.size≤At∧At < w5.heap.size)∨w6.heap.size≤At
set_option maxHeartbeats 1000000 in
set_option maxRecDepth 100000 in
theorem repB_go {w:World} {X fn:Nat} {cap:Array Value} {lo hi:Int} {lz:Bool} {ty:TypeId} {y:Value} {u:ByteArray} {an:Option Addr} {G cn:Nat} {j:Int} {R1:World→Prop} {R2:Nat→World→World→World→Prop} {R3:Nat→Array Value→World→World→World→World→World→Prop} {Q:Ending→World→Prop}
  (hjoint :∀w1,Keeps (fun _=>False) w w1→Rb3 w1 w.heap.size X fn cap lo hi lz ty y→Calls Tryz.prog 107 #[.pointer (some ⟨X,0,none⟩)] w1 (fun e w2=>e = .returned (.int .i64 j)∧Hid (R1 w2)∧Rb3 w2 w.heap.size X fn cap lo hi lz ty y∧w2.cell? ⟨X,0,none⟩=some (.string u)∧w2.cell? ⟨X,1,none⟩=some (.slice an G cn)))
  (hnew :∀w2 w3,R1 w2→Keeps (fun _=>False) w2 w3→At1 w3 w2.heap.size 3 (.int .i64 j)→Calls Tryz.prog 54 #[.string u,.int .i64 (G:Int),.iface ty y] w3 (fun e w4 =>∃X2,e = .returned (.pointer (some ⟨X2,0,none⟩))∧Hid (R2 X2 w2 w3 w4)∧Keeps (fun _=>False) w3 w4))
  (hrem :∀X2 w2 w3 w4 w5,R2 X2 w2 w3 w4→Keeps (fun _=>False) w4 w5→Calls Tryz.prog 112 #[.pointer (some ⟨X2,0,none⟩)] w5 (fun e w6 =>∃fat capat,e = .returned (.func (.func fat) #[] capat)∧Hid (R3 fat capat w2 w3 w4 w5 w6)∧Keeps (fun _=>False) w5 w6))
  (hQ :∀fat capat w2 w3 w4 w5 w6 w7 At,R3 fat capat w2 w3 w4 w5 w6→AtAt w2 w3 w4 w5 w6 At→Keeps (fun k=>k=At) w6 w7→At1 w7 At 185 (.func (.func fat) #[] capat)→
   Q (.returned (.func (.func 119) #[] #[.pointer (some ⟨w.heap.size,0,none⟩),.pointer (some ⟨w2.heap.size,0,none⟩),.pointer (some ⟨w.heap.size + 1,0,none⟩),.pointer (some ⟨w7.heap.size,0,none⟩)]))
     ((w7.alloc (.cells #[.func (.func 118) #[] #[.pointer (some ⟨w.heap.size + 1,0,none⟩),.pointer (some ⟨w7.heap.size + 1,0,none⟩),.pointer (some ⟨w.heap.size + 1 + 1,0,none⟩)]] 187)).alloc (.cells #[.func (.func 113) #[] #[.pointer (some ⟨w.heap.size + 1,0,none⟩),.pointer (some ⟨w.heap.size,0,none⟩),.pointer (some ⟨w2.heap.size,0,none⟩),.pointer (some ⟨At,0,none⟩),.pointer (some ⟨w7.heap.size,0,none⟩)]] 187))) :
  Calls Tryz.prog 87 #[.pointer (some ⟨X,0,none⟩),.agg #[.int .i64 lo,.int .i64 hi,.bool lz,.iface ty y],.func (.func fn) #[] cap] w Q:=by
 have hmf :∀(fn:Fn) (first cap:Array Value) (w:World),(Instr.makeFunc fn first cap).run Tryz.prog w = .ok (.func fn first cap) w:=fun _ _ _ _=>rfl
 obtain ⟨b1,b2,b3⟩:=box3 w (.cells #[.pointer (some ⟨X,0,none⟩)] 61) (.cells #[.int .i64 lo,.int .i64 hi,.bool lz,.iface ty y] 153) (.cells #[.func (.func fn) #[] cap] 119)
 have kA:Keeps (fun _=>False) w (((w.alloc (.cells #[.pointer (some ⟨X,0,none⟩)] 61)).alloc (.cells #[.int .i64 lo,.int .i64 hi,.bool lz,.iface ty y] 153)).alloc (.cells #[.func (.func fn) #[] cap] 119)):=(((Keeps.refl _ w).alloc _).alloc _).alloc _
 have hj:=hjoint _ kA ⟨b1,b2,b3⟩
 have c1:=(show At1 _ w.heap.size 61 (.pointer (some ⟨X,0,none⟩)) from b1).cell
 have HN:Hid (∀w2 w3,R1 w2→Keeps (fun _=>False) w2 w3→At1 w3 w2.heap.size 3 (.int .i64 j)→Calls Tryz.prog 54 #[.string u,.int .i64 (G:Int),.iface ty y] w3 (fun e w4 =>∃X2,e = .returned (.pointer (some ⟨X2,0,none⟩))∧Hid (R2 X2 w2 w3 w4)∧Keeps (fun _=>False) w3 w4)):=hnew
 have HR:Hid (∀X2 w2 w3 w4 w5,R2 X2 w2 w3 w4→Keeps (fun _=>False) w4 w5→Calls Tryz.prog 112 #[.pointer (some ⟨X2,0,none⟩)] w5 (fun e w6 =>∃fat capat,e = .returned (.func (.func fat) #[] capat)∧Hid (R3 fat capat w2 w3 w4 w5 w6)∧Keeps (fun _=>False) w5 w6)):=hrem
 have HQ:Hid (∀fat capat w2 w3 w4 w5 w6 w7 At,R3 fat capat w2 w3 w4 w5 w6→AtAt w2 w3 w4 w5 w6 At→Keeps (fun k=>k=At) w6 w7→At1 w7 At 185 (.func (.func fat) #[] capat)→
   Q (.returned (.func (.func 119) #[] #[.pointer (some ⟨w.heap.size,0,none⟩),.pointer (some ⟨w2.heap.size,0,none⟩),.pointer (some ⟨w.heap.size + 1,0,none⟩),.pointer (some ⟨w7.heap.size,0,none⟩)]))
     ((w7.alloc (.cells #[.func (.func 118) #[] #[.pointer (some ⟨w.heap.size + 1,0,none⟩),.pointer (some ⟨w7.heap.size + 1,0,none⟩),.pointer (some ⟨w.heap.size + 1 + 1,0,none⟩)]] 187)).alloc (.cells #[.func (.func 113) #[] #[.pointer (some ⟨w.heap.size + 1,0,none⟩),.pointer (some ⟨w.heap.size,0,none⟩),.pointer (some ⟨w2.heap.size,0,none⟩),.pointer (some ⟨At,0,none⟩),.pointer (some ⟨w7.heap.size,0,none⟩)]] 187))):=hQ
 clear hjoint hnew hrem hQ b1 b2 b3 kA
 go_enter Tryz.func87,Tryz.ntmps87
 go_upto_region 1 with fail
 generalize (((w.alloc (.cells #[.pointer (some ⟨X,0,none⟩)] 61)).alloc (.cells #[.int .i64 lo,.int .i64 hi,.bool lz,.iface ty y] 153)).alloc (.cells #[.func (.func fn) #[] cap] 119))=w1 at hj c1 ⊢
 go_upto_region 2 with (go_at_call 107; refine hj.mono ?_; rintro e w2 ⟨rfl,HR1,hB2,cu,cn2⟩)
 have kJ:Keeps (fun _=>False) w2 (w2.alloc (.cells #[.int .i64 j] 3)):=(Keeps.refl _ w2).alloc _
 have bJ:At1 (w2.alloc (.cells #[.int .i64 j] 3)) w2.heap.size 3 (.int .i64 j):=heap_alloc_new _ _
 have kD:Keeps (fun _=>False) w2 (w2.alloc (.cells #[.int .i64 j] 3)).drew:=kJ.drew
 have kE:Keeps (fun _=>False) w2 ((w2.alloc (.cells #[.int .i64 j] 3)).drew.alloc (.cells #[.nilFunc] 185)):=kD.alloc _
 have hnA:=HN.out w2 _ HR1.out kD bJ
 have hnB:=HN.out w2 _ HR1.out kE (bJ.keeps (((Keeps.refl (fun _=>False) _).drew).alloc _) (fun h=>h))
 have hB3:Rb3 (w2.alloc (.cells #[.int .i64 j] 3)).drew w.heap.size X fn cap lo hi lz ty y:=⟨hB2.a.keeps kD (fun h=>h),(kD.block _ (lt_of_block hB2.n) (fun h=>h)).trans hB2.n,hB2.c.keeps kD (fun h=>h)⟩
 have hS0:((w2.alloc (.cells #[.int .i64 j] 3)).drew.cell? ⟨w.heap.size,0,none⟩=some (.pointer (some ⟨X,0,none⟩))∧(w2.alloc (.cells #[.int .i64 j] 3)).drew.cell? ⟨X,0,none⟩=some (.string u)∧(w2.alloc (.cells #[.int .i64 j] 3)).drew.cell? ⟨X,1,none⟩=some (.slice an G cn)∧(w2.alloc (.cells #[.int .i64 j] 3)).drew.cell? ⟨w.heap.size + 1,3,none⟩=some (.iface ty y)):=⟨hB3.a.cell,cell_keeps cu kD,cell_keeps cn2 kD,by rw [cell_of hB3.n]; rfl⟩
 have hszJ:w2.heap.size < (w2.alloc (.cells #[.int .i64 j] 3)).heap.size:=bJ.lt
 clear hB2 hB3 cu cn2 bJ kJ hj c1
 generalize hJb:w2.heap.size=Jb at *
 generalize (w2.alloc (.cells #[.int .i64 j] 3))=w3 at *
 generalize hA:w.heap.size=A at *
 have kF:Keeps (fun _=>False) w3.drew (w3.drew.alloc (.cells #[.nilFunc] 185)):=(Keeps.refl _ _).alloc _
 have bF:At1 (w3.drew.alloc (.cells #[.nilFunc] 185)) w3.heap.size 185 .nilFunc:=heap_alloc_new w3.drew _
 have hS0':((w3.drew.alloc (.cells #[.nilFunc] 185)).cell? ⟨A,0,none⟩=some (.pointer (some ⟨X,0,none⟩))∧(w3.drew.alloc (.cells #[.nilFunc] 185)).cell? ⟨X,0,none⟩=some (.string u)∧(w3.drew.alloc (.cells #[.nilFunc] 185)).cell? ⟨X,1,none⟩=some (.slice an G cn)∧(w3.drew.alloc (.cells #[.nilFunc] 185)).cell? ⟨A + 1,3,none⟩=some (.iface ty y)):=⟨cell_keeps hS0.1 kF,cell_keeps hS0.2.1 kF,cell_keeps hS0.2.2.1 kF,cell_keeps hS0.2.2.2 kF⟩
 go_region_held3 (fun w'=>(w'.cell? ⟨A,0,none⟩=some (.pointer (some ⟨X,0,none⟩))∧w'.cell? ⟨X,0,none⟩=some (.string u)∧w'.cell? ⟨X,1,none⟩=some (.slice an G cn)∧w'.cell? ⟨A + 1,3,none⟩=some (.iface ty y))) (first | assumption | go_keep) (first
  | (go_at_call 54; refine hnA.mono ?_; rintro e w4 ⟨X2,rfl,HR2,hk4⟩; have hS4:(w4.cell? ⟨A,0,none⟩=some (.pointer (some ⟨X,0,none⟩))∧w4.cell? ⟨X,0,none⟩=some (.string u)∧w4.cell? ⟨X,1,none⟩=some (.slice an G cn)∧w4.cell? ⟨A + 1,3,none⟩=some (.iface ty y)):=⟨cell_keeps hS0.1 hk4,cell_keeps hS0.2.1 hk4,cell_keeps hS0.2.2.1 hk4,cell_keeps hS0.2.2.2 hk4⟩; have hrA:=HR.out X2 _ _ w4 w4 HR2.out (Keeps.refl _ _); have hrB:=HR.out X2 _ _ w4 (w4.alloc (.cells #[.nilFunc] 185)) HR2.out ((Keeps.refl _ _).alloc _); have bG:At1 (w4.alloc (.cells #[.nilFunc] 185)) w4.heap.size 185 .nilFunc:=heap_alloc_new w4 _; have kG:Keeps (fun _=>False) w4 (w4.alloc (.cells #[.nilFunc] 185)):=(Keeps.refl _ _).alloc _)
  | (go_at_call 54; refine hnB.mono ?_; rintro e w4 ⟨X2,rfl,HR2,hk4⟩; have hS4:(w4.cell? ⟨A,0,none⟩=some (.pointer (some ⟨X,0,none⟩))∧w4.cell? ⟨X,0,none⟩=some (.string u)∧w4.cell? ⟨X,1,none⟩=some (.slice an G cn)∧w4.cell? ⟨A + 1,3,none⟩=some (.iface ty y)):=⟨cell_keeps hS0'.1 hk4,cell_keeps hS0'.2.1 hk4,cell_keeps hS0'.2.2.1 hk4,cell_keeps hS0'.2.2.2 hk4⟩; have hrC:=HR.out X2 _ _ w4 w4 HR2.out (Keeps.refl _ _); have bH:=bF.keeps hk4 (fun h=>h))
  | (go_at_call 112; refine hrA.mono ?_; rintro e w6 ⟨fat,capat,rfl,HRA,hk6⟩; have hS6:(w6.cell? ⟨A,0,none⟩=some (.pointer (some ⟨X,0,none⟩))∧w6.cell? ⟨X,0,none⟩=some (.string u)∧w6.cell? ⟨X,1,none⟩=some (.slice an G cn)∧w6.cell? ⟨A + 1,3,none⟩=some (.iface ty y)):=⟨cell_keeps hS4.1 hk6,cell_keeps hS4.2.1 hk6,cell_keeps hS4.2.2.1 hk6,cell_keeps hS4.2.2.2 hk6⟩; have hst:=store_new (P:=Tryz.prog) w6 .nilFunc (.func (.func fat) #[] capat) 185 rfl)
  | (go_at_call 112; refine hrB.mono ?_; rintro e w6 ⟨fat,capat,rfl,HRB,hk6⟩; have hS6:(w6.cell? ⟨A,0,none⟩=some (.pointer (some ⟨X,0,none⟩))∧w6.cell? ⟨X,0,none⟩=some (.string u)∧w6.cell? ⟨X,1,none⟩=some (.slice an G cn)∧w6.cell? ⟨A + 1,3,none⟩=some (.iface ty y)):=⟨cell_keeps hS4.1 (kG.trans hk6),cell_keeps hS4.2.1 (kG.trans hk6),cell_keeps hS4.2.2.1 (kG.trans hk6),cell_keeps hS4.2.2.2 (kG.trans hk6)⟩; have bG6:=bG.keeps hk6 (fun h=>h); have hst:(store ⟨w4.heap.size,0,none⟩ (.func (.func fat) #[] capat)).run Tryz.prog w6 = .ok () (w6.setCell ⟨w4.heap.size,0,none⟩ (.func (.func fat) #[] capat)):=(by rw [run_store _ _ _ _ _ rfl]; simp [bG6.cell,free_of bG6,go_sem]); have hS7:((w6.setCell ⟨w4.heap.size,0,none⟩ (.func (.func fat) #[] capat)).cell? ⟨A,0,none⟩=some (.pointer (some ⟨X,0,none⟩))∧(w6.setCell ⟨w4.heap.size,0,none⟩ (.func (.func fat) #[] capat)).cell? ⟨X,0,none⟩=some (.string u)∧(w6.setCell ⟨w4.heap.size,0,none⟩ (.func (.func fat) #[] capat)).cell? ⟨X,1,none⟩=some (.slice an G cn)∧(w6.setCell ⟨w4.heap.size,0,none⟩ (.func (.func fat) #[] capat)).cell? ⟨A + 1,3,none⟩=some (.iface ty y)):=⟨cell_put_new hS4.1 hS6.1,cell_put_new hS4.2.1 hS6.2.1,cell_put_new hS4.2.2.1 hS6.2.2.1,cell_put_new hS4.2.2.2 hS6.2.2.2⟩)
  | (go_at_call 112; refine hrC.mono ?_; rintro e w6 ⟨fat,capat,rfl,HRC,hk6⟩; have hS6:(w6.cell? ⟨A,0,none⟩=some (.pointer (some ⟨X,0,none⟩))∧w6.cell? ⟨X,0,none⟩=some (.string u)∧w6.cell? ⟨X,1,none⟩=some (.slice an G cn)∧w6.cell? ⟨A + 1,3,none⟩=some (.iface ty y)):=⟨cell_keeps hS4.1 hk6,cell_keeps hS4.2.1 hk6,cell_keeps hS4.2.2.1 hk6,cell_keeps hS4.2.2.2 hk6⟩; have bH6:=bH.keeps hk6 (fun h=>h); have hst:(store ⟨w3.heap.size,0,none⟩ (.func (.func fat) #[] capat)).run Tryz.prog w6 = .ok () (w6.setCell ⟨w3.heap.size,0,none⟩ (.func (.func fat) #[] capat)):=(by rw [run_store _ _ _ _ _ rfl]; simp [bH6.cell,free_of bH6,go_sem]); have hS7:((w6.setCell ⟨w3.heap.size,0,none⟩ (.func (.func fat) #[] capat)).cell? ⟨A,0,none⟩=some (.pointer (some ⟨X,0,none⟩))∧(w6.setCell ⟨w3.heap.size,0,none⟩ (.func (.func fat) #[] capat)).cell? ⟨X,0,none⟩=some (.string u)∧(w6.setCell ⟨w3.heap.size,0,none⟩ (.func (.func fat) #[] capat)).cell? ⟨X,1,none⟩=some (.slice an G cn)∧(w6.setCell ⟨w3.heap.size,0,none⟩ (.func (.func fat) #[] capat)).cell? ⟨A + 1,3,none⟩=some (.iface ty y)):=⟨cell_put_new (w4:=w3.drew) hS0.1 hS6.1,cell_put_new (w4:=w3.drew) hS0.2.1 hS6.2.1,cell_put_new (w4:=w3.drew) hS0.2.2.1 hS6.2.2.1,cell_put_new (w4:=w3.drew) hS0.2.2.2 hS6.2.2.2⟩))
 all_goals first
  | (have hX:=HQ.out fat capat w2 _ _ _ w6 (w6.alloc (.cells #[.func (.func fat) #[] capat] 185)) w6.heap.size HRA.out (Or.inr (Or.inr (Nat.le_refl _))) ((Keeps.refl _ _).alloc _) (heap_alloc_new _ _)
     rw [hJb] at hX
     clear hst hS6 hS4 hS0 hS0' HQ HR HN
     try clear hS7
     generalize (w6.alloc (.cells #[.func (.func fat) #[] capat] 185))=w7 at hX ⊢
     generalize w6.heap.size=At at hX ⊢
     have hs1:=store_new (P:=Tryz.prog) (w7.alloc (.cells #[.nilFunc] 187)) .nilFunc (.func (.func 113) #[] #[.pointer (some ⟨A + 1,0,none⟩),.pointer (some ⟨A,0,none⟩),.pointer (some ⟨Jb,0,none⟩),.pointer (some ⟨At,0,none⟩),.pointer (some ⟨w7.heap.size,0,none⟩)]) 187 rfl
     simp only [World.size_alloc] at hs1
     have bS:At1 ((w7.alloc (.cells #[.nilFunc] 187)).alloc (.cells #[.func (.func 113) #[] #[.pointer (some ⟨A + 1,0,none⟩),.pointer (some ⟨A,0,none⟩),.pointer (some ⟨Jb,0,none⟩),.pointer (some ⟨At,0,none⟩),.pointer (some ⟨w7.heap.size,0,none⟩)]] 187)) w7.heap.size 187 .nilFunc:=box1 w7 _ _
     have hs2 :∀f:Value,f.oneCell'=true→(store ⟨w7.heap.size,0,none⟩ f).run Tryz.prog ((w7.alloc (.cells #[.nilFunc] 187)).alloc (.cells #[.func (.func 113) #[] #[.pointer (some ⟨A + 1,0,none⟩),.pointer (some ⟨A,0,none⟩),.pointer (some ⟨Jb,0,none⟩),.pointer (some ⟨At,0,none⟩),.pointer (some ⟨w7.heap.size,0,none⟩)]] 187)) = .ok () (((w7.alloc (.cells #[.nilFunc] 187)).alloc (.cells #[.func (.func 113) #[] #[.pointer (some ⟨A + 1,0,none⟩),.pointer (some ⟨A,0,none⟩),.pointer (some ⟨Jb,0,none⟩),.pointer (some ⟨At,0,none⟩),.pointer (some ⟨w7.heap.size,0,none⟩)]] 187)).setCell ⟨w7.heap.size,0,none⟩ f):=fun f hf=>by rw [run_store _ _ _ _ _ hf]; simp [bS.cell,free_of bS,go_sem]
     have hs3:=hs2 (.func (.func 118) #[] #[.pointer (some ⟨A + 1,0,none⟩),.pointer (some ⟨w7.heap.size + 1,0,none⟩),.pointer (some ⟨A + 1 + 1,0,none⟩)]) rfl
     clear hs2 bS
     go_wp2_with fail
     exact hX)
  | (have hX:=HQ.out fat capat w2 _ _ _ w6 (w6.setCell ⟨w4.heap.size,0,none⟩ (.func (.func fat) #[] capat)) w4.heap.size HRB.out (Or.inr (Or.inl ⟨Nat.le_refl _,bG.lt⟩)) (keeps_setCell _ _ _ _) (by show _ = _; rw [heap_setCell_same _ _ _ _ _ _ bG6]; rfl)
     rw [hJb] at hX
     clear hst hS6 hS4 hS0 hS0' HQ HR HN
     try clear hS7
     generalize (w6.setCell ⟨w4.heap.size,0,none⟩ (.func (.func fat) #[] capat))=w7 at hX ⊢
     generalize w4.heap.size=At at hX ⊢
     have hs1:=store_new (P:=Tryz.prog) (w7.alloc (.cells #[.nilFunc] 187)) .nilFunc (.func (.func 113) #[] #[.pointer (some ⟨A + 1,0,none⟩),.pointer (some ⟨A,0,none⟩),.pointer (some ⟨Jb,0,none⟩),.pointer (some ⟨At,0,none⟩),.pointer (some ⟨w7.heap.size,0,none⟩)]) 187 rfl
     simp only [World.size_alloc] at hs1
     have bS:At1 ((w7.alloc (.cells #[.nilFunc] 187)).alloc (.cells #[.func (.func 113) #[] #[.pointer (some ⟨A + 1,0,none⟩),.pointer (some ⟨A,0,none⟩),.pointer (some ⟨Jb,0,none⟩),.pointer (some ⟨At,0,none⟩),.pointer (some ⟨w7.heap.size,0,none⟩)]] 187)) w7.heap.size 187 .nilFunc:=box1 w7 _ _
     have hs2 :∀f:Value,f.oneCell'=true→(store ⟨w7.heap.size,0,none⟩ f).run Tryz.prog ((w7.alloc (.cells #[.nilFunc] 187)).alloc (.cells #[.func (.func 113) #[] #[.pointer (some ⟨A + 1,0,none⟩),.pointer (some ⟨A,0,none⟩),.pointer (some ⟨Jb,0,none⟩),.pointer (some ⟨At,0,none⟩),.pointer (some ⟨w7.heap.size,0,none⟩)]] 187)) = .ok () (((w7.alloc (.cells #[.nilFunc] 187)).alloc (.cells #[.func (.func 113) #[] #[.pointer (some ⟨A + 1,0,none⟩),.pointer (some ⟨A,0,none⟩),.pointer (some ⟨Jb,0,none⟩),.pointer (some ⟨At,0,none⟩),.pointer (some ⟨w7.heap.size,0,none⟩)]] 187)).setCell ⟨w7.heap.size,0,none⟩ f):=fun f hf=>by rw [run_store _ _ _ _ _ hf]; simp [bS.cell,free_of bS,go_sem]
     have hs3:=hs2 (.func (.func 118) #[] #[.pointer (some ⟨A + 1,0,none⟩),.pointer (some ⟨w7.heap.size + 1,0,none⟩),.pointer (some ⟨A + 1 + 1,0,none⟩)]) rfl
     clear hs2 bS
     go_wp2_with fail
     exact hX)
  | (have hX:=HQ.out fat capat w2 _ _ _ w6 (w6.setCell ⟨w3.heap.size,0,none⟩ (.func (.func fat) #[] capat)) w3.heap.size HRC.out (Or.inl ⟨by omega,bF.lt⟩) (keeps_setCell _ _ _ _) (by show _ = _; rw [heap_setCell_same _ _ _ _ _ _ bH6]; rfl)
     rw [hJb] at hX
     clear hst hS6 hS4 hS0 hS0' HQ HR HN
     try clear hS7
     generalize (w6.setCell ⟨w3.heap.size,0,none⟩ (.func (.func fat) #[] capat))=w7 at hX ⊢
     generalize w3.heap.size=At at hX ⊢
     have hs1:=store_new (P:=Tryz.prog) (w7.alloc (.cells #[.nilFunc] 187)) .nilFunc (.func (.func 113) #[] #[.pointer (some ⟨A + 1,0,none⟩),.pointer (some ⟨A,0,none⟩),.pointer (some ⟨Jb,0,none⟩),.pointer (some ⟨At,0,none⟩),.pointer (some ⟨w7.heap.size,0,none⟩)]) 187 rfl
     simp only [World.size_alloc] at hs1
     have bS:At1 ((w7.alloc (.cells #[.nilFunc] 187)).alloc (.cells #[.func (.func 113) #[] #[.pointer (some ⟨A + 1,0,none⟩),.pointer (some ⟨A,0,none⟩),.pointer (some ⟨Jb,0,none⟩),.pointer (some ⟨At,0,none⟩),.pointer (some ⟨w7.heap.size,0,none⟩)]] 187)) w7.heap.size 187 .nilFunc:=box1 w7 _ _
     have hs2 :∀f:Value,f.oneCell'=true→(store ⟨w7.heap.size,0,none⟩ f).run Tryz.prog ((w7.alloc (.cells #[.nilFunc] 187)).alloc (.cells #[.func (.func 113) #[] #[.pointer (some ⟨A + 1,0,none⟩),.pointer (some ⟨A,0,none⟩),.pointer (some ⟨Jb,0,none⟩),.pointer (some ⟨At,0,none⟩),.pointer (some ⟨w7.heap.size,0,none⟩)]] 187)) = .ok () (((w7.alloc (.cells #[.nilFunc] 187)).alloc (.cells #[.func (.func 113) #[] #[.pointer (some ⟨A + 1,0,none⟩),.pointer (some ⟨A,0,none⟩),.pointer (some ⟨Jb,0,none⟩),.pointer (some ⟨At,0,none⟩),.pointer (some ⟨w7.heap.size,0,none⟩)]] 187)).setCell ⟨w7.heap.size,0,none⟩ f):=fun f hf=>by rw [run_store _ _ _ _ _ hf]; simp [bS.cell,free_of bS,go_sem]
     have hs3:=hs2 (.func (.func 118) #[] #[.pointer (some ⟨A + 1,0,none⟩),.pointer (some ⟨w7.heap.size + 1,0,none⟩),.pointer (some ⟨A + 1 + 1,0,none⟩)]) rfl
     clear hs2 bS
     go_wp2_with fail
     exact hX)
variable {C:Cx} {bg tl:Value} {mine:List Rsc} {k n:Nat} {nx fv:Value} {W W':Wt} {B B':Option Bo} {w w1:World} {F Fr:Bs2} {e:Ending}
theorem BuildIn.new (h:BuildIn C bg tl mine k nx W B w F Fr) {i:Nat} (hi:w.heap.size≤i):¬ F i:=fun hF=>by have:=h.fb i hF; omega
theorem build_set {w0:World} {F0:Bs2} {S:Bs} {f:Nat→Nat} (hf:Bv S f):BuildC w0 F0 (.iface 146 (.agg #[.int .u64 (f 0),.int .u64 (f 1),.int .u64 (f 2),.int .u64 (f 3)])) (setPf S):=by
 intro pre lo hi C w F Fr bg tl mine k nx W B l h hfp hG hG9 hu hk
 obtain ⟨fn,cap,hfe⟩:=h.st.form
 subst hfe
 refine step_set (fun w1 k1=>?_)
 refine (byteOf_any (C:=C) (f:=f)).mono ?_
 rintro e w2 ⟨rfl,b1,b2,b3,k2⟩
 have hs:=k1.size
 refine ⟨_,_,rfl,?_⟩
 refine h.give (k1.trans k2) (StepC.congr (byte_step (W:=W) ⟨b1,h.new (by omega)⟩ ⟨b2,h.new (by omega)⟩ hf ⟨b3,h.new (by omega)⟩ (h.st.later (Lat.ofKeeps (k1.trans k2))) hu) (fun p _=>byteW_eq C.u S W pre p)) (fun hB=>?_)
 refine Inj.alk (inj_byte (S:=S) (h.inj hB) (fun p hp=>?_)) (fun p _=>by rw [byteW_eq C.u S W pre p]; exact Alk.refl _)
 unfold hasB at hp
 simp at hp
 exact hp.1
theorem build_at {w0:World} {F0:Bs2} {q:Nat} {h:BuildIn C bg tl mine k nx W B w F Fr} {fn:Nat} {cap:Array Value} (hfe:nx = .func (.func fn) #[] cap) {pre:List Pc} {f:Pf} (hX:smx C.u pre f=atX q) {m:Nat} (k1:Keeps (fun _=>False) w w1) :
  Calls Tryz.prog 89 #[.int .i64 (q:Int),.func (.func fn) #[] cap] w1 (FvPost (BuildPost C bg tl mine k m (fun p=>bn (smx C.u pre f p) W) B w F Fr)):=by
 subst hfe
 refine (onlyAt_any (k:=(q:Int))).mono ?_
 rintro e w2 ⟨rfl,b1,b2,k2⟩
 have hs:=k1.size
 refine ⟨_,_,rfl,?_⟩
 refine h.give (k1.trans k2) (StepC.congr (only_step (W:=W) ⟨b1,h.new (by omega)⟩ ⟨b2,h.new (by omega)⟩ (h.st.later (Lat.ofKeeps (k1.trans k2)))) (fun p _=>by rw [hX]; exact onlyW_eq q W p)) (fun hB=>?_)
 exact Inj.alk (inj_only (k:=q) (h.inj hB)) (fun p _=>by rw [hX,onlyW_eq q W p]; exact Alk.refl _)
theorem build_start {w0:World} {F0:Bs2}:BuildC w0 F0 (.iface 159 (.agg #[])) startPf:=by
 intro pre lo hi C w F Fr bg tl mine k nx W B l h hfp hG hG9 hu hk
 obtain ⟨fn,cap,hfe⟩:=h.st.form
 have h':=h
 rw [hfe]
 refine step_start (fun w1 k1=>?_)
 exact build_at (w0:=w0) (F0:=F0) (q:=0) (h:=h) hfe (smx_start C.u pre) k1
theorem build_end {w0:World} {F0:Bs2}:BuildC w0 F0 (.iface 161 (.agg #[])) endPf:=by
 intro pre lo hi C w F Fr bg tl mine k nx W B l h hfp hG hG9 hu hk
 obtain ⟨fn,cap,hfe⟩:=h.st.form
 rw [hfe]
 refine step_end (u:=C.u) (fun w1 k1=>cell_keeps h.se.c0 k1) (fun w1 k1=>?_)
 exact build_at (w0:=w0) (F0:=F0) (q:=C.u.size) (h:=h) hfe (smx_end C.u pre) k1
def BuildM (w0:World) (F0:Bs2) (v:Value) (f:Pf):Prop:=(∃t x,v = .iface t x)∧Ful f∧BuildC w0 F0 v f
theorem build_seq {w0:World} {F0 D:Bs2} (hD0 :∀k,D k→¬ F0 k) {v:Value} {vs:List Value} {fs:List Pf} (ho:w0.ownsRow 0 69 1 v vs.length vs) (hD :∀k,v.ownBlock=some k→D k) (hl:fs.length=vs.length) (hn:vs.length≤1000) (ih :∀(i:Nat) (x:Value) (f:Pf),vs[i]? = some x→fs[i]? = some f→BuildM w0 F0 x f) :
  BuildC w0 F0 (.iface 149 (.agg #[v])) (seqPf fs):=by
 intro pre lo hi C w F Fr bg tl mine k nx W B l h hfp hG hG9 hu hk
 obtain ⟨fn,cap,hfe⟩:=h.st.form
 subst hfe
 have hful :∀f∈fs,Ful f:=fun f hf=>by
  obtain ⟨i,hi,rfl⟩:=List.getElem_of_mem hf
  exact (ih i (vs[i]'(by omega)) _ (List.getElem?_eq_getElem (by omega)) (List.getElem?_eq_getElem hi)).2.1
 have hFL:=fp_seq hful hfp
 have hlen:(seqPf fs pre.length).length=(cat fs pre.length).length + 1:=by simp [seqPf]
 have hfin :∀p,p≤C.u.size→Alk (bns (smxs C.u pre fs) W p) (bn (smx C.u pre (seqPf fs) p) W):=fun p _=>by rw [smx_seq C.u pre fs hful]; exact (bn_seq _ W p).symm
 obtain ⟨ao,cp,hvf⟩:=own_form ho
 rw [hvf]
 refine step_seq (fun w1 k1=>?_)
 obtain ⟨h1,t1⟩:=h.same k1
 cases hc:vs.length with
 | zero =>
   refine seq_none ⟨_,_,rfl,?_⟩
   have h0:fs = []:=List.eq_nil_of_length_eq_zero (by omega)
   have hp:BuildPost C bg tl mine k (2 * (seqPf fs pre.length).length) W B w F Fr (.returned (.func (.func fn) #[] cap)) w1:=h.give k1 h1.st h.inj
   refine hp.alk (fun p hp=>?_)
   have:=hfin p hp
   rw [h0] at this ⊢
   exact this
 | succ m =>
   rw [hc] at hvf
   obtain ⟨g,cp',hg⟩ :∃g cp',v = .slice (some ⟨g,0,none⟩) (m + 1) cp':=by rw [hc] at ho; obtain ⟨g,c,h,_⟩:=own_some ho; exact ⟨g,c,h⟩
   rw [hg] at hvf
   cases hvf
   have hF1:=h1.inn
   refine seq_go (n:=m + 1) (I:=fun i fn cap wi =>∃B' new k' F' Fr',BuildIn C bg tl (new ++ mine) k' (.func (.func fn) #[] cap) (bns ((smxs C.u pre fs).drop i) W) B' wi F' Fr'∧Trn w F Fr wi F' Fr'∧k≤k'∧k' + 2 * (cat (fs.take i) pre.length).length≤k + 2 * (cat fs pre.length).length∧Ble B B') (by omega) ?_ ?_ ?_
   ·refine ⟨B,[],k,F,Fr,?_,t1,Nat.le_refl _,?_,Ble.refl _⟩
    ·rw [List.drop_eq_nil_of_le (by rw [smxs_len]; omega)]
     exact h1
    ·rw [List.take_of_length_le (by omega)]; omega
   ·rintro i fn cap wi ⟨B',new,k',F',Fr',hb,ht,hk1,hk2,hB⟩ hin
    have li:=ht.lat h.inn
    have hi2:i < fs.length:=by omega
    have hrow:=(ownsRow_later ⟨ho,fun k hk=>hD0 k (hD k hk)⟩ (l.trans li)).1
    obtain ⟨⟨ty,y,hxe⟩,-,hbc⟩:=ih i (vs[i]'(by omega)) fs[i] (List.getElem?_eq_getElem (by omega)) (List.getElem?_eq_getElem hi2)
    have hcell:=hrow
    rw [hg] at hcell
    rw [show vs.length=m + 1 from hc] at hcell
    have hc2:=hcell.cellAt i (show i < (m + 1) * 1 by omega)
    rw [List.getElem?_eq_getElem (by omega),hxe] at hc2
    refine ⟨ty,y,hc2,?_⟩
    have hpl:(pre ++ cat (fs.take i) pre.length).length=pre.length + (cat (fs.take i) pre.length).length:=by simp
    have hf1:=fpL_get fs pre.length i hi2 hFL
    have hsp:=cat_split fs pre.length i hi2
    rw [← hpl] at hf1 hsp
    have htot:(cat (fs.take (i + 1)) pre.length).length≤(cat fs pre.length).length:=by omega
    have hst:=hbc (pre ++ cat (fs.take i) pre.length) lo hi C wi F' Fr' bg tl (new ++ mine) k' (.func (.func fn) #[] cap) (bns ((smxs C.u pre fs).drop (i + 1)) W) B' (l.trans li) hb hf1 hG hG9 hu (by omega)
    rw [hxe] at hst
    refine hst.mono ?_
    rintro e w2 ⟨fv,B2,new2,k2,F2,Fr2,rfl,g1,g2,g3,g4,g5⟩
    obtain ⟨fn2,cap2,hfv⟩:=g1.st.form
    subst hfv
    have hW :∀p,bn (smx C.u (pre ++ cat (fs.take i) pre.length) fs[i] p) (bns ((smxs C.u pre fs).drop (i + 1)) W)=bns ((smxs C.u pre fs).drop i) W p:=fun p=>by
     rw [bns_drop _ W i (by rw [smxs_len]; exact hi2),smxs_get C.u fs pre i hi2]
    refine ⟨fn2,cap2,rfl,B2,new2 ++ new,k2,F2,Fr2,?_,ht.trans g2,by omega,by omega,hB.trans g5⟩
    rw [List.append_assoc]
    exact ⟨g1.fb,g1.ok,g1.res,g1.st.congr (fun p _=>hW p),g1.lid,fun hN=>(g1.inj hN).alk (fun p _=>by rw [hW p]; exact Alk.refl _),g1.nn⟩
   ·rintro fn cap wi ⟨B',new,k',F',Fr',hb,ht,hk1,hk2,hB⟩
    refine ⟨fn,cap,rfl,?_⟩
    rw [List.drop_zero] at hb
    have hp:BuildPost C bg tl mine k (2 * (seqPf fs pre.length).length) (bns (smxs C.u pre fs) W) B w F Fr (.returned (.func (.func fn) #[] cap)) wi:=⟨_,B',new,k',F',Fr',rfl,hb,ht,hk1,by simp [cat] at hk2; omega,hB⟩
    exact hp.alk hfin
end Go.Proofs.YthkmmeamplmnhaaGreat
