import Derived.Test.YtfkflljplohhcaaGreatDoorTa
set_option maxHeartbeats 2000000
set_option maxRecDepth 100000
namespace Go.Proofs.YtfkflljplohhcaaGreatDoor
open Go.RowKit
set_option linter.unusedVariables false
def J8 (base:Nat) (v:Value) (L:List Bt) (w:World) (e:Ending) (w':World):Prop :=∃v',e = .returned v'/\BR w' base v' L/\Za (fun k=>v.ownBlock=some k) w w'
theorem Zjo {w:World} {base:Nat} {v:Value} (x:Bt) (hr:BR w base v []) (hb:base<=w.heap.size) :
  Calls Tryz.prog 61 #[v,.agg #[.int .i64 x.1,.string x.2]] w (J8 base v [x] w):=by
 have kA:Za N0_ w (w.alloc (.cells #[.int .i64 x.1,.string x.2] 73)):=(Za.refl _ w).alloc _;have hQ:Bk (w.alloc (.cells #[.int .i64 x.1,.string x.2] 73)) w.heap.size 73 [.int .i64 x.1,.string x.2]:=Qz w _ _;have hr1:BR (w.alloc (.cells #[.int .i64 x.1,.string x.2] 73)) base v []:=Zb hr kA (fun _ _ h=>h);obtain ⟨v',w',hrun,hr',hk'⟩:=ZhE hr1 (Nat.le_trans hb kA.size) (by simp) x;obtain ⟨ao,cap,hv⟩:=Zd hr;subst hv;have hfin:J8 base (.slice ao ([]:List Bt).length cap) [x] w (.returned v') w':=⟨v',rfl,hr',(kA.mono (fun _ _ h=>h.elim)).trans hk'⟩;have q0:(w.alloc (.cells #[.int .i64 x.1,.string x.2] 73)).cell? ⟨w.heap.size,0,none⟩=some (.int .i64 x.1):=by rw [hQ.cell]; rfl
 have q1:(w.alloc (.cells #[.int .i64 x.1,.string x.2] 73)).cell? ⟨w.heap.size,1,none⟩=some (.string x.2):=by rw [hQ.cell]; rfl
 obtain ⟨a8,c8,hv8⟩:=Zd hr';subst hv8;clear hr hr1 hr' hk' hQ;go_enter Tryz.func61,Tryz.ntmps61;go_upto_region 1 with fail;generalize w.alloc (.cells #[.int .i64 x.1,.string x.2] 73)=w1 at kA hrun q0 q1 ⊢;go_wp2_with (refine Zk rfl _ _ _ _ rfl rfl _ _ _ _ rfl rfl hrun ?_);go_ret;exact hfin
theorem Zd3 {w:World} {base:Nat} {v:Value} {A:List Bt} {y:Bt} (x:Bt) (hr:BR w base v (A ++ [y])) (hb:base<=w.heap.size) (hl:A.length<=1000) (hc:x.1≠-1\/y.1≠-1) {L:List Bt} (hL:L=A ++ [y] ++ [x]) :
  Calls Tryz.prog 61 #[v,.agg #[.int .i64 x.1,.string x.2]] w (J8 base v L w):=by
 have kA:Za N0_ w (w.alloc (.cells #[.int .i64 x.1,.string x.2] 73)):=(Za.refl _ w).alloc _;have hQ:Bk (w.alloc (.cells #[.int .i64 x.1,.string x.2] 73)) w.heap.size 73 [.int .i64 x.1,.string x.2]:=Qz w _ _;have hr1:BR (w.alloc (.cells #[.int .i64 x.1,.string x.2] 73)) base v (A ++ [y]):=Zb hr kA (fun _ _ h=>h);obtain ⟨v',w',hrun,hr',hk'⟩:=ZhE hr1 (Nat.le_trans hb kA.size) (by simp; omega) x;rw [<- hL] at hr';clear hL;have hlen:(A ++ [y]).length=A.length + 1:=by simp
 have hr0:=hr;unfold BR at hr0;rw [hlen] at hr0;obtain ⟨g,cap,hv,hg,-⟩:=ZQ hr0;subst hv;have hfin:J8 base (.slice (some ⟨g,0,none⟩) (A.length + 1) cap) L w (.returned v') w':=⟨v',rfl,hr',(kA.mono (fun _ _ h=>h.elim)).trans hk'⟩;have q0:(w.alloc (.cells #[.int .i64 x.1,.string x.2] 73)).cell? ⟨w.heap.size,0,none⟩=some (.int .i64 x.1):=by rw [hQ.cell]; rfl
 have q1:(w.alloc (.cells #[.int .i64 x.1,.string x.2] 73)).cell? ⟨w.heap.size,1,none⟩=some (.string x.2):=by rw [hQ.cell]; rfl
 have hr2:=hr1;unfold BR at hr2;rw [hlen] at hr2;have b0:=hr2.cellAt (A.length * 2) (by omega);rw [(Jv (A ++ [y]) A.length y (by simp)).1] at b0;obtain ⟨a8,c8,hv8⟩:=Zd hr';subst hv8;generalize A.length=n at *;have hz:¬ ((n + 1:Nat):Int) - 1 < 0:=by omega
 have hz2:((n + 1:Nat):Int) - 1=(n:Int):=by omega
 clear hr hr1 hr' hk' hQ hr0 hr2;go_enter Tryz.func61,Tryz.ntmps61;go_upto_region 1 with fail;generalize w.alloc (.cells #[.int .i64 x.1,.string x.2] 73)=w1 at kA hrun q0 q1 b0 ⊢
 by_cases hx:x.1 = -1
 ·have hy:y.1≠-1:=hc.resolve_left (fun h=>h hx);have hxb:(x.1 != -1)=false:=by simp [hx]
  have hyb:(y.1 != -1)=true:=by simp [hy]
  clear hc hx hy;go_wp2_with (refine Zk rfl _ _ _ _ rfl rfl _ _ _ _ rfl rfl hrun ?_);go_ret;exact hfin
 ·have hxb:(x.1 != -1)=true:=by simp [hx]
  clear hc hx;go_wp2_with (refine Zk rfl _ _ _ _ rfl rfl _ _ _ _ rfl rfl hrun ?_);go_ret;exact hfin
theorem Zg4 {w:World} {base:Nat} {v:Value} {A:List Bt} {y t:ByteArray} (hr:BR w base v (A ++ [(-1,y)])) (hb:base<=w.heap.size) (hl:A.length<=1000) (hy:y.size<=1000) (ht:t.size<=1000) {L:List Bt} (hL:L=A ++ [(-1,y ++ t)]) :
  Calls Tryz.prog 61 #[v,.agg #[.int .i64 (-1),.string t]] w (J8 base v L w):=by
 have kA:Za N0_ w (w.alloc (.cells #[.int .i64 (-1),.string t] 73)):=(Za.refl _ w).alloc _;have hQ:Bk (w.alloc (.cells #[.int .i64 (-1),.string t] 73)) w.heap.size 73 [.int .i64 (-1),.string t]:=Qz w _ _;have hlen:(A ++ [((-1,y):Bt)]).length=A.length + 1:=by simp
 have hr1:=Zb hr kA (fun _ _ h=>h);rw [hlen] at hr1;obtain ⟨g,cap,hv,hg,-⟩:=ZQ hr1;subst hv;have hLl:L.length=A.length + 1:=by rw [hL]; simp
 have b0:=hr1.cellAt (A.length * 2) (by omega);have b1:=hr1.cellAt (A.length * 2 + 1) (by omega);rw [(Jv (A ++ [(-1,y)]) A.length (-1,y) (by simp)).1] at b0;rw [(Jv (A ++ [(-1,y)]) A.length (-1,y) (by simp)).2] at b1;simp only at b0 b1;have hst:=(hr1.stored (A.length * 2 + 1) (.string (y ++ t))).1;rw [Zmn] at hst;have f1:=hr1.frozenAt (A.length * 2 + 1);have hfin :∀w5 w6,Za N0_ w w5->w5=w.alloc (.cells #[.int .i64 (-1),.string t] 73)->(∃n,w6=(w5.setCell ⟨g,A.length * 2 + 1,none⟩ (.string (y ++ t))).drewN n)->J8 base (.slice (some ⟨g,0,none⟩) (A.length + 1) cap) L w (.returned (.slice (some ⟨g,0,none⟩) (A.length + 1) cap)) w6:=by
  rintro w5 w6 k5 rfl ⟨n,rfl⟩;refine ⟨_,rfl,?_,?_⟩
  ·unfold BR;rw [hLl,hL];exact Z6 hst rfl
  ·exact ((k5.mono (fun _ _ h=>h.elim)).setCell (fun _=>by simp [Value.ownBlock]) _).drewN _
 have HF:Hid (∀w5 w6,Za N0_ w w5->w5=w.alloc (.cells #[.int .i64 (-1),.string t] 73)->(∃n,w6=(w5.setCell ⟨g,A.length * 2 + 1,none⟩ (.string (y ++ t))).drewN n)->J8 base (.slice (some ⟨g,0,none⟩) (A.length + 1) cap) L w (.returned (.slice (some ⟨g,0,none⟩) (A.length + 1) cap)) w6):=hfin;have q0:(w.alloc (.cells #[.int .i64 (-1),.string t] 73)).cell? ⟨w.heap.size,0,none⟩=some (.int .i64 (-1)):=by rw [hQ.cell]; rfl
 have q1:(w.alloc (.cells #[.int .i64 (-1),.string t] 73)).cell? ⟨w.heap.size,1,none⟩=some (.string t):=by rw [hQ.cell]; rfl
 generalize A.length=n at *;have hz:¬ ((n + 1:Nat):Int) - 1 < 0:=by omega
 have hz2:((n + 1:Nat):Int) - 1=(n:Int):=by omega
 have hsz:¬ 9223372036854775807 < y.size + t.size:=by omega
 clear hr hr1 hQ hst hfin hLl hL hlen;go_enter Tryz.func61,Tryz.ntmps61;go_upto_region 1 with fail;generalize hw1:w.alloc (.cells #[.int .i64 (-1),.string t] 73)=w1 at kA q0 q1 b0 b1 f1 ⊢;have HW:Hid (w1=w.alloc (.cells #[.int .i64 (-1),.string t] 73)):=hw1.symm;clear hw1;go_wp2_with fail;go_region_with fail
 all_goals (try go_wp2_with fail)
 all_goals (try go_ret)
 all_goals first
  | exact HF.out w1 _ kA HW.out ⟨0,rfl⟩
  | exact HF.out w1 _ kA HW.out ⟨1,rfl⟩
def jnB (acc:List Bt) (x:Bt):List Bt:=if x.1 = -1 then jn acc x.2 else acc ++ [x]
theorem Zjp {w:World} {base:Nat} {v:Value} {acc:List Bt} (x:Bt) (hr:BR w base v acc) (hb:base<=w.heap.size) (hf:Few 1000 acc) (hx:x.2.size<=1000) :
  Calls Tryz.prog 61 #[v,.agg #[.int .i64 x.1,.string x.2]] w (J8 base v (jnB acc x) w):=by
 rcases List.eq_nil_or_concat acc with rfl | ⟨A,y,rfl⟩
 ·have e:jnB [] x = [x]:=by
   unfold jnB
   split
   ·rename_i h; rw [ZpL]; rw [<- h]
   ·rfl
  rw [e];exact Zjo x hr hb
 ·rw [List.concat_eq_append] at hr hf ⊢;have hl:A.length<=1000:=by have:=hf.1; simp at this; omega
  have hy:=hf.2 y (by simp);obtain ⟨g,z⟩:=y;obtain ⟨gx,t⟩:=x
  by_cases hgx:gx = -1
  ·subst hgx
   by_cases hg:g = -1
   ·subst hg;exact Zg4 hr hb hl hy hx (by unfold jnB; rw [if_pos rfl,ZeO])
   ·exact Zd3 (-1,t) hr hb hl (Or.inr hg) (by unfold jnB; rw [if_pos rfl,ZcL _ _ _ hg])
  ·exact Zd3 (gx,t) hr hb hl (Or.inl hgx) (by unfold jnB; rw [if_neg hgx])
end Go.Proofs.YtfkflljplohhcaaGreatDoor
