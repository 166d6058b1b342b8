import Derived.Test.YthkmmeamplmnhaaGreatYn
import Derived.Test.YthkmmeamplmnhaaGreatC
import Derived.Stop.RegionWithIn
namespace Go.Proofs.YthkmmeamplmnhaaGreat
open Go.RowKit
set_option linter.unusedVariables false
set_option maxHeartbeats 1000000 in
set_option maxRecDepth 100000 in
theorem clone_none {w:World} {an:Option Addr} {cn:Nat}:Calls Tryz.prog 65 #[.slice an 0 cn] w fun e w' =>∃a c,e = .returned (.slice a 0 c)∧w'.ownsRow w.heap.size 31 2 (.slice a 0 c) 0 []∧Keeps (fun _=>False) w w':=by
 cases an with
 | none =>
   have hq :∀w:World,(binOp BinOp.eql 27 (.slice none 0 cn) (.slice none 0 0)).run Tryz.prog w = .ok (.bool true) w:=fun _=>by kernel_rfl
   go_enter Tryz.func65,Tryz.ntmps65
   go_wp2_with fail
   go_ret
   exact ⟨_,_,rfl,World.ownsRow_nil _ _ _ _,Keeps.refl _ _⟩
 | some a =>
   have hq :∀w:World,(binOp BinOp.eql 27 (.slice (some a) 0 cn) (.slice none 0 0)).run Tryz.prog w = .ok (.bool false) w:=fun _=>by kernel_rfl
   have hap :∀(b:Addr) (w:World),(Builtin.append_ #[27,27] 27 #[.slice (some b) 0 0,.slice (some a) 0 cn]).run Tryz.prog w = .ok (.slice (some b) 0 0) w:=fun _ _=>by kernel_rfl
   have h0:(w.alloc (.cells #[] 31)).ownsRow w.heap.size 31 2 (.slice (some ⟨w.heap.size,0,none⟩) 0 0) 0 []:=World.ownsRow_lit w #[] 0 (Nat.le_refl _) (by unfold maxLen; omega) rfl
   go_enter Tryz.func65,Tryz.ntmps65
   go_wp2_with fail
   go_ret
   exact ⟨_,_,rfl,h0,(Keeps.refl _ _).alloc _⟩
theorem clone_spans {w:World} {F:Bs2} {v:Value} {gs:Rs} (h:SpI w F v gs) (hl:gs.length≤1000) :
  Calls Tryz.prog 65 #[v] w fun e w' =>∃a n c,e = .returned (.slice a n c)∧Hid (w'.ownsRow w.heap.size 31 2 (.slice a n c) gs.length (flatR gs))∧Keeps (fun _=>False) w w':=by
 obtain ⟨ao,cap,rfl,h2⟩:=h
 cases hc:gs.length with
 | zero =>
   have e:gs = []:=List.eq_nil_of_length_eq_zero hc
   refine clone_none.mono ?_
   rintro e' w' ⟨a,c,rfl,h3,k⟩
   exact ⟨a,0,c,rfl,(by show World.ownsRow _ _ _ _ _ _ _; rw [e]; exact h3),k⟩
 | succ n =>
   obtain ⟨h3,h4⟩:=h2 (by omega)
   rw [hc] at h3
   obtain ⟨g,c,hv,-,-⟩:=own_some h3
   cases hv
   refine (clone_any h3 hc (by omega) (by omega)).mono ?_
   rintro e w' ⟨g1,c1,rfl,h5,k⟩
   exact ⟨_,_,_,rfl,h5,k⟩
set_option maxHeartbeats 1000000 in
set_option maxRecDepth 100000 in
theorem matchOf_any {w:World} {F:Bs2} {p q:Int} {av:Option Addr} {nv cv:Nat} {gs:Rs} (h:SpI w F (.slice av nv cv) gs) (hl:gs.length≤1000) :
  Calls Tryz.prog 45 #[.int .i64 p,.agg #[.int .i64 q,.slice av nv cv]] w fun e w' =>∃a n c,e = .returned (.agg #[.bool true,.int .i64 p,.int .i64 q,.slice a n c])∧Hid (w'.ownsRow w.heap.size 31 2 (.slice a n c) gs.length (flatR gs))∧Keeps (fun _=>False) w w':=by
 have hK:Keeps (fun _=>False) w ((w.alloc (.cells #[.int .i64 q,.slice av nv cv] 83)).alloc (.cells #[.bool false,.int .i64 0,.int .i64 0,.slice none 0 0] 29)):=((Keeps.refl _ w).alloc _).alloc _
 have b1:=box1 w (.cells #[.int .i64 q,.slice av nv cv] 83) (.cells #[.bool false,.int .i64 0,.int .i64 0,.slice none 0 0] 29)
 have b2:=box2 w (.cells #[.int .i64 q,.slice av nv cv] 83) (.cells #[.bool false,.int .i64 0,.int .i64 0,.slice none 0 0] 29)
 go_enter Tryz.func45,Tryz.ntmps45
 go_upto_region 1 with fail
 generalize ((w.alloc (.cells #[.int .i64 q,.slice av nv cv] 83)).alloc (.cells #[.bool false,.int .i64 0,.int .i64 0,.slice none 0 0] 29))=w1 at hK b1 b2 ⊢
 have hs:=hK.size
 have c0:w1.drew.cell? ⟨w.heap.size,0,none⟩=some (.int .i64 q):=by rw [cell_of (w:=w1.drew) b1]; rfl
 have c1:w1.drew.cell? ⟨w.heap.size,1,none⟩=some (.slice av nv cv):=by rw [cell_of (w:=w1.drew) b1]; rfl
 have hcl:=clone_spans ((h.later (Lat.ofKeeps hK)).later (Lat.ofKeeps (Keeps.refl (fun _=>False) w1).drew)) hl
 have hS0:(w1.drew.cell? ⟨w.heap.size,0,none⟩=some (.int .i64 q)∧w1.drew.cell? ⟨w.heap.size,1,none⟩=some (.slice av nv cv)):=⟨c0,c1⟩
 clear h c0 c1
 go_region_held3 (fun w'=>(w'.cell? ⟨w.heap.size,0,none⟩=some (.int .i64 q)∧w'.cell? ⟨w.heap.size,1,none⟩=some (.slice av nv cv))) (first | assumption | go_keep) (first
  | (go_at_call 65; refine hcl.mono ?_; rintro e w2 ⟨a,n,c,rfl,HO,hk⟩; have hS2:(w2.cell? ⟨w.heap.size,0,none⟩=some (.int .i64 q)∧w2.cell? ⟨w.heap.size,1,none⟩=some (.slice av nv cv)):=⟨cell_keeps hS0.1 hk,cell_keeps hS0.2 hk⟩; have hb:w2.heap[w.heap.size + 1]? = some (.cells #[.bool false,.int .i64 0,.int .i64 0,.slice none 0 0] 29 (0,0)):=(hk.block _ (lt_of_block b2) (fun h=>h)).trans b2; have d0:w2.cell? ⟨w.heap.size + 1,0,none⟩=some (.bool false):=(by rw [cell_of hb]; rfl); have d1:w2.cell? ⟨w.heap.size + 1,1,none⟩=some (.int .i64 0):=(by rw [cell_of hb]; rfl); have d2:w2.cell? ⟨w.heap.size + 1,2,none⟩=some (.int .i64 0):=(by rw [cell_of hb]; rfl); have d3:w2.cell? ⟨w.heap.size + 1,3,none⟩=some (.slice none 0 0):=(by rw [cell_of hb]; rfl); have f0 :∀i,w2.frozen? ⟨w.heap.size + 1,i,none⟩=false:=fun i=>free_of hb))
 all_goals (try go_wp2_with fail)
 all_goals refine bodyPost_ret (v:=.agg #[.bool true,.int .i64 p,.int .i64 q,.slice a n c]) (by simp [results,Tryz.results45,go_sem,d0,d1,d2,d3]) rfl ?_
 all_goals (
  have k4:Keeps (fun k=>k=w.heap.size + 1) w2 ((((w2.setCell ⟨w.heap.size + 1,0,none⟩ (.bool true)).setCell ⟨w.heap.size + 1,1,none⟩ (.int .i64 p)).setCell ⟨w.heap.size + 1,2,none⟩ (.int .i64 q)).setCell ⟨w.heap.size + 1,3,none⟩ (.slice a n c)):=(((keeps_setCell _ _ _ _).trans (keeps_setCell _ _ _ _)).trans (keeps_setCell _ _ _ _)).trans (keeps_setCell _ _ _ _)
  have hb2:=lt_of_block b2
  refine ⟨a,n,c,rfl,?_,(hK.trans ((Keeps.refl (fun _=>False) w1).drew.trans hk)).trans' k4 (fun i hi e=>by omega)⟩
  refine ownsRow_keeps (ownsRow_base HO.out (fun i hi=>?_)) k4 (fun i hi e=>?_)
  ·have h1:w1.heap.size≤i:=(HO.out.lt i hi).1
   omega
  ·have h1:w1.heap.size≤i:=(HO.out.lt i hi).1
   omega)
end Go.Proofs.YthkmmeamplmnhaaGreat
namespace Go.Proofs.YthkmmeamplmnhaaGreat
open Go.RowKit Go.Shelf
set_option linter.unusedVariables false
attribute [local go_sem] Oper.semAt_some
theorem step_appendIn_run {P:Program} {Fe:Fence} {nn:Nat} {ops:Array Oper} {o:Oper} {a:Act} {w:World} {K:Act→World→Prop} {Q:Exit→Act→World→Prop} {E:Prop}
  (hg:o.guard=none) (s x:Operand) (t ty:TypeId) (hop:o.op=Op.call { callee:=Callee.builtin Builtin.append,args:=#[s,x],argTypes:=#[t,t] }) (hty:o.type=ty)
  (v y v':Value) (w':World) (hs:a.eval s=v) (hx:a.eval x=y) (hrun:Sem.run P (Builtin.append_ #[t,t] ty #[v,y]) w = .ok v' w')
  (hK:K (a.put o.dst v') w') :
  if Region.wanted o (yielded ops a.tmps)=true then Oper.wpIn Fe nn P o a w K Q else E:=by
 have hw:Region.wanted o (yielded ops a.tmps)=true:=by simp [Region.wanted,hg]
 rw [if_pos hw]
 unfold Oper.wpIn
 refine ⟨?_,?_⟩
 ·simp [Oper.about,hop,resolve,Target.leads,Sem.run_pure]
 ·rw [Oper.semAt_plain Fe _ _ (by rw [hop]; intro c hc'; cases hc')]
  simp [execOp,hop,hty,resolve,invoke,builtin,hs,hx,hrun,Result.andThen]
  exact hK
theorem ap_gs (G:Nat) (e:Ef):ap e (noS G)=gsOf G e:=by
 apply List.ext_getElem?
 intro i
 by_cases hi:i < G
 ·rw [ap_noS_get e G i hi]
  simp only [gsOf,List.getElem?_map,List.getElem?_range hi,Option.map_some]
  cases e i <;> rfl
 ·rw [List.getElem?_eq_none (by rw [ap_len]; simp [noS]; omega),List.getElem?_eq_none (by rw [gsOf_len]; omega)]
def waysRef (s u:ByteArray) (p:Int):List Mt:=if wanted s u p then (match treeRef s with | .error _ => [] | .ok (g,f)=>(smx u [] f p.toNat).map (mtOf g p.toNat)) else []
theorem waysRef_few (s u:ByteArray) (p:Int):(waysRef s u p).length≤201:=by
 unfold waysRef
 split
 ·rename_i hw
  cases ht:treeRef s with
  | error x=>simp
  | ok gf =>
    obtain ⟨g,f⟩:=gf
    simp only [List.length_map]
    simp only [wanted,Bool.and_eq_true,decide_eq_true_eq] at hw
    obtain ⟨hfg,-,-,-⟩:=tree_fg ht
    have hX:OkX u.size 0 g (smx u [] f):=fp_ok u ⟨f,hfg,rfl⟩
    have:=okX_few hX (p:=p.toNat) (by omega)
    omega
 ·simp
theorem cell4_get {L:List Mm} {k:Nat} (h:k < L.length) (j:Nat) (hj:j < 4):(L.flatMap cell4)[k * 4 + j]? = (cell4 L[k])[j]?:=by
 induction L generalizing k with
 | nil=>simp at h
 | cons a L ih =>
   rw [List.flatMap_cons]
   cases k with
   | zero =>
     rw [List.getElem?_append_left (by simp [cell4]; omega)]
     simp
   | succ k =>
     rw [List.getElem?_append_right (by simp [cell4]; omega)]
     have:=ih (k:=k) (by simpa using h)
     have e:(k + 1) * 4 + j - (cell4 a).length=k * 4 + j:=by simp [cell4]; omega
     rw [e,this]
     rfl
end Go.Proofs.YthkmmeamplmnhaaGreat
