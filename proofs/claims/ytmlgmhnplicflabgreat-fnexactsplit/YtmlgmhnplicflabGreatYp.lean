import Derived.Test.YtmlgmhnplicflabGreatYo
import Derived.Stop.RegionWithIn
namespace Go.Proofs.YtmlgmhnplicflabGreat
open Go.RowKit Go.Shelf
set_option linter.unusedVariables false
attribute [local go_sem] Oper.semAt_some
theorem step_appendIn_run {P:Program} {Fe:Fence} {nn:Nat} {ops:Array Oper} {o:Oper} {a:Act} {w:World} {K:Act→World→Prop} {Q:Exit→Act→World→Prop} {E:Prop}
  (hg:o.guard=none) (s x:Operand) (t ty:TypeId) (hop:o.op=Op.call { callee:=Callee.builtin Builtin.append,args:=#[s,x],argTypes:=#[t,t] }) (hty:o.type=ty)
  (v y v':Value) (w':World) (hs:a.eval s=v) (hx:a.eval x=y) (hrun:Sem.run P (Builtin.append_ #[t,t] ty #[v,y]) w = .ok v' w')
  (hK:K (a.put o.dst v') w') :
  if Region.wanted o (yielded ops a.tmps)=true then Oper.wpIn Fe nn P o a w K Q else E:=by
 have hw:Region.wanted o (yielded ops a.tmps)=true:=by simp [Region.wanted,hg]
 rw [if_pos hw]
 unfold Oper.wpIn
 refine ⟨?_,?_⟩
 ·simp [Oper.about,hop,resolve,Target.leads,Sem.run_pure]
 ·rw [Oper.semAt_plain Fe _ _ (by rw [hop]; intro c hc'; cases hc')]
  simp [execOp,hop,hty,resolve,invoke,builtin,hs,hx,hrun,Result.andThen]
  exact hK
theorem ap_gs (G:Nat) (e:Ef):ap e (noS G)=gsOf G e:=by
 apply List.ext_getElem?
 intro i
 by_cases hi:i < G
 ·rw [ap_noS_get e G i hi]
  simp only [gsOf,List.getElem?_map,List.getElem?_range hi,Option.map_some]
  cases e i <;> rfl
 ·rw [List.getElem?_eq_none (by rw [ap_len]; simp [noS]; omega),List.getElem?_eq_none (by rw [gsOf_len]; omega)]
def waysRef (s u:ByteArray) (p:Int):List Mt:=if wanted s u p then (match treeRef s with | .error _ => [] | .ok (g,f)=>(smx u [] f p.toNat).map (mtOf g p.toNat)) else []
theorem waysRef_few (s u:ByteArray) (p:Int):(waysRef s u p).length≤201:=by
 unfold waysRef
 split
 ·rename_i hw
  cases ht:treeRef s with
  | error x=>simp
  | ok gf =>
    obtain ⟨g,f⟩:=gf
    simp only [List.length_map]
    simp only [wanted,Bool.and_eq_true,decide_eq_true_eq] at hw
    obtain ⟨hfg,-,-,-⟩:=tree_fg ht
    have hX:OkX u.size 0 g (smx u [] f):=fp_ok u ⟨f,hfg,rfl⟩
    have:=okX_few hX (p:=p.toNat) (by omega)
    omega
 ·simp
def wholeRef (s u:ByteArray):Option Mt:=(waysRef s u 0).find? fun m=>decide (m.up=(u.size:Int))
theorem cell4_get {L:List Mm} {k:Nat} (h:k < L.length) (j:Nat) (hj:j < 4):(L.flatMap cell4)[k * 4 + j]? = (cell4 L[k])[j]?:=by
 induction L generalizing k with
 | nil=>simp at h
 | cons a L ih =>
   rw [List.flatMap_cons]
   cases k with
   | zero =>
     rw [List.getElem?_append_left (by simp [cell4]; omega)]
     simp
   | succ k =>
     rw [List.getElem?_append_right (by simp [cell4]; omega)]
     have:=ih (k:=k) (by simpa using h)
     have e:(k + 1) * 4 + j - (cell4 a).length=k * 4 + j:=by simp [cell4]; omega
     rw [e,this]
     rfl
end Go.Proofs.YtmlgmhnplicflabGreat
