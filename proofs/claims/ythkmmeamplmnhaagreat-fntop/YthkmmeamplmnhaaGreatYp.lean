import Derived.Test.YthkmmeamplmnhaaGreatYo
import Derived.Stop.RegionWithIn
namespace Go.Proofs.YthkmmeamplmnhaaGreat
open Go.RowKit Go.Shelf
set_option linter.unusedVariables false
attribute [local go_sem] Oper.semAt_some
theorem ap_gs (G:Nat) (e:Ef):ap e (noS G)=gsOf G e:=by
 apply List.ext_getElem?
 intro i
 by_cases hi:i < G
 ·rw [ap_noS_get e G i hi]
  simp only [gsOf,List.getElem?_map,List.getElem?_range hi,Option.map_some]
  cases e i <;> rfl
 ·rw [List.getElem?_eq_none (by rw [ap_len]; simp [noS]; omega),List.getElem?_eq_none (by rw [gsOf_len]; omega)]
def WaysP (s u:ByteArray) (p:Int) (w:World) (e:Ending) (w':World):Prop :=
 (wanted s u p=false∧e = .returned (.slice none 0 0)∧Keeps (fun _=>False) w w')∨
 ∃(g:Nat) (f:Pf) (q:Nat) (v:Value) (L:List Mm),wanted s u p=true∧treeRef s = .ok (g,f)∧p=(q:Int)∧e = .returned v∧L.map (·.1)=(smx u [] f q).map (mtOf g q)∧w'.ownsRow w.heap.size 29 4 v L.length (L.flatMap cell4)∧MwI w.heap.size w' (fun _=>False) L∧Keeps (fun _=>False) w w'
end Go.Proofs.YthkmmeamplmnhaaGreat
namespace Go.Proofs.YthkmmeamplmnhaaGreat
open Go.RowKit
set_option linter.unusedVariables false
def waysRef (s u:ByteArray) (p:Int):List Mt:=if wanted s u p then (match treeRef s with | .error _ => [] | .ok (g,f)=>(smx u [] f p.toNat).map (mtOf g p.toNat)) else []
def WaysV (s u:ByteArray) (p:Int) (w:World) (e:Ending) (w':World):Prop :=
 ∃(ao:Option Addr) (n c:Nat) (L:List Mm),e = .returned (.slice ao n c)∧L.map (·.1)=waysRef s u p∧w'.ownsRow w.heap.size 29 4 (.slice ao n c) L.length (L.flatMap cell4)∧MwI w.heap.size w' (fun _=>False) L∧Keeps (fun _=>False) w w'
theorem waysRef_few (s u:ByteArray) (p:Int):(waysRef s u p).length≤201:=by
 unfold waysRef
 split
 ·rename_i hw
  cases ht:treeRef s with
  | error x=>simp
  | ok gf =>
    obtain ⟨g,f⟩:=gf
    simp only [List.length_map]
    simp only [wanted,Bool.and_eq_true,decide_eq_true_eq] at hw
    obtain ⟨hfg,-,-,-⟩:=tree_fg ht
    have hX:OkX u.size 0 g (smx u [] f):=fp_ok u ⟨f,hfg,rfl⟩
    have:=okX_few hX (p:=p.toNat) (by omega)
    omega
 ·simp
def wholeRef (s u:ByteArray):Option Mt:=(waysRef s u 0).find? fun m=>decide (m.up=(u.size:Int))
def noMatch:Value:=.agg #[.bool false,.int .i64 0,.int .i64 0,.slice none 0 0]
def OneP (r:Option Mt) (w:World) (e:Ending) (w':World):Prop :=
 (r=none∧e = .returned noMatch∧Keeps (fun _=>False) w w')∨
 ∃(x:Mt) (a:Option Addr) (n c:Nat),r=some x∧e = .returned (.agg #[.bool x.ok,.int .i64 x.fr,.int .i64 x.up,.slice a n c])∧w'.ownsRow w.heap.size 31 2 (.slice a n c) x.gs.length (flatR x.gs)∧Keeps (fun _=>False) w w'
end Go.Proofs.YthkmmeamplmnhaaGreat
