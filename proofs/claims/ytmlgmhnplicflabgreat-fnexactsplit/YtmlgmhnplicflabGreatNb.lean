import Derived.Test.YtmlgmhnplicflabGreatMg
import Derived.Test.YtmlgmhnplicflabGreatYp
import Derived.Test.YtmlgmhnplicflabGreatNa
namespace Go.Proofs.YtmlgmhnplicflabGreat
open Go.RowKit
set_option linter.unusedVariables false
theorem read_tree (s:ByteArray):readRef s=match treeRef s with | .error x => .error x | .ok (g,f) => .ok (g,f 0):=by
 unfold readRef treeRef
 split
 ·rfl
 ·cases altRef s 6 0 0 with
  | error e=>rfl
  | ok v =>
    obtain ⟨f,q,g⟩:=v
    simp only
    split <;> rfl
theorem ask_none {s u:ByteArray} (h:Ask s u=none) (p:Int):waysRef s u p = []:=by
 unfold Ask at h
 rw [read_tree] at h
 unfold waysRef wanted
 cases ht:treeRef s with
 | error x=>simp
 | ok gf =>
   obtain ⟨g,f⟩:=gf
   rw [ht] at h
   simp only at h ⊢
   have:¬ u.size≤200:=by intro h2; rw [if_pos h2] at h; cases h
   simp [this]
theorem ask_some {s u:ByteArray} {g:Nat} {ps:List Pc} (h:Ask s u=some (g,ps)) {p:Nat} (hp:p≤u.size):waysRef s u (p:Int)=(xOf u ps (ps.length - 1) p).map (mtOf g p):=by
 unfold Ask at h
 rw [read_tree] at h
 unfold waysRef wanted
 cases ht:treeRef s with
 | error x=>rw [ht] at h; simp at h
 | ok gf =>
   obtain ⟨g',f⟩:=gf
   rw [ht] at h
   simp only at h ⊢
   have h2:u.size≤200:=by
    by_cases h2:u.size≤200
    ·exact h2
    ·rw [if_neg h2] at h; cases h
   rw [if_pos h2] at h
   simp only [Option.some.injEq,Prod.mk.injEq] at h
   obtain ⟨rfl,rfl⟩:=h
   have hz:(p:Int)≤(u.size:Int):=by omega
   simp [h2,hz,smx]
theorem ask_out {s u:ByteArray} {p:Int} (h:p < 0∨(u.size:Int) < p):waysRef s u p = []:=by
 unfold waysRef wanted
 rw [if_neg]
 simp only [Bool.and_eq_true,decide_eq_true_eq]
 omega
theorem ask_small {s u:ByteArray} {v:Nat×List Pc} (h:Ask s u=some v):u.size≤200:=by
 unfold Ask at h
 cases hr:readRef s with
 | error x=>rw [hr] at h; simp at h
 | ok v =>
   rw [hr] at h
   simp only at h
   by_cases h2:u.size≤200
   ·exact h2
   ·rw [if_neg h2] at h; cases h
theorem waysRef_gs {s u:ByteArray} {p:Int} {m:Mt} (h:m∈waysRef s u p):m.gs.length≤9:=by
 unfold waysRef at h
 split at h
 ·cases ht:treeRef s with
  | error x=>rw [ht] at h; simp at h
  | ok gf =>
    obtain ⟨g,f⟩:=gf
    rw [ht] at h
    simp only [List.mem_map] at h
    obtain ⟨e,-,rfl⟩:=h
    obtain ⟨-,hg,-⟩:=tree_fg ht
    simp only [mtOf,gsOf_len]
    exact hg
 ·simp at h
theorem wholeRef_gs (s u:ByteArray):(mtD (wholeRef s u)).gs.length≤9:=by
 unfold wholeRef
 cases h:(waysRef s u 0).find? fun m=>decide (m.up=(u.size:Int)) with
 | none=>simp [mtD]
 | some m=>exact waysRef_gs (List.mem_of_find?_eq_some h)
def SwP (s u:ByteArray) (p:Nat) (Z:Mz) (w:World) (e:Ending) (w':World):Prop :=
 ∃(ao:Option Addr) (n c:Nat) (L:List Mm),e = .returned (.slice ao n c)∧Hid (n=L.length∧n≤201∧L.map (·.1)=waysRef s u p)∧w'.ownsRow 0 29 4 (.slice ao n c) n (L.flatMap cell4)∧(∀x∈L,SpR w' x.2 x.1.gs)∧MI w' Z (fun _=>False) (fun _=>False)∧Keeps (ExM Z) w w'
theorem sways {w:World} {s u:ByteArray} {Z:Mz} {g p:Nat} {ps:List Pc} (ha:Ask s u=some (g,ps)) (hr:Mr w Z g ps u) (hp:p≤u.size) :
  Calls Tryz.prog 31 #[.pointer (some ⟨Z.R,0,none⟩),.int .i64 (p:Int)] w (SwP s u p Z w):=by
 refine (ways_spec (p:=p) hr (by rw [hr.eu]; exact hp)).mono ?_
 rintro e w' ⟨v,L,rfl,h1,h2,h3,h4⟩
 obtain ⟨ao,c,rfl⟩:=own_form h1.row
 have e1:L.map (·.1)=waysRef s u p:=by
  rw [ask_some ha hp,h2]
  unfold Mz.X
  rw [hr.eps,hr.eu,hr.eg]
 have:=waysRef_few s u p
 rw [← e1,List.length_map] at this
 exact ⟨ao,L.length,c,L,rfl,⟨rfl,this,e1⟩,h1.row,h1.rows,h3,h4⟩
end Go.Proofs.YtmlgmhnplicflabGreat
