import Derived.Test.YthkmmeamplmnhaaGreatC
import Derived.Test.YthkmmeamplmnhaaGreatA
import Derived.Deep.RegionWith
import Derived.Test.YthkmmeamplmnhaaGreatMf
import Derived.Test.YthkmmeamplmnhaaGreatYp
namespace Go.Proofs.YthkmmeamplmnhaaGreat
open Go.RowKit
set_option linter.unusedVariables false
theorem row_at {w:World} {base:Nat} {e:TypeId} {size:Nat} {v:Value} {n:Nat} {xs:List Value} (h:w.ownsRow base e size v n xs) (hn:0 < n) :∃g cap,v = .slice (some ⟨g,0,none⟩) n cap∧(∀j,j < n * size→w.cell? ⟨g,j,none⟩=xs[j]?)∧(∀j,w.frozen? ⟨g,j,none⟩=false)∧g < w.heap.size∧base≤g:=by
 obtain ⟨m,rfl⟩ :∃m,n=m + 1:=⟨n - 1,by omega⟩
 obtain ⟨g,cap,rfl,h1,h2⟩:=own_some h
 exact ⟨g,cap,rfl,fun j hj=>h.cellAt j hj,fun j=>h.frozenAt j,h2,h1⟩
theorem flatR_at2 (l:List (Int×Int)) (j:Nat) (h:j < l.length):(flatR l)[j * 2]? = some (.int .i64 (l.getD j (0,0)).1)∧(flatR l)[j * 2 + 1]? = some (.int .i64 (l.getD j (0,0)).2):=by
 induction l generalizing j with
 | nil=>simp at h
 | cons r l ih =>
   cases j with
   | zero=>simp [flatR]
   | succ j =>
     have:=ih j (by simpa using h)
     have e:flatR (r :: l) = .int .i64 r.1 :: .int .i64 r.2 :: flatR l:=by simp [flatR]
     rw [e]
     have e1:(j + 1) * 2=j * 2 + 1 + 1:=by omega
     rw [e1]
     simpa using this
theorem read_tree (s:ByteArray):readRef s=match treeRef s with | .error x => .error x | .ok (g,f) => .ok (g,f 0):=by
 unfold readRef treeRef
 split
 ·rfl
 ·cases altRef s 6 0 0 with
  | error e=>rfl
  | ok v =>
    obtain ⟨f,q,g⟩:=v
    simp only
    split <;> rfl
theorem ask_none {s u:ByteArray} (h:Ask s u=none) (p:Int):waysRef s u p = []:=by
 unfold Ask at h
 rw [read_tree] at h
 unfold waysRef wanted
 cases ht:treeRef s with
 | error x=>simp
 | ok gf =>
   obtain ⟨g,f⟩:=gf
   rw [ht] at h
   simp only at h ⊢
   have:¬ u.size≤200:=by intro h2; rw [if_pos h2] at h; cases h
   simp [this]
theorem ask_some {s u:ByteArray} {g:Nat} {ps:List Pc} (h:Ask s u=some (g,ps)) {p:Nat} (hp:p≤u.size):waysRef s u (p:Int)=(xOf u ps (ps.length - 1) p).map (mtOf g p):=by
 unfold Ask at h
 rw [read_tree] at h
 unfold waysRef wanted
 cases ht:treeRef s with
 | error x=>rw [ht] at h; simp at h
 | ok gf =>
   obtain ⟨g',f⟩:=gf
   rw [ht] at h
   simp only at h ⊢
   have h2:u.size≤200:=by
    by_cases h2:u.size≤200
    ·exact h2
    ·rw [if_neg h2] at h; cases h
   rw [if_pos h2] at h
   simp only [Option.some.injEq,Prod.mk.injEq] at h
   obtain ⟨rfl,rfl⟩:=h
   have hz:(p:Int)≤(u.size:Int):=by omega
   simp [h2,hz,smx]
theorem ask_out {s u:ByteArray} {p:Int} (h:p < 0∨(u.size:Int) < p):waysRef s u p = []:=by
 unfold waysRef wanted
 rw [if_neg]
 simp only [Bool.and_eq_true,decide_eq_true_eq]
 omega
def SwP (s u:ByteArray) (p:Nat) (Z:Mz) (w:World) (e:Ending) (w':World):Prop :=
 ∃(ao:Option Addr) (n c:Nat) (L:List Mm),e = .returned (.slice ao n c)∧Hid (n=L.length∧n≤201∧L.map (·.1)=waysRef s u p)∧w'.ownsRow 0 29 4 (.slice ao n c) n (L.flatMap cell4)∧(∀x∈L,SpR w' x.2 x.1.gs)∧MI w' Z (fun _=>False) (fun _=>False)∧Keeps (ExM Z) w w'
theorem sways {w:World} {s u:ByteArray} {Z:Mz} {g p:Nat} {ps:List Pc} (ha:Ask s u=some (g,ps)) (hr:Mr w Z g ps u) (hp:p≤u.size) :
  Calls Tryz.prog 46 #[.pointer (some ⟨Z.R,0,none⟩),.int .i64 (p:Int)] w (SwP s u p Z w):=by
 refine (ways_spec (p:=p) hr (by rw [hr.eu]; exact hp)).mono ?_
 rintro e w' ⟨v,L,rfl,h1,h2,h3,h4⟩
 obtain ⟨ao,c,rfl⟩:=own_form h1.row
 have e1:L.map (·.1)=waysRef s u p:=by
  rw [ask_some ha hp,h2]
  unfold Mz.X
  rw [hr.eps,hr.eu,hr.eg]
 have:=waysRef_few s u p
 rw [← e1,List.length_map] at this
 exact ⟨ao,L.length,c,L,rfl,⟨rfl,this,e1⟩,h1.row,h1.rows,h3,h4⟩
def RowQ (l:List Mt) (w:World) (e:Ending) (w':World):Prop :=
 ∃(ao:Option Addr) (n c:Nat) (L:List Mm),e = .returned (.slice ao n c)∧L.map (·.1)=l∧Mts w' (.slice ao n c) L∧Keeps (fun _=>False) w w'
set_option maxHeartbeats 2000000 in
set_option maxRecDepth 100000 in
theorem sways_any {w:World} {s u:ByteArray} {p:Int} (hs:s.size≤1048576) (hu:u.size≤1048576):Calls Tryz.prog 21 #[.string s,.string u,.int .i64 p] w (RowQ (waysRef s u p) w):=by
 have hof:=l2of_any (w:=w) hs hu
 unfold OfPost at hof
 cases ha:Ask s u with
 | none =>
   rw [ha] at hof
   simp only at hof
   rw [ask_none ha]
   clear ha
   go_enter Tryz.func21,Tryz.ntmps21
   go_wp2_with (go_at_call 31; refine hof.mono ?_; rintro e w2 ⟨R,rfl,hk⟩)
   go_ret
   exact ⟨none,0,0,[],rfl,rfl,⟨World.ownsRow_nil _ _ _ _,by simp⟩,hk⟩
 | some gp =>
   obtain ⟨g,ps⟩:=gp
   rw [ha] at hof
   simp only at hof
   have hof2:Calls Tryz.prog 31 #[.string s,.string u] w (fun e w2 =>∃Z,e = .returned (.tuple #[.pointer (some ⟨Z.R,0,none⟩),.bool true])∧Hid (Mr w2 Z g ps u∧w.heap.size≤Z.Bd∧w.heap.size≤Z.Bl)∧Keeps (fun _=>False) w w2):=by
    refine hof.mono ?_
    rintro e w2 ⟨Z,rfl,h1,h2,h3⟩
    exact ⟨Z,rfl,⟨h1,h2.1,h2.2⟩,h3⟩
   clear hof
   by_cases hp:p < 0∨(u.size:Int) < p
   ·rw [ask_out hp]
    clear ha
    go_enter Tryz.func21,Tryz.ntmps21
    rcases hp with hp | hp
    ·go_wp2_with (go_at_call 31; refine hof2.mono ?_; rintro e w2 ⟨Z,rfl,HM,hk⟩)
     go_ret
     exact ⟨none,0,0,[],rfl,rfl,⟨World.ownsRow_nil _ _ _ _,by simp⟩,hk⟩
    ·have hp0:¬ p < 0:=by omega
     go_wp2_with (go_at_call 31; refine hof2.mono ?_; rintro e w2 ⟨Z,rfl,HM,hk⟩)
     go_ret
     exact ⟨none,0,0,[],rfl,rfl,⟨World.ownsRow_nil _ _ _ _,by simp⟩,hk⟩
   ·obtain ⟨q,rfl⟩ :∃q:Nat,p=(q:Int):=⟨p.toNat,by omega⟩
    have hq:q≤u.size:=by omega
    have hp0:¬ (q:Int) < 0:=by omega
    have hp1:¬ (u.size:Int) < (q:Int):=by omega
    have HA:Hid (Ask s u=some (g,ps)):=ha
    clear ha hp
    go_enter Tryz.func21,Tryz.ntmps21
    go_wp2_with (first
     | (go_at_call 31; refine hof2.mono ?_; rintro e w2 ⟨Z,rfl,HM,hk1⟩; clear hof2)
     | (go_at_call 46; refine (sways (p:=q) HA.out HM.out.1 hq).mono ?_; rintro e w3 ⟨ao,n,c,L,rfl,HL,hrow,hrows,hM2,hk2⟩))
    go_ret
    refine ⟨ao,n,c,L,rfl,HL.out.2.2,⟨?_,hrows⟩,hk1.trans' hk2 (fun i hi h=>by have h1:=HM.out.2.1; have h2:=HM.out.2.2; rcases h with h | h <;> omega)⟩
    rw [← HL.out.1]; exact hrow
end Go.Proofs.YthkmmeamplmnhaaGreat
