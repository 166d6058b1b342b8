import Derived.Test.YthkmmeamplmnhaaGreatYs
import Derived.Lib.Strings
import Derived.Lib.Walk
import Derived.Lib.BufferWrite
import Derived.Lib.UnsafeStr
import Derived.Lib.Hide
import Derived.Laws.MakeOwn
namespace Go.Proofs.YthkmmeamplmnhaaGreat
open Go.RowKit
set_option linter.unusedVariables false
set_option maxHeartbeats 4000000 in
set_option maxRecDepth 100000 in
theorem scloneIn_any (s:ByteArray) (w:World) (hlim:s.size≤1000000) :
  Calls Tryz.prog 67 #[.string s] w fun e w'=>e = .returned (.string s)∧Keeps (fun _=>False) w w':=by
 by_cases h0:s.size=0
 ·have hs:s = ⟨#[]⟩:=by
   apply ByteArray.ext
   exact Array.eq_empty_of_size_eq_zero h0
  subst hs
  go_enter Tryz.func67,Tryz.ntmps67
  go_wp2
  go_ret
  exact ⟨rfl,Keeps.refl _ _⟩
 ·have hu8:(Tryz.prog.info? 5).map (fun i=>(i.zero,i.size,i.bytes))=some (some (.int .u8 0),1,1):=by kernel_rfl
  obtain ⟨i0,hi,hz0,hz1,hz2⟩:=info_parts hu8
  have hinfo:(Tryz.prog.info? 5).map (·.size)=some 1:=by rw [hi]; simp [hz1]
  have hco:Tryz.prog.cellsOf 5=1:=by simp [Program.cellsOf,hi,hz1]
  obtain ⟨M,hM⟩ :∃M,M=madeCells (Value.int .u8 0).cells (((s.size:Nat):Int).toNat * i0.size):=⟨_,rfl⟩
  have hMs:M.size=s.size:=by rw [hM,size_madeCells,hz1]; simp
  have hmk :∀W:World,(Instr.makeSlice 22 (.int .i64 (s.size:Int)) (.int .i64 (s.size:Int))).run Tryz.prog W = .ok (.slice (some ⟨W.heap.size,0,none⟩) s.size s.size) (W.alloc (.cells M 5)):=fun W=>by
   have h:=run_make (P:=Tryz.prog) W 22 5 i0 (.int .u8 0) Tryz.underlying22 hi hz0 .i64 .i64 (s.size:Int) (s.size:Int) (by omega) (by omega) (by rw [hz2]; omega) (by omega)
   rw [← hM] at h
   simpa using h
  clear hM
  have hcp:=Lib.run_copy_row_string (P:=Tryz.prog) (w.alloc (.cells M 5)) 22 9 3 5 w.heap.size 0 s.size s.size s M 5 Tryz.underlying22 hinfo (heap_alloc_new w _) (Nat.le_refl _) (by omega)
  obtain ⟨Y,hY⟩ :∃Y,Y=(M.toList.take 0 ++ Lib.byteCells s.data.toList ++ M.toList.drop (0 + s.size)).toArray:=⟨_,rfl⟩
  rw [← hY] at hcp
  have hYl:Y.toList=Lib.byteCells s.data.toList:=by
   rw [hY,List.toList_toArray,List.take_zero,List.nil_append,List.drop_of_length_le (by rw [Array.length_toList]; omega),List.append_nil]
  have hYs:Y.size=s.size:=by rw [← Array.length_toList,hYl,Lib.byteCells_length,← Lib.size_eq]
  have hgY:((w.alloc (.cells M 5)).setRow w.heap.size Y).heap[w.heap.size]? = some (.cells Y 5 (0,0)):=setRow_heap _ _ M _ 5 (0,0) (heap_alloc_new w _)
  have hne:s.data.toList≠[]:=fun e=>h0 (by rw [Lib.size_eq,e]; rfl)
  have hUS:=Lib.run_unsafeString_row (P:=Tryz.prog) ((w.alloc (.cells M 5)).setRow w.heap.size Y) 139 3 9 5 Tryz.underlying139 hco w.heap.size Y.size (by unfold World.shape?; rw [hgY]) s.data.toList hne (by rw [← Lib.size_eq]; omega) (by rw [← Lib.size_eq]; omega)
   (fun j x hx=>Lib.cells_of_row hgY Y.size j _ (by rw [List.take_of_length_le (by rw [Array.length_toList]; exact Nat.le_refl _),hYl]; simp [Lib.byteCells,hx]))
  rw [← Lib.size_eq] at hUS
  clear hY
  go_enter Tryz.func67,Tryz.ntmps67
  go_wp2
  go_ret
  have hb1:Below w.heap.size w (w.alloc (.cells M 5)):=(Below.refl _ w).alloc (Nat.le_refl _) _
  have hb2:Below w.heap.size (w.alloc (.cells M 5)) ((w.alloc (.cells M 5)).setRow w.heap.size Y):=⟨rfl,rfl,rfl,by simp,fun k hk=>setRow_other _ _ _ _ (by omega)⟩
  exact ⟨rfl,Keeps.ofBelow (Lib.below_freeze (hb1.trans hb2) (p:=⟨w.heap.size,0,none⟩) (Nat.le_refl _) _) (fun k h1 h2=>absurd h2 (by omega))⟩
theorem sclone_any (s:ByteArray) (w:World) (hlim:s.size≤1000000) :
  Calls Tryz.prog 47 #[.string s] w fun e w'=>e = .returned (.string s)∧Keeps (fun _=>False) w w':=by
 have hc:=scloneIn_any s w hlim
 go_enter Tryz.func47,Tryz.ntmps47
 go_wp2_with (go_at_call 67; refine hc.mono ?_; rintro e w2 ⟨rfl,hk⟩)
 go_ret
 exact ⟨rfl,hk⟩
end Go.Proofs.YthkmmeamplmnhaaGreat
namespace Go.Proofs.YthkmmeamplmnhaaGreat
open Go.RowKit Go.Shelf
set_option linter.unusedVariables false
def spS (u:ByteArray) (x:List ByteArray×Nat) (m:Mt):List ByteArray×Nat :=
 if m.up=m.fr∧(m.fr=0∨m.fr=(u.size:Int)) then x else (x.1 ++ [u.extract x.2 m.fr.toNat],m.up.toNat)
def spA (u:ByteArray) (l:List Mt):List ByteArray×Nat:=l.foldl (spS u) ([],0)
def splitRef (s u:ByteArray):List ByteArray:=if wanted s u 0 then (spA u (allRef s u)).1 ++ [u.extract (spA u (allRef s u)).2 u.size] else []
theorem spA_snoc (u:ByteArray) (l:List Mt) (m:Mt):spA u (l ++ [m])=spS u (spA u l) m:=by simp [spA]
def Ord (N:Nat):Nat→List Mt→Prop
 | _,[]=>True
 | p,m :: l=>(p:Int)≤m.fr∧m.fr≤m.up∧m.up≤(N:Int)∧Ord N m.up.toNat l∧(m.up=m.fr→m.fr=(N:Int)→l = [])
theorem Ord.mono {N:Nat} {l:List Mt} {p p':Nat} (h:Ord N p l) (hp:p'≤p):Ord N p' l:=by
 cases l with
 | nil=>trivial
 | cons m l=>exact ⟨by have:=h.1; omega,h.2⟩
theorem allX_ord {X:Xs} {N G:Nat} (hX:OkX N 0 G X) :∀(k p:Nat),p≤N + 1→Ord N p (allL (fun a=>(X a).map (mtOf G a)) N k p):=by
 intro k
 induction k with
 | zero=>intro p _; trivial
 | succ k ih =>
   intro p hp
   simp only [allL]
   cases hf:findL (fun a=>(X a).map (mtOf G a)) (N + 1 - p) p with
   | none=>trivial
   | some m =>
     obtain ⟨f1,f2,f3,f4,f5,f6,f7⟩:=findX_in hX (by omega) hf
     have hn:nxt m=(if m.up=m.fr then m.up + 1 else m.up).toNat:=rfl
     refine ⟨f3,f4,f5,(ih (nxt m) f7).mono (by rw [hn]; split <;> omega),fun e1 e2=>?_⟩
     have e:nxt m=N + 1:=by rw [hn,if_pos e1]; omega
     rw [e]
     cases k with
     | zero=>rfl
     | succ k=>simp [allL,findL]
theorem sp_le {u:ByteArray} :∀(l1:List Mt) (m:Mt) (l2:List Mt) (p:Nat) (x:List ByteArray×Nat),Ord u.size p (l1 ++ m :: l2)→x.2≤p→((l1.foldl (spS u) x).2:Int)≤m.fr:=by
 intro l1
 induction l1 with
 | nil=>intro m l2 p x h hx; have:=h.1; simp only [List.foldl_nil]; omega
 | cons m1 l1 ih =>
   intro m l2 p x h hx
   obtain ⟨h1,h2,h3,h4,-⟩:=h
   refine ih m l2 m1.up.toNat (spS u x m1) h4 ?_
   unfold spS
   split
   ·omega
   ·exact Nat.le_refl _
theorem sp_in {u:ByteArray} :∀(l:List Mt) (p:Nat) (x:List ByteArray×Nat),Ord u.size p l→x.2≤p→p≤u.size→(l.foldl (spS u) x).2≤u.size:=by
 intro l
 induction l with
 | nil=>intro p x h hx hp; simp only [List.foldl_nil]; omega
 | cons m1 l ih =>
   intro p x h hx hp
   obtain ⟨h1,h2,h3,h4,-⟩:=h
   refine ih m1.up.toNat (spS u x m1) h4 ?_ (by omega)
   unfold spS
   split
   ·omega
   ·exact Nat.le_refl _
theorem sp_few {u:ByteArray} (l:List Mt):(spA u l).1.length≤l.length:=by
 have h :∀(l:List Mt) (x:List ByteArray×Nat),(l.foldl (spS u) x).1.length≤x.1.length + l.length:=by
  intro l
  induction l with
  | nil=>intro x; simp
  | cons m l ih =>
    intro x
    have h1:=ih (spS u x m)
    have h2:(spS u x m).1.length≤x.1.length + 1:=by unfold spS; split <;> simp
    simp only [List.foldl_cons,List.length_cons]
    omega
 simpa [spA] using h l ([],0)
theorem mtold_ord {N:Nat} {on:List Mt→Bool} (hon :∀out m,on (out ++ [m])=false→m.up=m.fr∧m.fr=(N:Int)) :∀(l:List Mt) (p:Nat) (out:List Mt),Ord N p l→mtold on out l=out ++ l:=by
 intro l
 induction l with
 | nil=>intro p out _; simp [mtold]
 | cons m l ih =>
   intro p out h
   obtain ⟨h1,h2,h3,h4,h5⟩:=h
   simp only [mtold]
   cases ho:on (out ++ [m]) with
   | true=>rw [if_pos rfl,ih _ _ h4]; simp
   | false =>
     obtain ⟨e1,e2⟩:=hon out m ho
     rw [h5 e1 e2]
     simp
theorem Tryz.infoStr:(Tryz.prog.info? 9).map (fun i=>(i.zero,i.size,i.bytes))=some (some (.string ⟨#[]⟩),1,16):=by kernel_rfl
def Sr (w:World) (B:Nat) (v:Value) (L:List ByteArray):Prop:=w.ownsRow B 9 1 v L.length (L.map Value.string)
theorem app_str {w:World} {base:Nat} {v:Value} {L:List ByteArray} (h:Sr w base v L) (hb:base≤w.heap.size) (hl:L.length≤100000) (x:ByteArray) :
  ∃v' w',Sem.run Tryz.prog (Builtin.append_ #[47,47] 47 #[v,.slice (some ⟨w.heap.size,0,none⟩) 1 1]) (w.alloc (.cells #[.string x] 9)) = .ok v' w'∧Sr w' base v' (L ++ [x])∧Keeps (fun k=>v.ownBlock=some k) w w'∧(∀k,v'.ownBlock=some k→v.ownBlock=some k∨w.heap.size≤k):=by
 obtain ⟨i0,hi,hz0,hz1,hz2⟩:=info_parts Tryz.infoStr
 obtain ⟨v',w3,hrun,ho,hgr,hbk⟩:=app_any (P:=Tryz.prog) (w.alloc (.cells #[.string x] 9)) base 47 47 9 i0 _ 1 16 Tryz.underlying47 hi hz0 hz1 hz2 rfl (by decide) v L.length _ (h.alloc _)
  ⟨w.heap.size,0,none⟩ 1 1 [.string x] rfl (cells_new w _ _) (by intro u hu; simp at hu; subst hu; rfl) (by unfold maxLen; omega) (by omega) (by simp; omega)
 refine ⟨v',w3,hrun,?_,((Keeps.refl _ w).alloc _).grown hgr (fun k hk _=>hk),fun k hk=>?_⟩
 ·unfold Sr
  rw [List.map_append,List.length_append]
  simpa using ho
 ·by_cases hlt:k < w.heap.size
  ·exact Or.inl (hbk k hk (by simp; omega))
  ·exact Or.inr (by omega)
def PtR (S P Tx B:Nat) (u:ByteArray) (b:Nat) (out:List Mt):Rsc:=fun w F Fr =>∃v,At1 w S 47 v∧At1 w P 3 (.int .i64 ((spA u out).2:Int))∧Sr w B v (spA u out).1∧(∀k,Fr k↔k=S∨k=P∨v.ownBlock=some k)∧(∀k,Fr k→F k)∧v.ownBlock≠some S∧v.ownBlock≠some P∧CeI w F Tx 0 (.string u)∧B≤w.heap.size
theorem ptR_ok (S P Tx B:Nat) (u:ByteArray) (b:Nat) (out:List Mt):RscOk (PtR S P Tx B u b out):=by
 refine ⟨?_,?_⟩
 ·rintro w F Fr ⟨v,h1,h2,h3,h4,h5,h6,h7,h8,h9⟩ k hk
  refine ⟨h5 k hk,?_⟩
  rcases (h4 k).1 hk with rfl | rfl | hk
  ·exact h1.lt
  ·exact h2.lt
  ·exact (h3.lt k hk).2
 ·rintro w w' F F' Fr ⟨v,h1,h2,h3,h4,h5,h6,h7,h8,h9⟩ l hF' hk
  exact ⟨v,by unfold At1; rw [hk S ((h4 S).2 (Or.inl rfl))]; exact h1,by unfold At1; rw [hk P ((h4 P).2 (Or.inr (Or.inl rfl)))]; exact h2,ownsRow_at h3 (fun k h=>hk k ((h4 k).2 (Or.inr (Or.inr h)))),h4,hF',h6,h7,h8.later l,Nat.le_trans h9 l.size⟩
theorem ptR_up (S P Tx B:Nat) (u:ByteArray) (b b':Nat) (out:List Mt) (w:World) (F Fr:Bs2) (hb:b≤b') (h:PtR S P Tx B u b out w F Fr):PtR S P Tx B u b' out w F Fr:=h
theorem ptR_skip {S P Tx B b b':Nat} {u:ByteArray} {out:List Mt} {m:Mt} {w:World} {F Fr:Bs2} (h:PtR S P Tx B u b out w F Fr) (hm:m.up=m.fr∧(m.fr=0∨m.fr=(u.size:Int))):PtR S P Tx B u b' (out ++ [m]) w F Fr:=by
 have e:spA u (out ++ [m])=spA u out:=by rw [spA_snoc,spS,if_pos hm]
 unfold PtR
 rw [e]
 exact h
theorem ptR_add {S P Tx B b':Nat} {u:ByteArray} {out:List Mt} {m:Mt} {w w2:World} {F Fr:Bs2} {v:Value} (hFb:Fb w F) (hSP:S≠P) (hm:¬ (m.up=m.fr∧(m.fr=0∨m.fr=(u.size:Int)))) (h1:At1 w S 47 v) (h2:At1 w P 3 (.int .i64 ((spA u out).2:Int))) (h3:Sr w B v (spA u out).1) (h4 :∀k,Fr k↔k=S∨k=P∨v.ownBlock=some k) (h5 :∀k,Fr k→F k) (h6:v.ownBlock≠some S) (h7:v.ownBlock≠some P) (h8:CeI w F Tx 0 (.string u)) (h9:B≤w.heap.size) (hl:out.length < 1000) (h0:0≤m.up)
  (k2:Keeps (fun _=>False) w w2) :
  ∃ v' w3,Sem.run Tryz.prog (Builtin.append_ #[47,47] 47 #[v,.slice (some ⟨w2.heap.size,0,none⟩) 1 1]) (w2.alloc (.cells #[.string (u.extract (spA u out).2 m.fr.toNat)] 9)) = .ok v' w3∧(∃ao n cap,v' = .slice ao n cap)∧w2.cell? ⟨S,0,none⟩=some v∧w3.cell? ⟨S,0,none⟩=some v∧w3.frozen? ⟨S,0,none⟩=false∧At1 (w3.setCell ⟨S,0,none⟩ v') P 3 (.int .i64 ((spA u out).2:Int))∧Keeps Fr w (w3.setCell ⟨S,0,none⟩ v')∧
    ∃F4 Fu4,PtR S P Tx B u b' (out ++ [m]) ((w3.setCell ⟨S,0,none⟩ v').setCell ⟨P,0,none⟩ (.int .i64 m.up)) F4 Fu4∧Trn w F Fr ((w3.setCell ⟨S,0,none⟩ v').setCell ⟨P,0,none⟩ (.int .i64 m.up)) F4 Fu4:=by
 have hlen:=sp_few (u:=u) out
 have eS:spA u (out ++ [m])=((spA u out).1 ++ [u.extract (spA u out).2 m.fr.toNat],m.up.toNat):=by rw [spA_snoc,spS,if_neg hm]
 have h3':Sr w2 B v (spA u out).1:=ownsRow_keeps h3 k2 (fun _ _ h=>h)
 obtain ⟨v',w',hrun,ho,hk,hbk⟩:=app_str h3' (Nat.le_trans h9 k2.size) (by omega) (u.extract (spA u out).2 m.fr.toNat)
 have hsz:=k2.size
 have hS1:At1 w2 S 47 v:=h1.keeps k2 (fun h=>h)
 have hS:At1 w' S 47 v:=hS1.keeps hk h6
 have hP1:At1 w' P 3 (.int .i64 ((spA u out).2:Int)):=(h2.keeps k2 (fun h=>h)).keeps hk h7
 have hS2:At1 (w'.setCell ⟨S,0,none⟩ v') S 47 v':=by unfold At1; rw [heap_setCell_same _ _ _ _ _ _ hS]; rfl
 have hP2:At1 (w'.setCell ⟨S,0,none⟩ v') P 3 (.int .i64 ((spA u out).2:Int)):=by unfold At1; rw [Below.heap_setCell _ _ _ _ (Ne.symm hSP)]; exact hP1
 have kS:Keeps (fun k=>k=S) w' (w'.setCell ⟨S,0,none⟩ v'):=keeps_setCell _ _ _ _
 generalize hw3:w'.setCell ⟨S,0,none⟩ v'=w3 at hS2 hP2 kS
 have kP:Keeps (fun k=>k=P) w3 (w3.setCell ⟨P,0,none⟩ (.int .i64 m.up)):=keeps_setCell _ _ _ _
 have hP3:At1 (w3.setCell ⟨P,0,none⟩ (.int .i64 m.up)) P 3 (.int .i64 m.up):=by unfold At1; rw [heap_setCell_same _ _ _ _ _ _ hP2]; rfl
 have hS3:At1 (w3.setCell ⟨P,0,none⟩ (.int .i64 m.up)) S 47 v':=by unfold At1; rw [Below.heap_setCell _ _ _ _ hSP]; exact hS2
 have hneS:v'.ownBlock≠some S:=fun e=>by
  rcases hbk S e with h | h
  ·exact h6 h
  ·have:=h1.lt; omega
 have hneP:v'.ownBlock≠some P:=fun e=>by
  rcases hbk P e with h | h
  ·exact h7 h
  ·have:=h2.lt; omega
 have kA:Keeps Fr w w3:=((k2.mono (fun _ _ h=>h.elim)).trans (hk.mono (fun k _ h=>(h4 k).2 (Or.inr (Or.inr h))))).trans (kS.mono (fun k _ e=>(h4 k).2 (Or.inl e)))
 have kAll:Keeps Fr w (w3.setCell ⟨P,0,none⟩ (.int .i64 m.up)):=kA.trans (kP.mono (fun k _ e=>(h4 k).2 (Or.inr (Or.inl e))))
 have ho2:Sr (w3.setCell ⟨P,0,none⟩ (.int .i64 m.up)) B v' ((spA u out).1 ++ [u.extract (spA u out).2 m.fr.toNat]):=by
  refine ownsRow_keeps (ownsRow_keeps ho kS (fun k h e=>?_)) kP (fun k h e=>?_)
  ·subst e; exact hneS h
  ·subst e; exact hneP h
 obtain ⟨F4,hF4⟩ :∃F4:Bs2,F4=fun k=>(F k∧¬ Fr k)∨k=S∨k=P∨v'.ownBlock=some k:=⟨_,rfl⟩
 have lt:Lat w F (w3.setCell ⟨P,0,none⟩ (.int .i64 m.up)) F4:=⟨kAll.mono (fun k _ h=>h5 k h),fun k h=>by
  rw [hF4] at h
  rcases h with h | h | h | h
  ·exact Or.inl h.1
  ·exact Or.inl (h5 k ((h4 k).2 (Or.inl h)))
  ·exact Or.inl (h5 k ((h4 k).2 (Or.inr (Or.inl h))))
  ·rcases hbk k h with h | h
   ·exact Or.inl (h5 k ((h4 k).2 (Or.inr (Or.inr h))))
   ·exact Or.inr (by omega)⟩
 refine ⟨v',w',hrun,(by obtain ⟨ao,cap,rfl⟩:=own_form ho; exact ⟨_,_,_,rfl⟩),hS1.cell,hS.cell,free_of hS,by rw [hw3]; exact hP2,by rw [hw3]; exact kA,F4,fun k=>k=S∨k=P∨v'.ownBlock=some k,?_,?_⟩
 ·rw [hw3]
  refine ⟨v',hS3,?_,?_,fun k=>Iff.rfl,fun k h=>by rw [hF4]; exact Or.inr h,hneS,hneP,h8.later lt,Nat.le_trans h9 kAll.size⟩
  ·rw [eS]
   have:((m.up.toNat:Nat):Int)=m.up:=by omega
   simp only [this]
   exact hP3
  ·rw [eS]; exact ho2
 ·rw [hw3]
  refine ⟨kAll,fun k h=>?_,fun k h=>by rw [hF4] at h; exact h,fun k _ h hn=>by rw [hF4]; exact Or.inl ⟨h,hn⟩,fun k h=>by rw [hF4]; exact Or.inr h⟩
  rcases h with h | h | h
  ·exact Or.inl ((h4 k).2 (Or.inl h))
  ·exact Or.inl ((h4 k).2 (Or.inr (Or.inl h)))
  ·rcases hbk k h with h | h
   ·exact Or.inl ((h4 k).2 (Or.inr (Or.inr h)))
   ·exact Or.inr (by omega)
end Go.Proofs.YthkmmeamplmnhaaGreat
