import Derived.Test.YthkmmeamplmnhaaGreatYo
import Derived.RegionIn
import Derived.Sort.LoopGhostIn
namespace Go.Proofs.YthkmmeamplmnhaaGreat
open Go.RowKit
set_option linter.unusedVariables false
def findL (L:Nat→List Mt):Nat→Nat→Option Mt
 | 0,_=>none
 | k + 1,p=>match L p with
   | []=>findL L k (p + 1)
   | m :: _=>some m
theorem findL_none {L:Nat→List Mt} {k p:Nat} (h:L p = []):findL L (k + 1) p=findL L k (p + 1):=by simp [findL,h]
theorem findL_some {L:Nat→List Mt} {k p:Nat} {m:Mt} {l:List Mt} (h:L p=m :: l):findL L (k + 1) p=some m:=by simp [findL,h]
theorem findL_congr {L L':Nat→List Mt} {k p:Nat} (h :∀q,p≤q→q < p + k→L q=L' q):findL L k p=findL L' k p:=by
 induction k generalizing p with
 | zero=>rfl
 | succ k ih =>
   simp only [findL]
   rw [← h p (Nat.le_refl _) (by omega),ih (fun q h1 h2=>h q (by omega) (by omega))]
theorem leaves_cols {Fe:Fence} {n:Nat} {fn:Func} {tmps:Array Value} {R:Ending→World→Prop} :∀(Ds:List Nat) (w:World),(∀D∈Ds,w.heap[D]? = some (.deferred (some [])))→Ds.Nodup→(∀w',Keeps (fun k=>k∈Ds) w w'→LeavesInM Fe n Tryz.prog fn tmps R [] .returning w')→
  LeavesInM Fe n Tryz.prog fn tmps R (Ds.map fun D => { target:=.collected D,args:=#[] }) .returning w:=by
 intro Ds
 induction Ds with
 | nil=>intro w _ _ h; exact h w (Keeps.refl _ _)
 | cons D Ds ih =>
   intro w hD hn h
   rw [List.nodup_cons] at hn
   refine ⟨by simp,.inl ⟨D,_,rfl,run_takeDeferred (hD D (by simp)),ih _ (fun E hE=>?_) hn.2 (fun w' k=>h w' ?_)⟩⟩
   ·rw [put_other (show E≠D from fun e=>hn.1 (e ▸ hE))]
    exact hD E (by simp [hE])
   ·exact ((put_keeps w D (.deferred none)).mono (fun k _ e=>by simp [e])).trans (k.mono (fun k _ e=>by simp [e]))
def zeroM:Obj:=.cells #[.bool false,.int .i64 0,.int .i64 0,.slice none 0 0] 29 (0,0)
def ResR (Rb B Pa:Nat) (p:Int) (Ds:List Nat) (out:List (Nat×Rs)):Rsc:=fun w F Fr =>
 (∀k,Fr k↔k=Rb∨k∈Ds)∧F Rb∧(∀D∈Ds,F D∧w.heap[D]? = some (.deferred (some [])))∧CeI w F Pa 0 (.int .i64 p)∧Rb < w.heap.size∧
 (out = []→w.heap[Rb]? = some zeroM)∧
 (∀q gs l,out=(q,gs) :: l→∃a n c,w.heap[Rb]? = some (.cells #[.bool true,.int .i64 p,.int .i64 (q:Int),.slice a n c] 29 (0,0))∧w.ownsRow B 31 2 (.slice a n c) gs.length (flatR gs)∧∀k,(Value.slice a n c).ownBlock=some k→¬ F k)
theorem resR_ok (Rb B Pa:Nat) (p:Int) (Ds:List Nat) (out:List (Nat×Rs)):RscOk (ResR Rb B Pa p Ds out):=by
 refine ⟨?_,?_⟩
 ·rintro w F Fr ⟨h1,h2,hd,h3,h4,h5,h6⟩ k hk
  rcases (h1 k).1 hk with rfl | hk
  ·exact ⟨h2,h4⟩
  ·exact ⟨(hd k hk).1,(Array.getElem?_eq_some_iff.1 (hd k hk).2).1⟩
 ·rintro w w' F F' Fr ⟨h1,h2,hd,h3,h4,h5,h6⟩ l hF' hk
  have hb:=hk Rb ((h1 Rb).2 (Or.inl rfl))
  refine ⟨h1,hF' Rb ((h1 Rb).2 (Or.inl rfl)),fun D hD=>⟨hF' D ((h1 D).2 (Or.inr hD)),by rw [hk D ((h1 D).2 (Or.inr hD))]; exact (hd D hD).2⟩,h3.later l,Nat.lt_of_lt_of_le h4 l.size,fun e=>by rw [hb]; exact h5 e,fun q gs l' e=>?_⟩
  obtain ⟨a,n,c,g1,g2,g3⟩:=h6 q gs l' e
  obtain ⟨g4,g5⟩:=ownsRow_later ⟨g2,g3⟩ l
  exact ⟨a,n,c,by rw [hb]; exact g1,g4,g5⟩
theorem resR_mark {C:Cx} {ρ:Rx} {tv:Value} {T:Tt} {mine:List Rsc} {Rb B Pa D:Nat} {p:Int} {Ds:List Nat} {out:List (Nat×Rs)} {w:World} {F Fr:Bs2} (h:starL (SeR C ρ tv T :: DfR D :: ResR Rb B Pa p Ds out :: mine) w F Fr):starL (SeR C ρ tv T :: ResR Rb B Pa p (D :: Ds) out :: mine) w F Fr∧D ∉ Ds:=by
 obtain ⟨A1,A2,eA,dA,hSe,B1,B2,eB,dB,hDf,C1,C2,eC,dC,hRes,hmine⟩:=h
 obtain ⟨f1,f2,f3⟩:=hDf
 obtain ⟨h1,h2,hd,h3,h4,h5,h6⟩:=hRes
 refine ⟨⟨A1,A2,eA,dA,hSe,fun k=>B1 k∨C1 k,C2,fun k=>?_,fun k hk hc=>?_,⟨fun k=>?_,h2,fun E hE=>?_,h3,h4,h5,h6⟩,hmine⟩,fun hD=>?_⟩
 ·rw [eB k,eC k]; exact or_assoc.symm
 ·rcases hk with hk | hk
  ·exact dB k hk ((eC k).2 (Or.inr hc))
  ·exact dC k hk hc
 ·show B1 k∨C1 k↔_
  rw [f1 k,h1 k,List.mem_cons]
  constructor
  ·rintro (h | h | h)
   ·exact Or.inr (Or.inl h)
   ·exact Or.inl h
   ·exact Or.inr (Or.inr h)
  ·rintro (h | h | h)
   ·exact Or.inr (Or.inl h)
   ·exact Or.inl h
   ·exact Or.inr (Or.inr h)
 ·rcases List.mem_cons.1 hE with rfl | hE
  ·exact ⟨f2,f3⟩
  ·exact hd E hE
 ·exact dB D ((f1 D).2 rfl) ((eC D).2 (Or.inl ((h1 D).2 (Or.inr hD))))
theorem fi_ok {C:Cx} {ρ:Rx} {tv:Value} {T:Tt} {mine:List Rsc} {R:Rsc} (ha :∀R∈mine,RscOk R) (hR:RscOk R):RscOk (starL (SeR C ρ tv T :: R :: mine)):=starL_ok (fun Q hQ=>by
 rcases List.mem_cons.1 hQ with rfl | hQ
 ·exact seR_ok _ _ _ _
 ·rcases List.mem_cons.1 hQ with rfl | hQ
  ·exact hR
  ·exact ha Q hQ)
structure FiI (C:Cx) (ρ:Rx) (X:Xs) (B:Option Bo) (mine:List Rsc) (Rb B0:Nat) (w0:World) (F0 Fr0:Bs2) (at_ Pa:Nat) (Ds:List Nat) (w:World):Prop where
 ex :∃(T:Tt) (tv:Value) (F Fr:Bs2),starL (SeR C ρ tv T :: ResR Rb B0 Pa (at_:Int) Ds [] :: mine) w F Fr∧Srch C w F ρ.bg X B mine∧Fb w F∧Rdy C.u.size T B∧Trn w0 F0 Fr0 w F Fr
 pa:w.heap[Pa]? = some (.cells #[.int .i64 (at_:Int)] 3 (0,0))
 nd:Ds.Nodup
theorem fi_next {C:Cx} {ρ:Rx} {X:Xs} {B:Option Bo} {mine:List Rsc} {Rb B0 at_ Pa D:Nat} {w0 wr w5 w6:World} {F0 Fr0 F2 Fr2 F5 Fr5:Bs2} {Ds:List Nat} {T':Tt} {tv':Value}
  (g2:Srch C wr F2 ρ.bg X B mine) (g3:Fb wr F2) (g5:Trn w0 F0 Fr0 wr F2 Fr2) (hF2 :∀k,Fr2 k→F2 k) (hnd:Ds.Nodup)
  (hst:starL (SeR C ρ tv' T' :: DfR D :: ResR Rb B0 Pa (at_:Int) Ds [] :: mine) w5 F5 Fr5) (ht5:Trn wr F2 Fr2 w5 F5 Fr5) (hrd:Rdy C.u.size T' B)
  (k6:Keeps (fun _=>False) w5 w6) (hpa:w6.heap[w5.heap.size]? = some (.cells #[.int .i64 ((at_ + 1:Nat):Int)] 3 (0,0))) :
  FiI C ρ X B mine Rb B0 w0 F0 Fr0 (at_ + 1) w5.heap.size (D :: Ds) w6:=by
 obtain ⟨h1,hnD⟩:=resR_mark hst
 have hok:=fi_ok (C:=C) (ρ := ρ) (tv:=tv') (T:=T') g2.ok (resR_ok Rb B0 Pa (at_:Int) (D :: Ds) [])
 have hlt:=hok.lt h1
 have hFb5:Fb w5 F5:=g3.trn ht5 (fun k hk=>(hlt k hk).2)
 have h6:=hok.frame h1 (Lat.ofKeeps k6) (fun k hk=>(hlt k hk).1) (fun k hk=>k6.block k (hlt k hk).2 (fun h=>h))
 have t6:Trn w5 F5 Fr5 w6 F5 Fr5:=Trn.ofKeeps (fun k hk=>(hlt k hk).1) k6
 obtain ⟨A1,A2,eA,dA,hSe,C1,C2,eC,dC,⟨r1,r2,rd,r3,r4,r5,r6⟩,hmine⟩:=h6
 refine ⟨⟨T',tv',F5,Fr5,⟨A1,A2,eA,dA,hSe,C1,C2,eC,dC,⟨r1,r2,rd,⟨by rw [cell_of hpa]; rfl,fun h=>?_,lt_of_block hpa⟩,r4,r5,fun q gs l e=>by cases e⟩,hmine⟩,g2.later ((ht5.trans t6).lat hF2),hFb5.keeps k6,hrd,g5.trans (ht5.trans t6)⟩,hpa,List.nodup_cons.2 ⟨hnD,hnd⟩⟩
 have:=hFb5 _ h
 omega
theorem fi_end {C:Cx} {ρ:Rx} {mine:List Rsc} {Rb B0 Pa:Nat} {p:Int} {w0 w5 w':World} {F0 Fr0 F5 Fr5:Bs2} {Ds:List Nat} {T':Tt} {tv':Value} {out:List (Nat×Rs)} (ha :∀R∈mine,RscOk R)
  (hst:starL (SeR C ρ tv' T' :: ResR Rb B0 Pa p Ds out :: mine) w5 F5 Fr5) (ht5:Trn w0 F0 Fr0 w5 F5 Fr5) (k:Keeps (fun k=>k=Rb∨k∈Ds) w5 w') :
  ∃F' Fr',starL (SeR C ρ tv' T' :: mine) w' F' Fr'∧Trn w0 F0 Fr0 w' F' Fr'∧∀k,F' k→F5 k:=by
 have hokS:=se_ok (C:=C) (ρ := ρ) (tl:=tv') (T:=T') ha
 have hokR:=resR_ok Rb B0 Pa p Ds out
 obtain ⟨G1,G2,hA⟩:=starL_cons.1 (starL_perm hst)
 have h1:=hA.one.1
 have hlt:=hokR.lt hA.one
 have t5:Trn w5 F5 G1 w' F5 G1:=Trn.same (fun k hk=>(hlt k hk).1) (k.mono (fun i _ h=>(h1 i).2 h))
 obtain ⟨hA2,t2⟩:=hA.upd (R':=AnyR) hokR hokS t5 (fun i hi=>⟨(hlt i hi).1,Nat.lt_of_lt_of_le (hlt i hi).2 k.size⟩)
 obtain ⟨H1,H2,-,q2,q3⟩:=trn_drop anyR_ok hokS (starL_cons.2 ⟨_,_,hA2⟩) (ht5.trans t2)
 exact ⟨_,H2,q2,q3,fun k hk=>hk.1⟩
def FindP (C:Cx) (ρ:Rx) (B:Option Bo) (mine:List Rsc) (r:Option Mt) (w:World) (F Fr:Bs2) (e:Ending) (w':World):Prop :=
 ∃ (T':Tt) (tv':Value) (F' Fr':Bs2) (a:Option Addr) (n c:Nat),e = .returned (.agg #[.bool (r.elim false (·.ok)),.int .i64 (r.elim 0 (·.fr)),.int .i64 (r.elim 0 (·.up)),.slice a n c])∧
   w'.ownsRow w.heap.size 31 2 (.slice a n c) (r.elim [] (·.gs)).length (flatR (r.elim [] (·.gs)))∧(∀k,(Value.slice a n c).ownBlock=some k→¬ F' k)∧
   starL (SeR C ρ tv' T' :: mine) w' F' Fr'∧Trn w F Fr w' F' Fr'∧Rdy C.u.size T' B
theorem fi_none {C:Cx} {ρ:Rx} {B:Option Bo} {mine:List Rsc} {Rb B0 Pa:Nat} {p:Int} {w0 w5 w':World} {F0 Fr0 F5 Fr5:Bs2} {Ds:List Nat} {T':Tt} {tv':Value} {out:List (Nat×Rs)} (ha :∀R∈mine,RscOk R)
  (hst:starL (SeR C ρ tv' T' :: ResR Rb B0 Pa p Ds out :: mine) w5 F5 Fr5) (ht5:Trn w0 F0 Fr0 w5 F5 Fr5) (k:Keeps (fun k=>k=Rb∨k∈Ds) w5 w') (hrd:Rdy C.u.size T' B) :
  FindP C ρ B mine none w0 F0 Fr0 (.returned (.agg #[.bool false,.int .i64 0,.int .i64 0,.slice none 0 0])) w':=by
 obtain ⟨F',Fr',h1,h2,h3⟩:=fi_end ha hst ht5 k
 exact ⟨T',tv',F',Fr',none,0,0,rfl,World.ownsRow_nil _ _ _ _,fun k hk=>by simp [Value.ownBlock] at hk,h1,h2,hrd⟩
theorem fi_some {C:Cx} {ρ:Rx} {B:Option Bo} {mine:List Rsc} {Rb Pa q:Nat} {p:Int} {gs:Rs} {w0 w5:World} {F0 Fr0 F5 Fr5:Bs2} {Ds:List Nat} {T':Tt} {tv':Value} (ha :∀R∈mine,RscOk R)
  (hst:starL (SeR C ρ tv' T' :: ResR Rb w0.heap.size Pa p Ds [(q,gs)] :: mine) w5 F5 Fr5) (ht5:Trn w0 F0 Fr0 w5 F5 Fr5) (hrd:Rdy C.u.size T' B) :
  ∃a n c,w5.heap[Rb]? = some (.cells #[.bool true,.int .i64 p,.int .i64 (q:Int),.slice a n c] 29 (0,0))∧(∀D∈Ds,w5.heap[D]? = some (.deferred (some [])))∧Rb ∉ Ds∧∀w',Keeps (fun k=>k∈Ds) w5 w'→FindP C ρ B mine (some ⟨true,p,(q:Int),gs⟩) w0 F0 Fr0 (.returned (.agg #[.bool true,.int .i64 p,.int .i64 (q:Int),.slice a n c])) w':=by
 obtain ⟨G1,G2,hA⟩:=starL_cons.1 (starL_perm hst)
 obtain ⟨r1,r2,rd,r3,r4,r5,r6⟩:=hA.one
 obtain ⟨a,n,c,g1,g2,g3⟩:=r6 q gs [] rfl
 refine ⟨a,n,c,g1,fun D hD=>(rd D hD).2,fun h=>by have:=(rd _ h).2; rw [g1] at this; simp at this,fun w' k=>?_⟩
 obtain ⟨F',Fr',h1,h2,h3⟩:=fi_end ha hst ht5 (k.mono (fun i _ h=>Or.inr h))
 exact ⟨T',tv',F',Fr',a,n,c,rfl,ownsRow_keeps g2 k (fun i hi h=>g3 i hi (rd i h).1),fun i hi h=>g3 i hi (h3 i h),h1,h2,hrd⟩
end Go.Proofs.YthkmmeamplmnhaaGreat
namespace Go.Proofs.YthkmmeamplmnhaaGreat
open Go.RowKit Go.Shelf
set_option linter.unusedVariables false
attribute [local go_sem] Oper.semAt_some
set_option maxHeartbeats 2000000 in
set_option maxRecDepth 100000 in
theorem find_any {w:World} {C:Cx} {ρ:Rx} {X:Xs} {B:Option Bo} {mine:List Rsc} {T:Tt} {tv:Value} {F Fr:Bs2} {p:Nat} (hS:Srch C w F ρ.bg X B mine) (hR:starL (SeR C ρ tv T :: mine) w F Fr) (hFb:Fb w F) (hrd:Rdy C.u.size T B) (hX:OkX C.u.size 0 C.G X) (hu:C.u.size≤200) (hG:C.G≤9) (hp:p≤C.u.size + 1) :
  Calls Tryz.prog 42 #[.pointer (some ⟨C.X,0,none⟩),.int .i64 (p:Int)] w (FindP C ρ B mine (findL (fun a=>(X a).map (mtOf C.G a)) (C.u.size + 1 - p) p) w F Fr):=by
 have hfn :∀f,Fence.wide.fn f:=fun _=>trivial
 have hdp:Fence.wide.depth=none:=rfl
 have b1:=box1 w (.cells #[.bool false,.int .i64 0,.int .i64 0,.slice none 0 0] 29) (.cells #[.int .i64 (p:Int)] 3)
 have b2:=box2 w (.cells #[.bool false,.int .i64 0,.int .i64 0,.slice none 0 0] 29) (.cells #[.int .i64 (p:Int)] 3)
 have k1:Keeps (fun _=>False) w ((w.alloc (.cells #[.bool false,.int .i64 0,.int .i64 0,.slice none 0 0] 29)).alloc (.cells #[.int .i64 (p:Int)] 3)):=((Keeps.refl _ w).alloc _).alloc _
 refine (callsIn_wide (n:=3)).1 ?_
 refine callsIn_of_wp_marks Tryz.func42 rfl trivial ?_
 simp only [Tryz.ntmps42,List.size_toArray,List.length_cons,List.length_nil,Nat.reduceAdd,Nat.reduceSub,Array.replicate_succ,Array.replicate_zero,List.push_toArray,List.append_toArray,List.nil_append,List.cons_append]
 have hok0:=se_ok (C:=C) (ρ := ρ) (tl:=tv) (T:=T) hS.ok
 have hlt0:=hok0.lt hR
 have H0:Hid (FiI C ρ X B mine w.heap.size w.heap.size w F Fr p (w.heap.size + 1) [] ((w.alloc (.cells #[.bool false,.int .i64 0,.int .i64 0,.slice none 0 0] 29)).alloc (.cells #[.int .i64 (p:Int)] 3))):=by
  have l1:Lat w F ((w.alloc (.cells #[.bool false,.int .i64 0,.int .i64 0,.slice none 0 0] 29)).alloc (.cells #[.int .i64 (p:Int)] 3)) (fun k=>F k∨k=w.heap.size):=⟨k1.mono (fun _ _ h=>h.elim),fun k hk=>hk.imp id (fun e=>by omega)⟩
  have hR1:=hok0.frame hR l1 (fun k hk=>Or.inl (hlt0 k hk).1) (fun k hk=>k1.block k (hlt0 k hk).2 (fun h=>h))
  have hn1:¬ (F (w.heap.size + 1)∨w.heap.size + 1=w.heap.size):=fun h=>by
   rcases h with h | h
   ·have:=hFb _ h; omega
   ·omega
  have hs2:=lt_of_block b2
  have hs1:=lt_of_block b1
  have hres:ResR w.heap.size w.heap.size (w.heap.size + 1) (p:Int) [] [] ((w.alloc (.cells #[.bool false,.int .i64 0,.int .i64 0,.slice none 0 0] 29)).alloc (.cells #[.int .i64 (p:Int)] 3)) (fun k=>F k∨k=w.heap.size) (fun k=>k=w.heap.size) :=
   ⟨fun k=>by simp,Or.inr rfl,by simp,⟨by rw [cell_of b2]; rfl,hn1,hs2⟩,hs1,fun _=>b1,fun q gs l e=>by cases e⟩
  refine ⟨⟨T,tv,_,_,starL_perm (starL_new hok0 hR1 (fun h=>by have:=(hlt0 _ h).2; omega) (Or.inr rfl) hres),hS.later l1,fun k hk=>?_,hrd,⟨k1.mono (fun _ _ h=>h.elim),fun k hk=>?_,fun k hk=>?_,fun k hs hk hn=>Or.inl hk,fun k hk=>?_⟩⟩,b2,by simp⟩
  ·rcases hk with h | h
   ·have:=hFb k h; have:=k1.size; omega
   ·omega
  ·rcases hk with h | h
   ·exact Or.inr (by omega)
   ·exact Or.inl h
  ·rcases hk with h | h
   ·by_cases h2:Fr k
    ·exact Or.inr (Or.inr h2)
    ·exact Or.inl ⟨h,h2⟩
   ·exact Or.inr (Or.inl h)
  ·rcases hk with h | h
   ·exact Or.inr h
   ·exact Or.inl (hlt0 k h).1
 gi_wp2
 generalize ((w.alloc (.cells #[.bool false,.int .i64 0,.int .i64 0,.slice none 0 0] 29)).alloc (.cells #[.int .i64 (p:Int)] 3))=w1 at *
 refine wpIn_loop_ghost_k (fun n a wr =>∃(at_ Pa:Nat) (Ds:List Nat) (u8 u9 u10 u11 u12 u13 u14 u15 u16 u17 u18 u19 u24:Value),n=C.u.size + 1 - at_∧at_≤C.u.size + 1∧Hid (findL (fun a=>(X a).map (mtOf C.G a)) (C.u.size + 1 - p) p=findL (fun a=>(X a).map (mtOf C.G a)) (C.u.size + 1 - at_) at_)∧Hid (FiI C ρ X B mine w.heap.size w.heap.size w F Fr at_ Pa Ds wr)∧
  a = { tmps:=#[.pointer (some ⟨C.X,0,none⟩),.int .i64 (p:Int),undef,undef,.pointer (some ⟨w.heap.size,0,none⟩),.pointer (some ⟨Pa,0,none⟩),undef,.int .i64 (p:Int),u8,u9,u10,u11,u12,u13,u14,u15,u16,u17,u18,u19,undef,undef,undef,undef,u24,undef],defers:=Ds.map fun D => { target:=.collected D,args:=#[] } }) (C.u.size + 1 - p) ?_ ?_
 ·exact ⟨p,w.heap.size + 1,[],_,_,_,_,_,_,_,_,_,_,_,_,_,rfl,hp,rfl,H0.out,rfl⟩
 intro n a wr hI J K hJ hK
 obtain ⟨at_,Pa,Ds,u8,u9,u10,u11,u12,u13,u14,u15,u16,u17,u18,u19,u24,hn,hat,HL,HI,rfl⟩:=hI
 have HN:Hid (n=C.u.size + 1 - at_):=hn
 obtain ⟨⟨T2,tv2,F2,Fr2,g1,g2,g3,g4,g5⟩,hpa,hnd⟩:=HI.out
 obtain ⟨FA,FB,hApt⟩:=starL_cons.1 g1
 have hSe:Se wr C ρ.jn ρ.bg tv2:=hApt.one.choose_spec.1
 have hs0:=hSe.c0
 have ha0:wr.cell? ⟨Pa,0,none⟩=some (.int .i64 (at_:Int)):=by rw [cell_of hpa]; rfl
 by_cases hle:at_≤C.u.size
 ·have hz:(at_:Int)≤(C.u.size:Int):=by omega
  have HE:Hid (∀(w3:World),CallsIn Fence.wide 2 Tryz.prog 44 #[.pointer (some ⟨C.X,0,none⟩),.int .i64 (at_:Int)] w3 (fun e w'=>e = .returned (.func (.func 64) #[] #[.pointer (some ⟨w3.heap.size,0,none⟩),.pointer (some ⟨w3.heap.size + 1,0,none⟩)])∧At1 w' w3.heap.size 61 (.pointer (some ⟨C.X,0,none⟩))∧At1 w' (w3.heap.size + 1) 3 (.int .i64 (at_:Int))∧Keeps (fun _=>False) w3 w')):=fun w3=>callsIn_wide.2 (ends_any (C:=C) (p:=(at_:Int)))
  clear hApt hSe hS hR hFb hrd b1 b2 k1 H0 hok0 hlt0 hn
  gi_wp2
  gi_region
  gi_wp2_with (gi_at_call 44; refine (HE.out _).mono ?_; rintro e w4 ⟨rfl,bA,bP,k4⟩)
  have k4':Keeps (fun _=>False) wr w4:=by first | exact k4 | exact ((Keeps.refl _ wr).drew).trans k4
  have bA':At1 w4 wr.heap.size 61 (.pointer (some ⟨C.X,0,none⟩)):=bA
  have bP':At1 w4 (wr.heap.size + 1) 3 (.int .i64 (at_:Int)):=bP
  have hokR:=fi_ok (C:=C) (ρ := ρ) (tv:=tv2) (T:=T2) g2.ok (resR_ok w.heap.size w.heap.size Pa (at_:Int) Ds [])
  have hlt:=hokR.lt g1
  have hR4:=hokR.frame g1 (Lat.ofKeeps k4') (fun k hk=>(hlt k hk).1) (fun k hk=>k4'.block k (hlt k hk).2 (fun h=>h))
  have hS4:=g2.later (Lat.ofKeeps (F:=F2) k4')
  have hF2 :∀k,Fr2 k→F2 k:=fun k hk=>(hlt k hk).1
  have hno:tln (some Code.ret).isSome sno (bn (X at_) tellW)≤if (some Code.ret).isSome then 1 else 1:=by
   show (if true then min 1 (dd sno (bn (X at_) tellW)).length else _)≤1
   simp; omega
  refine range_ends (cap:=1) (c:=some .ret) (ρ := ρ) (p:=at_) (X:=X) (U:=ResR w.heap.size w.heap.size Pa (at_:Int) Ds) (fun out=>resR_ok _ _ _ _ _ out) rfl ?round rfl hS4 ⟨bA',fun h=>by have:=g3 _ h; omega⟩ ⟨bP',fun h=>by have:=g3 _ h; omega⟩ (g3.keeps k4') hR4 hle (g4.pre _ _) hno ?done
  case round =>
   clear hR4 hS4 bA bP bA' bP' hokR hlt g1 g2 g3 g4 g5 HI hpa hs0 ha0 HE hK hJ k4 k4' hF2 hno
   intro l w5 F5 Fu out q' gv gs hFb5 hU hsp hgl hq' hn hF5l hll hnl
   obtain ⟨ag,ng,cg,hgv⟩ :∃ag ng cg,gv = .slice ag ng cg:=by obtain ⟨a,c,h,_⟩:=hsp; exact ⟨a,_,c,h⟩
   subst hgv
   have hgs:gs.length≤1000:=by rw [hgl]; omega
   have hout:out = []:=by
    have:out.length < 1:=hn
    exact List.eq_nil_of_length_eq_zero (by omega)
   subst hout
   clear hgl hn
   refine ⟨fun a1 w6=>w6.heap[w5.heap.size]? = some (.cells #[.int .i64 (q':Int),.slice ag ng cg] 83 (0,0))∧a1 = { tmps:=#[.pointer (some ⟨C.X,0,none⟩),.int .i64 (p:Int),undef,undef,.pointer (some ⟨w.heap.size,0,none⟩),.pointer (some ⟨Pa,0,none⟩),.pointer (some ⟨w5.heap.size,0,none⟩),.int .i64 (p:Int),.int .i64 (at_:Int),.pointer (some ⟨C.X,0,none⟩),.pointer (some ⟨C.X,0,none⟩),.pointer (some ⟨C.X,0,none⟩),.string C.u,.int .i64 (C.u.size:Int),.bool true,u15,u16,.pointer (some ⟨C.X,0,none⟩),.int .i64 (at_:Int),.func (.func 64) #[] #[.pointer (some ⟨wr.heap.size,0,none⟩),.pointer (some ⟨wr.heap.size + 1,0,none⟩)],.agg #[.int .i64 (q':Int),.slice ag ng cg],undef,undef,undef,u24,undef],defers := [] },?_,?_⟩
   ·have HK:Hid (Keeps (fun _=>False) w5 (w5.alloc (.cells #[.int .i64 (q':Int),.slice ag ng cg] 83))):=(Keeps.refl _ _).alloc _
    have HA:Hid ((w5.alloc (.cells #[.int .i64 (q':Int),.slice ag ng cg] 83)).heap[w5.heap.size]? = some (.cells #[.int .i64 (q':Int),.slice ag ng cg] 83 (0,0))):=heap_alloc_new _ _
    clear hU hsp
    gi_wp2
    exact ⟨HK.out,HA.out,by first | trivial | rfl⟩
   ·rintro a1 w6 w7 k6 ⟨hb,rfl⟩ k7 ⟨r1,r2,rd,r3,r4,r5,r6⟩
    have hb7:w7.heap[w5.heap.size]? = some (.cells #[.int .i64 (q':Int),.slice ag ng cg] 83 (0,0)):=by rw [k7.block _ (lt_of_block hb) (by omega)]; exact hb
    have l57:Lat w5 F5 w7 F5:=(Lat.ofKeeps k6).trans ⟨k7.mono (fun k _ e=>e ▸ hF5l),fun k h=>Or.inl h⟩
    have hFb7:Fb w7 F5:=(hFb5.keeps k6).keeps k7
    have hsp7:=hsp.later l57
    have hmo:CallsIn (Fence.wide.inRound l) 0 Tryz.prog 45 #[.int .i64 (at_:Int),.agg #[.int .i64 (q':Int),.slice ag ng cg]] w7 _:=CallsIn.inRound l ((callsIn_wide (n:=0)).2 (matchOf_any (p:=(at_:Int)) (q:=(q':Int)) hsp7 hgs))
    have hz7:=r5 rfl
    have d1:w7.cell? ⟨Pa,0,none⟩=some (.int .i64 (at_:Int)):=r3.1
    have d2:w7.cell? ⟨w5.heap.size,0,none⟩=some (.int .i64 (q':Int)):=by rw [cell_of hb7]; rfl
    have d3:w7.cell? ⟨w5.heap.size,1,none⟩=some (.slice ag ng cg):=by rw [cell_of hb7]; rfl
    have HF:Hid (∀(w8:World) (a:Option Addr) (n c:Nat),Keeps (fun _=>False) w7 w8→w8.ownsRow w7.heap.size 31 2 (.slice a n c) gs.length (flatR gs)→w8.heap[w.heap.size]? = some zeroM∧Hid (∃F4 Fu4,ResR w.heap.size w.heap.size Pa (at_:Int) Ds ([] ++ [(q',gs)]) ((((w8.setCell ⟨w.heap.size,0,none⟩ (.bool true)).setCell ⟨w.heap.size,1,none⟩ (.int .i64 (at_:Int))).setCell ⟨w.heap.size,2,none⟩ (.int .i64 (q':Int))).setCell ⟨w.heap.size,3,none⟩ (.slice a n c)) F4 Fu4∧Trn w7 F5 Fu ((((w8.setCell ⟨w.heap.size,0,none⟩ (.bool true)).setCell ⟨w.heap.size,1,none⟩ (.int .i64 (at_:Int))).setCell ⟨w.heap.size,2,none⟩ (.int .i64 (q':Int))).setCell ⟨w.heap.size,3,none⟩ (.slice a n c)) F4 Fu4)):=by
     intro w8 a n c k8 hrow
     have h8:w8.heap[w.heap.size]? = some zeroM:=(k8.block _ r4 (fun h=>h)).trans hz7
     refine ⟨h8,F5,Fu,?_,?_⟩
     ·have kN:Keeps (fun k=>k=w.heap.size) w8 ((((w8.setCell ⟨w.heap.size,0,none⟩ (.bool true)).setCell ⟨w.heap.size,1,none⟩ (.int .i64 (at_:Int))).setCell ⟨w.heap.size,2,none⟩ (.int .i64 (q':Int))).setCell ⟨w.heap.size,3,none⟩ (.slice a n c)):=(((keeps_setCell _ _ _ _).trans (keeps_setCell _ _ _ _)).trans (keeps_setCell _ _ _ _)).trans (keeps_setCell _ _ _ _)
      have lN:Lat w7 F5 ((((w8.setCell ⟨w.heap.size,0,none⟩ (.bool true)).setCell ⟨w.heap.size,1,none⟩ (.int .i64 (at_:Int))).setCell ⟨w.heap.size,2,none⟩ (.int .i64 (q':Int))).setCell ⟨w.heap.size,3,none⟩ (.slice a n c)) F5:=⟨(k8.mono (fun _ _ h=>h.elim)).trans (kN.mono (fun k _ e=>e ▸ r2)),fun k h=>Or.inl h⟩
      have hsz:=k8.size
      refine ⟨r1,r2,fun D hD=>⟨(rd D hD).1,?_⟩,r3.later lN,(by have:=kN.size; omega),(fun e=>by simp at e),fun q gs' l' e=>?_⟩
      ·have hDne:¬ D=w.heap.size:=fun e=>by have:=(rd D hD).2; rw [e,hz7] at this; simp [zeroM] at this
       have hDl:=(Array.getElem?_eq_some_iff.1 (rd D hD).2).1
       rw [kN.block D (by omega) hDne,k8.block D hDl (fun h=>h)]
       exact (rd D hD).2
      ·simp only [List.nil_append,List.cons.injEq,Prod.mk.injEq] at e
       obtain ⟨⟨rfl,rfl⟩,rfl⟩:=e
       refine ⟨a,n,c,?_,?_,fun k hk h=>?_⟩
       ·have s1:=heap_setCell_same w8 w.heap.size 0 _ _ (.bool true) h8
        have s2:=heap_setCell_same _ w.heap.size 1 _ _ (.int .i64 (at_:Int)) s1
        have s3:=heap_setCell_same _ w.heap.size 2 _ _ (.int .i64 (q':Int)) s2
        have s4:=heap_setCell_same _ w.heap.size 3 _ _ (.slice a n c) s3
        exact s4
       ·have hr2:=ownsRow_keeps hrow kN (fun k hk e=>by have:=(hrow.lt k hk).1; omega)
        exact ownsRow_base hr2 (fun k hk=>by have:=(hr2.lt k hk).1; omega)
       ·have:=(hrow.lt k hk).1
        have:=hFb7 k h
        omega
     ·exact Trn.same (fun k hk=>by
       rcases (r1 k).1 hk with e | e
       ·exact e ▸ r2
       ·exact (rd k e).1) ((k8.mono (fun _ _ h=>h.elim)).trans ((((keeps_setCell _ _ _ _).trans (keeps_setCell _ _ _ _)).trans (keeps_setCell _ _ _ _)).trans (keeps_setCell _ _ _ _) |>.mono (fun k _ e=>(r1 k).2 (Or.inl e))))
    clear r1 r2 rd r3 r4 r5 r6 hb7 l57 hFb7 hsp7 hb k6 k7 hU hsp hz7 hgs
    gi_wp2_with (gi_at_call 45; refine hmo.mono ?_; rintro e w8 ⟨a,n,c,rfl,HO,hk8⟩; obtain ⟨h8,HX⟩:=HF.out w8 a n c hk8 HO.out; have c0:w8.cell? ⟨w.heap.size,0,none⟩=some (.bool false):=(by rw [cell_of h8]; rfl); have c1:w8.cell? ⟨w.heap.size,1,none⟩=some (.int .i64 0):=(by rw [cell_of h8]; rfl); have c2:w8.cell? ⟨w.heap.size,2,none⟩=some (.int .i64 0):=(by rw [cell_of h8]; rfl); have c3:w8.cell? ⟨w.heap.size,3,none⟩=some (.slice none 0 0):=(by rw [cell_of h8]; rfl); have ef :∀i,w8.frozen? ⟨w.heap.size,i,none⟩=false:=(fun i=>free_of h8); clear h8)
    exact ⟨rfl,HX.out⟩
  case done =>
   intro D out T' tv' w5 F5 Fr5 hout hst ht5 hD hpst
   have hrd':Rdy C.u.size T' B:=Rdy.post hpst
   have ht5':Trn wr F2 Fr2 w5 F5 Fr5:=(Trn.ofKeeps hF2 k4').trans ht5
   rw [show (some Code.ret).isSome=true from rfl,told_tell1 hX hle] at hout
   cases hXa:X at_ with
   | nil =>
     rw [hXa] at hout
     simp only [List.map_nil,List.take_nil] at hout
     subst hout
     have d0:w5.cell? ⟨Pa,0,none⟩=some (.int .i64 (at_:Int)):=by
      obtain ⟨A1,A2,eA,dA,hSe,B1,B2,eB,dB,hDf,C1,C2,eC,dC,⟨-,-,-,r3,-,-,-⟩,hmine⟩:=hst
      exact r3.1
     have HNx:Hid (∀w6,Keeps (fun _=>False) w5 w6→w6.heap[w5.heap.size]? = some (.cells #[.int .i64 ((at_ + 1:Nat):Int)] 3 (0,0))→FiI C ρ X B mine w.heap.size w.heap.size w F Fr (at_ + 1) w5.heap.size (D :: Ds) w6):=fun w6 k6 h6=>fi_next g2 g3 g5 hF2 hnd hst ht5' hrd' k6 h6
     have HL2:Hid (findL (fun a=>(X a).map (mtOf C.G a)) (C.u.size + 1 - p) p=findL (fun a=>(X a).map (mtOf C.G a)) (C.u.size + 1 - (at_ + 1)) (at_ + 1)):=by
      show _ = _
      rw [HL.out]
      obtain ⟨k,hk⟩ :∃k,C.u.size + 1 - at_=k + 1:=⟨C.u.size - at_,by omega⟩
      rw [hk,findL_none (by simp [hXa])]
      rw [show C.u.size + 1 - (at_ + 1)=k by omega]
     rw [if_pos rfl]
     clear hst ht5 ht5' hpst hrd' hXa hR4 hS4 bA bP bA' bP' hokR hlt g1 g2 g3 g4 g5 HI hpa hs0 ha0 HE k4 k4' hF2 hno hD hnd HL
     gi_wp2
     refine ⟨C.u.size + 1 - (at_ + 1),by have:=HN.out; omega,hJ _ _ _ ⟨at_ + 1,w5.heap.size,D :: Ds,_,_,_,_,_,_,_,_,_,_,_,_,_,rfl,by omega,HL2,HNx.out _ ((Keeps.refl _ _).alloc _) ?_,rfl⟩⟩
     rw [show ((at_ + 1:Nat):Int)=(at_:Int) + 1 by omega]
     exact heap_alloc_new _ _
   | cons e L =>
     rw [hXa] at hout
     simp only [List.map_cons,List.take_succ_cons,List.take_zero] at hout
     subst hout
     obtain ⟨h1,hnD⟩:=resR_mark hst
     obtain ⟨a,m,c,b0,bD,hRn,hfin⟩:=fi_some g2.ok h1 (g5.trans ht5') hrd'
     have hr:findL (fun a=>(X a).map (mtOf C.G a)) (C.u.size + 1 - p) p=some ⟨true,(at_:Int),((e.1:Nat):Int),ap e.2 (noS C.G)⟩:=by
      rw [HL.out]
      obtain ⟨k,hk⟩ :∃k,C.u.size + 1 - at_=k + 1:=⟨C.u.size - at_,by omega⟩
      rw [hk,findL_some (by rw [hXa]; rfl),ap_gs]
      rfl
     have HFin:Hid (∀w',Keeps (fun k=>k∈D :: Ds) w5 w'→FindP C ρ B mine (findL (fun a=>(X a).map (mtOf C.G a)) (C.u.size + 1 - p) p) w F Fr (.returned (.agg #[.bool true,.int .i64 (at_:Int),.int .i64 ((e.1:Nat):Int),.slice a m c])) w'):=fun w' k=>by rw [hr]; exact hfin w' k
     have HD:Hid (∀E∈D :: Ds,w5.heap[E]? = some (.deferred (some []))):=bD
     have HRb:Hid (∀w',Keeps (fun k=>k∈D :: Ds) w5 w'→w'.heap[w.heap.size]? = some (.cells #[.bool true,.int .i64 (at_:Int),.int .i64 ((e.1:Nat):Int),.slice a m c] 29 (0,0))):=fun w' k=>(k.block _ (lt_of_block b0) hRn).trans b0
     have HNd:Hid ((D :: Ds).Nodup):=List.nodup_cons.2 ⟨hnD,hnd⟩
     rw [if_neg (by simp)]
     clear hr hfin bD b0 hRn h1 hst ht5 ht5' hpst hrd' hXa hR4 hS4 bA bP bA' bP' hokR hlt g1 g2 g3 g4 g5 HI hpa hs0 ha0 HE k4 k4' hF2 hno hD hnd HL hnD hJ hK
     gi_wp2
     refine leaves_cols (D :: Ds) w5 HD.out HNd.out (fun w' k=>?_)
     have b9:=HRb.out w' k
     have c0:w'.cell? ⟨w.heap.size,0,none⟩=some (.bool true):=by rw [cell_of b9]; rfl
     have c1:w'.cell? ⟨w.heap.size,1,none⟩=some (.int .i64 (at_:Int)):=by rw [cell_of b9]; rfl
     have c2:w'.cell? ⟨w.heap.size,2,none⟩=some (.int .i64 ((e.1:Nat):Int)):=by rw [cell_of b9]; rfl
     have c3:w'.cell? ⟨w.heap.size,3,none⟩=some (.slice a m c):=by rw [cell_of b9]; rfl
     exact ⟨.agg #[.bool true,.int .i64 (at_:Int),.int .i64 ((e.1:Nat):Int),.slice a m c],by simp [results,Tryz.results42,go_sem,c0,c1,c2,c3],HFin.out w' k⟩
 ·have hz:¬ (at_:Int)≤(C.u.size:Int):=by omega
  obtain ⟨A1,A2,eA,dA,hSe',C1,C2,eC,dC,⟨r1,r2,rd,r3,r4,r5,r6⟩,hmine⟩:=id g1
  have hz7:=r5 rfl
  have hr:findL (fun a=>(X a).map (mtOf C.G a)) (C.u.size + 1 - p) p=none:=by
   rw [HL.out,show C.u.size + 1 - at_=0 by omega]
   rfl
  have HFin:Hid (∀w',Keeps (fun k=>k=w.heap.size∨k∈Ds) wr w'→FindP C ρ B mine (findL (fun a=>(X a).map (mtOf C.G a)) (C.u.size + 1 - p) p) w F Fr (.returned (.agg #[.bool false,.int .i64 0,.int .i64 0,.slice none 0 0])) w'):=fun w' k=>by rw [hr]; exact fi_none g2.ok g1 g5 k g4
  have HD:Hid (∀E∈Ds,wr.heap[E]? = some (.deferred (some []))):=fun E hE=>(rd E hE).2
  have HNd:Hid (Ds.Nodup∧w.heap.size ∉ Ds):=⟨hnd,fun h=>by have:=(rd _ h).2; rw [hz7] at this; simp [zeroM] at this⟩
  have c0:wr.cell? ⟨w.heap.size,0,none⟩=some (.bool false):=by rw [cell_of hz7]; rfl
  have c1:wr.cell? ⟨w.heap.size,1,none⟩=some (.int .i64 0):=by rw [cell_of hz7]; rfl
  have c2:wr.cell? ⟨w.heap.size,2,none⟩=some (.int .i64 0):=by rw [cell_of hz7]; rfl
  have c3:wr.cell? ⟨w.heap.size,3,none⟩=some (.slice none 0 0):=by rw [cell_of hz7]; rfl
  have ef :∀i,wr.frozen? ⟨w.heap.size,i,none⟩=false:=fun i=>free_of hz7
  have HZ:Hid (wr.heap[w.heap.size]? = some zeroM):=hz7
  clear hr r1 r2 rd r3 r4 r5 r6 hmine hSe' g1 g2 g3 g4 g5 HI hpa hApt hSe hS hR hFb hrd b1 b2 k1 H0 hok0 hlt0 hn hz7 hJ hK
  gi_wp2
  gi_region
  gi_wp2
  have kN:Keeps (fun k=>k=w.heap.size) wr ((((wr.setCell ⟨w.heap.size,0,none⟩ (.bool false)).setCell ⟨w.heap.size,1,none⟩ (.int .i64 0)).setCell ⟨w.heap.size,2,none⟩ (.int .i64 0)).setCell ⟨w.heap.size,3,none⟩ (.slice none 0 0)).drew:=((((keeps_setCell _ _ _ _).trans (keeps_setCell _ _ _ _)).trans (keeps_setCell _ _ _ _)).trans (keeps_setCell _ _ _ _)).drew
  have hbN:((((wr.setCell ⟨w.heap.size,0,none⟩ (.bool false)).setCell ⟨w.heap.size,1,none⟩ (.int .i64 0)).setCell ⟨w.heap.size,2,none⟩ (.int .i64 0)).setCell ⟨w.heap.size,3,none⟩ (.slice none 0 0)).drew.heap[w.heap.size]? = some zeroM:=by
   have s1:=heap_setCell_same wr w.heap.size 0 _ _ (.bool false) HZ.out
   have s2:=heap_setCell_same _ w.heap.size 1 _ _ (.int .i64 0) s1
   have s3:=heap_setCell_same _ w.heap.size 2 _ _ (.int .i64 0) s2
   have s4:=heap_setCell_same _ w.heap.size 3 _ _ (.slice none 0 0) s3
   exact s4
  refine leaves_cols Ds _ (fun E hE=>?_) HNd.out.1 (fun w' k=>?_)
  ·have hE2:=HD.out E hE
   exact (kN.block E (Array.getElem?_eq_some_iff.1 hE2).1 (fun e=>HNd.out.2 (e ▸ hE))).trans hE2
  have b9:w'.heap[w.heap.size]? = some zeroM:=(k.block _ (lt_of_block hbN) HNd.out.2).trans hbN
  have c0:w'.cell? ⟨w.heap.size,0,none⟩=some (.bool false):=by rw [cell_of b9]; rfl
  have c1:w'.cell? ⟨w.heap.size,1,none⟩=some (.int .i64 0):=by rw [cell_of b9]; rfl
  have c2:w'.cell? ⟨w.heap.size,2,none⟩=some (.int .i64 0):=by rw [cell_of b9]; rfl
  have c3:w'.cell? ⟨w.heap.size,3,none⟩=some (.slice none 0 0):=by rw [cell_of b9]; rfl
  exact ⟨.agg #[.bool false,.int .i64 0,.int .i64 0,.slice none 0 0],by simp [results,Tryz.results42,go_sem,c0,c1,c2,c3],HFin.out w' ((kN.mono (fun k _ e=>Or.inl e)).trans (k.mono (fun k _ e=>Or.inr e)))⟩
end Go.Proofs.YthkmmeamplmnhaaGreat
namespace Go.Proofs.YthkmmeamplmnhaaGreat
open Go.RowKit
set_option linter.unusedVariables false
end Go.Proofs.YthkmmeamplmnhaaGreat
