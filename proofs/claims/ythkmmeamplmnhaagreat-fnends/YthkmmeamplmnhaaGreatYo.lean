import Derived.Test.YthkmmeamplmnhaaGreatYn
import Derived.Test.YthkmmeamplmnhaaGreatC
namespace Go.Proofs.YthkmmeamplmnhaaGreat
open Go.RowKit
set_option linter.unusedVariables false
set_option maxHeartbeats 1000000 in
set_option maxRecDepth 100000 in
theorem clone_none {w:World} {an:Option Addr} {cn:Nat}:Calls Tryz.prog 65 #[.slice an 0 cn] w fun e w' =>∃a c,e = .returned (.slice a 0 c)∧w'.ownsRow w.heap.size 31 2 (.slice a 0 c) 0 []∧Keeps (fun _=>False) w w':=by
 cases an with
 | none =>
   have hq :∀w:World,(binOp BinOp.eql 27 (.slice none 0 cn) (.slice none 0 0)).run Tryz.prog w = .ok (.bool true) w:=fun _=>by kernel_rfl
   go_enter Tryz.func65,Tryz.ntmps65
   go_wp2_with fail
   go_ret
   exact ⟨_,_,rfl,World.ownsRow_nil _ _ _ _,Keeps.refl _ _⟩
 | some a =>
   have hq :∀w:World,(binOp BinOp.eql 27 (.slice (some a) 0 cn) (.slice none 0 0)).run Tryz.prog w = .ok (.bool false) w:=fun _=>by kernel_rfl
   have hap :∀(b:Addr) (w:World),(Builtin.append_ #[27,27] 27 #[.slice (some b) 0 0,.slice (some a) 0 cn]).run Tryz.prog w = .ok (.slice (some b) 0 0) w:=fun _ _=>by kernel_rfl
   have h0:(w.alloc (.cells #[] 31)).ownsRow w.heap.size 31 2 (.slice (some ⟨w.heap.size,0,none⟩) 0 0) 0 []:=World.ownsRow_lit w #[] 0 (Nat.le_refl _) (by unfold maxLen; omega) rfl
   go_enter Tryz.func65,Tryz.ntmps65
   go_wp2_with fail
   go_ret
   exact ⟨_,_,rfl,h0,(Keeps.refl _ _).alloc _⟩
theorem clone_spans {w:World} {F:Bs2} {v:Value} {gs:Rs} (h:SpI w F v gs) (hl:gs.length≤1000) :
  Calls Tryz.prog 65 #[v] w fun e w' =>∃a n c,e = .returned (.slice a n c)∧Hid (w'.ownsRow w.heap.size 31 2 (.slice a n c) gs.length (flatR gs))∧Keeps (fun _=>False) w w':=by
 obtain ⟨ao,cap,rfl,h2⟩:=h
 cases hc:gs.length with
 | zero =>
   have e:gs = []:=List.eq_nil_of_length_eq_zero hc
   refine clone_none.mono ?_
   rintro e' w' ⟨a,c,rfl,h3,k⟩
   exact ⟨a,0,c,rfl,(by show World.ownsRow _ _ _ _ _ _ _; rw [e]; exact h3),k⟩
 | succ n =>
   obtain ⟨h3,h4⟩:=h2 (by omega)
   rw [hc] at h3
   obtain ⟨g,c,hv,-,-⟩:=own_some h3
   cases hv
   refine (clone_any h3 hc (by omega) (by omega)).mono ?_
   rintro e w' ⟨g1,c1,rfl,h5,k⟩
   exact ⟨_,_,_,rfl,h5,k⟩
set_option maxHeartbeats 1000000 in
set_option maxRecDepth 100000 in
theorem matchOf_any {w:World} {F:Bs2} {p q:Int} {av:Option Addr} {nv cv:Nat} {gs:Rs} (h:SpI w F (.slice av nv cv) gs) (hl:gs.length≤1000) :
  Calls Tryz.prog 45 #[.int .i64 p,.agg #[.int .i64 q,.slice av nv cv]] w fun e w' =>∃a n c,e = .returned (.agg #[.bool true,.int .i64 p,.int .i64 q,.slice a n c])∧Hid (w'.ownsRow w.heap.size 31 2 (.slice a n c) gs.length (flatR gs))∧Keeps (fun _=>False) w w':=by
 have hK:Keeps (fun _=>False) w ((w.alloc (.cells #[.int .i64 q,.slice av nv cv] 83)).alloc (.cells #[.bool false,.int .i64 0,.int .i64 0,.slice none 0 0] 29)):=((Keeps.refl _ w).alloc _).alloc _
 have b1:=box1 w (.cells #[.int .i64 q,.slice av nv cv] 83) (.cells #[.bool false,.int .i64 0,.int .i64 0,.slice none 0 0] 29)
 have b2:=box2 w (.cells #[.int .i64 q,.slice av nv cv] 83) (.cells #[.bool false,.int .i64 0,.int .i64 0,.slice none 0 0] 29)
 go_enter Tryz.func45,Tryz.ntmps45
 go_upto_region 1 with fail
 generalize ((w.alloc (.cells #[.int .i64 q,.slice av nv cv] 83)).alloc (.cells #[.bool false,.int .i64 0,.int .i64 0,.slice none 0 0] 29))=w1 at hK b1 b2 ⊢
 have hs:=hK.size
 have c0:w1.drew.cell? ⟨w.heap.size,0,none⟩=some (.int .i64 q):=by rw [cell_of (w:=w1.drew) b1]; rfl
 have c1:w1.drew.cell? ⟨w.heap.size,1,none⟩=some (.slice av nv cv):=by rw [cell_of (w:=w1.drew) b1]; rfl
 have hcl:=clone_spans ((h.later (Lat.ofKeeps hK)).later (Lat.ofKeeps (Keeps.refl (fun _=>False) w1).drew)) hl
 have hS0:(w1.drew.cell? ⟨w.heap.size,0,none⟩=some (.int .i64 q)∧w1.drew.cell? ⟨w.heap.size,1,none⟩=some (.slice av nv cv)):=⟨c0,c1⟩
 clear h c0 c1
 go_region_held3 (fun w'=>(w'.cell? ⟨w.heap.size,0,none⟩=some (.int .i64 q)∧w'.cell? ⟨w.heap.size,1,none⟩=some (.slice av nv cv))) (first | assumption | go_keep) (first
  | (go_at_call 65; refine hcl.mono ?_; rintro e w2 ⟨a,n,c,rfl,HO,hk⟩; have hS2:(w2.cell? ⟨w.heap.size,0,none⟩=some (.int .i64 q)∧w2.cell? ⟨w.heap.size,1,none⟩=some (.slice av nv cv)):=⟨cell_keeps hS0.1 hk,cell_keeps hS0.2 hk⟩; have hb:w2.heap[w.heap.size + 1]? = some (.cells #[.bool false,.int .i64 0,.int .i64 0,.slice none 0 0] 29 (0,0)):=(hk.block _ (lt_of_block b2) (fun h=>h)).trans b2; have d0:w2.cell? ⟨w.heap.size + 1,0,none⟩=some (.bool false):=(by rw [cell_of hb]; rfl); have d1:w2.cell? ⟨w.heap.size + 1,1,none⟩=some (.int .i64 0):=(by rw [cell_of hb]; rfl); have d2:w2.cell? ⟨w.heap.size + 1,2,none⟩=some (.int .i64 0):=(by rw [cell_of hb]; rfl); have d3:w2.cell? ⟨w.heap.size + 1,3,none⟩=some (.slice none 0 0):=(by rw [cell_of hb]; rfl); have f0 :∀i,w2.frozen? ⟨w.heap.size + 1,i,none⟩=false:=fun i=>free_of hb))
 all_goals (try go_wp2_with fail)
 all_goals refine bodyPost_ret (v:=.agg #[.bool true,.int .i64 p,.int .i64 q,.slice a n c]) (by simp [results,Tryz.results45,go_sem,d0,d1,d2,d3]) rfl ?_
 all_goals (
  have k4:Keeps (fun k=>k=w.heap.size + 1) w2 ((((w2.setCell ⟨w.heap.size + 1,0,none⟩ (.bool true)).setCell ⟨w.heap.size + 1,1,none⟩ (.int .i64 p)).setCell ⟨w.heap.size + 1,2,none⟩ (.int .i64 q)).setCell ⟨w.heap.size + 1,3,none⟩ (.slice a n c)):=(((keeps_setCell _ _ _ _).trans (keeps_setCell _ _ _ _)).trans (keeps_setCell _ _ _ _)).trans (keeps_setCell _ _ _ _)
  have hb2:=lt_of_block b2
  refine ⟨a,n,c,rfl,?_,(hK.trans ((Keeps.refl (fun _=>False) w1).drew.trans hk)).trans' k4 (fun i hi e=>by omega)⟩
  refine ownsRow_keeps (ownsRow_base HO.out (fun i hi=>?_)) k4 (fun i hi e=>?_)
  ·have h1:w1.heap.size≤i:=(HO.out.lt i hi).1
   omega
  ·have h1:w1.heap.size≤i:=(HO.out.lt i hi).1
   omega)
theorem app_matchB {w:World} {base:Nat} {v:Value} {L:List Mm} (h:w.ownsRow base 29 4 v L.length (L.flatMap cell4)) (hb:base≤w.heap.size) (hl:L.length≤100000) (x:Mm) {ag:Option Addr} {ng cg:Nat} (hx:x.2 = .slice ag ng cg) :
  ∃v' w',Sem.run Tryz.prog (Builtin.append_ #[25,25] 25 #[v,.slice (some ⟨w.heap.size,0,none⟩) 1 1]) (w.alloc (.cells #[.bool x.1.ok,.int .i64 x.1.fr,.int .i64 x.1.up,x.2] 29)) = .ok v' w'∧w'.ownsRow base 29 4 v' (L ++ [x]).length ((L ++ [x]).flatMap cell4)∧Keeps (fun k=>v.ownBlock=some k) w w'∧(∀k,v'.ownBlock=some k→v.ownBlock=some k∨w.heap.size≤k):=by
 obtain ⟨i0,hi,hz0,hz1,hz2⟩:=info_parts Tryz.infoMatch
 obtain ⟨v',w3,hrun,ho,hgr,hbk⟩:=app_any (P:=Tryz.prog) (w.alloc (.cells #[.bool x.1.ok,.int .i64 x.1.fr,.int .i64 x.1.up,x.2] 29)) base 25 25 29 i0 _ 4 48 Tryz.underlying25 hi hz0 hz1 hz2 rfl (by decide) v L.length _ (h.alloc _)
  ⟨w.heap.size,0,none⟩ 1 1 (cell4 x) rfl (cells_new w _ _) (by intro u hu; simp [cell4,hx] at hu; rcases hu with rfl | rfl | rfl | rfl <;> rfl) (by unfold maxLen; omega) (by omega) (by simp; omega)
 refine ⟨v',w3,hrun,?_,((Keeps.refl _ w).alloc _).grown hgr (fun k hk _=>hk),fun k hk=>?_⟩
 ·rw [List.flatMap_append,List.length_append]
  simpa using ho
 ·by_cases hlt:k < w.heap.size
  ·exact Or.inl (hbk k hk (by simp; omega))
  ·exact Or.inr (by omega)
def mtE (p:Int) (x:Nat×Rs):Mt:=⟨true,p,(x.1:Int),x.2⟩
structure MwI (B:Nat) (w:World) (F:Bs2) (L:List Mm):Prop where
 rows :∀x∈L,w.ownsRow B 31 2 x.2 x.1.gs.length (flatR x.1.gs)∧∀k,x.2.ownBlock=some k→¬ F k
 sep:(L.filterMap fun x=>x.2.ownBlock).Nodup
theorem MwI.later {B:Nat} {w w':World} {F F':Bs2} {L:List Mm} (h:MwI B w F L) (l:Lat w F w' F'):MwI B w' F' L:=⟨fun x hx=>ownsRow_later (h.rows x hx) l,h.sep⟩
def MchR (S B Pb:Nat) (p:Int) (out:List (Nat×Rs)):Rsc:=fun w F Fr =>∃(v:Value) (L:List Mm),At1 w S 25 v∧L.map (·.1)=out.map (mtE p)∧w.ownsRow B 29 4 v L.length (L.flatMap cell4)∧MwI B w F L∧(∀k,Fr k↔k=S∨v.ownBlock=some k)∧(∀k,Fr k→F k)∧v.ownBlock≠some S∧CeI w F Pb 0 (.int .i64 p)
theorem mchR_ok (S B Pb:Nat) (p:Int) (out:List (Nat×Rs)):RscOk (MchR S B Pb p out):=by
 refine ⟨?_,?_⟩
 ·rintro w F Fr ⟨v,L,h1,h2,h3,h4,h5,h6,h7,h8⟩ k hk
  refine ⟨h6 k hk,?_⟩
  rcases (h5 k).1 hk with rfl | hk
  ·exact h1.lt
  ·exact (h3.lt k hk).2
 ·rintro w w' F F' Fr ⟨v,L,h1,h2,h3,h4,h5,h6,h7,h8⟩ l hF' hk
  exact ⟨v,L,by unfold At1; rw [hk S ((h5 S).2 (Or.inl rfl))]; exact h1,h2,ownsRow_at h3 (fun k h=>hk k ((h5 k).2 (Or.inr h))),h4.later l,h5,hF',h7,h8.later l⟩
theorem mchR_add {S B Pb q:Nat} {p:Int} {gs:Rs} {out:List (Nat×Rs)} {w w2:World} {F Fr:Bs2} {a:Option Addr} {n c:Nat} {v:Value} {L:List Mm} (hFb:Fb w F) (hB:B≤w.heap.size) (h1:At1 w S 25 v) (h2:L.map (·.1)=out.map (mtE p)) (h3:w.ownsRow B 29 4 v L.length (L.flatMap cell4)) (h4:MwI B w F L) (h5 :∀k,Fr k↔k=S∨v.ownBlock=some k) (h6 :∀k,Fr k→F k) (h7:v.ownBlock≠some S) (h8:CeI w F Pb 0 (.int .i64 p)) (hl:out.length < 1000)
  (k2:Keeps (fun _=>False) w w2) (hrow:w2.ownsRow w.heap.size 31 2 (.slice a n c) gs.length (flatR gs)) :
  ∃ v' w3,Sem.run Tryz.prog (Builtin.append_ #[25,25] 25 #[v,.slice (some ⟨w2.heap.size,0,none⟩) 1 1]) (w2.alloc (.cells #[.bool true,.int .i64 p,.int .i64 (q:Int),.slice a n c] 29)) = .ok v' w3∧(∃ao n cap,v' = .slice ao n cap)∧w2.cell? ⟨S,0,none⟩=some v∧w3.cell? ⟨S,0,none⟩=some v∧w3.frozen? ⟨S,0,none⟩=false∧
    ∃F4 Fu4,MchR S B Pb p (out ++ [(q,gs)]) (w3.setCell ⟨S,0,none⟩ v') F4 Fu4∧Trn w F Fr (w3.setCell ⟨S,0,none⟩ v') F4 Fu4:=by
 have hlen:L.length=out.length:=by have:=congrArg List.length h2; simpa using this
 have h3':=ownsRow_keeps h3 k2 (fun _ _ h=>h)
 obtain ⟨v',w',hrun,ho,hk,hbk⟩:=app_matchB h3' (Nat.le_trans hB k2.size) (by omega) (mtE p (q,gs),.slice a n c) rfl
 have hS1:At1 w2 S 25 v:=h1.keeps k2 (fun h=>h)
 have hS:At1 w' S 25 v:=hS1.keeps hk h7
 have hS2:(w'.setCell ⟨S,0,none⟩ v').heap[S]? = some (.cells #[v'] 25 (0,0)):=by rw [heap_setCell_same _ _ _ _ _ _ hS]; rfl
 have hsz:=k2.size
 have hne:v'.ownBlock≠some S:=fun e=>by
  rcases hbk S e with h | h
  ·exact h7 h
  ·have:=h1.lt; omega
 have kS:Keeps (fun k=>k=S) w' (w'.setCell ⟨S,0,none⟩ v'):=keeps_setCell _ _ _ _
 have kAll:Keeps Fr w (w'.setCell ⟨S,0,none⟩ v'):=((k2.mono (fun _ _ h=>h.elim)).trans (hk.mono (fun k _ h=>(h5 k).2 (Or.inr h)))).trans (kS.mono (fun k _ e=>(h5 k).2 (Or.inl e)))
 have ho2:(w'.setCell ⟨S,0,none⟩ v').ownsRow B 29 4 v' (L ++ [(mtE p (q,gs),Value.slice a n c)]).length ((L ++ [(mtE p (q,gs),Value.slice a n c)]).flatMap cell4):=ownsRow_at ho (fun k h=>Below.heap_setCell _ _ _ _ (fun e=>hne (by rw [h]; exact congrArg some e)))
 obtain ⟨F4,hF4⟩ :∃F4:Bs2,F4=fun k=>(F k∧¬ Fr k)∨k=S∨v'.ownBlock=some k:=⟨_,rfl⟩
 have lt:Lat w F (w'.setCell ⟨S,0,none⟩ v') F4:=⟨kAll.mono (fun k _ h=>h6 k h),fun k h=>by
  rw [hF4] at h
  rcases h with h | h | h
  ·exact Or.inl h.1
  ·exact Or.inl (h6 k ((h5 k).2 (Or.inl h)))
  ·rcases hbk k h with h | h
   ·exact Or.inl (h6 k ((h5 k).2 (Or.inr h)))
   ·exact Or.inr (by omega)⟩
 have hfresh :∀k,(Value.slice a n c).ownBlock=some k→w.heap.size≤k∧k < w2.heap.size:=fun k hk=>hrow.lt k hk
 have hnew :∀k,(Value.slice a n c).ownBlock=some k→¬ F4 k∧¬ Fr k∧v.ownBlock≠some k∧k≠S:=fun k hk=>by
  obtain ⟨f1,f2⟩:=hfresh k hk
  have e1:k≠S:=fun e=>by have:=h1.lt; omega
  have e2:v.ownBlock≠some k:=fun e=>by have:=(h3.lt k e).2; omega
  have e3:¬ Fr k:=fun e=>by rcases (h5 k).1 e with h | h; exact e1 h; exact e2 h
  refine ⟨fun h=>?_,e3,e2,e1⟩
  rw [hF4] at h
  rcases h with h | h | h
  ·have:=hFb k h.1; omega
  ·exact e1 h
  ·rcases hbk k h with h | h
   ·exact e2 h
   ·omega
 refine ⟨v',w',hrun,(by obtain ⟨ao,cap,rfl⟩:=own_form ho; exact ⟨_,_,_,rfl⟩),hS1.cell,hS.cell,free_of hS,F4,fun k=>k=S∨v'.ownBlock=some k,?_,?_⟩
 ·refine ⟨v',L ++ [(mtE p (q,gs),.slice a n c)],hS2,by simp [h2],ho2,⟨fun x hx=>?_,?_⟩,fun k=>Iff.rfl,fun k h=>by rw [hF4]; exact Or.inr h,hne,h8.later lt⟩
  ·rcases List.mem_append.1 hx with hx | hx
   ·exact ownsRow_later (h4.rows x hx) lt
   ·simp at hx
    subst hx
    have hr2:w'.ownsRow w.heap.size 31 2 (.slice a n c) gs.length (flatR gs):=ownsRow_keeps hrow hk (fun k hk=>(hnew k hk).2.2.1)
    have hr3:=ownsRow_keeps hr2 kS (fun k hk=>(hnew k hk).2.2.2)
    exact ⟨ownsRow_base hr3 (fun k hk=>Nat.le_trans hB (hfresh k hk).1),fun k hk=>(hnew k hk).1⟩
  ·rw [List.filterMap_append,List.nodup_append]
   refine ⟨h4.sep,?_,fun i hi j hj e=>?_⟩
   ·cases hc:(Value.slice a n c).ownBlock <;> simp [hc]
   ·obtain ⟨x,hx,hxe⟩:=List.mem_filterMap.1 hi
    have hj2:(Value.slice a n c).ownBlock=some j:=by
     obtain ⟨y,hy,hye⟩:=List.mem_filterMap.1 hj
     simp at hy
     subst hy
     exact hye
    subst e
    have:=((h4.rows x hx).1.lt _ hxe).2
    have:=(hfresh _ hj2).1
    omega
 ·refine ⟨kAll,fun k h=>?_,fun k h=>by rw [hF4] at h; exact h,fun k _ h hn=>by rw [hF4]; exact Or.inl ⟨h,hn⟩,fun k h=>by rw [hF4]; exact Or.inr h⟩
  rcases h with h | h
  ·exact Or.inl ((h5 k).2 (Or.inl h))
  ·rcases hbk k h with h | h
   ·exact Or.inl ((h5 k).2 (Or.inr h))
   ·exact Or.inr (by omega)
end Go.Proofs.YthkmmeamplmnhaaGreat
