import Derived.Test.YtmlgmhnplicflaaGreatYs
namespace Go.Proofs.YtmlgmhnplicflaaGreat
open Go.RowKit Go.Shelf
set_option linter.unusedVariables false
attribute [local go_sem] Oper.semAt_some
def McR (S B b:Nat) (out:List Mt):Rsc:=fun w F Fr =>∃(v:Value) (L:List Mm),At1 w S 25 v∧L.map (·.1)=out∧w.ownsRow B 29 4 v L.length (L.flatMap cell4)∧MwI B w F L∧(∀k,Fr k↔k=S∨v.ownBlock=some k)∧(∀k,Fr k→F k)∧v.ownBlock≠some S∧B≤b∧∀x∈L,∀k,x.2.ownBlock=some k→k < b
theorem mcR_ok (S B b:Nat) (out:List Mt):RscOk (McR S B b out):=by
 refine ⟨?_,?_⟩
 ·rintro w F Fr ⟨v,L,h1,h2,h3,h4,h5,h6,h7,h8⟩ k hk
  refine ⟨h6 k hk,?_⟩
  rcases (h5 k).1 hk with rfl | hk
  ·exact h1.lt
  ·exact (h3.lt k hk).2
 ·rintro w w' F F' Fr ⟨v,L,h1,h2,h3,h4,h5,h6,h7,h8⟩ l hF' hk
  exact ⟨v,L,by unfold At1; rw [hk S ((h5 S).2 (Or.inl rfl))]; exact h1,h2,ownsRow_at h3 (fun k h=>hk k ((h5 k).2 (Or.inr h))),h4.later l,h5,hF',h7,h8⟩
theorem mcR_up (S B:Nat) (b b':Nat) (out:List Mt) (w:World) (F Fr:Bs2) (hb:b≤b') (h:McR S B b out w F Fr):McR S B b' out w F Fr:=by
 obtain ⟨v,L,h1,h2,h3,h4,h5,h6,h7,h8,h9⟩:=h
 exact ⟨v,L,h1,h2,h3,h4,h5,h6,h7,Nat.le_trans h8 hb,fun x hx k hk=>Nat.lt_of_lt_of_le (h9 x hx k hk) hb⟩
theorem mcR_add {S B b:Nat} {m:Mt} {out:List Mt} {w:World} {F Fr:Bs2} {a:Option Addr} {n c:Nat} {v:Value} {L:List Mm} (hFb:Fb w F) (hb:b≤w.heap.size) (h1:At1 w S 25 v) (h2:L.map (·.1)=out) (h3:w.ownsRow B 29 4 v L.length (L.flatMap cell4)) (h4:MwI B w F L) (h5 :∀k,Fr k↔k=S∨v.ownBlock=some k) (h6 :∀k,Fr k→F k) (h7:v.ownBlock≠some S) (h8:B≤b) (h9 :∀x∈L,∀k,x.2.ownBlock=some k→k < b) (hl:out.length < 1000)
  (hrow:w.ownsRow b 31 2 (.slice a n c) m.gs.length (flatR m.gs)) (hnF :∀k,(Value.slice a n c).ownBlock=some k→¬ F k) :
  ∃ v' w3,Sem.run Tryz.prog (Builtin.append_ #[25,25] 25 #[v,.slice (some ⟨w.heap.size,0,none⟩) 1 1]) (w.alloc (.cells #[.bool m.ok,.int .i64 m.fr,.int .i64 m.up,.slice a n c] 29)) = .ok v' w3∧(∃ao n cap,v' = .slice ao n cap)∧w3.cell? ⟨S,0,none⟩=some v∧w3.frozen? ⟨S,0,none⟩=false∧
    ∃F4 Fu4,McR S B (w3.setCell ⟨S,0,none⟩ v').heap.size (out ++ [m]) (w3.setCell ⟨S,0,none⟩ v') F4 Fu4∧Trn w F Fr (w3.setCell ⟨S,0,none⟩ v') F4 Fu4:=by
 have hlen:L.length=out.length:=by have:=congrArg List.length h2; simpa using this
 obtain ⟨v',w',hrun,ho,hk,hbk⟩:=app_matchB h3 (Nat.le_trans h8 hb) (by omega) (m,.slice a n c) rfl
 have hS:At1 w' S 25 v:=h1.keeps hk h7
 have hS2:(w'.setCell ⟨S,0,none⟩ v').heap[S]? = some (.cells #[v'] 25 (0,0)):=by rw [heap_setCell_same _ _ _ _ _ _ hS]; rfl
 have hne:v'.ownBlock≠some S:=fun e=>by
  rcases hbk S e with h | h
  ·exact h7 h
  ·have:=h1.lt; omega
 have kS:Keeps (fun k=>k=S) w' (w'.setCell ⟨S,0,none⟩ v'):=keeps_setCell _ _ _ _
 have kAll:Keeps Fr w (w'.setCell ⟨S,0,none⟩ v'):=(hk.mono (fun k _ h=>(h5 k).2 (Or.inr h))).trans (kS.mono (fun k _ e=>(h5 k).2 (Or.inl e)))
 have hsz:=kAll.size
 have ho2:(w'.setCell ⟨S,0,none⟩ v').ownsRow B 29 4 v' (L ++ [(m,Value.slice a n c)]).length ((L ++ [(m,Value.slice a n c)]).flatMap cell4):=ownsRow_at ho (fun k h=>Below.heap_setCell _ _ _ _ (fun e=>hne (by rw [h]; exact congrArg some e)))
 obtain ⟨F4,hF4⟩ :∃F4:Bs2,F4=fun k=>(F k∧¬ Fr k)∨k=S∨v'.ownBlock=some k:=⟨_,rfl⟩
 have lt:Lat w F (w'.setCell ⟨S,0,none⟩ v') F4:=⟨kAll.mono (fun k _ h=>h6 k h),fun k h=>by
  rw [hF4] at h
  rcases h with h | h | h
  ·exact Or.inl h.1
  ·exact Or.inl (h6 k ((h5 k).2 (Or.inl h)))
  ·rcases hbk k h with h | h
   ·exact Or.inl (h6 k ((h5 k).2 (Or.inr h)))
   ·exact Or.inr (by omega)⟩
 have hfresh :∀k,(Value.slice a n c).ownBlock=some k→b≤k∧k < w.heap.size:=fun k hk=>hrow.lt k hk
 refine ⟨v',w',hrun,(by obtain ⟨ao,cap,rfl⟩:=own_form ho; exact ⟨_,_,_,rfl⟩),hS.cell,free_of hS,F4,fun k=>k=S∨v'.ownBlock=some k,?_,?_⟩
 ·refine ⟨v',L ++ [(m,.slice a n c)],hS2,by simp [h2],ho2,⟨fun x hx=>?_,?_⟩,fun k=>Iff.rfl,fun k h=>by rw [hF4]; exact Or.inr h,hne,by omega,fun x hx k hk2=>?_⟩
  ·rcases List.mem_append.1 hx with hx | hx
   ·exact ownsRow_later (h4.rows x hx) lt
   ·simp at hx
    subst hx
    obtain ⟨r1,r2⟩:=ownsRow_later ⟨hrow,hnF⟩ lt
    exact ⟨ownsRow_base r1 (fun k hk=>Nat.le_trans h8 (hfresh k hk).1),r2⟩
  ·rw [List.filterMap_append,List.nodup_append]
   refine ⟨h4.sep,?_,fun i hi j hj e=>?_⟩
   ·cases hc:(Value.slice a n c).ownBlock <;> simp [hc]
   ·obtain ⟨x,hx,hxe⟩:=List.mem_filterMap.1 hi
    have hj2:(Value.slice a n c).ownBlock=some j:=by
     obtain ⟨y,hy,hye⟩:=List.mem_filterMap.1 hj
     simp at hy
     subst hy
     exact hye
    subst e
    have:=h9 x hx _ hxe
    have:=(hfresh _ hj2).1
    omega
  ·rcases List.mem_append.1 hx with hx | hx
   ·have:=h9 x hx k hk2; omega
   ·simp at hx
    subst hx
    have:=(hfresh k hk2).2; omega
 ·refine ⟨kAll,fun k h=>?_,fun k h=>by rw [hF4] at h; exact h,fun k _ h hn=>by rw [hF4]; exact Or.inl ⟨h,hn⟩,fun k h=>by rw [hF4]; exact Or.inr h⟩
  rcases h with h | h
  ·exact Or.inl ((h5 k).2 (Or.inl h))
  ·rcases hbk k h with h | h
   ·exact Or.inl ((h5 k).2 (Or.inr h))
   ·exact Or.inr (by omega)
def ColM (l:List Mt) (w:World) (Fr:Bs2) (e:Ending) (w':World):Prop :=
 ∃(ao:Option Addr) (n c:Nat) (L:List Mm),e = .returned (.slice ao n c)∧L.map (·.1)=l∧w'.ownsRow w.heap.size 29 4 (.slice ao n c) L.length (L.flatMap cell4)∧MwI w.heap.size w' (fun _=>False) L∧Keeps Fr w w'
set_option maxHeartbeats 1000000 in
set_option maxRecDepth 100000 in
theorem appseqM_any {C:Cx} {ρ:Rx} {X:Xs} {B:Option Bo} {mine:List Rsc} {T:Tt} {tl:Value} {w:World} {F Fr:Bs2} {A:Nat} (hS:Srch C w F ρ.bg X B mine) (hA:CeI w F A 0 (.pointer (some ⟨C.X,0,none⟩))) (hFb:Fb w F) (hR:starL (SeR C ρ tl T :: mine) w F Fr) (hrd:Rdy C.u.size T B) (hX:OkX C.u.size 0 C.G X) (hu:C.u.size≤200) (hG:C.G≤9) :
  Calls Tryz.prog 55 #[.slice none 0 0,.func (.func 56) #[] #[.pointer (some ⟨A,0,none⟩)]] w (ColM (allL (fun a=>(X a).map (mtOf C.G a)) C.u.size (C.u.size + 2) 0) w Fr):=by
 have hmS:RscOk (starL (SeR C ρ tl T :: mine)):=se_ok hS.ok _ _ _ _
 have k1:Keeps (fun _=>False) w (w.alloc (.cells #[.slice none 0 0] 25)):=(Keeps.refl _ w).alloc _
 have b1:At1 (w.alloc (.cells #[.slice none 0 0] 25)) w.heap.size 25 (.slice none 0 0):=heap_alloc_new _ _
 have l1:Lat w F (w.alloc (.cells #[.slice none 0 0] 25)) (fun k=>F k∨k=w.heap.size):=⟨k1.mono (fun _ _ h=>h.elim),fun k hk=>hk.imp id (fun e=>by omega)⟩
 have hFr :∀k,Fr k→F k∧k < w.heap.size:=hmS.lt hR
 have hR1:starL (SeR C ρ tl T :: mine) (w.alloc (.cells #[.slice none 0 0] 25)) (fun k=>F k∨k=w.heap.size) Fr:=hmS.frame hR l1 (fun k hk=>Or.inl (hFr k hk).1) (fun k hk=>k1.block k (hFr k hk).2 (fun h=>h))
 have hC1:McR w.heap.size w.heap.size w.heap.size [] (w.alloc (.cells #[.slice none 0 0] 25)) (fun k=>F k∨k=w.heap.size) (fun k=>k=w.heap.size):=⟨_,[],b1,rfl,World.ownsRow_nil _ _ _ _,⟨by simp,by simp⟩,fun k=>by simp [Value.ownBlock],fun k hk=>Or.inr hk,by simp [Value.ownBlock],Nat.le_refl _,by simp⟩
 have hR2:starL (SeR C ρ tl T :: McR w.heap.size w.heap.size w.heap.size [] :: mine) (w.alloc (.cells #[.slice none 0 0] 25)) (fun k=>F k∨k=w.heap.size) (fun k=>k=w.heap.size∨Fr k):=starL_perm (starL_new hmS hR1 (fun h=>by have:=(hFr _ h).2; omega) (Or.inr rfl) hC1)
 have hFb1:Fb (w.alloc (.cells #[.slice none 0 0] 25)) (fun k=>F k∨k=w.heap.size):=fun k hk=>hk.elim (fun h=>Nat.lt_of_lt_of_le (hFb k h) k1.size) (fun e=>by have:=b1.lt; omega)
 have hS1:=hS.later l1; have hA1:=hA.later l1
 have hb1:w.heap.size≤(w.alloc (.cells #[.slice none 0 0] 25)).heap.size:=k1.size
 clear hR1 hC1 l1 hS hA hFb hR hmS hFr
 refine (callsIn_wide (n:=3)).1 ?_
 refine callsIn_of_wp_marks Tryz.func55 rfl trivial ?_
 simp only [Tryz.ntmps55,List.size_toArray,List.length_cons,List.length_nil,Nat.reduceAdd,Nat.reduceSub,Array.replicate_succ,Array.replicate_zero,List.push_toArray,List.append_toArray,List.nil_append,List.cons_append]
 gi_wp2
 refine range_matches (cap:=1000) (cc:=fun _=>none) (U:=McR w.heap.size w.heap.size) (fun b out=>mcR_ok _ _ b out) (fun b b' out w F Fr=>mcR_up _ _ b b' out w F Fr) rfl rfl ?round rfl hS1 hA1 hFb1 hR2 hrd hX hu hG hb1 (by omega) ?done
 case round =>
  intro l w1 F1 Fu b out m ag ng cg hFb hU hbs hrow hnF hok hgl hfr hup hupN hn hcc hpx hF1l hll hnl
  clear hgl hfr hup hupN hcc hpx
  refine ⟨fun a1 w2=>w2.heap[w1.heap.size]? = some (.cells #[.bool m.ok,.int .i64 m.fr,.int .i64 m.up,.slice ag ng cg] 29 (0,0))∧a1 = { tmps:=#[.slice none 0 0,.func (.func 56) #[] #[.pointer (some ⟨A,0,none⟩)],.pointer (some ⟨w.heap.size,0,none⟩),undef,.slice none 0 0,.pointer (some ⟨w1.heap.size,0,none⟩),.func (.func 56) #[] #[.pointer (some ⟨A,0,none⟩)],.agg #[.bool m.ok,.int .i64 m.fr,.int .i64 m.up,.slice ag ng cg],undef,undef,undef,undef,undef],defers := [] },?_,?_⟩
  ·have HK:Hid (Keeps (fun _=>False) w1 (w1.alloc (.cells #[.bool m.ok,.int .i64 m.fr,.int .i64 m.up,.slice ag ng cg] 29))):=(Keeps.refl _ _).alloc _
   have HA:Hid ((w1.alloc (.cells #[.bool m.ok,.int .i64 m.fr,.int .i64 m.up,.slice ag ng cg] 29)).heap[w1.heap.size]? = some (.cells #[.bool m.ok,.int .i64 m.fr,.int .i64 m.up,.slice ag ng cg] 29 (0,0))):=heap_alloc_new _ _
   clear hU hrow hnF hok
   gi_wp2
   exact ⟨HK.out,HA.out,by first | trivial | rfl⟩
  ·rintro a1 w2 w3 k2 ⟨hb,rfl⟩ k3 ⟨v,L,c1,c2,c3,c4,c5,c6,c7,c8,c9⟩
   have hb3:w3.heap[w1.heap.size]? = some (.cells #[.bool m.ok,.int .i64 m.fr,.int .i64 m.up,.slice ag ng cg] 29 (0,0)):=by rw [k3.block _ (lt_of_block hb) (by omega)]; exact hb
   have l3:Lat w1 F1 w3 F1:=(Lat.ofKeeps k2).trans ⟨k3.mono (fun k _ e=>e ▸ hF1l),fun k h=>Or.inl h⟩
   have hFb3:Fb w3 F1:=(hFb.keeps k2).keeps k3
   obtain ⟨ao,n,cap,hvf⟩ :∃ao n cap,v = .slice ao n cap:=by obtain ⟨ao,cap,h⟩:=own_form c3; exact ⟨_,_,_,h⟩
   have e0:=c1.cell
   have e1:w3.cell? ⟨w1.heap.size,0,none⟩=some (.bool m.ok):=by rw [cell_of hb3]; rfl
   have e2:w3.cell? ⟨w1.heap.size,1,none⟩=some (.int .i64 m.fr):=by rw [cell_of hb3]; rfl
   have e3:w3.cell? ⟨w1.heap.size,2,none⟩=some (.int .i64 m.up):=by rw [cell_of hb3]; rfl
   have e4:w3.cell? ⟨w1.heap.size,3,none⟩=some (.slice ag ng cg):=by rw [cell_of hb3]; rfl
   obtain ⟨r1,r2⟩:=ownsRow_later ⟨hrow,hnF⟩ l3
   obtain ⟨v',w4,hrun,⟨ao',n',cap',rfl⟩,cS,fS,hfin⟩:=mcR_add (m:=m) hFb3 (Nat.le_trans hbs (Nat.le_trans k2.size k3.size)) c1 c2 c3 c4 c5 c6 c7 c8 c9 hn r1 r2
   have es:(w4.setCell ⟨w.heap.size,0,none⟩ (.slice ao' n' cap')).heap.size=w4.heap.size:=by simp [World.setCell]
   rw [es] at hfin
   have HF:Hid (∃F4 Fu4,McR w.heap.size w.heap.size w4.heap.size (out ++ [m]) (w4.setCell ⟨w.heap.size,0,none⟩ (.slice ao' n' cap')) F4 Fu4∧Trn w3 F1 Fu (w4.setCell ⟨w.heap.size,0,none⟩ (.slice ao' n' cap')) F4 Fu4):=hfin
   rw [hvf] at e0 hrun cS
   clear hfin es c1 c2 c3 c4 c5 c6 c7 c8 c9 hb3 l3 hFb3 hb k2 k3 hU hrow hnF hvf r1 r2 hok
   gi_wp2_with (gi_at_builtin; refine wpListIn_append_run rfl _ _ _ _ rfl rfl _ _ _ _ rfl rfl hrun ?_)
   exact ⟨rfl,HF.out⟩
 case done =>
  intro D b' out T' tv w2 F2 Fr2 hout hst ht hD hrd2
  obtain ⟨hD1,F3,Fr3,F4,FU,q1,q2,q3,q4⟩:=done_end (mcR_ok _ _ _ _) hS1.ok hst ht
  obtain ⟨v,L,c1,c2,c3,c4,c5,c6,c7,c8,c9⟩:=q3
  have c0:At1 w2 w.heap.size 25 v:=by
   have:D≠w.heap.size:=by have:=b1.lt; omega
   unfold At1 at c1 ⊢
   rw [put_other (Ne.symm this)] at c1
   exact c1
  obtain ⟨ao,cap,hvf⟩:=own_form c3
  subst hvf
  have e0:=c0.cell
  have hmt:(mtold (fun o=>((fun (_:List Mt)=>(none:Option Code)) o).isNone) [] (allL (fun a=>(X a).map (mtOf C.G a)) C.u.size (C.u.size + 2) 0))=allL (fun a=>(X a).map (mtOf C.G a)) C.u.size (C.u.size + 2) 0:=by
   have:=mtold_all [] (allL (fun a=>(X a).map (mtOf C.G a)) C.u.size (C.u.size + 2) 0)
   rw [List.nil_append] at this
   exact this
  have HF:Hid (ColM (allL (fun a=>(X a).map (mtOf C.G a)) C.u.size (C.u.size + 2) 0) w Fr (.returned (.slice ao L.length cap)) (w2.putObj D (.deferred none))):=⟨ao,L.length,cap,L,rfl,by rw [c2,hout,hmt],c3,⟨fun x hx=>⟨(c4.rows x hx).1,fun _ _ h=>h⟩,c4.sep⟩,(k1.mono (fun _ _ h=>h.elim)).trans' (E:=Fr) q2.keeps (fun i hi h=>h.elim (fun e=>by omega) id)⟩
  have HD:Hid (w2.heap[D]? = some (.deferred (some []))):=hD1
  clear q1 q2 q4 hD1 hst ht c0 c1 c2 c3 c4 c5 c6 c7 c8 c9 hS1 hA1 hR2 hFb1 hX hout hmt
  gi_wp2
  refine ⟨by simp,.inl ⟨_,_,rfl,run_takeDeferred HD.out,?_⟩⟩
  refine ⟨_,results_tmp rfl _ _ _,?_⟩
  exact HF.out
set_option maxHeartbeats 400000 in
set_option maxRecDepth 100000 in
theorem collectM_any {C:Cx} {ρ:Rx} {X:Xs} {B:Option Bo} {mine:List Rsc} {T:Tt} {tl:Value} {w:World} {F Fr:Bs2} {A:Nat} (hS:Srch C w F ρ.bg X B mine) (hA:CeI w F A 0 (.pointer (some ⟨C.X,0,none⟩))) (hFb:Fb w F) (hR:starL (SeR C ρ tl T :: mine) w F Fr) (hrd:Rdy C.u.size T B) (hX:OkX C.u.size 0 C.G X) (hu:C.u.size≤200) (hG:C.G≤9) :
  Calls Tryz.prog 34 #[.func (.func 56) #[] #[.pointer (some ⟨A,0,none⟩)]] w (ColM (allL (fun a=>(X a).map (mtOf C.G a)) C.u.size (C.u.size + 2) 0) w Fr):=by
 have hcall:Calls Tryz.prog 55 #[.slice none 0 0,.func (.func 56) #[] #[.pointer (some ⟨A,0,none⟩)]] w (fun e w' =>∃ao n cap,e = .returned (.slice ao n cap)∧Hid (ColM (allL (fun a=>(X a).map (mtOf C.G a)) C.u.size (C.u.size + 2) 0) w Fr (.returned (.slice ao n cap)) w')):=by
  refine (appseqM_any hS hA hFb hR hrd hX hu hG).mono ?_
  intro e w' h
  obtain ⟨ao,n,c,L,rfl,h1⟩:=id h
  exact ⟨_,_,_,rfl,h⟩
 clear hS hA hFb hR hrd hX
 go_enter Tryz.func34,Tryz.ntmps34
 go_wp2_with (go_at_call 55; refine hcall.mono ?_; rintro e w2 ⟨ao,n,cap,rfl,HF⟩)
 go_ret
 exact HF.out
set_option maxHeartbeats 2000000 in
set_option maxRecDepth 100000 in
theorem iall_any {w:World} {s u:ByteArray}:Calls Tryz.prog 10 #[.string s,.string u] w (ColM (allRef s u) w (fun _=>False)):=by
 have hpn :∀(a:Addr) (w:World),(binOp BinOp.eql 61 (.pointer (some a)) (.pointer none)).run Tryz.prog w = .ok (.bool false) w:=fun _ _=>by kernel_rfl
 have hpn0 :∀(w:World),(binOp BinOp.eql 61 (.pointer none) (.pointer none)).run Tryz.prog w = .ok (.bool true) w:=fun _=>by kernel_rfl
 have hsf:Calls Tryz.prog 33 #[.string s,.string u,.int .i64 0] w _:=searchFor_any (F:=fun _=>False) (fun _ h=>h.elim)
 by_cases hw:wanted s u 0=true
 ·have hu:u.size≤200:=by
   simp only [wanted,Bool.and_eq_true,decide_eq_true_eq] at hw
   omega
  have hsf2:Calls Tryz.prog 33 #[.string s,.string u,.int .i64 0] w (fun e w2 =>∃X2,e = .returned (.pointer (some ⟨X2,0,none⟩))∧Hid (∀w3 A,Keeps (fun _=>False) w2 w3→w2.heap.size≤A→At1 w3 A 61 (.pointer (some ⟨X2,0,none⟩))→Calls Tryz.prog 34 #[.func (.func 56) #[] #[.pointer (some ⟨A,0,none⟩)]] w3 (fun e w' =>∃ao n cap,e = .returned (.slice ao n cap)∧Hid (ColM (allRef s u) w (fun _=>False) (.returned (.slice ao n cap)) w')))):=by
   refine hsf.mono ?_
   rintro e w2 (⟨h1,-⟩ | ⟨g,f,X2,h1,ht,rfl,hMd⟩)
   ·rw [hw] at h1; cases h1
   ·have k12:=made_keeps hMd
    obtain ⟨C,kk,bg,B,mine,F',Fr',hCX,hCu,hCG,hres,hT,hS⟩:=hMd.ex
    obtain ⟨hfg,hg9,hf1,hf4⟩:=tree_fg ht
    have hX:OkX C.u.size 0 C.G (smx u [] f):=by rw [hCu,hCG]; exact fp_ok u ⟨f,hfg,rfl⟩
    have hok:=se_ok (C:=C) (ρ:=⟨(kk:Int),bg,[]⟩) (tl:=.nilFunc) (T:=tno) hS.ok
    have hlt:=hok.lt hres
    have hF' :∀i,F' i→w.heap.size≤i∧i < w2.heap.size:=fun i hi=>by
     rcases hT.out i hi with h | h
     ·exact h.1.elim
     ·rcases hT.fresh i h with h2 | h2
      ·exact h2.elim
      ·exact ⟨h2,(hlt i h).2⟩
    refine ⟨X2,rfl,?_⟩
    intro w3 A k3 hA2 hA
    have l3:Lat w2 F' w3 F':=Lat.ofKeeps k3
    have hs23:=k3.size
    have hres3:=hok.frame hres l3 (fun i hi=>(hlt i hi).1) (fun i hi=>k3.block i (hlt i hi).2 (fun h=>h))
    subst hCX
    refine (collectM_any (hS.later l3) ⟨hA.cell,fun h=>by have:=(hF' _ h).2; omega,hA.lt⟩ (fun i hi=>Nat.lt_of_lt_of_le (hF' i hi).2 hs23) hres3 Rdy.no hX (by rw [hCu]; exact hu) (by rw [hCG]; exact hg9)).mono ?_
    rintro e w' ⟨ao,n,c,L,rfl,h1,h2,h3,h4⟩
    have hs12:=k12.size
    have hle:w.heap.size≤w3.heap.size:=Nat.le_trans hs12 hs23
    refine ⟨ao,n,c,rfl,ao,n,c,L,rfl,?_,ownsRow_base h2 (fun k hk=>Nat.le_trans hle (h2.lt k hk).1),⟨fun x hx=>⟨ownsRow_base (h3.rows x hx).1 (fun k hk=>Nat.le_trans hle ((h3.rows x hx).1.lt k hk).1),fun _ _ h=>h⟩,h3.sep⟩,?_⟩
    ·rw [h1,allRef_eq hw ht,hCu,hCG]
    ·exact (k12.trans k3).trans' h4 (fun i hi h=>by have:=(hF' i (hlt i h).1).1; omega)
  clear hsf hpn0
  go_enter Tryz.func10,Tryz.ntmps10
  go_wp2_with (first
   | (go_at_call 33; refine hsf2.mono ?_; rintro e w2 ⟨X2,rfl,HM⟩)
   | (go_at_call 35; refine matches_any.mono ?_; rintro e w4 ⟨rfl,bA,k4⟩)
   | (go_at_call 34; refine (HM.out _ _ k4 (Nat.le_refl _) bA).mono ?_; rintro e w5 ⟨ao,n,cap,rfl,HF⟩))
  go_ret
  exact HF.out
 ·have hsf2:Calls Tryz.prog 33 #[.string s,.string u,.int .i64 0] w (fun e w2=>e = .returned (.pointer none)∧Keeps (fun _=>False) w w2):=by
   refine hsf.mono ?_
   rintro e w2 (⟨h1,rfl,h2⟩ | ⟨g,f,X2,h1,-⟩)
   ·exact ⟨rfl,h2⟩
   ·rw [h1] at hw; exact absurd rfl hw
  rw [allRef_not hw]
  clear hsf hpn
  go_enter Tryz.func10,Tryz.ntmps10
  go_wp2_with (go_at_call 33; refine hsf2.mono ?_; rintro e w2 ⟨rfl,hk⟩)
  go_ret
  exact ⟨none,0,0,[],rfl,rfl,World.ownsRow_nil _ _ _ _,⟨by simp,by simp⟩,hk⟩
end Go.Proofs.YtmlgmhnplicflaaGreat
