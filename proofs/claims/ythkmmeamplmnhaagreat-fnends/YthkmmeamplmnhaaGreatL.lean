import Derived.Test.YthkmmeamplmnhaaGreatC
namespace Go.Proofs.YthkmmeamplmnhaaGreat
set_option linter.unusedVariables false
def addL {α:Type} (M L:List (Nat×α)):List (Nat×α):=M ++ dd (sal sno M) L
section
variable {α:Type}
theorem addL_nil (M:List (Nat×α)):addL M []=M:=by simp [addL,dd]
theorem sal_addL (M L:List (Nat×α)):sal sno (addL M L)=sal (sal sno M) L:=by rw [addL,sal_append,sal_dd]
theorem addL_append (M A B:List (Nat×α)):addL M (A ++ B)=addL (addL M A) B:=by
 rw [addL,addL,addL,dd_append,List.append_assoc,sal_append,sal_dd]
theorem addL_seen (M L:List (Nat×α)) (h :∀e∈L,sal sno M e.1=true):addL M L=M:=by rw [addL,dd_none h,List.append_nil]
theorem addL_one_new (M:List (Nat×α)) (e:Nat×α) (h:sal sno M e.1=false):addL M [e]=M ++ [e]:=by rw [addL,dd_cons_new h,dd_nil]
theorem addL_empty (L:List (Nat×α)):addL [] L=dd sno L:=by rw [addL,sal_nil,List.nil_append]
theorem addL_mono (M L:List (Nat×α)) (x:Nat) (h:sal sno M x=true):sal sno (addL M L) x=true:=by rw [sal_addL]; exact sal_mono _ _ _ h
theorem addL_has (M L:List (Nat×α)) (e:Nat×α) (h:e∈L):sal sno (addL M L) e.1=true:=by rw [sal_addL]; exact sal_mem h
theorem addL_nodup (M L:List (Nat×α)) (h:(M.map (·.1)).Nodup):((addL M L).map (·.1)).Nodup:=by
 unfold addL
 rw [List.map_append,List.nodup_append]
 refine ⟨h,dd_nodup _ _,?_⟩
 intro a ha b hb he
 subst he
 obtain ⟨y,hy,hya⟩:=List.mem_map.1 hb
 obtain ⟨z,hz,hza⟩:=List.mem_map.1 ha
 have h1:=(dd_sub y hy).2
 have h2:sal sno M z.1=true:=sal_mem hz
 rw [hza,← hya,h1] at h2
 simp at h2
end
def fu (N:Nat) (X:Xs) (lz:Bool) (left p:Nat):En:=fuF X lz (N + 1 - p) left p
def fuMore (N:Nat) (X:Xs) (lz:Bool) (left p:Nat):En:=if left=0 then [] else ((X p).filter fun e=>decide (p < e.1)).flatMap fun e=>beh e (fu N X lz (less left) e.1)
theorem fuF_two {N:Nat} {X:Xs} (hX:Rng N X) (lz:Bool) (f:Nat) :∀f' left p,p≤N→N + 1 - p≤f→N + 1 - p≤f'→fuF X lz f left p=fuF X lz f' left p:=by
 induction f with
 | zero=>intro f' left p hp h; omega
 | succ f ih =>
   intro f' left p hp h h'
   obtain ⟨m,rfl⟩ :∃m,f'=m + 1:=⟨f' - 1,by omega⟩
   rw [fuF,fuF]
   have key :∀e∈(X p).filter (fun e=>decide (p < e.1)),beh e (fuF X lz f (less left) e.1)=beh e (fuF X lz m (less left) e.1):=by
    intro e he
    rw [List.mem_filter] at he
    obtain ⟨he,hc⟩:=he
    obtain ⟨h1,h2⟩:=hX p hp e he
    simp only [decide_eq_true_eq] at hc
    rw [ih m _ _ h2 (by omega) (by omega)]
   rw [flat_congr _ _ _ key]
theorem fu_eq {N:Nat} {X:Xs} (hX:Rng N X) (lz:Bool) (left p:Nat) (hp:p≤N):fu N X lz left p=if lz then (p,eno) :: fuMore N X lz left p else fuMore N X lz left p ++ [(p,eno)]:=by
 unfold fu
 obtain ⟨m,hm⟩ :∃m,N + 1 - p=m + 1:=⟨N - p,by omega⟩
 rw [hm,fuF]
 have key :∀e∈(X p).filter (fun e=>decide (p < e.1)),beh e (fuF X lz m (less left) e.1)=beh e (fu N X lz (less left) e.1):=by
  intro e he
  rw [List.mem_filter] at he
  obtain ⟨he,hc⟩:=he
  obtain ⟨h1,h2⟩:=hX p hp e he
  simp only [decide_eq_true_eq] at hc
  unfold fu
  rw [fuF_two hX lz m (N + 1 - e.1) _ _ h2 (by omega) (by omega)]
 rw [flat_congr _ _ _ key]
 rfl
def fuPart (N:Nat) (X:Xs) (lz:Bool) (left p:Nat) (e:Ef) (L:En):En:=(L.filter fun f=>decide (p < f.1)).flatMap fun f=>beh (f.1,eov e f.2) (fu N X lz (less left) f.1)
theorem fuPart_nil (N:Nat) (X:Xs) (lz:Bool) (left p:Nat) (e:Ef):fuPart N X lz left p e [] = []:=rfl
theorem fuPart_snoc (N:Nat) (X:Xs) (lz:Bool) (left p:Nat) (e:Ef) (L:En) (f:Nat×Ef):fuPart N X lz left p e (L ++ [f])=fuPart N X lz left p e L ++ (if p < f.1 then beh (f.1,eov e f.2) (fu N X lz (less left) f.1) else []):=by
 unfold fuPart
 rw [List.filter_append,List.flatMap_append]
 congr 1
 by_cases h:p < f.1 <;> simp [h]
theorem fuPart_all (N:Nat) (X:Xs) (lz:Bool) (left p:Nat) (e:Ef) (hl:left≠0):fuPart N X lz left p e (X p)=beh (p,e) (fuMore N X lz left p):=by
 unfold fuPart fuMore
 rw [if_neg hl,beh_flat]
 congr 1
 funext a
 rw [beh_beh (p,e) a a.1]
def Clo (N:Nat) (X:Xs) (lz:Bool) (sn:Nat→Nat→Bool) (M:En) (p:Nat):Prop :=∀q lf,p≤q→q≤N→sn q lf=true→∀e∈fu N X lz lf q,sal sno M e.1=true
structure VPc (G n j:Nat) (c:Pc):Prop where
 kids :∀k∈c.kids,(n:Int)≤k∧k < (n:Int) + j
 rep:c.kind=4→c.kids.length=1∧0≤c.min∧c.min≤50∧(c.max = -1∨c.min≤c.max)∧c.max≤50
 grp:c.kind=5→c.kids.length=1∧0 < c.num∧c.num≤(G:Int)
def VPs (G:Nat) (n:Nat) (ps:List Pc):Prop :=∀j c,ps[j]? = some c→VPc G n j c
theorem vps_append {G n:Nat} {a b:List Pc} (ha:VPs G n a) (hb:VPs G (n + a.length) b):VPs G n (a ++ b):=by
 intro j c h
 by_cases hj:j < a.length
 ·rw [List.getElem?_append_left hj] at h
  exact ha j c h
 ·rw [List.getElem?_append_right (by omega)] at h
  have:=hb _ c h
  exact ⟨fun k hk=>by have:=this.kids k hk; push_cast at this; omega,this.rep,this.grp⟩
theorem vps_one {G n:Nat} {a:List Pc} {c:Pc} (ha:VPs G n a) (hc:VPc G n a.length c):VPs G n (a ++ [c]):=by
 intro j d h
 by_cases hj:j < a.length
 ·rw [List.getElem?_append_left hj] at h
  exact ha j d h
 ·rw [List.getElem?_append_right (by omega)] at h
  have hj2:j=a.length:=by
   have:=(List.getElem?_eq_some_iff.1 h).1
   simp at this
   omega
  subst hj2
  simp at h
  subst h
  exact hc
theorem vps_cat {G:Nat} {fs:List Pf} (h :∀f∈fs,∀n,VPs G n (f n)) :∀n,VPs G n (cat fs n):=by
 induction fs with
 | nil=>intro n j c h; simp [cat] at h
 | cons f fs ih =>
   intro n
   simp only [cat]
   exact vps_append (h f (by simp) n) (ih (fun g hg=>h g (by simp [hg])) _)
theorem vpc_plain {G n j:Nat} {c:Pc} (h1:c.kids = []) (h4:c.kind≠4) (h5:c.kind≠5):VPc G n j c :=
 ⟨fun k hk=>by rw [h1] at hk; simp at hk,fun h=>absurd h h4,fun h=>absurd h h5⟩
theorem vps_single {G n:Nat} {c:Pc} (h:VPc G n 0 c):VPs G n [c]:=by
 have:=vps_one (G:=G) (n:=n) (a := []) (c:=c) (fun j c h=>by simp at h) h
 simpa using this
theorem vps_kids {G:Nat} {fs:List Pf} {K:Int} (hK:K≠4∧K≠5) (h :∀f∈fs,(∀n,VPs G n (f n))∧Ful f) (n:Nat):VPs G n (cat fs n ++ [kidsPc K (ends fs n)]) :=
 vps_one (vps_cat (fun f hf=>(h f hf).1) n) ⟨fun k hk=>ends_mem_lt (fun f hf=>(h f hf).2) n k hk,fun h=>absurd h hK.1,fun h=>absurd h hK.2⟩
theorem fg_vps {lo hi:Nat} {f:Pf} (h:Fg lo hi f) {G:Nat} (hG:hi≤G) :∀n,VPs G n (f n):=by
 have hh:=h (fun lo hi f=>hi≤G→((∀n,VPs G n (f n))∧Ful f))
  ⟨fun lo hi S _=>⟨fun n=>vps_single (vpc_plain rfl (by simp [setPc]) (by simp [setPc])),fg_ful (Fg.cl.set lo hi S)⟩,
   fun lo hi _=>⟨fun n=>vps_single (vpc_plain rfl (by decide) (by decide)),fg_ful (Fg.cl.start lo hi)⟩,
   fun lo hi _=>⟨fun n=>vps_single (vpc_plain rfl (by decide) (by decide)),fg_ful (Fg.cl.fin lo hi)⟩,
   fun lo hi fs hl ih hg=>⟨fun n=>vps_kids ⟨by decide,by decide⟩ (fun f hf=>ih f hf hg) n,fun n=>by simp [seqPf]⟩,
   fun lo hi fs hl ih hg=>⟨fun n=>vps_kids ⟨by decide,by decide⟩ (fun f hf=>ih f hf hg) n,fun n=>by simp [altPf]⟩,
   fun lo hi f a b lz h0 h1 h2 h3 ih hg=>⟨fun n=>vps_one ((ih hg).1 n) ⟨fun k hk=>by have:=(ih hg).2 n; simp at hk; omega,fun _=>⟨rfl,h0,h1,h2,h3⟩,fun h=>by simp at h⟩,fun n=>by simp [repPf]⟩,
   fun lo hi f hl ih hg=>⟨fun n=>vps_one ((ih hg).1 n) ⟨fun k hk=>by have:=(ih hg).2 n; simp at hk; omega,fun h=>by simp at h,fun _=>⟨rfl,by simp only; omega,by simp only; omega⟩⟩,fun n=>by simp [grpPf]⟩,
   fun lo hi lo' hi' f h1 h2 ih hg=>ih (by omega)⟩
 exact (hh hG).1
theorem okX_grp0 {N G n:Nat} {X:Xs} (h:OkX N 0 G X) (hn:n < G):OkX N 0 G (grpX n X):=by
 intro p hp
 unfold grpX
 refine ⟨?_,fun e he=>?_⟩
 ·rw [List.map_map]
  exact (h p hp).1
 ·rw [List.mem_map] at he
  obtain ⟨b,hb,rfl⟩:=he
  have h1:=(h p hp).2 b hb
  refine ⟨h1.1,h1.2.1,?_⟩
  intro i a c he
  simp only [est] at he
  split at he
  ·rename_i hi'
   subst hi'
   simp only [Option.some.injEq,Prod.mk.injEq] at he
   obtain ⟨rfl,rfl⟩:=he
   exact ⟨Nat.zero_le _,hn,Nat.le_refl _,h1.1,Nat.le_refl _⟩
  ·exact h1.2.2 i a c he
theorem pcX_ok {u:ByteArray} {G i:Nat} {c:Pc} {K:Int→Xs} (hc:VPc G 0 i c) (hK :∀k∈c.kids,OkX u.size 0 G (K k)):OkX u.size 0 G (pcX u c K):=by
 unfold pcX
 split
 ·exact okX_one (fun p hp=>by simp at hp; exact hp.1)
 split
 ·exact okX_at
 split
 ·exact okX_at
 split
 ·rename_i h5
  obtain ⟨h1,h2,h3⟩:=hc.grp h5
  obtain ⟨k,hk⟩:=List.length_eq_one_iff.1 h1
  rw [hk]
  exact okX_grp0 (hK k (by rw [hk]; simp)) (by omega)
 split
 ·exact okX_alt (fun X hX=>by obtain ⟨k,hk,rfl⟩:=List.mem_map.1 hX; exact hK k hk)
 split
 ·rename_i h4
  obtain ⟨h1,_⟩:=hc.rep h4
  obtain ⟨k,hk⟩:=List.length_eq_one_iff.1 h1
  rw [hk]
  exact okX_rep (hK k (by rw [hk]; simp)) _
 ·exact okX_seq (fun X hX=>by obtain ⟨k,hk,rfl⟩:=List.mem_map.1 hX; exact hK k hk)
theorem xOf_kids {u:ByteArray} {G:Nat} {ps:List Pc} (hV:VPs G 0 ps) {i:Nat} {c:Pc} (hc:ps[i]? = some c):xOf u ps i=pcX u c (fun k=>xOf u ps k.toNat):=by
 have h:=hV i c hc
 refine xOf_at u ps i c hc (fun k hk=>by have:=h.kids k hk; omega) (fun hn=>⟨fun h4=>?_,fun h5=>?_⟩)
 ·have:=(h.rep h4).1; rw [hn] at this; simp at this
 ·have:=(h.grp h5).1; rw [hn] at this; simp at this
theorem xOf_ok {u:ByteArray} {G:Nat} {ps:List Pc} (hV:VPs G 0 ps) :∀i,i < ps.length→OkX u.size 0 G (xOf u ps i):=by
 intro i
 induction i using Nat.strongRecOn with
 | ind i ih =>
   intro hi
   have hc:ps[i]? = some ps[i]:=List.getElem?_eq_getElem hi
   rw [xOf_kids hV hc]
   refine pcX_ok (hV i _ hc) (fun k hk=>?_)
   have:=(hV i _ hc).kids k hk
   exact ih k.toNat (by omega) (by omega)
end Go.Proofs.YthkmmeamplmnhaaGreat
