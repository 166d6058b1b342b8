import Derived.Test.YthkmmeamplmnhaaGreatA
import Derived.Test.YthkmmeamplmnhaaGreatB
namespace Go.Proofs.YthkmmeamplmnhaaGreat
set_option linter.unusedVariables false
abbrev Vs:=Nat→Bool
def sno:Vs:=fun _=>false
def sad (s:Vs) (p:Nat):Vs:=fun x=>s x || x == p
def sal {α:Type} (s:Vs) (L:List (Nat×α)):Vs:=fun x=>s x || L.any (fun e=>e.1 == x)
def dd {α:Type}:Vs→List (Nat×α)→List (Nat×α)
 | _,[] => []
 | s,e :: L=>if s e.1 then dd s L else e :: dd (sad s e.1) L
section
variable {α β:Type}
theorem sad_seen {s:Vs} {p:Nat} (h:s p=true):sad s p=s:=by
 funext x
 unfold sad
 by_cases hx:x=p
 ·subst hx; simp [h]
 ·simp [hx]
theorem sal_nil (s:Vs):sal s ([]:List (Nat×α))=s:=by funext x; simp [sal]
theorem sal_cons (s:Vs) (e:Nat×α) (L:List (Nat×α)):sal s (e :: L)=sal (sad s e.1) L:=by
 funext x
 have:(e.1 == x)=(x == e.1):=by rw [Bool.eq_iff_iff,beq_iff_eq,beq_iff_eq]; exact eq_comm
 simp only [sal,sad,List.any_cons,this,Bool.or_assoc]
theorem sal_append (s:Vs) (L M:List (Nat×α)):sal s (L ++ M)=sal (sal s L) M:=by
 funext x
 simp [sal,Bool.or_assoc]
theorem sal_mono (s:Vs) (L:List (Nat×α)) (x:Nat) (h:s x=true):sal s L x=true:=by simp [sal,h]
theorem sal_mem {s:Vs} {L:List (Nat×α)} {e:Nat×α} (h:e∈L):sal s L e.1=true:=by
 simp only [sal,Bool.or_eq_true,List.any_eq_true]
 exact Or.inr ⟨e,h,by simp⟩
theorem sal_iff {s:Vs} {L:List (Nat×α)} {x:Nat}:sal s L x=true↔s x=true∨∃e∈L,e.1=x:=by
 simp only [sal,Bool.or_eq_true,List.any_eq_true,beq_iff_eq]
theorem sal_same {s:Vs} {L:List (Nat×α)} {M:List (Nat×β)} (h:L.map (·.1)=M.map (·.1)):sal s L=sal s M:=by
 induction L generalizing s M with
 | nil=>cases M with
   | nil=>rw [sal_nil,sal_nil]
   | cons b M=>simp at h
 | cons a L ih=>cases M with
   | nil=>simp at h
   | cons b M =>
     simp only [List.map_cons,List.cons.injEq] at h
     rw [sal_cons,sal_cons,h.1]
     exact ih h.2
theorem sal_seen {s:Vs} {L:List (Nat×α)} (h :∀e∈L,s e.1=true):sal s L=s:=by
 funext x
 rw [Bool.eq_iff_iff,sal_iff]
 exact ⟨fun h1=>h1.elim id (fun ⟨e,he,hx⟩=>hx ▸ h e he),Or.inl⟩
theorem dd_nil (s:Vs):dd s ([]:List (Nat×α)) = []:=rfl
theorem dd_cons_seen {s:Vs} {e:Nat×α} {L:List (Nat×α)} (h:s e.1=true):dd s (e :: L)=dd s L:=by rw [dd,if_pos h]
theorem dd_cons_new {s:Vs} {e:Nat×α} {L:List (Nat×α)} (h:s e.1=false):dd s (e :: L)=e :: dd (sad s e.1) L:=by rw [dd,if_neg (by simp [h])]
theorem dd_append (s:Vs) (L M:List (Nat×α)):dd s (L ++ M)=dd s L ++ dd (sal s L) M:=by
 induction L generalizing s with
 | nil=>simp [dd,sal_nil]
 | cons e L ih =>
   rw [List.cons_append,sal_cons]
   by_cases h:s e.1=true
   ·rw [dd_cons_seen h,dd_cons_seen h,ih,sad_seen h]
   ·simp only [Bool.not_eq_true] at h
    rw [dd_cons_new h,dd_cons_new h,ih,List.cons_append]
theorem sal_dd (s:Vs) (L:List (Nat×α)):sal s (dd s L)=sal s L:=by
 induction L generalizing s with
 | nil=>rw [dd_nil]
 | cons e L ih =>
   by_cases h:s e.1=true
   ·rw [dd_cons_seen h,sal_cons,sad_seen h,ih]
   ·simp only [Bool.not_eq_true] at h
    rw [dd_cons_new h,sal_cons,sal_cons,ih]
theorem dd_none {s:Vs} {L:List (Nat×α)} (h :∀e∈L,s e.1=true):dd s L = []:=by
 induction L generalizing s with
 | nil=>rfl
 | cons e L ih=>rw [dd_cons_seen (h e (by simp))]; exact ih (fun e he=>h e (by simp [he]))
theorem dd_sub {s:Vs} {L:List (Nat×α)} :∀e∈dd s L,e∈L∧s e.1=false:=by
 induction L generalizing s with
 | nil=>intro e he; simp [dd] at he
 | cons a L ih =>
   intro e he
   by_cases h:s a.1=true
   ·rw [dd_cons_seen h] at he
    obtain ⟨h1,h2⟩:=ih e he
    exact ⟨by simp [h1],h2⟩
   ·simp only [Bool.not_eq_true] at h
    rw [dd_cons_new h] at he
    rcases List.mem_cons.1 he with rfl | he
    ·exact ⟨by simp,h⟩
    ·obtain ⟨h1,h2⟩:=ih e he
     refine ⟨by simp [h1],?_⟩
     simp only [sad,Bool.or_eq_false_iff] at h2
     exact h2.1
theorem dd_map (s:Vs) (g:Nat×α→Nat×β) (hg :∀e,(g e).1=e.1) (L:List (Nat×α)):dd s (L.map g)=(dd s L).map g:=by
 induction L generalizing s with
 | nil=>rfl
 | cons e L ih =>
   rw [List.map_cons]
   by_cases h:s e.1=true
   ·rw [dd_cons_seen (by rw [hg]; exact h),dd_cons_seen h,ih]
   ·simp only [Bool.not_eq_true] at h
    rw [dd_cons_new (by rw [hg]; exact h),dd_cons_new h,ih,List.map_cons,hg]
theorem dd_flat (F:Nat×α→List (Nat×β)) (hF :∀a b,a.1=b.1→(F a).map (·.1)=(F b).map (·.1)) (L:List (Nat×α)) (s t:Vs) (ht :∀a,t a.1=true→∀x∈F a,s x.1=true) :
  dd s ((dd t L).flatMap F)=dd s (L.flatMap F):=by
 induction L generalizing s t with
 | nil=>rfl
 | cons e L ih =>
   rw [List.flatMap_cons]
   by_cases h:t e.1=true
   ·rw [dd_cons_seen h,dd_append,dd_none (ht e h),List.nil_append,sal_seen (ht e h)]
    exact ih s t ht
   ·simp only [Bool.not_eq_true] at h
    rw [dd_cons_new h,List.flatMap_cons,dd_append,dd_append]
    congr 1
    refine ih _ _ ?_
    intro a ha x hx
    simp only [sad,Bool.or_eq_true,beq_iff_eq] at ha
    rcases ha with ha | ha
    ·exact sal_mono _ _ _ (ht a ha x hx)
    ·rw [← sal_same (hF a e ha)]
     exact sal_mem hx
theorem dd_flat0 (F:Nat×α→List (Nat×β)) (hF :∀a b,a.1=b.1→(F a).map (·.1)=(F b).map (·.1)) (L:List (Nat×α)) (s:Vs) :
  dd s ((dd sno L).flatMap F)=dd s (L.flatMap F):=dd_flat F hF L s sno (fun a h=>by simp [sno] at h)
theorem dd_dd (s t:Vs) (h :∀x,t x=true→s x=true) (L:List (Nat×α)):dd s (dd t L)=dd s L:=by
 have:=dd_flat (fun a:Nat×α => [a]) (fun a b h=>by simp [h]) L s t (fun a ha x hx=>by simp at hx; subst hx; exact h _ ha)
 simpa using this
theorem dd_dd0 (s:Vs) (L:List (Nat×α)):dd s (dd sno L)=dd s L:=dd_dd s sno (fun x h=>by simp [sno] at h) L
theorem sal_of_dd {s:Vs} {L M:List (Nat×α)} (h:dd s L=dd s M):sal s L=sal s M:=by rw [← sal_dd s L,h,sal_dd]
theorem dd_nodup (s:Vs) (L:List (Nat×α)):((dd s L).map (·.1)).Nodup:=by
 induction L generalizing s with
 | nil=>simp [dd]
 | cons e L ih =>
   by_cases h:s e.1=true
   ·rw [dd_cons_seen h]; exact ih s
   ·simp only [Bool.not_eq_true] at h
    rw [dd_cons_new h,List.map_cons,List.nodup_cons]
    refine ⟨?_,ih _⟩
    intro hm
    obtain ⟨x,hx,he⟩:=List.mem_map.1 hm
    have:=(dd_sub x hx).2
    simp [sad,he] at this
theorem dd_id {L:List (Nat×α)} {s:Vs} (h:(L.map (·.1)).Nodup) (hs :∀e∈L,s e.1=false):dd s L=L:=by
 induction L generalizing s with
 | nil=>rfl
 | cons e L ih =>
   rw [List.map_cons,List.nodup_cons] at h
   rw [dd_cons_new (hs e (by simp)),ih h.2]
   intro x hx
   simp only [sad,Bool.or_eq_false_iff,hs x (by simp [hx]),true_and]
   simp only [beq_eq_false_iff_ne]
   intro he
   exact h.1 (he ▸ List.mem_map_of_mem hx)
end
abbrev Ef:=Nat→Option (Nat×Nat)
def eno:Ef:=fun _=>none
def eov (a b:Ef):Ef:=fun i=>(b i).or (a i)
def est (e:Ef) (n:Nat) (x:Nat×Nat):Ef:=fun i=>if i=n then some x else e i
theorem eov_eno (a:Ef):eov a eno=a:=by funext i; simp [eov,eno]
theorem eno_eov (a:Ef):eov eno a=a:=by funext i; simp [eov,eno]
theorem eov_assoc (a b c:Ef):eov (eov a b) c=eov a (eov b c):=by funext i; simp [eov,Option.or_assoc]
abbrev En:=List (Nat×Ef)
abbrev Xs:=Nat→En
def beh (e:Nat×Ef) (L:En):En:=L.map fun f=>(f.1,eov e.2 f.2)
def bnd (L:En) (X:Xs):En:=L.flatMap fun e=>beh e (X e.1)
def thn (L:En) (X:Xs):En:=dd sno (bnd L X)
def thns (L:En) (l:List Xs):En:=l.foldl thn L
def bnds:List Xs→Xs→Xs
 | [],Y=>Y
 | X :: l,Y=>fun p=>bnd (X p) (bnds l Y)
theorem beh_places (e:Nat×Ef) (L:En):(beh e L).map (·.1)=L.map (·.1):=by simp [beh]
theorem beh_eno (p:Nat) (L:En):beh (p,eno) L=L:=by simp [beh,eno_eov]
theorem beh_append (e:Nat×Ef) (L M:En):beh e (L ++ M)=beh e L ++ beh e M:=by simp [beh]
theorem beh_beh (a b:Nat×Ef) (p:Nat) (L:En):beh a (beh b L)=beh (p,eov a.2 b.2) L:=by
 simp [beh,eov_assoc]
theorem beh_flat (e:Nat×Ef) {α:Type} (L:List α) (F : α→En):beh e (L.flatMap F)=L.flatMap fun a=>beh e (F a):=by
 simp [beh,List.map_flatMap]
theorem bnd_one (p:Nat) (X:Xs):bnd [(p,eno)] X=X p:=by simp [bnd,beh_eno]
theorem bnd_append (L M:En) (X:Xs):bnd (L ++ M) X=bnd L X ++ bnd M X:=by simp [bnd]
theorem bnd_nil (X:Xs):bnd [] X = []:=rfl
theorem bnd_cons (e:Nat×Ef) (L:En) (X:Xs):bnd (e :: L) X=beh e (X e.1) ++ bnd L X:=by simp [bnd]
theorem bnd_beh (e:Nat×Ef) (L:En) (X:Xs):bnd (beh e L) X=beh e (bnd L X):=by
 unfold bnd
 rw [beh_flat]
 unfold beh
 rw [List.flatMap_map]
 congr 1
 funext a
 simp [eov_assoc]
theorem bnd_bnd (L:En) (X Y:Xs):bnd (bnd L X) Y=bnd L (fun p=>bnd (X p) Y):=by
 unfold bnd
 rw [List.flatMap_assoc]
 congr 1
 funext a
 exact bnd_beh a (X a.1) Y
theorem beh_same (X:Xs) (a b:Nat×Ef) (h:a.1=b.1):(beh a (X a.1)).map (·.1)=(beh b (X b.1)).map (·.1):=by
 rw [beh_places,beh_places,h]
theorem dd_bnd (s:Vs) (L:En) (X:Xs):dd s (bnd (dd sno L) X)=dd s (bnd L X) :=
 dd_flat0 (fun e=>beh e (X e.1)) (beh_same X) L s
theorem lin (l:List Xs) (L:En) (Y:Xs) (s:Vs):dd s (bnd (thns L l) Y)=dd s (bnd L (bnds l Y)):=by
 induction l generalizing L with
 | nil=>rfl
 | cons X l ih =>
   show dd s (bnd (thns (thn L X) l) Y) = _
   rw [ih,thn,dd_bnd,bnd_bnd]
   rfl
def seqX (l:List Xs):Xs:=fun p=>thns [(p,eno)] l
def altX (l:List Xs):Xs:=fun p=>dd sno (l.flatMap (· p))
def grpX (n:Nat) (X:Xs):Xs:=fun p=>(X p).map fun f=>(f.1,est f.2 n (p,f.1))
def oneX (has:Nat→Bool):Xs:=fun p=>if has p then [(p + 1,eno)] else []
def atX (q:Nat):Xs:=fun p=>if p=q then [(p,eno)] else []
structure Rp where
 least:Nat
 most:Option Nat
 lazy:Bool
def less (left:Nat):Nat:=if 50 < left then left else left - 1
def fuF (X:Xs) (lazy:Bool):Nat→Nat→Nat→En
 | 0,_,_ => []
 | f + 1,left,p =>
   let more:=if left=0 then [] else ((X p).filter fun e=>decide (p < e.1)).flatMap fun e=>beh e (fuF X lazy f (less left) e.1)
   if lazy then (p,eno) :: more else more ++ [(p,eno)]
def Rp.left (r:Rp) (d:Nat):Nat:=match r.most with | none=>51 | some m=>m - d
def repX (N:Nat) (r:Rp) (X:Xs):Xs:=fun p=>dd sno (bnd (thns [(p,eno)] (List.replicate r.least X)) fun q=>fuF X r.lazy (N + 1 - q) (r.left r.least) q)
def Rng (N:Nat) (X:Xs):Prop :=∀p,p≤N→∀e∈X p,p≤e.1∧e.1≤N
def wgF (X:Xs) (r:Rp):Nat→Nat→Nat→En
 | 0,_,_ => []
 | f + 1,d,p =>
   let ag:=if r.most=some d then [] else ((X p).filter fun e => !(decide (r.least≤d) && e.1 == p)).flatMap fun e=>beh e (wgF X r f (d + 1) e.1)
   if d < r.least then ag else if r.lazy then (p,eno) :: ag else ag ++ [(p,eno)]
def wgN (N:Nat) (r:Rp) (d p:Nat):Nat:=(r.least - d) + (N + 1 - p)
def wg (N:Nat) (X:Xs) (r:Rp) (d p:Nat):En:=wgF X r (wgN N r d p) d p
def wa (N:Nat) (X:Xs) (r:Rp) (d p:Nat):En:=if r.most=some d then [] else ((X p).filter fun e => !(decide (r.least≤d) && e.1 == p)).flatMap fun e=>beh e (wg N X r (d + 1) e.1)
theorem flat_congr {α β:Type} (L:List α) (F G : α→List β) (h :∀a∈L,F a=G a):L.flatMap F=L.flatMap G:=by
 induction L with
 | nil=>rfl
 | cons a L ih=>rw [List.flatMap_cons,List.flatMap_cons,h a (by simp),ih (fun b hb=>h b (by simp [hb]))]
theorem wgF_two {N:Nat} {X:Xs} (hX:Rng N X) (r:Rp) (f:Nat) :∀f' d p,p≤N→wgN N r d p≤f→wgN N r d p≤f'→wgF X r f d p=wgF X r f' d p:=by
 induction f with
 | zero=>intro f' d p hp h; unfold wgN at h; omega
 | succ f ih =>
   intro f' d p hp h h'
   obtain ⟨m,rfl⟩ :∃m,f'=m + 1:=⟨f' - 1,by unfold wgN at *; omega⟩
   rw [wgF,wgF]
   have key :∀e∈(X p).filter (fun e => !(decide (r.least≤d) && e.1 == p)),beh e (wgF X r f (d + 1) e.1)=beh e (wgF X r m (d + 1) e.1):=by
    intro e he
    rw [List.mem_filter] at he
    obtain ⟨he,hc⟩:=he
    obtain ⟨h1,h2⟩:=hX p hp e he
    simp only [Bool.not_eq_true',Bool.and_eq_false_iff,decide_eq_false_iff_not,beq_eq_false_iff_ne] at hc
    have hlt:wgN N r (d + 1) e.1 + 1≤wgN N r d p:=by unfold wgN at *; omega
    rw [ih m _ _ h2 (by omega) (by omega)]
   rw [flat_congr _ _ _ key]
theorem wg_eq {N:Nat} {X:Xs} (hX:Rng N X) (r:Rp) (d p:Nat) (hp:p≤N) :
  wg N X r d p=if d < r.least then wa N X r d p else if r.lazy then (p,eno) :: wa N X r d p else wa N X r d p ++ [(p,eno)]:=by
 unfold wg
 obtain ⟨m,hm⟩ :∃m,wgN N r d p=m + 1:=⟨wgN N r d p - 1,by unfold wgN at *; omega⟩
 rw [hm,wgF]
 have key :∀e∈(X p).filter (fun e => !(decide (r.least≤d) && e.1 == p)),beh e (wgF X r m (d + 1) e.1)=beh e (wg N X r (d + 1) e.1):=by
  intro e he
  rw [List.mem_filter] at he
  obtain ⟨he,hc⟩:=he
  obtain ⟨h1,h2⟩:=hX p hp e he
  simp only [Bool.not_eq_true',Bool.and_eq_false_iff,decide_eq_false_iff_not,beq_eq_false_iff_ne] at hc
  have hlt:wgN N r (d + 1) e.1 + 1≤wgN N r d p:=by unfold wgN at *; omega
  unfold wg
  rw [wgF_two hX r m (wgN N r (d + 1) e.1) _ _ h2 (by omega) (by omega)]
 rw [flat_congr _ _ _ key]
 rfl
theorem wgF_fuF {N:Nat} {X:Xs} (hX:Rng N X) (r:Rp) (hm :∀m,r.most=some m→m≤50) (f:Nat) :∀d p,p≤N→r.least≤d→(∀m,r.most=some m→d≤m)→wgF X r f d p=fuF X r.lazy f (r.left d) p:=by
 induction f with
 | zero=>intro d p hp hd hdm; rfl
 | succ f ih =>
   intro d p hp hd hdm
   rw [wgF,fuF]
   have c1:(r.most=some d)↔(r.left d=0):=by
    unfold Rp.left
    cases hmm:r.most with
    | none=>simp
    | some m=>have:=hdm m hmm; simp; omega
   have hfil:(X p).filter (fun e => !(decide (r.least≤d) && e.1 == p))=(X p).filter (fun e=>decide (p < e.1)):=by
    apply List.filter_congr
    intro e he
    have:=hX p hp e he
    rw [Bool.eq_iff_iff]
    simp only [Bool.not_eq_true',Bool.and_eq_false_iff,decide_eq_false_iff_not,beq_eq_false_iff_ne,decide_eq_true_eq]
    omega
   rw [hfil,if_neg (by omega:¬ d < r.least)]
   by_cases hc:r.most=some d
   ·rw [if_pos hc,if_pos (c1.1 hc)]
   ·rw [if_neg hc,if_neg (fun h=>hc (c1.2 h))]
    have hl:r.left (d + 1)=less (r.left d):=by
     unfold Rp.left less
     cases hmm:r.most with
     | none=>simp
     | some m=>have:=hdm m hmm; have:=hm m hmm; simp only; rw [if_neg (by omega)]; omega
    have key :∀e∈(X p).filter (fun e=>decide (p < e.1)),beh e (wgF X r f (d + 1) e.1)=beh e (fuF X r.lazy f (less (r.left d)) e.1):=by
     intro e he
     rw [List.mem_filter] at he
     rw [ih (d + 1) e.1 (hX p hp e he.1).2 (by omega) (fun m h=>by have:=hdm m h; have:m≠d:=fun h'=>hc (h' ▸ h); omega),hl]
    rw [flat_congr _ _ _ key]
theorem fu_wg {N:Nat} {X:Xs} (hX:Rng N X) (r:Rp) (hm :∀m,r.most=some m→m≤50∧r.least≤m) (q:Nat) (hq:q≤N):fuF X r.lazy (N + 1 - q) (r.left r.least) q=wg N X r r.least q:=by
 unfold wg
 rw [← wgF_fuF hX r (fun m h=>(hm m h).1) _ _ _ hq (Nat.le_refl _) (fun m h=>(hm m h).2)]
 congr 1
 unfold wgN
 omega
theorem wg_ahead {N:Nat} {X:Xs} (hX:Rng N X) (r:Rp) (hm :∀m,r.most=some m→r.least≤m) (k:Nat) :∀p,p≤N→k≤r.least→wg N X r (r.least - k) p=bnds (List.replicate k X) (wg N X r r.least) p:=by
 induction k with
 | zero=>intro p hp h; rfl
 | succ k ih =>
   intro p hp h
   rw [wg_eq hX r _ p hp,if_pos (by omega),wa,if_neg (fun h'=>by have:=hm _ h'; omega),List.replicate_succ]
   show _=bnd (X p) (bnds (List.replicate k X) (wg N X r r.least))
   have hfil:(X p).filter (fun e => !(decide (r.least≤r.least - (k + 1)) && e.1 == p))=X p:=by
    rw [List.filter_eq_self]
    intro e he
    have:¬ r.least≤r.least - (k + 1):=by omega
    simp [this]
   rw [hfil]
   unfold bnd
   refine flat_congr _ _ _ ?_
   intro e he
   rw [show r.least - (k + 1) + 1=r.least - k by omega,ih e.1 (hX p hp e he).2 (by omega)]
theorem mem_bnd {L:En} {X:Xs} {e:Nat×Ef} (h:e∈bnd L X) :∃a∈L,∃b∈X a.1,e=(b.1,eov a.2 b.2):=by
 unfold bnd at h
 rw [List.mem_flatMap] at h
 obtain ⟨a,ha,he⟩:=h
 unfold beh at he
 rw [List.mem_map] at he
 obtain ⟨b,hb,rfl⟩:=he
 exact ⟨a,ha,b,hb,rfl⟩
theorem rng_thns {N:Nat} {l:List Xs} (h :∀X∈l,Rng N X) {q:Nat} {L:En} (hL :∀e∈L,q≤e.1∧e.1≤N) :∀e∈thns L l,q≤e.1∧e.1≤N:=by
 induction l generalizing L with
 | nil=>exact hL
 | cons X l ih =>
   refine ih (fun Y hY=>h Y (by simp [hY])) (L:=thn L X) ?_
   intro e he
   obtain ⟨a,ha,b,hb,rfl⟩:=mem_bnd (dd_sub e he).1
   have h1:=hL a ha
   have h2:=h X (by simp) a.1 h1.2 b hb
   exact ⟨by show q≤b.1; omega,h2.2⟩
theorem rep_ok {N:Nat} {X:Xs} (hX:Rng N X) (r:Rp) (hm :∀m,r.most=some m→m≤50∧r.least≤m) (p:Nat) (hp:p≤N) (s:Vs):dd s (repX N r X p)=dd s (wg N X r 0 p):=by
 have h1:=wg_ahead hX r (fun m h=>(hm m h).2) r.least p hp (Nat.le_refl _)
 rw [Nat.sub_self] at h1
 rw [h1,repX,dd_dd0]
 have h2:=lin (List.replicate r.least X) [(p,eno)] (wg N X r r.least) s
 rw [bnd_one] at h2
 rw [← h2]
 have hr:=rng_thns (N:=N) (l:=List.replicate r.least X) (fun Y hY=>by rw [List.eq_of_mem_replicate hY]; exact hX) (q:=p) (L := [(p,eno)]) (fun e he=>by simp at he; subst he; simp [hp])
 unfold bnd
 congr 1
 refine flat_congr _ _ _ ?_
 intro e he
 show beh e (fuF X r.lazy (N + 1 - e.1) (r.left r.least) e.1) = _
 rw [fu_wg hX r hm e.1 (hr e he).2]
def Rp.need (r:Rp) (d:Nat):Nat:=r.least - d
def Rp.room (r:Rp) (d:Nat):Nat:=match r.most with | none=>1 | some m=>m - d + 1
theorem wg_free {N:Nat} {X:Xs} (hX:Rng N X) (r:Rp) (hn:r.most=none) (f:Nat) :∀d d' p,r.least≤d→r.least≤d'→wgF X r f d p=wgF X r f d' p:=by
 induction f with
 | zero=>intros; rfl
 | succ f ih =>
   intro d d' p h h'
   rw [wgF,wgF,hn,if_neg (by omega:¬ d < r.least),if_neg (by omega:¬ d' < r.least),if_neg (by simp:¬ (none:Option Nat)=some d),if_neg (by simp:¬ (none:Option Nat)=some d')]
   have e1:decide (r.least≤d)=true:=decide_eq_true h
   have e2:decide (r.least≤d')=true:=decide_eq_true h'
   rw [e1,e2]
   have key :∀e∈(X p).filter (fun e => !(true && e.1 == p)),beh e (wgF X r f (d + 1) e.1)=beh e (wgF X r f (d' + 1) e.1):=fun e he=>by rw [ih (d + 1) (d' + 1) e.1 (by omega) (by omega)]
   rw [flat_congr _ _ _ key]
theorem mem_beh {e f:Nat×Ef} {L:En} (h:e∈beh f L) :∃b∈L,e.1=b.1:=by
 unfold beh at h
 rw [List.mem_map] at h
 obtain ⟨b,hb,rfl⟩:=h
 exact ⟨b,hb,rfl⟩
theorem in_beh {f b:Nat×Ef} {L:En} (h:b∈L) :∃e∈beh f L,e.1=b.1:=⟨(b.1,eov f.2 b.2),List.mem_map.2 ⟨b,h,rfl⟩,rfl⟩
theorem wgF_more {X:Xs} (r:Rp) (m:Nat) (hm:r.most=some m) (f:Nat) :∀d d' p,r.least≤d→d≤d'→d'≤m→∀e∈wgF X r f d' p,∃e'∈wgF X r f d p,e'.1=e.1:=by
 induction f with
 | zero=>intro d d' p _ _ _ e he; simp [wgF] at he
 | succ f ih =>
   intro d d' p h h' h2 e he
   rw [wgF,if_neg (by omega:¬ d' < r.least)] at he
   rw [wgF,if_neg (by omega:¬ d < r.least)]
   have hag :∀e∈(if r.most=some d' then [] else ((X p).filter fun e => !(decide (r.least≤d') && e.1 == p)).flatMap fun e=>beh e (wgF X r f (d' + 1) e.1)),∃e'∈(if r.most=some d then [] else ((X p).filter fun e => !(decide (r.least≤d) && e.1 == p)).flatMap fun e=>beh e (wgF X r f (d + 1) e.1)),e'.1=e.1:=by
    intro e he
    by_cases hc:r.most=some d'
    ·rw [if_pos hc] at he; simp at he
    ·rw [if_neg hc] at he
     have hd:d' < m:=by
      have:d'≠m:=fun h=>hc (h ▸ hm)
      omega
     rw [if_neg (by rw [hm]; simp; omega)]
     rw [List.mem_flatMap] at he
     obtain ⟨a,ha,he⟩:=he
     obtain ⟨b,hb,hbe⟩:=mem_beh he
     obtain ⟨c,hc,hcb⟩:=ih (d + 1) (d' + 1) a.1 (by omega) (by omega) (by omega) b hb
     obtain ⟨z,hz,hzc⟩:=in_beh (f:=a) hc
     refine ⟨z,?_,by rw [hzc,hcb,hbe]⟩
     rw [List.mem_flatMap]
     refine ⟨a,?_,hz⟩
     rw [List.mem_filter] at ha ⊢
     refine ⟨ha.1,?_⟩
     have e1:decide (r.least≤d)=true:=decide_eq_true h
     have e2:decide (r.least≤d')=true:=decide_eq_true (by omega)
     rw [e1]; rw [e2] at ha
     exact ha.2
   cases hl:r.lazy with
   | true =>
     rw [hl] at he
     simp only [if_true] at he ⊢
     rcases List.mem_cons.1 he with rfl | he
     ·exact ⟨(p,eno),by simp,rfl⟩
     ·obtain ⟨e',h1,h2⟩:=hag e he
      exact ⟨e',List.mem_cons.2 (Or.inr h1),h2⟩
   | false =>
     rw [hl] at he
     simp only [Bool.false_eq_true,if_false] at he ⊢
     rcases List.mem_append.1 he with he | he
     ·obtain ⟨e',h1,h2⟩:=hag e he
      exact ⟨e',List.mem_append.2 (Or.inl h1),h2⟩
     ·refine ⟨(p,eno),by simp,?_⟩
      simp at he
      rw [he]
theorem wg_room {N:Nat} {X:Xs} (hX:Rng N X) (r:Rp) {d d' p:Nat} (hb :∀m,r.most=some m→r.least≤m∧d≤m∧d'≤m) (hn:r.need d'=r.need d) (hr:r.room d'≤r.room d) :
  ∀e∈wg N X r d' p,∃e'∈wg N X r d p,e'.1=e.1:=by
 unfold Rp.need at hn
 by_cases hlt:d < r.least
 ·have:d'=d:=by omega
  subst this
  exact fun e he=>⟨e,he,rfl⟩
 ·have h':r.least≤d':=by omega
  have hN:wgN N r d' p=wgN N r d p:=by unfold wgN; omega
  intro e he
  unfold wg at he ⊢
  rw [hN] at he
  cases hm:r.most with
  | none =>
    rw [wg_free hX r hm _ d' d p h' (by omega)] at he
    exact ⟨e,he,rfl⟩
  | some m =>
    unfold Rp.room at hr
    rw [hm] at hr
    simp only at hr
    obtain ⟨h1,h2,h3⟩:=hb m hm
    exact wgF_more r m hm _ d d' p (by omega) (by omega) h3 e he
def inR (rs:List (Int×Int)) (b:Int):Bool:=rs.any fun r=>decide (r.1≤b) && decide (b≤r.2)
def rpOf (c:Pc):Rp := { least:=c.min.toNat,most:=if c.max < 0 then none else some c.max.toNat,lazy:=c.lazy }
def pcX (u:ByteArray) (c:Pc) (K:Int→Xs):Xs :=
 if c.kind=1 then oneX (fun p=>decide (p < u.size) && inR c.set (bt u p))
 else if c.kind=6 then atX 0
 else if c.kind=7 then atX u.size
 else if c.kind=5 then grpX (c.num.toNat - 1) (K (c.kids.headD 0))
 else if c.kind=3 then altX (c.kids.map K)
 else if c.kind=4 then repX u.size (rpOf c) (K (c.kids.headD 0))
 else seqX (c.kids.map K)
def xno:Xs:=fun _ => []
def getX (L:List Xs) (k:Int):Xs:=L.getD k.toNat xno
def xsAdd (u:ByteArray) (L:List Xs) (c:Pc):List Xs:=L ++ [pcX u c (getX L)]
def xsOf (u:ByteArray) (ps:List Pc):List Xs:=ps.foldl (xsAdd u) []
def xOf (u:ByteArray) (ps:List Pc) (i:Nat):Xs:=(xsOf u ps).getD i xno
theorem xsOf_snoc (u:ByteArray) (ps:List Pc) (c:Pc):xsOf u (ps ++ [c])=xsOf u ps ++ [pcX u c (getX (xsOf u ps))]:=by
 simp [xsOf,List.foldl_append,xsAdd]
theorem snoc_ind {α:Type} {M:List α→Prop} (h0:M []) (h1 :∀l a,M l→M (l ++ [a])) (l:List α):M l:=by
 have :∀(r:List α),M r.reverse:=by
  intro r
  induction r with
  | nil=>exact h0
  | cons a r ih=>rw [List.reverse_cons]; exact h1 _ _ ih
 have:=this l.reverse
 rwa [List.reverse_reverse] at this
theorem xsOf_length (u:ByteArray) (ps:List Pc):(xsOf u ps).length=ps.length:=by
 refine snoc_ind (M:=fun ps=>(xsOf u ps).length=ps.length) rfl (fun l a ih=>?_) ps
 rw [xsOf_snoc]; simp [ih]
theorem xsOf_pre (u:ByteArray) (ps qs:List Pc) :∃t,xsOf u (ps ++ qs)=xsOf u ps ++ t:=by
 refine snoc_ind (M:=fun qs =>∃t,xsOf u (ps ++ qs)=xsOf u ps ++ t) ⟨[],by simp⟩ (fun l a ih=>?_) qs
 obtain ⟨t,ht⟩:=ih
 exact ⟨t ++ [pcX u a (getX (xsOf u (ps ++ l)))],by rw [← List.append_assoc,xsOf_snoc,ht,List.append_assoc]⟩
theorem xOf_pre (u:ByteArray) (ps qs:List Pc) (i:Nat) (h:i < ps.length):xOf u (ps ++ qs) i=xOf u ps i:=by
 obtain ⟨t,ht⟩:=xsOf_pre u ps qs
 unfold xOf
 rw [ht,List.getD_eq_getElem?_getD,List.getD_eq_getElem?_getD,List.getElem?_append_left (by rw [xsOf_length]; exact h)]
theorem xOf_last (u:ByteArray) (ps:List Pc) (c:Pc):xOf u (ps ++ [c]) ps.length=pcX u c (getX (xsOf u ps)):=by
 unfold xOf
 rw [xsOf_snoc,List.getD_eq_getElem?_getD,List.getElem?_append_right (by rw [xsOf_length]; exact Nat.le_refl _),xsOf_length,Nat.sub_self]
 rfl
theorem getX_of (u:ByteArray) (ps:List Pc) (k:Int):getX (xsOf u ps) k=xOf u ps k.toNat:=rfl
theorem pcX_congr (u:ByteArray) (c:Pc) (K K':Int→Xs) (h :∀k∈c.kids,K k=K' k) (h0:c.kids = []→K 0=K' 0):pcX u c K=pcX u c K':=by
 have hh:K (c.kids.headD 0)=K' (c.kids.headD 0):=by
  cases hk:c.kids with
  | nil=>exact h0 hk
  | cons a l=>exact h a (by simp [hk])
 have hm:c.kids.map K=c.kids.map K':=List.map_congr_left h
 unfold pcX
 rw [hh,hm]
theorem xOf_at (u:ByteArray) (ps:List Pc) (i:Nat) (c:Pc) (hc:ps[i]? = some c) (hk :∀k∈c.kids,0≤k∧k < (i:Int)) (h0:c.kids = []→c.kind≠4∧c.kind≠5) :
  xOf u ps i=pcX u c (fun k=>xOf u ps k.toNat):=by
 obtain ⟨hi,rfl⟩:=List.getElem?_eq_some_iff.1 hc
 have e:ps=ps.take i ++ [ps[i]] ++ ps.drop (i + 1):=by
  rw [← List.take_succ_eq_append_getElem hi,List.take_append_drop]
 have hl:(ps.take i).length=i:=by simp; omega
 have h1:xOf u ps i=pcX u ps[i] (getX (xsOf u (ps.take i))):=by
  have h2:=xOf_pre u (ps.take i ++ [ps[i]]) (ps.drop (i + 1)) i (by simp; omega)
  rw [← e] at h2
  rw [h2]
  have h3:=xOf_last u (ps.take i) ps[i]
  rw [hl] at h3
  exact h3
 rw [h1]
 have hkk :∀k∈ps[i].kids,getX (xsOf u (ps.take i)) k=xOf u ps k.toNat:=by
  intro k hk'
  have:=hk k hk'
  rw [getX_of]
  have h2:=xOf_pre u (ps.take i) (ps.drop i) k.toNat (by rw [hl]; omega)
  rw [List.take_append_drop] at h2
  rw [h2]
 by_cases hn:ps[i].kids = []
 ·obtain ⟨a,b⟩:=h0 hn
  unfold pcX
  rw [if_neg b,if_neg b,if_neg a,if_neg a,hn]
  rfl
 ·exact pcX_congr u _ _ _ hkk (fun h=>absurd h hn)
def smx (u:ByteArray) (pre:List Pc) (f:Pf):Xs:=xOf u (pre ++ f pre.length) (pre.length + (f pre.length).length - 1)
def smxs (u:ByteArray):List Pc→List Pf→List Xs
 | _,[] => []
 | pre,f :: fs=>smx u pre f :: smxs u (pre ++ f pre.length) fs
theorem smx_set (u:ByteArray) (pre:List Pc) (S:Bs):smx u pre (setPf S)=oneX (fun p=>decide (p < u.size) && inR (ranges S) (bt u p)):=by
 unfold smx setPf
 show xOf u (pre ++ [setPc S]) (pre.length + 1 - 1) = _
 rw [Nat.add_sub_cancel,xOf_last]
 rfl
theorem smx_start (u:ByteArray) (pre:List Pc):smx u pre startPf=atX 0:=by
 unfold smx startPf
 show xOf u (pre ++ [_]) (pre.length + 1 - 1) = _
 rw [Nat.add_sub_cancel,xOf_last]
 rfl
theorem smx_end (u:ByteArray) (pre:List Pc):smx u pre endPf=atX u.size:=by
 unfold smx endPf
 show xOf u (pre ++ [_]) (pre.length + 1 - 1) = _
 rw [Nat.add_sub_cancel,xOf_last]
 rfl
def Ful (f:Pf):Prop :=∀n,0 < (f n).length
theorem smx_over (u:ByteArray) (pre:List Pc) (f:Pf) (c:Nat→Pc) (hc:(c pre.length).kids = [(pre.length:Int) + (f pre.length).length - 1]) (hf:Ful f) :
  smx u pre (fun n=>f n ++ [c n])=pcX u (c pre.length) (fun _=>smx u pre f):=by
 have h0:=hf pre.length
 unfold smx
 show xOf u (pre ++ (f pre.length ++ [c pre.length])) _ = _
 rw [← List.append_assoc]
 have e:pre.length + (f pre.length ++ [c pre.length]).length - 1=(pre ++ f pre.length).length:=by simp
 rw [e,xOf_last]
 refine pcX_congr u _ _ _ ?_ (fun h=>by rw [hc] at h; simp at h)
 intro k hk
 rw [hc] at hk
 simp at hk
 subst hk
 rw [getX_of]
 congr 1
 omega
theorem ends_mem_lt {fs:List Pf} (hf :∀f∈fs,Ful f) :∀n,∀k∈ends fs n,(n:Int)≤k∧k < (n:Int) + (cat fs n).length:=by
 induction fs with
 | nil=>intro n k hk; simp [ends] at hk
 | cons f fs ih =>
   intro n k hk
   have h0:=hf f (by simp) n
   simp only [ends,List.mem_cons] at hk
   simp only [cat,List.length_append]
   rcases hk with rfl | hk
   ·omega
   ·have:=ih (fun g hg=>hf g (by simp [hg])) _ k hk
    push_cast at this ⊢
    omega
theorem ends_sem (u:ByteArray) {fs:List Pf} (hf :∀f∈fs,Ful f) :∀(pre post:List Pc),(ends fs pre.length).map (fun k=>xOf u (pre ++ cat fs pre.length ++ post) k.toNat)=smxs u pre fs:=by
 induction fs with
 | nil=>intro pre post; rfl
 | cons f fs ih =>
   intro pre post
   have h0:=hf f (by simp) pre.length
   simp only [ends,cat,smxs,List.map_cons]
   congr 1
   ·unfold smx
    have e:((pre.length:Int) + (f pre.length).length - 1).toNat=pre.length + (f pre.length).length - 1:=by omega
    rw [e]
    have:pre ++ (f pre.length ++ cat fs (pre.length + (f pre.length).length)) ++ post=(pre ++ f pre.length) ++ (cat fs (pre.length + (f pre.length).length) ++ post):=by simp
    rw [this,xOf_pre u _ _ _ (by simp; omega)]
   ·have:=ih (fun g hg=>hf g (by simp [hg])) (pre ++ f pre.length) post
    rw [List.length_append] at this
    rw [← this]
    simp
theorem smx_kids (u:ByteArray) (pre:List Pc) (fs:List Pf) (K:Int) (hf :∀f∈fs,Ful f) :
  smx u pre (fun n=>cat fs n ++ [kidsPc K (ends fs n)])=if K=3 then altX (smxs u pre fs) else if K=2 then seqX (smxs u pre fs) else smx u pre (fun n=>cat fs n ++ [kidsPc K (ends fs n)]):=by
 have key:K=3∨K=2→smx u pre (fun n=>cat fs n ++ [kidsPc K (ends fs n)])=if K=3 then altX (smxs u pre fs) else seqX (smxs u pre fs):=by
  intro hK
  unfold smx
  show xOf u (pre ++ (cat fs pre.length ++ [kidsPc K (ends fs pre.length)])) _ = _
  rw [← List.append_assoc]
  have e:pre.length + (cat fs pre.length ++ [kidsPc K (ends fs pre.length)]).length - 1=(pre ++ cat fs pre.length).length:=by simp
  rw [e,xOf_last]
  have hs:=ends_sem u hf pre []
  rw [List.append_nil] at hs
  have hm:(ends fs pre.length).map (getX (xsOf u (pre ++ cat fs pre.length)))=smxs u pre fs:=hs
  rcases hK with rfl | rfl
  ·simp [pcX,kidsPc,hm]
  ·simp [pcX,kidsPc,hm]
 by_cases h3:K=3
 ·rw [if_pos h3,key (Or.inl h3),if_pos h3]
 ·by_cases h2:K=2
  ·rw [if_neg h3,if_pos h2,key (Or.inr h2),if_neg h3]
  ·rw [if_neg h3,if_neg h2]
theorem smx_seq (u:ByteArray) (pre:List Pc) (fs:List Pf) (hf :∀f∈fs,Ful f):smx u pre (seqPf fs)=seqX (smxs u pre fs):=by
 have:=smx_kids u pre fs 2 hf
 rw [if_neg (by decide),if_pos rfl] at this
 exact this
theorem smx_alt (u:ByteArray) (pre:List Pc) (fs:List Pf) (hf :∀f∈fs,Ful f):smx u pre (altPf fs)=altX (smxs u pre fs):=by
 have:=smx_kids u pre fs 3 hf
 rw [if_pos rfl] at this
 exact this
theorem smx_rep (u:ByteArray) (pre:List Pc) (lo hi:Int) (lz:Bool) (f:Pf) (hf:Ful f):smx u pre (repPf lo hi lz f)=repX u.size { least:=lo.toNat,most:=if hi < 0 then none else some hi.toNat,lazy:=lz } (smx u pre f):=by
 unfold repPf
 rw [smx_over u pre f (fun n => { kind:=4,set := [],min:=lo,max:=hi,lazy:=lz,num:=0,kids := [(n:Int) + (f n).length - 1] }) rfl hf]
 rfl
theorem smx_grp (u:ByteArray) (pre:List Pc) (num:Int) (f:Pf) (hf:Ful f):smx u pre (grpPf num f)=grpX (num.toNat - 1) (smx u pre f):=by
 unfold grpPf
 rw [smx_over u pre f (fun n => { kind:=5,set := [],min:=0,max:=0,lazy:=false,num:=num,kids := [(n:Int) + (f n).length - 1] }) rfl hf]
 rfl
structure FgCl (P:Nat→Nat→Pf→Prop):Prop where
 set :∀(lo hi:Nat) (S:Bs),P lo hi (setPf S)
 start :∀lo hi:Nat,P lo hi startPf
 fin :∀lo hi:Nat,P lo hi endPf
 seq :∀(lo hi:Nat) (fs:List Pf),fs.length≤1000→(∀f∈fs,P lo hi f)→P lo hi (seqPf fs)
 alt :∀(lo hi:Nat) (fs:List Pf),fs.length≤1000→(∀f∈fs,P lo hi f)→P lo hi (altPf fs)
 rep :∀(lo hi:Nat) (f:Pf) (a b:Int) (lz:Bool),0≤a→a≤50→(b = -1∨a≤b)→b≤50→P lo hi f→P lo hi (repPf a b lz f)
 grp :∀(lo hi:Nat) (f:Pf),lo < hi→P (lo + 1) hi f→P lo hi (grpPf ((lo:Int) + 1) f)
 wide :∀(lo hi lo' hi':Nat) (f:Pf),lo'≤lo→hi≤hi'→P lo hi f→P lo' hi' f
def Fg (lo hi:Nat) (f:Pf):Prop :=∀P:Nat→Nat→Pf→Prop,FgCl P→P lo hi f
theorem Fg.cl:FgCl Fg :=
 ⟨fun lo hi S P c=>c.set lo hi S,fun lo hi P c=>c.start lo hi,fun lo hi P c=>c.fin lo hi,fun lo hi fs hl h P c=>c.seq lo hi fs hl fun f hf=>h f hf P c,fun lo hi fs hl h P c=>c.alt lo hi fs hl fun f hf=>h f hf P c,
  fun lo hi f a b lz h0 h1 h2 h3 h P c=>c.rep lo hi f a b lz h0 h1 h2 h3 (h P c),fun lo hi f hl h P c=>c.grp lo hi f hl (h P c),fun lo hi lo' hi' f h1 h2 h P c=>c.wide lo hi lo' hi' f h1 h2 (h P c)⟩
theorem Fg.wide {lo hi lo' hi':Nat} {f:Pf} (h:Fg lo hi f) (h1:lo'≤lo) (h2:hi≤hi'):Fg lo' hi' f:=Fg.cl.wide lo hi lo' hi' f h1 h2 h
def Good3 (s:ByteArray) (alt:Nat→Nat→Rd3):Prop :=
 ∀p g f q g',p≤s.size→s.size≤120→g≤9→alt p g = .ok (f,q,g')→g≤g'∧Fg g g' f
theorem atomRef_fg {s:ByteArray} {alt:Nat→Nat→Rd3} {room:Bool} (hs:s.size≤120) (G:Good s alt) (G2:Good3 s alt) {p g q g':Nat} {f:Pf} (hp:p < s.size) (hg:g≤9) (h:atomRef alt room s p g = .ok (f,q,g')) :
  g≤g'∧Fg g g' f:=by
 unfold atomRef at h
 split at h
 ·split at h
  ·simp at h
  ·rename_i hc
   split at h
   ·simp at h
   ·rename_i f1 q1 g1 ha
    have h1:=G2 _ _ _ _ _ (by omega) hs (by omega) ha
    split at h
    ·simp only [Except.ok.injEq,Prod.mk.injEq] at h
     obtain ⟨e1,e2,e3⟩:=h
     subst e1 e2 e3
     exact ⟨by omega,Fg.cl.grp _ _ _ (by omega) h1.2⟩
    ·simp at h
 ·repeat' (split at h)
  all_goals simp only [Except.ok.injEq,Prod.mk.injEq,reduceCtorEq] at h
  all_goals obtain ⟨h1,h2,h3⟩:=h
  all_goals subst h1 h2 h3
  all_goals first
   | exact ⟨Nat.le_refl _,Fg.cl.set _ _ _⟩
   | exact ⟨Nat.le_refl _,Fg.cl.start _ _⟩
   | exact ⟨Nat.le_refl _,Fg.cl.fin _ _⟩
theorem countsRef_b {s:ByteArray} {p q:Nat} {lo hi:Int} (hp:p≤s.size) (h:countsRef s p = .ok (lo,hi,q)):0≤lo∧lo≤50∧(hi = -1∨lo≤hi)∧hi≤50:=by
 unfold countsRef at h
 split at h
 ·simp at h
 ·rename_i h1
  have p1:=numRef_pos hp h1
  split at h
  ·simp at h
  ·split at h
   ·rename_i hb
    have hb':=bt_some hb (by omega)
    split at h
    ·simp at h
    ·rename_i h2
     have p2:=numRef_pos (by omega) h2
     split at h
     ·split at h
      ·simp only [Except.ok.injEq,Prod.mk.injEq] at h
       omega
      ·simp at h
     ·split at h
      ·simp at h
      ·split at h
       ·simp only [Except.ok.injEq,Prod.mk.injEq] at h
        omega
       ·simp at h
   ·split at h
    ·simp only [Except.ok.injEq,Prod.mk.injEq] at h
     omega
    ·simp at h
theorem cntRef_b {s:ByteArray} {q q2:Nat} {lo hi:Int} (hq:q < s.size) (h:cntRef s q = .ok (some (lo,hi),q2)):0≤lo∧lo≤50∧(hi = -1∨lo≤hi)∧hi≤50:=by
 unfold cntRef at h
 split at h
 ·simp only [Except.ok.injEq,Prod.mk.injEq,Option.some.injEq] at h; omega
 ·split at h
  ·simp only [Except.ok.injEq,Prod.mk.injEq,Option.some.injEq] at h; omega
  ·split at h
   ·simp only [Except.ok.injEq,Prod.mk.injEq,Option.some.injEq] at h; omega
   ·split at h
    ·split at h
     ·simp at h
     ·rename_i hc
      have:=countsRef_b (by omega) hc
      simp only [Except.ok.injEq,Prod.mk.injEq,Option.some.injEq] at h
      omega
    ·simp at h
theorem pieceRef_fg {s:ByteArray} {alt:Nat→Nat→Rd3} {room:Bool} (hs:s.size≤120) (G:Good s alt) (G2:Good3 s alt) {p g q g':Nat} {f:Pf} (hp:p < s.size) (hg:g≤9) (h:pieceRef alt room s p g = .ok (f,q,g')) :
  g≤g'∧Fg g g' f:=by
 unfold pieceRef at h
 split at h
 ·simp at h
 ·rename_i f1 q1 g1 ha
  have h0:=atomRef_pos G hp hg ha
  have h1:=atomRef_fg hs G G2 hp hg ha
  split at h
  ·simp at h
  ·simp only [Except.ok.injEq,Prod.mk.injEq] at h
   obtain ⟨e1,e2,e3⟩:=h
   subst e1 e2 e3
   exact h1
  ·rename_i lo hi q2 hc
   have h2:=cntRef_pos (by omega) hc
   have h3:=h2.2.2.1 (by simp)
   have h4:=cntRef_b (by omega) hc
   split at h
   ·simp only [Except.ok.injEq,Prod.mk.injEq] at h
    obtain ⟨e1,e2,e3⟩:=h
    subst e1 e2 e3
    exact ⟨h1.1,Fg.cl.rep _ _ _ _ _ _ h4.1 h4.2.1 h4.2.2.1 h4.2.2.2 h1.2⟩
   ·simp only [Except.ok.injEq,Prod.mk.injEq] at h
    obtain ⟨e1,e2,e3⟩:=h
    subst e1 e2 e3
    exact ⟨h1.1,Fg.cl.rep _ _ _ _ _ _ h4.1 h4.2.1 h4.2.2.1 h4.2.2.2 h1.2⟩
theorem seqLoop_fg {s:ByteArray} {alt:Nat→Nat→Rd3} {room:Bool} (hs:s.size≤120) (G:Good s alt) (G2:Good3 s alt) {fu p g q g' g0:Nat} {fs fs':List Pf} (hp:p≤s.size) (hg:g≤9) (h0:g0≤g)
  (hl:fs.length≤p) (hF :∀f∈fs,Fg g0 g f) (h:seqLoop alt room s fu p g fs = .ok (fs',q,g')) :
  p≤q∧g≤g'∧fs'.length≤120∧∀f∈fs',Fg g0 g' f:=by
 induction fu generalizing p g fs with
 | zero=>simp [seqLoop] at h
 | succ fu ih =>
   unfold seqLoop at h
   split at h
   ·rename_i hc
    have hp':p < s.size:=by
     apply Decidable.byContradiction; intro hn; exact hc.1 (bt_out hn)
    split at h
    ·simp at h
    ·rename_i f1 q1 g1 hpc
     have h1:=pieceRef_pos G hp' hg hpc
     have h3:=pieceRef_fg hs G G2 hp' hg hpc
     have h2:=ih (by omega) (by omega) (by omega) (by simp; omega) (fun f hf=>by
      rcases List.mem_append.1 hf with hf | hf
      ·exact (hF f hf).wide (Nat.le_refl _) h3.1
      ·simp at hf; subst hf; exact h3.2.wide h0 (Nat.le_refl _)) h
     exact ⟨by omega,by omega,h2.2.2⟩
   ·simp only [Except.ok.injEq,Prod.mk.injEq] at h
    obtain ⟨e1,e2,e3⟩:=h
    subst e1 e2 e3
    exact ⟨by omega,Nat.le_refl _,by omega,hF⟩
theorem seqRef_fg {s:ByteArray} {alt:Nat→Nat→Rd3} {room:Bool} (hs:s.size≤120) (G:Good s alt) (G2:Good3 s alt) {p g q g':Nat} {f:Pf} (hp:p≤s.size) (hg:g≤9) (h:seqRef alt room s p g = .ok (f,q,g')) :
  g≤g'∧Fg g g' f:=by
 unfold seqRef at h
 split at h
 ·simp at h
 ·rename_i fs q1 g1 hl
  have h1:=seqLoop_fg hs G G2 hp hg (Nat.le_refl g) (by simp) (by simp) hl
  simp only [Except.ok.injEq,Prod.mk.injEq] at h
  obtain ⟨e1,e2,e3⟩:=h
  subst e1 e2 e3
  exact ⟨h1.2.1,Fg.cl.seq _ _ _ (by omega) h1.2.2.2⟩
theorem altLoop_fg {s:ByteArray} {alt:Nat→Nat→Rd3} {room:Bool} (hs:s.size≤120) (G:Good s alt) (G2:Good3 s alt) {fu p g q g' g0:Nat} {fs fs':List Pf} (hp:p≤s.size) (hg:g≤9) (h0:g0≤g)
  (hl:fs.length≤p + 1) (hF :∀f∈fs,Fg g0 g f) (h:altLoop alt room s fu p g fs = .ok (fs',q,g')) :
  g≤g'∧fs'.length≤121∧∀f∈fs',Fg g0 g' f:=by
 induction fu generalizing p g fs with
 | zero=>simp [altLoop] at h
 | succ fu ih =>
   unfold altLoop at h
   split at h
   ·rename_i hb
    have hp':=bt_some hb (by omega)
    split at h
    ·simp at h
    ·rename_i f1 q1 g1 hpc
     have h1:=seqRef_pos G (by omega) hg hpc
     have h3:=seqRef_fg hs G G2 (by omega) hg hpc
     have h2:=ih (by omega) (by omega) (by omega) (by simp; omega) (fun f hf=>by
      rcases List.mem_append.1 hf with hf | hf
      ·exact (hF f hf).wide (Nat.le_refl _) h3.1
      ·simp at hf; subst hf; exact h3.2.wide h0 (Nat.le_refl _)) h
     exact ⟨by omega,h2.2⟩
   ·rename_i hb
    simp only [Except.ok.injEq,Prod.mk.injEq] at h
    obtain ⟨e1,e2,e3⟩:=h
    subst e1 e2 e3
    exact ⟨Nat.le_refl _,by omega,hF⟩
theorem altOf_good3 {s:ByteArray} {alt:Nat→Nat→Rd3} {room:Bool} (G:Good s alt) (G2:Good3 s alt):Good3 s (altOf alt room s):=by
 intro p g f q g' hp hs hg h
 unfold altOf at h
 split at h
 ·simp at h
 ·rename_i f1 q1 g1 hq
  have h1:=seqRef_pos G hp hg hq
  have h3:=seqRef_fg hs G G2 hp hg hq
  split at h
  ·rename_i hb
   split at h
   ·simp at h
   ·rename_i fs q2 g2 hl
    have h4:=altLoop_fg hs G G2 (g0:=g) (by omega) h1.2.2.1 h3.1 (by simp) (fun f hf=>by simp at hf; subst hf; exact h3.2) hl
    simp only [Except.ok.injEq,Prod.mk.injEq] at h
    obtain ⟨e1,e2,e3⟩:=h
    subst e1 e2 e3
    exact ⟨by omega,Fg.cl.alt _ _ _ (by omega) h4.2.2⟩
  ·simp only [Except.ok.injEq,Prod.mk.injEq] at h
   obtain ⟨e1,e2,e3⟩:=h
   subst e1 e2 e3
   exact h3
theorem altRef_good3 (s:ByteArray) (d:Nat):Good3 s (altRef s d):=by
 induction d with
 | zero =>
   unfold altRef
   exact altOf_good3 (fun _ _ _ _ _ _ _ h=>by simp at h) (fun _ _ _ _ _ _ _ _ h=>by simp at h)
 | succ d ih =>
   unfold altRef
   exact altOf_good3 (altRef_good s d) ih
def OkE (N lo hi p:Nat) (e:Nat×Ef):Prop:=p≤e.1∧e.1≤N∧∀i a b,e.2 i=some (a,b)→lo≤i∧i < hi∧p≤a∧a≤b∧b≤e.1
def OkX (N lo hi:Nat) (X:Xs):Prop :=∀p,p≤N→((X p).map (·.1)).Nodup∧∀e∈X p,OkE N lo hi p e
theorem OkX.rng {N lo hi:Nat} {X:Xs} (h:OkX N lo hi X):Rng N X:=fun p hp e he=>⟨((h p hp).2 e he).1,((h p hp).2 e he).2.1⟩
theorem OkE.wide {N lo hi lo' hi' p:Nat} {e:Nat×Ef} (h:OkE N lo hi p e) (h1:lo'≤lo) (h2:hi≤hi'):OkE N lo' hi' p e :=
 ⟨h.1,h.2.1,fun i a b he=>by have:=h.2.2 i a b he; omega⟩
theorem OkX.wide {N lo hi lo' hi':Nat} {X:Xs} (h:OkX N lo hi X) (h1:lo'≤lo) (h2:hi≤hi'):OkX N lo' hi' X :=
 fun p hp=>⟨(h p hp).1,fun e he=>((h p hp).2 e he).wide h1 h2⟩
theorem okE_eno {N lo hi p q:Nat} (h:p≤q) (h2:q≤N):OkE N lo hi p (q,eno):=⟨h,h2,fun i a b h=>by simp [eno] at h⟩
theorem okE_eov {N lo hi p:Nat} {e f:Nat×Ef} (h:OkE N lo hi p e) (h2:OkE N lo hi e.1 f):OkE N lo hi p (f.1,eov e.2 f.2):=by
 refine ⟨by have:=h.1; have:=h2.1; show p≤f.1; omega,h2.2.1,?_⟩
 intro i a b he
 simp only [eov,Option.or_eq_some_iff] at he
 rcases he with he | ⟨_,he⟩
 ·have:=h2.2.2 i a b he
  have:=h.1
  omega
 ·have:=h.2.2 i a b he
  have:=h2.1
  omega
theorem okE_bnd {N lo hi p:Nat} {L:En} {X:Xs} (hL :∀e∈L,OkE N lo hi p e) (hX :∀q,q≤N→∀e∈X q,OkE N lo hi q e) :∀e∈bnd L X,OkE N lo hi p e:=by
 intro e he
 obtain ⟨a,ha,b,hb,rfl⟩:=mem_bnd he
 exact okE_eov (hL a ha) (hX a.1 (hL a ha).2.1 b hb)
theorem okE_thns {N lo hi p:Nat} {l:List Xs} (h :∀X∈l,OkX N lo hi X) {L:En} (hL :∀e∈L,OkE N lo hi p e) :∀e∈thns L l,OkE N lo hi p e:=by
 induction l generalizing L with
 | nil=>exact hL
 | cons X l ih =>
   refine ih (fun Y hY=>h Y (by simp [hY])) (L:=thn L X) ?_
   intro e he
   exact okE_bnd hL (fun q hq e he=>(h X (by simp) q hq).2 e he) e (dd_sub e he).1
theorem nodup_thns {l:List Xs} {L:En} (hL:(L.map (·.1)).Nodup):((thns L l).map (·.1)).Nodup:=by
 induction l generalizing L with
 | nil=>exact hL
 | cons X l ih=>exact ih (L:=thn L X) (dd_nodup _ _)
theorem okX_one {N lo hi:Nat} {has:Nat→Bool} (h :∀p,has p=true→p < N):OkX N lo hi (oneX has):=by
 intro p hp
 unfold oneX
 split
 ·rename_i hh
  refine ⟨by simp,fun e he=>?_⟩
  simp at he; subst he
  exact okE_eno (by omega) (h p hh)
 ·exact ⟨by simp,fun e he=>by simp at he⟩
theorem okX_at {N lo hi q:Nat}:OkX N lo hi (atX q):=by
 intro p hp
 unfold atX
 split
 ·refine ⟨by simp,fun e he=>?_⟩
  simp at he; subst he
  exact okE_eno (by omega) hp
 ·exact ⟨by simp,fun e he=>by simp at he⟩
theorem okX_seq {N lo hi:Nat} {l:List Xs} (h :∀X∈l,OkX N lo hi X):OkX N lo hi (seqX l):=by
 intro p hp
 unfold seqX
 exact ⟨nodup_thns (by simp),okE_thns h (fun e he=>by simp at he; subst he; exact okE_eno (Nat.le_refl _) hp)⟩
theorem okX_alt {N lo hi:Nat} {l:List Xs} (h :∀X∈l,OkX N lo hi X):OkX N lo hi (altX l):=by
 intro p hp
 unfold altX
 refine ⟨dd_nodup _ _,fun e he=>?_⟩
 have:=(dd_sub e he).1
 rw [List.mem_flatMap] at this
 obtain ⟨X,hX,he⟩:=this
 exact (h X hX p hp).2 e he
theorem okE_fuF {N lo hi:Nat} {X:Xs} (h:OkX N lo hi X) (lz:Bool) (f:Nat) :∀left p,p≤N→∀e∈fuF X lz f left p,OkE N lo hi p e:=by
 induction f with
 | zero=>intro left p hp e he; simp [fuF] at he
 | succ f ih =>
   intro left p hp e he
   have hmore :∀e∈(if left=0 then [] else ((X p).filter fun e=>decide (p < e.1)).flatMap fun e=>beh e (fuF X lz f (less left) e.1)),OkE N lo hi p e:=by
    intro e he
    split at he
    ·simp at he
    ·rw [List.mem_flatMap] at he
     obtain ⟨a,ha,he⟩:=he
     rw [List.mem_filter] at ha
     have h1:=(h p hp).2 a ha.1
     unfold beh at he
     rw [List.mem_map] at he
     obtain ⟨b,hb,rfl⟩:=he
     exact okE_eov h1 (ih _ _ h1.2.1 b hb)
   rw [fuF] at he
   cases lz with
   | true =>
     simp only [if_true] at he
     rcases List.mem_cons.1 he with rfl | he
     ·exact okE_eno (Nat.le_refl _) hp
     ·exact hmore e he
   | false =>
     simp only [Bool.false_eq_true,if_false] at he
     rcases List.mem_append.1 he with he | he
     ·exact hmore e he
     ·simp at he; subst he; exact okE_eno (Nat.le_refl _) hp
theorem okX_rep {N lo hi:Nat} {X:Xs} (h:OkX N lo hi X) (r:Rp):OkX N lo hi (repX N r X):=by
 intro p hp
 unfold repX
 refine ⟨dd_nodup _ _,fun e he=>?_⟩
 have:=(dd_sub e he).1
 refine okE_bnd (okE_thns (l:=List.replicate r.least X) (fun Y hY=>by rw [List.eq_of_mem_replicate hY]; exact h) (L := [(p,eno)]) (fun e he=>by simp at he; subst he; exact okE_eno (Nat.le_refl _) hp)) ?_ e this
 intro q hq e he
 exact okE_fuF h r.lazy _ _ q hq e he
theorem okX_grp {N lo hi:Nat} {X:Xs} (h:OkX N (lo + 1) hi X) (hl:lo < hi):OkX N lo hi (grpX lo X):=by
 intro p hp
 unfold grpX
 refine ⟨?_,fun e he=>?_⟩
 ·rw [List.map_map]
  exact (h p hp).1
 ·rw [List.mem_map] at he
  obtain ⟨b,hb,rfl⟩:=he
  have h1:=(h p hp).2 b hb
  refine ⟨h1.1,h1.2.1,?_⟩
  intro i a c he
  simp only [est] at he
  split at he
  ·rename_i hi'
   subst hi'
   simp only [Option.some.injEq,Prod.mk.injEq] at he
   obtain ⟨rfl,rfl⟩:=he
   exact ⟨Nat.le_refl _,hl,Nat.le_refl _,h1.1,Nat.le_refl _⟩
  ·have:=h1.2.2 i a c he
   exact ⟨by omega,by omega,by omega,by omega,by show c≤b.1; omega⟩
theorem fg_ful {lo hi:Nat} {f:Pf} (h:Fg lo hi f):Ful f :=
 h (fun _ _ f=>Ful f) ⟨fun _ _ S n=>by simp [setPf],fun _ _ n=>by simp [startPf],fun _ _ n=>by simp [endPf],fun _ _ fs _ _ n=>by simp [seqPf],fun _ _ fs _ _ n=>by simp [altPf],fun _ _ f a b lz _ _ _ _ _ n=>by simp [repPf],fun _ _ f _ _ n=>by simp [grpPf],fun _ _ _ _ f _ _ h=>h⟩
theorem smxs_mem {u:ByteArray} {fs:List Pf} {M:Xs→Prop} (h :∀f∈fs,∀pre,M (smx u pre f)) :∀pre,∀X∈smxs u pre fs,M X:=by
 induction fs with
 | nil=>intro pre X hX; simp [smxs] at hX
 | cons f fs ih =>
   intro pre X hX
   simp only [smxs,List.mem_cons] at hX
   rcases hX with rfl | hX
   ·exact h f (by simp) pre
   ·exact ih (fun g hg=>h g (by simp [hg])) _ X hX
theorem fg_ok {lo hi:Nat} {f:Pf} (u:ByteArray) (h:Fg lo hi f) :∀pre,OkX u.size lo hi (smx u pre f):=by
 have hh:=h (fun lo hi f=>Ful f∧∀pre,OkX u.size lo hi (smx u pre f))
  ⟨fun lo hi S=>⟨fg_ful (Fg.cl.set lo hi S),fun pre=>by rw [smx_set]; exact okX_one (fun p hp=>by simp at hp; exact hp.1)⟩,
   fun lo hi=>⟨fg_ful (Fg.cl.start lo hi),fun pre=>by rw [smx_start]; exact okX_at⟩,
   fun lo hi=>⟨fg_ful (Fg.cl.fin lo hi),fun pre=>by rw [smx_end]; exact okX_at⟩,
   fun lo hi fs hl ih=>⟨fun n=>by simp [seqPf],fun pre=>by rw [smx_seq u pre fs (fun f hf=>(ih f hf).1)]; exact okX_seq (smxs_mem (fun f hf=>(ih f hf).2) pre)⟩,
   fun lo hi fs hl ih=>⟨fun n=>by simp [altPf],fun pre=>by rw [smx_alt u pre fs (fun f hf=>(ih f hf).1)]; exact okX_alt (smxs_mem (fun f hf=>(ih f hf).2) pre)⟩,
   fun lo hi f a b lz _ _ _ _ ih=>⟨fun n=>by simp [repPf],fun pre=>by rw [smx_rep u pre a b lz f ih.1]; exact okX_rep (ih.2 pre) _⟩,
   fun lo hi f hl ih=>⟨fun n=>by simp [grpPf],fun pre=>by
    rw [smx_grp u pre _ f ih.1]
    have:((lo:Int) + 1).toNat - 1=lo:=by omega
    rw [this]
    exact okX_grp (ih.2 pre) hl⟩,
   fun lo hi lo' hi' f h1 h2 ih=>⟨ih.1,fun pre=>(ih.2 pre).wide h1 h2⟩⟩
 exact hh.2
end Go.Proofs.YthkmmeamplmnhaaGreat
namespace Go.Proofs.YthkmmeamplmnhaaGreat
open Go.RowKit
set_option linter.unusedVariables false
structure Mt where
 ok:Bool
 fr:Int
 up:Int
 gs:List (Int×Int)
abbrev Mm:=Mt×Value
def cell4 (x:Mm):List Value := [.bool x.1.ok,.int .i64 x.1.fr,.int .i64 x.1.up,x.2]
def SpR (w:World) (v:Value) (gs:List (Int×Int)):Prop:=w.ownsRow 0 31 2 v gs.length (flatR gs)
structure Mts (w:World) (v:Value) (L:List Mm):Prop where
 row:w.ownsRow 0 29 4 v L.length (L.flatMap cell4)
 rows :∀x∈L,SpR w x.2 x.1.gs
theorem Mts.same {w w':World} {v:Value} {L:List Mm} (h:Mts w v L) (k:Keeps (fun _=>False) w w'):Mts w' v L :=
 ⟨ownsRow_keeps h.row k (fun _ _ h=>h),fun x hx=>ownsRow_keeps (h.rows x hx) k (fun _ _ h=>h)⟩
def gsOf (G:Nat) (e:Ef):List (Int×Int):=(List.range G).map fun i=>match e i with
 | none=>(-1,-1)
 | some (a,b)=>((a:Int),(b:Int))
theorem gsOf_len (G:Nat) (e:Ef):(gsOf G e).length=G:=by simp [gsOf]
theorem gsOf_none {G:Nat} {e:Ef} {k:Nat} (hk:k < G) (h:e k=none):(gsOf G e)[k]'(by rw [gsOf_len]; exact hk)=(-1,-1):=by simp [gsOf,h]
theorem gsOf_some {G:Nat} {e:Ef} {k a b:Nat} (hk:k < G) (h:e k=some (a,b)):(gsOf G e)[k]'(by rw [gsOf_len]; exact hk)=((a:Int),(b:Int)):=by simp [gsOf,h]
def mtOf (G p:Nat) (e:Nat×Ef):Mt := { ok:=true,fr:=p,up:=e.1,gs:=gsOf G e.2 }
theorem Tryz.infoMatch:(Tryz.prog.info? 29).map (fun i=>(i.zero,i.size,i.bytes))=some (some (.agg #[.bool false,.int .i64 0,.int .i64 0,.slice none 0 0]),4,48):=by kernel_rfl
theorem Tryz.infoSpan3:(Tryz.prog.info? 31).map (fun i=>(i.zero,i.size,i.bytes))=some (some (.agg #[.int .i64 0,.int .i64 0]),2,16):=by kernel_rfl
theorem flatR_snoc (l:List (Int×Int)) (r:Int×Int):flatR (l ++ [r])=flatR l ++ [.int .i64 r.1,.int .i64 r.2]:=by simp [flatR]
theorem app_span {w:World} {base:Nat} {v:Value} {gs:List (Int×Int)} (h:w.ownsRow base 31 2 v gs.length (flatR gs)) (hb:base≤w.heap.size) (hl:gs.length≤1000) (x y:Int) :
  ∃v' w',Sem.run Tryz.prog (Builtin.append_ #[27,27] 27 #[v,.slice (some ⟨w.heap.size,0,none⟩) 1 1]) (w.alloc (.cells #[.int .i64 x,.int .i64 y] 31)) = .ok v' w'∧w'.ownsRow base 31 2 v' (gs ++ [(x,y)]).length (flatR (gs ++ [(x,y)]))∧Keeps (fun k=>v.ownBlock=some k) w w':=by
 obtain ⟨i0,hi,hz0,hz1,hz2⟩:=info_parts Tryz.infoSpan3
 obtain ⟨v',w3,hrun,ho,hgr,hbk⟩:=app_any (P:=Tryz.prog) (w.alloc (.cells #[.int .i64 x,.int .i64 y] 31)) base 27 27 31 i0 _ 2 16 Tryz.underlying27 hi hz0 hz1 hz2 rfl (by decide) v gs.length _ (h.alloc _)
  ⟨w.heap.size,0,none⟩ 1 1 [.int .i64 x,.int .i64 y] rfl (cells_new w _ _) (by intro u hu; simp at hu; rcases hu with rfl | rfl <;> rfl) (by unfold maxLen; omega) (by omega) (by simp; omega)
 refine ⟨v',w3,hrun,?_,((Keeps.refl _ w).alloc _).grown hgr (fun k hk _=>hk)⟩
 rw [flatR_snoc,List.length_append]
 exact ho
theorem app_match {w:World} {base:Nat} {v:Value} {L:List Mm} (h:w.ownsRow base 29 4 v L.length (L.flatMap cell4)) (hb:base≤w.heap.size) (hl:L.length≤100000) (x:Mm) {ag:Option Addr} {ng cg:Nat} (hx:x.2 = .slice ag ng cg) :
  ∃v' w',Sem.run Tryz.prog (Builtin.append_ #[25,25] 25 #[v,.slice (some ⟨w.heap.size,0,none⟩) 1 1]) (w.alloc (.cells #[.bool x.1.ok,.int .i64 x.1.fr,.int .i64 x.1.up,x.2] 29)) = .ok v' w'∧w'.ownsRow base 29 4 v' (L ++ [x]).length ((L ++ [x]).flatMap cell4)∧Keeps (fun k=>v.ownBlock=some k) w w':=by
 obtain ⟨i0,hi,hz0,hz1,hz2⟩:=info_parts Tryz.infoMatch
 obtain ⟨v',w3,hrun,ho,hgr,hbk⟩:=app_any (P:=Tryz.prog) (w.alloc (.cells #[.bool x.1.ok,.int .i64 x.1.fr,.int .i64 x.1.up,x.2] 29)) base 25 25 29 i0 _ 4 48 Tryz.underlying25 hi hz0 hz1 hz2 rfl (by decide) v L.length _ (h.alloc _)
  ⟨w.heap.size,0,none⟩ 1 1 (cell4 x) rfl (cells_new w _ _) (by intro u hu; simp [cell4,hx] at hu; rcases hu with rfl | rfl | rfl | rfl <;> rfl) (by unfold maxLen; omega) (by omega) (by simp; omega)
 refine ⟨v',w3,hrun,?_,((Keeps.refl _ w).alloc _).grown hgr (fun k hk _=>hk)⟩
 rw [List.flatMap_append,List.length_append]
 simpa using ho
end Go.Proofs.YthkmmeamplmnhaaGreat
