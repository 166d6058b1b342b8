import Derived.Test.YtfkflljplohhcaaGreatDoorA
import Derived.Test.YtfkflljplohhcaaGreatDoorB
namespace Go.Proofs.YtfkflljplohhcaaGreatDoor
set_option linter.unusedVariables false
abbrev Vs:=Nat->Bool
def sno:Vs:=fun _=>false
def sad (s:Vs) (p:Nat):Vs:=fun x=>s x || x == p
def sal {α:Type} (s:Vs) (L:List (Nat×α)):Vs:=fun x=>s x || L.any (fun e=>e.1 == x)
def dd {α:Type}:Vs->List (Nat×α)->List (Nat×α)
 | _,[] => []
 | s,e :: L=>if s e.1 then dd s L else e :: dd (sad s e.1) L
section
variable {α β:Type}
theorem Zh3 {s:Vs} {p:Nat} (h:s p=true):sad s p=s:=by
 funext x
 unfold sad
 by_cases hx:x=p
 ·subst hx; simp [h]
 ·simp [hx]
theorem Q1 (s:Vs):sal s ([]:List (Nat×α))=s:=by funext x; simp [sal]
theorem Zay (s:Vs) (e:Nat×α) (L:List (Nat×α)):sal s (e :: L)=sal (sad s e.1) L:=by
 funext x
 have:(e.1 == x)=(x == e.1):=by rw [Bool.eq_iff_iff,beq_iff_eq,beq_iff_eq]; exact eq_comm
 simp only [sal,sad,List.any_cons,this,Bool.or_assoc]
theorem JK (s:Vs) (L M:List (Nat×α)):sal s (L ++ M)=sal (sal s L) M:=by
 funext x
 simp [sal,Bool.or_assoc]
theorem Zaw (s:Vs) (L:List (Nat×α)) (x:Nat) (h:s x=true):sal s L x=true:=by simp [sal,h]
theorem Zax {s:Vs} {L:List (Nat×α)} {e:Nat×α} (h:e∈L):sal s L e.1=true:=by
 simp only [sal,Bool.or_eq_true,List.any_eq_true];exact Or.inr ⟨e,h,by simp⟩
theorem ZeB {s:Vs} {L:List (Nat×α)} {x:Nat}:sal s L x=true↔s x=true\/∃e∈L,e.1=x:=by
 simp only [sal,Bool.or_eq_true,List.any_eq_true,beq_iff_eq]
theorem Zh1 {s:Vs} {L:List (Nat×α)} {M:List (Nat×β)} (h:L.map (·.1)=M.map (·.1)):sal s L=sal s M:=by
 induction L generalizing s M with
 | nil=>cases M with
   | nil=>rw [Q1,Q1]
   | cons b M=>simp at h
 | cons a L ih=>cases M with
   | nil=>simp at h
   | cons b M =>
     simp only [List.map_cons,List.cons.injEq] at h;rw [Zay,Zay,h.1];exact ih h.2
theorem ZnD {s:Vs} {L:List (Nat×α)} (h :∀e∈L,s e.1=true):sal s L=s:=by
 funext x
 rw [Bool.eq_iff_iff,ZeB];exact ⟨fun h1=>h1.elim id (fun ⟨e,he,hx⟩=>hx ▸ h e he),Or.inl⟩
theorem ZpR (s:Vs):dd s ([]:List (Nat×α)) = []:=rfl
theorem Qm {s:Vs} {e:Nat×α} {L:List (Nat×α)} (h:s e.1=true):dd s (e :: L)=dd s L:=by rw [dd,if_pos h]
theorem Qd {s:Vs} {e:Nat×α} {L:List (Nat×α)} (h:s e.1=false):dd s (e :: L)=e :: dd (sad s e.1) L:=by rw [dd,if_neg (by simp [h])]
theorem Ju (s:Vs) (L M:List (Nat×α)):dd s (L ++ M)=dd s L ++ dd (sal s L) M:=by
 induction L generalizing s with
 | nil=>simp [dd,Q1]
 | cons e L ih =>
   rw [List.cons_append,Zay]
   by_cases h:s e.1=true
   ·rw [Qm h,Qm h,ih,Zh3 h]
   ·simp only [Bool.not_eq_true] at h;rw [Qd h,Qd h,ih,List.cons_append]
theorem Zcq (s:Vs) (L:List (Nat×α)):sal s (dd s L)=sal s L:=by
 induction L generalizing s with
 | nil=>rw [ZpR]
 | cons e L ih =>
   by_cases h:s e.1=true
   ·rw [Qm h,Zay,Zh3 h,ih]
   ·simp only [Bool.not_eq_true] at h;rw [Qd h,Zay,Zay,ih]
theorem Zch {s:Vs} {L:List (Nat×α)} (h :∀e∈L,s e.1=true):dd s L = []:=by
 induction L generalizing s with
 | nil=>rfl
 | cons e L ih=>rw [Qm (h e (by simp))]; exact ih (fun e he=>h e (by simp [he]))
theorem Zdr {s:Vs} {L:List (Nat×α)} :∀e∈dd s L,e∈L/\s e.1=false:=by
 induction L generalizing s with
 | nil=>intro e he; simp [dd] at he
 | cons a L ih =>
   intro e he
   by_cases h:s a.1=true
   ·rw [Qm h] at he;obtain ⟨h1,h2⟩:=ih e he;exact ⟨by simp [h1],h2⟩
   ·simp only [Bool.not_eq_true] at h;rw [Qd h] at he
    rcases List.mem_cons.1 he with rfl | he
    ·exact ⟨by simp,h⟩
    ·obtain ⟨h1,h2⟩:=ih e he;refine ⟨by simp [h1],?_⟩;simp only [sad,Bool.or_eq_false_iff] at h2;exact h2.1
theorem Zsg (s:Vs) (g:Nat×α->Nat×β) (hg :∀e,(g e).1=e.1) (L:List (Nat×α)):dd s (L.map g)=(dd s L).map g:=by
 induction L generalizing s with
 | nil=>rfl
 | cons e L ih =>
   rw [List.map_cons]
   by_cases h:s e.1=true
   ·rw [Qm (by rw [hg]; exact h),Qm h,ih]
   ·simp only [Bool.not_eq_true] at h;rw [Qd (by rw [hg]; exact h),Qd h,ih,List.map_cons,hg]
theorem Zmd (F:Nat×α->List (Nat×β)) (hF :∀a b,a.1=b.1->(F a).map (·.1)=(F b).map (·.1)) (L:List (Nat×α)) (s t:Vs) (ht :∀a,t a.1=true->∀x∈F a,s x.1=true) :
  dd s ((dd t L).flatMap F)=dd s (L.flatMap F):=by
 induction L generalizing s t with
 | nil=>rfl
 | cons e L ih =>
   rw [List.flatMap_cons]
   by_cases h:t e.1=true
   ·rw [Qm h,Ju,Zch (ht e h),List.nil_append,ZnD (ht e h)];exact ih s t ht
   ·simp only [Bool.not_eq_true] at h;rw [Qd h,List.flatMap_cons,Ju,Ju]
    congr 1
    refine ih _ _ ?_;intro a ha x hx;simp only [sad,Bool.or_eq_true,beq_iff_eq] at ha
    rcases ha with ha | ha
    ·exact Zaw _ _ _ (ht a ha x hx)
    ·rw [<- Zh1 (hF a e ha)];exact Zax hx
theorem Zit (F:Nat×α->List (Nat×β)) (hF :∀a b,a.1=b.1->(F a).map (·.1)=(F b).map (·.1)) (L:List (Nat×α)) (s:Vs) :
  dd s ((dd sno L).flatMap F)=dd s (L.flatMap F):=Zmd F hF L s sno (fun a h=>by simp [sno] at h)
theorem Ztc (s t:Vs) (h :∀x,t x=true->s x=true) (L:List (Nat×α)):dd s (dd t L)=dd s L:=by
 have:=Zmd (fun a:Nat×α => [a]) (fun a b h=>by simp [h]) L s t (fun a ha x hx=>by simp at hx; subst hx; exact h _ ha)
 simpa using this
theorem Zsi (s:Vs) (L:List (Nat×α)):dd s (dd sno L)=dd s L:=Ztc s sno (fun x h=>by simp [sno] at h) L
theorem ZkG {s:Vs} {L M:List (Nat×α)} (h:dd s L=dd s M):sal s L=sal s M:=by rw [<- Zcq s L,h,Zcq]
theorem ZcO (s:Vs) (L:List (Nat×α)):((dd s L).map (·.1)).Nodup:=by
 induction L generalizing s with
 | nil=>simp [dd]
 | cons e L ih =>
   by_cases h:s e.1=true
   ·rw [Qm h]; exact ih s
   ·simp only [Bool.not_eq_true] at h;rw [Qd h,List.map_cons,List.nodup_cons];refine ⟨?_,ih _⟩;intro hm;obtain ⟨x,hx,he⟩:=List.mem_map.1 hm
    have:=(Zdr x hx).2
    simp [sad,he] at this
theorem Zsh {L:List (Nat×α)} {s:Vs} (h:(L.map (·.1)).Nodup) (hs :∀e∈L,s e.1=false):dd s L=L:=by
 induction L generalizing s with
 | nil=>rfl
 | cons e L ih =>
   rw [List.map_cons,List.nodup_cons] at h;rw [Qd (hs e (by simp)),ih h.2];intro x hx;simp only [sad,Bool.or_eq_false_iff,hs x (by simp [hx]),true_and];simp only [beq_eq_false_iff_ne];intro he;exact h.1 (he ▸ List.mem_map_of_mem hx)
end
abbrev Ef:=Nat->Option (Nat×Nat)
def eno:Ef:=fun _=>none
def eov (a b:Ef):Ef:=fun i=>(b i).or (a i)
def est (e:Ef) (n:Nat) (x:Nat×Nat):Ef:=fun i=>if i=n then some x else e i
theorem Zhi (a:Ef):eov a eno=a:=by funext i; simp [eov,eno]
theorem ZqV (a:Ef):eov eno a=a:=by funext i; simp [eov,eno]
theorem Zf5 (a b c:Ef):eov (eov a b) c=eov a (eov b c):=by funext i; simp [eov,Option.or_assoc]
abbrev En:=List (Nat×Ef)
abbrev Xs:=Nat->En
def beh (e:Nat×Ef) (L:En):En:=L.map fun f=>(f.1,eov e.2 f.2)
def bnd (L:En) (X:Xs):En:=L.flatMap fun e=>beh e (X e.1)
def thn (L:En) (X:Xs):En:=dd sno (bnd L X)
def Zfm (L:En) (l:List Xs):En:=l.foldl thn L
def ZsQ:List Xs->Xs->Xs
 | [],Y=>Y
 | X :: l,Y=>fun p=>bnd (X p) (ZsQ l Y)
theorem Zei (e:Nat×Ef) (L:En):(beh e L).map (·.1)=L.map (·.1):=by simp [beh]
theorem Zq8 (p:Nat) (L:En):beh (p,eno) L=L:=by simp [beh,ZqV]
theorem ZjR (e:Nat×Ef) (L M:En):beh e (L ++ M)=beh e L ++ beh e M:=by simp [beh]
theorem Zq9 (a b:Nat×Ef) (p:Nat) (L:En):beh a (beh b L)=beh (p,eov a.2 b.2) L:=by
 simp [beh,Zf5]
theorem ZiE (e:Nat×Ef) {α:Type} (L:List α) (F : α->En):beh e (L.flatMap F)=L.flatMap fun a=>beh e (F a):=by
 simp [beh,List.map_flatMap]
theorem Zq1 (p:Nat) (X:Xs):bnd [(p,eno)] X=X p:=by simp [bnd,Zq8]
theorem ZjP (L M:En) (X:Xs):bnd (L ++ M) X=bnd L X ++ bnd M X:=by simp [bnd]
theorem Zq2 (X:Xs):bnd [] X = []:=rfl
theorem Zo1 (e:Nat×Ef) (L:En) (X:Xs):bnd (e :: L) X=beh e (X e.1) ++ bnd L X:=by simp [bnd]
theorem Zq4 (e:Nat×Ef) (L:En) (X:Xs):bnd (beh e L) X=beh e (bnd L X):=by
 unfold bnd;rw [ZiE];unfold beh;rw [List.flatMap_map]
 congr 1
 funext a
 simp [Zf5]
theorem Zq3 (L:En) (X Y:Xs):bnd (bnd L X) Y=bnd L (fun p=>bnd (X p) Y):=by
 unfold bnd;rw [List.flatMap_assoc]
 congr 1
 funext a
 exact Zq4 a (X a.1) Y
theorem Zo6 (X:Xs) (a b:Nat×Ef) (h:a.1=b.1):(beh a (X a.1)).map (·.1)=(beh b (X b.1)).map (·.1):=by
 rw [Zei,Zei,h]
theorem Zsj (s:Vs) (L:En) (X:Xs):dd s (bnd (dd sno L) X)=dd s (bnd L X) :=
 Zit (fun e=>beh e (X e.1)) (Zo6 X) L s
theorem lin (l:List Xs) (L:En) (Y:Xs) (s:Vs):dd s (bnd (Zfm L l) Y)=dd s (bnd L (ZsQ l Y)):=by
 induction l generalizing L with
 | nil=>rfl
 | cons X l ih =>
   show dd s (bnd (Zfm (thn L X) l) Y) = _;rw [ih,thn,Zsj,Zq3];rfl
def ZpA (l:List Xs):Xs:=fun p=>Zfm [(p,eno)] l
def Zj5 (l:List Xs):Xs:=fun p=>dd sno (l.flatMap (· p))
def Zm8 (n:Nat) (X:Xs):Xs:=fun p=>(X p).map fun f=>(f.1,est f.2 n (p,f.1))
def ZpG (has:Nat->Bool):Xs:=fun p=>if has p then [(p + 1,eno)] else []
def atX (q:Nat):Xs:=fun p=>if p=q then [(p,eno)] else []
structure Rp where
 least:Nat
 most:Option Nat
 lazy:Bool
def less (left:Nat):Nat:=if 50 < left then left else left - 1
def fuF (X:Xs) (lazy:Bool):Nat->Nat->Nat->En
 | 0,_,_ => []
 | f + 1,left,p =>
   let more:=if left=0 then [] else ((X p).filter fun e=>decide (p < e.1)).flatMap fun e=>beh e (fuF X lazy f (less left) e.1)
   if lazy then (p,eno) :: more else more ++ [(p,eno)]
def Rp.left (r:Rp) (d:Nat):Nat:=match r.most with | none=>51 | some m=>m - d
def ZkM (N:Nat) (r:Rp) (X:Xs):Xs:=fun p=>dd sno (bnd (Zfm [(p,eno)] (List.replicate r.least X)) fun q=>fuF X r.lazy (N + 1 - q) (r.left r.least) q)
def Rng (N:Nat) (X:Xs):Prop :=∀p,p<=N->∀e∈X p,p<=e.1/\e.1<=N
def wgF (X:Xs) (r:Rp):Nat->Nat->Nat->En
 | 0,_,_ => []
 | f + 1,d,p =>
   let ag:=if r.most=some d then [] else ((X p).filter fun e => !(decide (r.least<=d) && e.1 == p)).flatMap fun e=>beh e (wgF X r f (d + 1) e.1)
   if d < r.least then ag else if r.lazy then (p,eno) :: ag else ag ++ [(p,eno)]
def wgN (N:Nat) (r:Rp) (d p:Nat):Nat:=(r.least - d) + (N + 1 - p)
def wg (N:Nat) (X:Xs) (r:Rp) (d p:Nat):En:=wgF X r (wgN N r d p) d p
def wa (N:Nat) (X:Xs) (r:Rp) (d p:Nat):En:=if r.most=some d then [] else ((X p).filter fun e => !(decide (r.least<=d) && e.1 == p)).flatMap fun e=>beh e (wg N X r (d + 1) e.1)
theorem QG {α β:Type} (L:List α) (F G : α->List β) (h :∀a∈L,F a=G a):L.flatMap F=L.flatMap G:=by
 induction L with
 | nil=>rfl
 | cons a L ih=>rw [List.flatMap_cons,List.flatMap_cons,h a (by simp),ih (fun b hb=>h b (by simp [hb]))]
theorem Zp6 {N:Nat} {X:Xs} (hX:Rng N X) (r:Rp) (f:Nat) :∀f' d p,p<=N->wgN N r d p<=f->wgN N r d p<=f'->wgF X r f d p=wgF X r f' d p:=by
 induction f with
 | zero=>intro f' d p hp h; unfold wgN at h; omega
 | succ f ih =>
   intro f' d p hp h h';obtain ⟨m,rfl⟩ :∃m,f'=m + 1:=⟨f' - 1,by unfold wgN at *; omega⟩;rw [wgF,wgF];have key :∀e∈(X p).filter (fun e => !(decide (r.least<=d) && e.1 == p)),beh e (wgF X r f (d + 1) e.1)=beh e (wgF X r m (d + 1) e.1):=by
    intro e he;rw [List.mem_filter] at he;obtain ⟨he,hc⟩:=he;obtain ⟨h1,h2⟩:=hX p hp e he;simp only [Bool.not_eq_true',Bool.and_eq_false_iff,decide_eq_false_iff_not,beq_eq_false_iff_ne] at hc;have hlt:wgN N r (d + 1) e.1 + 1<=wgN N r d p:=by unfold wgN at *; omega
    rw [ih m _ _ h2 (by omega) (by omega)]
   rw [QG _ _ _ key]
theorem ZrB {N:Nat} {X:Xs} (hX:Rng N X) (r:Rp) (d p:Nat) (hp:p<=N) :
  wg N X r d p=if d < r.least then wa N X r d p else if r.lazy then (p,eno) :: wa N X r d p else wa N X r d p ++ [(p,eno)]:=by
 unfold wg;obtain ⟨m,hm⟩ :∃m,wgN N r d p=m + 1:=⟨wgN N r d p - 1,by unfold wgN at *; omega⟩;rw [hm,wgF];have key :∀e∈(X p).filter (fun e => !(decide (r.least<=d) && e.1 == p)),beh e (wgF X r m (d + 1) e.1)=beh e (wg N X r (d + 1) e.1):=by
  intro e he;rw [List.mem_filter] at he;obtain ⟨he,hc⟩:=he;obtain ⟨h1,h2⟩:=hX p hp e he;simp only [Bool.not_eq_true',Bool.and_eq_false_iff,decide_eq_false_iff_not,beq_eq_false_iff_ne] at hc;have hlt:wgN N r (d + 1) e.1 + 1<=wgN N r d p:=by unfold wgN at *; omega
  unfold wg;rw [Zp6 hX r m (wgN N r (d + 1) e.1) _ _ h2 (by omega) (by omega)]
 rw [QG _ _ _ key];rfl
theorem Zp7 {N:Nat} {X:Xs} (hX:Rng N X) (r:Rp) (hm :∀m,r.most=some m->m<=50) (f:Nat) :∀d p,p<=N->r.least<=d->(∀m,r.most=some m->d<=m)->wgF X r f d p=fuF X r.lazy f (r.left d) p:=by
 induction f with
 | zero=>intro d p hp hd hdm; rfl
 | succ f ih =>
   intro d p hp hd hdm;rw [wgF,fuF];have c1:(r.most=some d)↔(r.left d=0):=by
    unfold Rp.left
    cases hmm:r.most with
    | none=>simp
    | some m=>have:=hdm m hmm; simp; omega
   have hfil:(X p).filter (fun e => !(decide (r.least<=d) && e.1 == p))=(X p).filter (fun e=>decide (p < e.1)):=by
    apply List.filter_congr;intro e he
    have:=hX p hp e he
    rw [Bool.eq_iff_iff];simp only [Bool.not_eq_true',Bool.and_eq_false_iff,decide_eq_false_iff_not,beq_eq_false_iff_ne,decide_eq_true_eq];omega
   rw [hfil,if_neg (by omega:¬ d < r.least)]
   by_cases hc:r.most=some d
   ·rw [if_pos hc,if_pos (c1.1 hc)]
   ·rw [if_neg hc,if_neg (fun h=>hc (c1.2 h))];have hl:r.left (d + 1)=less (r.left d):=by
     unfold Rp.left less
     cases hmm:r.most with
     | none=>simp
     | some m=>have:=hdm m hmm; have:=hm m hmm; simp only; rw [if_neg (by omega)]; omega
    have key :∀e∈(X p).filter (fun e=>decide (p < e.1)),beh e (wgF X r f (d + 1) e.1)=beh e (fuF X r.lazy f (less (r.left d)) e.1):=by
     intro e he;rw [List.mem_filter] at he;rw [ih (d + 1) e.1 (hX p hp e he.1).2 (by omega) (fun m h=>by have:=hdm m h; have:m≠d:=fun h'=>hc (h' ▸ h); omega),hl]
    rw [QG _ _ _ key]
theorem Zs2 {N:Nat} {X:Xs} (hX:Rng N X) (r:Rp) (hm :∀m,r.most=some m->m<=50/\r.least<=m) (q:Nat) (hq:q<=N):fuF X r.lazy (N + 1 - q) (r.left r.least) q=wg N X r r.least q:=by
 unfold wg;rw [<- Zp7 hX r (fun m h=>(hm m h).1) _ _ _ hq (Nat.le_refl _) (fun m h=>(hm m h).2)]
 congr 1
 unfold wgN;omega
theorem Znj {N:Nat} {X:Xs} (hX:Rng N X) (r:Rp) (hm :∀m,r.most=some m->r.least<=m) (k:Nat) :∀p,p<=N->k<=r.least->wg N X r (r.least - k) p=ZsQ (List.replicate k X) (wg N X r r.least) p:=by
 induction k with
 | zero=>intro p hp h; rfl
 | succ k ih =>
   intro p hp h;rw [ZrB hX r _ p hp,if_pos (by omega),wa,if_neg (fun h'=>by have:=hm _ h'; omega),List.replicate_succ];show _=bnd (X p) (ZsQ (List.replicate k X) (wg N X r r.least));have hfil:(X p).filter (fun e => !(decide (r.least<=r.least - (k + 1)) && e.1 == p))=X p:=by
    rw [List.filter_eq_self];intro e he
    have:¬ r.least<=r.least - (k + 1):=by omega
    simp [this]
   rw [hfil];unfold bnd;refine QG _ _ _ ?_;intro e he;rw [show r.least - (k + 1) + 1=r.least - k by omega,ih e.1 (hX p hp e he).2 (by omega)]
theorem Zlj {L:En} {X:Xs} {e:Nat×Ef} (h:e∈bnd L X) :∃a∈L,∃b∈X a.1,e=(b.1,eov a.2 b.2):=by
 unfold bnd at h;rw [List.mem_flatMap] at h;obtain ⟨a,ha,he⟩:=h;unfold beh at he;rw [List.mem_map] at he;obtain ⟨b,hb,rfl⟩:=he;exact ⟨a,ha,b,hb,rfl⟩
theorem ZnG {N:Nat} {l:List Xs} (h :∀X∈l,Rng N X) {q:Nat} {L:En} (hL :∀e∈L,q<=e.1/\e.1<=N) :∀e∈Zfm L l,q<=e.1/\e.1<=N:=by
 induction l generalizing L with
 | nil=>exact hL
 | cons X l ih =>
   refine ih (fun Y hY=>h Y (by simp [hY])) (L:=thn L X) ?_;intro e he;obtain ⟨a,ha,b,hb,rfl⟩:=Zlj (Zdr e he).1;have h1:=hL a ha;have h2:=h X (by simp) a.1 h1.2 b hb;exact ⟨by show q<=b.1; omega,h2.2⟩
theorem ZrR {N:Nat} {X:Xs} (hX:Rng N X) (r:Rp) (hm :∀m,r.most=some m->m<=50/\r.least<=m) (p:Nat) (hp:p<=N) (s:Vs):dd s (ZkM N r X p)=dd s (wg N X r 0 p):=by
 have h1:=Znj hX r (fun m h=>(hm m h).2) r.least p hp (Nat.le_refl _);rw [Nat.sub_self] at h1;rw [h1,ZkM,Zsi];have h2:=lin (List.replicate r.least X) [(p,eno)] (wg N X r r.least) s;rw [Zq1] at h2;rw [<- h2];have hr:=ZnG (N:=N) (l:=List.replicate r.least X) (fun Y hY=>by rw [List.eq_of_mem_replicate hY]; exact hX) (q:=p) (L := [(p,eno)]) (fun e he=>by simp at he; subst he; simp [hp]);unfold bnd
 congr 1
 refine QG _ _ _ ?_;intro e he;show beh e (fuF X r.lazy (N + 1 - e.1) (r.left r.least) e.1) = _;rw [Zs2 hX r hm e.1 (hr e he).2]
def Rp.need (r:Rp) (d:Nat):Nat:=r.least - d
def Rp.room (r:Rp) (d:Nat):Nat:=match r.most with | none=>1 | some m=>m - d + 1
theorem Zkf {N:Nat} {X:Xs} (hX:Rng N X) (r:Rp) (hn:r.most=none) (f:Nat) :∀d d' p,r.least<=d->r.least<=d'->wgF X r f d p=wgF X r f d' p:=by
 induction f with
 | zero=>intros; rfl
 | succ f ih =>
   intro d d' p h h';rw [wgF,wgF,hn,if_neg (by omega:¬ d < r.least),if_neg (by omega:¬ d' < r.least),if_neg (by simp:¬ (none:Option Nat)=some d),if_neg (by simp:¬ (none:Option Nat)=some d')];have e1:decide (r.least<=d)=true:=decide_eq_true h;have e2:decide (r.least<=d')=true:=decide_eq_true h';rw [e1,e2];have key :∀e∈(X p).filter (fun e => !(true && e.1 == p)),beh e (wgF X r f (d + 1) e.1)=beh e (wgF X r f (d' + 1) e.1):=fun e he=>by rw [ih (d + 1) (d' + 1) e.1 (by omega) (by omega)]
   rw [QG _ _ _ key]
theorem Zlk {e f:Nat×Ef} {L:En} (h:e∈beh f L) :∃b∈L,e.1=b.1:=by
 unfold beh at h;rw [List.mem_map] at h;obtain ⟨b,hb,rfl⟩:=h;exact ⟨b,hb,rfl⟩
theorem ZpN {f b:Nat×Ef} {L:En} (h:b∈L) :∃e∈beh f L,e.1=b.1:=⟨(b.1,eov f.2 b.2),List.mem_map.2 ⟨b,h,rfl⟩,rfl⟩
theorem Znk {X:Xs} (r:Rp) (m:Nat) (hm:r.most=some m) (f:Nat) :∀d d' p,r.least<=d->d<=d'->d'<=m->∀e∈wgF X r f d' p,∃e'∈wgF X r f d p,e'.1=e.1:=by
 induction f with
 | zero=>intro d d' p _ _ _ e he; simp [wgF] at he
 | succ f ih =>
   intro d d' p h h' h2 e he;rw [wgF,if_neg (by omega:¬ d' < r.least)] at he;rw [wgF,if_neg (by omega:¬ d < r.least)];have hag :∀e∈(if r.most=some d' then [] else ((X p).filter fun e => !(decide (r.least<=d') && e.1 == p)).flatMap fun e=>beh e (wgF X r f (d' + 1) e.1)),∃e'∈(if r.most=some d then [] else ((X p).filter fun e => !(decide (r.least<=d) && e.1 == p)).flatMap fun e=>beh e (wgF X r f (d + 1) e.1)),e'.1=e.1:=by
    intro e he
    by_cases hc:r.most=some d'
    ·rw [if_pos hc] at he; simp at he
    ·rw [if_neg hc] at he;have hd:d' < m:=by
      have:d'≠m:=fun h=>hc (h ▸ hm)
      omega
     rw [if_neg (by rw [hm]; simp; omega)];rw [List.mem_flatMap] at he;obtain ⟨a,ha,he⟩:=he;obtain ⟨b,hb,hbe⟩:=Zlk he;obtain ⟨c,hc,hcb⟩:=ih (d + 1) (d' + 1) a.1 (by omega) (by omega) (by omega) b hb;obtain ⟨z,hz,hzc⟩:=ZpN (f:=a) hc;refine ⟨z,?_,by rw [hzc,hcb,hbe]⟩;rw [List.mem_flatMap];refine ⟨a,?_,hz⟩;rw [List.mem_filter] at ha ⊢;refine ⟨ha.1,?_⟩;have e1:decide (r.least<=d)=true:=decide_eq_true h;have e2:decide (r.least<=d')=true:=decide_eq_true (by omega);rw [e1]; rw [e2] at ha;exact ha.2
   cases hl:r.lazy with
   | true =>
     rw [hl] at he;simp only [if_true] at he ⊢
     rcases List.mem_cons.1 he with rfl | he
     ·exact ⟨(p,eno),by simp,rfl⟩
     ·obtain ⟨e',h1,h2⟩:=hag e he;exact ⟨e',List.mem_cons.2 (Or.inr h1),h2⟩
   | false =>
     rw [hl] at he;simp only [Bool.false_eq_true,if_false] at he ⊢
     rcases List.mem_append.1 he with he | he
     ·obtain ⟨e',h1,h2⟩:=hag e he;exact ⟨e',List.mem_append.2 (Or.inl h1),h2⟩
     ·refine ⟨(p,eno),by simp,?_⟩;simp at he;rw [he]
theorem Zp5 {N:Nat} {X:Xs} (hX:Rng N X) (r:Rp) {d d' p:Nat} (hb :∀m,r.most=some m->r.least<=m/\d<=m/\d'<=m) (hn:r.need d'=r.need d) (hr:r.room d'<=r.room d) :
  ∀e∈wg N X r d' p,∃e'∈wg N X r d p,e'.1=e.1:=by
 unfold Rp.need at hn
 by_cases hlt:d < r.least
 ·have:d'=d:=by omega
  subst this;exact fun e he=>⟨e,he,rfl⟩
 ·have h':r.least<=d':=by omega
  have hN:wgN N r d' p=wgN N r d p:=by unfold wgN; omega
  intro e he;unfold wg at he ⊢;rw [hN] at he
  cases hm:r.most with
  | none =>
    rw [Zkf hX r hm _ d' d p h' (by omega)] at he;exact ⟨e,he,rfl⟩
  | some m =>
    unfold Rp.room at hr;rw [hm] at hr;simp only at hr;obtain ⟨h1,h2,h3⟩:=hb m hm;exact Znk r m hm _ d d' p (by omega) (by omega) h3 e he
def inR (rs:List (Int×Int)) (b:Int):Bool:=rs.any fun r=>decide (r.1<=b) && decide (b<=r.2)
def Ztt (c:Pc):Rp := { least:=c.min.toNat,most:=if c.max < 0 then none else some c.max.toNat,lazy:=c.lazy }
def pcX (u:ByteArray) (c:Pc) (K:Int->Xs):Xs :=
 if c.kind=1 then ZpG (fun p=>decide (p < u.size) && inR c.set (bt u p))
 else if c.kind=6 then atX 0
 else if c.kind=7 then atX u.size
 else if c.kind=5 then Zm8 (c.num.toNat - 1) (K (c.kids.headD 0))
 else if c.kind=3 then Zj5 (c.kids.map K)
 else if c.kind=4 then ZkM u.size (Ztt c) (K (c.kids.headD 0))
 else ZpA (c.kids.map K)
def xno:Xs:=fun _ => []
def ZpO (L:List Xs) (k:Int):Xs:=L.getD k.toNat xno
def Zrz (u:ByteArray) (L:List Xs) (c:Pc):List Xs:=L ++ [pcX u c (ZpO L)]
def Zfo (u:ByteArray) (ps:List Pc):List Xs:=ps.foldl (Zrz u) []
def xOf (u:ByteArray) (ps:List Pc) (i:Nat):Xs:=(Zfo u ps).getD i xno
theorem ZcS (u:ByteArray) (ps:List Pc) (c:Pc):Zfo u (ps ++ [c])=Zfo u ps ++ [pcX u c (ZpO (Zfo u ps))]:=by
 simp [Zfo,List.foldl_append,Zrz]
theorem ZcF {α:Type} {M:List α->Prop} (h0:M []) (h1 :∀l a,M l->M (l ++ [a])) (l:List α):M l:=by
 have :∀(r:List α),M r.reverse:=by
  intro r
  induction r with
  | nil=>exact h0
  | cons a r ih=>rw [List.reverse_cons]; exact h1 _ _ ih
 have:=this l.reverse
 rwa [List.reverse_reverse] at this
theorem Zbn (u:ByteArray) (ps:List Pc):(Zfo u ps).length=ps.length:=by
 refine ZcF (M:=fun ps=>(Zfo u ps).length=ps.length) rfl (fun l a ih=>?_) ps;rw [ZcS]; simp [ih]
theorem Zna (u:ByteArray) (ps qs:List Pc) :∃t,Zfo u (ps ++ qs)=Zfo u ps ++ t:=by
 refine ZcF (M:=fun qs =>∃t,Zfo u (ps ++ qs)=Zfo u ps ++ t) ⟨[],by simp⟩ (fun l a ih=>?_) qs;obtain ⟨t,ht⟩:=ih;exact ⟨t ++ [pcX u a (ZpO (Zfo u (ps ++ l)))],by rw [<- List.append_assoc,ZcS,ht,List.append_assoc]⟩
theorem Zgv (u:ByteArray) (ps qs:List Pc) (i:Nat) (h:i < ps.length):xOf u (ps ++ qs) i=xOf u ps i:=by
 obtain ⟨t,ht⟩:=Zna u ps qs;unfold xOf;rw [ht,List.getD_eq_getElem?_getD,List.getD_eq_getElem?_getD,List.getElem?_append_left (by rw [Zbn]; exact h)]
theorem Za3 (u:ByteArray) (ps:List Pc) (c:Pc):xOf u (ps ++ [c]) ps.length=pcX u c (ZpO (Zfo u ps)):=by
 unfold xOf;rw [ZcS,List.getD_eq_getElem?_getD,List.getElem?_append_right (by rw [Zbn]; exact Nat.le_refl _),Zbn,Nat.sub_self];rfl
theorem ZlU (u:ByteArray) (ps:List Pc) (k:Int):ZpO (Zfo u ps) k=xOf u ps k.toNat:=rfl
theorem ZfM (u:ByteArray) (c:Pc) (K K':Int->Xs) (h :∀k∈c.kids,K k=K' k) (h0:c.kids = []->K 0=K' 0):pcX u c K=pcX u c K':=by
 have hh:K (c.kids.headD 0)=K' (c.kids.headD 0):=by
  cases hk:c.kids with
  | nil=>exact h0 hk
  | cons a l=>exact h a (by simp [hk])
 have hm:c.kids.map K=c.kids.map K':=List.map_congr_left h;unfold pcX;rw [hh,hm]
theorem ZrA (u:ByteArray) (ps:List Pc) (i:Nat) (c:Pc) (hc:ps[i]? = some c) (hk :∀k∈c.kids,0<=k/\k < (i:Int)) (h0:c.kids = []->c.kind≠4/\c.kind≠5) :
  xOf u ps i=pcX u c (fun k=>xOf u ps k.toNat):=by
 obtain ⟨hi,rfl⟩:=List.getElem?_eq_some_iff.1 hc;have e:ps=ps.take i ++ [ps[i]] ++ ps.drop (i + 1):=by
  rw [<- List.take_succ_eq_append_getElem hi,List.take_append_drop]
 have hl:(ps.take i).length=i:=by simp; omega
 have h1:xOf u ps i=pcX u ps[i] (ZpO (Zfo u (ps.take i))):=by
  have h2:=Zgv u (ps.take i ++ [ps[i]]) (ps.drop (i + 1)) i (by simp; omega);rw [<- e] at h2;rw [h2];have h3:=Za3 u (ps.take i) ps[i];rw [hl] at h3;exact h3
 rw [h1];have hkk :∀k∈ps[i].kids,ZpO (Zfo u (ps.take i)) k=xOf u ps k.toNat:=by
  intro k hk'
  have:=hk k hk'
  rw [ZlU];have h2:=Zgv u (ps.take i) (ps.drop i) k.toNat (by rw [hl]; omega);rw [List.take_append_drop] at h2;rw [h2]
 by_cases hn:ps[i].kids = []
 ·obtain ⟨a,b⟩:=h0 hn;unfold pcX;rw [if_neg b,if_neg b,if_neg a,if_neg a,hn];rfl
 ·exact ZfM u _ _ _ hkk (fun h=>absurd h hn)
def smx (u:ByteArray) (pre:List Pc) (f:Pf):Xs:=xOf u (pre ++ f pre.length) (pre.length + (f pre.length).length - 1)
def ZbB (u:ByteArray):List Pc->List Pf->List Xs
 | _,[] => []
 | pre,f :: fs=>smx u pre f :: ZbB u (pre ++ f pre.length) fs
theorem Zkq (u:ByteArray) (pre:List Pc) (S:Bs):smx u pre (Qv S)=ZpG (fun p=>decide (p < u.size) && inR (Q2 S) (bt u p)):=by
 unfold smx Qv;show xOf u (pre ++ [Zau S]) (pre.length + 1 - 1) = _;rw [Nat.add_sub_cancel,Za3];rfl
theorem Zfy (u:ByteArray) (pre:List Pc):smx u pre QN=atX 0:=by
 unfold smx QN;show xOf u (pre ++ [_]) (pre.length + 1 - 1) = _;rw [Nat.add_sub_cancel,Za3];rfl
theorem Zku (u:ByteArray) (pre:List Pc):smx u pre Zbh=atX u.size:=by
 unfold smx Zbh;show xOf u (pre ++ [_]) (pre.length + 1 - 1) = _;rw [Nat.add_sub_cancel,Za3];rfl
def Ful (f:Pf):Prop :=∀n,0 < (f n).length
theorem ZhW (u:ByteArray) (pre:List Pc) (f:Pf) (c:Nat->Pc) (hc:(c pre.length).kids = [(pre.length:Int) + (f pre.length).length - 1]) (hf:Ful f) :
  smx u pre (fun n=>f n ++ [c n])=pcX u (c pre.length) (fun _=>smx u pre f):=by
 have h0:=hf pre.length;unfold smx;show xOf u (pre ++ (f pre.length ++ [c pre.length])) _ = _;rw [<- List.append_assoc];have e:pre.length + (f pre.length ++ [c pre.length]).length - 1=(pre ++ f pre.length).length:=by simp
 rw [e,Za3];refine ZfM u _ _ _ ?_ (fun h=>by rw [hc] at h; simp at h);intro k hk;rw [hc] at hk;simp at hk;subst hk;rw [ZlU]
 congr 1
 omega
theorem Zhj {fs:List Pf} (hf :∀f∈fs,Ful f) :∀n,∀k∈ends fs n,(n:Int)<=k/\k < (n:Int) + (cat fs n).length:=by
 induction fs with
 | nil=>intro n k hk; simp [ends] at hk
 | cons f fs ih =>
   intro n k hk;have h0:=hf f (by simp) n;simp only [ends,List.mem_cons] at hk;simp only [cat,List.length_append]
   rcases hk with rfl | hk
   ·omega
   ·have:=ih (fun g hg=>hf g (by simp [hg])) _ k hk
    push_cast at this ⊢
    omega
theorem ZoJ (u:ByteArray) {fs:List Pf} (hf :∀f∈fs,Ful f) :∀(pre post:List Pc),(ends fs pre.length).map (fun k=>xOf u (pre ++ cat fs pre.length ++ post) k.toNat)=ZbB u pre fs:=by
 induction fs with
 | nil=>intro pre post; rfl
 | cons f fs ih =>
   intro pre post;have h0:=hf f (by simp) pre.length;simp only [ends,cat,ZbB,List.map_cons]
   congr 1
   ·unfold smx;have e:((pre.length:Int) + (f pre.length).length - 1).toNat=pre.length + (f pre.length).length - 1:=by omega
    rw [e]
    have:pre ++ (f pre.length ++ cat fs (pre.length + (f pre.length).length)) ++ post=(pre ++ f pre.length) ++ (cat fs (pre.length + (f pre.length).length) ++ post):=by simp
    rw [this,Zgv u _ _ _ (by simp; omega)]
   ·have:=ih (fun g hg=>hf g (by simp [hg])) (pre ++ f pre.length) post
    rw [List.length_append] at this;rw [<- this];simp
theorem ZhX (u:ByteArray) (pre:List Pc) (fs:List Pf) (K:Int) (hf :∀f∈fs,Ful f) :
  smx u pre (fun n=>cat fs n ++ [ZI K (ends fs n)])=if K=3 then Zj5 (ZbB u pre fs) else if K=2 then ZpA (ZbB u pre fs) else smx u pre (fun n=>cat fs n ++ [ZI K (ends fs n)]):=by
 have key:K=3\/K=2->smx u pre (fun n=>cat fs n ++ [ZI K (ends fs n)])=if K=3 then Zj5 (ZbB u pre fs) else ZpA (ZbB u pre fs):=by
  intro hK;unfold smx;show xOf u (pre ++ (cat fs pre.length ++ [ZI K (ends fs pre.length)])) _ = _;rw [<- List.append_assoc];have e:pre.length + (cat fs pre.length ++ [ZI K (ends fs pre.length)]).length - 1=(pre ++ cat fs pre.length).length:=by simp
  rw [e,Za3];have hs:=ZoJ u hf pre [];rw [List.append_nil] at hs;have hm:(ends fs pre.length).map (ZpO (Zfo u (pre ++ cat fs pre.length)))=ZbB u pre fs:=hs
  rcases hK with rfl | rfl
  ·simp [pcX,ZI,hm]
  ·simp [pcX,ZI,hm]
 by_cases h3:K=3
 ·rw [if_pos h3,key (Or.inl h3),if_pos h3]
 ·by_cases h2:K=2
  ·rw [if_neg h3,if_pos h2,key (Or.inr h2),if_neg h3]
  ·rw [if_neg h3,if_neg h2]
theorem Zkr (u:ByteArray) (pre:List Pc) (fs:List Pf) (hf :∀f∈fs,Ful f):smx u pre (Jh fs)=ZpA (ZbB u pre fs):=by
 have:=ZhX u pre fs 2 hf
 rw [if_neg (by decide),if_pos rfl] at this;exact this
theorem Zkv (u:ByteArray) (pre:List Pc) (fs:List Pf) (hf :∀f∈fs,Ful f):smx u pre (JW fs)=Zj5 (ZbB u pre fs):=by
 have:=ZhX u pre fs 3 hf
 rw [if_pos rfl] at this;exact this
theorem Zks (u:ByteArray) (pre:List Pc) (lo hi:Int) (lz:Bool) (f:Pf) (hf:Ful f):smx u pre (Z9 lo hi lz f)=ZkM u.size { least:=lo.toNat,most:=if hi < 0 then none else some hi.toNat,lazy:=lz } (smx u pre f):=by
 unfold Z9;rw [ZhW u pre f (fun n => { kind:=4,set := [],min:=lo,max:=hi,lazy:=lz,num:=0,kids := [(n:Int) + (f n).length - 1] }) rfl hf];rfl
theorem Zkt (u:ByteArray) (pre:List Pc) (num:Int) (f:Pf) (hf:Ful f):smx u pre (JT num f)=Zm8 (num.toNat - 1) (smx u pre f):=by
 unfold JT;rw [ZhW u pre f (fun n => { kind:=5,set := [],min:=0,max:=0,lazy:=false,num:=num,kids := [(n:Int) + (f n).length - 1] }) rfl hf];rfl
structure Ztv (P:Nat->Nat->Pf->Prop):Prop where
 set :∀(lo hi:Nat) (S:Bs),P lo hi (Qv S)
 start :∀lo hi:Nat,P lo hi QN
 fin :∀lo hi:Nat,P lo hi Zbh
 seq :∀(lo hi:Nat) (fs:List Pf),fs.length<=1000->(∀f∈fs,P lo hi f)->P lo hi (Jh fs)
 alt :∀(lo hi:Nat) (fs:List Pf),fs.length<=1000->(∀f∈fs,P lo hi f)->P lo hi (JW fs)
 rep :∀(lo hi:Nat) (f:Pf) (a b:Int) (lz:Bool),0<=a->a<=50->(b = -1\/a<=b)->b<=50->P lo hi f->P lo hi (Z9 a b lz f)
 grp :∀(lo hi:Nat) (f:Pf),lo < hi->P (lo + 1) hi f->P lo hi (JT ((lo:Int) + 1) f)
 wide :∀(lo hi lo' hi':Nat) (f:Pf),lo'<=lo->hi<=hi'->P lo hi f->P lo' hi' f
def Fg (lo hi:Nat) (f:Pf):Prop :=∀P:Nat->Nat->Pf->Prop,Ztv P->P lo hi f
theorem Fg.cl:Ztv Fg :=
 ⟨fun lo hi S P c=>c.set lo hi S,fun lo hi P c=>c.start lo hi,fun lo hi P c=>c.fin lo hi,fun lo hi fs hl h P c=>c.seq lo hi fs hl fun f hf=>h f hf P c,fun lo hi fs hl h P c=>c.alt lo hi fs hl fun f hf=>h f hf P c,
  fun lo hi f a b lz h0 h1 h2 h3 h P c=>c.rep lo hi f a b lz h0 h1 h2 h3 (h P c),fun lo hi f hl h P c=>c.grp lo hi f hl (h P c),fun lo hi lo' hi' f h1 h2 h P c=>c.wide lo hi lo' hi' f h1 h2 (h P c)⟩
theorem Fg.wide {lo hi lo' hi':Nat} {f:Pf} (h:Fg lo hi f) (h1:lo'<=lo) (h2:hi<=hi'):Fg lo' hi' f:=Fg.cl.wide lo hi lo' hi' f h1 h2 h
def Zgs (s:ByteArray) (alt:Nat->Nat->Rd3):Prop :=
 ∀p g f q g',p<=s.size->s.size<=120->g<=9->alt p g = .ok (f,q,g')->g<=g'/\Fg g g' f
theorem ZjU {s:ByteArray} {alt:Nat->Nat->Rd3} {room:Bool} (hs:s.size<=120) (G:Zad s alt) (G2:Zgs s alt) {p g q g':Nat} {f:Pf} (hp:p < s.size) (hg:g<=9) (h:Zg alt room s p g = .ok (f,q,g')) :
  g<=g'/\Fg g g' f:=by
 unfold Zg at h
 split at h
 ·split at h
  ·simp at h
  ·rename_i hc
   split at h
   ·simp at h
   ·rename_i f1 q1 g1 ha;have h1:=G2 _ _ _ _ _ (by omega) hs (by omega) ha
    split at h
    ·simp only [Except.ok.injEq,Prod.mk.injEq] at h;obtain ⟨e1,e2,e3⟩:=h;subst e1 e2 e3;exact ⟨by omega,Fg.cl.grp _ _ _ (by omega) h1.2⟩
    ·simp at h
 ·repeat' (split at h)
  all_goals simp only [Except.ok.injEq,Prod.mk.injEq,reduceCtorEq] at h
  all_goals obtain ⟨h1,h2,h3⟩:=h
  all_goals subst h1 h2 h3
  all_goals first
   | exact ⟨Nat.le_refl _,Fg.cl.set _ _ _⟩
   | exact ⟨Nat.le_refl _,Fg.cl.start _ _⟩
   | exact ⟨Nat.le_refl _,Fg.cl.fin _ _⟩
theorem Zhm {s:ByteArray} {p q:Nat} {lo hi:Int} (hp:p<=s.size) (h:Zj s p = .ok (lo,hi,q)):0<=lo/\lo<=50/\(hi = -1\/lo<=hi)/\hi<=50:=by
 unfold Zj at h
 split at h
 ·simp at h
 ·rename_i h1;have p1:=ZP hp h1
  split at h
  ·simp at h
  ·split at h
   ·rename_i hb;have hb':=Zt hb (by omega)
    split at h
    ·simp at h
    ·rename_i h2;have p2:=ZP (by omega) h2
     split at h
     ·split at h
      ·simp only [Except.ok.injEq,Prod.mk.injEq] at h;omega
      ·simp at h
     ·split at h
      ·simp at h
      ·split at h
       ·simp only [Except.ok.injEq,Prod.mk.injEq] at h;omega
       ·simp at h
   ·split at h
    ·simp only [Except.ok.injEq,Prod.mk.injEq] at h;omega
    ·simp at h
theorem ZoZ {s:ByteArray} {q q2:Nat} {lo hi:Int} (hq:q < s.size) (h:ZW s q = .ok (some (lo,hi),q2)):0<=lo/\lo<=50/\(hi = -1\/lo<=hi)/\hi<=50:=by
 unfold ZW at h
 split at h
 ·simp only [Except.ok.injEq,Prod.mk.injEq,Option.some.injEq] at h; omega
 ·split at h
  ·simp only [Except.ok.injEq,Prod.mk.injEq,Option.some.injEq] at h; omega
  ·split at h
   ·simp only [Except.ok.injEq,Prod.mk.injEq,Option.some.injEq] at h; omega
   ·split at h
    ·split at h
     ·simp at h
     ·rename_i hc
      have:=Zhm (by omega) hc
      simp only [Except.ok.injEq,Prod.mk.injEq,Option.some.injEq] at h;omega
    ·simp at h
theorem ZgQ {s:ByteArray} {alt:Nat->Nat->Rd3} {room:Bool} (hs:s.size<=120) (G:Zad s alt) (G2:Zgs s alt) {p g q g':Nat} {f:Pf} (hp:p < s.size) (hg:g<=9) (h:Zn alt room s p g = .ok (f,q,g')) :
  g<=g'/\Fg g g' f:=by
 unfold Zn at h
 split at h
 ·simp at h
 ·rename_i f1 q1 g1 ha;have h0:=ZX G hp hg ha;have h1:=ZjU hs G G2 hp hg ha
  split at h
  ·simp at h
  ·simp only [Except.ok.injEq,Prod.mk.injEq] at h;obtain ⟨e1,e2,e3⟩:=h;subst e1 e2 e3;exact h1
  ·rename_i lo hi q2 hc;have h2:=Zci (by omega) hc;have h3:=h2.2.2.1 (by simp);have h4:=ZoZ (by omega) hc
   split at h
   ·simp only [Except.ok.injEq,Prod.mk.injEq] at h;obtain ⟨e1,e2,e3⟩:=h;subst e1 e2 e3;exact ⟨h1.1,Fg.cl.rep _ _ _ _ _ _ h4.1 h4.2.1 h4.2.2.1 h4.2.2.2 h1.2⟩
   ·simp only [Except.ok.injEq,Prod.mk.injEq] at h;obtain ⟨e1,e2,e3⟩:=h;subst e1 e2 e3;exact ⟨h1.1,Fg.cl.rep _ _ _ _ _ _ h4.1 h4.2.1 h4.2.2.1 h4.2.2.2 h1.2⟩
theorem Zi4 {s:ByteArray} {alt:Nat->Nat->Rd3} {room:Bool} (hs:s.size<=120) (G:Zad s alt) (G2:Zgs s alt) {fu p g q g' g0:Nat} {fs fs':List Pf} (hp:p<=s.size) (hg:g<=9) (h0:g0<=g)
  (hl:fs.length<=p) (hF :∀f∈fs,Fg g0 g f) (h:ZE alt room s fu p g fs = .ok (fs',q,g')) :
  p<=q/\g<=g'/\fs'.length<=120/\∀f∈fs',Fg g0 g' f:=by
 induction fu generalizing p g fs with
 | zero=>simp [ZE] at h
 | succ fu ih =>
   unfold ZE at h
   split at h
   ·rename_i hc;have hp':p < s.size:=by
     apply Decidable.byContradiction; intro hn; exact hc.1 (Z7 hn)
    split at h
    ·simp at h
    ·rename_i f1 q1 g1 hpc;have h1:=J5 G hp' hg hpc;have h3:=ZgQ hs G G2 hp' hg hpc;have h2:=ih (by omega) (by omega) (by omega) (by simp; omega) (fun f hf=>by
      rcases List.mem_append.1 hf with hf | hf
      ·exact (hF f hf).wide (Nat.le_refl _) h3.1
      ·simp at hf; subst hf; exact h3.2.wide h0 (Nat.le_refl _)) h
     exact ⟨by omega,by omega,h2.2.2⟩
   ·simp only [Except.ok.injEq,Prod.mk.injEq] at h;obtain ⟨e1,e2,e3⟩:=h;subst e1 e2 e3;exact ⟨by omega,Nat.le_refl _,by omega,hF⟩
theorem Zfz {s:ByteArray} {alt:Nat->Nat->Rd3} {room:Bool} (hs:s.size<=120) (G:Zad s alt) (G2:Zgs s alt) {p g q g':Nat} {f:Pf} (hp:p<=s.size) (hg:g<=9) (h:ZH alt room s p g = .ok (f,q,g')) :
  g<=g'/\Fg g g' f:=by
 unfold ZH at h
 split at h
 ·simp at h
 ·rename_i fs q1 g1 hl;have h1:=Zi4 hs G G2 hp hg (Nat.le_refl g) (by simp) (by simp) hl;simp only [Except.ok.injEq,Prod.mk.injEq] at h;obtain ⟨e1,e2,e3⟩:=h;subst e1 e2 e3;exact ⟨h1.2.1,Fg.cl.seq _ _ _ (by omega) h1.2.2.2⟩
theorem Zj9 {s:ByteArray} {alt:Nat->Nat->Rd3} {room:Bool} (hs:s.size<=120) (G:Zad s alt) (G2:Zgs s alt) {fu p g q g' g0:Nat} {fs fs':List Pf} (hp:p<=s.size) (hg:g<=9) (h0:g0<=g)
  (hl:fs.length<=p + 1) (hF :∀f∈fs,Fg g0 g f) (h:Z0 alt room s fu p g fs = .ok (fs',q,g')) :
  g<=g'/\fs'.length<=121/\∀f∈fs',Fg g0 g' f:=by
 induction fu generalizing p g fs with
 | zero=>simp [Z0] at h
 | succ fu ih =>
   unfold Z0 at h
   split at h
   ·rename_i hb;have hp':=Zt hb (by omega)
    split at h
    ·simp at h
    ·rename_i f1 q1 g1 hpc;have h1:=QV G (by omega) hg hpc;have h3:=Zfz hs G G2 (by omega) hg hpc;have h2:=ih (by omega) (by omega) (by omega) (by simp; omega) (fun f hf=>by
      rcases List.mem_append.1 hf with hf | hf
      ·exact (hF f hf).wide (Nat.le_refl _) h3.1
      ·simp at hf; subst hf; exact h3.2.wide h0 (Nat.le_refl _)) h
     exact ⟨by omega,h2.2⟩
   ·rename_i hb;simp only [Except.ok.injEq,Prod.mk.injEq] at h;obtain ⟨e1,e2,e3⟩:=h;subst e1 e2 e3;exact ⟨Nat.le_refl _,by omega,hF⟩
theorem Zdx {s:ByteArray} {alt:Nat->Nat->Rd3} {room:Bool} (G:Zad s alt) (G2:Zgs s alt):Zgs s (Jd alt room s):=by
 intro p g f q g' hp hs hg h;unfold Jd at h
 split at h
 ·simp at h
 ·rename_i f1 q1 g1 hq;have h1:=QV G hp hg hq;have h3:=Zfz hs G G2 hp hg hq
  split at h
  ·rename_i hb
   split at h
   ·simp at h
   ·rename_i fs q2 g2 hl;have h4:=Zj9 hs G G2 (g0:=g) (by omega) h1.2.2.1 h3.1 (by simp) (fun f hf=>by simp at hf; subst hf; exact h3.2) hl;simp only [Except.ok.injEq,Prod.mk.injEq] at h;obtain ⟨e1,e2,e3⟩:=h;subst e1 e2 e3;exact ⟨by omega,Fg.cl.alt _ _ _ (by omega) h4.2.2⟩
  ·simp only [Except.ok.injEq,Prod.mk.injEq] at h;obtain ⟨e1,e2,e3⟩:=h;subst e1 e2 e3;exact h3
theorem Zcy (s:ByteArray) (d:Nat):Zgs s (QL s d):=by
 induction d with
 | zero =>
   unfold QL;exact Zdx (fun _ _ _ _ _ _ _ h=>by simp at h) (fun _ _ _ _ _ _ _ _ h=>by simp at h)
 | succ d ih =>
   unfold QL;exact Zdx (QD s d) ih
def OkE (N lo hi p:Nat) (e:Nat×Ef):Prop:=p<=e.1/\e.1<=N/\∀i a b,e.2 i=some (a,b)->lo<=i/\i < hi/\p<=a/\a<=b/\b<=e.1
def OkX (N lo hi:Nat) (X:Xs):Prop :=∀p,p<=N->((X p).map (·.1)).Nodup/\∀e∈X p,OkE N lo hi p e
theorem OkX.rng {N lo hi:Nat} {X:Xs} (h:OkX N lo hi X):Rng N X:=fun p hp e he=>⟨((h p hp).2 e he).1,((h p hp).2 e he).2.1⟩
theorem OkE.wide {N lo hi lo' hi' p:Nat} {e:Nat×Ef} (h:OkE N lo hi p e) (h1:lo'<=lo) (h2:hi<=hi'):OkE N lo' hi' p e :=
 ⟨h.1,h.2.1,fun i a b he=>by have:=h.2.2 i a b he; omega⟩
theorem OkX.wide {N lo hi lo' hi':Nat} {X:Xs} (h:OkX N lo hi X) (h1:lo'<=lo) (h2:hi<=hi'):OkX N lo' hi' X :=
 fun p hp=>⟨(h p hp).1,fun e he=>((h p hp).2 e he).wide h1 h2⟩
theorem ZaU {N lo hi p q:Nat} (h:p<=q) (h2:q<=N):OkE N lo hi p (q,eno):=⟨h,h2,fun i a b h=>by simp [eno] at h⟩
theorem Zlb {N lo hi p:Nat} {e f:Nat×Ef} (h:OkE N lo hi p e) (h2:OkE N lo hi e.1 f):OkE N lo hi p (f.1,eov e.2 f.2):=by
 refine ⟨by have:=h.1; have:=h2.1; show p<=f.1; omega,h2.2.1,?_⟩;intro i a b he;simp only [eov,Option.or_eq_some_iff] at he
 rcases he with he | ⟨_,he⟩
 ·have:=h2.2.2 i a b he
  have:=h.1
  omega
 ·have:=h.2.2 i a b he
  have:=h2.1
  omega
theorem Zlc {N lo hi p:Nat} {L:En} {X:Xs} (hL :∀e∈L,OkE N lo hi p e) (hX :∀q,q<=N->∀e∈X q,OkE N lo hi q e) :∀e∈bnd L X,OkE N lo hi p e:=by
 intro e he;obtain ⟨a,ha,b,hb,rfl⟩:=Zlj he;exact Zlb (hL a ha) (hX a.1 (hL a ha).2.1 b hb)
theorem ZcI {N lo hi p:Nat} {l:List Xs} (h :∀X∈l,OkX N lo hi X) {L:En} (hL :∀e∈L,OkE N lo hi p e) :∀e∈Zfm L l,OkE N lo hi p e:=by
 induction l generalizing L with
 | nil=>exact hL
 | cons X l ih =>
   refine ih (fun Y hY=>h Y (by simp [hY])) (L:=thn L X) ?_;intro e he;exact Zlc hL (fun q hq e he=>(h X (by simp) q hq).2 e he) e (Zdr e he).1
theorem Zce {l:List Xs} {L:En} (hL:(L.map (·.1)).Nodup):((Zfm L l).map (·.1)).Nodup:=by
 induction l generalizing L with
 | nil=>exact hL
 | cons X l ih=>exact ih (L:=thn L X) (ZcO _ _)
theorem Zk9 {N lo hi:Nat} {has:Nat->Bool} (h :∀p,has p=true->p < N):OkX N lo hi (ZpG has):=by
 intro p hp;unfold ZpG
 split
 ·rename_i hh;refine ⟨by simp,fun e he=>?_⟩;simp at he; subst he;exact ZaU (by omega) (h p hh)
 ·exact ⟨by simp,fun e he=>by simp at he⟩
theorem Zia {N lo hi q:Nat}:OkX N lo hi (atX q):=by
 intro p hp;unfold atX
 split
 ·refine ⟨by simp,fun e he=>?_⟩;simp at he; subst he;exact ZaU (by omega) hp
 ·exact ⟨by simp,fun e he=>by simp at he⟩
theorem Zk7 {N lo hi:Nat} {l:List Xs} (h :∀X∈l,OkX N lo hi X):OkX N lo hi (ZpA l):=by
 intro p hp;unfold ZpA;exact ⟨Zce (by simp),ZcI h (fun e he=>by simp at he; subst he; exact ZaU (Nat.le_refl _) hp)⟩
theorem Zla {N lo hi:Nat} {l:List Xs} (h :∀X∈l,OkX N lo hi X):OkX N lo hi (Zj5 l):=by
 intro p hp;unfold Zj5;refine ⟨ZcO _ _,fun e he=>?_⟩
 have:=(Zdr e he).1
 rw [List.mem_flatMap] at this;obtain ⟨X,hX,he⟩:=this;exact (h X hX p hp).2 e he
theorem ZqE {N lo hi:Nat} {X:Xs} (h:OkX N lo hi X) (lz:Bool) (f:Nat) :∀left p,p<=N->∀e∈fuF X lz f left p,OkE N lo hi p e:=by
 induction f with
 | zero=>intro left p hp e he; simp [fuF] at he
 | succ f ih =>
   intro left p hp e he;have hmore :∀e∈(if left=0 then [] else ((X p).filter fun e=>decide (p < e.1)).flatMap fun e=>beh e (fuF X lz f (less left) e.1)),OkE N lo hi p e:=by
    intro e he
    split at he
    ·simp at he
    ·rw [List.mem_flatMap] at he;obtain ⟨a,ha,he⟩:=he;rw [List.mem_filter] at ha;have h1:=(h p hp).2 a ha.1;unfold beh at he;rw [List.mem_map] at he;obtain ⟨b,hb,rfl⟩:=he;exact Zlb h1 (ih _ _ h1.2.1 b hb)
   rw [fuF] at he
   cases lz with
   | true =>
     simp only [if_true] at he
     rcases List.mem_cons.1 he with rfl | he
     ·exact ZaU (Nat.le_refl _) hp
     ·exact hmore e he
   | false =>
     simp only [Bool.false_eq_true,if_false] at he
     rcases List.mem_append.1 he with he | he
     ·exact hmore e he
     ·simp at he; subst he; exact ZaU (Nat.le_refl _) hp
theorem Zk8 {N lo hi:Nat} {X:Xs} (h:OkX N lo hi X) (r:Rp):OkX N lo hi (ZkM N r X):=by
 intro p hp;unfold ZkM;refine ⟨ZcO _ _,fun e he=>?_⟩
 have:=(Zdr e he).1
 refine Zlc (ZcI (l:=List.replicate r.least X) (fun Y hY=>by rw [List.eq_of_mem_replicate hY]; exact h) (L := [(p,eno)]) (fun e he=>by simp at he; subst he; exact ZaU (Nat.le_refl _) hp)) ?_ e this;intro q hq e he;exact ZqE h r.lazy _ _ q hq e he
theorem ZqD {N lo hi:Nat} {X:Xs} (h:OkX N (lo + 1) hi X) (hl:lo < hi):OkX N lo hi (Zm8 lo X):=by
 intro p hp;unfold Zm8;refine ⟨?_,fun e he=>?_⟩
 ·rw [List.map_map];exact (h p hp).1
 ·rw [List.mem_map] at he;obtain ⟨b,hb,rfl⟩:=he;have h1:=(h p hp).2 b hb;refine ⟨h1.1,h1.2.1,?_⟩;intro i a c he;simp only [est] at he
  split at he
  ·rename_i hi';subst hi';simp only [Option.some.injEq,Prod.mk.injEq] at he;obtain ⟨rfl,rfl⟩:=he;exact ⟨Nat.le_refl _,hl,Nat.le_refl _,h1.1,Nat.le_refl _⟩
  ·have:=h1.2.2 i a c he
   exact ⟨by omega,by omega,by omega,by omega,by show c<=b.1; omega⟩
theorem Zd8 {lo hi:Nat} {f:Pf} (h:Fg lo hi f):Ful f :=
 h (fun _ _ f=>Ful f) ⟨fun _ _ S n=>by simp [Qv],fun _ _ n=>by simp [QN],fun _ _ n=>by simp [Zbh],fun _ _ fs _ _ n=>by simp [Jh],fun _ _ fs _ _ n=>by simp [JW],fun _ _ f a b lz _ _ _ _ _ n=>by simp [Z9],fun _ _ f _ _ n=>by simp [JT],fun _ _ _ _ f _ _ h=>h⟩
theorem ZhU {u:ByteArray} {fs:List Pf} {M:Xs->Prop} (h :∀f∈fs,∀pre,M (smx u pre f)) :∀pre,∀X∈ZbB u pre fs,M X:=by
 induction fs with
 | nil=>intro pre X hX; simp [ZbB] at hX
 | cons f fs ih =>
   intro pre X hX;simp only [ZbB,List.mem_cons] at hX
   rcases hX with rfl | hX
   ·exact h f (by simp) pre
   ·exact ih (fun g hg=>h g (by simp [hg])) _ X hX
theorem Zs4 {lo hi:Nat} {f:Pf} (u:ByteArray) (h:Fg lo hi f) :∀pre,OkX u.size lo hi (smx u pre f):=by
 have hh:=h (fun lo hi f=>Ful f/\∀pre,OkX u.size lo hi (smx u pre f))
  ⟨fun lo hi S=>⟨Zd8 (Fg.cl.set lo hi S),fun pre=>by rw [Zkq]; exact Zk9 (fun p hp=>by simp at hp; exact hp.1)⟩,
   fun lo hi=>⟨Zd8 (Fg.cl.start lo hi),fun pre=>by rw [Zfy]; exact Zia⟩,
   fun lo hi=>⟨Zd8 (Fg.cl.fin lo hi),fun pre=>by rw [Zku]; exact Zia⟩,
   fun lo hi fs hl ih=>⟨fun n=>by simp [Jh],fun pre=>by rw [Zkr u pre fs (fun f hf=>(ih f hf).1)]; exact Zk7 (ZhU (fun f hf=>(ih f hf).2) pre)⟩,
   fun lo hi fs hl ih=>⟨fun n=>by simp [JW],fun pre=>by rw [Zkv u pre fs (fun f hf=>(ih f hf).1)]; exact Zla (ZhU (fun f hf=>(ih f hf).2) pre)⟩,
   fun lo hi f a b lz _ _ _ _ ih=>⟨fun n=>by simp [Z9],fun pre=>by rw [Zks u pre a b lz f ih.1]; exact Zk8 (ih.2 pre) _⟩,
   fun lo hi f hl ih=>⟨fun n=>by simp [JT],fun pre=>by
    rw [Zkt u pre _ f ih.1]
    have:((lo:Int) + 1).toNat - 1=lo:=by omega
    rw [this];exact ZqD (ih.2 pre) hl⟩,
   fun lo hi lo' hi' f h1 h2 ih=>⟨ih.1,fun pre=>(ih.2 pre).wide h1 h2⟩⟩
 exact hh.2
end Go.Proofs.YtfkflljplohhcaaGreatDoor
namespace Go.Proofs.YtfkflljplohhcaaGreatDoor
open Go.RowKit
set_option linter.unusedVariables false
structure Mt where
 ok:Bool
 fr:Int
 up:Int
 gs:List (Int×Int)
abbrev Mm:=Mt×Value
def Za0 (x:Mm):List Value := [.bool x.1.ok,.int .i64 x.1.fr,.int .i64 x.1.up,x.2]
def SpR (w:World) (v:Value) (gs:List (Int×Int)):Prop:=w.ownsRow 0 118 2 v gs.length (ZB gs)
structure Mts (w:World) (v:Value) (L:List Mm):Prop where
 row:w.ownsRow 0 38 4 v L.length (L.flatMap Za0)
 rows :∀x∈L,SpR w x.2 x.1.gs
theorem Mts.same {w w':World} {v:Value} {L:List Mm} (h:Mts w v L) (k:Za N0_ w w'):Mts w' v L :=
 ⟨Zb h.row k (fun _ _ h=>h),fun x hx=>Zb (h.rows x hx) k (fun _ _ h=>h)⟩
def Zbx (G:Nat) (e:Ef):List (Int×Int):=(List.range G).map fun i=>match e i with
 | none=>(-1,-1)
 | some (a,b)=>((a:Int),(b:Int))
theorem Jq (G:Nat) (e:Ef):(Zbx G e).length=G:=by simp [Zbx]
theorem ZlS {G:Nat} {e:Ef} {k:Nat} (hk:k < G) (h:e k=none):(Zbx G e)[k]'(by rw [Jq]; exact hk)=(-1,-1):=by simp [Zbx,h]
theorem ZlR {G:Nat} {e:Ef} {k a b:Nat} (hk:k < G) (h:e k=some (a,b)):(Zbx G e)[k]'(by rw [Jq]; exact hk)=((a:Int),(b:Int)):=by simp [Zbx,h]
def QX (G p:Nat) (e:Nat×Ef):Mt := { ok:=true,fr:=p,up:=e.1,gs:=Zbx G e.2 }
theorem Tryz.infoMatch:(Tryz.prog.info? 38).map (fun i=>(i.zero,i.size,i.bytes))=some (some (.agg #[.bool false,.int .i64 0,.int .i64 0,.slice none 0 0]),4,48):=by kernel_rfl
theorem Tryz.infoSpan3:(Tryz.prog.info? 118).map (fun i=>(i.zero,i.size,i.bytes))=some (some (.agg #[.int .i64 0,.int .i64 0]),2,16):=by kernel_rfl
theorem ZjA (l:List (Int×Int)) (r:Int×Int):ZB (l ++ [r])=ZB l ++ [.int .i64 r.1,.int .i64 r.2]:=by simp [ZB]
theorem ZiG {w:World} {base:Nat} {v:Value} {gs:List (Int×Int)} (h:w.ownsRow base 118 2 v gs.length (ZB gs)) (hb:base<=w.heap.size) (hl:gs.length<=1000) (x y:Int) :
  ∃v' w',Sem.run Tryz.prog (Builtin.append_ #[36,36] 36 #[v,.slice (some ⟨w.heap.size,0,none⟩) 1 1]) (w.alloc (.cells #[.int .i64 x,.int .i64 y] 118)) = .ok v' w'/\w'.ownsRow base 118 2 v' (gs ++ [(x,y)]).length (ZB (gs ++ [(x,y)]))/\Za (fun k=>v.ownBlock=some k) w w':=by
 obtain ⟨i0,hi,hz0,hz1,hz2⟩:=info_parts Tryz.infoSpan3;obtain ⟨v',w3,hrun,ho,hgr,hbk⟩:=JV (P:=Tryz.prog) (w.alloc (.cells #[.int .i64 x,.int .i64 y] 118)) base 36 36 118 i0 _ 2 16 Tryz.underlying36 hi hz0 hz1 hz2 rfl (by decide) v gs.length _ (h.alloc _)
  ⟨w.heap.size,0,none⟩ 1 1 [.int .i64 x,.int .i64 y] rfl (Qt w _ _) (by intro u hu; simp at hu; rcases hu with rfl | rfl <;> rfl) (by unfold maxLen; omega) (by omega) (by simp; omega)
 refine ⟨v',w3,hrun,?_,((Za.refl _ w).alloc _).grown hgr (fun k hk _=>hk)⟩;rw [ZjA,List.length_append];exact ho
theorem Zgi {w:World} {base:Nat} {v:Value} {L:List Mm} (h:w.ownsRow base 38 4 v L.length (L.flatMap Za0)) (hb:base<=w.heap.size) (hl:L.length<=100000) (x:Mm) {ag:Option Addr} {ng cg:Nat} (hx:x.2 = .slice ag ng cg) :
  ∃v' w',Sem.run Tryz.prog (Builtin.append_ #[25,25] 25 #[v,.slice (some ⟨w.heap.size,0,none⟩) 1 1]) (w.alloc (.cells #[.bool x.1.ok,.int .i64 x.1.fr,.int .i64 x.1.up,x.2] 38)) = .ok v' w'/\w'.ownsRow base 38 4 v' (L ++ [x]).length ((L ++ [x]).flatMap Za0)/\Za (fun k=>v.ownBlock=some k) w w':=by
 obtain ⟨i0,hi,hz0,hz1,hz2⟩:=info_parts Tryz.infoMatch;obtain ⟨v',w3,hrun,ho,hgr,hbk⟩:=JV (P:=Tryz.prog) (w.alloc (.cells #[.bool x.1.ok,.int .i64 x.1.fr,.int .i64 x.1.up,x.2] 38)) base 25 25 38 i0 _ 4 48 Tryz.underlying25 hi hz0 hz1 hz2 rfl (by decide) v L.length _ (h.alloc _)
  ⟨w.heap.size,0,none⟩ 1 1 (Za0 x) rfl (Qt w _ _) (by intro u hu; simp [Za0,hx] at hu; rcases hu with rfl | rfl | rfl | rfl <;> rfl) (by unfold maxLen; omega) (by omega) (by simp; omega)
 refine ⟨v',w3,hrun,?_,((Za.refl _ w).alloc _).grown hgr (fun k hk _=>hk)⟩;rw [List.flatMap_append,List.length_append];simpa using ho
end Go.Proofs.YtfkflljplohhcaaGreatDoor
namespace Go.Proofs.YtfkflljplohhcaaGreatDoor
set_option linter.unusedVariables false
def Qu {α:Type} (M L:List (Nat×α)):List (Nat×α):=M ++ dd (sal sno M) L
section
variable {α:Type}
theorem ZiJ (M:List (Nat×α)):Qu M []=M:=by simp [Qu,dd]
theorem Zh2 (M L:List (Nat×α)):sal sno (Qu M L)=sal (sal sno M) L:=by rw [Qu,JK,Zcq]
theorem Qr (M A B:List (Nat×α)):Qu M (A ++ B)=Qu (Qu M A) B:=by
 rw [Qu,Qu,Qu,Ju,List.append_assoc,JK,Zcq]
theorem ZbW (M L:List (Nat×α)) (h :∀e∈L,sal sno M e.1=true):Qu M L=M:=by rw [Qu,Zch h,List.append_nil]
theorem Zgo (M:List (Nat×α)) (e:Nat×α) (h:sal sno M e.1=false):Qu M [e]=M ++ [e]:=by rw [Qu,Qd h,ZpR]
theorem Zbd (L:List (Nat×α)):Qu [] L=dd sno L:=by rw [Qu,Q1,List.nil_append]
theorem Za2 (M L:List (Nat×α)) (x:Nat) (h:sal sno M x=true):sal sno (Qu M L) x=true:=by rw [Zh2]; exact Zaw _ _ _ h
theorem ZiK (M L:List (Nat×α)) (e:Nat×α) (h:e∈L):sal sno (Qu M L) e.1=true:=by rw [Zh2]; exact Zax h
theorem Zka (M L:List (Nat×α)) (h:(M.map (·.1)).Nodup):((Qu M L).map (·.1)).Nodup:=by
 unfold Qu;rw [List.map_append,List.nodup_append];refine ⟨h,ZcO _ _,?_⟩;intro a ha b hb he;subst he;obtain ⟨y,hy,hya⟩:=List.mem_map.1 hb;obtain ⟨z,hz,hza⟩:=List.mem_map.1 ha;have h1:=(Zdr y hy).2;have h2:sal sno M z.1=true:=Zax hz;rw [hza,<- hya,h1] at h2;simp at h2
end
def fu (N:Nat) (X:Xs) (lz:Bool) (left p:Nat):En:=fuF X lz (N + 1 - p) left p
def Zap (N:Nat) (X:Xs) (lz:Bool) (left p:Nat):En:=if left=0 then [] else ((X p).filter fun e=>decide (p < e.1)).flatMap fun e=>beh e (fu N X lz (less left) e.1)
theorem ZqP {N:Nat} {X:Xs} (hX:Rng N X) (lz:Bool) (f:Nat) :∀f' left p,p<=N->N + 1 - p<=f->N + 1 - p<=f'->fuF X lz f left p=fuF X lz f' left p:=by
 induction f with
 | zero=>intro f' left p hp h; omega
 | succ f ih =>
   intro f' left p hp h h';obtain ⟨m,rfl⟩ :∃m,f'=m + 1:=⟨f' - 1,by omega⟩;rw [fuF,fuF];have key :∀e∈(X p).filter (fun e=>decide (p < e.1)),beh e (fuF X lz f (less left) e.1)=beh e (fuF X lz m (less left) e.1):=by
    intro e he;rw [List.mem_filter] at he;obtain ⟨he,hc⟩:=he;obtain ⟨h1,h2⟩:=hX p hp e he;simp only [decide_eq_true_eq] at hc;rw [ih m _ _ h2 (by omega) (by omega)]
   rw [QG _ _ _ key]
theorem Zs3 {N:Nat} {X:Xs} (hX:Rng N X) (lz:Bool) (left p:Nat) (hp:p<=N):fu N X lz left p=if lz then (p,eno) :: Zap N X lz left p else Zap N X lz left p ++ [(p,eno)]:=by
 unfold fu;obtain ⟨m,hm⟩ :∃m,N + 1 - p=m + 1:=⟨N - p,by omega⟩;rw [hm,fuF];have key :∀e∈(X p).filter (fun e=>decide (p < e.1)),beh e (fuF X lz m (less left) e.1)=beh e (fu N X lz (less left) e.1):=by
  intro e he;rw [List.mem_filter] at he;obtain ⟨he,hc⟩:=he;obtain ⟨h1,h2⟩:=hX p hp e he;simp only [decide_eq_true_eq] at hc;unfold fu;rw [ZqP hX lz m (N + 1 - e.1) _ _ h2 (by omega) (by omega)]
 rw [QG _ _ _ key];rfl
def ZaX (N:Nat) (X:Xs) (lz:Bool) (left p:Nat) (e:Ef) (L:En):En:=(L.filter fun f=>decide (p < f.1)).flatMap fun f=>beh (f.1,eov e f.2) (fu N X lz (less left) f.1)
theorem Zjx (N:Nat) (X:Xs) (lz:Bool) (left p:Nat) (e:Ef):ZaX N X lz left p e [] = []:=rfl
theorem Zhb (N:Nat) (X:Xs) (lz:Bool) (left p:Nat) (e:Ef) (L:En) (f:Nat×Ef):ZaX N X lz left p e (L ++ [f])=ZaX N X lz left p e L ++ (if p < f.1 then beh (f.1,eov e f.2) (fu N X lz (less left) f.1) else []):=by
 unfold ZaX;rw [List.filter_append,List.flatMap_append]
 congr 1
 by_cases h:p < f.1 <;> simp [h]
theorem Zjy (N:Nat) (X:Xs) (lz:Bool) (left p:Nat) (e:Ef) (hl:left≠0):ZaX N X lz left p e (X p)=beh (p,e) (Zap N X lz left p):=by
 unfold ZaX Zap;rw [if_neg hl,ZiE]
 congr 1
 funext a
 rw [Zq9 (p,e) a a.1]
def Clo (N:Nat) (X:Xs) (lz:Bool) (sn:Nat->Nat->Bool) (M:En) (p:Nat):Prop :=∀q lf,p<=q->q<=N->sn q lf=true->∀e∈fu N X lz lf q,sal sno M e.1=true
structure VPc (G n j:Nat) (c:Pc):Prop where
 kids :∀k∈c.kids,(n:Int)<=k/\k < (n:Int) + j
 rep:c.kind=4->c.kids.length=1/\0<=c.min/\c.min<=50/\(c.max = -1\/c.min<=c.max)/\c.max<=50
 grp:c.kind=5->c.kids.length=1/\0 < c.num/\c.num<=(G:Int)
def VPs (G:Nat) (n:Nat) (ps:List Pc):Prop :=∀j c,ps[j]? = some c->VPc G n j c
theorem ZiQ {G n:Nat} {a b:List Pc} (ha:VPs G n a) (hb:VPs G (n + a.length) b):VPs G n (a ++ b):=by
 intro j c h
 by_cases hj:j < a.length
 ·rw [List.getElem?_append_left hj] at h;exact ha j c h
 ·rw [List.getElem?_append_right (by omega)] at h
  have:=hb _ c h
  exact ⟨fun k hk=>by have:=this.kids k hk; push_cast at this; omega,this.rep,this.grp⟩
theorem Zeq {G n:Nat} {a:List Pc} {c:Pc} (ha:VPs G n a) (hc:VPc G n a.length c):VPs G n (a ++ [c]):=by
 intro j d h
 by_cases hj:j < a.length
 ·rw [List.getElem?_append_left hj] at h;exact ha j d h
 ·rw [List.getElem?_append_right (by omega)] at h;have hj2:j=a.length:=by
   have:=(List.getElem?_eq_some_iff.1 h).1
   simp at this;omega
  subst hj2;simp at h;subst h;exact hc
theorem Zp8 {G:Nat} {fs:List Pf} (h :∀f∈fs,∀n,VPs G n (f n)) :∀n,VPs G n (cat fs n):=by
 induction fs with
 | nil=>intro n j c h; simp [cat] at h
 | cons f fs ih =>
   intro n;simp only [cat];exact ZiQ (h f (by simp) n) (ih (fun g hg=>h g (by simp [hg])) _)
theorem ZcT {G n j:Nat} {c:Pc} (h1:c.kids = []) (h4:c.kind≠4) (h5:c.kind≠5):VPc G n j c :=
 ⟨fun k hk=>by rw [h1] at hk; simp at hk,fun h=>absurd h h4,fun h=>absurd h h5⟩
theorem Zb0 {G n:Nat} {c:Pc} (h:VPc G n 0 c):VPs G n [c]:=by
 have:=Zeq (G:=G) (n:=n) (a := []) (c:=c) (fun j c h=>by simp at h) h
 simpa using this
theorem ZhO {G:Nat} {fs:List Pf} {K:Int} (hK:K≠4/\K≠5) (h :∀f∈fs,(∀n,VPs G n (f n))/\Ful f) (n:Nat):VPs G n (cat fs n ++ [ZI K (ends fs n)]) :=
 Zeq (Zp8 (fun f hf=>(h f hf).1) n) ⟨fun k hk=>Zhj (fun f hf=>(h f hf).2) n k hk,fun h=>absurd h hK.1,fun h=>absurd h hK.2⟩
theorem Zsb {lo hi:Nat} {f:Pf} (h:Fg lo hi f) {G:Nat} (hG:hi<=G) :∀n,VPs G n (f n):=by
 have hh:=h (fun lo hi f=>hi<=G->((∀n,VPs G n (f n))/\Ful f))
  ⟨fun lo hi S _=>⟨fun n=>Zb0 (ZcT rfl (by simp [Zau]) (by simp [Zau])),Zd8 (Fg.cl.set lo hi S)⟩,
   fun lo hi _=>⟨fun n=>Zb0 (ZcT rfl (by decide) (by decide)),Zd8 (Fg.cl.start lo hi)⟩,
   fun lo hi _=>⟨fun n=>Zb0 (ZcT rfl (by decide) (by decide)),Zd8 (Fg.cl.fin lo hi)⟩,
   fun lo hi fs hl ih hg=>⟨fun n=>ZhO ⟨by decide,by decide⟩ (fun f hf=>ih f hf hg) n,fun n=>by simp [Jh]⟩,
   fun lo hi fs hl ih hg=>⟨fun n=>ZhO ⟨by decide,by decide⟩ (fun f hf=>ih f hf hg) n,fun n=>by simp [JW]⟩,
   fun lo hi f a b lz h0 h1 h2 h3 ih hg=>⟨fun n=>Zeq ((ih hg).1 n) ⟨fun k hk=>by have:=(ih hg).2 n; simp at hk; omega,fun _=>⟨rfl,h0,h1,h2,h3⟩,fun h=>by simp at h⟩,fun n=>by simp [Z9]⟩,
   fun lo hi f hl ih hg=>⟨fun n=>Zeq ((ih hg).1 n) ⟨fun k hk=>by have:=(ih hg).2 n; simp at hk; omega,fun h=>by simp at h,fun _=>⟨rfl,by simp only; omega,by simp only; omega⟩⟩,fun n=>by simp [JT]⟩,
   fun lo hi lo' hi' f h1 h2 ih hg=>ih (by omega)⟩
 exact (hh hG).1
theorem ZnY {N G n:Nat} {X:Xs} (h:OkX N 0 G X) (hn:n < G):OkX N 0 G (Zm8 n X):=by
 intro p hp;unfold Zm8;refine ⟨?_,fun e he=>?_⟩
 ·rw [List.map_map];exact (h p hp).1
 ·rw [List.mem_map] at he;obtain ⟨b,hb,rfl⟩:=he;have h1:=(h p hp).2 b hb;refine ⟨h1.1,h1.2.1,?_⟩;intro i a c he;simp only [est] at he
  split at he
  ·rename_i hi';subst hi';simp only [Option.some.injEq,Prod.mk.injEq] at he;obtain ⟨rfl,rfl⟩:=he;exact ⟨Nat.zero_le _,hn,Nat.le_refl _,h1.1,Nat.le_refl _⟩
  ·exact h1.2.2 i a c he
theorem ZrV {u:ByteArray} {G i:Nat} {c:Pc} {K:Int->Xs} (hc:VPc G 0 i c) (hK :∀k∈c.kids,OkX u.size 0 G (K k)):OkX u.size 0 G (pcX u c K):=by
 unfold pcX
 split
 ·exact Zk9 (fun p hp=>by simp at hp; exact hp.1)
 split
 ·exact Zia
 split
 ·exact Zia
 split
 ·rename_i h5;obtain ⟨h1,h2,h3⟩:=hc.grp h5;obtain ⟨k,hk⟩:=List.length_eq_one_iff.1 h1;rw [hk];exact ZnY (hK k (by rw [hk]; simp)) (by omega)
 split
 ·exact Zla (fun X hX=>by obtain ⟨k,hk,rfl⟩:=List.mem_map.1 hX; exact hK k hk)
 split
 ·rename_i h4;obtain ⟨h1,_⟩:=hc.rep h4;obtain ⟨k,hk⟩:=List.length_eq_one_iff.1 h1;rw [hk];exact Zk8 (hK k (by rw [hk]; simp)) _
 ·exact Zk7 (fun X hX=>by obtain ⟨k,hk,rfl⟩:=List.mem_map.1 hX; exact hK k hk)
theorem J3 {u:ByteArray} {G:Nat} {ps:List Pc} (hV:VPs G 0 ps) {i:Nat} {c:Pc} (hc:ps[i]? = some c):xOf u ps i=pcX u c (fun k=>xOf u ps k.toNat):=by
 have h:=hV i c hc;refine ZrA u ps i c hc (fun k hk=>by have:=h.kids k hk; omega) (fun hn=>⟨fun h4=>?_,fun h5=>?_⟩)
 ·have:=(h.rep h4).1; rw [hn] at this; simp at this
 ·have:=(h.grp h5).1; rw [hn] at this; simp at this
theorem Zfp {u:ByteArray} {G:Nat} {ps:List Pc} (hV:VPs G 0 ps) :∀i,i < ps.length->OkX u.size 0 G (xOf u ps i):=by
 intro i
 induction i using Nat.strongRecOn with
 | ind i ih =>
   intro hi;have hc:ps[i]? = some ps[i]:=List.getElem?_eq_getElem hi;rw [J3 hV hc];refine ZrV (hV i _ hc) (fun k hk=>?_)
   have:=(hV i _ hc).kids k hk
   exact ih k.toNat (by omega) (by omega)
end Go.Proofs.YtfkflljplohhcaaGreatDoor
