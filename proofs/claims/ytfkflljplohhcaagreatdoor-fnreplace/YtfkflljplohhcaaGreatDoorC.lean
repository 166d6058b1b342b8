import Derived.Test.YtfkflljplohhcaaGreatDoorB
set_option linter.unusedVariables false
namespace Go.Proofs.YtfkflljplohhcaaGreatDoor
abbrev Vs:=Nat->Bool
def bq:Vs:=fun _=>false
def lT (s:Vs) (p:Nat):Vs:=fun x=>s x || x == p
def bI {α:Type} (s:Vs) (L:List (Nat×α)):Vs:=fun x=>s x || L.any (fun e=>e.1 == x)
def dd {α:Type}:Vs->List (Nat×α)->List (Nat×α)
 | _,[] => []
 | s,e::L=>if s e.1 then dd s L else e::dd (lT s e.1) L
section
variable {α β:Type}
variable {s:Vs}{p N lo hi lo' hi' g g' g0 G base i:Nat}{u:ByteArray}{w:World}{v:Value}
theorem ZiH(h:s p=true):lT s p=s:=by
 funext x
 unfold lT
 by_cases hx:x=p
 ·subst hx;simp[h]
 ·simp[hx]
theorem Q9(s:Vs):bI s ([]:List (Nat×α))=s:=by funext x;simp[bI]
theorem BX(s:Vs)(e:Nat×α)(L:List (Nat×α)):bI s (e::L)=bI (lT s e.1) L:=by
 funext x
 have:(e.1 == x)=(x == e.1):=by rw[Bool.eq_iff_iff,beq_iff_eq,beq_iff_eq];exact eq_comm
 simp only[bI,lT,List.any_cons,this,Bool.or_assoc]
theorem JT(s:Vs)(L M:List (Nat×α)):bI s (L++M)=bI (bI s L) M:=by
 funext x
 simp[bI,Bool.or_assoc]
theorem BZ(s:Vs)(L:List (Nat×α))(x:Nat)(h:s x=true):bI s L x=true:=by simp[bI,h]
theorem yn{L:List (Nat×α)}{e:Nat×α}(h:e∈L):bI s L e.1=true:=by
 simp only[bI,Bool.or_eq_true,List.any_eq_true];exact Or.inr ⟨e,h,by simp⟩
theorem LW{L:List (Nat×α)}{x:Nat}:bI s L x=true↔s x=true\/∃e∈L,e.1=x:=by
 simp only[bI,Bool.or_eq_true,List.any_eq_true,beq_iff_eq]
theorem ZiF{L:List (Nat×α)}{M:List (Nat×β)}(h:L.map (·.1)=M.map (·.1)):bI s L=bI s M:=by
 induction L generalizing s M with
 | nil=>cases M with
   | nil=>rw[Q9,Q9]
   | cons b M=>simp at h
 | cons a L ih=>cases M with
   | nil=>simp at h
   | cons b M =>
     simp only[List.map_cons,List.cons.injEq] at h;rw[BX,BX,h.1];exact ih h.2
theorem ZoL{L:List (Nat×α)}(h:∀e∈L,s e.1=true):bI s L=s:=by
 funext x
 rw[Bool.eq_iff_iff,LW];exact⟨fun h1=>h1.elim id (fun ⟨e,he,hx⟩=>hx ▸ h e he),Or.inl⟩
theorem XR(s:Vs):dd s ([]:List (Nat×α)) = []:=rfl
theorem Qn{e:Nat×α}{L:List (Nat×α)}(h:s e.1=true):dd s (e::L)=dd s L:=by rw[dd,if_pos h]
theorem Qf{e:Nat×α}{L:List (Nat×α)}(h:s e.1=false):dd s (e::L)=e::dd (lT s e.1) L:=by rw[dd,if_neg (by simp[h])]
theorem Jw(s:Vs)(L M:List (Nat×α)):dd s (L++M)=dd s L++dd (bI s L) M:=by
 induction L generalizing s with
 | nil=>simp[dd,Q9]
 | cons e L ih =>
   rw[List.cons_append,BX]
   by_cases h:s e.1=true
   ·rw[Qn h,Qn h,ih,ZiH h]
   ·simp only[Bool.not_eq_true] at h;rw[Qf h,Qf h,ih,List.cons_append]
theorem zu(s:Vs)(L:List (Nat×α)):bI s (dd s L)=bI s L:=by
 induction L generalizing s with
 | nil=>rw[XR]
 | cons e L ih =>
   by_cases h:s e.1=true
   ·rw[Qn h,BX,ZiH h,ih]
   ·simp only[Bool.not_eq_true] at h;rw[Qf h,BX,BX,ih]
theorem DT{L:List (Nat×α)}(h:∀e∈L,s e.1=true):dd s L = []:=by
 induction L generalizing s with
 | nil=>rfl
 | cons e L ih=>rw[Qn (h e (by simp))];exact ih (fun e he=>h e (by simp[he]))
theorem BL{L:List (Nat×α)}:∀e∈dd s L,e∈L/\s e.1=false:=by
 induction L generalizing s with
 | nil=>intro e he;simp[dd] at he
 | cons a L ih =>
   intro e he
   by_cases h:s a.1=true
   ·rw[Qn h] at he;obtain⟨h1,h2⟩:=ih e he;exact⟨by simp[h1],h2⟩
   ·simp only[Bool.not_eq_true] at h;rw[Qf h] at he
    rcases List.mem_cons.1 he with rfl | he
    ·exact⟨by simp,h⟩
    ·obtain⟨h1,h2⟩:=ih e he;refine⟨by simp[h1],?_⟩;simp only[lT,Bool.or_eq_false_iff] at h2;exact h2.1
theorem Zt6(s:Vs)(g:Nat×α->Nat×β)(hg:∀e,(g e).1=e.1)(L:List (Nat×α)):dd s (L.map g)=(dd s L).map g:=by
 induction L generalizing s with
 | nil=>rfl
 | cons e L ih =>
   rw[List.map_cons]
   by_cases h:s e.1=true
   ·rw[Qn (by rw[hg];exact h),Qn h,ih]
   ·simp only[Bool.not_eq_true] at h;rw[Qf (by rw[hg];exact h),Qf h,ih,List.map_cons,hg]
theorem Ye(F:Nat×α->List (Nat×β))(hF:∀a b,a.1=b.1->(F a).map (·.1)=(F b).map (·.1))(L:List (Nat×α))(s t:Vs)(ht:∀a,t a.1=true->∀x∈F a,s x.1=true):
  dd s ((dd t L).flatMap F)=dd s (L.flatMap F):=by
 induction L generalizing s t with
 | nil=>rfl
 | cons e L ih =>
   rw[List.flatMap_cons]
   by_cases h:t e.1=true
   ·rw[Qn h,Jw,DT (ht e h),List.nil_append,ZoL (ht e h)];exact ih s t ht
   ·simp only[Bool.not_eq_true] at h;rw[Qf h,List.flatMap_cons,Jw,Jw]
    congr 1
    refine ih _ _ ?_;intro a ha x hx;simp only[lT,Bool.or_eq_true,beq_iff_eq] at ha
    rcases ha with ha | ha
    ·exact BZ _ _ _ (ht a ha x hx)
    ·rw[<- ZiF (hF a e ha)];exact yn hx
theorem Zja(F:Nat×α->List (Nat×β))(hF:∀a b,a.1=b.1->(F a).map (·.1)=(F b).map (·.1))(L:List (Nat×α))(s:Vs):
  dd s ((dd bq L).flatMap F)=dd s (L.flatMap F):=Ye F hF L s bq (fun a h=>by simp[bq] at h)
theorem Zva(s t:Vs)(h:∀x,t x=true->s x=true)(L:List (Nat×α)):dd s (dd t L)=dd s L:=by
 have:=Ye (fun a:Nat×α => [a]) (fun a b h=>by simp[h]) L s t (fun a ha x hx=>by simp at hx;subst hx;exact h _ ha)
 simpa using this
theorem Zt8(s:Vs)(L:List (Nat×α)):dd s (dd bq L)=dd s L:=Zva s bq (fun x h=>by simp[bq] at h) L
theorem ZlA{L M:List (Nat×α)}(h:dd s L=dd s M):bI s L=bI s M:=by rw[<- zu s L,h,zu]
theorem Mh(s:Vs)(L:List (Nat×α)):((dd s L).map (·.1)).Nodup:=by
 induction L generalizing s with
 | nil=>simp[dd]
 | cons e L ih =>
   by_cases h:s e.1=true
   ·rw[Qn h];exact ih s
   ·simp only[Bool.not_eq_true] at h;rw[Qf h,List.map_cons,List.nodup_cons];refine⟨?_,ih _⟩;intro hm;obtain⟨x,hx,he⟩:=List.mem_map.1 hm
    have:=(BL x hx).2
    simp[lT,he] at this
theorem XG{L:List (Nat×α)}(h:(L.map (·.1)).Nodup)(hs:∀e∈L,s e.1=false):dd s L=L:=by
 induction L generalizing s with
 | nil=>rfl
 | cons e L ih =>
   rw[List.map_cons,List.nodup_cons] at h;rw[Qf (hs e (by simp)),ih h.2];intro x hx;simp only[lT,Bool.or_eq_false_iff,hs x (by simp[hx]),true_and];simp only[beq_eq_false_iff_ne];intro he;exact h.1 (he ▸ List.mem_map_of_mem hx)
end
abbrev Ef:=Nat->Option (Nat×Nat)
def dG:Ef:=fun _=>none
def fQ (a b:Ef):Ef:=fun i=>(b i).or (a i)
def est (e:Ef) (n:Nat) (x:Nat×Nat):Ef:=fun i=>if i=n then some x else e i
theorem SL(a:Ef):fQ a dG=a:=by funext i;simp[fQ,dG]
theorem Zsv(a:Ef):fQ dG a=a:=by funext i;simp[fQ,dG]
theorem ZgE(a b c:Ef):fQ (fQ a b) c=fQ a (fQ b c):=by funext i;simp[fQ,Option.or_assoc]
abbrev En:=List (Nat×Ef)
abbrev Xs:=Nat->En
def aY (e:Nat×Ef) (L:En):En:=L.map fun f=>(f.1,fQ e.2 f.2)
def bnd (L:En) (X:Xs):En:=L.flatMap fun e=>aY e (X e.1)
def thn (L:En) (X:Xs):En:=dd bq (bnd L X)
def lW (L:En) (l:List Xs):En:=l.foldl thn L
def Lg:List Xs->Xs->Xs
 | [],Y=>Y
 | X::l,Y=>fun p=>bnd (X p) (Lg l Y)
theorem ZeF(e:Nat×Ef)(L:En):(aY e L).map (·.1)=L.map (·.1):=by simp[aY]
theorem ZsK(p:Nat)(L:En):aY (p,dG) L=L:=by simp[aY,Zsv]
theorem ZkE(e:Nat×Ef)(L M:En):aY e (L++M)=aY e L++aY e M:=by simp[aY]
theorem ZsL(a b:Nat×Ef)(p:Nat)(L:En):aY a (aY b L)=aY (p,fQ a.2 b.2) L:=by
 simp[aY,ZgE]
theorem Zjk(e:Nat×Ef){α:Type}(L:List α)(F : α->En):aY e (L.flatMap F)=L.flatMap fun a=>aY e (F a):=by
 simp[aY,List.map_flatMap]
theorem ZsD(p:Nat)(X:Xs):bnd [(p,dG)] X=X p:=by simp[bnd,ZsK]
theorem ZkC(L M:En)(X:Xs):bnd (L++M) X=bnd L X++bnd M X:=by simp[bnd]
theorem ZsE(X:Xs):bnd [] X = []:=rfl
theorem Zql(e:Nat×Ef)(L:En)(X:Xs):bnd (e::L) X=aY e (X e.1)++bnd L X:=by simp[bnd]
theorem ZsG(e:Nat×Ef)(L:En)(X:Xs):bnd (aY e L) X=aY e (bnd L X):=by
 unfold bnd;rw[Zjk];unfold aY;rw[List.flatMap_map]
 congr 1
 funext a
 simp[ZgE]
theorem ZsF(L:En)(X Y:Xs):bnd (bnd L X) Y=bnd L (fun p=>bnd (X p) Y):=by
 unfold bnd;rw[List.flatMap_assoc]
 congr 1
 funext a
 exact ZsG a (X a.1) Y
theorem Zqq(X:Xs)(a b:Nat×Ef)(h:a.1=b.1):(aY a (X a.1)).map (·.1)=(aY b (X b.1)).map (·.1):=by
 rw[ZeF,ZeF,h]
theorem Zt9(s:Vs)(L:En)(X:Xs):dd s (bnd (dd bq L) X)=dd s (bnd L X) :=
 Zja (fun e=>aY e (X e.1)) (Zqq X) L s
theorem lin(l:List Xs)(L:En)(Y:Xs)(s:Vs):dd s (bnd (lW L l) Y)=dd s (bnd L (Lg l Y)):=by
 induction l generalizing L with
 | nil=>rfl
 | cons X l ih =>
   show dd s (bnd (lW (thn L X) l) Y) = _;rw[ih,thn,Zt9,ZsF];rfl
def zf (l:List Xs):Xs:=fun p=>lW [(p,dG)] l
def rA (l:List Xs):Xs:=fun p=>dd bq (l.flatMap (· p))
def vO (n:Nat) (X:Xs):Xs:=fun p=>(X p).map fun f=>(f.1,est f.2 n (p,f.1))
def zg (has:Nat->Bool):Xs:=fun p=>if has p then [(p+1,dG)] else []
def pF (q:Nat):Xs:=fun p=>if p=q then [(p,dG)] else []
structure Rp where
 least:Nat
 most:Option Nat
 lazy:Bool
def less (left:Nat):Nat:=if 50<left then left else left-1
def jY (X:Xs) (lazy:Bool):Nat->Nat->Nat->En
 | 0,_,_ => []
 | f+1,left,p =>
   let more:=if left=0 then [] else ((X p).filter fun e=>decide (p<e.1)).flatMap fun e=>aY e (jY X lazy f (less left) e.1)
   if lazy then (p,dG)::more else more++[(p,dG)]
def Rp.left (r:Rp) (d:Nat):Nat:=match r.most with | none=>51 | some m=>m-d
def uS (N:Nat) (r:Rp) (X:Xs):Xs:=fun p=>dd bq (bnd (lW [(p,dG)] (List.replicate r.least X)) fun q=>jY X r.lazy (N+1-q) (r.left r.least) q)
def iE (N:Nat) (X:Xs):Prop :=∀p,p<=N->∀e∈X p,p<=e.1/\e.1<=N
def iJ (X:Xs) (r:Rp):Nat->Nat->Nat->En
 | 0,_,_ => []
 | f+1,d,p =>
   let ag:=if r.most=some d then [] else ((X p).filter fun e => !(decide (r.least<=d) && e.1 == p)).flatMap fun e=>aY e (iJ X r f (d+1) e.1)
   if d<r.least then ag else if r.lazy then (p,dG)::ag else ag++[(p,dG)]
def iO (N:Nat) (r:Rp) (d p:Nat):Nat:=(r.least-d)+(N+1-p)
def wg (N:Nat) (X:Xs) (r:Rp) (d p:Nat):En:=iJ X r (iO N r d p) d p
def wa (N:Nat) (X:Xs) (r:Rp) (d p:Nat):En:=if r.most=some d then [] else ((X p).filter fun e => !(decide (r.least<=d) && e.1 == p)).flatMap fun e=>aY e (wg N X r (d+1) e.1)
theorem QK{α β:Type}(L:List α)(F G : α->List β)(h:∀a∈L,F a=G a):L.flatMap F=L.flatMap G:=by
 induction L with
 | nil=>rfl
 | cons a L ih=>rw[List.flatMap_cons,List.flatMap_cons,h a (by simp),ih (fun b hb=>h b (by simp[hb]))]
variable {N p lo hi lo' hi' g g' g0 G base i:Nat}{u:ByteArray}{w:World}{v:Value}
theorem Zru{X:Xs}(hX:iE N X)(r:Rp)(f:Nat):∀f' d p,p<=N->iO N r d p<=f->iO N r d p<=f'->iJ X r f d p=iJ X r f' d p:=by
 induction f with
 | zero=>intro f' d p hp h;unfold iO at h;omega
 | succ f ih =>
   intro f' d p hp h h';obtain⟨m,rfl⟩:∃m,f'=m+1:=⟨f'-1,by unfold iO at *;omega⟩;rw[iJ,iJ];have key:∀e∈(X p).filter (fun e => !(decide (r.least<=d) && e.1 == p)),aY e (iJ X r f (d+1) e.1)=aY e (iJ X r m (d+1) e.1):=by
    intro e he;rw[List.mem_filter] at he;obtain⟨he,hc⟩:=he;obtain⟨h1,h2⟩:=hX p hp e he;simp only[Bool.not_eq_true',Bool.and_eq_false_iff,decide_eq_false_iff_not,beq_eq_false_iff_ne] at hc;have hlt:iO N r (d+1) e.1+1<=iO N r d p:=by unfold iO at *;omega
    rw[ih m _ _ h2 (by omega) (by omega)]
   rw[QK _ _ _ key]
theorem Xz{X:Xs}(hX:iE N X)(r:Rp)(d p:Nat)(hp:p<=N):
  wg N X r d p=if d<r.least then wa N X r d p else if r.lazy then (p,dG)::wa N X r d p else wa N X r d p++[(p,dG)]:=by
 unfold wg;obtain⟨m,hm⟩:∃m,iO N r d p=m+1:=⟨iO N r d p-1,by unfold iO at *;omega⟩;rw[hm,iJ];have key:∀e∈(X p).filter (fun e => !(decide (r.least<=d) && e.1 == p)),aY e (iJ X r m (d+1) e.1)=aY e (wg N X r (d+1) e.1):=by
  intro e he;rw[List.mem_filter] at he;obtain⟨he,hc⟩:=he;obtain⟨h1,h2⟩:=hX p hp e he;simp only[Bool.not_eq_true',Bool.and_eq_false_iff,decide_eq_false_iff_not,beq_eq_false_iff_ne] at hc;have hlt:iO N r (d+1) e.1+1<=iO N r d p:=by unfold iO at *;omega
  unfold wg;rw[Zru hX r m (iO N r (d+1) e.1) _ _ h2 (by omega) (by omega)]
 rw[QK _ _ _ key];rfl
theorem Zrv{X:Xs}(hX:iE N X)(r:Rp)(hm:∀m,r.most=some m->m<=50)(f:Nat):∀d p,p<=N->r.least<=d->(∀m,r.most=some m->d<=m)->iJ X r f d p=jY X r.lazy f (r.left d) p:=by
 induction f with
 | zero=>intro d p hp hd rR;rfl
 | succ f ih =>
   intro d p hp hd rR;rw[iJ,jY];have c1:(r.most=some d)↔(r.left d=0):=by
    unfold Rp.left
    cases hmm:r.most with
    | none=>simp
    | some m=>have:=rR m hmm;simp;omega
   have hfil:(X p).filter (fun e => !(decide (r.least<=d) && e.1 == p))=(X p).filter (fun e=>decide (p<e.1)):=by
    apply List.filter_congr;intro e he
    have:=hX p hp e he
    rw[Bool.eq_iff_iff];simp only[Bool.not_eq_true',Bool.and_eq_false_iff,decide_eq_false_iff_not,beq_eq_false_iff_ne,decide_eq_true_eq];omega
   rw[hfil,if_neg (by omega:¬d<r.least)]
   by_cases hc:r.most=some d
   ·rw[if_pos hc,if_pos (c1.1 hc)]
   ·rw[if_neg hc,if_neg (fun h=>hc (c1.2 h))];have hl:r.left (d+1)=less (r.left d):=by
     unfold Rp.left less
     cases hmm:r.most with
     | none=>simp
     | some m=>have:=rR m hmm;have:=hm m hmm;simp only;rw[if_neg (by omega)];omega
    have key:∀e∈(X p).filter (fun e=>decide (p<e.1)),aY e (iJ X r f (d+1) e.1)=aY e (jY X r.lazy f (less (r.left d)) e.1):=by
     intro e he;rw[List.mem_filter] at he;rw[ih (d+1) e.1 (hX p hp e he.1).2 (by omega) (fun m h=>by have:=rR m h;have:m≠d:=fun h'=>hc (h' ▸ h);omega),hl]
    rw[QK _ _ _ key]
theorem ZuY{X:Xs}(hX:iE N X)(r:Rp)(hm:∀m,r.most=some m->m<=50/\r.least<=m)(q:Nat)(hq:q<=N):jY X r.lazy (N+1-q) (r.left r.least) q=wg N X r r.least q:=by
 unfold wg;rw[<- Zrv hX r (fun m h=>(hm m h).1) _ _ _ hq (Nat.le_refl _) (fun m h=>(hm m h).2)]
 congr 1
 unfold iO;omega
theorem Zoo{X:Xs}(hX:iE N X)(r:Rp)(hm:∀m,r.most=some m->r.least<=m)(k:Nat):∀p,p<=N->k<=r.least->wg N X r (r.least-k) p=Lg (List.replicate k X) (wg N X r r.least) p:=by
 induction k with
 | zero=>intro p hp h;rfl
 | succ k ih =>
   intro p hp h;rw[Xz hX r _ p hp,if_pos (by omega),wa,if_neg (fun h'=>by have:=hm _ h';omega),List.replicate_succ];show _=bnd (X p) (Lg (List.replicate k X) (wg N X r r.least));have hfil:(X p).filter (fun e => !(decide (r.least<=r.least-(k+1)) && e.1 == p))=X p:=by
    rw[List.filter_eq_self];intro e he
    have:¬r.least<=r.least-(k+1):=by omega
    simp[this]
   rw[hfil];unfold bnd;refine QK _ _ _ ?_;intro e he;rw[show r.least-(k+1)+1=r.least-k by omega,ih e.1 (hX p hp e he).2 (by omega)]
variable {L:En}{e:Nat×Ef}
theorem Yo{X:Xs}(h:e∈bnd L X):∃a∈L,∃b∈X a.1,e=(b.1,fQ a.2 b.2):=by
 unfold bnd at h;rw[List.mem_flatMap] at h;obtain⟨a,ha,he⟩:=h;unfold aY at he;rw[List.mem_map] at he;obtain⟨b,hb,rfl⟩:=he;exact⟨a,ha,b,hb,rfl⟩
variable {l:List Xs}
theorem ZoT(h:∀X∈l,iE N X){q:Nat}(hL:∀e∈L,q<=e.1/\e.1<=N):∀e∈lW L l,q<=e.1/\e.1<=N:=by
 induction l generalizing L with
 | nil=>exact hL
 | cons X l ih =>
   refine ih (fun Y hY=>h Y (by simp[hY])) (L:=thn L X) ?_;intro e he;obtain⟨a,ha,b,hb,rfl⟩:=Yo (BL e he).1;have h1:=hL a ha;have h2:=h X (by simp) a.1 h1.2 b hb;exact⟨by show q<=b.1;omega,h2.2⟩
theorem ZtB{X:Xs}(hX:iE N X)(r:Rp)(hm:∀m,r.most=some m->m<=50/\r.least<=m)(p:Nat)(hp:p<=N)(s:Vs):dd s (uS N r X p)=dd s (wg N X r 0 p):=by
 have h1:=Zoo hX r (fun m h=>(hm m h).2) r.least p hp (Nat.le_refl _);rw[Nat.sub_self] at h1;rw[h1,uS,Zt8];have h2:=lin (List.replicate r.least X) [(p,dG)] (wg N X r r.least) s;rw[ZsD] at h2;rw[<- h2];have hr:=ZoT (N:=N) (l:=List.replicate r.least X) (fun Y hY=>by rw[List.eq_of_mem_replicate hY];exact hX) (q:=p) (L := [(p,dG)]) (fun e he=>by simp at he;subst he;simp[hp]);unfold bnd
 congr 1
 refine QK _ _ _ ?_;intro e he;show aY e (jY X r.lazy (N+1-e.1) (r.left r.least) e.1) = _;rw[ZuY hX r hm e.1 (hr e he).2]
def Rp.need (r:Rp) (d:Nat):Nat:=r.least-d
def Rp.room (r:Rp) (d:Nat):Nat:=match r.most with | none=>1 | some m=>m-d+1
theorem Y1{X:Xs}(hX:iE N X)(r:Rp)(hn:r.most=none)(f:Nat):∀d d' p,r.least<=d->r.least<=d'->iJ X r f d p=iJ X r f d' p:=by
 induction f with
 | zero=>intros;rfl
 | succ f ih =>
   intro d d' p h h';rw[iJ,iJ,hn,if_neg (by omega:¬d<r.least),if_neg (by omega:¬d'<r.least),if_neg (by simp:¬(none:Option Nat)=some d),if_neg (by simp:¬(none:Option Nat)=some d')];have e1:decide (r.least<=d)=true:=decide_eq_true h;have e2:decide (r.least<=d')=true:=decide_eq_true h';rw[e1,e2];have key:∀e∈(X p).filter (fun e => !(true && e.1 == p)),aY e (iJ X r f (d+1) e.1)=aY e (iJ X r f (d'+1) e.1):=fun e he=>by rw[ih (d+1) (d'+1) e.1 (by omega) (by omega)]
   rw[QK _ _ _ key]
theorem Yn{f:Nat×Ef}(h:e∈aY f L):∃b∈L,e.1=b.1:=by
 unfold aY at h;rw[List.mem_map] at h;obtain⟨b,hb,rfl⟩:=h;exact⟨b,hb,rfl⟩
theorem XV{f b:Nat×Ef}(h:b∈L):∃e∈aY f L,e.1=b.1:=⟨(b.1,fQ f.2 b.2),List.mem_map.2 ⟨b,h,rfl⟩,rfl⟩
theorem Zop{X:Xs}(r:Rp)(m:Nat)(hm:r.most=some m)(f:Nat):∀d d' p,r.least<=d->d<=d'->d'<=m->∀e∈iJ X r f d' p,∃e'∈iJ X r f d p,e'.1=e.1:=by
 induction f with
 | zero=>intro d d' p _ _ _ e he;simp[iJ] at he
 | succ f ih =>
   intro d d' p h h' h2 e he;rw[iJ,if_neg (by omega:¬d'<r.least)] at he;rw[iJ,if_neg (by omega:¬d<r.least)];have hag:∀e∈(if r.most=some d' then [] else ((X p).filter fun e => !(decide (r.least<=d') && e.1 == p)).flatMap fun e=>aY e (iJ X r f (d'+1) e.1)),∃e'∈(if r.most=some d then [] else ((X p).filter fun e => !(decide (r.least<=d) && e.1 == p)).flatMap fun e=>aY e (iJ X r f (d+1) e.1)),e'.1=e.1:=by
    intro e he
    by_cases hc:r.most=some d'
    ·rw[if_pos hc] at he;simp at he
    ·rw[if_neg hc] at he;have hd:d'<m:=by
      have:d'≠m:=fun h=>hc (h ▸ hm)
      omega
     rw[if_neg (by rw[hm];simp;omega)];rw[List.mem_flatMap] at he;obtain⟨a,ha,he⟩:=he;obtain⟨b,hb,hbe⟩:=Yn he;obtain⟨c,hc,hcb⟩:=ih (d+1) (d'+1) a.1 (by omega) (by omega) (by omega) b hb;obtain⟨z,hz,hzc⟩:=XV (f:=a) hc;refine⟨z,?_,by rw[hzc,hcb,hbe]⟩;rw[List.mem_flatMap];refine⟨a,?_,hz⟩;rw[List.mem_filter] at ha ⊢;refine⟨ha.1,?_⟩;have e1:decide (r.least<=d)=true:=decide_eq_true h;have e2:decide (r.least<=d')=true:=decide_eq_true (by omega);rw[e1];rw[e2] at ha;exact ha.2
   cases hl:r.lazy with
   | true =>
     rw[hl] at he;simp only[if_true] at he ⊢
     rcases List.mem_cons.1 he with rfl | he
     ·exact⟨(p,dG),by simp,rfl⟩
     ·obtain⟨e',h1,h2⟩:=hag e he;exact⟨e',List.mem_cons.2 (Or.inr h1),h2⟩
   | false =>
     rw[hl] at he;simp only[Bool.false_eq_true,if_false] at he ⊢
     rcases List.mem_append.1 he with he | he
     ·obtain⟨e',h1,h2⟩:=hag e he;exact⟨e',List.mem_append.2 (Or.inl h1),h2⟩
     ·refine⟨(p,dG),by simp,?_⟩;simp at he;rw[he]
theorem Zrt{X:Xs}(hX:iE N X)(r:Rp){d d':Nat}(hb:∀m,r.most=some m->r.least<=m/\d<=m/\d'<=m)(hn:r.need d'=r.need d)(hr:r.room d'<=r.room d):
  ∀e∈wg N X r d' p,∃e'∈wg N X r d p,e'.1=e.1:=by
 unfold Rp.need at hn
 by_cases hlt:d<r.least
 ·have:d'=d:=by omega
  subst this;exact fun e he=>⟨e,he,rfl⟩
 ·have h':r.least<=d':=by omega
  have hN:iO N r d' p=iO N r d p:=by unfold iO;omega
  intro e he;unfold wg at he ⊢;rw[hN] at he
  cases hm:r.most with
  | none =>
    rw[Y1 hX r hm _ d' d p h' (by omega)] at he;exact⟨e,he,rfl⟩
  | some m =>
    unfold Rp.room at hr;rw[hm] at hr;simp only at hr;obtain⟨h1,h2,h3⟩:=hb m hm;exact Zop r m hm _ d d' p (by omega) (by omega) h3 e he
def jd (rs:List (Int×Int)) (b:Int):Bool:=rs.any fun r=>decide (r.1<=b) && decide (b<=r.2)
def Xr (c:Pc):Rp := { least:=c.min.toNat,most:=if c.max<0 then none else some c.max.toNat,lazy:=c.lazy }
def gW (u:ByteArray) (c:Pc) (K:Int->Xs):Xs :=
 if c.kind=1 then zg (fun p=>decide (p<u.size) && jd c.set (bt u p))
 else if c.kind=6 then pF 0
 else if c.kind=7 then pF u.size
 else if c.kind=5 then vO (c.num.toNat-1) (K (c.kids.headD 0))
 else if c.kind=3 then rA (c.kids.map K)
 else if c.kind=4 then uS u.size (Xr c) (K (c.kids.headD 0))
 else zf (c.kids.map K)
def Vp:Xs:=fun _ => []
def zb (L:List Xs) (k:Int):Xs:=L.getD k.toNat Vp
def XA (u:ByteArray) (L:List Xs) (c:Pc):List Xs:=L++[gW u c (zb L)]
def nE (u:ByteArray) (ps:List Pc):List Xs:=ps.foldl (XA u) []
def jB (u:ByteArray) (ps:List Pc) (i:Nat):Xs:=(nE u ps).getD i Vp
theorem TZ(u:ByteArray)(ps:List Pc)(c:Pc):nE u (ps++[c])=nE u ps++[gW u c (zb (nE u ps))]:=by
 simp[nE,List.foldl_append,XA]
theorem IA{α:Type}{M:List α->Prop}(h0:M [])(h1:∀l a,M l->M (l++[a]))(l:List α):M l:=by
 have:∀(r:List α),M r.reverse:=by
  intro r
  induction r with
  | nil=>exact h0
  | cons a r ih=>rw[List.reverse_cons];exact h1 _ _ ih
 have:=this l.reverse
 rwa [List.reverse_reverse] at this
theorem Uy(u:ByteArray)(ps:List Pc):(nE u ps).length=ps.length:=by
 refine IA (M:=fun ps=>(nE u ps).length=ps.length) rfl (fun l a ih=>?_) ps;rw[TZ];simp[ih]
theorem Zod(u:ByteArray)(ps qs:List Pc):∃t,nE u (ps++qs)=nE u ps++t:=by
 refine IA (M:=fun qs =>∃t,nE u (ps++qs)=nE u ps++t) ⟨[],by simp⟩ (fun l a ih=>?_) qs;obtain⟨t,ht⟩:=ih;exact⟨t++[gW u a (zb (nE u (ps++l)))],by rw[<- List.append_assoc,TZ,ht,List.append_assoc]⟩
theorem Te(u:ByteArray)(ps qs:List Pc)(i:Nat)(h:i<ps.length):jB u (ps++qs) i=jB u ps i:=by
 obtain⟨t,ht⟩:=Zod u ps qs;unfold jB;rw[ht,List.getD_eq_getElem?_getD,List.getD_eq_getElem?_getD,List.getElem?_append_left (by rw[Uy];exact h)]
theorem Ee(u:ByteArray)(ps:List Pc)(c:Pc):jB u (ps++[c]) ps.length=gW u c (zb (nE u ps)):=by
 unfold jB;rw[TZ,List.getD_eq_getElem?_getD,List.getElem?_append_right (by rw[Uy];exact Nat.le_refl _),Uy,Nat.sub_self];rfl
theorem Yu(u:ByteArray)(ps:List Pc)(k:Int):zb (nE u ps) k=jB u ps k.toNat:=rfl
theorem Zgj(u:ByteArray)(c:Pc)(K K':Int->Xs)(h:∀k∈c.kids,K k=K' k)(h0:c.kids = []->K 0=K' 0):gW u c K=gW u c K':=by
 have hh:K (c.kids.headD 0)=K' (c.kids.headD 0):=by
  cases hk:c.kids with
  | nil=>exact h0 hk
  | cons a l=>exact h a (by simp[hk])
 have hm:c.kids.map K=c.kids.map K':=List.map_congr_left h;unfold gW;rw[hh,hm]
theorem Zte(u:ByteArray)(ps:List Pc)(i:Nat)(c:Pc)(hc:ps[i]?=some c)(hk:∀k∈c.kids,0<=k/\k<(i:Int))(h0:c.kids = []->c.kind≠4/\c.kind≠5):
  jB u ps i=gW u c (fun k=>jB u ps k.toNat):=by
 obtain⟨hi,rfl⟩:=List.getElem?_eq_some_iff.1 hc;have e:ps=ps.take i++[ps[i]]++ps.drop (i+1):=by
  rw[<- List.take_succ_eq_append_getElem hi,List.take_append_drop]
 have hl:(ps.take i).length=i:=by simp;omega
 have h1:jB u ps i=gW u ps[i] (zb (nE u (ps.take i))):=by
  have h2:=Te u (ps.take i++[ps[i]]) (ps.drop (i+1)) i (by simp;omega);rw[<- e] at h2;rw[h2];have h3:=Ee u (ps.take i) ps[i];rw[hl] at h3;exact h3
 rw[h1];have hkk:∀k∈ps[i].kids,zb (nE u (ps.take i)) k=jB u ps k.toNat:=by
  intro k hk'
  have:=hk k hk'
  rw[Yu];have h2:=Te u (ps.take i) (ps.drop i) k.toNat (by rw[hl];omega);rw[List.take_append_drop] at h2;rw[h2]
 by_cases hn:ps[i].kids = []
 ·obtain⟨a,b⟩:=h0 hn;unfold gW;rw[if_neg b,if_neg b,if_neg a,if_neg a,hn];rfl
 ·exact Zgj u _ _ _ hkk (fun h=>absurd h hn)
def dx (u:ByteArray) (pre:List Pc) (f:Pf):Xs:=jB u (pre++f pre.length) (pre.length+(f pre.length).length-1)
def gY (u:ByteArray):List Pc->List Pf->List Xs
 | _,[] => []
 | pre,f::fs=>dx u pre f::gY u (pre++f pre.length) fs
theorem YH(u:ByteArray)(pre:List Pc)(S:Bs):dx u pre (Qy S)=zg (fun p=>decide (p<u.size) && jd (Ja S) (bt u p)):=by
 unfold dx Qy;show jB u (pre++[lQ S]) (pre.length+1-1) = _;rw[Nat.add_sub_cancel,Ee];rfl
theorem Zf4(u:ByteArray)(pre:List Pc):dx u pre QQ=pF 0:=by
 unfold dx QQ;show jB u (pre++[_]) (pre.length+1-1) = _;rw[Nat.add_sub_cancel,Ee];rfl
theorem YD(u:ByteArray)(pre:List Pc):dx u pre oh=pF u.size:=by
 unfold dx oh;show jB u (pre++[_]) (pre.length+1-1) = _;rw[Nat.add_sub_cancel,Ee];rfl
def jO (f:Pf):Prop :=∀n,0<(f n).length
theorem ZiA(u:ByteArray)(pre:List Pc)(f:Pf)(c:Nat->Pc)(hc:(c pre.length).kids = [(pre.length:Int)+(f pre.length).length-1])(hf:jO f):
  dx u pre (fun n=>f n++[c n])=gW u (c pre.length) (fun _=>dx u pre f):=by
 have h0:=hf pre.length;unfold dx;show jB u (pre++(f pre.length++[c pre.length])) _ = _;rw[<- List.append_assoc];have e:pre.length+(f pre.length++[c pre.length]).length-1=(pre++f pre.length).length:=by simp
 rw[e,Ee];refine Zgj u _ _ _ ?_ (fun h=>by rw[hc] at h;simp at h);intro k hk;rw[hc] at hk;simp at hk;subst hk;rw[Yu]
 congr 1
 omega
variable {fs:List Pf}
theorem ZhU(hf:∀f∈fs,jO f):∀n,∀k∈ends fs n,(n:Int)<=k/\k<(n:Int)+(cat fs n).length:=by
 induction fs with
 | nil=>intro n k hk;simp[ends] at hk
 | cons f fs ih =>
   intro n k hk;have h0:=hf f (by simp) n;simp only[ends,List.mem_cons] at hk;simp only[cat,List.length_append]
   rcases hk with rfl | hk
   ·omega
   ·have:=ih (fun g hg=>hf g (by simp[hg])) _ k hk
    push_cast at this ⊢
    omega
theorem Zp0(u:ByteArray)(hf:∀f∈fs,jO f):∀(pre post:List Pc),(ends fs pre.length).map (fun k=>jB u (pre++cat fs pre.length++post) k.toNat)=gY u pre fs:=by
 induction fs with
 | nil=>intro pre post;rfl
 | cons f fs ih =>
   intro pre post;have h0:=hf f (by simp) pre.length;simp only[ends,cat,gY,List.map_cons]
   congr 1
   ·unfold dx;have e:((pre.length:Int)+(f pre.length).length-1).toNat=pre.length+(f pre.length).length-1:=by omega
    rw[e]
    have:pre++(f pre.length++cat fs (pre.length+(f pre.length).length))++post=(pre++f pre.length)++(cat fs (pre.length+(f pre.length).length)++post):=by simp
    rw[this,Te u _ _ _ (by simp;omega)]
   ·have:=ih (fun g hg=>hf g (by simp[hg])) (pre++f pre.length) post
    rw[List.length_append] at this;rw[<- this];simp
theorem ZiB(u:ByteArray)(pre:List Pc)(fs:List Pf)(K:Int)(hf:∀f∈fs,jO f):
  dx u pre (fun n=>cat fs n++[ZL K (ends fs n)])=if K=3 then rA (gY u pre fs) else if K=2 then zf (gY u pre fs) else dx u pre (fun n=>cat fs n++[ZL K (ends fs n)]):=by
 have key:K=3\/K=2->dx u pre (fun n=>cat fs n++[ZL K (ends fs n)])=if K=3 then rA (gY u pre fs) else zf (gY u pre fs):=by
  intro hK;unfold dx;show jB u (pre++(cat fs pre.length++[ZL K (ends fs pre.length)])) _ = _;rw[<- List.append_assoc];have e:pre.length+(cat fs pre.length++[ZL K (ends fs pre.length)]).length-1=(pre++cat fs pre.length).length:=by simp
  rw[e,Ee];have hs:=Zp0 u hf pre [];rw[List.append_nil] at hs;have hm:(ends fs pre.length).map (zb (nE u (pre++cat fs pre.length)))=gY u pre fs:=hs
  rcases hK with rfl | rfl
  ·simp[gW,ZL,hm]
  ·simp[gW,ZL,hm]
 by_cases h3:K=3
 ·rw[if_pos h3,key (Or.inl h3),if_pos h3]
 ·by_cases h2:K=2
  ·rw[if_neg h3,if_pos h2,key (Or.inr h2),if_neg h3]
  ·rw[if_neg h3,if_neg h2]
theorem YG(u:ByteArray)(pre:List Pc)(fs:List Pf)(hf:∀f∈fs,jO f):dx u pre (QV fs)=zf (gY u pre fs):=by
 have:=ZiB u pre fs 2 hf
 rw[if_neg (by decide),if_pos rfl] at this;exact this
theorem YC(u:ByteArray)(pre:List Pc)(fs:List Pf)(hf:∀f∈fs,jO f):dx u pre (JQ fs)=rA (gY u pre fs):=by
 have:=ZiB u pre fs 3 hf
 rw[if_pos rfl] at this;exact this
theorem YF(u:ByteArray)(pre:List Pc)(lo hi:Int)(lz:Bool)(f:Pf)(hf:jO f):dx u pre (Z5 lo hi lz f)=uS u.size { least:=lo.toNat,most:=if hi<0 then none else some hi.toNat,lazy:=lz } (dx u pre f):=by
 unfold Z5;rw[ZiA u pre f (fun n => { kind:=4,set := [],min:=lo,max:=hi,lazy:=lz,num:=0,kids := [(n:Int)+(f n).length-1] }) rfl hf];rfl
theorem YE(u:ByteArray)(pre:List Pc)(num:Int)(f:Pf)(hf:jO f):dx u pre (JN num f)=vO (num.toNat-1) (dx u pre f):=by
 unfold JN;rw[ZiA u pre f (fun n => { kind:=5,set := [],min:=0,max:=0,lazy:=false,num:=num,kids := [(n:Int)+(f n).length-1] }) rfl hf];rfl
structure Xo (P:Nat->Nat->Pf->Prop):Prop where
 set:∀(lo hi:Nat) (S:Bs),P lo hi (Qy S)
 start:∀lo hi:Nat,P lo hi QQ
 fin:∀lo hi:Nat,P lo hi oh
 seq:∀(lo hi:Nat) (fs:List Pf),fs.length<=1000->(∀f∈fs,P lo hi f)->P lo hi (QV fs)
 alt:∀(lo hi:Nat) (fs:List Pf),fs.length<=1000->(∀f∈fs,P lo hi f)->P lo hi (JQ fs)
 rep:∀(lo hi:Nat) (f:Pf) (a b:Int) (lz:Bool),0<=a->a<=50->(b = -1\/a<=b)->b<=50->P lo hi f->P lo hi (Z5 a b lz f)
 iZ:∀(lo hi:Nat) (f:Pf),lo<hi->P (lo+1) hi f->P lo hi (JN ((lo:Int)+1) f)
 wide:∀(lo hi lo' hi':Nat) (f:Pf),lo'<=lo->hi<=hi'->P lo hi f->P lo' hi' f
def Fg (lo hi:Nat) (f:Pf):Prop :=∀P:Nat->Nat->Pf->Prop,Xo P->P lo hi f
theorem Fg.cl:Xo Fg :=
 ⟨fun lo hi S P c=>c.set lo hi S,fun lo hi P c=>c.start lo hi,fun lo hi P c=>c.fin lo hi,fun lo hi fs hl h P c=>c.seq lo hi fs hl fun f hf=>h f hf P c,fun lo hi fs hl h P c=>c.alt lo hi fs hl fun f hf=>h f hf P c,
  fun lo hi f a b lz h0 h1 h2 h3 h P c=>c.rep lo hi f a b lz h0 h1 h2 h3 (h P c),fun lo hi f hl h P c=>c.iZ lo hi f hl (h P c),fun lo hi lo' hi' f h1 h2 h P c=>c.wide lo hi lo' hi' f h1 h2 (h P c)⟩
variable {f:Pf}
theorem Fg.wide(h:Fg lo hi f)(h1:lo'<=lo)(h2:hi<=hi'):Fg lo' hi' f:=Fg.cl.wide lo hi lo' hi' f h1 h2 h
def zl (s:ByteArray) (alt:Nat->Nat->aS):Prop :=
 ∀p g f q g',p<=s.size->s.size<=120->g<=9->alt p g=.ok (f,q,g')->g<=g'/\Fg g g' f
theorem ZkH{s:ByteArray}{alt:Nat->Nat->aS}{room:Bool}(hs:s.size<=120)(G:ed s alt)(G2:zl s alt){q:Nat}(hp:p<s.size)(hg:g<=9)(h:Zd alt room s p g=.ok (f,q,g')):
  g<=g'/\Fg g g' f:=by
 unfold Zd at h
 split at h
 ·split at h
  ·simp at h
  ·rename_i hc
   split at h
   ·simp at h
   ·rename_i f1 q1 g1 ha;have h1:=G2 _ _ _ _ _ (by omega) hs (by omega) ha
    split at h
    ·simp only[Except.ok.injEq,Prod.mk.injEq] at h;obtain⟨e1,e2,e3⟩:=h;subst e1 e2 e3;exact⟨by omega,Fg.cl.iZ _ _ _ (by omega) h1.2⟩
    ·simp at h
 ·repeat' (split at h)
  all_goals simp only[Except.ok.injEq,Prod.mk.injEq,reduceCtorEq] at h
  all_goals obtain⟨h1,h2,h3⟩:=h
  all_goals subst h1 h2 h3
  all_goals first
   | exact⟨Nat.le_refl _,Fg.cl.set _ _ _⟩
   | exact⟨Nat.le_refl _,Fg.cl.start _ _⟩
   | exact⟨Nat.le_refl _,Fg.cl.fin _ _⟩
theorem ZhX{s:ByteArray}{q:Nat}{lo hi:Int}(hp:p<=s.size)(h:Zg s p=.ok (lo,hi,q)):0<=lo/\lo<=50/\(hi = -1\/lo<=hi)/\hi<=50:=by
 unfold Zg at h
 split at h
 ·simp at h
 ·rename_i h1;have p1:=ZS hp h1
  split at h
  ·simp at h
  ·split at h
   ·rename_i hb;have hb':=Zn hb (by omega)
    split at h
    ·simp at h
    ·rename_i h2;have p2:=ZS (by omega) h2
     split at h
     ·split at h
      ·simp only[Except.ok.injEq,Prod.mk.injEq] at h;omega
      ·simp at h
     ·split at h
      ·simp at h
      ·split at h
       ·simp only[Except.ok.injEq,Prod.mk.injEq] at h;omega
       ·simp at h
   ·split at h
    ·simp only[Except.ok.injEq,Prod.mk.injEq] at h;omega
    ·simp at h
theorem Zqj{s:ByteArray}{q q2:Nat}{lo hi:Int}(hq:q<s.size)(h:ZG s q=.ok (some (lo,hi),q2)):0<=lo/\lo<=50/\(hi = -1\/lo<=hi)/\hi<=50:=by
 unfold ZG at h
 split at h
 ·simp only[Except.ok.injEq,Prod.mk.injEq,Option.some.injEq] at h;omega
 ·split at h
  ·simp only[Except.ok.injEq,Prod.mk.injEq,Option.some.injEq] at h;omega
  ·split at h
   ·simp only[Except.ok.injEq,Prod.mk.injEq,Option.some.injEq] at h;omega
   ·split at h
    ·split at h
     ·simp at h
     ·rename_i hc
      have:=ZhX (by omega) hc
      simp only[Except.ok.injEq,Prod.mk.injEq,Option.some.injEq] at h;omega
    ·simp at h
theorem Zhs{s:ByteArray}{alt:Nat->Nat->aS}{room:Bool}(hs:s.size<=120)(G:ed s alt)(G2:zl s alt){q:Nat}(hp:p<s.size)(hg:g<=9)(h:Zm alt room s p g=.ok (f,q,g')):
  g<=g'/\Fg g g' f:=by
 unfold Zm at h
 split at h
 ·simp at h
 ·rename_i f1 q1 g1 ha;have h0:=ZZ G hp hg ha;have h1:=ZkH hs G G2 hp hg ha
  split at h
  ·simp at h
  ·simp only[Except.ok.injEq,Prod.mk.injEq] at h;obtain⟨e1,e2,e3⟩:=h;subst e1 e2 e3;exact h1
  ·rename_i lo hi q2 hc;have h2:=Uh (by omega) hc;have h3:=h2.2.2.1 (by simp);have h4:=Zqj (by omega) hc
   split at h
   ·simp only[Except.ok.injEq,Prod.mk.injEq] at h;obtain⟨e1,e2,e3⟩:=h;subst e1 e2 e3;exact⟨h1.1,Fg.cl.rep _ _ _ _ _ _ h4.1 h4.2.1 h4.2.2.1 h4.2.2.2 h1.2⟩
   ·simp only[Except.ok.injEq,Prod.mk.injEq] at h;obtain⟨e1,e2,e3⟩:=h;subst e1 e2 e3;exact⟨h1.1,Fg.cl.rep _ _ _ _ _ _ h4.1 h4.2.1 h4.2.2.1 h4.2.2.2 h1.2⟩
variable {fs':List Pf}
theorem ZjP{s:ByteArray}{alt:Nat->Nat->aS}{room:Bool}(hs:s.size<=120)(G:ed s alt)(G2:zl s alt){fu q:Nat}(hp:p<=s.size)(hg:g<=9)(h0:g0<=g)
  (hl:fs.length<=p) (hF:∀f∈fs,Fg g0 g f) (h:Zz alt room s fu p g fs=.ok (fs',q,g')) :
  p<=q/\g<=g'/\fs'.length<=120/\∀f∈fs',Fg g0 g' f:=by
 induction fu generalizing p g fs with
 | zero=>simp[Zz] at h
 | succ fu ih =>
   unfold Zz at h
   split at h
   ·rename_i hc;have hp':p<s.size:=by
     apply Decidable.byContradiction;intro hn;exact hc.1 (Z7 hn)
    split at h
    ·simp at h
    ·rename_i f1 q1 g1 hpc;have h1:=MO G hp' hg hpc;have h3:=Zhs hs G G2 hp' hg hpc;have h2:=ih (by omega) (by omega) (by omega) (by simp;omega) (fun f hf=>by
      rcases List.mem_append.1 hf with hf | hf
      ·exact(hF f hf).wide (Nat.le_refl _) h3.1
      ·simp at hf;subst hf;exact h3.2.wide h0 (Nat.le_refl _)) h
     exact⟨by omega,by omega,h2.2.2⟩
   ·simp only[Except.ok.injEq,Prod.mk.injEq] at h;obtain⟨e1,e2,e3⟩:=h;subst e1 e2 e3;exact⟨by omega,Nat.le_refl _,by omega,hF⟩
theorem Zf5{s:ByteArray}{alt:Nat->Nat->aS}{room:Bool}(hs:s.size<=120)(G:ed s alt)(G2:zl s alt){q:Nat}(hp:p<=s.size)(hg:g<=9)(h:ZJ alt room s p g=.ok (f,q,g')):
  g<=g'/\Fg g g' f:=by
 unfold ZJ at h
 split at h
 ·simp at h
 ·rename_i fs q1 g1 hl;have h1:=ZjP hs G G2 hp hg (Nat.le_refl g) (by simp) (by simp) hl;simp only[Except.ok.injEq,Prod.mk.injEq] at h;obtain⟨e1,e2,e3⟩:=h;subst e1 e2 e3;exact⟨h1.2.1,Fg.cl.seq _ _ _ (by omega) h1.2.2.2⟩
theorem ZkW{s:ByteArray}{alt:Nat->Nat->aS}{room:Bool}(hs:s.size<=120)(G:ed s alt)(G2:zl s alt){fu q:Nat}(hp:p<=s.size)(hg:g<=9)(h0:g0<=g)
  (hl:fs.length<=p+1) (hF:∀f∈fs,Fg g0 g f) (h:ZY alt room s fu p g fs=.ok (fs',q,g')) :
  g<=g'/\fs'.length<=121/\∀f∈fs',Fg g0 g' f:=by
 induction fu generalizing p g fs with
 | zero=>simp[ZY] at h
 | succ fu ih =>
   unfold ZY at h
   split at h
   ·rename_i hb;have hp':=Zn hb (by omega)
    split at h
    ·simp at h
    ·rename_i f1 q1 g1 hpc;have h1:=Q3 G (by omega) hg hpc;have h3:=Zf5 hs G G2 (by omega) hg hpc;have h2:=ih (by omega) (by omega) (by omega) (by simp;omega) (fun f hf=>by
      rcases List.mem_append.1 hf with hf | hf
      ·exact(hF f hf).wide (Nat.le_refl _) h3.1
      ·simp at hf;subst hf;exact h3.2.wide h0 (Nat.le_refl _)) h
     exact⟨by omega,h2.2⟩
   ·rename_i hb;simp only[Except.ok.injEq,Prod.mk.injEq] at h;obtain⟨e1,e2,e3⟩:=h;subst e1 e2 e3;exact⟨Nat.le_refl _,by omega,hF⟩
theorem ZdW{s:ByteArray}{alt:Nat->Nat->aS}{room:Bool}(G:ed s alt)(G2:zl s alt):zl s (QY alt room s):=by
 intro p g f q g' hp hs hg h;unfold QY at h
 split at h
 ·simp at h
 ·rename_i f1 q1 g1 hq;have h1:=Q3 G hp hg hq;have h3:=Zf5 hs G G2 hp hg hq
  split at h
  ·rename_i hb
   split at h
   ·simp at h
   ·rename_i fs q2 g2 hl;have h4:=ZkW hs G G2 (g0:=g) (by omega) h1.2.2.1 h3.1 (by simp) (fun f hf=>by simp at hf;subst hf;exact h3.2) hl;simp only[Except.ok.injEq,Prod.mk.injEq] at h;obtain⟨e1,e2,e3⟩:=h;subst e1 e2 e3;exact⟨by omega,Fg.cl.alt _ _ _ (by omega) h4.2.2⟩
  ·simp only[Except.ok.injEq,Prod.mk.injEq] at h;obtain⟨e1,e2,e3⟩:=h;subst e1 e2 e3;exact h3
theorem ZcQ(s:ByteArray)(d:Nat):zl s (Qt s d):=by
 induction d with
 | zero =>
   unfold Qt;exact ZdW (fun _ _ _ _ _ _ _ h=>by simp at h) (fun _ _ _ _ _ _ _ _ h=>by simp at h)
 | succ d ih =>
   unfold Qt;exact ZdW (QG s d) ih
def nI (N lo hi p:Nat) (e:Nat×Ef):Prop:=p<=e.1/\e.1<=N/\∀i a b,e.2 i=some (a,b)->lo<=i/\i<hi/\p<=a/\a<=b/\b<=e.1
def dh (N lo hi:Nat) (X:Xs):Prop :=∀p,p<=N->((X p).map (·.1)).Nodup/\∀e∈X p,nI N lo hi p e
theorem dh.eH{X:Xs}(h:dh N lo hi X):iE N X:=fun p hp e he=>⟨((h p hp).2 e he).1,((h p hp).2 e he).2.1⟩
theorem nI.wide(h:nI N lo hi p e)(h1:lo'<=lo)(h2:hi<=hi'):nI N lo' hi' p e :=
 ⟨h.1,h.2.1,fun i a b he=>by have:=h.2.2 i a b he;omega⟩
theorem dh.wide{X:Xs}(h:dh N lo hi X)(h1:lo'<=lo)(h2:hi<=hi'):dh N lo' hi' X :=
 fun p hp=>⟨(h p hp).1,fun e he=>((h p hp).2 e he).wide h1 h2⟩
theorem zC{q:Nat}(h:p<=q)(h2:q<=N):nI N lo hi p (q,dG):=⟨h,h2,fun i a b h=>by simp[dG] at h⟩
theorem YW{f:Nat×Ef}(h:nI N lo hi p e)(h2:nI N lo hi e.1 f):nI N lo hi p (f.1,fQ e.2 f.2):=by
 refine⟨by have:=h.1;have:=h2.1;show p<=f.1;omega,h2.2.1,?_⟩;intro i a b he;simp only[fQ,Option.or_eq_some_iff] at he
 rcases he with he | ⟨_,he⟩
 ·have:=h2.2.2 i a b he
  have:=h.1
  omega
 ·have:=h.2.2 i a b he
  have:=h2.1
  omega
theorem YV{X:Xs}(hL:∀e∈L,nI N lo hi p e)(hX:∀q,q<=N->∀e∈X q,nI N lo hi q e):∀e∈bnd L X,nI N lo hi p e:=by
 intro e he;obtain⟨a,ha,b,hb,rfl⟩:=Yo he;exact YW (hL a ha) (hX a.1 (hL a ha).2.1 b hb)
theorem L6(h:∀X∈l,dh N lo hi X)(hL:∀e∈L,nI N lo hi p e):∀e∈lW L l,nI N lo hi p e:=by
 induction l generalizing L with
 | nil=>exact hL
 | cons X l ih =>
   refine ih (fun Y hY=>h Y (by simp[hY])) (L:=thn L X) ?_;intro e he;exact YV hL (fun q hq e he=>(h X (by simp) q hq).2 e he) e (BL e he).1
theorem Uk(hL:(L.map (·.1)).Nodup):((lW L l).map (·.1)).Nodup:=by
 induction l generalizing L with
 | nil=>exact hL
 | cons X l ih=>exact ih (L:=thn L X) (Mh _ _)
theorem YY{has:Nat->Bool}(h:∀p,has p=true->p<N):dh N lo hi (zg has):=by
 intro p hp;unfold zg
 split
 ·rename_i hh;refine⟨by simp,fun e he=>?_⟩;simp at he;subst he;exact zC (by omega) (h p hh)
 ·exact⟨by simp,fun e he=>by simp at he⟩
theorem Lv{q:Nat}:dh N lo hi (pF q):=by
 intro p hp;unfold pF
 split
 ·refine⟨by simp,fun e he=>?_⟩;simp at he;subst he;exact zC (by omega) hp
 ·exact⟨by simp,fun e he=>by simp at he⟩
theorem Y0(h:∀X∈l,dh N lo hi X):dh N lo hi (zf l):=by
 intro p hp;unfold zf;exact⟨Uk (by simp),L6 h (fun e he=>by simp at he;subst he;exact zC (Nat.le_refl _) hp)⟩
theorem YX(h:∀X∈l,dh N lo hi X):dh N lo hi (rA l):=by
 intro p hp;unfold rA;refine⟨Mh _ _,fun e he=>?_⟩
 have:=(BL e he).1
 rw[List.mem_flatMap] at this;obtain⟨X,hX,he⟩:=this;exact(h X hX p hp).2 e he
theorem Zr6{X:Xs}(h:dh N lo hi X)(lz:Bool)(f:Nat):∀left p,p<=N->∀e∈jY X lz f left p,nI N lo hi p e:=by
 induction f with
 | zero=>intro left p hp e he;simp[jY] at he
 | succ f ih =>
   intro left p hp e he;have hmore:∀e∈(if left=0 then [] else ((X p).filter fun e=>decide (p<e.1)).flatMap fun e=>aY e (jY X lz f (less left) e.1)),nI N lo hi p e:=by
    intro e he
    split at he
    ·simp at he
    ·rw[List.mem_flatMap] at he;obtain⟨a,ha,he⟩:=he;rw[List.mem_filter] at ha;have h1:=(h p hp).2 a ha.1;unfold aY at he;rw[List.mem_map] at he;obtain⟨b,hb,rfl⟩:=he;exact YW h1 (ih _ _ h1.2.1 b hb)
   rw[jY] at he
   cases lz with
   | true =>
     simp only[if_true] at he
     rcases List.mem_cons.1 he with rfl | he
     ·exact zC (Nat.le_refl _) hp
     ·exact hmore e he
   | false =>
     simp only[Bool.false_eq_true,if_false] at he
     rcases List.mem_append.1 he with he | he
     ·exact hmore e he
     ·simp at he;subst he;exact zC (Nat.le_refl _) hp
theorem YZ{X:Xs}(h:dh N lo hi X)(r:Rp):dh N lo hi (uS N r X):=by
 intro p hp;unfold uS;refine⟨Mh _ _,fun e he=>?_⟩
 have:=(BL e he).1
 refine YV (L6 (l:=List.replicate r.least X) (fun Y hY=>by rw[List.eq_of_mem_replicate hY];exact h) (L := [(p,dG)]) (fun e he=>by simp at he;subst he;exact zC (Nat.le_refl _) hp)) ?_ e this;intro q hq e he;exact Zr6 h r.lazy _ _ q hq e he
theorem Zr5{X:Xs}(h:dh N (lo+1) hi X)(hl:lo<hi):dh N lo hi (vO lo X):=by
 intro p hp;unfold vO;refine⟨?_,fun e he=>?_⟩
 ·rw[List.map_map];exact(h p hp).1
 ·rw[List.mem_map] at he;obtain⟨b,hb,rfl⟩:=he;have h1:=(h p hp).2 b hb;refine⟨h1.1,h1.2.1,?_⟩;intro i a c he;simp only[est] at he
  split at he
  ·rename_i hi';subst hi';simp only[Option.some.injEq,Prod.mk.injEq] at he;obtain⟨rfl,rfl⟩:=he;exact⟨Nat.le_refl _,hl,Nat.le_refl _,h1.1,Nat.le_refl _⟩
  ·have:=h1.2.2 i a c he
   exact⟨by omega,by omega,by omega,by omega,by show c<=b.1;omega⟩
theorem DI(h:Fg lo hi f):jO f :=
 h (fun _ _ f=>jO f) ⟨fun _ _ S n=>by simp[Qy],fun _ _ n=>by simp[QQ],fun _ _ n=>by simp[oh],fun _ _ fs _ _ n=>by simp[QV],fun _ _ fs _ _ n=>by simp[JQ],fun _ _ f a b lz _ _ _ _ _ n=>by simp[Z5],fun _ _ f _ _ n=>by simp[JN],fun _ _ _ _ f _ _ h=>h⟩
theorem Ziy{M:Xs->Prop}(h:∀f∈fs,∀pre,M (dx u pre f)):∀pre,∀X∈gY u pre fs,M X:=by
 induction fs with
 | nil=>intro pre X hX;simp[gY] at hX
 | cons f fs ih =>
   intro pre X hX;simp only[gY,List.mem_cons] at hX
   rcases hX with rfl | hX
   ·exact h f (by simp) pre
   ·exact ih (fun g hg=>h g (by simp[hg])) _ X hX
theorem Zu0(u:ByteArray)(h:Fg lo hi f):∀pre,dh u.size lo hi (dx u pre f):=by
 have hh:=h (fun lo hi f=>jO f/\∀pre,dh u.size lo hi (dx u pre f))
  ⟨fun lo hi S=>⟨DI (Fg.cl.set lo hi S),fun pre=>by rw[YH];exact YY (fun p hp=>by simp at hp;exact hp.1)⟩,
   fun lo hi=>⟨DI (Fg.cl.start lo hi),fun pre=>by rw[Zf4];exact Lv⟩,
   fun lo hi=>⟨DI (Fg.cl.fin lo hi),fun pre=>by rw[YD];exact Lv⟩,
   fun lo hi fs hl ih=>⟨fun n=>by simp[QV],fun pre=>by rw[YG u pre fs (fun f hf=>(ih f hf).1)];exact Y0 (Ziy (fun f hf=>(ih f hf).2) pre)⟩,
   fun lo hi fs hl ih=>⟨fun n=>by simp[JQ],fun pre=>by rw[YC u pre fs (fun f hf=>(ih f hf).1)];exact YX (Ziy (fun f hf=>(ih f hf).2) pre)⟩,
   fun lo hi f a b lz _ _ _ _ ih=>⟨fun n=>by simp[Z5],fun pre=>by rw[YF u pre a b lz f ih.1];exact YZ (ih.2 pre) _⟩,
   fun lo hi f hl ih=>⟨fun n=>by simp[JN],fun pre=>by
    rw[YE u pre _ f ih.1]
    have:((lo:Int)+1).toNat-1=lo:=by omega
    rw[this];exact Zr5 (ih.2 pre) hl⟩,
   fun lo hi lo' hi' f h1 h2 ih=>⟨ih.1,fun pre=>(ih.2 pre).wide h1 h2⟩⟩
 exact hh.2
open Go.RowKit
structure Mt where
 ok:Bool
 fr:Int
 up:Int
 gs:List (Int×Int)
abbrev Mm:=Mt×Value
def Jx (x:Mm):List Value := [.bool x.1.ok,.int .i64 x.1.fr,.int .i64 x.1.up,x.2]
def rJ (w:World) (v:Value) (gs:List (Int×Int)):Prop:=w.ownsRow 0 118 2 v gs.length (ZD gs)
structure kg (w:World) (v:Value) (L:List Mm):Prop where
 row:w.ownsRow 0 38 4 v L.length (L.flatMap Jx)
 rows:∀x∈L,rJ w x.2 x.1.gs
theorem kg.same{w':World}{L:List Mm}(h:kg w v L)(k:Za ai w w'):kg w' v L :=
 ⟨Zb h.row k (fun _ _ h=>h),fun x hx=>Zb (h.rows x hx) k (fun _ _ h=>h)⟩
def gU (G:Nat) (e:Ef):List (Int×Int):=(List.range G).map fun i=>match e i with
 | none=>(-1,-1)
 | some (a,b)=>((a:Int),(b:Int))
theorem Jt(G:Nat)(e:Ef):(gU G e).length=G:=by simp[gU]
theorem ZmQ{e:Ef}{k:Nat}(hk:k<G)(h:e k=none):(gU G e)[k]'(by rw[Jt];exact hk)=(-1,-1):=by simp[gU,h]
theorem ZmP{e:Ef}{k a b:Nat}(hk:k<G)(h:e k=some (a,b)):(gU G e)[k]'(by rw[Jt];exact hk)=((a:Int),(b:Int)):=by simp[gU,h]
def QN (G p:Nat) (e:Nat×Ef):Mt := { ok:=true,fr:=p,up:=e.1,gs:=gU G e.2 }
theorem Tryz.jS:(Tryz.prog.info? 38).map (fun i=>(i.zero,i.size,i.bytes))=some (some (.agg #[.bool false,.int .i64 0,.int .i64 0,.slice none 0 0]),4,48):=by kernel_rfl
theorem Tryz.qD:(Tryz.prog.info? 118).map (fun i=>(i.zero,i.size,i.bytes))=some (some (.agg #[.int .i64 0,.int .i64 0]),2,16):=by kernel_rfl
theorem Zkl(l:List (Int×Int))(r:Int×Int):ZD (l++[r])=ZD l++[.int .i64 r.1,.int .i64 r.2]:=by simp[ZD]
theorem Y9{gs:List (Int×Int)}(h:w.ownsRow base 118 2 v gs.length (ZD gs))(hb:base<=w.heap.size)(hl:gs.length<=1000)(x y:Int):
  ∃v' w',Sem.run Tryz.prog (Builtin.append_ #[36,36] 36 #[v,.slice (some ⟨w.heap.size,0,none⟩) 1 1]) (w.alloc (.cells #[.int .i64 x,.int .i64 y] 118))=.ok v' w'/\w'.ownsRow base 118 2 v' (gs++[(x,y)]).length (ZD (gs++[(x,y)]))/\Za (v.ownBlock=some ·) w w':=by
 obtain⟨i0,hi,hz0,hz1,hz2⟩:=info_parts Tryz.qD;obtain⟨v',w3,hrun,ho,hgr,hbk⟩:=JF (P:=Tryz.prog) (w.alloc (.cells #[.int .i64 x,.int .i64 y] 118)) base 36 36 118 i0 _ 2 16 Tryz.underlying36 hi hz0 hz1 hz2 rfl (by decide) v gs.length _ (h.alloc _)
  (ak w.heap.size) 1 1 [.int .i64 x,.int .i64 y] rfl (aV w _ _) (by intro u hu;simp at hu;rcases hu with rfl | rfl <;> rfl) (by unfold maxLen;omega) (by omega) (by simp;omega)
 refine⟨v',w3,hrun,?_,((Za.refl _ w).alloc _).grown hgr (fun k hk _=>hk)⟩;rw[Zkl,List.length_append];exact ho
theorem ZgT{L:List Mm}(h:w.ownsRow base 38 4 v L.length (L.flatMap Jx))(hb:base<=w.heap.size)(hl:L.length<=100000)(x:Mm){ag:Option Addr}{ng cg:Nat}(hx:x.2=.slice ag ng cg):
  ∃v' w',Sem.run Tryz.prog (Builtin.append_ #[25,25] 25 #[v,.slice (some ⟨w.heap.size,0,none⟩) 1 1]) (w.alloc (.cells #[.bool x.1.ok,.int .i64 x.1.fr,.int .i64 x.1.up,x.2] 38))=.ok v' w'/\w'.ownsRow base 38 4 v' (L++[x]).length ((L++[x]).flatMap Jx)/\Za (v.ownBlock=some ·) w w':=by
 obtain⟨i0,hi,hz0,hz1,hz2⟩:=info_parts Tryz.jS;obtain⟨v',w3,hrun,ho,hgr,hbk⟩:=JF (P:=Tryz.prog) (w.alloc (.cells #[.bool x.1.ok,.int .i64 x.1.fr,.int .i64 x.1.up,x.2] 38)) base 25 25 38 i0 _ 4 48 Tryz.underlying25 hi hz0 hz1 hz2 rfl (by decide) v L.length _ (h.alloc _)
  (ak w.heap.size) 1 1 (Jx x) rfl (aV w _ _) (by intro u hu;simp[Jx,hx] at hu;rcases hu with rfl | rfl | rfl | rfl <;> rfl) (by unfold maxLen;omega) (by omega) (by simp;omega)
 refine⟨v',w3,hrun,?_,((Za.refl _ w).alloc _).grown hgr (fun k hk _=>hk)⟩;rw[List.flatMap_append,List.length_append];simpa using ho
end Go.Proofs.YtfkflljplohhcaaGreatDoor
namespace Go.Proofs.YtfkflljplohhcaaGreatDoor
def Qx {α:Type} (M L:List (Nat×α)):List (Nat×α):=M++dd (bI bq M) L
section
variable {α:Type}
theorem Y4(M:List (Nat×α)):Qx M []=M:=by simp[Qx,dd]
theorem ZiG(M L:List (Nat×α)):bI bq (Qx M L)=bI (bI bq M) L:=by rw[Qx,JT,zu]
theorem Qv(M A B:List (Nat×α)):Qx M (A++B)=Qx (Qx M A) B:=by
 rw[Qx,Qx,Qx,Jw,List.append_assoc,JT,zu]
theorem LY(M L:List (Nat×α))(h:∀e∈L,bI bq M e.1=true):Qx M L=M:=by rw[Qx,DT h,List.append_nil]
theorem ZgZ(M:List (Nat×α))(e:Nat×α)(h:bI bq M e.1=false):Qx M [e]=M++[e]:=by rw[Qx,Qf h,XR]
theorem Ml(L:List (Nat×α)):Qx [] L=dd bq L:=by rw[Qx,Q9,List.nil_append]
theorem IM(M L:List (Nat×α))(x:Nat)(h:bI bq M x=true):bI bq (Qx M L) x=true:=by rw[ZiG];exact BZ _ _ _ h
theorem Y3(M L:List (Nat×α))(e:Nat×α)(h:e∈L):bI bq (Qx M L) e.1=true:=by rw[ZiG];exact yn h
theorem ZkZ(M L:List (Nat×α))(h:(M.map (·.1)).Nodup):((Qx M L).map (·.1)).Nodup:=by
 unfold Qx;rw[List.map_append,List.nodup_append];refine⟨h,Mh _ _,?_⟩;intro a ha b hb he;subst he;obtain⟨y,hy,hya⟩:=List.mem_map.1 hb;obtain⟨z,hz,hza⟩:=List.mem_map.1 ha;have h1:=(BL y hy).2;have h2:bI bq M z.1=true:=yn hz;rw[hza,<- hya,h1] at h2;simp at h2
end
def fu (N:Nat) (X:Xs) (lz:Bool) (left p:Nat):En:=jY X lz (N+1-p) left p
def rG (N:Nat) (X:Xs) (lz:Bool) (left p:Nat):En:=if left=0 then [] else ((X p).filter fun e=>decide (p<e.1)).flatMap fun e=>aY e (fu N X lz (less left) e.1)
variable {N p lo hi lo' hi' g g' g0 G base i:Nat}{u:ByteArray}{w:World}{v:Value}
theorem Zsn{X:Xs}(hX:iE N X)(lz:Bool)(f:Nat):∀f' left p,p<=N->N+1-p<=f->N+1-p<=f'->jY X lz f left p=jY X lz f' left p:=by
 induction f with
 | zero=>intro f' left p hp h;omega
 | succ f ih =>
   intro f' left p hp h h';obtain⟨m,rfl⟩:∃m,f'=m+1:=⟨f'-1,by omega⟩;rw[jY,jY];have key:∀e∈(X p).filter (fun e=>decide (p<e.1)),aY e (jY X lz f (less left) e.1)=aY e (jY X lz m (less left) e.1):=by
    intro e he;rw[List.mem_filter] at he;obtain⟨he,hc⟩:=he;obtain⟨h1,h2⟩:=hX p hp e he;simp only[decide_eq_true_eq] at hc;rw[ih m _ _ h2 (by omega) (by omega)]
   rw[QK _ _ _ key]
theorem ZuZ{X:Xs}(hX:iE N X)(lz:Bool)(left p:Nat)(hp:p<=N):fu N X lz left p=if lz then (p,dG)::rG N X lz left p else rG N X lz left p++[(p,dG)]:=by
 unfold fu;obtain⟨m,hm⟩:∃m,N+1-p=m+1:=⟨N-p,by omega⟩;rw[hm,jY];have key:∀e∈(X p).filter (fun e=>decide (p<e.1)),aY e (jY X lz m (less left) e.1)=aY e (fu N X lz (less left) e.1):=by
  intro e he;rw[List.mem_filter] at he;obtain⟨he,hc⟩:=he;obtain⟨h1,h2⟩:=hX p hp e he;simp only[decide_eq_true_eq] at hc;unfold fu;rw[Zsn hX lz m (N+1-e.1) _ _ h2 (by omega) (by omega)]
 rw[QK _ _ _ key];rfl
def uV (N:Nat) (X:Xs) (lz:Bool) (left p:Nat) (e:Ef) (L:En):En:=(L.filter fun f=>decide (p<f.1)).flatMap fun f=>aY (f.1,fQ e f.2) (fu N X lz (less left) f.1)
theorem Zkj(N:Nat)(X:Xs)(lz:Bool)(left p:Nat)(e:Ef):uV N X lz left p e [] = []:=rfl
theorem ZhM(N:Nat)(X:Xs)(lz:Bool)(left p:Nat)(e:Ef)(L:En)(f:Nat×Ef):uV N X lz left p e (L++[f])=uV N X lz left p e L++(if p<f.1 then aY (f.1,fQ e f.2) (fu N X lz (less left) f.1) else []):=by
 unfold uV;rw[List.filter_append,List.flatMap_append]
 congr 1
 by_cases h:p<f.1 <;> simp[h]
theorem Zkk(N:Nat)(X:Xs)(lz:Bool)(left p:Nat)(e:Ef)(hl:left≠0):uV N X lz left p e (X p)=aY (p,e) (rG N X lz left p):=by
 unfold uV rG;rw[if_neg hl,Zjk]
 congr 1
 funext a
 rw[ZsL (p,e) a a.1]
def ve (N:Nat) (X:Xs) (lz:Bool) (sn:Nat->Nat->Bool) (M:En) (p:Nat):Prop :=∀q lf,p<=q->q<=N->sn q lf=true->∀e∈fu N X lz lf q,bI bq M e.1=true
structure IV (G n j:Nat) (c:Pc):Prop where
 kids:∀k∈c.kids,(n:Int)<=k/\k<(n:Int)+j
 rep:c.kind=4->c.kids.length=1/\0<=c.min/\c.min<=50/\(c.max = -1\/c.min<=c.max)/\c.max<=50
 iZ:c.kind=5->c.kids.length=1/\0<c.num/\c.num<=(G:Int)
def nG (G:Nat) (n:Nat) (ps:List Pc):Prop :=∀j c,ps[j]?=some c->IV G n j c
variable {a:List Pc}
theorem ZjA{n:Nat}{b:List Pc}(ha:nG G n a)(hb:nG G (n+a.length) b):nG G n (a++b):=by
 intro j c h
 by_cases hj:j<a.length
 ·rw[List.getElem?_append_left hj] at h;exact ha j c h
 ·rw[List.getElem?_append_right (by omega)] at h
  have:=hb _ c h
  exact⟨fun k hk=>by have:=this.kids k hk;push_cast at this;omega,this.rep,this.iZ⟩
variable {c:Pc}
theorem LQ{n:Nat}(ha:nG G n a)(hc:IV G n a.length c):nG G n (a++[c]):=by
 intro j d h
 by_cases hj:j<a.length
 ·rw[List.getElem?_append_left hj] at h;exact ha j d h
 ·rw[List.getElem?_append_right (by omega)] at h;have hj2:j=a.length:=by
   have:=(List.getElem?_eq_some_iff.1 h).1
   simp at this;omega
  subst hj2;simp at h;subst h;exact hc
variable {fs:List Pf}
theorem Zrw(h:∀f∈fs,∀n,nG G n (f n)):∀n,nG G n (cat fs n):=by
 induction fs with
 | nil=>intro n j c h;simp[cat] at h
 | cons f fs ih =>
   intro n;simp only[cat];exact ZjA (h f (by simp) n) (ih (fun g hg=>h g (by simp[hg])) _)
theorem TY{n j:Nat}(h1:c.kids = [])(h4:c.kind≠4)(h5:c.kind≠5):IV G n j c :=
 ⟨fun k hk=>by rw[h1] at hk;simp at hk,fun h=>absurd h h4,fun h=>absurd h h5⟩
theorem Uu{n:Nat}(h:IV G n 0 c):nG G n [c]:=by
 have:=LQ (G:=G) (n:=n) (a := []) (c:=c) (fun j c h=>by simp at h) h
 simpa using this
theorem Zir{K:Int}(hK:K≠4/\K≠5)(h:∀f∈fs,(∀n,nG G n (f n))/\jO f)(n:Nat):nG G n (cat fs n++[ZL K (ends fs n)]) :=
 LQ (Zrw (fun f hf=>(h f hf).1) n) ⟨fun k hk=>ZhU (fun f hf=>(h f hf).2) n k hk,fun h=>absurd h hK.1,fun h=>absurd h hK.2⟩
variable {f:Pf}
theorem Zt1(h:Fg lo hi f)(hG:hi<=G):∀n,nG G n (f n):=by
 have hh:=h (fun lo hi f=>hi<=G->((∀n,nG G n (f n))/\jO f))
  ⟨fun lo hi S _=>⟨fun n=>Uu (TY rfl (by simp[lQ]) (by simp[lQ])),DI (Fg.cl.set lo hi S)⟩,
   fun lo hi _=>⟨fun n=>Uu (TY rfl (by decide) (by decide)),DI (Fg.cl.start lo hi)⟩,
   fun lo hi _=>⟨fun n=>Uu (TY rfl (by decide) (by decide)),DI (Fg.cl.fin lo hi)⟩,
   fun lo hi fs hl ih hg=>⟨fun n=>Zir ⟨by decide,by decide⟩ (fun f hf=>ih f hf hg) n,fun n=>by simp[QV]⟩,
   fun lo hi fs hl ih hg=>⟨fun n=>Zir ⟨by decide,by decide⟩ (fun f hf=>ih f hf hg) n,fun n=>by simp[JQ]⟩,
   fun lo hi f a b lz h0 h1 h2 h3 ih hg=>⟨fun n=>LQ ((ih hg).1 n) ⟨fun k hk=>by have:=(ih hg).2 n;simp at hk;omega,fun _=>⟨rfl,h0,h1,h2,h3⟩,fun h=>by simp at h⟩,fun n=>by simp[Z5]⟩,
   fun lo hi f hl ih hg=>⟨fun n=>LQ ((ih hg).1 n) ⟨fun k hk=>by have:=(ih hg).2 n;simp at hk;omega,fun h=>by simp at h,fun _=>⟨rfl,by simp only;omega,by simp only;omega⟩⟩,fun n=>by simp[JN]⟩,
   fun lo hi lo' hi' f h1 h2 ih hg=>ih (by omega)⟩
 exact(hh hG).1
theorem Zpb{n:Nat}{X:Xs}(h:dh N 0 G X)(hn:n<G):dh N 0 G (vO n X):=by
 intro p hp;unfold vO;refine⟨?_,fun e he=>?_⟩
 ·rw[List.map_map];exact(h p hp).1
 ·rw[List.mem_map] at he;obtain⟨b,hb,rfl⟩:=he;have h1:=(h p hp).2 b hb;refine⟨h1.1,h1.2.1,?_⟩;intro i a c he;simp only[est] at he
  split at he
  ·rename_i hi';subst hi';simp only[Option.some.injEq,Prod.mk.injEq] at he;obtain⟨rfl,rfl⟩:=he;exact⟨Nat.zero_le _,hn,Nat.le_refl _,h1.1,Nat.le_refl _⟩
  ·exact h1.2.2 i a c he
theorem ZtG{K:Int->Xs}(hc:IV G 0 i c)(hK:∀k∈c.kids,dh u.size 0 G (K k)):dh u.size 0 G (gW u c K):=by
 unfold gW
 split
 ·exact YY (fun p hp=>by simp at hp;exact hp.1)
 split
 ·exact Lv
 split
 ·exact Lv
 split
 ·rename_i h5;obtain⟨h1,h2,h3⟩:=hc.iZ h5;obtain⟨k,hk⟩:=List.length_eq_one_iff.1 h1;rw[hk];exact Zpb (hK k (by rw[hk];simp)) (by omega)
 split
 ·exact YX (fun X hX=>by obtain⟨k,hk,rfl⟩:=List.mem_map.1 hX;exact hK k hk)
 split
 ·rename_i h4;obtain⟨h1,_⟩:=hc.rep h4;obtain⟨k,hk⟩:=List.length_eq_one_iff.1 h1;rw[hk];exact YZ (hK k (by rw[hk];simp)) _
 ·exact Y0 (fun X hX=>by obtain⟨k,hk,rfl⟩:=List.mem_map.1 hX;exact hK k hk)
variable {ps:List Pc}
theorem J9(hV:nG G 0 ps)(hc:ps[i]?=some c):jB u ps i=gW u c (fun k=>jB u ps k.toNat):=by
 have h:=hV i c hc;refine Zte u ps i c hc (fun k hk=>by have:=h.kids k hk;omega) (fun hn=>⟨fun h4=>?_,fun h5=>?_⟩)
 ·have:=(h.rep h4).1;rw[hn] at this;simp at this
 ·have:=(h.iZ h5).1;rw[hn] at this;simp at this
theorem Il(hV:nG G 0 ps):∀i,i<ps.length->dh u.size 0 G (jB u ps i):=by
 intro i
 induction i using Nat.strongRecOn with
 | ind i ih =>
   intro hi;have hc:ps[i]?=some ps[i]:=List.getElem?_eq_getElem hi;rw[J9 hV hc];refine ZtG (hV i _ hc) (fun k hk=>?_)
   have:=(hV i _ hc).kids k hk
   exact ih k.toNat (by omega) (by omega)
end Go.Proofs.YtfkflljplohhcaaGreatDoor
