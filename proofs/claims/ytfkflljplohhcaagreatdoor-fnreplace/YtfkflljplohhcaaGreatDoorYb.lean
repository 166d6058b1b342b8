import Derived.Test.YtfkflljplohhcaaGreatDoorC
import Derived.Test.YtfkflljplohhcaaGreatDoorW
import Derived.RangeFuncNested
set_option linter.unusedVariables false
namespace Go.Proofs.YtfkflljplohhcaaGreatDoor
def Fp (lo hi n:Nat) (l:List Pc):Prop :=∃f,Fg lo hi f/\f n=l
def uZ (lo hi:Nat):Nat->List Pf->Prop
 | _,[]=>True
 | n,f::fs=>Fp lo hi n (f n)/\uZ lo hi (n+(f n).length) fs
variable {lo hi lo' hi' a N j p d clock m:Nat}{w w':World}{t:TypeId}{v fv:Value}
theorem Fp.wide{n:Nat}{l:List Pc}(h:Fp lo hi n l)(h1:lo'<=lo)(h2:hi<=hi'):Fp lo' hi' n l:=by
 obtain⟨f,hf,he⟩:=h;exact⟨f,hf.wide h1 h2,he⟩
theorem uZ.wide(h1:lo'<=lo)(h2:hi<=hi'):∀(fs:List Pf) (n:Nat),uZ lo hi n fs->uZ lo' hi' n fs:=by
 intro fs
 induction fs with
 | nil=>intro n h;trivial
 | cons f fs ih=>intro n h;exact⟨h.1.wide h1 h2,ih _ h.2⟩
theorem QH{α:Type}{l m:List α}{a b : α}(h:l++[a]=m++[b]):l=m/\a=b:=by
 have:=List.append_inj' h rfl
 exact⟨this.1,by simpa using this.2⟩
theorem JL{α:Type}{m:List α}{a b : α}(h : [a]=m++[b]):a=b:=(QH (l := []) h).2
theorem XU:∀(fs Bh:List Pf) (n:Nat),(∀f∈fs,jO f)->(∀f∈Bh,Fg lo hi f)->ends fs n=ends Bh n->cat fs n=cat Bh n->uZ lo hi n fs:=by
 intro fs
 induction fs with
 | nil=>intros;trivial
 | cons f fs ih =>
   intro Bh n dV hfg he hc
   cases Bh with
   | nil=>simp[ends] at he
   | cons f0 Bh =>
     simp only[ends,List.cons.injEq] at he;simp only[cat] at hc;have hl:(f n).length=(f0 n).length:=by omega
     obtain⟨h1,h2⟩:=List.append_inj hc hl;refine⟨⟨f0,hfg f0 (by simp),h1.symm⟩,ih Bh _ (fun g hg=>dV g (by simp[hg])) (fun g hg=>hfg g (by simp[hg])) ?_ ?_⟩
     ·rw[he.2,hl]
     ·rw[h2,hl]
variable {f:Pf}
theorem Yt{K:Int}(hK:K=2\/K=3)(h:Fg lo hi f):∀(n:Nat) (fs:List Pf),(∀g∈fs,jO g)->f n=cat fs n++[ZL K (ends fs n)]->uZ lo hi n fs :=
 (h (fun lo hi f=>Fg lo hi f/\∀(n:Nat) (fs:List Pf),(∀g∈fs,jO g)->f n=cat fs n++[ZL K (ends fs n)]->uZ lo hi n fs)
  ⟨fun lo hi S=>⟨Fg.cl.set lo hi S,fun n fs _ he=>by
    have:=congrArg Pc.kind (JL he)
    simp[lQ,ZL] at this;omega⟩,
   fun lo hi=>⟨Fg.cl.start lo hi,fun n fs _ he=>by
    have:=congrArg Pc.kind (JL he)
    simp[ZL] at this;omega⟩,
   fun lo hi=>⟨Fg.cl.fin lo hi,fun n fs _ he=>by
    have:=congrArg Pc.kind (JL he)
    simp[ZL] at this;omega⟩,
   fun lo hi gs hl ih=>⟨Fg.cl.seq lo hi gs hl (fun g hg=>(ih g hg).1),fun n fs dV he=>by
    obtain⟨h1,h2⟩:=QH he;have h3:ends gs n=ends fs n:=by have:=congrArg Pc.kids h2;simpa [ZL] using this
    exact XU fs gs n dV (fun g hg=>(ih g hg).1) h3.symm h1.symm⟩,
   fun lo hi gs hl ih=>⟨Fg.cl.alt lo hi gs hl (fun g hg=>(ih g hg).1),fun n fs dV he=>by
    obtain⟨h1,h2⟩:=QH he;have h3:ends gs n=ends fs n:=by have:=congrArg Pc.kids h2;simpa [ZL] using this
    exact XU fs gs n dV (fun g hg=>(ih g hg).1) h3.symm h1.symm⟩,
   fun lo hi f a b lz h0 h1 h2 h3 ih=>⟨Fg.cl.rep lo hi f a b lz h0 h1 h2 h3 ih.1,fun n fs _ he=>by
    have:=congrArg Pc.kind (QH he).2
    simp[ZL] at this;omega⟩,
   fun lo hi f hl ih=>⟨Fg.cl.iZ lo hi f hl ih.1,fun n fs _ he=>by
    have:=congrArg Pc.kind (QH he).2
    simp[ZL] at this;omega⟩,
   fun lo hi lo' hi' f h1 h2 ih=>⟨Fg.cl.wide lo hi lo' hi' f h1 h2 ih.1,fun n fs dV he=>uZ.wide h1 h2 fs n (ih.2 n fs dV he)⟩⟩).2
variable {fs:List Pf}
theorem ZtV{n:Nat}(dV:∀g∈fs,jO g)(h:Fp lo hi n (QV fs n)):uZ lo hi n fs:=by
 obtain⟨f,hf,he⟩:=h;exact Yt (Or.inl rfl) hf n fs dV he
theorem ZtY{n:Nat}(dV:∀g∈fs,jO g)(h:Fp lo hi n (JQ fs n)):uZ lo hi n fs:=by
 obtain⟨f,hf,he⟩:=h;exact Yt (Or.inr rfl) hf n fs dV he
theorem ZtW{n:Nat}{a b:Int}{lz:Bool}(h:Fp lo hi n (Z5 a b lz f n)):(0<=a/\a<=50/\(b = -1\/a<=b)/\b<=50)/\Fp lo hi n (f n):=by
 obtain⟨g,hg,he⟩:=h;refine(hg (fun lo hi g=>Fg lo hi g/\∀(n:Nat) (a b:Int) (lz:Bool) (f:Pf),g n=Z5 a b lz f n->(0<=a/\a<=50/\(b = -1\/a<=b)/\b<=50)/\Fp lo hi n (f n))
  ⟨fun lo hi S=>⟨Fg.cl.set lo hi S,fun n a b lz f he=>?_⟩,fun lo hi=>⟨Fg.cl.start lo hi,fun n a b lz f he=>?_⟩,fun lo hi=>⟨Fg.cl.fin lo hi,fun n a b lz f he=>?_⟩,
   fun lo hi gs hl ih=>⟨Fg.cl.seq lo hi gs hl (fun g hg=>(ih g hg).1),fun n a b lz f he=>?_⟩,fun lo hi gs hl ih=>⟨Fg.cl.alt lo hi gs hl (fun g hg=>(ih g hg).1),fun n a b lz f he=>?_⟩,
   fun lo hi f0 a0 b0 lz0 h0 h1 h2 h3 ih=>⟨Fg.cl.rep lo hi f0 a0 b0 lz0 h0 h1 h2 h3 ih.1,fun n a b lz f he=>?_⟩,
   fun lo hi f0 hl ih=>⟨Fg.cl.iZ lo hi f0 hl ih.1,fun n a b lz f he=>?_⟩,
   fun lo hi lo' hi' f0 h1 h2 ih=>⟨Fg.cl.wide lo hi lo' hi' f0 h1 h2 ih.1,fun n a b lz f he=>⟨(ih.2 n a b lz f he).1,(ih.2 n a b lz f he).2.wide h1 h2⟩⟩⟩).2 n a b lz f he
 ·have:=congrArg Pc.kind (JL he);simp[lQ] at this
 ·have:=congrArg Pc.kind (JL he);simp at this
 ·have:=congrArg Pc.kind (JL he);simp at this
 ·have:=congrArg Pc.kind (QH he).2;simp[ZL] at this
 ·have:=congrArg Pc.kind (QH he).2;simp[ZL] at this
 ·obtain⟨e1,e2⟩:=QH he;have ea:=congrArg Pc.min e2;have eb:=congrArg Pc.max e2;simp only at ea eb;subst ea eb;exact⟨⟨h0,h1,h2,h3⟩,f0,ih.1,e1⟩
 ·have:=congrArg Pc.kind (QH he).2;simp at this
theorem ZtX{n:Nat}{num:Int}(h:Fp lo hi n (JN num f n)):∃l,lo<=l/\l<hi/\num=(l:Int)+1/\Fp (l+1) hi n (f n):=by
 obtain⟨g,hg,he⟩:=h;refine(hg (fun lo hi g=>Fg lo hi g/\∀(n:Nat) (num:Int) (f:Pf),g n=JN num f n->∃l,lo<=l/\l<hi/\num=(l:Int)+1/\Fp (l+1) hi n (f n))
  ⟨fun lo hi S=>⟨Fg.cl.set lo hi S,fun n num f he=>?_⟩,fun lo hi=>⟨Fg.cl.start lo hi,fun n num f he=>?_⟩,fun lo hi=>⟨Fg.cl.fin lo hi,fun n num f he=>?_⟩,
   fun lo hi gs hl ih=>⟨Fg.cl.seq lo hi gs hl (fun g hg=>(ih g hg).1),fun n num f he=>?_⟩,fun lo hi gs hl ih=>⟨Fg.cl.alt lo hi gs hl (fun g hg=>(ih g hg).1),fun n num f he=>?_⟩,
   fun lo hi f0 a0 b0 lz0 h0 h1 h2 h3 ih=>⟨Fg.cl.rep lo hi f0 a0 b0 lz0 h0 h1 h2 h3 ih.1,fun n num f he=>?_⟩,
   fun lo hi f0 hl ih=>⟨Fg.cl.iZ lo hi f0 hl ih.1,fun n num f he=>?_⟩,
   fun lo hi lo' hi' f0 h1 h2 ih=>⟨Fg.cl.wide lo hi lo' hi' f0 h1 h2 ih.1,fun n num f he=>?_⟩⟩).2 n num f he
 ·have:=congrArg Pc.kind (JL he);simp[lQ] at this
 ·have:=congrArg Pc.kind (JL he);simp at this
 ·have:=congrArg Pc.kind (JL he);simp at this
 ·have:=congrArg Pc.kind (QH he).2;simp[ZL] at this
 ·have:=congrArg Pc.kind (QH he).2;simp[ZL] at this
 ·have:=congrArg Pc.kind (QH he).2;simp at this
 ·obtain⟨e1,e2⟩:=QH he;have ea:=congrArg Pc.num e2;simp only at ea;exact⟨lo,Nat.le_refl _,hl,ea.symm,f0,ih.1,e1⟩
 ·obtain⟨l,g1,g2,g3,g4⟩:=ih.2 n num f he;exact⟨l,by omega,by omega,g3,g4.wide (Nat.le_refl _) h2⟩
theorem zi{pre:List Pc}(u:ByteArray)(h:Fp lo hi pre.length (f pre.length)):dh u.size lo hi (dx u pre f):=by
 obtain⟨g,hg,he⟩:=h
 have:=Zu0 u hg pre
 unfold dx at this ⊢;rw[he] at this;exact this
abbrev Rs:=List (Int×Int)
abbrev Tr:=Rs->Rs
abbrev Wn:=List (Nat×Tr)
abbrev Wt:=Nat->Wn
def ap (e:Ef):Tr:=fun g=>g.mapIdx fun i x=>match e i with | none=>x | some v=>((v.1:Int),(v.2:Int))
def pr (t:Tr) (L:Wn):Wn:=L.map fun x=>(x.1,fun g=>x.2 (t g))
def bn (L:En) (W:Wt):Wn:=L.flatMap fun e=>pr (ap e.2) (W e.1)
def sF (n p:Nat):Tr:=fun g=>g.mapIdx fun i x=>if i=n then ((p:Int),x.2) else x
def sT (n p:Nat):Tr:=fun g=>g.mapIdx fun i x=>if i=n then (x.1,(p:Int)) else x
theorem XL:ap dG=fun g=>g:=by
 funext g
 apply List.ext_getElem
 ·simp[ap]
 ·intro i h1 h2;simp[ap,dG]
theorem Zuo(a b:Ef)(g:Rs):ap b (ap a g)=ap (fQ a b) g:=by
 apply List.ext_getElem
 ·simp[ap]
 ·intro i h1 h2;simp only[ap,List.getElem_mapIdx,fQ]
  cases b i <;> simp
theorem Ih(e:Ef)(g:Rs):(ap e g).length=g.length:=by simp[ap]
theorem Ztw(n p:Nat)(g:Rs):(sF n p g).length=g.length:=by simp[sF]
theorem Ztv(n p:Nat)(g:Rs):(sT n p g).length=g.length:=by simp[sT]
theorem Zun(e:Ef)(n p q:Nat)(h:e n=none)(g:Rs):sT n q (ap e (sF n p g))=ap (est e n (p,q)) g:=by
 apply List.ext_getElem
 ·simp[ap,sF,sT]
 ·intro i h1 h2;simp only[ap,sF,sT,List.getElem_mapIdx,est]
  by_cases hi:i=n
  ·subst hi;simp[h]
  ·simp[hi]
theorem XE(a b:Tr)(L:Wn):pr a (pr b L)=pr (fun g=>b (a g)) L:=by simp[pr]
theorem XD(L:Wn):pr (fun g=>g) L=L:=by simp[pr]
theorem YP{α:Type}(t:Tr)(L:List α)(f : α->Wn):pr t (L.flatMap f)=L.flatMap fun a=>pr t (f a):=by simp[pr,List.map_flatMap]
theorem TR(t:Tr)(L:Wn):(pr t L).map (·.1)=L.map (·.1):=by simp[pr]
theorem Sd(s:Vs)(t:Tr)(L:Wn):dd s (pr t L)=pr t (dd s L):=Zt6 s (fun x:Nat×Tr=>((x.1,fun g=>x.2 (t g)):Nat×Tr)) (fun _=>rfl) L
theorem Ztu(s:Vs)(t:Tr)(L:Wn):bI s (pr t L)=bI s L:=ZiF (TR t L)
theorem XP(W:Wt):bn [] W = []:=rfl
theorem ZsI(e:Nat×Ef)(L:En)(W:Wt):bn (e::L) W=pr (ap e.2) (W e.1)++bn L W:=by simp[bn]
theorem ZnA(L M:En)(W:Wt):bn (L++M) W=bn L W++bn M W:=by simp[bn]
theorem Ta{α:Type}(L:List α)(f : α->En)(W:Wt):bn (L.flatMap f) W=L.flatMap fun a=>bn (f a) W:=by unfold bn;rw[List.flatMap_assoc]
theorem Lt(p:Nat)(W:Wt):bn [(p,dG)] W=W p:=by simp[bn,XL,XD]
theorem XO(e:Nat×Ef)(L:En)(W:Wt):bn (aY e L) W=pr (ap e.2) (bn L W):=by
 unfold bn;rw[YP];unfold aY;rw[List.flatMap_map]
 congr 1
 funext a
 simp only[XE]
 congr 1
 funext g
 rw[Zuo]
theorem Zug(L:En)(X:Xs)(W:Wt):bn (bnd L X) W=bn L (fun p=>bn (X p) W):=by
 unfold bnd;rw[Ta];show _=L.flatMap _
 congr 1
 funext a
 exact XO a (X a.1) W
theorem Zd5(W:Wt)(a b:Nat×Ef)(h:a.1=b.1):(pr (ap a.2) (W a.1)).map (·.1)=(pr (ap b.2) (W b.1)).map (·.1):=by rw[TR,TR,h]
theorem Lm(s:Vs)(L:En)(W:Wt):dd s (bn (dd bq L) W)=dd s (bn L W):=Zja (fun e=>pr (ap e.2) (W e.1)) (Zd5 W) L s
def gV (L M:Wn):Prop :=∀s,dd s L=dd s M
theorem gV.refl(L:Wn):gV L L:=fun _=>rfl
variable {L M:Wn}
theorem gV.symm(h:gV L M):gV M L:=fun s=>(h s).symm
theorem gV.trans{K:Wn}(h:gV L M)(h2:gV M K):gV L K:=fun s=>(h s).trans (h2 s)
theorem gV.bI(h:gV L M)(s:Vs):bI s L=bI s M:=ZlA (h s)
theorem Zn0{L M:En}(h:∀s,dd s L=dd s M)(W:Wt):gV (bn L W) (bn M W):=fun s=>by rw[<- Lm,h bq,Lm]
def uL:List Xs->Wt->Wt
 | [],W=>W
 | X::l,W=>fun p=>bn (X p) (uL l W)
theorem ZsH(l:List Xs)(L:En)(W:Wt):gV (bn (lW L l) W) (bn L (uL l W)):=by
 induction l generalizing L with
 | nil=>exact gV.refl _
 | cons X l ih =>
   refine(ih (thn L X)).trans ?_;intro s;rw[thn,Lm,Zug];rfl
theorem Zud(l:List Xs)(W:Wt)(p:Nat):gV (bn (zf l p) W) (uL l W p):=by
 have:=ZsH l [(p,dG)] W
 rw[Lt] at this;exact this
theorem Zuh(l:List Xs)(W:Wt)(p:Nat):gV (bn (rA l p) W) (l.flatMap fun X=>bn (X p) W):=by
 intro s;rw[rA,Lm,Ta]
theorem Zuf{n:Nat}{X:Xs}(h:dh N lo hi X)(hn:n<lo\/hi<=n)(W:Wt)(p:Nat)(hp:p<=N):
  pr (sF n p) (bn (X p) (fun q=>pr (sT n q) (W q)))=bn (vO n X p) W:=by
 unfold bn vO;rw[YP,List.flatMap_map];refine QK _ _ _ ?_;intro e he;have hno:e.2 n=none:=by
  cases hc:e.2 n with
  | none=>rfl
  | some v =>
    obtain⟨a,b⟩:=v
    have:=((h p hp).2 e he).2.2 n a b hc
    omega
 simp only[XE]
 congr 1
 funext g
 exact Zun e.2 n p e.1 hno g
theorem Zue{X:Xs}(hX:iE N X)(r:Rp)(hm:∀m,r.most=some m->m<=50/\r.least<=m)(p:Nat)(hp:p<=N)(W:Wt):gV (bn (uS N r X p) W) (bn (wg N X r 0 p) W) :=
 Zn0 (fun s=>ZtB hX r hm p hp s) W
def ek (stop:Bool) (V:Vs) (L:Wn) (g:Rs):List (Nat×Rs):=let M:=(dd V L).map fun x=>(x.1,x.2 g);if stop then M.take 1 else M
def JI (stop:Bool) (V:Vs) (L:Wn):Bool := !stop ||(dd V L).isEmpty
theorem Zit(h:gV L M)(stop:Bool)(V:Vs)(g:Rs):ek stop V L g=ek stop V M g:=by unfold ek;rw[h]
theorem Tf(h:gV L M)(stop:Bool)(V:Vs):JI stop V L=JI stop V M:=by unfold JI;rw[h]
theorem YK(stop:Bool)(V:Vs)(t:Tr)(L:Wn)(g:Rs):ek stop V (pr t L) g=ek stop V L (t g):=by
 unfold ek;rw[Sd];simp only[pr,List.map_map];rfl
theorem SI(stop:Bool)(V:Vs)(t:Tr)(L:Wn):JI stop V (pr t L)=JI stop V L:=by
 unfold JI;rw[Sd];simp[pr]
variable {V:Vs}
theorem JX{stop:Bool}(h:JI stop V L=true)(M:Wn)(g:Rs):ek stop V (L++M) g=ek stop V L g++ek stop (bI V L) M g:=by
 unfold ek JI at *;rw[Jw]
 cases stop with
 | false=>simp
 | true =>
   simp only[Bool.not_true,Bool.false_or,List.isEmpty_iff] at h;simp[h]
theorem Eg{stop:Bool}(h:JI stop V L=true)(M:Wn):JI stop V (L++M)=JI stop (bI V L) M:=by
 unfold JI at *;rw[Jw]
 cases stop with
 | false=>simp
 | true =>
   simp only[Bool.not_true,Bool.false_or,List.isEmpty_iff] at h;simp[h]
theorem TW{stop:Bool}(h:JI stop V L=false)(M:Wn)(g:Rs):ek stop V (L++M) g=ek stop V L g:=by
 unfold ek JI at *;rw[Jw]
 cases stop with
 | false=>simp at h
 | true =>
   simp only[Bool.not_true,Bool.false_or] at h
   cases hd:dd V L with
   | nil=>rw[hd] at h;simp at h
   | cons a l=>simp
theorem ML{stop:Bool}(h:JI stop V L=false)(M:Wn):JI stop V (L++M)=false:=by
 unfold JI at *;rw[Jw]
 cases stop with
 | false=>simp at h
 | true =>
   simp only[Bool.not_true,Bool.false_or] at h ⊢
   cases hd:dd V L with
   | nil=>rw[hd] at h;simp at h
   | cons a l=>simp
theorem Ma(stop:Bool)(V:Vs)(g:Rs):ek stop V [] g = []:=by cases stop <;> simp[ek,dd]
theorem D7(stop:Bool)(V:Vs):JI stop V []=true:=by cases stop <;> simp[JI,dd]
theorem TV{stop:Bool}(h:∀x∈L,V x.1=true)(g:Rs):ek stop V L g = []:=by
 unfold ek;rw[DT h]
 cases stop <;> simp
theorem MJ{stop:Bool}(h:∀x∈L,V x.1=true):JI stop V L=true:=by
 unfold JI;rw[DT h]
 cases stop <;> simp
def QW (stop:Bool) (V:Vs) (L:Wn):Vs:=if JI stop V L then bI V L else V
theorem Qc{stop:Bool}(h:JI stop V L=true):QW stop V L=bI V L:=by unfold QW;rw[if_pos h]
theorem QE{stop:Bool}(h:JI stop V L=false):QW stop V L=V:=by unfold QW;rw[if_neg (by simp[h])]
theorem Zga(h:gV L M)(stop:Bool)(V:Vs):QW stop V L=QW stop V M:=by unfold QW;rw[Tf h,h.bI]
theorem ZiD(stop:Bool)(V:Vs)(t:Tr)(L:Wn):QW stop V (pr t L)=QW stop V L:=by unfold QW;rw[SI,Ztu]
theorem Zeb(stop:Bool)(V:Vs)(L:Wn)(x:Nat)(h:V x=true):QW stop V L x=true:=by
 unfold QW
 split
 ·exact BZ _ _ _ h
 ·exact h
theorem Uq{stop:Bool}(h:JI stop V L=true)(M:Wn):QW stop V (L++M)=QW stop (bI V L) M:=by
 unfold QW;rw[Eg h,JT]
 split
 ·rfl
 ·cases stop with
  | false=>rename_i hc;simp[JI] at hc
  | true =>
    have:dd V L = []:=by simpa [JI] using h
    rw[<- zu,this,Q9]
def ic (stop:Bool) (V:Vs) (L:Wn):Nat:=if stop then min 1 (dd V L).length else (dd V L).length
theorem Ed(stop:Bool)(V:Vs)(L:Wn)(g:Rs):(ek stop V L g).length=ic stop V L:=by
 unfold ek ic
 cases stop <;> simp
theorem YJ(h:gV L M)(stop:Bool)(V:Vs):ic stop V L=ic stop V M:=by unfold ic;rw[h]
theorem Sw(stop:Bool)(V:Vs)(t:Tr)(L:Wn):ic stop V (pr t L)=ic stop V L:=by
 unfold ic;rw[Sd];simp[pr]
theorem Ziu{stop:Bool}(h:JI stop V L=true)(M:Wn):ic stop V (L++M)=ic stop V L+ic stop (bI V L) M:=by
 rw[<- Ed stop V (L++M) [],JX h,List.length_append,Ed,Ed]
theorem Ztm(stop:Bool)(V:Vs)(L M:Wn):ic stop V L<=ic stop V (L++M):=by
 cases h:JI stop V L with
 | true=>rw[Ziu h];omega
 | false =>
   rw[<- Ed stop V (L++M) [],TW h,Ed];exact Nat.le_refl _
theorem Ztn(stop:Bool)(V:Vs)(L:Wn):ic stop V L<=(dd V L).length:=by
 unfold ic
 split <;> omega
theorem Ec(out:List (Nat×Rs))(V:Vs)(L1 L2:Wn)(gs:Rs)(stop:Bool){n:Nat}(h:out.length+ic stop V (L1++L2)<=n):out.length+ic stop V L1<=n/\(JI stop V L1=true->(out++ek stop V L1 gs).length+ic stop (bI V L1) L2<=n):=by
 refine⟨by have:=Ztm stop V L1 L2;omega,fun hc=>?_⟩;rw[Ziu hc] at h;rw[List.length_append,Ed];omega
open Go.RowKit
abbrev az:=Nat->Prop
structure aH (w:World) (F:az) (w':World) (F':az):Prop where
 keeps:Za F w w'
 fresh:∀k,F' k->F k\/w.heap.size<=k
namespace aH
variable {w w1 w2:World}{F F1 F2:az}
theorem refl(w:World)(F:az):aH w F w F:=⟨Za.refl _ _,fun _ h=>Or.inl h⟩
theorem trans(h:aH w F w1 F1)(h2:aH w1 F1 w2 F2):aH w F w2 F2:=by
 refine⟨h.keeps.trans' h2.keeps (fun i hi h3=>(h.fresh i h3).elim id (fun h4=>by omega)),fun k hk=>?_⟩
 rcases h2.fresh k hk with h3 | h3
 ·exact h.fresh k h3
 ·exact Or.inr (Nat.le_trans h.keeps.size h3)
theorem size(h:aH w F w1 F1):w.heap.size<=w1.heap.size:=h.keeps.size
theorem stay(h:aH w F w1 F1){k:Nat}(hk:k<w.heap.size)(hF:¬F k):w1.heap[k]?=w.heap[k]?/\¬F1 k :=
 ⟨h.keeps.block k hk hF,fun h1=>(h.fresh k h1).elim hF (fun h2=>by omega)⟩
theorem ay(k:Za ai w w1):aH w F w1 F:=⟨k.mono (fun _ _ h=>h.elim),fun _ h=>Or.inl h⟩
theorem drew(h:aH w F w1 F1):aH w F w1.drew F1:=h.trans (ay ((Za.refl _ _).drew))
end aH
def di (w:World) (F:az) (b:Nat) (t:TypeId) (v:Value):Prop:=aP w b t v/\¬F b
variable {F F':az}
theorem di.later{b:Nat}(h:di w F b t v)(l:aH w F w' F'):di w' F' b t v:=by
 obtain⟨h1,h2⟩:=l.stay h.1.lt h.2;exact⟨by unfold aP;rw[h1];exact h.1,h2⟩
theorem di.cell{b:Nat}(h:di w F b t v):w.cell? (ak b)=some v:=h.1.cell
def fF (w:World) (F:az) (v:Value) (gs:Rs):Prop :=∃ao cap,v=.slice ao gs.length cap/\(0<gs.length->w.ownsRow 0 118 2 v gs.length (ZD gs)/\∀k,v.ownBlock=some k->¬F k)
theorem ZB{base:Nat}{e:TypeId}{size:Nat}{n:Nat}{xs:List Value}(h:w.ownsRow base e size v n xs/\∀k,v.ownBlock=some k->¬F k)(l:aH w F w' F'):w'.ownsRow base e size v n xs/\∀k,v.ownBlock=some k->¬F' k :=
 ⟨Zb h.1 l.keeps h.2,fun k hk=>(l.stay (h.1.lt k hk).2 (h.2 k hk)).2⟩
theorem fF.later{gs:Rs}(h:fF w F v gs)(l:aH w F w' F'):fF w' F' v gs:=by
 obtain⟨ao,cap,rfl,h2⟩:=h;exact⟨ao,cap,rfl,fun hn=>ZB (h2 hn) l⟩
abbrev Em:=Nat×Rs×Value
def zh (x:Em):List Value := [.int .i64 (x.1:Int),x.2.2]
structure yC (w:World) (F:az) (v:Value) (M:List Em):Prop where
 form:∃ao cap,v=.slice ao M.length cap
 row:0<M.length->w.ownsRow 0 135 2 v M.length (M.flatMap zh)/\∀k,v.ownBlock=some k->¬F k
 sp:∀x∈M,fF w F x.2.2 x.2.1
theorem yC.later{M:List Em}(h:yC w F v M)(l:aH w F w' F'):yC w' F' v M :=
 ⟨h.form,fun hn=>ZB (h.row hn) l,fun x hx=>(h.sp x hx).later l⟩
abbrev aO:=World->az->az->Prop
structure Zs (R:aO):Prop where
 lt:∀{w:World} {F Fr:az},R w F Fr->∀k,Fr k->F k/\k<w.heap.size
 frame:∀{w w':World} {F F' Fr:az},R w F Fr->aH w F w' F'->(∀k,Fr k->F' k)->(∀k,Fr k->w'.heap[k]?=w.heap[k]?)->R w' F' Fr
structure aJ (w:World) (F O:az) (w':World) (F' O':az):Prop where
 keeps:Za O w w'
 fresh:∀k,O' k->O k\/w.heap.size<=k
 out:∀k,F' k->(F k/\¬O k)\/O' k
 dP:∀k,k<w.heap.size->F k->¬O k->F' k
 own:∀k,O' k->F' k
namespace aJ
variable {w w1 w2:World}{F F1 F2 O O1 O2:az}
theorem dm(h:aJ w F O w1 F1 O1)(hO:∀k,O k->F k):aH w F w1 F1 :=
 ⟨h.keeps.mono (fun k _ hk=>hO k hk),fun k hk=>by
  rcases h.out k hk with h1 | h1
  ·exact Or.inl h1.1
  ·exact(h.fresh k h1).imp (hO k) id⟩
theorem refl(hO:∀k,O k->F k):aJ w F O w F O:=⟨Za.refl _ _,fun _ h=>Or.inl h,fun k h=>by by_cases hk:O k;exact Or.inr hk;exact Or.inl ⟨h,hk⟩,fun k _ h _=>h,hO⟩
theorem trans(h:aJ w F O w1 F1 O1)(h2:aJ w1 F1 O1 w2 F2 O2):aJ w F O w2 F2 O2:=by
 refine⟨h.keeps.trans' h2.keeps (fun i hi h3=>(h.fresh i h3).elim id (fun h4=>by omega)),fun k hk=>?_,fun k hk=>?_,fun k hs hF hO=>?_,h2.own⟩
 ·rcases h2.fresh k hk with h3 | h3
  ·exact h.fresh k h3
  ·exact Or.inr (Nat.le_trans h.keeps.size h3)
 ·rcases h2.out k hk with⟨h3,h4⟩ | h3
  ·exact(h.out k h3).imp id (fun h5=>absurd h5 h4)
  ·exact Or.inr h3
 ·exact h2.dP k (Nat.lt_of_lt_of_le hs h.keeps.size) (h.dP k hs hF hO) (fun h3=>(h.fresh k h3).elim hO (fun h4=>by omega))
theorem size(h:aJ w F O w1 F1 O1):w.heap.size<=w1.heap.size:=h.keeps.size
theorem ay(hO:∀k,O k->F k)(k:Za ai w w1):aJ w F O w1 F O :=
 ⟨k.mono (fun _ _ h=>h.elim),(refl hO (w:=w)).fresh,(refl hO (w:=w)).out,(refl hO (w:=w)).dP,hO⟩
variable {P:az}
theorem wide(h:aJ w F O w1 F1 O1)(hP:∀k,P k->F k/\k<w.heap.size/\¬O k):aJ w F (fun k=>O k\/P k) w1 F1 (fun k=>O1 k\/P k):=by
 refine⟨h.keeps.mono (fun _ _ h=>Or.inl h),fun k hk=>?_,fun k hk=>?_,fun k hs hF hO=>h.dP k hs hF (fun h3=>hO (Or.inl h3)),fun k hk=>?_⟩
 ·rcases hk with hk | hk
  ·exact(h.fresh k hk).imp Or.inl id
  ·exact Or.inl (Or.inr hk)
 ·by_cases hp:P k
  ·exact Or.inr (Or.inr hp)
  ·rcases h.out k hk with⟨h3,h4⟩ | h3
   ·exact Or.inl ⟨h3,fun h5=>h5.elim h4 hp⟩
   ·exact Or.inr (Or.inl h3)
 ·rcases hk with hk | hk
  ·exact h.own k hk
  ·exact h.dP k (hP k hk).2.1 (hP k hk).1 (hP k hk).2.2
theorem congr{P1:az}(h:aJ w F O w1 F1 O1)(e:∀k,O k↔P k)(e1:∀k,O1 k↔P1 k):aJ w F P w1 F1 P1:=by
 obtain rfl:O=P:=funext fun k=>propext (e k);obtain rfl:O1=P1:=funext fun k=>propext (e1 k);exact h
end aJ
def Fb (w:World) (F:az):Prop :=∀k,F k->k<w.heap.size
theorem Fb.keeps{E:az}(h:Fb w F)(k:Za E w w'):Fb w' F:=fun i hi=>Nat.lt_of_lt_of_le (h i hi) k.size
variable {O O':az}
theorem Fb.vk(h:Fb w F)(t:aJ w F O w' F' O')(hO:∀k,O' k->k<w'.heap.size):Fb w' F':=fun k hk=>by
 rcases t.out k hk with h1 | h1
 ·exact Nat.lt_of_lt_of_le (h k h1.1) t.size
 ·exact hO k h1
variable {R:aO}{Fr:az}
theorem Zs.stays(hR:Zs R)(h:R w F Fr)(t:aJ w F O w' F' O')(hO:∀k,O k->F k)(hd:∀k,Fr k->¬O k):R w' F' Fr/\∀k,Fr k->¬O' k :=
 ⟨hR.frame h (t.dm hO) (fun k hk=>t.dP k (hR.lt h k hk).2 (hR.lt h k hk).1 (hd k hk)) (fun k hk=>t.keeps.block k (hR.lt h k hk).2 (hd k hk)),
  fun k hk h2=>(t.fresh k h2).elim (hd k hk) (fun h3=>by have:=(hR.lt h k hk).2;omega)⟩
def Zr:List aO->aO
 | []=>fun w F Fr =>∀k,¬Fr k
 | R::l=>fun w F Fr =>∃F1 F2,(∀k,Fr k↔F1 k\/F2 k)/\(∀k,F1 k->¬F2 k)/\R w F F1/\Zr l w F F2
theorem ZT:∀{l:List aO},(∀R∈l,Zs R)->Zs (Zr l):=by
 intro l
 induction l with
 | nil=>exact fun _=>⟨fun h k hk=>absurd hk (h k),fun h _ _ _=>h⟩
 | cons R l ih =>
   intro hl;have h1:=hl R (by simp);have h2:=ih (fun S hS=>hl S (by simp[hS]));refine⟨?_,?_⟩
   ·rintro w F Fr ⟨F1,F2,he,hd,hR,hs⟩ k hk
    rcases(he k).1 hk with hk | hk
    ·exact h1.lt hR k hk
    ·exact h2.lt hs k hk
   ·rintro w w' F F' Fr ⟨F1,F2,he,hd,hR,hs⟩ hl hF hk;exact⟨F1,F2,he,hd,h1.frame hR hl (fun k h=>hF k ((he k).2 (Or.inl h))) (fun k h=>hk k ((he k).2 (Or.inl h))),h2.frame hs hl (fun k h=>hF k ((he k).2 (Or.inr h))) (fun k h=>hk k ((he k).2 (Or.inr h)))⟩
theorem Zhb:∀{l:List aO},R∈l->∃l':List aO,(∀S∈l',S∈l)/\∀(w:World) (F Fr:az),Zr l w F Fr↔∃F1 F2,(∀k,Fr k↔F1 k\/F2 k)/\(∀k,F1 k->¬F2 k)/\R w F F1/\Zr l' w F F2:=by
 intro l
 induction l with
 | nil=>intro h;simp at h
 | cons S l ih =>
   intro h
   rcases List.mem_cons.1 h with rfl | h
   ·exact⟨l,fun T hT=>by simp[hT],fun w F Fr=>Iff.rfl⟩
   ·obtain⟨l',h1,h2⟩:=ih h;refine⟨S::l',fun T hT=>?_,fun w F Fr=>?_⟩
    ·rcases List.mem_cons.1 hT with rfl | hT
     ·simp
     ·simp[h1 T hT]
    ·constructor
     ·rintro⟨F1,F2,he,hd,hS,hs⟩;obtain⟨F3,F4,he2,hd2,hR,hs2⟩:=(h2 w F F2).1 hs;refine⟨F3,fun k=>F1 k\/F4 k,fun k=>?_,fun k hk hc=>?_,hR,F1,F4,fun k=>Iff.rfl,fun k hk hc=>hd k hk ((he2 k).2 (Or.inr hc)),hS,hs2⟩
      ·rw[he k,he2 k];constructor
       ·rintro(h | h | h)
        ·exact Or.inr (Or.inl h)
        ·exact Or.inl h
        ·exact Or.inr (Or.inr h)
       ·rintro(h | h | h)
        ·exact Or.inr (Or.inl h)
        ·exact Or.inl h
        ·exact Or.inr (Or.inr h)
      ·rcases hc with hc | hc
       ·exact hd k hc ((he2 k).2 (Or.inl hk))
       ·exact hd2 k hk hc
     ·rintro⟨F3,F5,he,hd,hR,F1,F4,he2,hd2,hS,hs2⟩;refine⟨F1,fun k=>F3 k\/F4 k,fun k=>?_,fun k hk hc=>?_,hS,(h2 w F _).2 ⟨F3,F4,fun k=>Iff.rfl,fun k hk hc=>hd k hk ((he2 k).2 (Or.inr hc)),hR,hs2⟩⟩
      ·rw[he k,he2 k];constructor
       ·rintro(h | h | h)
        ·exact Or.inr (Or.inl h)
        ·exact Or.inl h
        ·exact Or.inr (Or.inr h)
       ·rintro(h | h | h)
        ·exact Or.inr (Or.inl h)
        ·exact Or.inl h
        ·exact Or.inr (Or.inr h)
      ·rcases hc with hc | hc
       ·exact hd k hc ((he2 k).2 (Or.inl hk))
       ·exact hd2 k hk hc
abbrev Tt:=Nat->Nat->Nat->Nat
def iP:Tt:=fun _ _ _=>0
def fC (T:Tt) (j n p r:Nat):Tt:=fun a b c=>if a=j/\b=n/\c=p then r else T a b c
theorem Ej(T:Tt)(j n p r:Nat):fC T j n p r j n p=r:=by simp[fC]
theorem Z3(T:Tt){n r b c:Nat}(h:¬(a=j/\b=n/\c=p)):fC T j n p r a b c=T a b c:=by simp[fC,h]
theorem Qk(T:Tt){n r:Nat}(h:a≠j):fC T j n p r a=T a:=by funext b c;simp[fC,h]
structure Cx where
 X:Nat
 m:Nat
 u:ByteArray
 nn:Value
 G:Nat
def Se (w:World) (C:Cx) (jn:Int) (bg tl:Value):Prop:=w.heap[C.X]?=some (.cells #[.string C.u,C.nn,.int .i64 jn,.map (some C.m),bg,tl] 105 (0,0))
namespace Se
variable {w w':World}{C:Cx}{jn:Int}{bg tl:Value}
theorem lt(h:Se w C jn bg tl):C.X<w.heap.size:=lt_of_block h
theorem c0(h:Se w C jn bg tl):w.cell? (ak C.X)=some (.string C.u):=by rw[Zc h];rfl
theorem c1(h:Se w C jn bg tl):w.cell? ⟨C.X,1,none⟩=some C.nn:=by rw[Zc h];rfl
theorem c2(h:Se w C jn bg tl):w.cell? ⟨C.X,2,none⟩=some (.int .i64 jn):=by rw[Zc h];rfl
theorem c3(h:Se w C jn bg tl):w.cell? ⟨C.X,3,none⟩=some (.map (some C.m)):=by rw[Zc h];rfl
theorem c4(h:Se w C jn bg tl):w.cell? ⟨C.X,4,none⟩=some bg:=by rw[Zc h];rfl
theorem c5(h:Se w C jn bg tl):w.cell? ⟨C.X,5,none⟩=some tl:=by rw[Zc h];rfl
theorem fz(h:Se w C jn bg tl)(i:Nat):w.frozen? ⟨C.X,i,none⟩=false:=Zv h
theorem same(h:Se w C jn bg tl)(hk:w'.heap[C.X]?=w.heap[C.X]?):Se w' C jn bg tl:=by unfold Se;rw[hk];exact h
theorem set2(h:Se w C jn bg tl)(x:Int):Se (w.setCell ⟨C.X,2,none⟩ (.int .i64 x)) C x bg tl:=by unfold Se;rw[heap_setCell_same _ _ _ _ _ _ h];rfl
theorem aX(h:Se w C jn bg tl)(x:Value):Se (w.setCell ⟨C.X,4,none⟩ x) C jn x tl:=by unfold Se;rw[heap_setCell_same _ _ _ _ _ _ h];rfl
theorem EN(h:Se w C jn bg tl)(x:Value):Se (w.setCell ⟨C.X,5,none⟩ x) C jn bg x:=by unfold Se;rw[heap_setCell_same _ _ _ _ _ _ h];rfl
end Se
def sQ (f:Nat->Nat):List Value:=(List.range 201).map fun p => .int .u8 ((f p:Nat):Int)
def Rm (w:World) (r:Nat) (f:Nat->Nat):Prop:=w.heap[r]?=some (.cells (sQ f).toArray 243 (0,0))
abbrev Et:=(Nat×Nat)×Nat×Nat
def J8 (x:Et):MapEntry := { key:=.agg #[.int .i64 ((x.1.1:Nat):Int),.int .i64 ((x.1.2:Nat):Int)],val:=.pointer (some ⟨x.2.1,0,none⟩),born:=x.2.2 }
structure Tb (w:World) (m:Nat) (T:Tt) (L:List Et):Prop where
 mp:∃clock,w.heap[m]?=some (.map (L.map J8).toArray clock)
 keys:(L.map (·.1)).Nodup
 pz:(L.map (·.2.1)).Nodup
 room:∀x∈L,Rm w x.2.1 (T x.1.1 x.1.2)
 rest:∀j n,(∀x∈L,x.1≠(j,n))->∀p,T j n p=0
 few:∀j n p,T j n p<=255
 apart:∀x∈L,x.2.1≠m
structure Rx where
 jn:Int
 bg:Value
 pn:List Et
def aR (C:Cx) (ρ:Rx) (tl:Value) (T:Tt):aO:=fun w F Fr =>∃L,Se w C ρ.jn ρ.bg tl/\Tb w C.m T L/\(∀x∈ρ.pn,x∈L)/\(∀k,Fr k↔k=C.X\/k=C.m\/∃x∈L,x.2.1=k)/\(∀k,Fr k->F k)/\C.X≠C.m/\∀x∈L,x.2.1≠C.X
theorem QA(C:Cx)(ρ:Rx)(tl:Value)(T:Tt):Zs (aR C ρ tl T):=by
 refine⟨?_,?_⟩
 ·rintro w F Fr ⟨L,hS,hT,hpn,he,hF,hne,hx⟩ k hk;refine⟨hF k hk,?_⟩
  rcases(he k).1 hk with rfl | rfl | ⟨x,hx,rfl⟩
  ·exact hS.lt
  ·obtain⟨c,hc⟩:=hT.mp;exact(Array.getElem?_eq_some_iff.1 hc).1
  ·exact lt_of_block (hT.room x hx)
 ·rintro w w' F F' Fr ⟨L,hS,hT,hpn,he,hF,hne,hx⟩ hl hF' hk;have e1:=hk C.X ((he _).2 (Or.inl rfl));have e2:=hk C.m ((he _).2 (Or.inr (Or.inl rfl)));have e3:=fun x hx=>hk x ((he x).2 (Or.inr (Or.inr hx)));refine⟨L,hS.same e1,⟨by rw[e2];exact hT.mp,hT.keys,hT.pz,fun x hx=>?_,hT.rest,hT.few,hT.apart⟩,hpn,he,hF',hne,hx⟩;unfold Rm;rw[e3 x.2.1 ⟨x,hx,rfl⟩];exact hT.room x hx
structure jG where
 tv:Value
 stop:Bool
 cap:Nat
 tl:List (Nat×Rs)->aO
structure j5 (C:Cx) (τ:jG):Prop where
 ok:∀out,Zs (τ.tl out)
 yl:∃l,τ.tv=.func (.yield l) #[] #[]/\∀(w:World) (F Fr:az) (out:List (Nat×Rs)) (q:Nat) (gv:Value) (gs:Rs),Fb w F->τ.tl out w F Fr->fF w F gv gs->gs.length=C.G->q<=C.u.size->out.length < τ.cap->
  YieldAt Fence.wide 0 Tryz.prog l #[.agg #[.int .i64 (q:Int),gv]] w fun e w'=>e=.returned (.bool (!τ.stop))/\∃F' aM,τ.tl (out++[(q,gs)]) w' F' aM/\aJ w F Fr w' F' aM
def Run (C:Cx) (ρ:Rx) (ats:List aO) (τ:jG) (T:Tt) (out:List (Nat×Rs)):aO:=Zr (aR C ρ τ.tv T::τ.tl out::ats)
variable {C:Cx}{τ:jG}{ats:List aO}
theorem DL(hτ:j5 C τ)(ha:∀R∈ats,Zs R)(ρ:Rx)(T:Tt)(out:List (Nat×Rs)):Zs (Run C ρ ats τ T out):=by
 refine ZT ?_;intro R hR
 rcases List.mem_cons.1 hR with rfl | hR
 ·exact QA _ _ _ _
 ·rcases List.mem_cons.1 hR with rfl | hR
  ·exact hτ.ok out
  ·exact ha R hR
structure Bo where
 j0:Nat
 W0:Wt
 js:List (Nat×(Nat->Nat->Wt))
def Bo.has (b:Bo) (j:Nat):Prop:=j=b.j0\/∃x∈b.js,x.1=j
def Kq (N:Nat) (x:Nat×(Nat->Nat->Wt)) (T:Tt) (V:Vs):Prop :=∀n p,p<=N->T x.1 n p≠0->∀y∈x.2 n (T x.1 n p) p,V y.1=true
def ClB (N:Nat) (j:Nat) (W:Wt) (T:Tt) (V:Vs):Prop :=∀p,p<=N->(T j 0 p≠0->∀y∈W p,V y.1=true)/\(T j 0 p=0->∀y∈W p,V y.1=false)
def ky (N:Nat) (b:Bo) (T:Tt) (V:Vs):Prop:=ClB N b.j0 b.W0 T V/\∀x∈b.js,Kq N x T V
def Pre (N:Nat) (W:Wt) (T:Tt) (V:Vs) (p:Nat):Option Bo->Prop
 | none =>∀y∈W p,V y.1=false
 | some b=>ky N b T V
def jH (N:Nat) (T T':Tt) (V:Vs):Option Bo->Prop
 | none=>T'=T
 | some b=>ky N b T' V/\∀j,¬b.has j->T' j=T j
variable {W:Wt}{T:Tt}{B:Option Bo}
theorem jH.refl(h:Pre N W T V p B):jH N T T V B:=by
 cases B with
 | none=>rfl
 | some b=>exact⟨h,fun _ _=>rfl⟩
def Q0 (C:Cx) (ρ:Rx) (ats:List aO) (τ:jG) (T:Tt) (V:Vs) (out:List (Nat×Rs)) (L:Wn) (gs:Rs) (B:Option Bo) (w:World) (F Fr:az) (e:Ending) (w':World):Prop :=
 e=.returned (.bool (JI τ.stop V L))/\∃T' F' aM,Run C ρ ats τ T' (out++ek τ.stop V L gs) w' F' aM/\aJ w F Fr w' F' aM/\jH C.u.size T T' (QW τ.stop V L) B
def Qg (C:Cx) (w:World) (F:az) (fv:Value) (W:Wt) (B:Option Bo) (mine:List aO):Prop :=
 ∃ (fn:Nat) (cap:Array Value),fv=.func (.func fn) #[] cap/\(∀(args:Array Value) (w:World),(callFunc fn args).run Tryz.prog w=.ok (.enter fn args) w)/\
   ∀ (w':World) (F':az),aH w F w' F'->Fb w' F'->∀(ρ:Rx) (ats:List aO) (τ:jG) (T:Tt) (V:Vs) (out:List (Nat×Rs)) (Fr:az) (p:Nat) (gv:Value) (gs:Rs),
     (∀R∈ats,Zs R)->(∀R∈mine,R∈ats)->j5 C τ->Run C ρ ats τ T out w' F' Fr->fF w' F' gv gs->gs.length=C.G->p<=C.u.size->Pre C.u.size W T V p B->out.length+ic τ.stop V (W p)<=τ.cap->
     au fn (#[.int .i64 (p:Int),gv]++cap) w' (Q0 C ρ ats τ T V out (W p) gs B w' F' Fr)
theorem Qg.later{mine:List aO}(h:Qg C w F fv W B mine)(l:aH w F w' F'):Qg C w' F' fv W B mine:=by
 obtain⟨fn,cap,h1,h2,h3⟩:=h;exact⟨fn,cap,h1,h2,fun w2 F2 l2=>h3 w2 F2 (l.trans l2)⟩
theorem Qg.form{mine:List aO}(h:Qg C w F fv W B mine):∃(fn:Nat) (cap:Array Value),fv=.func (.func fn) #[] cap:=by
 obtain⟨fn,cap,h1,h2,h3⟩:=h;exact⟨fn,cap,h1⟩
theorem Qg.mine{mine mine':List aO}(h:Qg C w F fv W B mine)(hm:∀R∈mine,R∈mine'):Qg C w F fv W B mine':=by
 obtain⟨fn,cap,h1,h2,h3⟩:=h;exact⟨fn,cap,h1,h2,fun w2 F2 l2 hb2 ρ ats τ T V out Fr p gv gs ha hm'=>h3 w2 F2 l2 hb2 ρ ats τ T V out Fr p gv gs ha (fun R hR=>hm' R (hm R hR))⟩
variable {W':Wt}{b:Bo}
theorem Qg.uO{mine:List aO}(h:Qg C w F fv W (some b) mine)(hW:∀p,p<=C.u.size->gV (W p) (W' p)):Qg C w F fv W' (some b) mine:=by
 obtain⟨fn,cap,h1,h2,h3⟩:=h;refine⟨fn,cap,h1,h2,fun w2 F2 l2 hb2 ρ ats τ T V out Fr p gv gs ha hm hτ hR hg hl hp hP hn=>?_⟩;refine(h3 w2 F2 l2 hb2 ρ ats τ T V out Fr p gv gs ha hm hτ hR hg hl hp hP (by rw[YJ (hW p hp)];exact hn)).mono ?_;rintro e w' ⟨rfl,T',F',aM,g1,g2,g3⟩;refine⟨by rw[Tf (hW p hp)],T',F',aM,?_,g2,?_⟩
 ·rw[Zit (hW p hp)] at g1;exact g1
 ·rw[Zga (hW p hp)] at g3;exact g3
theorem Qg.congr{mine:List aO}(h:Qg C w F fv W B mine)(hW:∀p,p<=C.u.size->W p=W' p):Qg C w F fv W' B mine:=by
 obtain⟨fn,cap,h1,h2,h3⟩:=h;refine⟨fn,cap,h1,h2,fun w2 F2 l2 hb2 ρ ats τ T V out Fr p gv gs ha hm hτ hR hg hl hp hP hn=>?_⟩;have e:=hW p hp;have hP':Pre C.u.size W T V p B:=by
  cases B with
  | none=>show∀y∈W p,_;rw[e];exact hP
  | some b=>exact hP
 have:=h3 w2 F2 l2 hb2 ρ ats τ T V out Fr p gv gs ha hm hτ hR hg hl hp hP' (by rw[e];exact hn)
 rw[e] at this;exact this
structure Bo.le (b c:Bo):Prop where
 j0:c.j0=b.j0
 W0:c.W0=b.W0
 js:∀x∈b.js,x∈c.js
 new:∀x∈c.js,x∈b.js\/¬b.has x.1
variable {T':Tt}{V':Vs}
theorem Kq.mono{x:Nat×(Nat->Nat->Wt)}(h:Kq N x T V)(hT:T' x.1=T x.1)(hV:∀y,V y=true->V' y=true):Kq N x T' V':=by
 intro n p hp hne y hy;rw[hT] at hne hy;exact hV _ (h n p hp hne y hy)
theorem Qg.wide{c:Bo}{mine:List aO}(h:Qg C w F fv W (some b) mine)(hb:b.le c):Qg C w F fv W (some c) mine:=by
 obtain⟨fn,cap,h1,h2,h3⟩:=h;refine⟨fn,cap,h1,h2,fun w2 F2 l2 hb2 ρ ats τ T V out Fr p gv gs ha hm hτ hR hg hl hp hP hn=>?_⟩;obtain⟨q1,q2⟩:ky C.u.size c T V:=hP;rw[hb.j0,hb.W0] at q1;refine(h3 w2 F2 l2 hb2 ρ ats τ T V out Fr p gv gs ha hm hτ hR hg hl hp ⟨q1,fun x hx=>q2 x (hb.js x hx)⟩ hn).mono ?_;rintro e w' ⟨rfl,T',F',aM,g1,g2,⟨g3,g4⟩,g5⟩;refine⟨rfl,T',F',aM,g1,g2,⟨by rw[hb.j0,hb.W0];exact g3,fun x hx=>?_⟩,fun j hj=>g5 j ?_⟩
 ·rcases hb.new x hx with h | h
  ·exact g4 x h
  ·exact(q2 x hx).mono (g5 _ h) (fun y hy=>Zeb _ _ _ _ hy)
 ·rintro(h | ⟨x,hx,h⟩)
  ·exact hj (Or.inl (by rw[hb.j0];exact h))
  ·exact hj (Or.inr ⟨x,hb.js x hx,h⟩)
end Go.Proofs.YtfkflljplohhcaaGreatDoor
namespace Go.Proofs.YtfkflljplohhcaaGreatDoor
def QB (j:Nat) (W:Wt):Option Bo->Bo
 | none=>⟨j,W,[]⟩
 | some b=>⟨b.j0,b.W0,(j,fun _ _=>W)::b.js⟩
def nJ (N:Nat) (W:Wt):Prop :=∀p q,p<=N->q<=N->∀y∈W p,∀z∈W q,y.1=z.1->p=q
def Nw (j:Nat) (B:Option Bo):Prop :=∀b,B=some b->¬b.has j
variable {N j p lo hi lo' hi' a d clock m:Nat}{b:Bo}{T:Tt}{V:Vs}{w w':World}{t:TypeId}{v fv:Value}
theorem DR{n r:Nat}(h:ky N b T V)(hj:¬b.has j):ky N b (fC T j n p r) V:=by
 refine⟨?_,fun x hx=>(h.2 x hx).mono (Qk T (fun e=>hj (Or.inr ⟨x,hx,e⟩))) (fun _ h=>h)⟩;intro q hq;rw[Qk T (fun e=>hj (Or.inl e.symm))];exact h.1 q hq
variable {W:Wt}{B:Option Bo}
theorem Zl0(h:ky N (QB j W B) T V)(hp:p<=N)(hT:T j 0 p≠0):∀y∈W p,V y.1=true:=by
 cases B with
 | none=>exact(h.1 p hp).1 hT
 | some b=>exact h.2 (j,fun _ _=>W) (by simp[QB]) 0 p hp hT
theorem Zr4(h:ky N (QB j W B) T V)(hp:p<=N)(hT:T j 0 p=0)(hj:Nw j B):Pre N W (fC T j 0 p 1) V p B:=by
 cases B with
 | none=>exact(h.1 p hp).2 hT
 | some b=>exact DR ⟨h.1,fun x hx=>h.2 x (by simp[QB,hx])⟩ (hj b rfl)
variable {T':Tt}
theorem Zo8{stop:Bool}(h:ky N (QB j W B) T V)(hp:p<=N)(hT:T j 0 p=0)(hj:Nw j B)(hi:B=none->nJ N W)
  (hP:jH N (fC T j 0 p 1) T' (QW stop V (W p)) B) :
  jH N T (if JI stop V (W p) then T' else fC T' j 0 p 0) (QW stop V (W p)) (some (QB j W B)):=by
 cases B with
 | none =>
   obtain rfl:T'=fC T j 0 p 1:=hP
   cases hc:JI stop V (W p) with
   | true =>
     rw[Qc hc,if_pos rfl];refine⟨⟨fun q hq=>⟨fun h1=>?_,fun h1=>?_⟩,fun x hx=>by simp[QB] at hx⟩,fun a ha=>Qk T (fun e=>ha (Or.inl e))⟩
     ·by_cases hq2:q=p
      ·subst hq2;exact fun y hy=>yn hy
      ·have e:fC T j 0 p 1 j 0 q=T j 0 q:=Z3 T (by simp[hq2]);have h1':fC T j 0 p 1 j 0 q≠0:=h1;rw[e] at h1';exact fun y hy=>BZ _ _ _ ((h.1 q hq).1 h1' y hy)
     ·have hq2:q≠p:=by
       rintro rfl;have h1':fC T j 0 q 1 j 0 q=0:=h1;rw[Ej] at h1';omega
      have h1':fC T j 0 p 1 j 0 q=0:=h1;rw[Z3 T (by simp[hq2])] at h1';intro y hy;have h2:=(h.1 q hq).2 h1' y hy
      cases hs:bI V (W p) y.1 with
      | false=>rfl
      | true =>
        rcases LW.1 hs with h3 | ⟨z,hz,he⟩
        ·rw[h2] at h3;simp at h3
        ·exact absurd (hi rfl q p hq hp y hy z hz he.symm) hq2
   | false =>
     rw[QE hc];simp only[Bool.false_eq_true,if_false];have e:fC (fC T j 0 p 1) j 0 p 0=T:=by
      funext a b c
      unfold fC
      by_cases hh:a=j/\b=0/\c=p
      ·obtain⟨rfl,rfl,rfl⟩:=hh;simp[hT]
      ·simp[hh]
     rw[e];exact⟨h,fun _ _=>rfl⟩
 | some b =>
   obtain⟨g1,g2⟩:=hP;have hjb:=hj b rfl;have gj:T' j=fC T j 0 p 1 j:=g2 j hjb;have hou:∀a,¬(QB j W (some b)).has a->¬b.has a/\a≠j:=by
    intro a ha;refine⟨fun h2=>ha (h2.imp id (fun ⟨x,hx,e⟩=>⟨x,by simp[QB,hx],e⟩)),fun e=>ha (Or.inr ⟨_,by simp[QB];exact Or.inl rfl,e.symm⟩)⟩
   cases hc:JI stop V (W p) with
   | true =>
     rw[if_pos rfl];rw[Qc hc] at g1 ⊢;refine⟨⟨g1.1,fun x hx=>?_⟩,fun a ha=>?_⟩
     ·rcases List.mem_cons.1 hx with rfl | hx
      ·intro n q hq hne y hy;simp only at hne hy
       by_cases hh:n=0/\q=p
       ·obtain⟨rfl,rfl⟩:=hh;exact yn hy
       ·rw[gj,Z3 T (by simp;intro h1 h2;exact hh ⟨h1,h2⟩)] at hne;exact BZ _ _ _ (h.2 (j,fun _ _=>W) (by simp[QB]) n q hq hne y hy)
      ·exact g1.2 x hx
     ·obtain⟨h1,h2⟩:=hou a ha;rw[g2 a h1,Qk T h2]
   | false =>
     simp only[Bool.false_eq_true,if_false];rw[QE hc] at g1 ⊢;have hTj:fC T' j 0 p 0 j=T j:=by
      funext n q
      by_cases hh:n=0/\q=p
      ·obtain⟨rfl,rfl⟩:=hh;rw[Ej,hT]
      ·rw[Z3 T' (by simp;intro h1 h2;exact hh ⟨h1,h2⟩),gj,Z3 T (by simp;intro h1 h2;exact hh ⟨h1,h2⟩)]
     have g3:ky N b (fC T' j 0 p 0) V:=DR g1 hjb;refine⟨⟨g3.1,fun x hx=>?_⟩,fun a ha=>?_⟩
     ·rcases List.mem_cons.1 hx with rfl | hx
      ·exact(h.2 (j,fun _ _=>W) (by simp[QB])).mono hTj (fun _ h=>h)
      ·exact g3.2 x hx
     ·obtain⟨h1,h2⟩:=hou a ha;rw[Qk T' h2,g2 a h1,Qk T h2]
def Bi (r:Rp) (n rm:Nat):Nat:=if 0<n then r.least-n else match r.most with | none=>r.least | some m=>max r.least (m+1-rm)
def kY (N:Nat) (X:Xs) (r:Rp) (W:Wt) (n rm:Nat):Wt:=fun p=>bn (wg N X r (Bi r n rm) p) W
theorem XQ{L M:En}(h:∀e∈L,∃f∈M,f.1=e.1):∀y∈bn L W,∃z∈bn M W,z.1=y.1:=by
 intro y hy;unfold bn at hy;rw[List.mem_flatMap] at hy;obtain⟨e,he,hy⟩:=hy;obtain⟨f,hf,hfe⟩:=h e he;unfold pr at hy;rw[List.mem_map] at hy;obtain⟨x,hx,rfl⟩:=hy;refine⟨(x.1,fun g=>x.2 (ap f.2 g)),?_,rfl⟩;unfold bn;rw[List.mem_flatMap];refine⟨f,hf,?_⟩;unfold pr;rw[List.mem_map,hfe];exact⟨x,hx,rfl⟩
theorem Zjb{X:Xs}(hX:iE N X)(r:Rp)(hm:∀m,r.most=some m->r.least<=m)(hd:∀m,r.most=some m->d<=m)(p:Nat):wg N X r (Bi r (r.need d) (r.room d)) p=wg N X r d p:=by
 unfold Bi Rp.need Rp.room
 by_cases h:d<r.least
 ·rw[if_pos (by omega)]
  congr 1
  omega
 ·rw[if_neg (by omega)]
  cases hmm:r.most with
  | none =>
    simp only;unfold wg;have e:iO N r r.least p=iO N r d p:=by unfold iO;omega
    rw[e];exact Y1 hX r hmm _ _ _ p (Nat.le_refl _) (by omega)
  | some m =>
    have:=hd m hmm
    have:=hm m hmm
    simp only
    congr 1
    omega
theorem Zjc{X:Xs}(hX:iE N X)(r:Rp)(hm:∀m,r.most=some m->r.least<=m){rm:Nat}(hd:∀m,r.most=some m->d<=m)(h1:r.room d<=rm)(h0:0<rm):
  ∀e∈wg N X r d p,∃e'∈wg N X r (Bi r (r.need d) rm) p,e'.1=e.1:=by
 refine Zrt hX r ?_ ?_ ?_
 ·intro m hmm
  have:=hd m hmm
  have:=hm m hmm
  refine⟨by omega,?_,by omega⟩;unfold Bi
  split
  ·omega
  ·rw[hmm];simp only;omega
 ·unfold Bi Rp.need
  split
  ·omega
  ·cases hmm:r.most with
   | none=>simp only;omega
   | some m=>simp only;omega
 ·unfold Rp.room at *
  cases hmm:r.most with
  | none=>simp
  | some m =>
    rw[hmm] at h1
    have:=hd m hmm
    have:=hm m hmm
    simp only at h1 ⊢;unfold Bi Rp.need;rw[hmm];simp only
    split <;> omega
def Op (r:Rp) (d p n q:Nat):Prop:=r.need d<n\/(n=r.need d/\q<=p)
def ClO (N j:Nat) (jw:Nat->Nat->Wt) (O:Nat->Nat->Prop) (T:Tt) (V:Vs):Prop :=∀n p,p<=N->¬O n p->T j n p≠0->∀y∈jw n (T j n p) p,V y.1=true
structure uQ (N j:Nat) (jw:Nat->Nat->Wt) (r:Rp) (b:Bo) (d p:Nat) (T:Tt) (V:Vs):Prop where
 cls:ky N b T V
 vK:ClO N j jw (Op r d p) T V
structure pJ (N j:Nat) (jw:Nat->Nat->Wt) (r:Rp) (b:Bo) (d p:Nat) (T T':Tt) (V':Vs):Prop where
 cls:ky N b T' V'
 vK:ClO N j jw (Op r d p) T' V'
 op:∀n q,Op r d p n q->T' j n q=T j n q
 rest:∀a,a≠j->¬b.has a->T' a=T a
variable {jw:Nat->Nat->Wt}{r:Rp}
theorem uQ.refl(h:uQ N j jw r b d p T V):pJ N j jw r b d p T T V:=⟨h.cls,h.vK,fun _ _ _=>rfl,fun _ _ _=>rfl⟩
theorem pJ.dP(h:pJ N j jw r b d p T T' V):uQ N j jw r b d p T' V:=⟨h.cls,h.vK⟩
theorem pJ.trans{T1 T2:Tt}{V2:Vs}(h:pJ N j jw r b d p T T1 V)(h2:pJ N j jw r b d p T1 T2 V2):pJ N j jw r b d p T T2 V2 :=
 ⟨h2.cls,h2.vK,fun n q hh=>(h2.op n q hh).trans (h.op n q hh),fun a ha hb=>(h2.rest a ha hb).trans (h.rest a ha hb)⟩
variable {V':Vs}
theorem ZrM(h:uQ N j jw r b d p T V)(hj:¬b.has j)(hV:∀y,V y=true->V' y=true)(hP:jH N T T' V' (some b)):pJ N j jw r b d p T T' V':=by
 have hT:T' j=T j:=hP.2 j hj;refine⟨hP.1,fun n q hq hO hne y hy=>?_,fun n q _=>by rw[hT],fun a _ hb=>hP.2 a hb⟩;rw[hT] at hne hy;exact hV _ (h.vK n q hq hO hne y hy)
theorem Sy{q:Nat}(hq:p<=q)(hc:d<r.least\/p<q):¬Op r d p (r.need (d+1)) q:=by
 unfold Op Rp.need;omega
theorem SF{q n x:Nat}(hq:p<=q)(h:Op r d p n x):Op r (d+1) q n x:=by
 unfold Op Rp.need at *;omega
theorem ZrL{X:Xs}(hX:iE N X)(hm:∀m,r.most=some m->r.least<=m){q:Nat}(h:uQ N j (kY N X r W) r b d p T V)(hq:p<=q)(VT:q<=N)(hc:d<r.least\/p<q)(hd:∀m,r.most=some m->d+1<=m)(hrm:0<r.room (d+1))
  (hT:r.room (d+1)<=T j (r.need (d+1)) q):∀y∈bn (wg N X r (d+1) q) W,V y.1=true:=by
 intro y hy;obtain⟨z,hz,he⟩:=XQ (W:=W) (Zjc hX r hm hd hT (by omega)) y hy;rw[<- he];exact h.vK (r.need (d+1)) q VT (Sy hq hc) (by omega) z hz
theorem ZuS{X:Xs}{q:Nat}(h:uQ N j (kY N X r W) r b d p T V)(hj:¬b.has j)(hq:p<=q):
  uQ N j (kY N X r W) r b (d+1) q (fC T j (r.need (d+1)) q (r.room (d+1))) V:=by
 refine⟨DR h.cls hj,fun n x hx hO hne y hy=>?_⟩;have hne2:¬(n=r.need (d+1)/\x=q):=by
  rintro⟨rfl,rfl⟩;exact hO (Or.inr ⟨rfl,Nat.le_refl _⟩)
 rw[Z3 T (by simp;intro h1 h2;exact hne2 ⟨h1,h2⟩)] at hne hy;exact h.vK n x hx (fun h2=>hO (SF hq h2)) hne y hy
theorem Zty{X:Xs}(hX:iE N X)(hm:∀m,r.most=some m->r.least<=m){q:Nat}{stop:Bool}(h:uQ N j (kY N X r W) r b d p T V)(hj:¬b.has j)(hq:p<=q)(VT:q<=N)(hc:d<r.least\/p<q)(hd:∀m,r.most=some m->d+1<=m)
  (hP:pJ N j (kY N X r W) r b (d+1) q (fC T j (r.need (d+1)) q (r.room (d+1))) T' (QW stop V (bn (wg N X r (d+1) q) W))) :
  pJ N j (kY N X r W) r b d p T (if JI stop V (bn (wg N X r (d+1) q) W) then T' else fC T' j (r.need (d+1)) q (T j (r.need (d+1)) q)) (QW stop V (bn (wg N X r (d+1) q) W)):=by
 obtain⟨g1,g2,g3,g4⟩:=hP;have hT:∀n x,Op r (d+1) q n x->¬(n=r.need (d+1)/\x=q)->T' j n x=T j n x:=by
  intro n x hO hne;rw[g3 n x hO,Z3 T (by simp;intro h1 h2;exact hne ⟨h1,h2⟩)]
 have o5:T' j (r.need (d+1)) q=r.room (d+1):=by
  rw[g3 _ _ (Or.inr ⟨rfl,Nat.le_refl _⟩),Ej]
 cases hcc:JI stop V (bn (wg N X r (d+1) q) W) with
 | true =>
   rw[if_pos rfl];rw[Qc hcc] at g1 g2 ⊢;refine⟨g1,fun n x hx hO hne y hy=>?_,fun n x hO=>?_,fun a ha hb=>?_⟩
   ·by_cases hO2:Op r (d+1) q n x
    ·by_cases hh:n=r.need (d+1)/\x=q
     ·obtain⟨rfl,rfl⟩:=hh;rw[o5] at hy;unfold kY at hy;rw[Zjb hX r hm hd] at hy;exact yn hy
     ·rw[hT n x hO2 hh] at hne hy;exact BZ _ _ _ (h.vK n x hx hO hne y hy)
    ·exact g2 n x hx hO2 hne y hy
   ·have hne:¬(n=r.need (d+1)/\x=q):=by
     rintro⟨rfl,rfl⟩;exact Sy hq hc hO
    exact hT n x (SF hq hO) hne
   ·rw[g4 a ha hb,Qk T ha]
 | false =>
   simp only[Bool.false_eq_true,if_false];rw[QE hcc] at g1 g2 ⊢;refine⟨DR g1 hj,fun n x hx hO hne y hy=>?_,fun n x hO=>?_,fun a ha hb=>?_⟩
   ·by_cases hh:n=r.need (d+1)/\x=q
    ·obtain⟨rfl,rfl⟩:=hh;rw[Ej] at hne hy;exact h.vK _ _ hx hO hne y hy
    ·rw[Z3 T' (by simp;intro h1 h2;exact hh ⟨h1,h2⟩)] at hne hy
     by_cases hO2:Op r (d+1) q n x
     ·rw[hT n x hO2 hh] at hne hy;exact h.vK n x hx hO hne y hy
     ·exact g2 n x hx hO2 hne y hy
   ·have hne:¬(n=r.need (d+1)/\x=q):=by
     rintro⟨rfl,rfl⟩;exact Sy hq hc hO
    rw[Z3 T' (by simp;intro h1 h2;exact hne ⟨h1,h2⟩)];exact hT n x (SF hq hO) hne
   ·rw[Qk T' ha,g4 a ha hb,Qk T ha]
open Go.RowKit
def jF (j n:Nat):Value:=.agg #[.int .i64 ((j:Nat):Int),.int .i64 ((n:Nat):Int)]
structure zq (P:Program) (mt kt et:TypeId):Prop where
 map:P.underlying mt=some (.map kt et)
 key:∃fs,P.underlying kt=some (.struct fs)
 eq:∀(a b c d:Nat) (w:World),(Op.equal kt (jF a b) (jF c d)).run P w=.ok (a == c && b == d) w
 check:∀(e:Bool) (a b:Nat) (w:World),(Instr.checkKey e 10000 kt (jF a b)).run P w=.ok () w
 zero:∀w:World,(zeroValue et).run P w=.ok (.pointer none) w
theorem YA{P:Program}{r:Nat}{es:Array MapEntry}(o:Obj)(h:w.heap[r]?=some (.map es clock)):(setObj r o).run P w=.ok () (w.putObj r o):=by simp[setObj,Sem.run,h,World.putObj]
theorem LB{P:Program}{r:Nat}{es:Array MapEntry}(h:w.heap[r]?=some (.map es clock)):(getObj r).run P w=.ok (.map es clock) w:=by simp[getObj,Sem.run,h]
section
variable {P:Program}{mt kt et:TypeId}
theorem ZdU(h:zq P mt kt et){n:Nat}(w:World):∀(L:List Et) (i:Nat),(∀x∈L,x.1≠(j,n))->(Instr.findAsking kt (jF j n) (L.map J8) i).run P w=.ok none w:=by
 intro L
 induction L with
 | nil=>intro i _;simp[Instr.findAsking]
 | cons x L ih =>
   intro i hx;have hne:=hx x (by simp);have he:(Op.equal kt (jF j n) (J8 x).key).run P w=.ok false w:=by
    have:=h.eq j n x.1.1 x.1.2 w
    rw[show (J8 x).key=jF x.1.1 x.1.2 from rfl,this]
    congr 1
    have:¬(j=x.1.1/\n=x.1.2):=fun ⟨h1,h2⟩=>hne (by rw[h1,h2])
    simpa using this
   simp only[List.map_cons,Instr.findAsking,Sem.run_bind,he,Result.andThen_ok,Bool.false_eq_true,if_false];exact ih (i+1) (fun y hy=>hx y (by simp[hy]))
theorem ZkK(h:zq P mt kt et){n:Nat}(w:World):∀(L:List Et) (i:Nat) (x:Et),(L.map (·.1)).Nodup->x∈L->x.1=(j,n)->∃k,(Instr.findAsking kt (jF j n) (L.map J8) i).run P w=.ok (some (k,.pointer (some ⟨x.2.1,0,none⟩))) w:=by
 intro L
 induction L with
 | nil=>intro i x _ hx;simp at hx
 | cons y L ih =>
   intro i x hn hx hk;simp only[List.map_cons,List.nodup_cons] at hn
   by_cases hy:y.1=(j,n)
   ·have hxy:x=y:=by
     rcases List.mem_cons.1 hx with rfl | hx
     ·rfl
     ·exact absurd (List.mem_map.2 ⟨x,hx,by rw[hk,hy]⟩) hn.1
    subst hxy;have he:(Op.equal kt (jF j n) (J8 x).key).run P w=.ok true w:=by
     have:=h.eq j n x.1.1 x.1.2 w
     rw[show (J8 x).key=jF x.1.1 x.1.2 from rfl,this,hy];simp
    refine⟨i,?_⟩;simp only[List.map_cons,Instr.findAsking,Sem.run_bind,he,Result.andThen_ok,if_true,Sem.run_pure];rfl
   ·have he:(Op.equal kt (jF j n) (J8 y).key).run P w=.ok false w:=by
     have:=h.eq j n y.1.1 y.1.2 w
     rw[show (J8 y).key=jF y.1.1 y.1.2 from rfl,this]
     congr 1
     have:¬(j=y.1.1/\n=y.1.2):=fun ⟨h1,h2⟩=>hy (by rw[h1,h2])
     simpa using this
    rcases List.mem_cons.1 hx with rfl | hx
    ·exact absurd hk hy
    ·obtain⟨k,hk2⟩:=ih (i+1) x hn.2 hx hk;refine⟨k,?_⟩;simp only[List.map_cons,Instr.findAsking,Sem.run_bind,he,Result.andThen_ok,Bool.false_eq_true,if_false];exact hk2
theorem Ti(h:zq P mt kt et){n:Nat}(w:World)(L:List Et):(Instr.findKey kt (jF j n) (L.map J8)).run P w=(Instr.findAsking kt (jF j n) (L.map J8) 0).run P w:=by
 obtain⟨fs,hfs⟩:=h.key;unfold Instr.findKey;simp only[Sem.run_bind,run_underlying hfs,Result.andThen_ok]
 cases L with
 | nil=>simp[Instr.findNow,Instr.findAsking]
 | cons x L=>simp[Instr.findNow,Instr.sameNow,J8,jF]
theorem ZhE(h:zq P mt kt et){n:Nat}{L:List Et}(hm:w.heap[m]?=some (.map (L.map J8).toArray clock))(hx:∀x∈L,x.1≠(j,n)):
  (Instr.lookup mt (.map (some m)) (jF j n) false).run P w=.ok (.pointer none) w:=by
 unfold Instr.lookup;simp only[Sem.run_bind,run_underlying h.map,Result.andThen_ok,LB hm,h.check,Ti h,ZdU h w L 0 hx,h.zero,Sem.run_pure,Bool.false_eq_true,if_false]
theorem Zj6(h:zq P mt kt et){n:Nat}{L:List Et}(hm:w.heap[m]?=some (.map (L.map J8).toArray clock))(hn:(L.map (·.1)).Nodup){x:Et}(hx:x∈L)(hk:x.1=(j,n)):
  (Instr.lookup mt (.map (some m)) (jF j n) false).run P w=.ok (.pointer (some ⟨x.2.1,0,none⟩)) w:=by
 obtain⟨k,hk2⟩:=ZkK h w L 0 x hn hx hk;unfold Instr.lookup;simp only[Sem.run_bind,run_underlying h.map,Result.andThen_ok,LB hm,h.check,Ti h,hk2,Sem.run_pure,Bool.false_eq_true,if_false]
theorem Zg9(h:zq P mt kt et){n r:Nat}{L:List Et}(hm:w.heap[m]?=some (.map (L.map J8).toArray clock))(hx:∀x∈L,x.1≠(j,n)):
  (Instr.mapUpdate mt (.map (some m)) (jF j n) ((ae r))).run P w=.ok () (w.putObj m (.map ((L++[((j,n),r,clock)]).map J8).toArray (clock+1))):=by
 unfold Instr.mapUpdate;simp only[Sem.run_bind,run_underlying h.map,Result.andThen_ok,LB hm,h.check,Ti h,ZdU h w L 0 hx];rw[YA _ hm]
 congr 2
 simp[J8,jF]
theorem Znn(t:TypeId)(h:zq P mt kt et){es:Array MapEntry}(hm:w.heap[m]?=some (.map es clock)):
  (Builtin.clear_ #[mt] t #[.map (some m)]).run P w=.ok (.tuple #[]) (w.putObj m (.map #[] clock)):=by
 unfold Builtin.clear_;simp only[Sem.run_bind,run_underlying h.map,Result.andThen_ok,LB hm,List.getElem?_toArray,List.getElem?_cons_zero,YA _ hm,Sem.run_pure]
end
theorem TJ{o:Obj}(hm:m<w.heap.size):(w.putObj m o).heap[m]?=some o:=by
 unfold World.putObj;simp[hm]
theorem QX{k:Nat}{o:Obj}(h:k≠m):(w.putObj m o).heap[k]?=w.heap[k]?:=by
 unfold World.putObj;simp[Ne.symm h]
theorem JZ(w:World)(m:Nat)(o:Obj):Za (·=m) w (w.putObj m o) :=
 ⟨rfl,rfl,rfl,by simp[World.putObj],fun k _ hk=>QX hk⟩
structure iW (R Q:aO) (w:World) (F Fr F1 F2:az):Prop where
 all:∀k,Fr k↔F1 k\/F2 k
 fe:∀k,F1 k->¬F2 k
 one:R w F F1
 two:Q w F F2
variable {R:aO}{l:List aO}{F Fr:az}
theorem Zo:Zr (R::l) w F Fr↔∃F1 F2,iW R (Zr l) w F Fr F1 F2 :=
 ⟨fun ⟨F1,F2,h1,h2,h3,h4⟩=>⟨F1,F2,h1,h2,h3,h4⟩,fun ⟨F1,F2,h⟩=>⟨F1,F2,h.all,h.fe,h.one,h.two⟩⟩
variable {Q:aO}{F' F1 F2:az}
theorem iW.upd{R':aO}(hR:Zs R)(hQ:Zs Q){p8:az}(h:iW R Q w F Fr F1 F2)(t:aJ w F F1 w' F' p8)(h':R' w' F' p8):
  iW R' Q w' F' (fun k=>p8 k\/F2 k) p8 F2/\aJ w F Fr w' F' (fun k=>p8 k\/F2 k):=by
 have hs:=hQ.stays h.two t (fun k hk=>(hR.lt h.one k hk).1) (fun k hk h1=>h.fe k h1 hk);refine⟨⟨fun k=>Iff.rfl,fun k h1 h2=>hs.2 k h2 h1,h',hs.1⟩,?_⟩;refine(t.wide (P:=F2) (fun k hk=>⟨(hQ.lt h.two k hk).1,(hQ.lt h.two k hk).2,fun h1=>h.fe k h1 hk⟩)).congr (fun k=>(h.all k).symm) (fun k=>Iff.rfl)
theorem iW.swap(h:iW R Q w F Fr F1 F2):iW Q R w F Fr F2 F1:=⟨fun k=>(h.all k).trans Or.comm,fun k h1 h2=>h.fe k h2 h1,h.two,h.one⟩
theorem Us{A B:aO}(h:Zr (A::B::l) w F Fr):Zr (B::A::l) w F Fr:=by
 obtain⟨F1,F2,e1,d1,hA,F3,F4,e2,d2,hB,hl⟩:=h;refine⟨F3,fun k=>F1 k\/F4 k,fun k=>?_,fun k hk hc=>?_,hB,F1,F4,fun k=>Iff.rfl,fun k hk hc=>d1 k hk ((e2 k).2 (Or.inr hc)),hA,hl⟩
 ·rw[e1 k,e2 k];constructor
  ·rintro(h | h | h)
   ·exact Or.inr (Or.inl h)
   ·exact Or.inl h
   ·exact Or.inr (Or.inr h)
  ·rintro(h | h | h)
   ·exact Or.inr (Or.inl h)
   ·exact Or.inl h
   ·exact Or.inr (Or.inr h)
 ·rcases hc with hc | hc
  ·exact d1 k hc ((e2 k).2 (Or.inl hk))
  ·exact d2 k hk hc
variable {C:Cx}{τ:jG}{ats:List aO}
theorem Xx(hτ:j5 C τ)(ha:∀R∈ats,Zs R)(out:List (Nat×Rs)):Zs (Zr (τ.tl out::ats)) :=
 ZT (fun R hR=>(List.mem_cons.1 hR).elim (fun h=>h ▸ hτ.ok out) (ha R))
theorem pK(ha:∀R∈ats,Zs R)(C:Cx)(ρ:Rx)(tl:Value)(T:Tt):Zs (Zr (aR C ρ tl T::ats)) :=
 ZT (fun R hR=>(List.mem_cons.1 hR).elim (fun h=>h ▸ QA C ρ tl T) (ha R))
variable {ρ:Rx}{out:List (Nat×Rs)}
theorem Lx(h:Run C ρ ats τ T out w F Fr):∃F1 F2,iW (aR C ρ τ.tv T) (Zr (τ.tl out::ats)) w F Fr F1 F2:=Zo.1 h
theorem TT(h:iW (aR C ρ τ.tv T) (Zr (τ.tl out::ats)) w F Fr F1 F2):Run C ρ ats τ T out w F Fr:=Zo.2 ⟨F1,F2,h⟩
theorem Ztx(h:Run C ρ ats τ T out w F Fr):∃F1 F2,iW (τ.tl out) (Zr (aR C ρ τ.tv T::ats)) w F Fr F1 F2:=Zo.1 (Us h)
theorem ZlC(h:iW (τ.tl out) (Zr (aR C ρ τ.tv T::ats)) w F Fr F1 F2):Run C ρ ats τ T out w F Fr:=Us (Zo.2 ⟨F1,F2,h⟩)
theorem Qu(h:Run C ρ ats τ T out w F Fr):Se w C ρ.jn ρ.bg τ.tv:=by
 obtain⟨F1,F2,h⟩:=Lx h;exact h.one.choose_spec.1
theorem Ql(hτ:j5 C τ)(ha:∀R∈ats,Zs R)(h:Run C ρ ats τ T out w F Fr)(k:Za ai w w'):
  Run C ρ ats τ T out w' F Fr/\aJ w F Fr w' F Fr:=by
 have hO:=DL hτ ha ρ T out;exact⟨hO.frame h (aH.ay k) (fun i hi=>(hO.lt h i hi).1) (fun i hi=>k.block i (hO.lt h i hi).2 id),aJ.ay (fun i hi=>(hO.lt h i hi).1) k⟩
theorem TS{n:Nat}{P:Program}{l:Nat}{f:FuncId}{tmps:Array Value}{assign body:Code}{R:Ending->World->Prop}(h:RoundIn Fence.wide n P l f tmps assign body w R):RoundIn Fence.wide m P l f tmps assign body w R :=
 ⟨h.1,fun c cs _=>h.2 c cs (room_wide _)⟩
theorem Zot{stop:Bool}{t:Tr}(h:V p=false)(g:Rs):ek stop V [(p,t)] g = [(p,t g)]/\JI stop V [(p,t)] = !stop/\dd V [(p,t)] = [(p,t)]:=by
 have e:dd V [(p,t)] = [(p,t)]:=by rw[Qf (by exact h)];rfl
 refine⟨?_,?_,e⟩
 ·unfold ek;rw[e];cases stop <;> simp
 ·unfold JI;rw[e];cases stop <;> simp
end Go.Proofs.YtfkflljplohhcaaGreatDoor
