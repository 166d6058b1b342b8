import Derived.Test.YtfkflljplohhcaaGreatDoorC
namespace Go.Proofs.YtfkflljplohhcaaGreatDoor
set_option linter.unusedVariables false
def Fp (lo hi n:Nat) (l:List Pc):Prop :=∃f,Fg lo hi f/\f n=l
def FpL (lo hi:Nat):Nat->List Pf->Prop
 | _,[]=>True
 | n,f :: fs=>Fp lo hi n (f n)/\FpL lo hi (n + (f n).length) fs
theorem Fp.wide {lo hi lo' hi' n:Nat} {l:List Pc} (h:Fp lo hi n l) (h1:lo'<=lo) (h2:hi<=hi'):Fp lo' hi' n l:=by
 obtain ⟨f,hf,he⟩:=h;exact ⟨f,hf.wide h1 h2,he⟩
theorem FpL.wide {lo hi lo' hi':Nat} (h1:lo'<=lo) (h2:hi<=hi') :∀(fs:List Pf) (n:Nat),FpL lo hi n fs->FpL lo' hi' n fs:=by
 intro fs
 induction fs with
 | nil=>intro n h; trivial
 | cons f fs ih=>intro n h; exact ⟨h.1.wide h1 h2,ih _ h.2⟩
theorem QE {α:Type} {l m:List α} {a b : α} (h:l ++ [a]=m ++ [b]):l=m/\a=b:=by
 have:=List.append_inj' h rfl
 exact ⟨this.1,by simpa using this.2⟩
theorem JD {α:Type} {m:List α} {a b : α} (h : [a]=m ++ [b]):a=b:=(QE (l := []) h).2
theorem ZpP {lo hi:Nat} :∀(fs fs0:List Pf) (n:Nat),(∀f∈fs,Ful f)->(∀f∈fs0,Fg lo hi f)->ends fs n=ends fs0 n->cat fs n=cat fs0 n->FpL lo hi n fs:=by
 intro fs
 induction fs with
 | nil=>intros; trivial
 | cons f fs ih =>
   intro fs0 n hful hfg he hc
   cases fs0 with
   | nil=>simp [ends] at he
   | cons f0 fs0 =>
     simp only [ends,List.cons.injEq] at he;simp only [cat] at hc;have hl:(f n).length=(f0 n).length:=by omega
     obtain ⟨h1,h2⟩:=List.append_inj hc hl;refine ⟨⟨f0,hfg f0 (by simp),h1.symm⟩,ih fs0 _ (fun g hg=>hful g (by simp [hg])) (fun g hg=>hfg g (by simp [hg])) ?_ ?_⟩
     ·rw [he.2,hl]
     ·rw [h2,hl]
theorem ZlV {K:Int} (hK:K=2\/K=3) {lo hi:Nat} {f:Pf} (h:Fg lo hi f) :∀(n:Nat) (fs:List Pf),(∀g∈fs,Ful g)->f n=cat fs n ++ [ZI K (ends fs n)]->FpL lo hi n fs :=
 (h (fun lo hi f=>Fg lo hi f/\∀(n:Nat) (fs:List Pf),(∀g∈fs,Ful g)->f n=cat fs n ++ [ZI K (ends fs n)]->FpL lo hi n fs)
  ⟨fun lo hi S=>⟨Fg.cl.set lo hi S,fun n fs _ he=>by
    have:=congrArg Pc.kind (JD he)
    simp [Zau,ZI] at this; omega⟩,
   fun lo hi=>⟨Fg.cl.start lo hi,fun n fs _ he=>by
    have:=congrArg Pc.kind (JD he)
    simp [ZI] at this; omega⟩,
   fun lo hi=>⟨Fg.cl.fin lo hi,fun n fs _ he=>by
    have:=congrArg Pc.kind (JD he)
    simp [ZI] at this; omega⟩,
   fun lo hi gs hl ih=>⟨Fg.cl.seq lo hi gs hl (fun g hg=>(ih g hg).1),fun n fs hful he=>by
    obtain ⟨h1,h2⟩:=QE he;have h3:ends gs n=ends fs n:=by have:=congrArg Pc.kids h2; simpa [ZI] using this
    exact ZpP fs gs n hful (fun g hg=>(ih g hg).1) h3.symm h1.symm⟩,
   fun lo hi gs hl ih=>⟨Fg.cl.alt lo hi gs hl (fun g hg=>(ih g hg).1),fun n fs hful he=>by
    obtain ⟨h1,h2⟩:=QE he;have h3:ends gs n=ends fs n:=by have:=congrArg Pc.kids h2; simpa [ZI] using this
    exact ZpP fs gs n hful (fun g hg=>(ih g hg).1) h3.symm h1.symm⟩,
   fun lo hi f a b lz h0 h1 h2 h3 ih=>⟨Fg.cl.rep lo hi f a b lz h0 h1 h2 h3 ih.1,fun n fs _ he=>by
    have:=congrArg Pc.kind (QE he).2
    simp [ZI] at this; omega⟩,
   fun lo hi f hl ih=>⟨Fg.cl.grp lo hi f hl ih.1,fun n fs _ he=>by
    have:=congrArg Pc.kind (QE he).2
    simp [ZI] at this; omega⟩,
   fun lo hi lo' hi' f h1 h2 ih=>⟨Fg.cl.wide lo hi lo' hi' f h1 h2 ih.1,fun n fs hful he=>FpL.wide h1 h2 fs n (ih.2 n fs hful he)⟩⟩).2
theorem Zr6 {lo hi n:Nat} {fs:List Pf} (hful :∀g∈fs,Ful g) (h:Fp lo hi n (Jh fs n)):FpL lo hi n fs:=by
 obtain ⟨f,hf,he⟩:=h;exact ZlV (Or.inl rfl) hf n fs hful he
theorem Zr9 {lo hi n:Nat} {fs:List Pf} (hful :∀g∈fs,Ful g) (h:Fp lo hi n (JW fs n)):FpL lo hi n fs:=by
 obtain ⟨f,hf,he⟩:=h;exact ZlV (Or.inr rfl) hf n fs hful he
theorem Zr7 {lo hi n:Nat} {a b:Int} {lz:Bool} {f:Pf} (h:Fp lo hi n (Z9 a b lz f n)):(0<=a/\a<=50/\(b = -1\/a<=b)/\b<=50)/\Fp lo hi n (f n):=by
 obtain ⟨g,hg,he⟩:=h;refine (hg (fun lo hi g=>Fg lo hi g/\∀(n:Nat) (a b:Int) (lz:Bool) (f:Pf),g n=Z9 a b lz f n->(0<=a/\a<=50/\(b = -1\/a<=b)/\b<=50)/\Fp lo hi n (f n))
  ⟨fun lo hi S=>⟨Fg.cl.set lo hi S,fun n a b lz f he=>?_⟩,fun lo hi=>⟨Fg.cl.start lo hi,fun n a b lz f he=>?_⟩,fun lo hi=>⟨Fg.cl.fin lo hi,fun n a b lz f he=>?_⟩,
   fun lo hi gs hl ih=>⟨Fg.cl.seq lo hi gs hl (fun g hg=>(ih g hg).1),fun n a b lz f he=>?_⟩,fun lo hi gs hl ih=>⟨Fg.cl.alt lo hi gs hl (fun g hg=>(ih g hg).1),fun n a b lz f he=>?_⟩,
   fun lo hi f0 a0 b0 lz0 h0 h1 h2 h3 ih=>⟨Fg.cl.rep lo hi f0 a0 b0 lz0 h0 h1 h2 h3 ih.1,fun n a b lz f he=>?_⟩,
   fun lo hi f0 hl ih=>⟨Fg.cl.grp lo hi f0 hl ih.1,fun n a b lz f he=>?_⟩,
   fun lo hi lo' hi' f0 h1 h2 ih=>⟨Fg.cl.wide lo hi lo' hi' f0 h1 h2 ih.1,fun n a b lz f he=>⟨(ih.2 n a b lz f he).1,(ih.2 n a b lz f he).2.wide h1 h2⟩⟩⟩).2 n a b lz f he
 ·have:=congrArg Pc.kind (JD he); simp [Zau] at this
 ·have:=congrArg Pc.kind (JD he); simp at this
 ·have:=congrArg Pc.kind (JD he); simp at this
 ·have:=congrArg Pc.kind (QE he).2; simp [ZI] at this
 ·have:=congrArg Pc.kind (QE he).2; simp [ZI] at this
 ·obtain ⟨e1,e2⟩:=QE he;have ea:=congrArg Pc.min e2;have eb:=congrArg Pc.max e2;simp only at ea eb;subst ea eb;exact ⟨⟨h0,h1,h2,h3⟩,f0,ih.1,e1⟩
 ·have:=congrArg Pc.kind (QE he).2; simp at this
theorem Zr8 {lo hi n:Nat} {num:Int} {f:Pf} (h:Fp lo hi n (JT num f n)) :∃l,lo<=l/\l < hi/\num=(l:Int) + 1/\Fp (l + 1) hi n (f n):=by
 obtain ⟨g,hg,he⟩:=h;refine (hg (fun lo hi g=>Fg lo hi g/\∀(n:Nat) (num:Int) (f:Pf),g n=JT num f n->∃l,lo<=l/\l < hi/\num=(l:Int) + 1/\Fp (l + 1) hi n (f n))
  ⟨fun lo hi S=>⟨Fg.cl.set lo hi S,fun n num f he=>?_⟩,fun lo hi=>⟨Fg.cl.start lo hi,fun n num f he=>?_⟩,fun lo hi=>⟨Fg.cl.fin lo hi,fun n num f he=>?_⟩,
   fun lo hi gs hl ih=>⟨Fg.cl.seq lo hi gs hl (fun g hg=>(ih g hg).1),fun n num f he=>?_⟩,fun lo hi gs hl ih=>⟨Fg.cl.alt lo hi gs hl (fun g hg=>(ih g hg).1),fun n num f he=>?_⟩,
   fun lo hi f0 a0 b0 lz0 h0 h1 h2 h3 ih=>⟨Fg.cl.rep lo hi f0 a0 b0 lz0 h0 h1 h2 h3 ih.1,fun n num f he=>?_⟩,
   fun lo hi f0 hl ih=>⟨Fg.cl.grp lo hi f0 hl ih.1,fun n num f he=>?_⟩,
   fun lo hi lo' hi' f0 h1 h2 ih=>⟨Fg.cl.wide lo hi lo' hi' f0 h1 h2 ih.1,fun n num f he=>?_⟩⟩).2 n num f he
 ·have:=congrArg Pc.kind (JD he); simp [Zau] at this
 ·have:=congrArg Pc.kind (JD he); simp at this
 ·have:=congrArg Pc.kind (JD he); simp at this
 ·have:=congrArg Pc.kind (QE he).2; simp [ZI] at this
 ·have:=congrArg Pc.kind (QE he).2; simp [ZI] at this
 ·have:=congrArg Pc.kind (QE he).2; simp at this
 ·obtain ⟨e1,e2⟩:=QE he;have ea:=congrArg Pc.num e2;simp only at ea;exact ⟨lo,Nat.le_refl _,hl,ea.symm,f0,ih.1,e1⟩
 ·obtain ⟨l,g1,g2,g3,g4⟩:=ih.2 n num f he;exact ⟨l,by omega,by omega,g3,g4.wide (Nat.le_refl _) h2⟩
theorem Zjz {lo hi:Nat} {pre:List Pc} {f:Pf} (u:ByteArray) (h:Fp lo hi pre.length (f pre.length)):OkX u.size lo hi (smx u pre f):=by
 obtain ⟨g,hg,he⟩:=h
 have:=Zs4 u hg pre
 unfold smx at this ⊢;rw [he] at this;exact this
abbrev Rs:=List (Int×Int)
abbrev Tr:=Rs->Rs
abbrev Wn:=List (Nat×Tr)
abbrev Wt:=Nat->Wn
def ap (e:Ef):Tr:=fun g=>g.mapIdx fun i x=>match e i with | none=>x | some v=>((v.1:Int),(v.2:Int))
def pr (t:Tr) (L:Wn):Wn:=L.map fun x=>(x.1,fun g=>x.2 (t g))
def bn (L:En) (W:Wt):Wn:=L.flatMap fun e=>pr (ap e.2) (W e.1)
def sF (n p:Nat):Tr:=fun g=>g.mapIdx fun i x=>if i=n then ((p:Int),x.2) else x
def sT (n p:Nat):Tr:=fun g=>g.mapIdx fun i x=>if i=n then (x.1,(p:Int)) else x
theorem ZpY:ap eno=fun g=>g:=by
 funext g
 apply List.ext_getElem
 ·simp [ap]
 ·intro i h1 h2;simp [ap,eno]
theorem Zsy (a b:Ef) (g:Rs):ap b (ap a g)=ap (eov a b) g:=by
 apply List.ext_getElem
 ·simp [ap]
 ·intro i h1 h2;simp only [ap,List.getElem_mapIdx,eov]
  cases b i <;> simp
theorem Zgj (e:Ef) (g:Rs):(ap e g).length=g.length:=by simp [ap]
theorem ZrM (n p:Nat) (g:Rs):(sF n p g).length=g.length:=by simp [sF]
theorem ZrL (n p:Nat) (g:Rs):(sT n p g).length=g.length:=by simp [sT]
theorem Zsx (e:Ef) (n p q:Nat) (h:e n=none) (g:Rs):sT n q (ap e (sF n p g))=ap (est e n (p,q)) g:=by
 apply List.ext_getElem
 ·simp [ap,sF,sT]
 ·intro i h1 h2;simp only [ap,sF,sT,List.getElem_mapIdx,est]
  by_cases hi:i=n
  ·subst hi; simp [h]
  ·simp [hi]
theorem ZrS (a b:Tr) (L:Wn):pr a (pr b L)=pr (fun g=>b (a g)) L:=by simp [pr]
theorem ZrT (L:Wn):pr (fun g=>g) L=L:=by simp [pr]
theorem ZkS {α:Type} (t:Tr) (L:List α) (f : α->Wn):pr t (L.flatMap f)=L.flatMap fun a=>pr t (f a):=by simp [pr,List.map_flatMap]
theorem Zc6 (t:Tr) (L:Wn):(pr t L).map (·.1)=L.map (·.1):=by simp [pr]
theorem ZqW (s:Vs) (t:Tr) (L:Wn):dd s (pr t L)=pr t (dd s L):=Zsg s (fun x:Nat×Tr=>((x.1,fun g=>x.2 (t g)):Nat×Tr)) (fun _=>rfl) L
theorem ZrK (s:Vs) (t:Tr) (L:Wn):sal s (pr t L)=sal s L:=Zh1 (Zc6 t L)
theorem ZpU (W:Wt):bn [] W = []:=rfl
theorem Zq6 (e:Nat×Ef) (L:En) (W:Wt):bn (e :: L) W=pr (ap e.2) (W e.1) ++ bn L W:=by simp [bn]
theorem Zmx (L M:En) (W:Wt):bn (L ++ M) W=bn L W ++ bn M W:=by simp [bn]
theorem Zhx {α:Type} (L:List α) (f : α->En) (W:Wt):bn (L.flatMap f) W=L.flatMap fun a=>bn (f a) W:=by unfold bn; rw [List.flatMap_assoc]
theorem ZiD (p:Nat) (W:Wt):bn [(p,eno)] W=W p:=by simp [bn,ZpY,ZrT]
theorem ZpV (e:Nat×Ef) (L:En) (W:Wt):bn (beh e L) W=pr (ap e.2) (bn L W):=by
 unfold bn;rw [ZkS];unfold beh;rw [List.flatMap_map]
 congr 1
 funext a
 simp only [ZrS]
 congr 1
 funext g
 rw [Zsy]
theorem Zsq (L:En) (X:Xs) (W:Wt):bn (bnd L X) W=bn L (fun p=>bn (X p) W):=by
 unfold bnd;rw [Zhx];show _=L.flatMap _
 congr 1
 funext a
 exact ZpV a (X a.1) W
theorem ZdH (W:Wt) (a b:Nat×Ef) (h:a.1=b.1):(pr (ap a.2) (W a.1)).map (·.1)=(pr (ap b.2) (W b.1)).map (·.1):=by rw [Zc6,Zc6,h]
theorem ZoN (s:Vs) (L:En) (W:Wt):dd s (bn (dd sno L) W)=dd s (bn L W):=Zit (fun e=>pr (ap e.2) (W e.1)) (ZdH W) L s
def Alk (L M:Wn):Prop :=∀s,dd s L=dd s M
theorem Alk.refl (L:Wn):Alk L L:=fun _=>rfl
theorem Alk.symm {L M:Wn} (h:Alk L M):Alk M L:=fun s=>(h s).symm
theorem Alk.trans {L M K:Wn} (h:Alk L M) (h2:Alk M K):Alk L K:=fun s=>(h s).trans (h2 s)
theorem Alk.sal {L M:Wn} (h:Alk L M) (s:Vs):sal s L=sal s M:=ZkG (h s)
theorem ZmW {L M:En} (h :∀s,dd s L=dd s M) (W:Wt):Alk (bn L W) (bn M W):=fun s=>by rw [<- ZoN,h sno,ZoN]
def bns:List Xs->Wt->Wt
 | [],W=>W
 | X :: l,W=>fun p=>bn (X p) (bns l W)
theorem Zq5 (l:List Xs) (L:En) (W:Wt):Alk (bn (Zfm L l) W) (bn L (bns l W)):=by
 induction l generalizing L with
 | nil=>exact Alk.refl _
 | cons X l ih =>
   refine (ih (thn L X)).trans ?_;intro s;rw [thn,ZoN,Zsq];rfl
theorem Zsn (l:List Xs) (W:Wt) (p:Nat):Alk (bn (ZpA l p) W) (bns l W p):=by
 have:=Zq5 l [(p,eno)] W
 rw [ZiD] at this;exact this
theorem Zsr (l:List Xs) (W:Wt) (p:Nat):Alk (bn (Zj5 l p) W) (l.flatMap fun X=>bn (X p) W):=by
 intro s;rw [Zj5,ZoN,Zhx]
theorem Zsp {N lo hi n:Nat} {X:Xs} (h:OkX N lo hi X) (hn:n < lo\/hi<=n) (W:Wt) (p:Nat) (hp:p<=N) :
  pr (sF n p) (bn (X p) (fun q=>pr (sT n q) (W q)))=bn (Zm8 n X p) W:=by
 unfold bn Zm8;rw [ZkS,List.flatMap_map];refine QG _ _ _ ?_;intro e he;have hno:e.2 n=none:=by
  cases hc:e.2 n with
  | none=>rfl
  | some v =>
    obtain ⟨a,b⟩:=v
    have:=((h p hp).2 e he).2.2 n a b hc
    omega
 simp only [ZrS]
 congr 1
 funext g
 exact Zsx e.2 n p e.1 hno g
theorem Zso {N:Nat} {X:Xs} (hX:Rng N X) (r:Rp) (hm :∀m,r.most=some m->m<=50/\r.least<=m) (p:Nat) (hp:p<=N) (W:Wt):Alk (bn (ZkM N r X p) W) (bn (wg N X r 0 p) W) :=
 ZmW (fun s=>ZrR hX r hm p hp s) W
def Zae (stop:Bool) (V:Vs) (L:Wn) (g:Rs):List (Nat×Rs):=let M:=(dd V L).map fun x=>(x.1,x.2 g); if stop then M.take 1 else M
def JB (stop:Bool) (V:Vs) (L:Wn):Bool := !stop || (dd V L).isEmpty
theorem ZhQ {L M:Wn} (h:Alk L M) (stop:Bool) (V:Vs) (g:Rs):Zae stop V L g=Zae stop V M g:=by unfold Zae; rw [h]
theorem Ze2 {L M:Wn} (h:Alk L M) (stop:Bool) (V:Vs):JB stop V L=JB stop V M:=by unfold JB; rw [h]
theorem Zkj (stop:Bool) (V:Vs) (t:Tr) (L:Wn) (g:Rs):Zae stop V (pr t L) g=Zae stop V L (t g):=by
 unfold Zae;rw [ZqW];simp only [pr,List.map_map];rfl
theorem Zhn (stop:Bool) (V:Vs) (t:Tr) (L:Wn):JB stop V (pr t L)=JB stop V L:=by
 unfold JB;rw [ZqW];simp [pr]
theorem JO {stop:Bool} {V:Vs} {L:Wn} (h:JB stop V L=true) (M:Wn) (g:Rs):Zae stop V (L ++ M) g=Zae stop V L g ++ Zae stop (sal V L) M g:=by
 unfold Zae JB at *;rw [Ju]
 cases stop with
 | false=>simp
 | true =>
   simp only [Bool.not_true,Bool.false_or,List.isEmpty_iff] at h;simp [h]
theorem Zar {stop:Bool} {V:Vs} {L:Wn} (h:JB stop V L=true) (M:Wn):JB stop V (L ++ M)=JB stop (sal V L) M:=by
 unfold JB at *;rw [Ju]
 cases stop with
 | false=>simp
 | true =>
   simp only [Bool.not_true,Bool.false_or,List.isEmpty_iff] at h;simp [h]
theorem ZcU {stop:Bool} {V:Vs} {L:Wn} (h:JB stop V L=false) (M:Wn) (g:Rs):Zae stop V (L ++ M) g=Zae stop V L g:=by
 unfold Zae JB at *;rw [Ju]
 cases stop with
 | false=>simp at h
 | true =>
   simp only [Bool.not_true,Bool.false_or] at h
   cases hd:dd V L with
   | nil=>rw [hd] at h; simp at h
   | cons a l=>simp
theorem ZbO {stop:Bool} {V:Vs} {L:Wn} (h:JB stop V L=false) (M:Wn):JB stop V (L ++ M)=false:=by
 unfold JB at *;rw [Ju]
 cases stop with
 | false=>simp at h
 | true =>
   simp only [Bool.not_true,Bool.false_or] at h ⊢
   cases hd:dd V L with
   | nil=>rw [hd] at h; simp at h
   | cons a l=>simp
theorem ZcE (stop:Bool) (V:Vs) (g:Rs):Zae stop V [] g = []:=by cases stop <;> simp [Zae,dd]
theorem Zbb (stop:Bool) (V:Vs):JB stop V []=true:=by cases stop <;> simp [JB,dd]
theorem ZcV {stop:Bool} {V:Vs} {L:Wn} (h :∀x∈L,V x.1=true) (g:Rs):Zae stop V L g = []:=by
 unfold Zae;rw [Zch h]
 cases stop <;> simp
theorem ZbP {stop:Bool} {V:Vs} {L:Wn} (h :∀x∈L,V x.1=true):JB stop V L=true:=by
 unfold JB;rw [Zch h]
 cases stop <;> simp
def QR (stop:Bool) (V:Vs) (L:Wn):Vs:=if JB stop V L then sal V L else V
theorem Z8 {stop:Bool} {V:Vs} {L:Wn} (h:JB stop V L=true):QR stop V L=sal V L:=by unfold QR; rw [if_pos h]
theorem QB {stop:Bool} {V:Vs} {L:Wn} (h:JB stop V L=false):QR stop V L=V:=by unfold QR; rw [if_neg (by simp [h])]
theorem ZfE {L M:Wn} (h:Alk L M) (stop:Bool) (V:Vs):QR stop V L=QR stop V M:=by unfold QR; rw [Ze2 h,h.sal]
theorem ZhZ (stop:Bool) (V:Vs) (t:Tr) (L:Wn):QR stop V (pr t L)=QR stop V L:=by unfold QR; rw [Zhn,ZrK]
theorem ZdM (stop:Bool) (V:Vs) (L:Wn) (x:Nat) (h:V x=true):QR stop V L x=true:=by
 unfold QR
 split
 ·exact Zaw _ _ _ h
 ·exact h
theorem Zb6 {stop:Bool} {V:Vs} {L:Wn} (h:JB stop V L=true) (M:Wn):QR stop V (L ++ M)=QR stop (sal V L) M:=by
 unfold QR;rw [Zar h,JK]
 split
 ·rfl
 ·cases stop with
  | false=>rename_i hc; simp [JB] at hc
  | true =>
    have:dd V L = []:=by simpa [JB] using h
    rw [<- Zcq,this,Q1]
def tln (stop:Bool) (V:Vs) (L:Wn):Nat:=if stop then min 1 (dd V L).length else (dd V L).length
theorem Za4 (stop:Bool) (V:Vs) (L:Wn) (g:Rs):(Zae stop V L g).length=tln stop V L:=by
 unfold Zae tln
 cases stop <;> simp
theorem Zkl {L M:Wn} (h:Alk L M) (stop:Bool) (V:Vs):tln stop V L=tln stop V M:=by unfold tln; rw [h]
theorem Zkk (stop:Bool) (V:Vs) (t:Tr) (L:Wn):tln stop V (pr t L)=tln stop V L:=by
 unfold tln;rw [ZqW];simp [pr]
theorem ZhR {stop:Bool} {V:Vs} {L:Wn} (h:JB stop V L=true) (M:Wn):tln stop V (L ++ M)=tln stop V L + tln stop (sal V L) M:=by
 rw [<- Za4 stop V (L ++ M) [],JO h,List.length_append,Za4,Za4]
theorem ZrE (stop:Bool) (V:Vs) (L M:Wn):tln stop V L<=tln stop V (L ++ M):=by
 cases h:JB stop V L with
 | true=>rw [ZhR h]; omega
 | false =>
   rw [<- Za4 stop V (L ++ M) [],ZcU h,Za4];exact Nat.le_refl _
theorem ZrF (stop:Bool) (V:Vs) (L:Wn):tln stop V L<=(dd V L).length:=by
 unfold tln
 split <;> omega
theorem Za5 (out:List (Nat×Rs)) (V:Vs) (L1 L2:Wn) (gs:Rs) (stop:Bool) {n:Nat} (h:out.length + tln stop V (L1 ++ L2)<=n):out.length + tln stop V L1<=n/\(JB stop V L1=true->(out ++ Zae stop V L1 gs).length + tln stop (sal V L1) L2<=n):=by
 refine ⟨by have:=ZrE stop V L1 L2; omega,fun hc=>?_⟩;rw [ZhR hc] at h;rw [List.length_append,Za4];omega
end Go.Proofs.YtfkflljplohhcaaGreatDoor
