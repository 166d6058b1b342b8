import Derived.Test.YtfkflljplohhcaaGreatDoorRc
import Derived.Test.YtfkflljplohhcaaGreatDoorYs
set_option linter.unusedVariables false
namespace Go.Proofs.YtfkflljplohhcaaGreatDoor
open Go.RowKit
variable {N p G most S P B bh:Nat}{s u o:ByteArray}{w w':World}{v fv v':Value}{fs:List Value}
theorem Zin{L L':Nat->List Mt}(h:∀a,a<=N->L a=L' a):∀(k p:Nat),Q5 L N k p=Q5 L' N k p:=by
 intro k
 induction k with
 | zero=>intro p;rfl
 | succ k ih =>
   intro p;have e:Z2 L (N+1-p) p=Z2 L' (N+1-p) p:=ZdJ fun a h1 h2=>h a (by omega);simp only[Q5,e,ih]
theorem Uv{g:Nat}{f:Pf}(hw:wanted s u 0=true)(ht:ZA s=.ok (g,f)):Z1 s u=Q5 (fun a=>(dx u [] f a).map (QN g a)) u.size (u.size+2) 0:=by
 unfold Z1;refine Zin (fun a ha=>?_) _ _;have hw2:wanted s u (a:Int)=true:=by
  simp only[wanted,ht,Bool.true_and,Bool.and_eq_true,decide_eq_true_eq] at hw ⊢;omega
 simp[ZP,hw2,ht]
theorem ZlV{l:List Mt}{p':Nat}(h:lU N p l)(hp:p'<=p):lU N p' l:=by
 cases l with
 | nil=>trivial
 | cons m l=>exact⟨by have:=h.1;omega,h.2⟩
variable {m:Mt}
theorem Zi4{X:Xs}{k:Nat}(hX:dh N 0 G X)(hG:G<=9)(hk:p+k<=N+1)(h:Z2 (fun a=>(X a).map (QN G a)) k p=some m):I7 N m/\m.gs.length=G:=by
 obtain⟨f1,f2,f3,f4,f5,f6,f7⟩:=Mj hX hk h;refine⟨⟨by omega,f4,f5,by omega,fun y hy=>?_⟩,f2⟩;obtain⟨a,h1,h2,h3⟩:=Mi _ _ h;obtain⟨e,he,rfl⟩:=List.mem_map.1 h3;obtain⟨o1,o2,o3⟩:=(hX a (by omega)).2 e he;have hy':y∈gU G e.2:=hy;unfold gU at hy';obtain⟨i,hi,rfl⟩:=List.mem_map.1 hy'
 cases hc:e.2 i with
 | none=>exact Or.inl (by show (-1:Int)<0;omega)
 | some ab =>
   obtain⟨a',b'⟩:=ab
   have:=o3 i a' b' hc
   refine Or.inr ⟨?_,?_,?_⟩
   ·show (0:Int)<=(a':Int);omega
   ·show (a':Int)<=(b':Int);omega
   ·show (b':Int)<=(N:Int);omega
theorem LM{X:Xs}(hX:dh N 0 G X)(hG:G<=9):∀(k p:Nat),p<=N+1->lU N p (Q5 (fun a=>(X a).map (QN G a)) N k p)/\(Q5 (fun a=>(X a).map (QN G a)) N k p).length+p<=N+1/\∀m∈Q5 (fun a=>(X a).map (QN G a)) N k p,m.gs.length=G:=by
 intro k
 induction k with
 | zero=>intro p hp;exact⟨trivial,by simp[Q5];omega,by simp[Q5]⟩
 | succ k ih =>
   intro p hp;simp only[Q5]
   cases hf:Z2 (fun a=>(X a).map (QN G a)) (N+1-p) p with
   | none=>exact⟨trivial,by simp;omega,by simp⟩
   | some m =>
     obtain⟨f1,f2,f3,f4,f5,f6,f7⟩:=Mj hX (by omega) hf;have hI:=Zi4 hX hG (by omega) hf;obtain⟨j1,j2,j3⟩:=ih (fG m) f7;have hn:fG m=(if m.up=m.fr then m.up+1 else m.up).toNat:=rfl;refine⟨⟨f3,hI.1,?_⟩,by simp only[List.length_cons];omega,fun y hy=>?_⟩
     ·have hle:m.up.toNat<=fG m:=by rw[hn];split <;> omega
      exact ZlV j1 hle
     ·rcases List.mem_cons.1 hy with rfl | hy
      ·exact hI.2
      ·exact j3 y hy
def su (w:World) (F:az) (k:Nat) (o:Obj):Prop:=w.heap[k]?=some o/\¬F k
variable {F:az}
theorem su.lt{k:Nat}{o:Obj}(h:su w F k o):k<w.heap.size:=(Array.getElem?_eq_some_iff.1 h.1).1
variable {F':az}
theorem su.later{k:Nat}{o:Obj}(h:su w F k o)(l:aH w F w' F'):su w' F' k o:=by
 obtain⟨h1,h2⟩:=l.stay h.lt h.2;exact⟨h1.trans h.1,h2⟩
def pX (X:Nat) (b:Bt) (v:Value) (w:World) (F:az):Prop :=
 (b.1 = -1/\∃Pb,v=.func (.func 67) #[] #[ae Pb]/\su w F Pb (.cells #[.int .i64 b.1,.string b.2] 73 (0,0)))\/
 (b.1=0/\∃A,v=.func (.func 68) #[] #[ae A]/\su w F A (.cells #[ae X] 52 (0,0)))\/
 (0<b.1/\∃Pb A,v=.func (.func 69) #[] #[ae Pb,ae A]/\su w F Pb (.cells #[.int .i64 b.1,.string b.2] 73 (0,0))/\su w F A (.cells #[ae X] 52 (0,0)))
variable {b:Bt}
theorem pX.later{X:Nat}(h:pX X b v w F)(l:aH w F w' F'):pX X b v w' F':=by
 rcases h with⟨h1,Pb,h2,h3⟩ | ⟨h1,A,h2,h3⟩ | ⟨h1,Pb,A,h2,h3,h4⟩
 ·exact Or.inl ⟨h1,Pb,h2,h3.later l⟩
 ·exact Or.inr (Or.inl ⟨h1,A,h2,h3.later l⟩)
 ·exact Or.inr (Or.inr ⟨h1,Pb,A,h2,h3.later l,h4.later l⟩)
def I6 (N:Nat) (m:Mt):Prop:=I7 N m/\∀g∈m.gs,g=(-1,-1)\/0<=g.1
def Zvo (v:Value) (u:ByteArray) (m:Mt) (b:Bt) (gv:Value) (base:Nat) (w:World):Prop :=
 ∃ f bK,v=.func (.func f) #[] bK/\jE f/\∀(v0:Value) (o:ByteArray),fO w base v0 o->base<=w.heap.size->o.size<=900000000->
   au f (#[v0,.agg #[.bool m.ok,.int .i64 m.fr,.int .i64 m.up,gv]]++bK) w fun e w' =>∃ao n c,e=.returned (.slice ao n c)/\n=(o++JE u m b).size/\fO w' base (.slice ao n c) (o++JE u m b)/\Za (v0.ownBlock=some ·) w w'/\jP w v0 (.slice ao n c)
theorem Zm0{X base bb:Nat}{gv:Value}(h:pX X b v w F)(hT:pM X u w)(hg:w.ownsRow bb 118 2 gv m.gs.length (ZD m.gs))(hm:I6 u.size m)(hu:u.size<=200)(hb:b.2.size<=100)(hG:b.1<=(m.gs.length:Int)):Zvo v u m b gv base w:=by
 obtain⟨cs,hX,h0⟩:=hT;obtain⟨⟨i1,i2,i3,i4,i5⟩,i6⟩:=hm
 rcases h with⟨h1,Pb,rfl,h3⟩ | ⟨h1,A,rfl,h3⟩ | ⟨h1,Pb,A,rfl,h3,h4⟩
 ·refine⟨_,_,rfl,(fun _ _=>by kernel_rfl),fun v0 o hO hbs ho=>?_⟩;have e:JE u m b=b.2:=by unfold JE;rw[if_pos (by omega)]
  refine(Zm3 (x:=b.2) (g:=b.1) hO hbs (by omega) h3.1).mono ?_;rintro e' w' ⟨ao,c,rfl,g1,g2,g3⟩;rw[e];exact⟨ao,_,c,rfl,rfl,g1,g2,g3⟩
 ·refine⟨_,_,rfl,(fun _ _=>by kernel_rfl),fun v0 o hO hbs ho=>?_⟩;obtain⟨fN,oV⟩:∃fN:Nat,m.fr=(fN:Int):=⟨m.fr.toNat,by omega⟩;obtain⟨tN,oK⟩:∃tN:Nat,m.up=(tN:Int):=⟨m.up.toNat,by omega⟩;have e:JE u m b=u.extract fN tN:=by unfold JE;rw[if_neg (by omega),if_pos h1,oV,oK];rfl
  rw[e,oV,oK];refine(Zm2 (u:=u) (fN:=fN) (tN:=tN) hO hbs (by omega) h3.1 hX h0 (by omega) (by omega)).mono ?_;rintro e' w' ⟨ao,c,rfl,g1,g2,g3⟩;exact⟨ao,_,c,rfl,rfl,g1,g2,g3⟩
 ·refine⟨_,_,rfl,(fun _ _=>by kernel_rfl),fun v0 o hO hbs ho=>?_⟩;obtain⟨j,hj⟩:∃j:Nat,b.1=(j:Int)+1:=⟨(b.1-1).toNat,by omega⟩;have hjl:j<m.gs.length:=by omega
  have hmem:m.gs.getD j (0,0)∈m.gs:=by rw[List.getD_eq_getElem?_getD,List.getElem?_eq_getElem hjl];exact List.getElem_mem hjl
  have hin:=i5 _ hmem;have hin2:=i6 _ hmem;obtain⟨q1,q2⟩:=Uc m.gs j hjl;obtain⟨aG,cG,rfl⟩:=aj hg;obtain⟨gx,rfl⟩:∃gx,aG=some ⟨gx,0,none⟩:=by
   obtain⟨n0,hn0⟩:∃n0,m.gs.length=n0+1:=⟨m.gs.length-1,by omega⟩;have h1:=hg;rw[hn0] at h1;obtain⟨g,cp,hv,-⟩:=ZM h1
   cases hv
   exact⟨g,rfl⟩
  have c1:=World.ownsRow.cellAt hg (j*2) (by omega);have c2:=World.ownsRow.cellAt hg (j*2+1) (by omega);rw[q1] at c1;rw[q2] at c2;have e:JE u m b=if 0<=(m.gs.getD j (0,0)).1 then u.extract (m.gs.getD j (0,0)).1.toNat (m.gs.getD j (0,0)).2.toNat else ByteArray.empty:=by
   unfold JE;rw[if_neg (by omega),if_neg (by omega)];simp only[show (b.1-1).toNat=j by omega]
  generalize m.gs.getD j (0,0)=ab at c1 c2 hin hin2 e;obtain⟨a,z⟩:=ab;simp only at c1 c2 hin hin2 e;have hps:iK a z=decide (0<=a):=by
   unfold iK
   rcases hin2 with h | h
   ·simp only[Prod.mk.injEq] at h;obtain⟨rfl,rfl⟩:=h;rfl
   ·have:(a == -1)=false:=by simp;omega
    rw[this];simp[h]
  have h3':w.heap[Pb]?=some (.cells #[.int .i64 ((j:Int)+1),.string b.2] 73 (0,0)):=by rw[<- hj];exact h3.1
  refine(Zm1 (u:=u) (y:=JE u m b) hO hbs (by omega) h4.1 hX h0 h3' hjl i4 c1 c2 (fun hp=>?_) ?_).mono ?_
  ·rw[hps] at hp
   have:=of_decide_eq_true hp
   rcases hin with h | h
   ·omega
   ·exact h
  ·rw[e,hps];simp only[decide_eq_true_eq]
  ·rintro e' w' ⟨ao,n,c,rfl,g0,g1,g2,g3⟩;exact⟨ao,n,c,rfl,g0,g1,g2,g3⟩
theorem XB{acc:List Bt}{t:ByteArray}(h:∀x∈acc,(-1:Int)<=x.1):∀x∈jn acc t,(-1:Int)<=x.1:=by
 rcases List.eq_nil_or_concat acc with rfl | ⟨A,x,rfl⟩
 ·rw[Sq];intro x hx;simp at hx;subst hx;exact Int.le_refl _
 ·obtain⟨g,y⟩:=x;rw[List.concat_eq_append] at h ⊢
  by_cases hg:g = -1
  ·subst hg;rw[Ir];intro x hx
   rcases List.mem_append.1 hx with hx | hx
   ·exact h x (List.mem_append_left _ hx)
   ·simp at hx;subst hx;exact Int.le_refl _
  ·rw[Iw _ _ _ hg];intro x hx
   rcases List.mem_append.1 hx with hx | hx
   ·exact h x hx
   ·simp at hx;subst hx;exact Int.le_refl _
theorem ZrA:∀(f p:Nat) (acc L:List Bt),(∀x∈acc,(-1:Int)<=x.1)->gI s f p acc=.ok L->∀x∈L,(-1:Int)<=x.1:=by
 intro f
 induction f with
 | zero=>intro p acc L h e;simp only[gI,Except.ok.injEq] at e;subst e;exact h
 | succ f ih =>
   intro p acc L h e;simp only[gI] at e
   split at e
   ·simp only[Except.ok.injEq] at e;subst e;exact h
   ·split at e
    ·split at e
     ·exact ih _ _ _ (XB h) e
     ·split at e
      ·rename_i hd;refine ih _ _ _ (fun x hx=>?_) e
       rcases List.mem_append.1 hx with hx | hx
       ·exact h x hx
       ·simp at hx;subst hx;simp[ZI] at hd;show (-1:Int)<=((bt s (p+1):Nat):Int)-48;omega
      ·cases e
    ·exact ih _ _ _ (XB h) e
theorem Ztk{L:List Bt}(h:ZF s=.ok L):∀x∈L,(-1:Int)<=x.1:=by
 unfold ZF at h
 split at h
 ·cases h
 ·exact ZrA _ _ _ _ (by simp) h
theorem ZmY{X:Xs}{k:Nat}(hX:dh N 0 G X)(hG:G<=9)(hk:p+k<=N+1)(h:Z2 (fun a=>(X a).map (QN G a)) k p=some m):I6 N m:=by
 refine⟨(Zi4 hX hG hk h).1,fun y hy=>?_⟩;obtain⟨a,h1,h2,h3⟩:=Mi _ _ h;obtain⟨e,he,rfl⟩:=List.mem_map.1 h3;have hy':y∈gU G e.2:=hy;unfold gU at hy';obtain⟨i,hi,rfl⟩:=List.mem_map.1 hy'
 cases hc:e.2 i with
 | none=>exact Or.inl rfl
 | some ab =>
   obtain⟨a',b'⟩:=ab;exact Or.inr (by show (0:Int)<=(a':Int);omega)
theorem Y6{X:Xs}(hX:dh N 0 G X)(hG:G<=9):∀(k p:Nat),p<=N+1->∀m∈Q5 (fun a=>(X a).map (QN G a)) N k p,I6 N m:=by
 intro k
 induction k with
 | zero=>intro p hp m hm;simp[Q5] at hm
 | succ k ih =>
   intro p hp m hm;simp only[Q5] at hm
   cases hf:Z2 (fun a=>(X a).map (QN G a)) (N+1-p) p with
   | none=>rw[hf] at hm;simp at hm
   | some m1 =>
     rw[hf] at hm;obtain⟨f1,f2,f3,f4,f5,f6,f7⟩:=Mj hX (by omega) hf
     rcases List.mem_cons.1 hm with rfl | hm
     ·exact ZmY hX hG (by omega) hf
     ·exact ih _ f7 _ hm
def nX (on:List Mt->Bool) (most:Nat) (out:List Mt):Option Code:=if out = [] then none else if on out=false\/most<=out.length then some .ret else none
theorem Me(on:List Mt->Bool)(most:Nat)(out:List Mt)(m:Mt):nX on most (out++[m])=if on (out++[m])=false\/most<=out.length+1 then some .ret else none:=by simp[nX]
variable {out:List Mt}
theorem ZqI{on:List Mt->Bool}(h0:on []=true)(hm:0<most)(h:nX on most out=none):on out=true/\out.length<most:=by
 unfold nX at h
 split at h
 ·rename_i e;subst e;exact⟨h0,hm⟩
 ·split at h
  ·cases h
  ·rename_i hn;refine⟨by cases ho:on out with | true=>rfl | false=>exact absurd (Or.inl ho) hn,?_⟩;apply Decidable.byContradiction;intro h2;exact hn (Or.inr (by omega))
theorem ZqH{on:List Mt->Bool}:∀(l out:List Mt),out.length<most->Q2 (fun o=>(nX on most o).isNone) out l=Q2 on out (l.take (most-out.length)):=by
 intro l
 induction l with
 | nil=>intro out h;simp[Q2]
 | cons m l ih =>
   intro out h;obtain⟨k,hk⟩:∃k,most-out.length=k+1:=⟨most-out.length-1,by omega⟩;rw[hk,List.take_succ_cons];simp only[Q2,Me]
   cases ho:on (out++[m]) with
   | false=>simp
   | true =>
     by_cases hm:most<=out.length+1
     ·have:k=0:=by omega
      subst this;simp[hm,Q2]
     ·have e1:(if (true=false\/most<=out.length+1) then some Code.ret else none)=none:=if_neg (by simp;omega);rw[e1];simp only[Option.isNone_none,if_true];rw[ih _ (by simp;omega)]
      congr 2
      simp;omega
theorem Zur{on:List Mt->Bool}:(on (out++[m])=false->xS (nX on most (out++[m])) .ret)/\(on (out++[m])=true->most<=out.length+1->xS (nX on most (out++[m])) .ret)/\(on (out++[m])=true->¬most<=out.length+1->xS (nX on most (out++[m])) .normal):=by
 refine⟨fun h=>?_,fun h h2=>?_,fun h h2=>?_⟩
 ·rw[Me,if_pos (Or.inl h)];rfl
 ·rw[Me,if_pos (Or.inr h2)];rfl
 ·rw[Me,if_neg (by rw[h];simp;omega)];rfl
structure H8 (X:Nat) (Bs:List Bt) (fv:Value) (fs:List Value) (w:World) (F:az):Prop where
 len:fs.length=Bs.length
 row:w.ownsRow 0 66 1 fv Bs.length fs
 out:∀k,fv.ownBlock=some k->¬F k
 one:∀(i:Nat) (h:i<Bs.length),pX X Bs[i] (fs[i]'(by rw[len];exact h)) w F
theorem H8.later{X:Nat}{Bs:List Bt}(h:H8 X Bs fv fs w F)(l:aH w F w' F'):H8 X Bs fv fs w' F':=by
 obtain⟨h1,h2⟩:=ZB ⟨h.row,h.out⟩ l;exact⟨h.len,h1,h2,fun i hi=>(h.one i hi).later l⟩
structure Ce (X Tx Fx:Nat) (u:ByteArray) (Bs:List Bt) (fv:Value) (fs:List Value) (w:World) (F:az):Prop where
 tx:eY w F Tx 0 (.string u)
 fx:eY w F Fx 0 fv
 Hl:H8 X Bs fv fs w F
theorem Ce.later{X Tx Fx:Nat}{Bs:List Bt}(h:Ce X Tx Fx u Bs fv fs w F)(l:aH w F w' F'):Ce X Tx Fx u Bs fv fs w' F' :=
 ⟨h.tx.later l,h.fx.later l,h.Hl.later l⟩
structure iN (S P N B:Nat) (o:ByteArray) (bh n:Nat) (v:Value) (w:World) (F Fr:az):Prop where
 out:aP w S 22 v
 aY:aP w P 3 (.int .i64 (bh:Int))
 cnt:aP w N 3 (.int .i64 (n:Int))
 row:fO w B v o
 own:∀k,Fr k↔k=S\/k=P\/k=N\/v.ownBlock=some k
 may:∀k,Fr k->F k
 base:B<=w.heap.size
 ne:P≠N
variable {Fr:az}
theorem iN.neS{n:Nat}(h:iN S P N B o bh n v w F Fr):v.ownBlock≠some S:=Zi h.row h.out (by decide)
theorem iN.Vx{n:Nat}(h:iN S P N B o bh n v w F Fr):v.ownBlock≠some P:=Zi h.row h.aY (by decide)
theorem iN.NP{n:Nat}(h:iN S P N B o bh n v w F Fr):v.ownBlock≠some N:=Zi h.row h.cnt (by decide)
theorem iN.frame{n:Nat}(h:iN S P N B o bh n v w F Fr)(l:w.heap.size<=w'.heap.size)(hF:∀k,Fr k->F' k)(hk:∀k,Fr k->w'.heap[k]?=w.heap[k]?):iN S P N B o bh n v w' F' Fr :=
 ⟨by unfold aP;rw[hk S ((h.own S).2 (Or.inl rfl))];exact h.out,by unfold aP;rw[hk P ((h.own P).2 (Or.inr (Or.inl rfl)))];exact h.aY,by unfold aP;rw[hk N ((h.own N).2 (Or.inr (Or.inr (Or.inl rfl))))];exact h.cnt,
  QJ h.row (fun k e=>hk k ((h.own k).2 (Or.inr (Or.inr (Or.inr e))))),h.own,hF,Nat.le_trans h.base l,h.ne⟩
def I4 (S P N B X Tx Fx:Nat) (u:ByteArray) (Bs:List Bt) (fv:Value) (fs:List Value) (b:Nat) (out:List Mt):aO:=fun w F Fr=>(∃v,iN S P N B (cz u Bs out).1 (cz u Bs out).2 out.length v w F Fr)/\Ce X Tx Fx u Bs fv fs w F
theorem Ztz(S P N B X Tx Fx:Nat)(u:ByteArray)(Bs:List Bt)(fv:Value)(fs:List Value)(b:Nat)(out:List Mt):Zs (I4 S P N B X Tx Fx u Bs fv fs b out):=by
 refine⟨?_,?_⟩
 ·rintro w F Fr ⟨⟨v,h⟩,hs⟩ k hk;refine⟨h.may k hk,?_⟩
  rcases(h.own k).1 hk with rfl | rfl | rfl | hk
  ·exact h.out.lt
  ·exact h.aY.lt
  ·exact h.cnt.lt
  ·exact(h.row.lt k hk).2
 ·rintro w w' F F' Fr ⟨⟨v,h⟩,hs⟩ l hF' hk;exact⟨⟨v,h.frame l.size hF' hk⟩,hs.later l⟩
theorem XN{a b:Nat}{t t':TypeId}(h:aP w a t v)(h':aP w b t' v')(ht:t≠t'):a≠b:=by
 intro e;subst e;unfold aP at h h';rw[h] at h';simp only[Option.some.injEq,Obj.cells.injEq] at h';exact ht h'.2.1
theorem iN.SP{n:Nat}(h:iN S P N B o bh n v w F Fr):S≠P:=XN h.out h.aY (by decide)
theorem iN.SN{n:Nat}(h:iN S P N B o bh n v w F Fr):S≠N:=XN h.out h.cnt (by decide)
theorem iN.add{o':ByteArray}{n:Nat}(h:iN S P N B o bh n v w F Fr)(k:Za (v.ownBlock=some ·) w w')(ho:fO w' B v' o')(hbk:jP w v v'):
  w'.cell? (ak S)=some v/\w'.frozen? (ak S)=false/\∃F4 sj,iN S P N B o' bh n v' (w'.setCell (ak S) v') F4 sj/\aJ w F Fr (w'.setCell (ak S) v') F4 sj:=by
 have hS1:aP w' S 22 v:=h.out.keeps k h.neS;have hP1:=h.aY.keeps k h.Vx;have hN1:=h.cnt.keeps k h.NP;have kS:Za (·=S) w' (w'.setCell (ak S) v'):=Zh _ _ _ _;have hS2:aP (w'.setCell (ak S) v') S 22 v':=by unfold aP;rw[heap_setCell_same _ _ _ _ _ _ hS1];rfl
 have hP2:=hP1.keeps kS (Ne.symm h.SP);have Df:=hN1.keeps kS (Ne.symm h.SN);have hne:v'.ownBlock≠some S:=Zi ho hS1 (by decide);have ho2:fO (w'.setCell (ak S) v') B v' o':=Zb ho kS (fun k hk e=>hne (e ▸ hk));have kA:Za Fr w (w'.setCell (ak S) v'):=(k.mono (fun k _ e=>(h.own k).2 (Or.inr (Or.inr (Or.inr e))))).trans (kS.mono (fun k _ e=>(h.own k).2 (Or.inl e)));obtain⟨F4,nS⟩:∃F4:az,F4=fun k=>(F k/\¬Fr k)\/k=S\/k=P\/k=N\/v'.ownBlock=some k:=⟨_,rfl⟩;refine⟨hS1.cell,Zv hS1,F4,fun k=>k=S\/k=P\/k=N\/v'.ownBlock=some k,⟨hS2,hP2,Df,ho2,fun k=>Iff.rfl,fun k hk=>by rw[nS];exact Or.inr hk,Nat.le_trans h.base kA.size,h.ne⟩,kA,fun k hk=>?_,fun k hk=>by rw[nS] at hk;exact hk,fun k _ hk hn=>by rw[nS];exact Or.inl ⟨hk,hn⟩,fun k hk=>by rw[nS];exact Or.inr hk⟩
 rcases hk with e | e | e | e
 ·exact Or.inl ((h.own k).2 (Or.inl e))
 ·exact Or.inl ((h.own k).2 (Or.inr (Or.inl e)))
 ·exact Or.inl ((h.own k).2 (Or.inr (Or.inr (Or.inl e))))
 ·by_cases hlt:k<w.heap.size
  ·exact Or.inl ((h.own k).2 (Or.inr (Or.inr (Or.inr (hbk k e hlt)))))
  ·exact Or.inr (by omega)
theorem iN.Nu{n:Nat}(h:iN S P N B o bh n v w F Fr)(vL:Nat):
  w.frozen? (ak P)=false/\iN S P N B o vL n v (w.setCell (ak P) (.int .i64 (vL:Int))) F Fr/\aJ w F Fr (w.setCell (ak P) (.int .i64 (vL:Int))) F Fr:=by
 have kS:Za (·=P) w (w.setCell (ak P) (.int .i64 (vL:Int))):=Zh _ _ _ _;exact⟨Zv h.aY,⟨h.out.keeps kS h.SP,by unfold aP;rw[heap_setCell_same _ _ _ _ _ _ h.aY];rfl,h.cnt.keeps kS (Ne.symm h.ne),Zb h.row kS (fun k hk e=>h.Vx (e ▸ hk)),h.own,h.may,Nat.le_trans h.base kS.size,h.ne⟩,aJ.same h.may (kS.mono (fun k _ e=>(h.own k).2 (Or.inr (Or.inl e))))⟩
theorem iN.Nv{n:Nat}(h:iN S P N B o bh n v w F Fr)(n':Nat):
  w.frozen? (ak N)=false/\iN S P N B o bh n' v (w.setCell (ak N) (.int .i64 (n':Int))) F Fr/\aJ w F Fr (w.setCell (ak N) (.int .i64 (n':Int))) F Fr:=by
 have kS:Za (·=N) w (w.setCell (ak N) (.int .i64 (n':Int))):=Zh _ _ _ _;exact⟨Zv h.cnt,⟨h.out.keeps kS h.SN,h.aY.keeps kS h.ne,by unfold aP;rw[heap_setCell_same _ _ _ _ _ _ h.cnt];rfl,Zb h.row kS (fun k hk e=>h.NP (e ▸ hk)),h.own,h.may,Nat.le_trans h.base kS.size,h.ne⟩,aJ.same h.may (kS.mono (fun k _ e=>(h.own k).2 (Or.inr (Or.inr (Or.inl e)))))⟩
structure I1 (X Tx Fx mb:Nat) (u:ByteArray) (Bs:List Bt) (fv:Value) (fs:List Value) (m:Mt) (gv:Value) (F5 Fu:az) (q7:World):Prop where
 tx:pM X u q7
 rs:Ce X Tx Fx u Bs fv fs q7 F5
 mb:su q7 F5 mb (.cells #[.bool m.ok,.int .i64 m.fr,.int .i64 m.up,gv] 38 (0,0))
 gr:∃b,q7.ownsRow b 118 2 gv m.gs.length (ZD m.gs)/\∀k,gv.ownBlock=some k->¬F5 k
 nx:¬Fu X
 sub:∀k,Fu k->F5 k
theorem iN.NM{X:Nat}{n:Nat}(h:iN S P N B o bh n v w F Fr)(hT:pM X u w):¬Fr X:=by
 obtain⟨cs,hX,-⟩:=hT;intro hf;have hne:∀(a:Nat) (t:TypeId) (y:Value),aP w a t y->t≠105->X≠a:=fun a t y ha ht e=>by
  subst e;unfold aP at ha;rw[ha] at hX;simp only[Option.some.injEq,Obj.cells.injEq] at hX;exact ht hX.2.1
 rcases(h.own X).1 hf with e | e | e | e
 ·exact hne _ _ _ h.out (by decide) e
 ·exact hne _ _ _ h.aY (by decide) e
 ·exact hne _ _ _ h.cnt (by decide) e
 ·exact Zi h.row hX (by decide) e
section
variable {X Tx Fx mb:Nat}{u:ByteArray}{Bs:List Bt}{fv:Value}{fs:List Value}{m:Mt}{gv:Value}{F5 Fu:az}{q7:World}
theorem I1.later(h:I1 X Tx Fx mb u Bs fv fs m gv F5 Fu q7){wr:World}{aM:az}(t:aJ q7 F5 Fu wr F' aM):
  pM X u wr/\Ce X Tx Fx u Bs fv fs wr F'/\wr.heap[mb]?=some (.cells #[.bool m.ok,.int .i64 m.fr,.int .i64 m.up,gv] 38 (0,0))/\∃b,wr.ownsRow b 118 2 gv m.gs.length (ZD m.gs):=by
 have l:=t.dm h.sub;obtain⟨b,h1,h2⟩:=h.gr;exact⟨h.tx.keeps t.keeps h.nx,h.rs.later l,(h.mb.later l).1,b,(ZB ⟨h1,h2⟩ l).1⟩
def vN (S P N:Nat) (F5 Fu:az) (q7:World) (o:ByteArray) (bh n:Nat) (v:Value) (wr:World):Prop :=∃F' aM,iN S P N 0 o bh n v wr F' aM/\aJ q7 F5 Fu wr F' aM
variable {S P N:Nat}{o:ByteArray}{bh n:Nat}{v:Value}{wr:World}
theorem Un(h:I1 X Tx Fx mb u Bs fv fs m gv F5 Fu q7)(hc:vN S P N F5 Fu q7 o bh n v wr):
  wr.cell? (ak S)=some v/\wr.cell? (ak P)=some (.int .i64 (bh:Int))/\wr.cell? (ak Tx)=some (.string u)/\wr.cell? (ak Fx)=some fv/\wr.heap[mb]?=some (.cells #[.bool m.ok,.int .i64 m.fr,.int .i64 m.up,gv] 38 (0,0))/\∃(a:Option Addr) (n' c:Nat),v=.slice a n' c:=by
 obtain⟨F',aM,hO,t⟩:=hc;obtain⟨-,h2,h3,-⟩:=h.later t;obtain⟨a,c,hv⟩:=aj hO.row;exact⟨hO.out.cell,hO.aY.cell,h2.tx.1,h2.fx.1,h3,a,_,c,hv⟩
theorem ZlK(h:I1 X Tx Fx mb u Bs fv fs m gv F5 Fu q7)(hc:vN S P N F5 Fu q7 o bh n v wr)(hm:I6 u.size m)(hu:u.size<=200)(hB:∀b∈Bs,b.2.size<=100/\b.1<=(m.gs.length:Int))(ho:o.size<=900000000){k:Nat}(hk:k<Bs.length):
  ∃f bK,jE f/\(∀n' c g,fv=.slice (some ⟨g,0,none⟩) n' c->wr.cell? ⟨g,k,none⟩=some (.func (.func f) #[] bK))/\au f (#[v,.agg #[.bool m.ok,.int .i64 m.fr,.int .i64 m.up,gv]]++bK) wr (fun e w' =>∃a n' c,e=.returned (.slice a n' c)/\w'.cell? (ak S)=some v/\w'.frozen? (ak S)=false/\Hid (vN S P N F5 Fu q7 (o++JE u m Bs[k]) bh n (.slice a n' c) (w'.setCell (ak S) (.slice a n' c)))):=by
 obtain⟨F',aM,hO,t⟩:=hc;obtain⟨h1,h2,h3,b,h4⟩:=h.later t;obtain⟨b1,b2⟩:=hB Bs[k] (List.getElem_mem hk);obtain⟨f,bK,e1,e2,e3⟩:=Zm0 (base:=0) (h2.Hl.one k hk) h1 h4 hm hu b1 b2;refine⟨f,bK,e2,fun n' c g hg=>?_,?_⟩
 ·have hrow:=h2.Hl.row;have hkf:k<fs.length:=by rw[h2.Hl.len];exact hk
  subst hg;obtain⟨a',c',hv⟩:=aj hrow
  cases hv
  have hc:=World.ownsRow.cellAt hrow k (by rw[Nat.mul_one];exact hk);rw[hc,List.getElem?_eq_getElem hkf];exact congrArg some e1
 ·refine(e3 v o hO.row (Nat.zero_le _) ho).mono ?_;rintro e w' ⟨a,n',c,rfl,-,g1,g2,g3⟩;obtain⟨c1,c2,F4,sj,c3,c4⟩:=hO.add g2 g1 g3;exact⟨a,n',c,rfl,c1,c2,F4,sj,c3,t.trans c4⟩
theorem ZlL(hc:vN S P N F5 Fu q7 o bh n v wr)(vL:Nat):
  wr.cell? (ak P)=some (.int .i64 (bh:Int))/\wr.frozen? (ak P)=false/\(wr.setCell (ak P) (.int .i64 (vL:Int))).cell? (ak N)=some (.int .i64 (n:Int))/\(wr.setCell (ak P) (.int .i64 (vL:Int))).frozen? (ak N)=false/\
   vN S P N F5 Fu q7 o vL (n+1) v ((wr.setCell (ak P) (.int .i64 (vL:Int))).setCell (ak N) (.int .i64 ((n:Int)+1))):=by
 obtain⟨F',aM,hO,t⟩:=hc;obtain⟨f1,dF,t1⟩:=hO.Nu vL;obtain⟨f2,hO2,t2⟩:=dF.Nv (n+1);have e:((n+1:Nat):Int)=(n:Int)+1:=by omega
 rw[e] at hO2 t2;exact⟨hO.aY.cell,f1,dF.cnt.cell,f2,F',aM,hO2,(t.trans t1).trans t2⟩
end
end Go.Proofs.YtfkflljplohhcaaGreatDoor
