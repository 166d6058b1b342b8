import Derived.Test.YtfkflljplohhcaaGreatDoorRc
import Derived.Test.YtfkflljplohhcaaGreatDoorYr
import Derived.Test.YtfkflljplohhcaaGreatDoorRb
import Derived.Test.YtfkflljplohhcaaGreatDoorYs
namespace Go.Proofs.YtfkflljplohhcaaGreatDoor
open Go.RowKit
set_option linter.unusedVariables false
theorem ZhL {L L':Nat->List Mt} {N:Nat} (h :∀a,a<=N->L a=L' a) :∀(k p:Nat),JN L N k p=JN L' N k p:=by
 intro k
 induction k with
 | zero=>intro p; rfl
 | succ k ih =>
   intro p;have e:Qc L (N + 1 - p) p=Qc L' (N + 1 - p) p:=Zhe fun a h1 h2=>h a (by omega);simp only [JN,e,ih]
theorem Zem {s u:ByteArray} {g:Nat} {f:Pf} (hw:wanted s u 0=true) (ht:ZD s = .ok (g,f)):Jf s u=JN (fun a=>(smx u [] f a).map (QX g a)) u.size (u.size + 2) 0:=by
 unfold Jf;refine ZhL (fun a ha=>?_) _ _;have hw2:wanted s u (a:Int)=true:=by
  simp only [wanted,ht,Bool.true_and,Bool.and_eq_true,decide_eq_true_eq] at hw ⊢;omega
 simp [ZZ,hw2,ht]
theorem Zk0 {N:Nat} {l:List Mt} {p p':Nat} (h:Zkb N p l) (hp:p'<=p):Zkb N p' l:=by
 cases l with
 | nil=>trivial
 | cons m l=>exact ⟨by have:=h.1; omega,h.2⟩
theorem Zio {X:Xs} {N G k p:Nat} {m:Mt} (hX:OkX N 0 G X) (hG:G<=9) (hk:p + k<=N + 1) (h:Qc (fun a=>(X a).map (QX G a)) k p=some m):InM N m/\m.gs.length=G:=by
 obtain ⟨f1,f2,f3,f4,f5,f6,f7⟩:=ZcM hX hk h;refine ⟨⟨by omega,f4,f5,by omega,fun y hy=>?_⟩,f2⟩;obtain ⟨a,h1,h2,h3⟩:=ZcN _ _ h;obtain ⟨e,he,rfl⟩:=List.mem_map.1 h3;obtain ⟨o1,o2,o3⟩:=(hX a (by omega)).2 e he;have hy':y∈Zbx G e.2:=hy;unfold Zbx at hy';obtain ⟨i,hi,rfl⟩:=List.mem_map.1 hy'
 cases hc:e.2 i with
 | none=>exact Or.inl (by show (-1:Int) < 0; omega)
 | some ab =>
   obtain ⟨a',b'⟩:=ab
   have:=o3 i a' b' hc
   refine Or.inr ⟨?_,?_,?_⟩
   ·show (0:Int)<=(a':Int); omega
   ·show (a':Int)<=(b':Int); omega
   ·show (b':Int)<=(N:Int); omega
theorem ZhK {X:Xs} {N G:Nat} (hX:OkX N 0 G X) (hG:G<=9) :∀(k p:Nat),p<=N + 1->Zkb N p (JN (fun a=>(X a).map (QX G a)) N k p)/\(JN (fun a=>(X a).map (QX G a)) N k p).length + p<=N + 1/\∀m∈JN (fun a=>(X a).map (QX G a)) N k p,m.gs.length=G:=by
 intro k
 induction k with
 | zero=>intro p hp; exact ⟨trivial,by simp [JN]; omega,by simp [JN]⟩
 | succ k ih =>
   intro p hp;simp only [JN]
   cases hf:Qc (fun a=>(X a).map (QX G a)) (N + 1 - p) p with
   | none=>exact ⟨trivial,by simp; omega,by simp⟩
   | some m =>
     obtain ⟨f1,f2,f3,f4,f5,f6,f7⟩:=ZcM hX (by omega) hf;have hI:=Zio hX hG (by omega) hf;obtain ⟨j1,j2,j3⟩:=ih (nxt m) f7;have hn:nxt m=(if m.up=m.fr then m.up + 1 else m.up).toNat:=rfl;refine ⟨⟨f3,hI.1,?_⟩,by simp only [List.length_cons]; omega,fun y hy=>?_⟩
     ·have hle:m.up.toNat<=nxt m:=by rw [hn]; split <;> omega
      exact Zk0 j1 hle
     ·rcases List.mem_cons.1 hy with rfl | hy
      ·exact hI.2
      ·exact j3 y hy
def BkI (w:World) (F:Bs2) (k:Nat) (o:Obj):Prop:=w.heap[k]? = some o/\¬ F k
theorem BkI.lt {w:World} {F:Bs2} {k:Nat} {o:Obj} (h:BkI w F k o):k < w.heap.size:=(Array.getElem?_eq_some_iff.1 h.1).1
theorem BkI.later {w w':World} {F F':Bs2} {k:Nat} {o:Obj} (h:BkI w F k o) (l:Lat w F w' F'):BkI w' F' k o:=by
 obtain ⟨h1,h2⟩:=l.stay h.lt h.2;exact ⟨h1.trans h.1,h2⟩
def FvI (X:Nat) (b:Bt) (v:Value) (w:World) (F:Bs2):Prop :=
 (b.1 = -1/\∃Pb,v = .func (.func 67) #[] #[.pointer (some ⟨Pb,0,none⟩)]/\BkI w F Pb (.cells #[.int .i64 b.1,.string b.2] 73 (0,0)))\/
 (b.1=0/\∃A,v = .func (.func 68) #[] #[.pointer (some ⟨A,0,none⟩)]/\BkI w F A (.cells #[.pointer (some ⟨X,0,none⟩)] 52 (0,0)))\/
 (0 < b.1/\∃Pb A,v = .func (.func 69) #[] #[.pointer (some ⟨Pb,0,none⟩),.pointer (some ⟨A,0,none⟩)]/\BkI w F Pb (.cells #[.int .i64 b.1,.string b.2] 73 (0,0))/\BkI w F A (.cells #[.pointer (some ⟨X,0,none⟩)] 52 (0,0)))
theorem FvI.later {X:Nat} {b:Bt} {v:Value} {w w':World} {F F':Bs2} (h:FvI X b v w F) (l:Lat w F w' F'):FvI X b v w' F':=by
 rcases h with ⟨h1,Pb,h2,h3⟩ | ⟨h1,A,h2,h3⟩ | ⟨h1,Pb,A,h2,h3,h4⟩
 ·exact Or.inl ⟨h1,Pb,h2,h3.later l⟩
 ·exact Or.inr (Or.inl ⟨h1,A,h2,h3.later l⟩)
 ·exact Or.inr (Or.inr ⟨h1,Pb,A,h2,h3.later l,h4.later l⟩)
def InP (N:Nat) (m:Mt):Prop:=InM N m/\∀g∈m.gs,g=(-1,-1)\/0<=g.1
def Ztp (v:Value) (u:ByteArray) (m:Mt) (b:Bt) (gv:Value) (base:Nat) (w:World):Prop :=
 ∃ f caps,v = .func (.func f) #[] caps/\ZdD f/\∀(v0:Value) (o:ByteArray),ObB w base v0 o->base<=w.heap.size->o.size<=900000000->
   Calls Tryz.prog f (#[v0,.agg #[.bool m.ok,.int .i64 m.fr,.int .i64 m.up,gv]] ++ caps) w fun e w' =>∃ao n c,e = .returned (.slice ao n c)/\n=(o ++ JF u m b).size/\ObB w' base (.slice ao n c) (o ++ JF u m b)/\Za (fun k=>v0.ownBlock=some k) w w'/\Blk w v0 (.slice ao n c)
theorem Zl2 {X base bb:Nat} {b:Bt} {v gv:Value} {w:World} {F:Bs2} {u:ByteArray} {m:Mt} (h:FvI X b v w F) (hT:TxA X u w) (hg:w.ownsRow bb 118 2 gv m.gs.length (ZB m.gs)) (hm:InP u.size m) (hu:u.size<=200) (hb:b.2.size<=100) (hG:b.1<=(m.gs.length:Int)):Ztp v u m b gv base w:=by
 obtain ⟨cs,hX,h0⟩:=hT;obtain ⟨⟨i1,i2,i3,i4,i5⟩,i6⟩:=hm
 rcases h with ⟨h1,Pb,rfl,h3⟩ | ⟨h1,A,rfl,h3⟩ | ⟨h1,Pb,A,rfl,h3,h4⟩
 ·refine ⟨_,_,rfl,(fun _ _=>by kernel_rfl),fun v0 o hO hbs ho=>?_⟩;have e:JF u m b=b.2:=by unfold JF; rw [if_pos (by omega)]
  refine (Zl5 (x:=b.2) (g:=b.1) hO hbs (by omega) h3.1).mono ?_;rintro e' w' ⟨ao,c,rfl,g1,g2,g3⟩;rw [e];exact ⟨ao,_,c,rfl,rfl,g1,g2,g3⟩
 ·refine ⟨_,_,rfl,(fun _ _=>by kernel_rfl),fun v0 o hO hbs ho=>?_⟩;obtain ⟨fN,hfN⟩ :∃fN:Nat,m.fr=(fN:Int):=⟨m.fr.toNat,by omega⟩;obtain ⟨tN,htN⟩ :∃tN:Nat,m.up=(tN:Int):=⟨m.up.toNat,by omega⟩;have e:JF u m b=u.extract fN tN:=by unfold JF; rw [if_neg (by omega),if_pos h1,hfN,htN]; rfl
  rw [e,hfN,htN];refine (Zl4 (u:=u) (fN:=fN) (tN:=tN) hO hbs (by omega) h3.1 hX h0 (by omega) (by omega)).mono ?_;rintro e' w' ⟨ao,c,rfl,g1,g2,g3⟩;exact ⟨ao,_,c,rfl,rfl,g1,g2,g3⟩
 ·refine ⟨_,_,rfl,(fun _ _=>by kernel_rfl),fun v0 o hO hbs ho=>?_⟩;obtain ⟨j,hj⟩ :∃j:Nat,b.1=(j:Int) + 1:=⟨(b.1 - 1).toNat,by omega⟩;have hjl:j < m.gs.length:=by omega
  have hmem:m.gs.getD j (0,0)∈m.gs:=by rw [List.getD_eq_getElem?_getD,List.getElem?_eq_getElem hjl]; exact List.getElem_mem hjl
  have hin:=i5 _ hmem;have hin2:=i6 _ hmem;obtain ⟨q1,q2⟩:=Zdn m.gs j hjl;obtain ⟨aG,cG,rfl⟩:=Zd hg;obtain ⟨gx,rfl⟩ :∃gx,aG=some ⟨gx,0,none⟩:=by
   obtain ⟨n0,hn0⟩ :∃n0,m.gs.length=n0 + 1:=⟨m.gs.length - 1,by omega⟩;have h1:=hg;rw [hn0] at h1;obtain ⟨g,cp,hv,-⟩:=ZQ h1
   cases hv
   exact ⟨g,rfl⟩
  have c1:=World.ownsRow.cellAt hg (j * 2) (by omega);have c2:=World.ownsRow.cellAt hg (j * 2 + 1) (by omega);rw [q1] at c1;rw [q2] at c2;have e:JF u m b=if 0<=(m.gs.getD j (0,0)).1 then u.extract (m.gs.getD j (0,0)).1.toNat (m.gs.getD j (0,0)).2.toNat else ByteArray.empty:=by
   unfold JF;rw [if_neg (by omega),if_neg (by omega)];simp only [show (b.1 - 1).toNat=j by omega]
  generalize m.gs.getD j (0,0)=ab at c1 c2 hin hin2 e;obtain ⟨a,z⟩:=ab;simp only at c1 c2 hin hin2 e;have hps:psd a z=decide (0<=a):=by
   unfold psd
   rcases hin2 with h | h
   ·simp only [Prod.mk.injEq] at h;obtain ⟨rfl,rfl⟩:=h;rfl
   ·have:(a == -1)=false:=by simp; omega
    rw [this];simp [h]
  have h3':w.heap[Pb]? = some (.cells #[.int .i64 ((j:Int) + 1),.string b.2] 73 (0,0)):=by rw [<- hj]; exact h3.1
  refine (Zl3 (u:=u) (y:=JF u m b) hO hbs (by omega) h4.1 hX h0 h3' hjl i4 c1 c2 (fun hp=>?_) ?_).mono ?_
  ·rw [hps] at hp
   have:=of_decide_eq_true hp
   rcases hin with h | h
   ·omega
   ·exact h
  ·rw [e,hps];simp only [decide_eq_true_eq]
  ·rintro e' w' ⟨ao,n,c,rfl,g0,g1,g2,g3⟩;exact ⟨ao,n,c,rfl,g0,g1,g2,g3⟩
theorem Zr0 {acc:List Bt} {t:ByteArray} (h :∀x∈acc,(-1:Int)<=x.1) :∀x∈jn acc t,(-1:Int)<=x.1:=by
 rcases List.eq_nil_or_concat acc with rfl | ⟨A,x,rfl⟩
 ·rw [ZpL];intro x hx;simp at hx;subst hx;exact Int.le_refl _
 ·obtain ⟨g,y⟩:=x;rw [List.concat_eq_append] at h ⊢
  by_cases hg:g = -1
  ·subst hg;rw [ZeO];intro x hx
   rcases List.mem_append.1 hx with hx | hx
   ·exact h x (List.mem_append_left _ hx)
   ·simp at hx; subst hx; exact Int.le_refl _
  ·rw [ZcL _ _ _ hg];intro x hx
   rcases List.mem_append.1 hx with hx | hx
   ·exact h x hx
   ·simp at hx; subst hx; exact Int.le_refl _
theorem Zqb {s:ByteArray} :∀(f p:Nat) (acc L:List Bt),(∀x∈acc,(-1:Int)<=x.1)->Zb3 s f p acc = .ok L->∀x∈L,(-1:Int)<=x.1:=by
 intro f
 induction f with
 | zero=>intro p acc L h e; simp only [Zb3,Except.ok.injEq] at e; subst e; exact h
 | succ f ih =>
   intro p acc L h e;simp only [Zb3] at e
   split at e
   ·simp only [Except.ok.injEq] at e; subst e; exact h
   ·split at e
    ·split at e
     ·exact ih _ _ _ (Zr0 h) e
     ·split at e
      ·rename_i hd;refine ih _ _ _ (fun x hx=>?_) e
       rcases List.mem_append.1 hx with hx | hx
       ·exact h x hx
       ·simp at hx;subst hx;simp [ZU] at hd;show (-1:Int)<=((bt s (p + 1):Nat):Int) - 48;omega
      ·cases e
    ·exact ih _ _ _ (Zr0 h) e
theorem ZrD {s:ByteArray} {L:List Bt} (h:ZF s = .ok L) :∀x∈L,(-1:Int)<=x.1:=by
 unfold ZF at h
 split at h
 ·cases h
 ·exact Zqb _ _ _ _ (by simp) h
theorem Zl0 {X:Xs} {N G k p:Nat} {m:Mt} (hX:OkX N 0 G X) (hG:G<=9) (hk:p + k<=N + 1) (h:Qc (fun a=>(X a).map (QX G a)) k p=some m):InP N m:=by
 refine ⟨(Zio hX hG hk h).1,fun y hy=>?_⟩;obtain ⟨a,h1,h2,h3⟩:=ZcN _ _ h;obtain ⟨e,he,rfl⟩:=List.mem_map.1 h3;have hy':y∈Zbx G e.2:=hy;unfold Zbx at hy';obtain ⟨i,hi,rfl⟩:=List.mem_map.1 hy'
 cases hc:e.2 i with
 | none=>exact Or.inl rfl
 | some ab =>
   obtain ⟨a',b'⟩:=ab;exact Or.inr (by show (0:Int)<=(a':Int); omega)
theorem Zpr {X:Xs} {N G:Nat} (hX:OkX N 0 G X) (hG:G<=9) :∀(k p:Nat),p<=N + 1->∀m∈JN (fun a=>(X a).map (QX G a)) N k p,InP N m:=by
 intro k
 induction k with
 | zero=>intro p hp m hm; simp [JN] at hm
 | succ k ih =>
   intro p hp m hm;simp only [JN] at hm
   cases hf:Qc (fun a=>(X a).map (QX G a)) (N + 1 - p) p with
   | none=>rw [hf] at hm; simp at hm
   | some m1 =>
     rw [hf] at hm;obtain ⟨f1,f2,f3,f4,f5,f6,f7⟩:=ZcM hX (by omega) hf
     rcases List.mem_cons.1 hm with rfl | hm
     ·exact Zl0 hX hG (by omega) hf
     ·exact ih _ f7 _ hm
def amC (on:List Mt->Bool) (most:Nat) (out:List Mt):Option Code:=if out = [] then none else if on out=false\/most<=out.length then some .ret else none
theorem ZcQ (on:List Mt->Bool) (most:Nat) (out:List Mt) (m:Mt):amC on most (out ++ [m])=if on (out ++ [m])=false\/most<=out.length + 1 then some .ret else none:=by simp [amC]
theorem Zpl {on:List Mt->Bool} {most:Nat} {out:List Mt} (h0:on []=true) (hm:0 < most) (h:amC on most out=none):on out=true/\out.length < most:=by
 unfold amC at h
 split at h
 ·rename_i e; subst e; exact ⟨h0,hm⟩
 ·split at h
  ·cases h
  ·rename_i hn;refine ⟨by cases ho:on out with | true=>rfl | false=>exact absurd (Or.inl ho) hn,?_⟩;apply Decidable.byContradiction;intro h2;exact hn (Or.inr (by omega))
theorem Zpk {on:List Mt->Bool} {most:Nat} :∀(l out:List Mt),out.length < most->Jk (fun o=>(amC on most o).isNone) out l=Jk on out (l.take (most - out.length)):=by
 intro l
 induction l with
 | nil=>intro out h; simp [Jk]
 | cons m l ih =>
   intro out h;obtain ⟨k,hk⟩ :∃k,most - out.length=k + 1:=⟨most - out.length - 1,by omega⟩;rw [hk,List.take_succ_cons];simp only [Jk,ZcQ]
   cases ho:on (out ++ [m]) with
   | false=>simp
   | true =>
     by_cases hm:most<=out.length + 1
     ·have:k=0:=by omega
      subst this;simp [hm,Jk]
     ·have e1:(if (true=false\/most<=out.length + 1) then some Code.ret else none)=none:=if_neg (by simp; omega);rw [e1];simp only [Option.isNone_none,if_true];rw [ih _ (by simp; omega)]
      congr 2
      simp;omega
theorem ZsB {on:List Mt->Bool} {most:Nat} {out:List Mt} {m:Mt}:(on (out ++ [m])=false->Zoz (amC on most (out ++ [m])) .ret)/\(on (out ++ [m])=true->most<=out.length + 1->Zoz (amC on most (out ++ [m])) .ret)/\(on (out ++ [m])=true->¬ most<=out.length + 1->Zoz (amC on most (out ++ [m])) .normal):=by
 refine ⟨fun h=>?_,fun h h2=>?_,fun h h2=>?_⟩
 ·rw [ZcQ,if_pos (Or.inl h)]; rfl
 ·rw [ZcQ,if_pos (Or.inr h2)]; rfl
 ·rw [ZcQ,if_neg (by rw [h]; simp; omega)]; rfl
structure ZsL (X:Nat) (Bs:List Bt) (fv:Value) (fs:List Value) (w:World) (F:Bs2):Prop where
 len:fs.length=Bs.length
 row:w.ownsRow 0 66 1 fv Bs.length fs
 out :∀k,fv.ownBlock=some k->¬ F k
 one :∀(i:Nat) (h:i < Bs.length),FvI X Bs[i] (fs[i]'(by rw [len]; exact h)) w F
theorem ZsL.later {X:Nat} {Bs:List Bt} {fv:Value} {fs:List Value} {w w':World} {F F':Bs2} (h:ZsL X Bs fv fs w F) (l:Lat w F w' F'):ZsL X Bs fv fs w' F':=by
 obtain ⟨h1,h2⟩:=ZJ ⟨h.row,h.out⟩ l;exact ⟨h.len,h1,h2,fun i hi=>(h.one i hi).later l⟩
structure RsI (X Tx Fx:Nat) (u:ByteArray) (Bs:List Bt) (fv:Value) (fs:List Value) (w:World) (F:Bs2):Prop where
 tx:CeI w F Tx 0 (.string u)
 fx:CeI w F Fx 0 fv
 fvs:ZsL X Bs fv fs w F
theorem RsI.later {X Tx Fx:Nat} {u:ByteArray} {Bs:List Bt} {fv:Value} {fs:List Value} {w w':World} {F F':Bs2} (h:RsI X Tx Fx u Bs fv fs w F) (l:Lat w F w' F'):RsI X Tx Fx u Bs fv fs w' F' :=
 ⟨h.tx.later l,h.fx.later l,h.fvs.later l⟩
structure RpO (S P N B:Nat) (o:ByteArray) (bh n:Nat) (v:Value) (w:World) (F Fr:Bs2):Prop where
 out:At1 w S 22 v
 beh:At1 w P 3 (.int .i64 (bh:Int))
 cnt:At1 w N 3 (.int .i64 (n:Int))
 row:ObB w B v o
 own :∀k,Fr k↔k=S\/k=P\/k=N\/v.ownBlock=some k
 may :∀k,Fr k->F k
 base:B<=w.heap.size
 ne:P≠N
theorem RpO.neS {S P N B:Nat} {o:ByteArray} {bh n:Nat} {v:Value} {w:World} {F Fr:Bs2} (h:RpO S P N B o bh n v w F Fr):v.ownBlock≠some S:=Zi h.row h.out (by decide)
theorem RpO.neP {S P N B:Nat} {o:ByteArray} {bh n:Nat} {v:Value} {w:World} {F Fr:Bs2} (h:RpO S P N B o bh n v w F Fr):v.ownBlock≠some P:=Zi h.row h.beh (by decide)
theorem RpO.neN {S P N B:Nat} {o:ByteArray} {bh n:Nat} {v:Value} {w:World} {F Fr:Bs2} (h:RpO S P N B o bh n v w F Fr):v.ownBlock≠some N:=Zi h.row h.cnt (by decide)
theorem RpO.frame {S P N B:Nat} {o:ByteArray} {bh n:Nat} {v:Value} {w w':World} {F F' Fr:Bs2} (h:RpO S P N B o bh n v w F Fr) (l:w.heap.size<=w'.heap.size) (hF :∀k,Fr k->F' k) (hk :∀k,Fr k->w'.heap[k]? = w.heap[k]?):RpO S P N B o bh n v w' F' Fr :=
 ⟨by unfold At1; rw [hk S ((h.own S).2 (Or.inl rfl))]; exact h.out,by unfold At1; rw [hk P ((h.own P).2 (Or.inr (Or.inl rfl)))]; exact h.beh,by unfold At1; rw [hk N ((h.own N).2 (Or.inr (Or.inr (Or.inl rfl))))]; exact h.cnt,
  Jj h.row (fun k e=>hk k ((h.own k).2 (Or.inr (Or.inr (Or.inr e))))),h.own,hF,Nat.le_trans h.base l,h.ne⟩
def RpR (S P N B X Tx Fx:Nat) (u:ByteArray) (Bs:List Bt) (fv:Value) (fs:List Value) (b:Nat) (out:List Mt):Rsc:=fun w F Fr=>(∃v,RpO S P N B (rpA u Bs out).1 (rpA u Bs out).2 out.length v w F Fr)/\RsI X Tx Fx u Bs fv fs w F
theorem ZrP (S P N B X Tx Fx:Nat) (u:ByteArray) (Bs:List Bt) (fv:Value) (fs:List Value) (b:Nat) (out:List Mt):Zq (RpR S P N B X Tx Fx u Bs fv fs b out):=by
 refine ⟨?_,?_⟩
 ·rintro w F Fr ⟨⟨v,h⟩,hs⟩ k hk;refine ⟨h.may k hk,?_⟩
  rcases (h.own k).1 hk with rfl | rfl | rfl | hk
  ·exact h.out.lt
  ·exact h.beh.lt
  ·exact h.cnt.lt
  ·exact (h.row.lt k hk).2
 ·rintro w w' F F' Fr ⟨⟨v,h⟩,hs⟩ l hF' hk;exact ⟨⟨v,h.frame l.size hF' hk⟩,hs.later l⟩
theorem ZpW {w:World} {a b:Nat} {t t':TypeId} {v v':Value} (h:At1 w a t v) (h':At1 w b t' v') (ht:t≠t'):a≠b:=by
 intro e;subst e;unfold At1 at h h';rw [h] at h';simp only [Option.some.injEq,Obj.cells.injEq] at h';exact ht h'.2.1
theorem RpO.SP {S P N B:Nat} {o:ByteArray} {bh n:Nat} {v:Value} {w:World} {F Fr:Bs2} (h:RpO S P N B o bh n v w F Fr):S≠P:=ZpW h.out h.beh (by decide)
theorem RpO.SN {S P N B:Nat} {o:ByteArray} {bh n:Nat} {v:Value} {w:World} {F Fr:Bs2} (h:RpO S P N B o bh n v w F Fr):S≠N:=ZpW h.out h.cnt (by decide)
theorem RpO.add {S P N B:Nat} {o o':ByteArray} {bh n:Nat} {v v':Value} {w w':World} {F Fr:Bs2} (h:RpO S P N B o bh n v w F Fr) (k:Za (fun k=>v.ownBlock=some k) w w') (ho:ObB w' B v' o') (hbk:Blk w v v') :
  w'.cell? ⟨S,0,none⟩=some v/\w'.frozen? ⟨S,0,none⟩=false/\∃F4 Fr4,RpO S P N B o' bh n v' (w'.setCell ⟨S,0,none⟩ v') F4 Fr4/\Trn w F Fr (w'.setCell ⟨S,0,none⟩ v') F4 Fr4:=by
 have hS1:At1 w' S 22 v:=h.out.keeps k h.neS;have hP1:=h.beh.keeps k h.neP;have hN1:=h.cnt.keeps k h.neN;have kS:Za (fun k=>k=S) w' (w'.setCell ⟨S,0,none⟩ v'):=Zh _ _ _ _;have hS2:At1 (w'.setCell ⟨S,0,none⟩ v') S 22 v':=by unfold At1; rw [heap_setCell_same _ _ _ _ _ _ hS1]; rfl
 have hP2:=hP1.keeps kS (Ne.symm h.SP);have hN2:=hN1.keeps kS (Ne.symm h.SN);have hne:v'.ownBlock≠some S:=Zi ho hS1 (by decide);have ho2:ObB (w'.setCell ⟨S,0,none⟩ v') B v' o':=Zb ho kS (fun k hk e=>hne (e ▸ hk));have kA:Za Fr w (w'.setCell ⟨S,0,none⟩ v'):=(k.mono (fun k _ e=>(h.own k).2 (Or.inr (Or.inr (Or.inr e))))).trans (kS.mono (fun k _ e=>(h.own k).2 (Or.inl e)));obtain ⟨F4,hF4⟩ :∃F4:Bs2,F4=fun k=>(F k/\¬ Fr k)\/k=S\/k=P\/k=N\/v'.ownBlock=some k:=⟨_,rfl⟩;refine ⟨hS1.cell,Zv hS1,F4,fun k=>k=S\/k=P\/k=N\/v'.ownBlock=some k,⟨hS2,hP2,hN2,ho2,fun k=>Iff.rfl,fun k hk=>by rw [hF4]; exact Or.inr hk,Nat.le_trans h.base kA.size,h.ne⟩,kA,fun k hk=>?_,fun k hk=>by rw [hF4] at hk; exact hk,fun k _ hk hn=>by rw [hF4]; exact Or.inl ⟨hk,hn⟩,fun k hk=>by rw [hF4]; exact Or.inr hk⟩
 rcases hk with e | e | e | e
 ·exact Or.inl ((h.own k).2 (Or.inl e))
 ·exact Or.inl ((h.own k).2 (Or.inr (Or.inl e)))
 ·exact Or.inl ((h.own k).2 (Or.inr (Or.inr (Or.inl e))))
 ·by_cases hlt:k < w.heap.size
  ·exact Or.inl ((h.own k).2 (Or.inr (Or.inr (Or.inr (hbk k e hlt)))))
  ·exact Or.inr (by omega)
theorem RpO.setP {S P N B:Nat} {o:ByteArray} {bh n:Nat} {v:Value} {w:World} {F Fr:Bs2} (h:RpO S P N B o bh n v w F Fr) (bh':Nat) :
  w.frozen? ⟨P,0,none⟩=false/\RpO S P N B o bh' n v (w.setCell ⟨P,0,none⟩ (.int .i64 (bh':Int))) F Fr/\Trn w F Fr (w.setCell ⟨P,0,none⟩ (.int .i64 (bh':Int))) F Fr:=by
 have kS:Za (fun k=>k=P) w (w.setCell ⟨P,0,none⟩ (.int .i64 (bh':Int))):=Zh _ _ _ _;exact ⟨Zv h.beh,⟨h.out.keeps kS h.SP,by unfold At1; rw [heap_setCell_same _ _ _ _ _ _ h.beh]; rfl,h.cnt.keeps kS (Ne.symm h.ne),Zb h.row kS (fun k hk e=>h.neP (e ▸ hk)),h.own,h.may,Nat.le_trans h.base kS.size,h.ne⟩,Trn.same h.may (kS.mono (fun k _ e=>(h.own k).2 (Or.inr (Or.inl e))))⟩
theorem RpO.setN {S P N B:Nat} {o:ByteArray} {bh n:Nat} {v:Value} {w:World} {F Fr:Bs2} (h:RpO S P N B o bh n v w F Fr) (n':Nat) :
  w.frozen? ⟨N,0,none⟩=false/\RpO S P N B o bh n' v (w.setCell ⟨N,0,none⟩ (.int .i64 (n':Int))) F Fr/\Trn w F Fr (w.setCell ⟨N,0,none⟩ (.int .i64 (n':Int))) F Fr:=by
 have kS:Za (fun k=>k=N) w (w.setCell ⟨N,0,none⟩ (.int .i64 (n':Int))):=Zh _ _ _ _;exact ⟨Zv h.cnt,⟨h.out.keeps kS h.SN,h.beh.keeps kS h.ne,by unfold At1; rw [heap_setCell_same _ _ _ _ _ _ h.cnt]; rfl,Zb h.row kS (fun k hk e=>h.neN (e ▸ hk)),h.own,h.may,Nat.le_trans h.base kS.size,h.ne⟩,Trn.same h.may (kS.mono (fun k _ e=>(h.own k).2 (Or.inr (Or.inr (Or.inl e)))))⟩
structure Rst (X Tx Fx mb:Nat) (u:ByteArray) (Bs:List Bt) (fv:Value) (fs:List Value) (m:Mt) (gv:Value) (F5 Fu:Bs2) (q7:World):Prop where
 tx:TxA X u q7
 rs:RsI X Tx Fx u Bs fv fs q7 F5
 mb:BkI q7 F5 mb (.cells #[.bool m.ok,.int .i64 m.fr,.int .i64 m.up,gv] 38 (0,0))
 gr :∃b,q7.ownsRow b 118 2 gv m.gs.length (ZB m.gs)/\∀k,gv.ownBlock=some k->¬ F5 k
 nx:¬ Fu X
 sub :∀k,Fu k->F5 k
theorem RpO.notX {S P N B X:Nat} {o u:ByteArray} {bh n:Nat} {v:Value} {w:World} {F Fr:Bs2} (h:RpO S P N B o bh n v w F Fr) (hT:TxA X u w):¬ Fr X:=by
 obtain ⟨cs,hX,-⟩:=hT;intro hf;have hne :∀(a:Nat) (t:TypeId) (y:Value),At1 w a t y->t≠105->X≠a:=fun a t y ha ht e=>by
  subst e;unfold At1 at ha;rw [ha] at hX;simp only [Option.some.injEq,Obj.cells.injEq] at hX;exact ht hX.2.1
 rcases (h.own X).1 hf with e | e | e | e
 ·exact hne _ _ _ h.out (by decide) e
 ·exact hne _ _ _ h.beh (by decide) e
 ·exact hne _ _ _ h.cnt (by decide) e
 ·exact Zi h.row hX (by decide) e
section
variable {X Tx Fx mb:Nat} {u:ByteArray} {Bs:List Bt} {fv:Value} {fs:List Value} {m:Mt} {gv:Value} {F5 Fu:Bs2} {q7:World}
theorem Rst.later (h:Rst X Tx Fx mb u Bs fv fs m gv F5 Fu q7) {wr:World} {F' Fr':Bs2} (t:Trn q7 F5 Fu wr F' Fr') :
  TxA X u wr/\RsI X Tx Fx u Bs fv fs wr F'/\wr.heap[mb]? = some (.cells #[.bool m.ok,.int .i64 m.fr,.int .i64 m.up,gv] 38 (0,0))/\∃b,wr.ownsRow b 118 2 gv m.gs.length (ZB m.gs):=by
 have l:=t.lat h.sub;obtain ⟨b,h1,h2⟩:=h.gr;exact ⟨h.tx.keeps t.keeps h.nx,h.rs.later l,(h.mb.later l).1,b,(ZJ ⟨h1,h2⟩ l).1⟩
def Zm9 (S P N:Nat) (F5 Fu:Bs2) (q7:World) (o:ByteArray) (bh n:Nat) (v:Value) (wr:World):Prop :=∃F' Fr',RpO S P N 0 o bh n v wr F' Fr'/\Trn q7 F5 Fu wr F' Fr'
variable {S P N:Nat} {o:ByteArray} {bh n:Nat} {v:Value} {wr:World}
theorem Zb9 (h:Rst X Tx Fx mb u Bs fv fs m gv F5 Fu q7) (hc:Zm9 S P N F5 Fu q7 o bh n v wr) :
  wr.cell? ⟨S,0,none⟩=some v/\wr.cell? ⟨P,0,none⟩=some (.int .i64 (bh:Int))/\wr.cell? ⟨Tx,0,none⟩=some (.string u)/\wr.cell? ⟨Fx,0,none⟩=some fv/\wr.heap[mb]? = some (.cells #[.bool m.ok,.int .i64 m.fr,.int .i64 m.up,gv] 38 (0,0))/\∃(a:Option Addr) (n' c:Nat),v = .slice a n' c:=by
 obtain ⟨F',Fr',hO,t⟩:=hc;obtain ⟨-,h2,h3,-⟩:=h.later t;obtain ⟨a,c,hv⟩:=Zd hO.row;exact ⟨hO.out.cell,hO.beh.cell,h2.tx.1,h2.fx.1,h3,a,_,c,hv⟩
theorem ZkQ (h:Rst X Tx Fx mb u Bs fv fs m gv F5 Fu q7) (hc:Zm9 S P N F5 Fu q7 o bh n v wr) (hm:InP u.size m) (hu:u.size<=200) (hB :∀b∈Bs,b.2.size<=100/\b.1<=(m.gs.length:Int)) (ho:o.size<=900000000) {k:Nat} (hk:k < Bs.length) :
  ∃f caps,ZdD f/\(∀n' c g,fv = .slice (some ⟨g,0,none⟩) n' c->wr.cell? ⟨g,k,none⟩=some (.func (.func f) #[] caps))/\Calls Tryz.prog f (#[v,.agg #[.bool m.ok,.int .i64 m.fr,.int .i64 m.up,gv]] ++ caps) wr (fun e w' =>∃a n' c,e = .returned (.slice a n' c)/\w'.cell? ⟨S,0,none⟩=some v/\w'.frozen? ⟨S,0,none⟩=false/\Hid (Zm9 S P N F5 Fu q7 (o ++ JF u m Bs[k]) bh n (.slice a n' c) (w'.setCell ⟨S,0,none⟩ (.slice a n' c)))):=by
 obtain ⟨F',Fr',hO,t⟩:=hc;obtain ⟨h1,h2,h3,b,h4⟩:=h.later t;obtain ⟨b1,b2⟩:=hB Bs[k] (List.getElem_mem hk);obtain ⟨f,caps,e1,e2,e3⟩:=Zl2 (base:=0) (h2.fvs.one k hk) h1 h4 hm hu b1 b2;refine ⟨f,caps,e2,fun n' c g hg=>?_,?_⟩
 ·have hrow:=h2.fvs.row;have hkf:k < fs.length:=by rw [h2.fvs.len]; exact hk
  subst hg;obtain ⟨a',c',hv⟩:=Zd hrow
  cases hv
  have hc:=World.ownsRow.cellAt hrow k (by rw [Nat.mul_one]; exact hk);rw [hc,List.getElem?_eq_getElem hkf];exact congrArg some e1
 ·refine (e3 v o hO.row (Nat.zero_le _) ho).mono ?_;rintro e w' ⟨a,n',c,rfl,-,g1,g2,g3⟩;obtain ⟨c1,c2,F4,Fr4,c3,c4⟩:=hO.add g2 g1 g3;exact ⟨a,n',c,rfl,c1,c2,F4,Fr4,c3,t.trans c4⟩
theorem ZkR (hc:Zm9 S P N F5 Fu q7 o bh n v wr) (bh':Nat) :
  wr.cell? ⟨P,0,none⟩=some (.int .i64 (bh:Int))/\wr.frozen? ⟨P,0,none⟩=false/\(wr.setCell ⟨P,0,none⟩ (.int .i64 (bh':Int))).cell? ⟨N,0,none⟩=some (.int .i64 (n:Int))/\(wr.setCell ⟨P,0,none⟩ (.int .i64 (bh':Int))).frozen? ⟨N,0,none⟩=false/\
   Zm9 S P N F5 Fu q7 o bh' (n + 1) v ((wr.setCell ⟨P,0,none⟩ (.int .i64 (bh':Int))).setCell ⟨N,0,none⟩ (.int .i64 ((n:Int) + 1))):=by
 obtain ⟨F',Fr',hO,t⟩:=hc;obtain ⟨f1,hO1,t1⟩:=hO.setP bh';obtain ⟨f2,hO2,t2⟩:=hO1.setN (n + 1);have e:((n + 1:Nat):Int)=(n:Int) + 1:=by omega
 rw [e] at hO2 t2;exact ⟨hO.beh.cell,f1,hO1.cnt.cell,f2,F',Fr',hO2,(t.trans t1).trans t2⟩
end
end Go.Proofs.YtfkflljplohhcaaGreatDoor
