import Derived.Test.YtfkflljplohhcaaGreatDoorMa
import Derived.Test.YtfkflljplohhcaaGreatDoorK
set_option linter.unusedVariables false
set_option maxHeartbeats 4000000
set_option maxRecDepth 100000
namespace Go.Proofs.YtfkflljplohhcaaGreatDoor
open Go.RowKit
structure Mz where
 R:Nat
 Bd:Nat
 Bl:Nat
 at_:Int
 G:Nat
 pv:Value
 u:ByteArray
 ps:List Pc
 L:List Pm
def Mz.n (Z:Mz):Nat:=Z.ps.length*(Z.u.size+1)
def Mz.k (Z:Mz) (i p:Nat):Nat:=i*(Z.u.size+1)+p
def Mz.X (Z:Mz) (i:Nat):Xs:=jB Z.u Z.ps i
structure Ms (Z:Mz):Prop where
 iF:Z.u.size<=200
 g9:Z.G<=9
 few:Z.ps.length<=1000
 kK:nG Z.G 0 Z.ps
 oH:Z.L.map (·.1)=Z.ps
 sets:∀c∈Z.ps,c.set.length<=1000/\c.kids.length<=1000
variable {i p base N Lb G P:Nat}{w w' w0:World}{T:List TypeId}{v fq lv gv tv fv lw:Value}{xs:List Value}{cs:Array Value}{t:TypeId}
theorem Mz.wQ(Z:Mz)(hi:i<Z.ps.length)(hp:p<=Z.u.size):Z.k i p<Z.n:=by
 unfold Mz.k Mz.n
 have:(i+1)*(Z.u.size+1)<=Z.ps.length*(Z.u.size+1):=Nat.mul_le_mul_right _ hi
 rw[Nat.succ_mul] at this;omega
theorem Mz.yI(Z:Mz){j q:Nat}(hp:p<=Z.u.size)(hq:q<=Z.u.size)(h:Z.k i p=Z.k j q):i=j/\p=q:=by
 unfold Mz.k at h;have h1:(i*(Z.u.size+1)+p) / (Z.u.size+1)=i:=by
  rw[Nat.mul_comm,Nat.mul_add_div (by omega),Nat.div_eq_of_lt (by omega)];omega
 have h2:(j*(Z.u.size+1)+q) / (Z.u.size+1)=j:=by
  rw[Nat.mul_comm,Nat.mul_add_div (by omega),Nat.div_eq_of_lt (by omega)];omega
 rw[h,h2] at h1;subst h1;exact⟨rfl,by omega⟩
def lY (w:World) (E:Nat->Prop) (T:List TypeId):Prop :=∀k,E k->∃cur t,w.heap[k]?=some (.cells cur t (0,0))/\t∈T
variable {E:Nat->Prop}
theorem lY.iR(h:lY w E T)(hT:118 ∉ T):Ht w E:=by
 intro k hk cur hc;obtain⟨c,t,h1,h2⟩:=h k hk;rw[h1] at hc;simp at hc;exact hT (hc.2 ▸ h2)
theorem lY.own(h:lY w E T){e:TypeId}{size n:Nat}(ho:w.ownsRow base e size v n xs)(hT:e ∉ T):∀k,v.ownBlock=some k->¬E k:=by
 intro k hk he;obtain⟨c,t,h1,h2⟩:=h k he;obtain⟨cur,h3⟩:=Zx ho hk;rw[h1] at h3;simp at h3;exact hT (h3.2 ▸ h2)
theorem lY.not(h:lY w E T){R:Nat}(hR:w.heap[R]?=some (.cells cs t (0,0)))(hT:t ∉ T):¬E R:=by
 intro he;obtain⟨c,t',h1,h2⟩:=h R he;rw[h1] at hR;simp at hR;exact hT (hR.2 ▸ h2)
theorem lY.mono{T':List TypeId}(h:lY w E T)(hT:∀t∈T,t∈T'):lY w E T':=fun k hk=>by
 obtain⟨c,t,h1,h2⟩:=h k hk;exact⟨c,t,h1,hT t h2⟩
def Kr:List TypeId := [236,4,158,161]
def ZvG (w:World) (Z:Mz) (S Ex:Nat->Prop):Prop :=∃(dn:Nat->Bool) (lv:Nat->Value),Bk w Z.Bd 4 (iV Z.n dn)/\Bk w Z.Bl 158 ((List.range Z.n).map lv)/\
 ∀i p,i<Z.ps.length->p<=Z.u.size->dn (Z.k i p)=true->S (Z.k i p)\/(Qw w Z.G (lv (Z.k i p)) (Z.X i p)/\∀b,(lv (Z.k i p)).ownBlock=some b->¬Ex b)
structure MI (w:World) (Z:Mz) (S Ex:Nat->Prop):Prop where
 mc:Mc w Z.R Z.at_ Z.G Z.pv Z.u (.slice (some ⟨Z.Bd,0,none⟩) Z.n Z.n) (.slice (some ⟨Z.Bl,0,none⟩) Z.n Z.n)
 dM:nH w Z.pv Z.L
 tab:ZvG w Z S Ex
def fo (Z:Mz):Nat->Prop:=fun k=>k=Z.Bd\/k=Z.Bl
variable {Z:Mz}{S:Nat->Prop}
theorem MI.mZ{Ex:Nat->Prop}(h:MI w Z S Ex):lY w (fo Z) [4,158]:=by
 obtain⟨dn,lv,h1,h2,_⟩:=h.tab;rintro k (rfl | rfl)
 ·exact⟨_,_,h1,by simp⟩
 ·exact⟨_,_,h2,by simp⟩
theorem MI.keeps{Ex:Nat->Prop}(h:MI w Z S Ex)(k:Za E w w')(hT:lY w E Kr)(h1:¬E Z.Bd)(h2:¬E Z.Bl)(hx:∀b,E b->(∃cur,w.heap[b]?=some (.cells cur 161 (0,0)))->Ex b):MI w' Z S Ex:=by
 refine⟨h.mc.keeps k (hT.not h.mc (by decide)),⟨Zb h.dM.row k (hT.own h.dM.row (by decide)),fun x hx=>⟨Zb (h.dM.rows x hx).1 k (hT.own (h.dM.rows x hx).1 (by decide)),Zb (h.dM.rows x hx).2 k (hT.own (h.dM.rows x hx).2 (by decide))⟩⟩,?_⟩;obtain⟨dn,lv,t1,t2,t3⟩:=h.tab;refine⟨dn,lv,t1.keeps k h1,t2.keeps k h2,fun i p hi hp hd=>?_⟩
 rcases t3 i p hi hp hd with h3 | ⟨h3,h4⟩
 ·exact Or.inl h3
 ·refine Or.inr ⟨h3.keeps k (hT.iR (by decide)) (fun b hb he=>h4 b hb (hx b he ?_)),h4⟩;obtain⟨gv,h5,_⟩:=h3;exact Zx h5 hb
theorem MI.same{Ex:Nat->Prop}(h:MI w Z S Ex)(k:Za ai w w'):MI w' Z S Ex :=
 h.keeps k (fun _ h=>h.elim) id id (fun _ h=>h.elim)
theorem MI.exc{Ex Ex':Nat->Prop}(h:MI w Z S Ex)(hx:∀k,k<w.heap.size->Ex' k->Ex k):MI w Z S Ex':=by
 obtain⟨dn,lv,t1,t2,t3⟩:=h.tab;refine⟨h.mc,h.dM,dn,lv,t1,t2,fun i p hi hp hd=>?_⟩
 rcases t3 i p hi hp hd with h3 | ⟨h3,h4⟩
 ·exact Or.inl h3
 ·refine Or.inr ⟨h3,fun b hb hb'=>h4 b hb (hx b ?_ hb')⟩;obtain⟨gv,h5,_⟩:=h3;exact(h5.lt b hb).2
def D6 (Z:Mz) (S Ex:Nat->Prop) (i p:Nat) (w:World) (e:Ending) (w':World):Prop :=
 ∃v,e=.returned v/\Qw w' Z.G v (Z.X i p)/\(∀b,v.ownBlock=some b->¬Ex b)/\MI w' Z S Ex/\Za (fo Z) w w'
def zo (Z:Mz) (S:Nat->Prop) (i:Nat):Prop :=∀j q,j<i->q<=Z.u.size->¬S (Z.k j q)
def uT (Z:Mz) (i:Nat):Prop :=∀(w:World) (S Ex:Nat->Prop) (p:Nat),MI w Z S Ex->zo Z S (i+1)->(∀k,Ex k->k<w.heap.size)->p<=Z.u.size->
 au 74 #[.pointer (some ⟨Z.R,0,none⟩),.int .i64 (i:Int),.int .i64 (p:Int)] w (D6 Z S Ex i p w)
def zn (Z:Mz) (i:Nat):Prop :=∀(w:World) (S Ex:Nat->Prop) (p:Nat),MI w Z S Ex->zo Z S i->(∀k,Ex k->k<w.heap.size)->p<=Z.u.size->
 au 94 #[.pointer (some ⟨Z.R,0,none⟩),.int .i64 (i:Int),.int .i64 (p:Int)] w (D6 Z S Ex i p w)
theorem ZvB{w2:World}(h:Za E w.drew w2):Za E w w2:=⟨h.os,h.tape,h.output,h.size,h.block⟩
theorem IK(n:Nat)(lv:Nat->Value)(i:Nat)(hi:i<n):((List.range n).map lv)[i]?=some (lv i):=by simp[hi]
def wu (lv:Nat->Value) (k:Nat) (v:Value):Nat->Value:=fun i=>if i=k then v else lv i
theorem Zd8(n:Nat)(lv:Nat->Value)(k:Nat)(v:Value)(hk:k<n):((List.range n).map lv).set k v=(List.range n).map (wu lv k v):=by
 apply List.ext_getElem?;intro i
 by_cases hi:i<n
 ·rw[IK n _ i hi,List.getElem?_set]
  by_cases h:k=i
  ·subst h;simp[wu,hk]
  ·rw[if_neg h,IK n _ i hi];simp[wu,show ¬i=k from fun e=>h e.symm]
 ·rw[List.getElem?_eq_none (by simp;omega),List.getElem?_eq_none (by simp;omega)]
theorem MI.mark{Ex:Nat->Prop}(h:MI w Z S Ex){k:Nat}(hk:k<Z.n):MI (w.setCell ⟨Z.Bd,k,none⟩ (.bool true)) Z (fun x=>S x\/x=k) Ex:=by
 have kp:=ZO w Z.Bd k (.bool true);obtain⟨dn,lv,t1,t2,t3⟩:=h.tab;have hT:lY w (·=Z.Bd) [4]:=by rintro b rfl;exact⟨_,_,t1,by simp⟩
 have hne:Z.Bl≠Z.Bd:=by
  intro e;unfold Bk at t1 t2;rw[e,t1] at t2;simp at t2
 refine⟨h.mc.keeps kp (hT.not h.mc (by decide)),⟨Zb h.dM.row kp (hT.own h.dM.row (by decide)),fun x hx=>⟨Zb (h.dM.rows x hx).1 kp (hT.own (h.dM.rows x hx).1 (by decide)),Zb (h.dM.rows x hx).2 kp (hT.own (h.dM.rows x hx).2 (by decide))⟩⟩,?_⟩;refine⟨lT dn k,lv,?_,t2.keeps kp hne,fun i p hi hp hd=>?_⟩
 ·have:=t1.set k (.bool true)
  rw[SX _ _ _ hk] at this;exact this
 ·simp only[lT,Bool.or_eq_true,beq_iff_eq] at hd
  rcases hd with hd | hd
  ·rcases t3 i p hi hp hd with h3 | ⟨h3,h4⟩
   ·exact Or.inl (Or.inl h3)
   ·refine Or.inr ⟨h3.keeps kp (hT.iR (by decide)) ?_,h4⟩;obtain⟨gv,h5,_⟩:=h3;exact hT.own h5 (by decide)
  ·exact Or.inl (Or.inr hd)
theorem MI.put{Ex:Nat->Prop}(hi:i<Z.ps.length)(hp:p<=Z.u.size)(h:MI w Z (fun x=>S x\/x=Z.k i p) Ex)(hv:Qw w Z.G v (Z.X i p))(hx:∀b,v.ownBlock=some b->¬Ex b):MI (w.setCell ⟨Z.Bl,Z.k i p,none⟩ v) Z S Ex:=by
 have kp:=ZO w Z.Bl (Z.k i p) v;obtain⟨dn,lv,t1,t2,t3⟩:=h.tab;have hT:lY w (·=Z.Bl) [158]:=by rintro b rfl;exact⟨_,_,t2,by simp⟩
 have hne:Z.Bd≠Z.Bl:=by
  intro e;unfold Bk at t1 t2;rw[<- e,t1] at t2;simp at t2
 have hK:∀(v':Value) (L:En),Qw w Z.G v' L->Qw (w.setCell ⟨Z.Bl,Z.k i p,none⟩ v) Z.G v' L:=fun v' L h3=>by
  refine h3.keeps kp (hT.iR (by decide)) ?_;obtain⟨gv,h5,_⟩:=h3;exact hT.own h5 (by decide)
 refine⟨h.mc.keeps kp (hT.not h.mc (by decide)),⟨Zb h.dM.row kp (hT.own h.dM.row (by decide)),fun x hx=>⟨Zb (h.dM.rows x hx).1 kp (hT.own (h.dM.rows x hx).1 (by decide)),Zb (h.dM.rows x hx).2 kp (hT.own (h.dM.rows x hx).2 (by decide))⟩⟩,?_⟩;refine⟨dn,wu lv (Z.k i p) v,t1.keeps kp hne,?_,fun j q hj hq hd=>?_⟩
 ·have:=t2.set (Z.k i p) v
  rw[Zd8 _ _ _ _ (Z.wQ hi hp)] at this;exact this
 ·by_cases he:Z.k j q=Z.k i p
  ·obtain⟨rfl,rfl⟩:=Z.yI hq hp he;refine Or.inr ⟨?_,?_⟩
   ·simp only[wu,if_true];exact hK _ _ hv
   ·simp only[wu,if_true];exact hx
  ·rcases t3 j q hj hq hd with(h3 | h3) | ⟨h3,h4⟩
   ·exact Or.inl h3
   ·exact absurd h3 he
   ·refine Or.inr ⟨?_,?_⟩
    ·simp only[wu,if_neg he];exact hK _ _ h3
    ·simp only[wu,if_neg he];exact h4
theorem ZrY{w1 w3:World}{Ex:Nat->Prop}{K:Nat}(hK:Z.k i p=K+p)(hi:i<Z.ps.length)(hp:p<=Z.u.size)(kp:Za (·=Z.Bd) w w1)(hk3:Za (fo Z) w1 w3)(hM:MI w3 Z (fun x=>S x\/x=K+p) Ex)(hv:Qw w3 Z.G v (Z.X i p))(hx:∀b,v.ownBlock=some b->¬Ex b):
  MI (w3.setCell ⟨Z.Bl,K+p,none⟩ v) Z S Ex/\(∃v',Qw (w3.setCell ⟨Z.Bl,K+p,none⟩ v) Z.G v' (Z.X i p)/\(∀b,v'.ownBlock=some b->¬Ex b)/\(w3.setCell ⟨Z.Bl,K+p,none⟩ v).cell? ⟨Z.Bl,K+p,none⟩=some v')/\Za (fo Z) w (w3.setCell ⟨Z.Bl,K+p,none⟩ v):=by
 rw[<- hK] at hM ⊢;have kq:=ZO w3 Z.Bl (Z.k i p) v;obtain⟨dn,lv,t1,t2,t3⟩:=id hM.tab;have hT:lY w3 (·=Z.Bl) [158]:=by rintro b rfl;exact⟨_,_,t2,by simp⟩
 refine⟨MI.put hi hp hM hv hx,⟨v,?_,hx,?_⟩,?_⟩
 ·refine hv.keeps kq (hT.iR (by decide)) ?_;obtain⟨gv,h5,_⟩:=hv;exact hT.own h5 (by decide)
 ·have:=(t2.set (Z.k i p) v).cell (Z.k i p)
  rw[Zd8 _ _ _ _ (Z.wQ hi hp),IK _ _ _ (Z.wQ hi hp)] at this;rw[this];simp[wu]
 ·exact((kp.mono (E':=fo Z) (fun _ _ h=>Or.inl h)).trans hk3).trans (kq.mono (E':=fo Z) (fun _ _ h=>Or.inr h))
theorem ZgG(hZ:Ms Z)(hi:i<Z.ps.length)(hw:zn Z i):uT Z i:=by
 intro w S Ex p hM hF hX hp;have hu:=hZ.iF;have cZ:=hZ.few;have hkn:=Z.wQ hi hp;have c4:=hM.mc.c4;have c5:=hM.mc.c5;have c6:=hM.mc.c6;obtain⟨dn,lv,t1,t2,t3⟩:=hM.tab;have WN:Z.k i p=i*(Z.u.size+1)+p:=rfl;obtain⟨K,hK⟩:∃K,i*(Z.u.size+1)=K:=⟨_,rfl⟩;have KT:Z.k i p=K+p:=by rw[WN,hK]
 have hm:(i:Int)*((Z.u.size:Int)+1)=(K:Int):=by rw[<- hK];push_cast;rfl
 have hKb:K<=1000*201:=by rw[<- hK];exact Nat.mul_le_mul (by omega) (by omega)
 have hnb:Z.n<=1000*201:=by unfold Mz.n;exact Nat.mul_le_mul cZ (by omega)
 have hcd:=t1.cell (K+p);rw[<- KT,BP _ _ _ hkn] at hcd;rw[KT] at hkn hcd;have hz:(K:Int)+(p:Int)<(Z.n:Int):=by omega
 have hpz:p<=200:=by omega
 have HK:Hid (Z.k i p=K+p):=KT;have HF:Hid (zo Z S (i+1)):=hF;clear hK WN KT hF
 cases hd:dn (K+p) with
 | true =>
   rw[hd] at hcd
   rcases t3 i p hi hp (by rw[HK.out];exact hd) with h3 | ⟨h3,h4⟩
   ·exact absurd h3 (HF.out i p (by omega) hp)
   ·have hcl:=t2.cell (K+p);rw[IK _ _ _ hkn] at hcl;rw[HK.out] at h3 h4;obtain⟨al,cl,hlv⟩:=h3.form;rw[hlv] at hcl h3 h4;have hfin:D6 Z S Ex i p w (.returned (.slice al (Z.X i p).length cl)) w:=⟨_,rfl,h3,h4,hM,Za.refl _ _⟩;clear hM t1 t2 t3 h3 h4 hd hlv hX hw;go_enter Tryz.func74,Tryz.ntmps74;go_wp2;go_ret;exact hfin
 | false =>
   rw[hd] at hcd;have hfz:=t1.fz (K+p);have hM1:=hM.mark hkn;have kp:=ZO w Z.Bd (K+p) (.bool true);have hF1:zo Z (fun x=>S x\/x=K+p) i:=by
    rintro j q hj hq (h | h)
    ·exact HF.out j q (by omega) hq h
    ·rw[<- HK.out] at h
     have:=(Z.yI hq hp h).1
     omega
   have hX1:∀k,Ex k->k<(w.setCell ⟨Z.Bd,K+p,none⟩ (.bool true)).heap.size:=fun k hk=>Nat.lt_of_lt_of_le (hX k hk) kp.size;obtain⟨w1,hw1⟩:∃w1,w.setCell ⟨Z.Bd,K+p,none⟩ (.bool true)=w1:=⟨_,rfl⟩;have HW:Hid (w.setCell ⟨Z.Bd,K+p,none⟩ (.bool true)=w1):=hw1;rw[hw1] at hM1 kp hX1;have GY:=hM1.same (Za.refl _ w1).drew;have hcall:=hw w1.drew _ Ex p GY hF1 hX1 hp;unfold D6 at hcall;have d6:=hM1.mc.c6;clear hM t1 t2 t3 hd hX hX1 hw hw1 HF hF1 hM1 GY;go_enter Tryz.func74,Tryz.ntmps74;go_upto_region 4 with fail;rw[HW.out];go_cut [] (fun wc=>MI wc Z S Ex/\(∃v,Qw wc Z.G v (Z.X i p)/\(∀b,v.ownBlock=some b->¬Ex b)/\wc.cell? ⟨Z.Bl,K+p,none⟩=some v)/\Za (fo Z) w wc)
   case first =>
    go_region_with (first|(go_at_call 94;refine hcall.mono ?_;rintro e w3 ⟨v,rfl,hv,Oh,PZ,hk3⟩;obtain⟨al,cl,rfl⟩:=hv.form;have e6:=PZ.mc.c6;obtain⟨dn3,lv3,s1,s2,s3⟩:=PZ.tab;have q1:=s2.cell (K+p);rw[IK _ _ _ hkn] at q1;have q2:=s2.fz (K+p);clear s3))
    all_goals (try go_wp2_with fail)
    all_goals go_meet
    all_goals exact ZrY HK.out hi hp kp (ZvB hk3) PZ hv Oh
   case rest =>
    obtain⟨xD,⟨v,hv,Oh,hcv⟩,hk4⟩:=hcut;obtain⟨al,cl,rfl⟩:=hv.form;have f6:=xD.mc.c6;go_wp2;go_ret;exact⟨_,rfl,hv,Oh,xD,hk4⟩
structure Wk (w0:World) (Z:Mz) (S Ex:Nat->Prop) (Lb Sb:Nat) (lv:Value) (M:En) (w:World):Prop where
 mi:MI w Z S (fun k=>Ex k\/lv.ownBlock=some k)
 ll:Ll w Lb Sb Z.u.size Z.G lv M
 kp:Za (fo Z) w0 w
 lb:w0.heap.size<=Lb
 sb:w0.heap.size<=Sb
 old:Z.Bd<w0.heap.size/\Z.Bl<w0.heap.size
 ex:∀k,Ex k->k<w0.heap.size
 wM:∀b,lv.ownBlock=some b->w0.heap.size<=b
 nd:(M.map (·.1)).Nodup
 E5:∀e∈M,e.1<=Z.u.size
theorem Zr7(n:Nat):∀l:List Nat,l.Nodup->(∀x∈l,x<n)->l.length<=n:=by
 induction n with
 | zero =>
   intro l _ h
   cases l with
   | nil=>simp
   | cons a l=>exact absurd (h a (by simp)) (by omega)
 | succ n ih =>
   intro l h1 h2
   by_cases hm:n∈l
   ·have h3:=ih (l.erase n) (h1.erase n) (fun x hx=>by
     have:=(List.Nodup.mem_erase_iff h1).1 hx
     have:=h2 x this.2
     omega)
    have:=List.length_erase_of_mem hm
    omega
   ·have:=ih l h1 (fun x hx=>by
     have:=h2 x hx
     have:x≠n:=fun e=>hm (e ▸ hx)
     omega)
    omega
theorem zt{α:Type}{M:List (Nat×α)}(h1:(M.map (·.1)).Nodup)(h2:∀e∈M,e.1<=N):M.length<=N+1:=by
 have h3:=Zr7 (N+1) (M.map (·.1)) h1 (fun x hx=>by
  obtain⟨e,he,rfl⟩:=List.mem_map.1 hx
  have:=h2 e he
  omega)
 simpa using h3
namespace Wk
variable {w0 w w':World}{Z:Mz}{S Ex:Nat->Prop}{Lb Sb:Nat}{lv:Value}{M:En}
theorem len(h:Wk w0 Z S Ex Lb Sb lv M w):M.length<=Z.u.size+1:=zt h.nd h.E5
theorem same(h:Wk w0 Z S Ex Lb Sb lv M w)(k:Za ai w w'):Wk w0 Z S Ex Lb Sb lv M w' :=
 ⟨h.mi.same k,h.ll.same k,h.kp.trans (k.mono (fun _ _ h=>h.elim)),h.lb,h.sb,h.old,h.ex,h.wM,h.nd,h.E5⟩
theorem vJ(h:Wk w0 Z S Ex Lb Sb lv M w):lY w (ku Lb Sb lv) [236,4,161]:=by
 rintro k (rfl | rfl | hk)
 ·exact⟨_,_,h.ll.box,by simp⟩
 ·exact⟨_,_,h.ll.seen,by simp⟩
 ·obtain⟨gv,h1,_⟩:=h.ll.ends;obtain⟨cur,hc⟩:=Zx h1 hk;exact⟨_,_,hc,by simp⟩
theorem tabs(h:Wk w0 Z S Ex Lb Sb lv M w)(k:Za (fo Z) w w')(hm:MI w' Z S (fun k=>Ex k\/lv.ownBlock=some k)):Wk w0 Z S Ex Lb Sb lv M w':=by
 have hb:=h.old;have hT:=h.mi.mZ;have h1:¬fo Z Lb:=by rintro(e | e) <;> have:=h.lb <;> omega
 have h2:¬fo Z Sb:=by rintro(e | e) <;> have:=h.sb <;> omega
 refine⟨hm,h.ll.keeps k h1 h2 (hT.iR (by decide)) ?_,h.kp.trans k,h.lb,h.sb,h.old,h.ex,h.wM,h.nd,h.E5⟩;obtain⟨gv,h3,_⟩:=h.ll.ends;exact hT.own h3 (by decide)
variable {e:Ef}
theorem added(h:Wk w0 Z S Ex Lb Sb lv M w)(hp:p<=Z.u.size)(k:Za (ku Lb Sb lv) w w')(hl:Ll w' Lb Sb Z.u.size Z.G fq (Qx M [(p,e)]))(hb:jP w lv fq):Wk w0 Z S Ex Lb Sb fq (Qx M [(p,e)]) w':=by
 have hT:=h.vJ;have ho:=h.old;have n1:¬ku Lb Sb lv Z.Bd:=by
  rintro(e | e | e)
  ·have:=h.lb;omega
  ·have:=h.sb;omega
  ·have:=h.wM _ e;omega
 have n2:¬ku Lb Sb lv Z.Bl:=by
  rintro(e | e | e)
  ·have:=h.lb;omega
  ·have:=h.sb;omega
  ·have:=h.wM _ e;omega
 have hx:∀b,ku Lb Sb lv b->(∃cur,w.heap[b]?=some (.cells cur 161 (0,0)))->(Ex b\/lv.ownBlock=some b):=by
  rintro b (rfl | rfl | hb) ⟨cur,hc⟩
  ·rw[h.ll.box] at hc;simp at hc
  ·have:=h.ll.seen;unfold Bk at this;rw[this] at hc;simp at hc
  ·exact Or.inr hb
 have hm:=h.mi.keeps k (hT.mono (by decide)) n1 n2 hx;have hlv:∀b,fq.ownBlock=some b->w0.heap.size<=b:=by
  intro b hb'
  by_cases hlt:b<w.heap.size
  ·exact h.wM b (hb b hb' hlt)
  ·have:=h.kp.size;omega
 refine⟨?_,hl,?_,h.lb,h.sb,h.old,h.ex,hlv,ZkZ _ _ h.nd,?_⟩
 ·obtain⟨dn,lw,t1,t2,t3⟩:=h.mi.tab;obtain⟨dn',NY,u1,u2,u3⟩:=hm.tab;refine⟨hm.mc,hm.dM,?_⟩;refine⟨dn,lw,t1.keeps k n1,t2.keeps k n2,fun i p hi hp hd=>?_⟩
  rcases t3 i p hi hp hd with h3 | ⟨h3,h4⟩
  ·exact Or.inl h3
  ·obtain⟨gv,h5,h6⟩:=id h3;refine Or.inr ⟨h3.keeps k (hT.iR (by decide)) (fun b hb' he=>h4 b hb' (hx b he (Zx h5 hb'))),?_⟩;rintro b hb' (h7 | h7)
   ·exact h4 b hb' (Or.inl h7)
   ·exact h4 b hb' (Or.inr (hb b h7 (h5.lt b hb').2))
 ·exact h.kp.trans' k (fun b hb' he=>by
   rcases he with rfl | rfl | he
   ·have:=h.lb;omega
   ·have:=h.sb;omega
   ·have:=h.wM _ he;omega)
 ·intro x hx;unfold Qx at hx
  rcases List.mem_append.1 hx with hx | hx
  ·exact h.E5 x hx
  ·have:=(BL x hx).1
   simp at this;subst this;exact hp
end Wk
variable {M L:En}
theorem Ei{Sb:Nat}(hl:Ll w Lb Sb N G lv M)(h:Qw w G v L)(hn:∀b,v.ownBlock=some b->lv.ownBlock≠some b)(k:Za (ku Lb Sb lv) w w')(hb:jP w lv fq):Qw w' G v L/\∀b,v.ownBlock=some b->fq.ownBlock≠some b:=by
 obtain⟨gv,h1,h2⟩:=id h;refine⟨h.keeps k (Su hl) ?_,fun b hb1 hb2=>hn b hb1 (hb b hb2 (h1.lt b hb1).2)⟩;rintro b hb1 (rfl | rfl | he)
 ·obtain⟨cur,hc⟩:=Zx h1 hb1;rw[hl.box] at hc;simp at hc
 ·obtain⟨cur,hc⟩:=Zx h1 hb1
  have:=hl.seen;unfold Bk at this;rw[this] at hc;simp at hc
 ·exact hn b hb1 he
theorem ZiC{Sb:Nat}(hl:Ll w Lb Sb N G lv M)(h:Bk w P 161 xs)(hn:lv.ownBlock≠some P)(k:Za (ku Lb Sb lv) w w')(hb:jP w lv fq):Bk w' P 161 xs/\fq.ownBlock≠some P:=by
 refine⟨h.keeps k ?_,fun h2=>hn (hb P h2 h.lt)⟩;rintro(rfl | rfl | he)
 ·have:=h;unfold Bk at this;rw[hl.box] at this;simp at this
 ·have:=h;unfold Bk at this;have h2:=hl.seen;unfold Bk at h2;rw[h2] at this;simp at this
 ·exact hn he
variable {e:Ef}
theorem zw{Ex:Nat->Prop}{Sb:Nat}(hZ:Ms Z)(h:Wk w0 Z S Ex Lb Sb lv M w)(hg:gJ w Z.G gv e)(hp:p<=Z.u.size):
  au 127 #[ae Lb,.int .i64 (p:Int),gv] w fun en w'=>en=.returned (.tuple #[])/\∃fq,Wk w0 Z S Ex Lb Sb fq (Qx M [(p,e)]) w'/\Za (ku Lb Sb lv) w w'/\jP w lv fq:=by
 have hu:=hZ.iF;have hl:=h.len;refine(ZqS h.ll hg hp hu (by omega)).mono ?_;rintro en w' ⟨rfl,fq,h1,h2,h3⟩;exact⟨rfl,fq,h.added hp h2 h1 h3,h2,h3⟩
theorem LU{Ex:Nat->Prop}{Sb:Nat}(hE:uT Z i)(h:Wk w0 Z S Ex Lb Sb lv M w)(hF:zo Z S (i+1))(hp:p<=Z.u.size):
  au 74 #[.pointer (some ⟨Z.R,0,none⟩),.int .i64 (i:Int),.int .i64 (p:Int)] w fun en w' =>∃v,en=.returned v/\Qw w' Z.G v (Z.X i p)/\(∀b,v.ownBlock=some b->lv.ownBlock≠some b)/\Wk w0 Z S Ex Lb Sb lv M w'/\Za (fo Z) w w':=by
 refine(hE w S _ p h.mi hF ?_ hp).mono ?_
 ·rintro k (hk | hk)
  ·exact Nat.lt_of_lt_of_le (h.ex k hk) h.kp.size
  ·obtain⟨gv,h1,_⟩:=h.ll.ends;exact(h1.lt k hk).2
 ·rintro en w' ⟨v,rfl,h1,h2,h3,h4⟩;exact⟨v,rfl,h1,fun b hb hb'=>h2 b hb (Or.inr hb'),h.tabs h4 h3,h4⟩
theorem zy{Ex:Nat->Prop}(hZ:Ms Z)(h:MI w Z S Ex)(hX:∀k,Ex k->k<w.heap.size):
  au 125 #[.pointer (some ⟨Z.R,0,none⟩)] w fun e w' =>∃Lb Sb,e=.returned ((ae Lb))/\Wk w Z S Ex Lb Sb (.slice none 0 0) [] w'/\Za ai w w':=by
 obtain⟨dn,lv,t1,t2,_⟩:=id h.tab;refine(Zm9 h.mc hZ.iF).mono ?_;rintro e w' ⟨Lb,Sb,rfl,h1,h2,h3,k⟩;exact⟨Lb,Sb,rfl,⟨(h.same k).exc (fun b _ hb=>by rcases hb with hb | hb;exact hb;simp[Value.ownBlock] at hb),h1,k.mono (fun _ _ h=>h.elim),h2,h3,⟨t1.lt,t2.lt⟩,hX,fun b hb=>by simp[Value.ownBlock] at hb,by simp,by simp⟩,k⟩
theorem Q6{α:Type}(L:List α)(k:Nat)(h:k<L.length):L.take (k+1)=L.take k++[L[k]]:=List.take_succ_eq_append_getElem h
theorem Zji(L:En)(X:Xs)(k:Nat)(h:k<L.length):bnd (L.take (k+1)) X=bnd (L.take k) X++aY L[k] (X L[k].1):=by
 rw[Q6 L k h,ZkC,Zql,ZsE,List.append_nil]
theorem Zqp(e:Nat×Ef)(L:En)(k:Nat)(h:k<L.length):aY e (L.take (k+1))=aY e (L.take k)++[(L[k].1,fQ e.2 L[k].2)]:=by
 rw[Q6 L k h,ZkE];rfl
theorem Qw.at(h:Qw w G v L){k:Nat}(hk:k<L.length):∃(g cap:Nat) (ag:Option Addr) (cg:Nat),v=.slice (some ⟨g,0,none⟩) L.length cap/\g<w.heap.size/\
  w.cell? ⟨g,k*2,none⟩=some (.int .i64 (L[k].1:Int))/\w.cell? ⟨g,k*2+1,none⟩=some (.slice ag G cg)/\gJ w G (.slice ag G cg) L[k].2:=by
 obtain⟨gv,h1,h2⟩:=h;obtain⟨g,cap,rfl,hg⟩:=ZW h1 (by omega);have h3:=h2 k hk;have e:L.getD k (0,dG)=L[k]:=by rw[List.getD_eq_getElem?_getD,List.getElem?_eq_getElem hk];rfl
 rw[e] at h3;obtain⟨ag,cg,hgv⟩:=aj h3;have a0:=h1.cellAt (k*2) (by omega);have a1:=h1.cellAt (k*2+1) (by omega);rw[(JB _ _ k hk).1] at a0;rw[(JB _ _ k hk).2] at a1;simp only[Dn,e,hgv] at a0 a1;rw[hgv] at h3;exact⟨g,cap,ag,cg,rfl,hg,a0,a1,h3⟩
theorem MI.side{Ex:Nat->Prop}(h:MI w Z S Ex)(k:Za (fo Z) w w')(he:Qw w Z.G v L):Qw w' Z.G v L:=by
 obtain⟨gv,h1,_⟩:=id he;exact he.keeps k (h.mZ.iR (by decide)) (h.mZ.own h1 (by decide))
theorem MI.mh{Ex:Nat->Prop}(h:MI w Z S Ex)(k:Za (fo Z) w w')(hb:Bk w P 161 xs):Bk w' P 161 xs:=hb.keeps k (h.mZ.not hb (by decide))
theorem MI.sO{Ex:Nat->Prop}(h:MI w Z S Ex)(k:Za (fo Z) w w')(hg:gJ w Z.G v e):gJ w' Z.G v e:=hg.iG k (h.mZ.iR (by decide))
structure Th (Z:Mz) (tv:Value) (L0:En) (fv:Value) (F:En) (P:Nat) (p:Int) (gv:Value) (ef:Ef) (lw:Value) (w:World):Prop where
 t:Qw w Z.G tv L0
 tn:∀b,tv.ownBlock=some b->lw.ownBlock≠some b
 f:Qw w Z.G fv F
 fn:∀b,fv.ownBlock=some b->lw.ownBlock≠some b
 b:Bk w P 161 [.int .i64 p,gv]
 bn:lw.ownBlock≠some P
 g:gJ w Z.G gv ef
variable {L0 F:En}{ef:Ef}
theorem Th.same{p:Int}(h:Th Z tv L0 fv F P p gv ef lw w)(k:Za ai w w'):Th Z tv L0 fv F P p gv ef lw w' :=
 ⟨h.t.same k,h.tn,h.f.same k,h.fn,h.b.keeps k id,h.bn,h.g.same k⟩
theorem Th.added{NY:Value}{Sb:Nat}{p:Int}(h:Th Z tv L0 fv F P p gv ef lw w)(hl:Ll w Lb Sb Z.u.size Z.G lw M)(k:Za (ku Lb Sb lw) w w')(hb:jP w lw NY):Th Z tv L0 fv F P p gv ef NY w' :=
 ⟨(Ei hl h.t h.tn k hb).1,(Ei hl h.t h.tn k hb).2,(Ei hl h.f h.fn k hb).1,(Ei hl h.f h.fn k hb).2,(ZiC hl h.b h.bn k hb).1,(ZiC hl h.b h.bn k hb).2,h.g.iG k (Su hl)⟩
def ZqT (Z:Mz) (S Ex:Nat->Prop) (L0:En) (i:Nat) (w:World) (e:Ending) (w':World):Prop :=
 ∃v,e=.returned v/\Qw w' Z.G v (thn L0 (Z.X i))/\(∀b,v.ownBlock=some b->¬Ex b/\w.heap.size<=b)/\MI w' Z S Ex/\Za (fo Z) w w'
theorem Ziv{Ex:Nat->Prop}(hZ:Ms Z)(hE:uT Z i)(hM:MI w Z S Ex)(hF:zo Z S (i+1))(hX:∀k,Ex k->k<w.heap.size)(h0:Qw w Z.G tv L0)(hL0:∀e∈L0,e.1<=Z.u.size)(hlen:L0.length<=1000)(dW:dh Z.u.size 0 Z.G (Z.X i)):
  au 130 #[.pointer (some ⟨Z.R,0,none⟩),tv,.int .i64 (i:Int)] w (ZqT Z S Ex L0 i w):=by
 obtain⟨Lc,Dp,rfl⟩:=h0.form;have hem:=zy hZ hM hX;have hu:=hZ.iF;have HL0:Hid (∀e∈L0,e.1<=Z.u.size):=hL0;clear hL0;go_enter Tryz.func130,Tryz.ntmps130;go_upto_region 2 with(first|(go_at_call 125;refine hem.mono ?_;rintro e w1 ⟨Lb,Sb,rfl,hW,hk1⟩))
 have h1:=h0.same hk1;have hn1:∀b,(Value.slice Lc L0.length Dp).ownBlock=some b->(Value.slice none 0 0).ownBlock≠some b:=fun b _ h=>by simp[Value.ownBlock] at h
 have HT0:Hid (∀b,(Value.slice Lc L0.length Dp).ownBlock=some b->b<w.heap.size):=(by show∀_,_;intro b hb;obtain⟨gv,q,_⟩:=h0;exact(q.lt b hb).2);clear hem hM h0 hk1 hX;go_wp2;go_loopg [9,11,16] (L0.length+1) (fun gl _ _ s16 wr =>∃(a:Nat) (lv:Value) (M:En),a+gl=L0.length+1/\a<=L0.length/\s16=.int .i64 (a:Int)/\Hid (M=Qx [] (bnd (L0.take a) (Z.X i)))/\Wk w Z S Ex Lb Sb lv M wr/\Qw wr Z.G (.slice Lc L0.length Dp) L0/\∀b,(Value.slice Lc L0.length Dp).ownBlock=some b->lv.ownBlock≠some b)
 case atStart=>exact⟨0,_,[],by omega,by omega,rfl,(by show _ = _;simp[bnd,Qx,dd]),hW,h1,hn1⟩
 case round =>
  clear hW h1 hn1;obtain⟨a,lv,M,hgl,ha,rfl,HM,hW,h1,hn1⟩:=hrel;have HG:Hid (a+gk=L0.length+1):=hgl;clear hgl
  by_cases hlt:a<L0.length
  ·have hz:(a:Int)<(L0.length:Int):=by omega
   obtain⟨g,cap,ag,cg,hv,hg,a0,a1,hgr⟩:=h1.at hlt;simp only[Value.slice.injEq] at hv;obtain⟨rfl,_,rfl⟩:=hv;have hpe:=HL0.out L0[a] (List.getElem_mem hlt);have HB:Hid (bnd (L0.take (a+1)) (Z.X i)=bnd (L0.take a) (Z.X i)++aY L0[a] (Z.X i L0[a].1)):=Zji L0 (Z.X i) a hlt;generalize L0[a]=e at a0 a1 hgr hpe HB;obtain⟨p,ef⟩:=e;simp only at a0 a1 hgr hpe;go_upto_region 5 with fail;have kA:Za ai wr (wr.alloc (.cells #[.int .i64 (p:Int),.slice ag Z.G cg] 161)):=QT;have hP:Bk (wr.alloc (.cells #[.int .i64 (p:Int),.slice ag Z.G cg] 161)) wr.heap.size 161 [.int .i64 (p:Int),.slice ag Z.G cg]:=QC wr _ _;have PL:lv.ownBlock≠some wr.heap.size:=by
    intro h;obtain⟨gv,q,_⟩:=hW.ll.ends
    have:=(q.lt _ h).2
    omega
   have hW2:=hW.same kA;have h2:=h1.same kA;have hg2:=hgr.same kA;generalize wr.alloc (.cells #[.int .i64 (p:Int),.slice ag Z.G cg] 161)=wa at kA hP hW2 h2 hg2 ⊢;generalize wr.heap.size=P at hP PL ⊢;clear kA hW h1 hgr a0 a1 hg;have q0:wa.cell? (ak P)=some (.int .i64 (p:Int)):=by rw[hP.cell];rfl
   have hcall:=LU hE hW2 hF hpe;go_upto_region 6 with(first|(go_at_call 74;refine hcall.mono ?_;rintro en wb ⟨fv,rfl,hf,hfn,hW3,hk3⟩;obtain⟨af,cf,rfl⟩:=hf.form))
   have xA:Th Z (.slice (some ⟨g,0,none⟩) L0.length Dp) L0 (.slice af (Z.X i p).length cf) (Z.X i p) P (p:Int) (.slice ag Z.G cg) ef lv wb:=⟨hW2.mi.side hk3 h2,hn1,hf,hfn,hW2.mi.mh hk3 hP,PL,hW2.mi.sO hk3 hg2⟩;have Vg:Hid (∀x∈Z.X i p,x.1<=Z.u.size):=(by show∀_,_;exact fun x hx=>((dW p hpe).2 x hx).2.1);have xH:(Z.X i p).length<=201:=by have:=zt (dW p hpe).1 Vg.out;omega
   have UO:Hid (aY (p,ef) (Z.X i p)=aY (p,ef) (Z.X i p)):=rfl;clear hcall hP PL hW2 h2 hg2 hf hfn hk3 q0 hn1;obtain⟨F,jX⟩:∃F,Z.X i p=F:=⟨_,rfl⟩;have pW:Hid (Z.X i p=F):=jX;rw[jX] at xA Vg xH ⊢;clear jX UO;obtain⟨wo,rfl⟩:∃wo:World,wo=wr:=⟨_,rfl⟩;obtain⟨gq,rfl⟩:∃gq:Nat,gq=gk:=⟨_,rfl⟩;go_wp2;go_loopg [11,26] (F.length+1) (fun gl _ s26 wi =>∃(b:Nat) (lw:Value) (M2:En),b+gl=F.length+1/\b<=F.length/\s26=.int .i64 (b:Int)/\Hid (M2=Qx M (aY (p,ef) (F.take b)))/\Wk w Z S Ex Lb Sb lw M2 wi/\Th Z (.slice (some ⟨g,0,none⟩) L0.length Dp) L0 (.slice af F.length cf) F P (p:Int) (.slice ag Z.G cg) ef lw wi)
   case atStart=>exact⟨0,lv,M,by omega,by omega,rfl,(by show _ = _;simp[aY,Qx,dd]),hW3,xA⟩
   case round =>
    clear hW3 xA;obtain⟨b,lw,M2,jk,hb,rfl,wh,hW,xA⟩:=hrel;have HG2:Hid (b+gk=F.length+1):=jk;clear jk
    by_cases hlt2:b<F.length
    ·have hz2:(b:Int)<(F.length:Int):=by omega
     obtain⟨g2,cap2,ah,ch,hv2,hg2,a0,a1,lu⟩:=xA.f.at hlt2;simp only[Value.slice.injEq] at hv2;obtain⟨rfl,_,rfl⟩:=hv2;have hqe:=Vg.out F[b] (List.getElem_mem hlt2);have HB2:Hid (aY (p,ef) (F.take (b+1))=aY (p,ef) (F.take b)++[(F[b].1,fQ ef F[b].2)]):=Zqp (p,ef) F b hlt2;generalize F[b]=f at a0 a1 lu hqe HB2;obtain⟨q,hf⟩:=f;simp only at a0 a1 lu hqe;have zP:Hid (Qx M2 [(q,fQ ef hf)]=Qx M (aY (p,ef) (F.take (b+1)))):=(by show _ = _;rw[wh.out,HB2.out,<- Qv]);clear HB2 wh;go_upto_region 8 with fail;have kA:Za ai wr (wr.alloc (.cells #[.int .i64 (q:Int),.slice ah Z.G ch] 161)):=QT;have hQ:Bk (wr.alloc (.cells #[.int .i64 (q:Int),.slice ah Z.G ch] 161)) wr.heap.size 161 [.int .i64 (q:Int),.slice ah Z.G ch]:=QC wr _ _;have hW2:=hW.same kA;have o5:=xA.same kA;have hg3:=lu.same kA;generalize wr.alloc (.cells #[.int .i64 (q:Int),.slice ah Z.G ch] 161)=wa at kA hQ hW2 o5 hg3 ⊢;generalize wr.heap.size=Q at hQ ⊢;clear kA hW xA lu a0 a1 hg2;have q0:wa.cell? (ak Q)=some (.int .i64 (q:Int)):=by rw[hQ.cell];rfl
     have q1:wa.cell? ⟨Q,1,none⟩=some (.slice ah Z.G ch):=by rw[hQ.cell];rfl
     have p1:wa.cell? ⟨P,1,none⟩=some (.slice ag Z.G cg):=by rw[o5.b.cell];rfl
     have l0:=hW2.ll.c0;have hqz:(q:Int)<(Z.u.size:Int)+1:=by omega
     have l1:=hW2.ll.seen.cell q;rw[BP _ _ _ (by omega)] at l1
     cases hs:bI bq M2 q with
     | true =>
       rw[hs] at l1;have HM4:Hid (M2=Qx M (aY (p,ef) (F.take (b+1)))):=(by show _ = _;rw[<- zP.out,LY M2 _ (fun x hx=>by simp at hx;subst hx;exact hs)]);clear hs;go_quiet (fail);go_wp2_with fail;go_roundg (gk-1)
       case measure=>have:=HG2.out;omega
       case rel=>exact⟨b+1,lw,M2,by have:=HG2.out;omega,by omega,congrArg (Value.int .i64) (by omega),HM4,hW2.same ((Za.refl _ _).drewN _),o5.same ((Za.refl _ _).drewN _)⟩
     | false =>
       rw[hs] at l1;clear hs;go_quiet (fail);go_wp2_with fail;have kN:Za ai wa (wa.drewN nq).drew:=((Za.refl _ _).drewN _).drew;have hW3:=hW2.same kN;have qR:=o5.same kN;have hg4:=hg3.same kN;have Db:=hQ.keeps kN id;have hov:=TH qR.g hg4 hZ.g9;clear kN hW2 o5 hg3 hQ l0 l1;go_region_with (first|(go_at_call 129;refine hov.mono ?_;rintro en wc ⟨gw,rfl,hgw,hkc,-⟩;replace hW3:=hW3.same hkc;replace qR:=qR.same hkc;replace Db:=Db.keeps hkc id;obtain⟨aw,cw,rfl⟩:=aj hgw;have r0:wc.cell? (ak Q)=some (.int .i64 (q:Int)):=(by rw[Db.cell];rfl))|(go_at_call 127;refine(zw hZ hW3 hgw hqe).mono ?_;rintro en wd ⟨rfl,lx,lD,hk4,hb4⟩;have fw:=qR.added hW3.ll hk4 hb4))
       all_goals (try go_wp2_with fail)
       all_goals go_roundg (gk-1)
       all_goals first |(have:=HG2.out;omega) | exact⟨b+1,lx,_,by have:=HG2.out;omega,by omega,congrArg (Value.int .i64) (by omega),zP,lD,fw⟩
    ·obtain rfl:b=F.length:=by omega
     have zP:Hid (M2=Qx [] (bnd (L0.take (a+1)) (Z.X i))):=(by
      show _ = _;rw[wh.out,List.take_length,HM.out,HB.out,<- Qv,pW.out])
     go_wp2;go_roundg (gq-1)
     case measure=>have:=HG.out;omega
     case rel=>exact⟨a+1,lw,M2,by have:=HG.out;omega,by omega,congrArg (Value.int .i64) (by omega),zP,hW,xA.t,xA.tn⟩
  ·obtain rfl:a=L0.length:=by omega
   have c1:=hW.ll.c1;have hl:=hW.ll.ends;obtain⟨al,cl,hlv⟩:=hl.form;subst hlv;have HT:Hid (M=thn L0 (Z.X i)):=(by show _ = _;rw[HM.out,List.take_length,Ml];rfl);go_wp2;go_ret;refine⟨_,rfl,?_,?_,hW.mi.exc (fun k _ hk=>Or.inl hk),hW.kp⟩
   ·rw[<- HT.out];exact hl
   ·intro b hb
    have:=hW.wM b hb
    exact⟨fun hx=>by have:=hW.ex b hx;omega,this⟩
def ExF (Z:Mz) (Lb Sb Sk:Nat) (lv:Value):Nat->Prop:=fun k=>ku Lb Sb lv k\/k=Sk\/fo Z k
structure Fk (Z:Mz) (Lb Sb Sk:Nat) (w:World) (lv:Value) (w':World) (fq:Value):Prop where
 kp:Za (ExF Z Lb Sb Sk lv) w w'
 bk:jP w lv fq
namespace Fk
variable {Z:Mz}{Lb Sb Sk:Nat}{w w1 w2:World}{lv sS Ky:Value}
theorem refl(w:World)(lv:Value):Fk Z Lb Sb Sk w lv w lv:=⟨Za.refl _ _,fun _ h _=>h⟩
theorem trans(h:Fk Z Lb Sb Sk w lv w1 sS)(k:Fk Z Lb Sb Sk w1 sS w2 Ky):Fk Z Lb Sb Sk w lv w2 Ky:=by
 refine⟨h.kp.trans' k.kp ?_,fun b hb hlt=>h.bk b (k.bk b hb (Nat.lt_of_lt_of_le hlt h.kp.size)) hlt⟩;rintro b hb ((rfl | rfl | he) | rfl | he)
 ·exact Or.inl (Or.inl rfl)
 ·exact Or.inl (Or.inr (Or.inl rfl))
 ·exact Or.inl (Or.inr (Or.inr (h.bk b he hb)))
 ·exact Or.inr (Or.inl rfl)
 ·exact Or.inr (Or.inr he)
theorem same(h:Fk Z Lb Sb Sk w lv w1 sS)(k:Za ai w1 w2):Fk Z Lb Sb Sk w lv w2 sS:=h.trans ⟨k.mono (fun _ _ h=>h.elim),fun _ h _=>h⟩
theorem added(h:Fk Z Lb Sb Sk w lv w1 sS)(k:Za (ku Lb Sb sS) w1 w2)(hb:jP w1 sS Ky):Fk Z Lb Sb Sk w lv w2 Ky:=h.trans ⟨k.mono (fun _ _ h=>Or.inl h),hb⟩
theorem tabs(h:Fk Z Lb Sb Sk w lv w1 sS)(k:Za (fo Z) w1 w2):Fk Z Lb Sb Sk w lv w2 sS:=h.trans ⟨k.mono (fun _ _ h=>Or.inr (Or.inr h)),fun _ h _=>h⟩
theorem seen(h:Fk Z Lb Sb Sk w lv w1 sS)(k:Za (·=Sk) w1 w2):Fk Z Lb Sb Sk w lv w2 sS:=h.trans ⟨k.mono (fun _ _ h=>Or.inr (Or.inl h)),fun _ h _=>h⟩
end Fk
def Cw (sn:Nat->Nat->Bool) (k:Nat):Bool:=sn (k / 52) (k % 52)
def rP (sn:Nat->Nat->Bool) (p l:Nat):Nat->Nat->Bool:=fun q lf=>sn q lf ||(q == p && lf == l)
theorem Ztq(sn:Nat->Nat->Bool)(p l:Nat)(hl:l<52):Cw sn (p*52+l)=sn p l:=by
 unfold Cw;rw[show (p*52+l) / 52=p by omega,show (p*52+l) % 52=l by omega]
theorem ZoF(sn:Nat->Nat->Bool)(p l:Nat)(hl:l<52):lT (Cw sn) (p*52+l)=Cw (rP sn p l):=by
 funext k
 unfold lT Cw rP
 congr 1
 rw[Bool.eq_iff_iff];simp;omega
structure Fs (w0:World) (Z:Mz) (S Ex:Nat->Prop) (Lb Sb Sk:Nat) (lv:Value) (M:En) (sn:Nat->Nat->Bool) (w:World):Prop where
 wk:Wk w0 Z S Ex Lb Sb lv M w
 fl:Bk w Sk 4 (iV ((Z.u.size+1)*52) (Cw sn))
 sk:w0.heap.size<=Sk
 ne:Sk≠Sb
namespace Fs
variable {w0 w w':World}{Z:Mz}{S Ex:Nat->Prop}{Lb Sb Sk:Nat}{lv fq:Value}{M:En}{sn:Nat->Nat->Bool}
theorem same(h:Fs w0 Z S Ex Lb Sb Sk lv M sn w)(k:Za ai w w'):Fs w0 Z S Ex Lb Sb Sk lv M sn w':=⟨h.wk.same k,h.fl.keeps k id,h.sk,h.ne⟩
theorem nL(h:Fs w0 Z S Ex Lb Sb Sk lv M sn w):¬ku Lb Sb lv Sk:=by
 rintro(e | e | e)
 ·have h1:=h.fl;have h2:=h.wk.ll.box;unfold Bk at h1;rw[<- e,h1] at h2;simp at h2
 ·exact h.ne e
 ·obtain⟨gv,h1,_⟩:=h.wk.ll.ends;obtain⟨cur,hc⟩:=Zx h1 e;have h2:=h.fl;unfold Bk at h2;rw[h2] at hc;simp at hc
theorem nM(h:Fs w0 Z S Ex Lb Sb Sk lv M sn w):¬fo Z Sk:=by
 have h1:=h.sk;have h2:=h.wk.old;rintro(e | e) <;> omega
theorem added(h:Fs w0 Z S Ex Lb Sb Sk lv M sn w){x:Nat×Ef}(hw:Wk w0 Z S Ex Lb Sb fq (Qx M [x]) w')(k:Za (ku Lb Sb lv) w w'):Fs w0 Z S Ex Lb Sb Sk fq (Qx M [x]) sn w':=⟨hw,h.fl.keeps k h.nL,h.sk,h.ne⟩
theorem tabs(h:Fs w0 Z S Ex Lb Sb Sk lv M sn w)(hw:Wk w0 Z S Ex Lb Sb lv M w')(k:Za (fo Z) w w'):Fs w0 Z S Ex Lb Sb Sk lv M sn w':=⟨hw,h.fl.keeps k h.nM,h.sk,h.ne⟩
theorem mark(h:Fs w0 Z S Ex Lb Sb Sk lv M sn w){l:Nat}(hp:p<=Z.u.size)(hl:l<52):Fs w0 Z S Ex Lb Sb Sk lv M (rP sn p l) (w.setCell ⟨Sk,p*52+l,none⟩ (.bool true)):=by
 have kq:=ZO w Sk (p*52+l) (.bool true);have hT:lY w (·=Sk) [4]:=by rintro b rfl;exact⟨_,_,h.fl,by simp⟩
 have h3:=h.fl.set (p*52+l) (.bool true);rw[SX _ _ _ (by omega),ZoF _ _ _ hl] at h3;have n1:¬Z.Bd=Sk:=fun e=>h.nM (Or.inl e.symm);have n2:¬Z.Bl=Sk:=fun e=>h.nM (Or.inr e.symm);have n3:¬Lb=Sk:=fun e=>h.nL (Or.inl e.symm);refine⟨⟨h.wk.mi.keeps kq (hT.mono (by decide)) n1 n2 ?_,h.wk.ll.keeps kq n3 (fun e=>h.ne e.symm) (hT.iR (by decide)) ?_,h.wk.kp.trans' kq (fun b hb he=>by have:=h.sk;omega),h.wk.lb,h.wk.sb,h.wk.old,h.wk.ex,h.wk.wM,h.wk.nd,h.wk.E5⟩,h3,h.sk,h.ne⟩
 ·rintro b rfl ⟨cur,hc⟩
  have:=h.fl;unfold Bk at this
  rw[this] at hc;simp at hc
 ·obtain⟨gv,h1,_⟩:=h.wk.ll.ends;exact hT.own h1 (by decide)
theorem vJ(h:Fs w0 Z S Ex Lb Sb Sk lv M sn w):lY w (ExF Z Lb Sb Sk lv) Kr:=by
 rintro k (hk | rfl | hk)
 ·exact h.wk.vJ.mono (by decide) k hk
 ·exact⟨_,_,h.fl,by decide⟩
 ·exact h.wk.mi.mZ.mono (by decide) k hk
theorem sP(h:Fs w0 Z S Ex Lb Sb Sk lv M sn w)(k:Fk Z Lb Sb Sk w lv w' fq)(he:Qw w Z.G v L)(hn:∀b,v.ownBlock=some b->lv.ownBlock≠some b):Qw w' Z.G v L/\∀b,v.ownBlock=some b->fq.ownBlock≠some b:=by
 obtain⟨gv,h1,_⟩:=id he;refine⟨he.keeps k.kp (h.vJ.iR (by decide)) ?_,fun b hb hb'=>hn b hb (k.bk b hb' (h1.lt b hb).2)⟩;intro b hb hx;obtain⟨cur,hc⟩:=Zx h1 hb
 rcases hx with(rfl | rfl | hx) | rfl | hx
 ·rw[h.wk.ll.box] at hc;simp at hc
 ·have:=h.wk.ll.seen;unfold Bk at this;rw[this] at hc;simp at hc
 ·exact hn b hb hx
 ·have:=h.fl;unfold Bk at this;rw[this] at hc;simp at hc
 ·exact h.wk.mi.mZ.not hc (by decide) hx
theorem sO(h:Fs w0 Z S Ex Lb Sb Sk lv M sn w)(k:Fk Z Lb Sb Sk w lv w' fq)(hg:gJ w Z.G v e):gJ w' Z.G v e:=hg.iG k.kp (h.vJ.iR (by decide))
theorem mh(h:Fs w0 Z S Ex Lb Sb Sk lv M sn w)(k:Fk Z Lb Sb Sk w lv w' fq)(hb:Bk w P 161 xs)(hn:lv.ownBlock≠some P):Bk w' P 161 xs/\fq.ownBlock≠some P:=by
 refine⟨hb.keeps k.kp ?_,fun h2=>hn (k.bk P h2 hb.lt)⟩;rintro((rfl | rfl | hx) | rfl | hx)
 ·have:=hb;unfold Bk at this;rw[h.wk.ll.box] at this;simp at this
 ·have:=hb;unfold Bk at this;have h2:=h.wk.ll.seen;unfold Bk at h2;rw[h2] at this;simp at this
 ·exact hn hx
 ·have:=hb;unfold Bk at this;have h2:=h.fl;unfold Bk at h2;rw[h2] at this;simp at this
 ·exact h.wk.mi.mZ.not hb (by decide) hx
theorem yH(h:Fs w0 Z S Ex Lb Sb Sk lv M sn w)(k:Fk Z Lb Sb Sk w lv w' fq)(hb:w.heap[P]?=some (.cells cs t (0,0)))(ht:t ∉ Kr):w'.heap[P]?=some (.cells cs t (0,0)):=by
 rw[k.kp.block P (lt_of_block hb) (h.vJ.not hb ht)];exact hb
theorem qa(h:Fs w0 Z S Ex Lb Sb Sk lv M sn w)(k:Fk Z Lb Sb Sk w lv w' fq){e:TypeId}{size n:Nat}(ho:w.ownsRow base e size v n xs)(ht:e ∉ Kr):w'.ownsRow base e size v n xs:=Zb ho k.kp (h.vJ.own ho ht)
end Fs
end Go.Proofs.YtfkflljplohhcaaGreatDoor
