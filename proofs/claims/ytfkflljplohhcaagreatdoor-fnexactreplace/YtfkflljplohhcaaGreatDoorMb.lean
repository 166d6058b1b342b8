import Derived.Test.YtfkflljplohhcaaGreatDoorMa
import Derived.Test.YtfkflljplohhcaaGreatDoorK
set_option maxHeartbeats 4000000
set_option maxRecDepth 100000
namespace Go.Proofs.YtfkflljplohhcaaGreatDoor
open Go.RowKit
set_option linter.unusedVariables false
structure Mz where
 R:Nat
 Bd:Nat
 Bl:Nat
 at_:Int
 G:Nat
 pv:Value
 u:ByteArray
 ps:List Pc
 L:List Pm
def Mz.n (Z:Mz):Nat:=Z.ps.length * (Z.u.size + 1)
def Mz.k (Z:Mz) (i p:Nat):Nat:=i * (Z.u.size + 1) + p
def Mz.X (Z:Mz) (i:Nat):Xs:=xOf Z.u Z.ps i
structure Ms (Z:Mz):Prop where
 u200:Z.u.size<=200
 g9:Z.G<=9
 few:Z.ps.length<=1000
 vps:VPs Z.G 0 Z.ps
 lps:Z.L.map (·.1)=Z.ps
 sets :∀c∈Z.ps,c.set.length<=1000/\c.kids.length<=1000
theorem Mz.k_lt (Z:Mz) {i p:Nat} (hi:i < Z.ps.length) (hp:p<=Z.u.size):Z.k i p < Z.n:=by
 unfold Mz.k Mz.n
 have:(i + 1) * (Z.u.size + 1)<=Z.ps.length * (Z.u.size + 1):=Nat.mul_le_mul_right _ hi
 rw [Nat.succ_mul] at this;omega
theorem Mz.k_inj (Z:Mz) {i p j q:Nat} (hp:p<=Z.u.size) (hq:q<=Z.u.size) (h:Z.k i p=Z.k j q):i=j/\p=q:=by
 unfold Mz.k at h;have h1:(i * (Z.u.size + 1) + p) / (Z.u.size + 1)=i:=by
  rw [Nat.mul_comm,Nat.mul_add_div (by omega),Nat.div_eq_of_lt (by omega)]; omega
 have h2:(j * (Z.u.size + 1) + q) / (Z.u.size + 1)=j:=by
  rw [Nat.mul_comm,Nat.mul_add_div (by omega),Nat.div_eq_of_lt (by omega)]; omega
 rw [h,h2] at h1;subst h1;exact ⟨rfl,by omega⟩
def OfT (w:World) (E:Nat->Prop) (T:List TypeId):Prop :=∀k,E k->∃cur t,w.heap[k]? = some (.cells cur t (0,0))/\t∈T
theorem OfT.noSp {w:World} {E:Nat->Prop} {T:List TypeId} (h:OfT w E T) (hT:118 ∉ T):ZsG w E:=by
 intro k hk cur hc;obtain ⟨c,t,h1,h2⟩:=h k hk;rw [h1] at hc;simp at hc;exact hT (hc.2 ▸ h2)
theorem OfT.own {w:World} {E:Nat->Prop} {T:List TypeId} (h:OfT w E T) {base:Nat} {e:TypeId} {size n:Nat} {v:Value} {xs:List Value} (ho:w.ownsRow base e size v n xs) (hT:e ∉ T) :∀k,v.ownBlock=some k->¬ E k:=by
 intro k hk he;obtain ⟨c,t,h1,h2⟩:=h k he;obtain ⟨cur,h3⟩:=Zu ho hk;rw [h1] at h3;simp at h3;exact hT (h3.2 ▸ h2)
theorem OfT.not {w:World} {E:Nat->Prop} {T:List TypeId} (h:OfT w E T) {R:Nat} {cs:Array Value} {t:TypeId} (hR:w.heap[R]? = some (.cells cs t (0,0))) (hT:t ∉ T):¬ E R:=by
 intro he;obtain ⟨c,t',h1,h2⟩:=h R he;rw [h1] at hR;simp at hR;exact hT (hR.2 ▸ h2)
theorem OfT.mono {w:World} {E:Nat->Prop} {T T':List TypeId} (h:OfT w E T) (hT :∀t∈T,t∈T'):OfT w E T':=fun k hk=>by
 obtain ⟨c,t,h1,h2⟩:=h k hk;exact ⟨c,t,h1,hT t h2⟩
def wrT:List TypeId := [236,4,158,161]
def ZtB (w:World) (Z:Mz) (S Ex:Nat->Prop):Prop :=∃(dn:Nat->Bool) (lv:Nat->Value),Bk w Z.Bd 4 (flv Z.n dn)/\Bk w Z.Bl 158 ((List.range Z.n).map lv)/\
 ∀i p,i < Z.ps.length->p<=Z.u.size->dn (Z.k i p)=true->S (Z.k i p)\/(Qs w Z.G (lv (Z.k i p)) (Z.X i p)/\∀b,(lv (Z.k i p)).ownBlock=some b->¬ Ex b)
structure MI (w:World) (Z:Mz) (S Ex:Nat->Prop):Prop where
 mc:Mc w Z.R Z.at_ Z.G Z.pv Z.u (.slice (some ⟨Z.Bd,0,none⟩) Z.n Z.n) (.slice (some ⟨Z.Bl,0,none⟩) Z.n Z.n)
 pcs:Pcs w Z.pv Z.L
 tab:ZtB w Z S Ex
def ExM (Z:Mz):Nat->Prop:=fun k=>k=Z.Bd\/k=Z.Bl
theorem MI.exM {w:World} {Z:Mz} {S Ex:Nat->Prop} (h:MI w Z S Ex):OfT w (ExM Z) [4,158]:=by
 obtain ⟨dn,lv,h1,h2,_⟩:=h.tab;rintro k (rfl | rfl)
 ·exact ⟨_,_,h1,by simp⟩
 ·exact ⟨_,_,h2,by simp⟩
theorem MI.keeps {w w':World} {Z:Mz} {S Ex E:Nat->Prop} (h:MI w Z S Ex) (k:Za E w w') (hT:OfT w E wrT) (h1:¬ E Z.Bd) (h2:¬ E Z.Bl) (hx :∀b,E b->(∃cur,w.heap[b]? = some (.cells cur 161 (0,0)))->Ex b):MI w' Z S Ex:=by
 refine ⟨h.mc.keeps k (hT.not h.mc (by decide)),⟨Zb h.pcs.row k (hT.own h.pcs.row (by decide)),fun x hx=>⟨Zb (h.pcs.rows x hx).1 k (hT.own (h.pcs.rows x hx).1 (by decide)),Zb (h.pcs.rows x hx).2 k (hT.own (h.pcs.rows x hx).2 (by decide))⟩⟩,?_⟩;obtain ⟨dn,lv,t1,t2,t3⟩:=h.tab;refine ⟨dn,lv,t1.keeps k h1,t2.keeps k h2,fun i p hi hp hd=>?_⟩
 rcases t3 i p hi hp hd with h3 | ⟨h3,h4⟩
 ·exact Or.inl h3
 ·refine Or.inr ⟨h3.keeps k (hT.noSp (by decide)) (fun b hb he=>h4 b hb (hx b he ?_)),h4⟩;obtain ⟨gv,h5,_⟩:=h3;exact Zu h5 hb
theorem MI.same {w w':World} {Z:Mz} {S Ex:Nat->Prop} (h:MI w Z S Ex) (k:Za N0_ w w'):MI w' Z S Ex :=
 h.keeps k (fun _ h=>h.elim) id id (fun _ h=>h.elim)
theorem MI.exc {w:World} {Z:Mz} {S Ex Ex':Nat->Prop} (h:MI w Z S Ex) (hx :∀k,k < w.heap.size->Ex' k->Ex k):MI w Z S Ex':=by
 obtain ⟨dn,lv,t1,t2,t3⟩:=h.tab;refine ⟨h.mc,h.pcs,dn,lv,t1,t2,fun i p hi hp hd=>?_⟩
 rcases t3 i p hi hp hd with h3 | ⟨h3,h4⟩
 ·exact Or.inl h3
 ·refine Or.inr ⟨h3,fun b hb hb'=>h4 b hb (hx b ?_ hb')⟩;obtain ⟨gv,h5,_⟩:=h3;exact (h5.lt b hb).2
def Zbe (Z:Mz) (S Ex:Nat->Prop) (i p:Nat) (w:World) (e:Ending) (w':World):Prop :=
 ∃v,e = .returned v/\Qs w' Z.G v (Z.X i p)/\(∀b,v.ownBlock=some b->¬ Ex b)/\MI w' Z S Ex/\Za (ExM Z) w w'
def ZcB (Z:Mz) (S:Nat->Prop) (i:Nat):Prop :=∀j q,j < i->q<=Z.u.size->¬ S (Z.k j q)
def Zdy (Z:Mz) (i:Nat):Prop :=∀(w:World) (S Ex:Nat->Prop) (p:Nat),MI w Z S Ex->ZcB Z S (i + 1)->(∀k,Ex k->k < w.heap.size)->p<=Z.u.size->
 Calls Tryz.prog 74 #[.pointer (some ⟨Z.R,0,none⟩),.int .i64 (i:Int),.int .i64 (p:Int)] w (Zbe Z S Ex i p w)
def Zgp (Z:Mz) (i:Nat):Prop :=∀(w:World) (S Ex:Nat->Prop) (p:Nat),MI w Z S Ex->ZcB Z S i->(∀k,Ex k->k < w.heap.size)->p<=Z.u.size->
 Calls Tryz.prog 94 #[.pointer (some ⟨Z.R,0,none⟩),.int .i64 (i:Int),.int .i64 (p:Int)] w (Zbe Z S Ex i p w)
theorem Zty {E:Nat->Prop} {w w2:World} (h:Za E w.drew w2):Za E w w2:=⟨h.os,h.tape,h.output,h.size,h.block⟩
theorem Zaf (n:Nat) (lv:Nat->Value) (i:Nat) (hi:i < n):((List.range n).map lv)[i]? = some (lv i):=by simp [hi]
def upv (lv:Nat->Value) (k:Nat) (v:Value):Nat->Value:=fun i=>if i=k then v else lv i
theorem ZdJ (n:Nat) (lv:Nat->Value) (k:Nat) (v:Value) (hk:k < n):((List.range n).map lv).set k v=(List.range n).map (upv lv k v):=by
 apply List.ext_getElem?;intro i
 by_cases hi:i < n
 ·rw [Zaf n _ i hi,List.getElem?_set]
  by_cases h:k=i
  ·subst h; simp [upv,hk]
  ·rw [if_neg h,Zaf n _ i hi];simp [upv,show ¬ i=k from fun e=>h e.symm]
 ·rw [List.getElem?_eq_none (by simp; omega),List.getElem?_eq_none (by simp; omega)]
theorem MI.mark {w:World} {Z:Mz} {S Ex:Nat->Prop} (h:MI w Z S Ex) {k:Nat} (hk:k < Z.n):MI (w.setCell ⟨Z.Bd,k,none⟩ (.bool true)) Z (fun x=>S x\/x=k) Ex:=by
 have kp:=ZL w Z.Bd k (.bool true);obtain ⟨dn,lv,t1,t2,t3⟩:=h.tab;have hT:OfT w (fun x=>x=Z.Bd) [4]:=by rintro b rfl; exact ⟨_,_,t1,by simp⟩
 have hne:Z.Bl≠Z.Bd:=by
  intro e;unfold Bk at t1 t2;rw [e,t1] at t2;simp at t2
 refine ⟨h.mc.keeps kp (hT.not h.mc (by decide)),⟨Zb h.pcs.row kp (hT.own h.pcs.row (by decide)),fun x hx=>⟨Zb (h.pcs.rows x hx).1 kp (hT.own (h.pcs.rows x hx).1 (by decide)),Zb (h.pcs.rows x hx).2 kp (hT.own (h.pcs.rows x hx).2 (by decide))⟩⟩,?_⟩;refine ⟨sad dn k,lv,?_,t2.keeps kp hne,fun i p hi hp hd=>?_⟩
 ·have:=t1.set k (.bool true)
  rw [Zhc _ _ _ hk] at this;exact this
 ·simp only [sad,Bool.or_eq_true,beq_iff_eq] at hd
  rcases hd with hd | hd
  ·rcases t3 i p hi hp hd with h3 | ⟨h3,h4⟩
   ·exact Or.inl (Or.inl h3)
   ·refine Or.inr ⟨h3.keeps kp (hT.noSp (by decide)) ?_,h4⟩;obtain ⟨gv,h5,_⟩:=h3;exact hT.own h5 (by decide)
  ·exact Or.inl (Or.inr hd)
theorem MI.put {w:World} {Z:Mz} {S Ex:Nat->Prop} {i p:Nat} {v:Value} (hi:i < Z.ps.length) (hp:p<=Z.u.size) (h:MI w Z (fun x=>S x\/x=Z.k i p) Ex) (hv:Qs w Z.G v (Z.X i p)) (hx :∀b,v.ownBlock=some b->¬ Ex b):MI (w.setCell ⟨Z.Bl,Z.k i p,none⟩ v) Z S Ex:=by
 have kp:=ZL w Z.Bl (Z.k i p) v;obtain ⟨dn,lv,t1,t2,t3⟩:=h.tab;have hT:OfT w (fun x=>x=Z.Bl) [158]:=by rintro b rfl; exact ⟨_,_,t2,by simp⟩
 have hne:Z.Bd≠Z.Bl:=by
  intro e;unfold Bk at t1 t2;rw [<- e,t1] at t2;simp at t2
 have hK :∀(v':Value) (L:En),Qs w Z.G v' L->Qs (w.setCell ⟨Z.Bl,Z.k i p,none⟩ v) Z.G v' L:=fun v' L h3=>by
  refine h3.keeps kp (hT.noSp (by decide)) ?_;obtain ⟨gv,h5,_⟩:=h3;exact hT.own h5 (by decide)
 refine ⟨h.mc.keeps kp (hT.not h.mc (by decide)),⟨Zb h.pcs.row kp (hT.own h.pcs.row (by decide)),fun x hx=>⟨Zb (h.pcs.rows x hx).1 kp (hT.own (h.pcs.rows x hx).1 (by decide)),Zb (h.pcs.rows x hx).2 kp (hT.own (h.pcs.rows x hx).2 (by decide))⟩⟩,?_⟩;refine ⟨dn,upv lv (Z.k i p) v,t1.keeps kp hne,?_,fun j q hj hq hd=>?_⟩
 ·have:=t2.set (Z.k i p) v
  rw [ZdJ _ _ _ _ (Z.k_lt hi hp)] at this;exact this
 ·by_cases he:Z.k j q=Z.k i p
  ·obtain ⟨rfl,rfl⟩:=Z.k_inj hq hp he;refine Or.inr ⟨?_,?_⟩
   ·simp only [upv,if_true]; exact hK _ _ hv
   ·simp only [upv,if_true]; exact hx
  ·rcases t3 j q hj hq hd with (h3 | h3) | ⟨h3,h4⟩
   ·exact Or.inl h3
   ·exact absurd h3 he
   ·refine Or.inr ⟨?_,?_⟩
    ·simp only [upv,if_neg he]; exact hK _ _ h3
    ·simp only [upv,if_neg he]; exact h4
theorem Zqw {w w1 w3:World} {Z:Mz} {S Ex:Nat->Prop} {i p K:Nat} {v:Value} (hK:Z.k i p=K + p) (hi:i < Z.ps.length) (hp:p<=Z.u.size) (kp:Za (fun k=>k=Z.Bd) w w1) (hk3:Za (ExM Z) w1 w3) (hM:MI w3 Z (fun x=>S x\/x=K + p) Ex) (hv:Qs w3 Z.G v (Z.X i p)) (hx :∀b,v.ownBlock=some b->¬ Ex b) :
  MI (w3.setCell ⟨Z.Bl,K + p,none⟩ v) Z S Ex/\(∃v',Qs (w3.setCell ⟨Z.Bl,K + p,none⟩ v) Z.G v' (Z.X i p)/\(∀b,v'.ownBlock=some b->¬ Ex b)/\(w3.setCell ⟨Z.Bl,K + p,none⟩ v).cell? ⟨Z.Bl,K + p,none⟩=some v')/\Za (ExM Z) w (w3.setCell ⟨Z.Bl,K + p,none⟩ v):=by
 rw [<- hK] at hM ⊢;have kq:=ZL w3 Z.Bl (Z.k i p) v;obtain ⟨dn,lv,t1,t2,t3⟩:=id hM.tab;have hT:OfT w3 (fun x=>x=Z.Bl) [158]:=by rintro b rfl; exact ⟨_,_,t2,by simp⟩
 refine ⟨MI.put hi hp hM hv hx,⟨v,?_,hx,?_⟩,?_⟩
 ·refine hv.keeps kq (hT.noSp (by decide)) ?_;obtain ⟨gv,h5,_⟩:=hv;exact hT.own h5 (by decide)
 ·have:=(t2.set (Z.k i p) v).cell (Z.k i p)
  rw [ZdJ _ _ _ _ (Z.k_lt hi hp),Zaf _ _ _ (Z.k_lt hi hp)] at this;rw [this];simp [upv]
 ·exact ((kp.mono (E':=ExM Z) (fun _ _ h=>Or.inl h)).trans hk3).trans (kq.mono (E':=ExM Z) (fun _ _ h=>Or.inr h))
theorem Zf7 {Z:Mz} (hZ:Ms Z) {i:Nat} (hi:i < Z.ps.length) (hw:Zgp Z i):Zdy Z i:=by
 intro w S Ex p hM hF hX hp;have hu:=hZ.u200;have hfew:=hZ.few;have hkn:=Z.k_lt hi hp;have c4:=hM.mc.c4; have c5:=hM.mc.c5; have c6:=hM.mc.c6;obtain ⟨dn,lv,t1,t2,t3⟩:=hM.tab;have hK0:Z.k i p=i * (Z.u.size + 1) + p:=rfl;obtain ⟨K,hK⟩ :∃K,i * (Z.u.size + 1)=K:=⟨_,rfl⟩;have hKp:Z.k i p=K + p:=by rw [hK0,hK]
 have hm:(i:Int) * ((Z.u.size:Int) + 1)=(K:Int):=by rw [<- hK]; push_cast; rfl
 have hKb:K<=1000 * 201:=by rw [<- hK]; exact Nat.mul_le_mul (by omega) (by omega)
 have hnb:Z.n<=1000 * 201:=by unfold Mz.n; exact Nat.mul_le_mul hfew (by omega)
 have hcd:=t1.cell (K + p);rw [<- hKp,Zby _ _ _ hkn] at hcd;rw [hKp] at hkn hcd;have hz:(K:Int) + (p:Int) < (Z.n:Int):=by omega
 have hpz:p<=200:=by omega
 have HK:Hid (Z.k i p=K + p):=hKp;have HF:Hid (ZcB Z S (i + 1)):=hF;clear hK hK0 hKp hF
 cases hd:dn (K + p) with
 | true =>
   rw [hd] at hcd
   rcases t3 i p hi hp (by rw [HK.out]; exact hd) with h3 | ⟨h3,h4⟩
   ·exact absurd h3 (HF.out i p (by omega) hp)
   ·have hcl:=t2.cell (K + p);rw [Zaf _ _ _ hkn] at hcl;rw [HK.out] at h3 h4;obtain ⟨al,cl,hlv⟩:=h3.form;rw [hlv] at hcl h3 h4;have hfin:Zbe Z S Ex i p w (.returned (.slice al (Z.X i p).length cl)) w:=⟨_,rfl,h3,h4,hM,Za.refl _ _⟩;clear hM t1 t2 t3 h3 h4 hd hlv hX hw;go_enter Tryz.func74,Tryz.ntmps74;go_wp2;go_ret;exact hfin
 | false =>
   rw [hd] at hcd;have hfz:=t1.fz (K + p);have hM1:=hM.mark hkn;have kp:=ZL w Z.Bd (K + p) (.bool true);have hF1:ZcB Z (fun x=>S x\/x=K + p) i:=by
    rintro j q hj hq (h | h)
    ·exact HF.out j q (by omega) hq h
    ·rw [<- HK.out] at h
     have:=(Z.k_inj hq hp h).1
     omega
   have hX1 :∀k,Ex k->k < (w.setCell ⟨Z.Bd,K + p,none⟩ (.bool true)).heap.size:=fun k hk=>Nat.lt_of_lt_of_le (hX k hk) kp.size;obtain ⟨w1,hw1⟩ :∃w1,w.setCell ⟨Z.Bd,K + p,none⟩ (.bool true)=w1:=⟨_,rfl⟩;have HW:Hid (w.setCell ⟨Z.Bd,K + p,none⟩ (.bool true)=w1):=hw1;rw [hw1] at hM1 kp hX1;have hM1d:=hM1.same (Za.refl _ w1).drew;have hcall:=hw w1.drew _ Ex p hM1d hF1 hX1 hp;unfold Zbe at hcall;have d6:=hM1.mc.c6;clear hM t1 t2 t3 hd hX hX1 hw hw1 HF hF1 hM1 hM1d;go_enter Tryz.func74,Tryz.ntmps74;go_upto_region 4 with fail;rw [HW.out];go_cut [] (fun wc=>MI wc Z S Ex/\(∃v,Qs wc Z.G v (Z.X i p)/\(∀b,v.ownBlock=some b->¬ Ex b)/\wc.cell? ⟨Z.Bl,K + p,none⟩=some v)/\Za (ExM Z) w wc)
   case first =>
    go_region_with (first
     | (go_at_call 94; refine hcall.mono ?_; rintro e w3 ⟨v,rfl,hv,hvx,hM3,hk3⟩; obtain ⟨al,cl,rfl⟩:=hv.form; have e6:=hM3.mc.c6; obtain ⟨dn3,lv3,s1,s2,s3⟩:=hM3.tab; have q1:=s2.cell (K + p); rw [Zaf _ _ _ hkn] at q1; have q2:=s2.fz (K + p); clear s3))
    all_goals (try go_wp2_with fail)
    all_goals go_meet
    all_goals exact Zqw HK.out hi hp kp (Zty hk3) hM3 hv hvx
   case rest =>
    obtain ⟨hM4,⟨v,hv,hvx,hcv⟩,hk4⟩:=hcut;obtain ⟨al,cl,rfl⟩:=hv.form;have f6:=hM4.mc.c6;go_wp2;go_ret;exact ⟨_,rfl,hv,hvx,hM4,hk4⟩
structure Wk (w0:World) (Z:Mz) (S Ex:Nat->Prop) (Lb Sb:Nat) (lv:Value) (M:En) (w:World):Prop where
 mi:MI w Z S (fun k=>Ex k\/lv.ownBlock=some k)
 ll:Ll w Lb Sb Z.u.size Z.G lv M
 kp:Za (ExM Z) w0 w
 lb:w0.heap.size<=Lb
 sb:w0.heap.size<=Sb
 old:Z.Bd < w0.heap.size/\Z.Bl < w0.heap.size
 ex :∀k,Ex k->k < w0.heap.size
 lv0 :∀b,lv.ownBlock=some b->w0.heap.size<=b
 nd:(M.map (·.1)).Nodup
 inN :∀e∈M,e.1<=Z.u.size
theorem ZqF (n:Nat) :∀l:List Nat,l.Nodup->(∀x∈l,x < n)->l.length<=n:=by
 induction n with
 | zero =>
   intro l _ h
   cases l with
   | nil=>simp
   | cons a l=>exact absurd (h a (by simp)) (by omega)
 | succ n ih =>
   intro l h1 h2
   by_cases hm:n∈l
   ·have h3:=ih (l.erase n) (h1.erase n) (fun x hx=>by
     have:=(List.Nodup.mem_erase_iff h1).1 hx
     have:=h2 x this.2
     omega)
    have:=List.length_erase_of_mem hm
    omega
   ·have:=ih l h1 (fun x hx=>by
     have:=h2 x hx
     have:x≠n:=fun e=>hm (e ▸ hx)
     omega)
    omega
theorem Zcs {α:Type} {M:List (Nat×α)} {N:Nat} (h1:(M.map (·.1)).Nodup) (h2 :∀e∈M,e.1<=N):M.length<=N + 1:=by
 have h3:=ZqF (N + 1) (M.map (·.1)) h1 (fun x hx=>by
  obtain ⟨e,he,rfl⟩:=List.mem_map.1 hx
  have:=h2 e he
  omega)
 simpa using h3
namespace Wk
variable {w0 w w':World} {Z:Mz} {S Ex:Nat->Prop} {Lb Sb:Nat} {lv:Value} {M:En}
theorem len (h:Wk w0 Z S Ex Lb Sb lv M w):M.length<=Z.u.size + 1:=Zcs h.nd h.inN
theorem same (h:Wk w0 Z S Ex Lb Sb lv M w) (k:Za N0_ w w'):Wk w0 Z S Ex Lb Sb lv M w' :=
 ⟨h.mi.same k,h.ll.same k,h.kp.trans (k.mono (fun _ _ h=>h.elim)),h.lb,h.sb,h.old,h.ex,h.lv0,h.nd,h.inN⟩
theorem exT (h:Wk w0 Z S Ex Lb Sb lv M w):OfT w (ExL Lb Sb lv) [236,4,161]:=by
 rintro k (rfl | rfl | hk)
 ·exact ⟨_,_,h.ll.box,by simp⟩
 ·exact ⟨_,_,h.ll.seen,by simp⟩
 ·obtain ⟨gv,h1,_⟩:=h.ll.ends;obtain ⟨cur,hc⟩:=Zu h1 hk;exact ⟨_,_,hc,by simp⟩
theorem tabs (h:Wk w0 Z S Ex Lb Sb lv M w) (k:Za (ExM Z) w w') (hm:MI w' Z S (fun k=>Ex k\/lv.ownBlock=some k)):Wk w0 Z S Ex Lb Sb lv M w':=by
 have hb:=h.old;have hT:=h.mi.exM;have h1:¬ ExM Z Lb:=by rintro (e | e) <;> have:=h.lb <;> omega
 have h2:¬ ExM Z Sb:=by rintro (e | e) <;> have:=h.sb <;> omega
 refine ⟨hm,h.ll.keeps k h1 h2 (hT.noSp (by decide)) ?_,h.kp.trans k,h.lb,h.sb,h.old,h.ex,h.lv0,h.nd,h.inN⟩;obtain ⟨gv,h3,_⟩:=h.ll.ends;exact hT.own h3 (by decide)
theorem added (h:Wk w0 Z S Ex Lb Sb lv M w) {lv':Value} {p:Nat} {e:Ef} (hp:p<=Z.u.size) (k:Za (ExL Lb Sb lv) w w') (hl:Ll w' Lb Sb Z.u.size Z.G lv' (Qu M [(p,e)])) (hb:Blk w lv lv'):Wk w0 Z S Ex Lb Sb lv' (Qu M [(p,e)]) w':=by
 have hT:=h.exT;have ho:=h.old;have n1:¬ ExL Lb Sb lv Z.Bd:=by
  rintro (e | e | e)
  ·have:=h.lb; omega
  ·have:=h.sb; omega
  ·have:=h.lv0 _ e; omega
 have n2:¬ ExL Lb Sb lv Z.Bl:=by
  rintro (e | e | e)
  ·have:=h.lb; omega
  ·have:=h.sb; omega
  ·have:=h.lv0 _ e; omega
 have hx :∀b,ExL Lb Sb lv b->(∃cur,w.heap[b]? = some (.cells cur 161 (0,0)))->(Ex b\/lv.ownBlock=some b):=by
  rintro b (rfl | rfl | hb) ⟨cur,hc⟩
  ·rw [h.ll.box] at hc; simp at hc
  ·have:=h.ll.seen; unfold Bk at this; rw [this] at hc; simp at hc
  ·exact Or.inr hb
 have hm:=h.mi.keeps k (hT.mono (by decide)) n1 n2 hx;have hlv :∀b,lv'.ownBlock=some b->w0.heap.size<=b:=by
  intro b hb'
  by_cases hlt:b < w.heap.size
  ·exact h.lv0 b (hb b hb' hlt)
  ·have:=h.kp.size; omega
 refine ⟨?_,hl,?_,h.lb,h.sb,h.old,h.ex,hlv,Zka _ _ h.nd,?_⟩
 ·obtain ⟨dn,lw,t1,t2,t3⟩:=h.mi.tab;obtain ⟨dn',lw',u1,u2,u3⟩:=hm.tab;refine ⟨hm.mc,hm.pcs,?_⟩;refine ⟨dn,lw,t1.keeps k n1,t2.keeps k n2,fun i p hi hp hd=>?_⟩
  rcases t3 i p hi hp hd with h3 | ⟨h3,h4⟩
  ·exact Or.inl h3
  ·obtain ⟨gv,h5,h6⟩:=id h3;refine Or.inr ⟨h3.keeps k (hT.noSp (by decide)) (fun b hb' he=>h4 b hb' (hx b he (Zu h5 hb'))),?_⟩;rintro b hb' (h7 | h7)
   ·exact h4 b hb' (Or.inl h7)
   ·exact h4 b hb' (Or.inr (hb b h7 (h5.lt b hb').2))
 ·exact h.kp.trans' k (fun b hb' he=>by
   rcases he with rfl | rfl | he
   ·have:=h.lb; omega
   ·have:=h.sb; omega
   ·have:=h.lv0 _ he; omega)
 ·intro x hx;unfold Qu at hx
  rcases List.mem_append.1 hx with hx | hx
  ·exact h.inN x hx
  ·have:=(Zdr x hx).1
   simp at this;subst this;exact hp
end Wk
theorem Zaj {w w':World} {Lb Sb N G:Nat} {lv lv' v:Value} {M L:En} (hl:Ll w Lb Sb N G lv M) (h:Qs w G v L) (hn :∀b,v.ownBlock=some b->lv.ownBlock≠some b) (k:Za (ExL Lb Sb lv) w w') (hb:Blk w lv lv'):Qs w' G v L/\∀b,v.ownBlock=some b->lv'.ownBlock≠some b:=by
 obtain ⟨gv,h1,h2⟩:=id h;refine ⟨h.keeps k (Zlg hl) ?_,fun b hb1 hb2=>hn b hb1 (hb b hb2 (h1.lt b hb1).2)⟩;rintro b hb1 (rfl | rfl | he)
 ·obtain ⟨cur,hc⟩:=Zu h1 hb1;rw [hl.box] at hc; simp at hc
 ·obtain ⟨cur,hc⟩:=Zu h1 hb1
  have:=hl.seen; unfold Bk at this; rw [this] at hc; simp at hc
 ·exact hn b hb1 he
theorem ZhY {w w':World} {Lb Sb N G P:Nat} {lv lv':Value} {M:En} {xs:List Value} (hl:Ll w Lb Sb N G lv M) (h:Bk w P 161 xs) (hn:lv.ownBlock≠some P) (k:Za (ExL Lb Sb lv) w w') (hb:Blk w lv lv'):Bk w' P 161 xs/\lv'.ownBlock≠some P:=by
 refine ⟨h.keeps k ?_,fun h2=>hn (hb P h2 h.lt)⟩;rintro (rfl | rfl | he)
 ·have:=h; unfold Bk at this; rw [hl.box] at this; simp at this
 ·have:=h; unfold Bk at this; have h2:=hl.seen; unfold Bk at h2; rw [h2] at this; simp at this
 ·exact hn he
theorem Zcp {w0 w:World} {Z:Mz} {S Ex:Nat->Prop} {Lb Sb:Nat} {lv gv:Value} {M:En} {p:Nat} {e:Ef} (hZ:Ms Z) (h:Wk w0 Z S Ex Lb Sb lv M w) (hg:GrR w Z.G gv e) (hp:p<=Z.u.size) :
  Calls Tryz.prog 127 #[.pointer (some ⟨Lb,0,none⟩),.int .i64 (p:Int),gv] w fun en w'=>en = .returned (.tuple #[])/\∃lv',Wk w0 Z S Ex Lb Sb lv' (Qu M [(p,e)]) w'/\Za (ExL Lb Sb lv) w w'/\Blk w lv lv':=by
 have hu:=hZ.u200;have hl:=h.len;refine (Zpw h.ll hg hp hu (by omega)).mono ?_;rintro en w' ⟨rfl,lv',h1,h2,h3⟩;exact ⟨rfl,lv',h.added hp h2 h1 h3,h2,h3⟩
theorem Zep {w0 w:World} {Z:Mz} {S Ex:Nat->Prop} {Lb Sb:Nat} {lv:Value} {M:En} {i p:Nat} (hE:Zdy Z i) (h:Wk w0 Z S Ex Lb Sb lv M w) (hF:ZcB Z S (i + 1)) (hp:p<=Z.u.size) :
  Calls Tryz.prog 74 #[.pointer (some ⟨Z.R,0,none⟩),.int .i64 (i:Int),.int .i64 (p:Int)] w fun en w' =>∃v,en = .returned v/\Qs w' Z.G v (Z.X i p)/\(∀b,v.ownBlock=some b->lv.ownBlock≠some b)/\Wk w0 Z S Ex Lb Sb lv M w'/\Za (ExM Z) w w':=by
 refine (hE w S _ p h.mi hF ?_ hp).mono ?_
 ·rintro k (hk | hk)
  ·exact Nat.lt_of_lt_of_le (h.ex k hk) h.kp.size
  ·obtain ⟨gv,h1,_⟩:=h.ll.ends;exact (h1.lt k hk).2
 ·rintro en w' ⟨v,rfl,h1,h2,h3,h4⟩;exact ⟨v,rfl,h1,fun b hb hb'=>h2 b hb (Or.inr hb'),h.tabs h4 h3,h4⟩
theorem J4 {w:World} {Z:Mz} {S Ex:Nat->Prop} (hZ:Ms Z) (h:MI w Z S Ex) (hX :∀k,Ex k->k < w.heap.size) :
  Calls Tryz.prog 125 #[.pointer (some ⟨Z.R,0,none⟩)] w fun e w' =>∃Lb Sb,e = .returned (.pointer (some ⟨Lb,0,none⟩))/\Wk w Z S Ex Lb Sb (.slice none 0 0) [] w'/\Za N0_ w w':=by
 obtain ⟨dn,lv,t1,t2,_⟩:=id h.tab;refine (Zmb h.mc hZ.u200).mono ?_;rintro e w' ⟨Lb,Sb,rfl,h1,h2,h3,k⟩;exact ⟨Lb,Sb,rfl,⟨(h.same k).exc (fun b _ hb=>by rcases hb with hb | hb; exact hb; simp [Value.ownBlock] at hb),h1,k.mono (fun _ _ h=>h.elim),h2,h3,⟨t1.lt,t2.lt⟩,hX,fun b hb=>by simp [Value.ownBlock] at hb,by simp,by simp⟩,k⟩
theorem QY {α:Type} (L:List α) (k:Nat) (h:k < L.length):L.take (k + 1)=L.take k ++ [L[k]]:=List.take_succ_eq_append_getElem h
theorem ZiC (L:En) (X:Xs) (k:Nat) (h:k < L.length):bnd (L.take (k + 1)) X=bnd (L.take k) X ++ beh L[k] (X L[k].1):=by
 rw [QY L k h,ZjP,Zo1,Zq2,List.append_nil]
theorem Zo5 (e:Nat×Ef) (L:En) (k:Nat) (h:k < L.length):beh e (L.take (k + 1))=beh e (L.take k) ++ [(L[k].1,eov e.2 L[k].2)]:=by
 rw [QY L k h,ZjR]; rfl
theorem Qs.at {w:World} {G:Nat} {v:Value} {L:En} (h:Qs w G v L) {k:Nat} (hk:k < L.length) :∃(g cap:Nat) (ag:Option Addr) (cg:Nat),v = .slice (some ⟨g,0,none⟩) L.length cap/\g < w.heap.size/\
  w.cell? ⟨g,k * 2,none⟩=some (.int .i64 (L[k].1:Int))/\w.cell? ⟨g,k * 2 + 1,none⟩=some (.slice ag G cg)/\GrR w G (.slice ag G cg) L[k].2:=by
 obtain ⟨gv,h1,h2⟩:=h;obtain ⟨g,cap,rfl,hg⟩:=ZT h1 (by omega);have h3:=h2 k hk;have e:L.getD k (0,eno)=L[k]:=by rw [List.getD_eq_getElem?_getD,List.getElem?_eq_getElem hk]; rfl
 rw [e] at h3;obtain ⟨ag,cg,hgv⟩:=Zd h3;have a0:=h1.cellAt (k * 2) (by omega);have a1:=h1.cellAt (k * 2 + 1) (by omega);rw [(Jy _ _ k hk).1] at a0;rw [(Jy _ _ k hk).2] at a1;simp only [enf,e,hgv] at a0 a1;rw [hgv] at h3;exact ⟨g,cap,ag,cg,rfl,hg,a0,a1,h3⟩
theorem MI.side {w w':World} {Z:Mz} {S Ex:Nat->Prop} {v:Value} {L:En} (h:MI w Z S Ex) (k:Za (ExM Z) w w') (he:Qs w Z.G v L):Qs w' Z.G v L:=by
 obtain ⟨gv,h1,_⟩:=id he;exact he.keeps k (h.exM.noSp (by decide)) (h.exM.own h1 (by decide))
theorem MI.sideB {w w':World} {Z:Mz} {S Ex:Nat->Prop} {P:Nat} {xs:List Value} (h:MI w Z S Ex) (k:Za (ExM Z) w w') (hb:Bk w P 161 xs):Bk w' P 161 xs:=hb.keeps k (h.exM.not hb (by decide))
theorem MI.sideG {w w':World} {Z:Mz} {S Ex:Nat->Prop} {v:Value} {e:Ef} (h:MI w Z S Ex) (k:Za (ExM Z) w w') (hg:GrR w Z.G v e):GrR w' Z.G v e:=hg.keepsN k (h.exM.noSp (by decide))
structure Th (Z:Mz) (tv:Value) (L0:En) (fv:Value) (F:En) (P:Nat) (p:Int) (gv:Value) (ef:Ef) (lw:Value) (w:World):Prop where
 t:Qs w Z.G tv L0
 tn :∀b,tv.ownBlock=some b->lw.ownBlock≠some b
 f:Qs w Z.G fv F
 fn :∀b,fv.ownBlock=some b->lw.ownBlock≠some b
 b:Bk w P 161 [.int .i64 p,gv]
 bn:lw.ownBlock≠some P
 g:GrR w Z.G gv ef
theorem Th.same {Z:Mz} {tv fv gv lw:Value} {L0 F:En} {P:Nat} {p:Int} {ef:Ef} {w w':World} (h:Th Z tv L0 fv F P p gv ef lw w) (k:Za N0_ w w'):Th Z tv L0 fv F P p gv ef lw w' :=
 ⟨h.t.same k,h.tn,h.f.same k,h.fn,h.b.keeps k id,h.bn,h.g.same k⟩
theorem Th.added {Z:Mz} {tv fv gv lw lw':Value} {L0 F M:En} {P Lb Sb:Nat} {p:Int} {ef:Ef} {w w':World} (h:Th Z tv L0 fv F P p gv ef lw w) (hl:Ll w Lb Sb Z.u.size Z.G lw M) (k:Za (ExL Lb Sb lw) w w') (hb:Blk w lw lw'):Th Z tv L0 fv F P p gv ef lw' w' :=
 ⟨(Zaj hl h.t h.tn k hb).1,(Zaj hl h.t h.tn k hb).2,(Zaj hl h.f h.fn k hb).1,(Zaj hl h.f h.fn k hb).2,(ZhY hl h.b h.bn k hb).1,(ZhY hl h.b h.bn k hb).2,h.g.keepsN k (Zlg hl)⟩
def Zpx (Z:Mz) (S Ex:Nat->Prop) (L0:En) (i:Nat) (w:World) (e:Ending) (w':World):Prop :=
 ∃v,e = .returned v/\Qs w' Z.G v (thn L0 (Z.X i))/\(∀b,v.ownBlock=some b->¬ Ex b/\w.heap.size<=b)/\MI w' Z S Ex/\Za (ExM Z) w w'
theorem ZhS {w:World} {Z:Mz} {S Ex:Nat->Prop} {tv:Value} {L0:En} {i:Nat} (hZ:Ms Z) (hE:Zdy Z i) (hM:MI w Z S Ex) (hF:ZcB Z S (i + 1)) (hX :∀k,Ex k->k < w.heap.size) (h0:Qs w Z.G tv L0) (hL0 :∀e∈L0,e.1<=Z.u.size) (hlen:L0.length<=1000) (hOk:OkX Z.u.size 0 Z.G (Z.X i)) :
  Calls Tryz.prog 130 #[.pointer (some ⟨Z.R,0,none⟩),tv,.int .i64 (i:Int)] w (Zpx Z S Ex L0 i w):=by
 obtain ⟨at0,ct0,rfl⟩:=h0.form;have hem:=J4 hZ hM hX;have hu:=hZ.u200;have HL0:Hid (∀e∈L0,e.1<=Z.u.size):=hL0;clear hL0;go_enter Tryz.func130,Tryz.ntmps130;go_upto_region 2 with (first
  | (go_at_call 125; refine hem.mono ?_; rintro e w1 ⟨Lb,Sb,rfl,hW,hk1⟩))
 have h1:=h0.same hk1;have hn1 :∀b,(Value.slice at0 L0.length ct0).ownBlock=some b->(Value.slice none 0 0).ownBlock≠some b:=fun b _ h=>by simp [Value.ownBlock] at h
 have HT0:Hid (∀b,(Value.slice at0 L0.length ct0).ownBlock=some b->b < w.heap.size):=(by show∀_,_; intro b hb; obtain ⟨gv,q,_⟩:=h0; exact (q.lt b hb).2);clear hem hM h0 hk1 hX;go_wp2;go_loopg [9,11,16] (L0.length + 1) (fun gl _ _ s16 wr =>∃(a:Nat) (lv:Value) (M:En),a + gl=L0.length + 1/\a<=L0.length/\s16 = .int .i64 (a:Int)/\Hid (M=Qu [] (bnd (L0.take a) (Z.X i)))/\Wk w Z S Ex Lb Sb lv M wr/\Qs wr Z.G (.slice at0 L0.length ct0) L0/\∀b,(Value.slice at0 L0.length ct0).ownBlock=some b->lv.ownBlock≠some b)
 case atStart=>exact ⟨0,_,[],by omega,by omega,rfl,(by show _ = _; simp [bnd,Qu,dd]),hW,h1,hn1⟩
 case round =>
  clear hW h1 hn1;obtain ⟨a,lv,M,hgl,ha,rfl,HM,hW,h1,hn1⟩:=hrel;have HG:Hid (a + gk=L0.length + 1):=hgl;clear hgl
  by_cases hlt:a < L0.length
  ·have hz:(a:Int) < (L0.length:Int):=by omega
   obtain ⟨g,cap,ag,cg,hv,hg,a0,a1,hgr⟩:=h1.at hlt;simp only [Value.slice.injEq] at hv;obtain ⟨rfl,_,rfl⟩:=hv;have hpe:=HL0.out L0[a] (List.getElem_mem hlt);have HB:Hid (bnd (L0.take (a + 1)) (Z.X i)=bnd (L0.take a) (Z.X i) ++ beh L0[a] (Z.X i L0[a].1)):=ZiC L0 (Z.X i) a hlt;generalize L0[a]=e at a0 a1 hgr hpe HB;obtain ⟨p,ef⟩:=e;simp only at a0 a1 hgr hpe;go_upto_region 5 with fail;have kA:Za N0_ wr (wr.alloc (.cells #[.int .i64 (p:Int),.slice ag Z.G cg] 161)):=(Za.refl _ _).alloc _;have hP:Bk (wr.alloc (.cells #[.int .i64 (p:Int),.slice ag Z.G cg] 161)) wr.heap.size 161 [.int .i64 (p:Int),.slice ag Z.G cg]:=Qz wr _ _;have hPn:lv.ownBlock≠some wr.heap.size:=by
    intro h;obtain ⟨gv,q,_⟩:=hW.ll.ends
    have:=(q.lt _ h).2
    omega
   have hW2:=hW.same kA;have h2:=h1.same kA;have hg2:=hgr.same kA;generalize wr.alloc (.cells #[.int .i64 (p:Int),.slice ag Z.G cg] 161)=wa at kA hP hW2 h2 hg2 ⊢;generalize wr.heap.size=P at hP hPn ⊢;clear kA hW h1 hgr a0 a1 hg;have q0:wa.cell? ⟨P,0,none⟩=some (.int .i64 (p:Int)):=by rw [hP.cell]; rfl
   have hcall:=Zep hE hW2 hF hpe;go_upto_region 6 with (first
    | (go_at_call 74; refine hcall.mono ?_; rintro en wb ⟨fv,rfl,hf,hfn,hW3,hk3⟩; obtain ⟨af,cf,rfl⟩:=hf.form))
   have hTh:Th Z (.slice (some ⟨g,0,none⟩) L0.length ct0) L0 (.slice af (Z.X i p).length cf) (Z.X i p) P (p:Int) (.slice ag Z.G cg) ef lv wb:=⟨hW2.mi.side hk3 h2,hn1,hf,hfn,hW2.mi.sideB hk3 hP,hPn,hW2.mi.sideG hk3 hg2⟩;have HF5:Hid (∀x∈Z.X i p,x.1<=Z.u.size):=(by show∀_,_; exact fun x hx=>((hOk p hpe).2 x hx).2.1);have hFl:(Z.X i p).length<=201:=by have:=Zcs (hOk p hpe).1 HF5.out; omega
   have HXX:Hid (beh (p,ef) (Z.X i p)=beh (p,ef) (Z.X i p)):=rfl;clear hcall hP hPn hW2 h2 hg2 hf hfn hk3 q0 hn1;obtain ⟨F,hFe⟩ :∃F,Z.X i p=F:=⟨_,rfl⟩;have HFE:Hid (Z.X i p=F):=hFe;rw [hFe] at hTh HF5 hFl ⊢;clear hFe HXX;obtain ⟨wo,rfl⟩ :∃wo:World,wo=wr:=⟨_,rfl⟩;obtain ⟨gq,rfl⟩ :∃gq:Nat,gq=gk:=⟨_,rfl⟩;go_wp2;go_loopg [11,26] (F.length + 1) (fun gl _ s26 wi =>∃(b:Nat) (lw:Value) (M2:En),b + gl=F.length + 1/\b<=F.length/\s26 = .int .i64 (b:Int)/\Hid (M2=Qu M (beh (p,ef) (F.take b)))/\Wk w Z S Ex Lb Sb lw M2 wi/\Th Z (.slice (some ⟨g,0,none⟩) L0.length ct0) L0 (.slice af F.length cf) F P (p:Int) (.slice ag Z.G cg) ef lw wi)
   case atStart=>exact ⟨0,lv,M,by omega,by omega,rfl,(by show _ = _; simp [beh,Qu,dd]),hW3,hTh⟩
   case round =>
    clear hW3 hTh;obtain ⟨b,lw,M2,hgl2,hb,rfl,HM2,hW,hTh⟩:=hrel;have HG2:Hid (b + gk=F.length + 1):=hgl2;clear hgl2
    by_cases hlt2:b < F.length
    ·have hz2:(b:Int) < (F.length:Int):=by omega
     obtain ⟨g2,cap2,ah,ch,hv2,hg2,a0,a1,hgr2⟩:=hTh.f.at hlt2;simp only [Value.slice.injEq] at hv2;obtain ⟨rfl,_,rfl⟩:=hv2;have hqe:=HF5.out F[b] (List.getElem_mem hlt2);have HB2:Hid (beh (p,ef) (F.take (b + 1))=beh (p,ef) (F.take b) ++ [(F[b].1,eov ef F[b].2)]):=Zo5 (p,ef) F b hlt2;generalize F[b]=f at a0 a1 hgr2 hqe HB2;obtain ⟨q,hf⟩:=f;simp only at a0 a1 hgr2 hqe;have HM3:Hid (Qu M2 [(q,eov ef hf)]=Qu M (beh (p,ef) (F.take (b + 1)))):=(by show _ = _; rw [HM2.out,HB2.out,<- Qr]);clear HB2 HM2;go_upto_region 8 with fail;have kA:Za N0_ wr (wr.alloc (.cells #[.int .i64 (q:Int),.slice ah Z.G ch] 161)):=(Za.refl _ _).alloc _;have hQ:Bk (wr.alloc (.cells #[.int .i64 (q:Int),.slice ah Z.G ch] 161)) wr.heap.size 161 [.int .i64 (q:Int),.slice ah Z.G ch]:=Qz wr _ _;have hW2:=hW.same kA;have hT2:=hTh.same kA;have hg3:=hgr2.same kA;generalize wr.alloc (.cells #[.int .i64 (q:Int),.slice ah Z.G ch] 161)=wa at kA hQ hW2 hT2 hg3 ⊢;generalize wr.heap.size=Q at hQ ⊢;clear kA hW hTh hgr2 a0 a1 hg2;have q0:wa.cell? ⟨Q,0,none⟩=some (.int .i64 (q:Int)):=by rw [hQ.cell]; rfl
     have q1:wa.cell? ⟨Q,1,none⟩=some (.slice ah Z.G ch):=by rw [hQ.cell]; rfl
     have p1:wa.cell? ⟨P,1,none⟩=some (.slice ag Z.G cg):=by rw [hT2.b.cell]; rfl
     have l0:=hW2.ll.c0;have hqz:(q:Int) < (Z.u.size:Int) + 1:=by omega
     have l1:=hW2.ll.seen.cell q;rw [Zby _ _ _ (by omega)] at l1
     cases hs:sal sno M2 q with
     | true =>
       rw [hs] at l1;have HM4:Hid (M2=Qu M (beh (p,ef) (F.take (b + 1)))):=(by show _ = _; rw [<- HM3.out,ZbW M2 _ (fun x hx=>by simp at hx; subst hx; exact hs)]);clear hs;go_quiet (fail);go_wp2_with fail;go_roundg (gk - 1)
       case measure=>have:=HG2.out; omega
       case rel=>exact ⟨b + 1,lw,M2,by have:=HG2.out; omega,by omega,congrArg (Value.int .i64) (by omega),HM4,hW2.same ((Za.refl _ _).drewN _),hT2.same ((Za.refl _ _).drewN _)⟩
     | false =>
       rw [hs] at l1;clear hs;go_quiet (fail);go_wp2_with fail;have kN:Za N0_ wa (wa.drewN nq).drew:=((Za.refl _ _).drewN _).drew;have hW3:=hW2.same kN;have hT3:=hT2.same kN;have hg4:=hg3.same kN;have hQ3:=hQ.keeps kN id;have hov:=ZeJ hT3.g hg4 hZ.g9;clear kN hW2 hT2 hg3 hQ l0 l1;go_region_with (first
        | (go_at_call 129; refine hov.mono ?_; rintro en wc ⟨gw,rfl,hgw,hkc,-⟩; replace hW3:=hW3.same hkc; replace hT3:=hT3.same hkc; replace hQ3:=hQ3.keeps hkc id; obtain ⟨aw,cw,rfl⟩:=Zd hgw; have r0:wc.cell? ⟨Q,0,none⟩=some (.int .i64 (q:Int)):=(by rw [hQ3.cell]; rfl))
        | (go_at_call 127; refine (Zcp hZ hW3 hgw hqe).mono ?_; rintro en wd ⟨rfl,lx,hW4,hk4,hb4⟩; have hT4:=hT3.added hW3.ll hk4 hb4))
       all_goals (try go_wp2_with fail)
       all_goals go_roundg (gk - 1)
       all_goals first | (have:=HG2.out; omega) | exact ⟨b + 1,lx,_,by have:=HG2.out; omega,by omega,congrArg (Value.int .i64) (by omega),HM3,hW4,hT4⟩
    ·obtain rfl:b=F.length:=by omega
     have HM3:Hid (M2=Qu [] (bnd (L0.take (a + 1)) (Z.X i))):=(by
      show _ = _;rw [HM2.out,List.take_length,HM.out,HB.out,<- Qr,HFE.out])
     go_wp2;go_roundg (gq - 1)
     case measure=>have:=HG.out; omega
     case rel=>exact ⟨a + 1,lw,M2,by have:=HG.out; omega,by omega,congrArg (Value.int .i64) (by omega),HM3,hW,hTh.t,hTh.tn⟩
  ·obtain rfl:a=L0.length:=by omega
   have c1:=hW.ll.c1;have hl:=hW.ll.ends;obtain ⟨al,cl,hlv⟩:=hl.form;subst hlv;have HT:Hid (M=thn L0 (Z.X i)):=(by show _ = _; rw [HM.out,List.take_length,Zbd]; rfl);go_wp2;go_ret;refine ⟨_,rfl,?_,?_,hW.mi.exc (fun k _ hk=>Or.inl hk),hW.kp⟩
   ·rw [<- HT.out]; exact hl
   ·intro b hb
    have:=hW.lv0 b hb
    exact ⟨fun hx=>by have:=hW.ex b hx; omega,this⟩
def ExF (Z:Mz) (Lb Sb Sk:Nat) (lv:Value):Nat->Prop:=fun k=>ExL Lb Sb lv k\/k=Sk\/ExM Z k
structure Fk (Z:Mz) (Lb Sb Sk:Nat) (w:World) (lv:Value) (w':World) (lv':Value):Prop where
 kp:Za (ExF Z Lb Sb Sk lv) w w'
 bk:Blk w lv lv'
namespace Fk
variable {Z:Mz} {Lb Sb Sk:Nat} {w w1 w2:World} {lv lv1 lv2:Value}
theorem refl (w:World) (lv:Value):Fk Z Lb Sb Sk w lv w lv:=⟨Za.refl _ _,fun _ h _=>h⟩
theorem trans (h:Fk Z Lb Sb Sk w lv w1 lv1) (k:Fk Z Lb Sb Sk w1 lv1 w2 lv2):Fk Z Lb Sb Sk w lv w2 lv2:=by
 refine ⟨h.kp.trans' k.kp ?_,fun b hb hlt=>h.bk b (k.bk b hb (Nat.lt_of_lt_of_le hlt h.kp.size)) hlt⟩;rintro b hb ((rfl | rfl | he) | rfl | he)
 ·exact Or.inl (Or.inl rfl)
 ·exact Or.inl (Or.inr (Or.inl rfl))
 ·exact Or.inl (Or.inr (Or.inr (h.bk b he hb)))
 ·exact Or.inr (Or.inl rfl)
 ·exact Or.inr (Or.inr he)
theorem same (h:Fk Z Lb Sb Sk w lv w1 lv1) (k:Za N0_ w1 w2):Fk Z Lb Sb Sk w lv w2 lv1:=h.trans ⟨k.mono (fun _ _ h=>h.elim),fun _ h _=>h⟩
theorem added (h:Fk Z Lb Sb Sk w lv w1 lv1) (k:Za (ExL Lb Sb lv1) w1 w2) (hb:Blk w1 lv1 lv2):Fk Z Lb Sb Sk w lv w2 lv2:=h.trans ⟨k.mono (fun _ _ h=>Or.inl h),hb⟩
theorem tabs (h:Fk Z Lb Sb Sk w lv w1 lv1) (k:Za (ExM Z) w1 w2):Fk Z Lb Sb Sk w lv w2 lv1:=h.trans ⟨k.mono (fun _ _ h=>Or.inr (Or.inr h)),fun _ h _=>h⟩
theorem seen (h:Fk Z Lb Sb Sk w lv w1 lv1) (k:Za (fun b=>b=Sk) w1 w2):Fk Z Lb Sb Sk w lv w2 lv1:=h.trans ⟨k.mono (fun _ _ h=>Or.inr (Or.inl h)),fun _ h _=>h⟩
end Fk
def snf (sn:Nat->Nat->Bool) (k:Nat):Bool:=sn (k / 52) (k % 52)
def sn1 (sn:Nat->Nat->Bool) (p l:Nat):Nat->Nat->Bool:=fun q lf=>sn q lf || (q == p && lf == l)
theorem ZrI (sn:Nat->Nat->Bool) (p l:Nat) (hl:l < 52):snf sn (p * 52 + l)=sn p l:=by
 unfold snf;rw [show (p * 52 + l) / 52=p by omega,show (p * 52 + l) % 52=l by omega]
theorem Znz (sn:Nat->Nat->Bool) (p l:Nat) (hl:l < 52):sad (snf sn) (p * 52 + l)=snf (sn1 sn p l):=by
 funext k
 unfold sad snf sn1
 congr 1
 rw [Bool.eq_iff_iff];simp;omega
structure Fs (w0:World) (Z:Mz) (S Ex:Nat->Prop) (Lb Sb Sk:Nat) (lv:Value) (M:En) (sn:Nat->Nat->Bool) (w:World):Prop where
 wk:Wk w0 Z S Ex Lb Sb lv M w
 fl:Bk w Sk 4 (flv ((Z.u.size + 1) * 52) (snf sn))
 sk:w0.heap.size<=Sk
 ne:Sk≠Sb
namespace Fs
variable {w0 w w':World} {Z:Mz} {S Ex:Nat->Prop} {Lb Sb Sk:Nat} {lv lv':Value} {M:En} {sn:Nat->Nat->Bool}
theorem same (h:Fs w0 Z S Ex Lb Sb Sk lv M sn w) (k:Za N0_ w w'):Fs w0 Z S Ex Lb Sb Sk lv M sn w':=⟨h.wk.same k,h.fl.keeps k id,h.sk,h.ne⟩
theorem nL (h:Fs w0 Z S Ex Lb Sb Sk lv M sn w):¬ ExL Lb Sb lv Sk:=by
 rintro (e | e | e)
 ·have h1:=h.fl; have h2:=h.wk.ll.box;unfold Bk at h1;rw [<- e,h1] at h2; simp at h2
 ·exact h.ne e
 ·obtain ⟨gv,h1,_⟩:=h.wk.ll.ends;obtain ⟨cur,hc⟩:=Zu h1 e;have h2:=h.fl; unfold Bk at h2;rw [h2] at hc; simp at hc
theorem nM (h:Fs w0 Z S Ex Lb Sb Sk lv M sn w):¬ ExM Z Sk:=by
 have h1:=h.sk;have h2:=h.wk.old;rintro (e | e) <;> omega
theorem added (h:Fs w0 Z S Ex Lb Sb Sk lv M sn w) {x:Nat×Ef} (hw:Wk w0 Z S Ex Lb Sb lv' (Qu M [x]) w') (k:Za (ExL Lb Sb lv) w w'):Fs w0 Z S Ex Lb Sb Sk lv' (Qu M [x]) sn w':=⟨hw,h.fl.keeps k h.nL,h.sk,h.ne⟩
theorem tabs (h:Fs w0 Z S Ex Lb Sb Sk lv M sn w) (hw:Wk w0 Z S Ex Lb Sb lv M w') (k:Za (ExM Z) w w'):Fs w0 Z S Ex Lb Sb Sk lv M sn w':=⟨hw,h.fl.keeps k h.nM,h.sk,h.ne⟩
theorem mark (h:Fs w0 Z S Ex Lb Sb Sk lv M sn w) {p l:Nat} (hp:p<=Z.u.size) (hl:l < 52):Fs w0 Z S Ex Lb Sb Sk lv M (sn1 sn p l) (w.setCell ⟨Sk,p * 52 + l,none⟩ (.bool true)):=by
 have kq:=ZL w Sk (p * 52 + l) (.bool true);have hT:OfT w (fun b=>b=Sk) [4]:=by rintro b rfl; exact ⟨_,_,h.fl,by simp⟩
 have h3:=h.fl.set (p * 52 + l) (.bool true);rw [Zhc _ _ _ (by omega),Znz _ _ _ hl] at h3;have n1:¬ Z.Bd=Sk:=fun e=>h.nM (Or.inl e.symm);have n2:¬ Z.Bl=Sk:=fun e=>h.nM (Or.inr e.symm);have n3:¬ Lb=Sk:=fun e=>h.nL (Or.inl e.symm);refine ⟨⟨h.wk.mi.keeps kq (hT.mono (by decide)) n1 n2 ?_,h.wk.ll.keeps kq n3 (fun e=>h.ne e.symm) (hT.noSp (by decide)) ?_,h.wk.kp.trans' kq (fun b hb he=>by have:=h.sk; omega),h.wk.lb,h.wk.sb,h.wk.old,h.wk.ex,h.wk.lv0,h.wk.nd,h.wk.inN⟩,h3,h.sk,h.ne⟩
 ·rintro b rfl ⟨cur,hc⟩
  have:=h.fl; unfold Bk at this
  rw [this] at hc; simp at hc
 ·obtain ⟨gv,h1,_⟩:=h.wk.ll.ends;exact hT.own h1 (by decide)
theorem exT (h:Fs w0 Z S Ex Lb Sb Sk lv M sn w):OfT w (ExF Z Lb Sb Sk lv) wrT:=by
 rintro k (hk | rfl | hk)
 ·exact h.wk.exT.mono (by decide) k hk
 ·exact ⟨_,_,h.fl,by decide⟩
 ·exact h.wk.mi.exM.mono (by decide) k hk
theorem sideE (h:Fs w0 Z S Ex Lb Sb Sk lv M sn w) (k:Fk Z Lb Sb Sk w lv w' lv') {v:Value} {L:En} (he:Qs w Z.G v L) (hn :∀b,v.ownBlock=some b->lv.ownBlock≠some b):Qs w' Z.G v L/\∀b,v.ownBlock=some b->lv'.ownBlock≠some b:=by
 obtain ⟨gv,h1,_⟩:=id he;refine ⟨he.keeps k.kp (h.exT.noSp (by decide)) ?_,fun b hb hb'=>hn b hb (k.bk b hb' (h1.lt b hb).2)⟩;intro b hb hx;obtain ⟨cur,hc⟩:=Zu h1 hb
 rcases hx with (rfl | rfl | hx) | rfl | hx
 ·rw [h.wk.ll.box] at hc; simp at hc
 ·have:=h.wk.ll.seen; unfold Bk at this; rw [this] at hc; simp at hc
 ·exact hn b hb hx
 ·have:=h.fl; unfold Bk at this; rw [this] at hc; simp at hc
 ·exact h.wk.mi.exM.not hc (by decide) hx
theorem sideG (h:Fs w0 Z S Ex Lb Sb Sk lv M sn w) (k:Fk Z Lb Sb Sk w lv w' lv') {v:Value} {e:Ef} (hg:GrR w Z.G v e):GrR w' Z.G v e:=hg.keepsN k.kp (h.exT.noSp (by decide))
theorem sideB (h:Fs w0 Z S Ex Lb Sb Sk lv M sn w) (k:Fk Z Lb Sb Sk w lv w' lv') {P:Nat} {xs:List Value} (hb:Bk w P 161 xs) (hn:lv.ownBlock≠some P):Bk w' P 161 xs/\lv'.ownBlock≠some P:=by
 refine ⟨hb.keeps k.kp ?_,fun h2=>hn (k.bk P h2 hb.lt)⟩;rintro ((rfl | rfl | hx) | rfl | hx)
 ·have:=hb; unfold Bk at this; rw [h.wk.ll.box] at this; simp at this
 ·have:=hb; unfold Bk at this; have h2:=h.wk.ll.seen; unfold Bk at h2; rw [h2] at this; simp at this
 ·exact hn hx
 ·have:=hb; unfold Bk at this; have h2:=h.fl; unfold Bk at h2; rw [h2] at this; simp at this
 ·exact h.wk.mi.exM.not hb (by decide) hx
theorem sideO (h:Fs w0 Z S Ex Lb Sb Sk lv M sn w) (k:Fk Z Lb Sb Sk w lv w' lv') {P:Nat} {t:TypeId} {cs:Array Value} (hb:w.heap[P]? = some (.cells cs t (0,0))) (ht:t ∉ wrT):w'.heap[P]? = some (.cells cs t (0,0)):=by
 rw [k.kp.block P (lt_of_block hb) (h.exT.not hb ht)]; exact hb
theorem sideR (h:Fs w0 Z S Ex Lb Sb Sk lv M sn w) (k:Fk Z Lb Sb Sk w lv w' lv') {base:Nat} {e:TypeId} {size n:Nat} {v:Value} {xs:List Value} (ho:w.ownsRow base e size v n xs) (ht:e ∉ wrT):w'.ownsRow base e size v n xs:=Zb ho k.kp (h.exT.own ho ht)
end Fs
end Go.Proofs.YtfkflljplohhcaaGreatDoor
