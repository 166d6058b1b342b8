import Derived.Test.YtfkflljplohhcaaGreatDoorQ
set_option linter.unusedVariables false
set_option maxHeartbeats 4000000
set_option maxRecDepth 100000
namespace Go.Proofs.YtfkflljplohhcaaGreatDoor
open Go.RowKit
variable {w w':World}{R p x b from_:Nat}{s:ByteArray}{g d least lo hi:Int}
theorem ZiX(h:Rc w R s p g d)(hs:s.size<=120)(hp:p<s.size):
  au 145 #[ae R] w (Md R s g d (Qz s p) w):=by
 unfold Qz
 cases he:Zl s p with
 | error x=>exact Zpr h hs hp he
 | ok v =>
   obtain⟨S,o,q⟩:=v
   cases o with
   | none=>exact Zmq h hs hp he
   | some lo =>
     by_cases hc:bt s q=45/\bt s (q+1)≠93
     ·simp only[if_pos hc]
      by_cases qi:bt s (q+1)=256
      ·rw[if_pos qi];exact Zmt h hs hp he hc qi
      ·rw[if_neg qi];have hend:q+1<s.size:=by
        apply Decidable.byContradiction;intro hn;exact qi (Z7 hn)
       cases he2:Zl s (q+1) with
       | error x=>exact Zd4 h hs hp he hc hend he2
       | ok v =>
         obtain⟨S2,o2,q2⟩:=v
         cases o2 with
         | none=>exact ZdC h hs hp he hc hend he2
         | some hi =>
           by_cases hl:hi<lo
           ·simp only[if_pos hl];exact Zd3 h hs hp he hc hend he2 hl
           ·simp only[if_neg hl];exact Zkb h hs hp he hc hend he2 hl
     ·simp only[if_neg hc];exact ZhG h hs hp he hc
theorem ZiV(h:Rc w R s p g d)(hs:s.size<=120)(hp:p<s.size)(he:Qz s p=.error x):
  au 145 #[ae R] w (Z0 R x w) :=
 (ZiX h hs hp).mono fun e w' hn=>by rw[he] at hn;exact hn
variable {S:Bs}
theorem Yk{q:Nat}(h:Rc w R s p g d)(hs:s.size<=120)(hp:p<s.size)(he:Qz s p=.ok (S,q)):
  au 145 #[ae R] w (QS R s g d S q w) :=
 (ZiX h hs hp).mono fun e w' hn=>by rw[he] at hn;exact hn
def Sn (s:ByteArray) (p:Nat) (neg:Bool) (res:Except Nat (Bs×Nat)):Prop :=
 (∀x,res=.error x->Zq s p=.error x)/\(∀S q,res=.ok (S,q)->Zq s p=.ok (if neg then co S else S,q))
theorem ZjO(h:bt s p=94):Sn s p true (Zk s (s.size+1) (p+1) J3 true):=by
 constructor
 ·intro x hx;simp[Zq,h,hx]
 ·intro S q hx;simp[Zq,h,hx]
theorem ZjN(h:bt s p≠94):Sn s p false (Zk s (s.size+1) p J3 true):=by
 constructor
 ·intro x hx;simp[Zq,h,hx]
 ·intro S q hx;simp[Zq,h,hx]
theorem Zrx(S:Bs):un J3 S=S:=by funext x;simp[un,J3]
variable {e:Ending}
theorem MN{r:Except Nat (Bs×Nat)}(hr:r=.error x)(h:Z0 R x w e w'):Md R s g d r w e w':=by
 subst hr;exact h
theorem ZdE{r:Except Nat (Bs×Nat)}{q:Nat}(hr:r=.ok (S,q))(h:QS R s g d S q w e w'):Md R s g d r w e w':=by
 subst hr;exact h
def Zvg (s:ByteArray) (R P F:Nat) (g d:Int) (w:World) (r:Except Nat (Bs×Nat)) (fu:Nat) (wr:World):Prop :=
 ∃(q:Nat) (S:Bs) (f:Nat->Nat),q<=s.size/\s.size+1<=fu+q/\Aside (Zk s fu q S false=r)/\Rc wr R s q g d/\Bv S f/\Sb wr F f/\Sb wr P (fun _=>0)/\Za (·=R) w wr
theorem ZrJ{P:Nat}{f:Nat->Nat}(h:Sb w P f)(f':Nat->Nat):Sb ((((w.setCell (ak P) (.int .u64 (f' 0))).setCell ⟨P,1,none⟩ (.int .u64 (f' 1))).setCell ⟨P,2,none⟩ (.int .u64 (f' 2))).setCell ⟨P,3,none⟩ (.int .u64 (f' 3))) P f':=by
 have h1:=h.set (q:=0) (by omega) (f' 0) (f':=fun i=>if i=0 then f' 0 else f i) (by intro i _;rfl);have h2:=h1.set (q:=1) (by omega) (f' 1) (f':=fun i=>if i=1 then f' 1 else if i=0 then f' 0 else f i) (by intro i _;rfl);have h3:=h2.set (q:=2) (by omega) (f' 2) (f':=fun i=>if i=2 then f' 2 else if i=1 then f' 1 else if i=0 then f' 0 else f i) (by intro i _;rfl);exact h3.set (q:=3) (by omega) (f' 3) (f':=f') (by intro i hi;rcases(show i=0\/i=1\/i=2\/i=3 from by omega) with e | e | e | e <;> subst e <;> rfl)
theorem Zj8(w:World)(P:Nat){a b c d:Value}:Za (·=P) w ((((w.setCell (ak P) a).setCell ⟨P,1,none⟩ b).setCell ⟨P,2,none⟩ c).setCell ⟨P,3,none⟩ d) :=
 ((((Za.refl (·=P) w).setCell (fun _=>rfl) _).setCell (fun _=>rfl) _).setCell (fun _=>rfl) _).setCell (fun _=>rfl) _
theorem Yz(h:Rc w R s p g d)(hs:s.size<=120)(hp:p<=s.size):
  au 134 #[ae R] w (Md R s g d (Zq s p) w):=by
 have hne:=h.lt;have aK:Rc (w.alloc (.cells #[.int .u64 0,.int .u64 0,.int .u64 0,.int .u64 0] 170)) R s p g d:=h.keeps ((Za.refl ai w).alloc _) id;have hK1:Za (·=R) w (w.alloc (.cells #[.int .u64 0,.int .u64 0,.int .u64 0,.int .u64 0] 170)):=(Za.refl _ w).alloc _;have hr1:Sb (w.alloc (.cells #[.int .u64 0,.int .u64 0,.int .u64 0,.int .u64 0] 170)) w.heap.size (fun _=>0):=heap_alloc_new w _;clear h;go_enter Tryz.func134,Tryz.ntmps134;go_upto_region 1 with fail;generalize (w.alloc (.cells #[.int .u64 0,.int .u64 0,.int .u64 0,.int .u64 0] 170))=w1 at aK hK1 hr1 ⊢;go_cut [3] from 5 (fun n3 wc =>∃(neg:Bool) (p':Nat),n3=.bool neg/\p'<=s.size/\Aside (Sn s p neg (Zk s (s.size+1) p' J3 true))/\Rc wc R s p' g d/\Sb wc w.heap.size (fun _=>0)/\Za (·=R) w wc)
 case first =>
  by_cases hb:bt s p=94
  ·have HB:Hid (bt s p=94):=hb;have hlt:=Zn hb (by decide);clear hb;go_wp2_with(first|(go_at_call 76;refine(Z4 aK hs hp (b:=94) (by decide) HB.out).mono ?_;rintro e w2 ⟨rfl,hR2,hk2⟩))
   go_meet
   case rel=>exact⟨true,p+1,rfl,by omega,ZjO HB.out,hR2,hr1.keeps hk2 (by omega),hK1.trans hk2⟩
  ·have HB:Hid (bt s p≠94):=hb;clear hb;go_wp2_with(first|(go_at_call 76;refine(vU aK hs hp (b:=94) (by decide) HB.out).mono ?_;rintro e w2 ⟨rfl,n,rfl⟩))
   go_meet
   case rel=>exact⟨false,p,rfl,hp,ZjN HB.out,aK.drewN _,hr1.keeps ((Za.refl ai _).drewN _) id,hK1.drewN _⟩
 case rest =>
  clear aK hK1 hr1;obtain⟨neg,p',rfl,hp',bV,hR,hr1,hK⟩:=hcut;obtain⟨res,hres⟩:∃res,Zk s (s.size+1) p' J3 true=res:=⟨_,rfl⟩;rw[hres] at bV
  by_cases hend:p'=s.size
  ·have HP:Hid (p'=s.size):=hend;have HX:Hid (Zq s p=.error p'):=bV.1 p' (by rw[<- hres];exact UE hend (by omega));clear hend hres bV;go_wp2_with(first|(go_at_call 145;refine(ZiW hR hs HP.out).mono ?_;rintro e w2 ⟨rfl,hk2⟩))
   exact⟨rfl,MN HX.out ⟨rfl,hK.trans hk2⟩⟩
  ·have hlt:p'<s.size:=by omega
   rcases ZeC hlt (by omega) (Or.inr rfl) hres with⟨x,e1,e2⟩ | ⟨S1,q,f',e1,e2,e3,e4,e5,e6⟩
   ·have HE:Hid (Qz s p'=.error x):=e1;have HX:Hid (Zq s p=.error x):=bV.1 x e2;clear e1 e2 hres bV;go_wp2_with(first|(go_at_call 145;refine(ZiV hR hs hlt HE.out).mono ?_;rintro e w2 ⟨rfl,hk2⟩))
    exact⟨rfl,MN HX.out ⟨rfl,hK.trans hk2⟩⟩
   ·have HE:Hid (Qz s p'=.ok (S1,q)):=e2;rw[Zrx] at e3;have HF:Hid (s.size=f'):=(by show _ = _;omega);clear e1 e2 hres;go_wp2_with(first|(go_at_call 145;refine(Yk hR hs hlt HE.out).mono ?_;rintro e w2 ⟨f,hf,rfl,hR2,hk2⟩;replace hr1:=hr1.keeps hk2 (by omega);replace hk2:=hK.trans hk2))
    have hPF:w.heap.size<w2.heap.size:=lt_of_block hr1;obtain⟨w3,hw⟩:∃w3,w3=jb w2 f:=⟨_,rfl⟩;have hS:Sb w3 w2.heap.size f:=hw ▸ uU w2 f;have hk3:Za ai w2 w3:=hw ▸ QF w2 f
    delta jb at hw
    rw[<- hw];clear hw;replace hr1:=hr1.keeps hk3 id;replace hR2:=hR2.keeps hk3 id;have hs2:=hk2.size;replace hk2:=hk2.trans hk3.none;clear hk3;generalize hF:w2.heap.size=F at hS hs2 hPF ⊢;clear hF;go_loopg [] (s.size) (fun fu wr=>Zvg s R w.heap.size F g d w res fu wr)
    case atStart=>exact⟨q,S1,f,e5,by have:=HF.out;omega,by have:=HF.out;subst this;exact e3,hR2,hf,hS,hr1,hk2⟩
    case round =>
     clear hR2 hf hS hr1 hk2 e3 e4 e5 e6 hR hK HE HF;obtain⟨q,S,f,hq,hfu,hloop,hR,hf,hS,hr1,hK⟩:=hrel
     by_cases hb:bt s q=93
     ·have HB:Hid (bt s q=93):=hb;have HX:Hid (Zq s p=.ok (if neg then co S else S,q+1)):=bV.2 S (q+1) (by rw[<- hloop];exact ZcU hb (by omega));clear hb hloop bV
      cases neg with
      | false =>
        have HX:Hid (Zq s p=.ok (S,q+1)):=HX.out;go_wp2_with(first|(go_at_call 76;refine(Z4 hR hs hq (b:=93) (by decide) HB.out).mono ?_;clear hR;rintro e w4 ⟨rfl,hR,hk2⟩;replace hS:=hS.keeps hk2 (by omega);replace hr1:=hr1.keeps hk2 (by omega);replace hK:=hK.trans hk2;clear hk2;have c0:=hS.cell (q:=0) (by omega);have c1:=hS.cell (q:=1) (by omega);have c2:=hS.cell (q:=2) (by omega);have c3:=hS.cell (q:=3) (by omega);have e0:=hr1.cell (q:=0) (by omega);have e1:=hr1.cell (q:=1) (by omega);have e2:=hr1.cell (q:=2) (by omega);have e3:=hr1.cell (q:=3) (by omega);have ef:=hr1.fz))
        refine bodyPost_ret (v:=.agg #[.int .u64 (f 0),.int .u64 (f 1),.int .u64 (f 2),.int .u64 (f 3)]) (by simp[results,Tryz.results134,go_sem,e0,e1,e2,e3]) rfl ?_;exact ZdE HX.out ⟨f,hf,rfl,hR.aX (by omega),hK.aX (by omega)⟩
      | true =>
        have HX:Hid (Zq s p=.ok (co S,q+1)):=HX.out;go_wp2_with(first|(go_at_call 76;refine(Z4 hR hs hq (b:=93) (by decide) HB.out).mono ?_;clear hR;rintro e w4 ⟨rfl,hR,hk2⟩;replace hS:=hS.keeps hk2 (by omega);replace hr1:=hr1.keeps hk2 (by omega);replace hK:=hK.trans hk2;clear hk2;have c0:=hS.cell (q:=0) (by omega);have c1:=hS.cell (q:=1) (by omega);have c2:=hS.cell (q:=2) (by omega);have c3:=hS.cell (q:=3) (by omega);clear hS)|(go_at_call 136;refine(Zgl hf).mono ?_;rintro e w5 ⟨f5,CU,rfl,hk2⟩;replace hr1:=hr1.keeps hk2 id;replace hR:=hR.keeps hk2 id;replace hK:=hK.trans hk2.none;clear hk2;have e0:=hr1.cell (q:=0) (by omega);have e1:=hr1.cell (q:=1) (by omega);have e2:=hr1.cell (q:=2) (by omega);have e3:=hr1.cell (q:=3) (by omega);have ef:=hr1.fz))
        refine bodyPost_ret (v:=.agg #[.int .u64 (f5 0),.int .u64 (f5 1),.int .u64 (f5 2),.int .u64 (f5 3)]) (by simp[results,Tryz.results134,go_sem,e0,e1,e2,e3]) rfl ?_;exact ZdE HX.out ⟨f5,CU,rfl,hR.aX (by omega),hK.aX (by omega)⟩
     ·have HB:Hid (bt s q≠93):=hb;go_upto_region 4 with(go_at_call 76;refine(vU hR hs hq (b:=93) (by decide) HB.out).mono ?_;rintro e w4 ⟨rfl,n,hn⟩;have hk2:Za ai wr w4:=(by rw[hn];exact(Za.refl _ _).drewN _);clear hn;replace hR:=hR.keeps hk2 id;replace hS:=hS.keeps hk2 id;replace hr1:=hr1.keeps hk2 id;replace hK:=hK.trans hk2.none;clear hk2);replace hR:=hR.drew;have c0:=hS.cell (q:=0) (by omega);have c1:=hS.cell (q:=1) (by omega);have c2:=hS.cell (q:=2) (by omega);have c3:=hS.cell (q:=3) (by omega);have hor:(∃x,Zq s p=.error x/\au 145 #[ae R] w4.drew (Z0 R x w4.drew))\/(∃S1 q1 f',q<s.size/\gk=f'+1/\Qz s q=.ok (S1,q1)/\Zk s f' q1 (un S S1) false=res/\q<q1/\q1<=s.size/\s.size+1<=f'+q1):=by
       by_cases hend:q=s.size
       ·exact Or.inl ⟨q,bV.1 q (by rw[<- hloop];exact UE hend (by omega)),ZiW hR hs hend⟩
       ·have hlt:q<s.size:=by omega
        rcases ZeC hlt hfu (Or.inl hb) hloop with⟨x,e1,e2⟩ | ⟨S1,q1,f',e1,e2,e3,e4,e5,e6⟩
        ·exact Or.inl ⟨x,bV.1 x e2,ZiV hR hs hlt e1⟩
        ·exact Or.inr ⟨S1,q1,f',hlt,e1,e2,e3,e4,e5,e6⟩
      clear hloop bV hb
      rcases hor with⟨x,hx,hcall⟩ | ⟨S1,q1,f',hlt,e1,e2,e3,e4,e5,e6⟩
      ·have HX:Hid (Zq s p=.error x):=hx;clear hx;refine wp_region_any (by kernel_rfl) ?_;change wpAny _ _ _ _ _ _ _ (World.drew _);refine wpAny_take (i:=1) (v:=?_) rfl (by kernel_rfl) (by kernel_rfl) (by kernel_rfl) (fun _ _ _ h=>h) (Or.inl ⟨by rfl,?_⟩) ?_
       rotate_left
       ·intro w;go_simp;with_reducible rfl
       ·refine wpAny_ready (rs := [0,2]) (by kernel_rfl) (by simp) ?_;refine AllReady.cons rfl (fun K hK'=>?_) ?_
        ·go_simp;refine hK' _ _ ?_;clear hK' K;refine wpAny_ready (rs := [2]) (by kernel_rfl) (by simp) ?_;refine AllReady.cons rfl (fun K hK'=>?_) AllReady.nil;go_simp;go_wp2_with(first|(go_at_call 145;refine hcall.mono ?_;rintro e w5 ⟨rfl,hk2⟩))
         exact⟨rfl,MN HX.out ⟨rfl,hK.trans (hkd hk2)⟩⟩
        ·refine AllReady.cons rfl (fun K hK'=>?_) AllReady.nil;go_simp;go_wp2_with(first|(go_at_call 145;refine hcall.mono ?_;rintro e w5 ⟨rfl,hk2⟩))
         exact⟨rfl,MN HX.out ⟨rfl,hK.trans (hkd hk2)⟩⟩
      ·have HE:Hid (Qz s q=.ok (S1,q1)):=e2;have HL:Hid (Zk s f' q1 (un S S1) false=res):=e3;have HF:Hid (gk=f'+1):=e1;clear e1 e2 e3;go_region_with (first|(go_at_call 145;refine(Yk hR hs hlt HE.out).mono ?_;clear hR;rintro e w5 ⟨f5,CU,rfl,hR,hk2⟩;replace hk2:=hkd hk2;replace hS:=hS.keeps hk2 (by omega);replace hr1:=hr1.keeps hk2 (by omega);replace hK:=hK.trans hk2;clear hk2;have c0:=hS.cell (q:=0) (by omega);have c1:=hS.cell (q:=1) (by omega);have c2:=hS.cell (q:=2) (by omega);have c3:=hS.cell (q:=3) (by omega))|(go_at_call 146;refine(Td hf CU).mono ?_;rintro e w6 ⟨f6,Gt,rfl,hk2⟩;replace hS:=hS.keeps hk2 id;replace hr1:=hr1.keeps hk2 id;replace hR:=hR.keeps hk2 id;replace hK:=hK.trans hk2.none;clear hk2;have c0:=hS.cell (q:=0) (by omega);have c1:=hS.cell (q:=1) (by omega);have c2:=hS.cell (q:=2) (by omega);have c3:=hS.cell (q:=3) (by omega);have cf:=hS.fz))
       all_goals go_wp2_with fail
       all_goals go_roundg f'
       all_goals first
        | exact⟨q1,un S S1,f6,e5,e6,HL.out,hR.aX (by omega),Gt,ZrJ hS f6,hr1.keeps (Zj8 w6 F) (by omega),hK.aX (by omega)⟩
        |(have:=HF.out;omega)
def y9 (R:Nat) (s:ByteArray) (g d:Int) (p:Nat) (least:Int) (w:World) (e:Ending) (w':World):Prop :=
 match Zu s p with
 | .error x=>Z0 R x w e w'
 | .ok (n,q)=>if q=p\/(n:Int)<least then Z0 R p w e w' else e=.returned (.int .i64 n)/\Rc w' R s q g d/\Za (·=R) w w'
theorem Zb0{fu n:Nat}(h:ZI (bt s p)=false):ZV s from_ (fu+1) p n=.ok (n,p):=by simp[ZV,h]
theorem Zgw{fu n:Nat}(h:ZI (bt s p)=true)(hb:50<n*10+(bt s p-48)):ZV s from_ (fu+1) p n=.error from_:=by simp[ZV,h,hb]
theorem Zfk{fu n:Nat}(h:ZI (bt s p)=true)(hb:¬50<n*10+(bt s p-48)):ZV s from_ (fu+1) p n=ZV s from_ fu (p+1) (n*10+(bt s p-48)):=by simp[ZV,h,hb]
def Ib (s:ByteArray) (p fu q n:Nat):Prop:=(n<=50/\ZV s p fu q n=Zu s p)\/(n=51/\Zu s p=.error p)
def Ik (s:ByteArray) (p q n:Nat):Prop:=(n<=50/\Zu s p=.ok (n,q))\/(n=51/\Zu s p=.error p)
theorem Zgm{fu q n:Nat}(h:Ib s p (fu+1) q n)(hd:ZI (bt s q)=false):Ik s p q n:=by
 rcases h with⟨h1,h2⟩ | h
 ·exact Or.inl ⟨h1,by rw[<- h2];exact Zb0 hd⟩
 ·exact Or.inr h
theorem ZjX{fu q n:Nat}(h:Ib s p (fu+1) q n)(hd:ZI (bt s q)=true):Ib s p fu (q+1) (min (n*10+(bt s q-48)) 51):=by
 rcases h with⟨h1,h2⟩ | ⟨h1,h2⟩
 ·by_cases hb:50<n*10+(bt s q-48)
  ·exact Or.inr ⟨by omega,by rw[<- h2];exact Zgw hd hb⟩
  ·exact Or.inl ⟨by omega,by rw[<- h2,Zfk hd hb,Nat.min_eq_left (by omega)]⟩
 ·exact Or.inr ⟨by omega,h2⟩
theorem JV{q n:Nat}(h:Ik s p q n)(hc:q=p\/(n:Int)<least\/50<n)(hf:Z0 R p w e w'):y9 R s g d p least w e w':=by
 unfold y9
 rcases h with⟨h1,h2⟩ | ⟨h1,h2⟩
 ·rw[h2];dsimp only;rw[if_pos (by omega)];exact hf
 ·rw[h2];exact hf
theorem Yj{q n:Nat}(h:Ik s p q n)(h1:¬q=p)(h2:¬(n:Int)<least)(h3:¬50<n)(hR:Rc w' R s q g d)(hK:Za (·=R) w w'):y9 R s g d p least w (.returned (.int .i64 n)) w':=by
 unfold y9
 rcases h with⟨h4,h5⟩ | ⟨h4,h5⟩
 ·rw[h5];dsimp only;rw[if_neg (by omega)];exact⟨rfl,hR,hK⟩
 ·omega
theorem Zi8{t:Bool}(ht:ZI b=t):
  au 86 #[.int .u8 b] w fun e w'=>e=.returned (.bool t)/\∃n,w'=w.drewN n:=by
 subst ht;exact T9
theorem UA(h:Rc w R s p g d)(hs:s.size<=120)(hp:p<=s.size):
  au 155 #[ae R,.int .i64 least] w (y9 R s g d p least w):=by
 have c1:=h.c1;go_enter Tryz.func155,Tryz.ntmps155;go_wp2;go_loopg [6] (s.size+1) (fun fu x wr =>∃n q:Nat,n<=51/\p<=q/\q<=s.size/\s.size-q<fu/\x=.int .i64 n/\Aside (Ib s p fu q n)/\Rc wr R s q g d/\Za (·=R) w wr)
 case atStart=>exact⟨0,p,by omega,by omega,hp,by omega,rfl,Or.inl ⟨by omega,rfl⟩,h,Za.refl _ _⟩
 case round =>
  clear c1 h;obtain⟨n,q,hn,hpq,hq,hfu,rfl,HN,hR,hK⟩:=hrel;obtain⟨fu,rfl⟩:∃f,gk=f+1:=⟨gk-1,by omega⟩;have c0:=hR.c0;have c1:=hR.c1
  by_cases hin:q<s.size
  ·have hqz:(q:Int)<(s.size:Int):=by omega
   have hc:s[q].toNat=bt s q:=(ZX hin).symm;have hcl:=Jh hin;have HR:Hid (Rc wr R s q g d):=hR
   cases hd:ZI (bt s q) with
   | true =>
     have HS:Hid (Ib s p fu (q+1) (min (n*10+(bt s q-48)) 51)):=ZjX HN hd;have HD:Hid (ZI (bt s q)=true):=hd;have hd':48<=bt s q/\bt s q<=57:=by simpa [ZI] using hd
     obtain⟨d1,d2⟩:=hd';clear hd HN;generalize hbb:bt s q=b at hc hcl HS HD d1 d2;go_wp2;go_quiet (first|(go_at_call 54;exact Calls.quiet_of (Ju (HR.out.drewN _) hin))|(go_at_call 86;exact Calls.quiet_of (Zi8 HD.out)))
     replace hR:=hR.drewN nq;replace hK:=hK.drewN nq;clear c0 c1 HR;generalize wr.drewN nq=w3 at hR hK ⊢;have Cq:Hid (bt s q=b):=hbb;clear hbb;go_wp2_with(first|(go_at_call 85;refine(ZH hR hs hin).mono ?_;clear hR;rintro e w4 ⟨rfl,hR,hk2⟩;rw[Cq.out];replace hK:=hK.trans hk2;clear hk2))
     all_goals go_roundg fu
     all_goals first
      | exact⟨min (n*10+(b-48)) 51,q+1,by omega,by omega,by omega,by omega,congrArg (Value.int .i64) (by omega),HS.out,hR,hK⟩
      | omega
   | false =>
     have lS:Hid (Ik s p q n):=Zgm HN hd;have HD:Hid (ZI (bt s q)=false):=hd;clear hd HN;generalize bt s q=b at hc hcl HD;go_wp2;go_quiet (first|(go_at_call 54;exact Calls.quiet_of (Ju (HR.out.drewN _) hin))|(go_at_call 86;exact Calls.quiet_of (Zi8 HD.out)))
     replace hR:=hR.drewN nq;replace hK:=hK.drewN nq;clear c0 c1 HR;generalize wr.drewN nq=w3 at hR hK ⊢;have c1:=hR.c1
     by_cases eO:q=p
     ·have hz:((q:Int) == (p:Int))=true:=by simp;omega
      have Ci:Hid (q=p):=eO;clear eO;go_wp2;exact⟨rfl,JV lS.out (Or.inl Ci.out) ⟨rfl,hK⟩⟩
     ·have hz:((q:Int) == (p:Int))=false:=by simp;omega
      have Ci:Hid (¬q=p):=eO;clear eO
      by_cases hl:(n:Int)<least
      ·go_wp2;exact⟨rfl,JV lS.out (Or.inr (Or.inl hl)) ⟨rfl,hK⟩⟩
      ·have hlz:least<=(n:Int):=by omega
       have HL:Hid (¬(n:Int)<least):=hl;clear hl
       by_cases h5:50<n
       ·have h5z:(50:Int)<(n:Int):=by omega
        go_wp2;exact⟨rfl,JV lS.out (Or.inr (Or.inr h5)) ⟨rfl,hK⟩⟩
       ·have h5z:(n:Int)<=50:=by omega
        have H5:Hid (¬50<n):=h5;clear h5;go_wp2;go_ret;exact Yj lS.out Ci.out (by omega) H5.out hR hK
  ·have HQ:Hid (q=s.size):=(by show _ = _;omega);have HR:Hid (Rc wr R s q g d):=hR;have lS:Hid (Ik s p q n):=Zgm HN (by rw[Z7 hin];decide);clear HN hin;go_wp2;go_quiet (first|(go_at_call 54;exact Calls.quiet_of (IP (HR.out.drewN _) HQ.out)))
   replace hR:=hR.drewN nq;replace hK:=hK.drewN nq;clear c0 c1 HR;generalize wr.drewN nq=w3 at hR hK ⊢;have c1:=hR.c1
   by_cases eO:q=p
   ·have hz:((q:Int) == (p:Int))=true:=by simp;omega
    have Ci:Hid (q=p):=eO;clear eO;go_wp2;exact⟨rfl,JV lS.out (Or.inl Ci.out) ⟨rfl,hK⟩⟩
   ·have hz:((q:Int) == (p:Int))=false:=by simp;omega
    have Ci:Hid (¬q=p):=eO;clear eO
    by_cases hl:(n:Int)<least
    ·go_wp2;exact⟨rfl,JV lS.out (Or.inr (Or.inl hl)) ⟨rfl,hK⟩⟩
    ·have hlz:least<=(n:Int):=by omega
     have HL:Hid (¬(n:Int)<least):=hl;clear hl
     by_cases h5:50<n
     ·have h5z:(50:Int)<(n:Int):=by omega
      go_wp2;exact⟨rfl,JV lS.out (Or.inr (Or.inr h5)) ⟨rfl,hK⟩⟩
     ·have h5z:(n:Int)<=50:=by omega
      have H5:Hid (¬50<n):=h5;clear h5;go_wp2;go_ret;exact Yj lS.out Ci.out (by omega) H5.out hR hK
section
variable {w:World}{R:Nat}{s:ByteArray}{p q n x:Nat}{g d least:Int}
theorem Zi0(h:Rc w R s p g d)(hs:s.size<=120)(hp:p<=s.size)(he:Zu s p=.error x):
  au 155 #[ae R,.int .i64 least] w (Z0 R x w) :=
 (UA h hs hp).mono fun e w' hn=>by unfold y9 at hn;rw[he] at hn;exact hn
theorem Zi1(h:Rc w R s p g d)(hs:s.size<=120)(hp:p<=s.size)(he:Zu s p=.ok (n,q))(hb:q=p\/(n:Int)<least):
  au 155 #[ae R,.int .i64 least] w (Z0 R p w) :=
 (UA h hs hp).mono fun e w' hn=>by unfold y9 at hn;rw[he] at hn;dsimp only at hn;rw[if_pos hb] at hn;exact hn
theorem Jf(h:Rc w R s p g d)(hs:s.size<=120)(hp:p<=s.size)(he:Zu s p=.ok (n,q))(hb:¬(q=p\/(n:Int)<least)):
  au 155 #[ae R,.int .i64 least] w fun e w'=>e=.returned (.int .i64 n)/\Rc w' R s q g d/\Za (·=R) w w' :=
 (UA h hs hp).mono fun e w' hn=>by unfold y9 at hn;rw[he] at hn;dsimp only at hn;rw[if_neg hb] at hn;exact hn
end
def Tq (R:Nat) (s:ByteArray) (g d:Int) (r:Except Nat (Int×Int×Nat)) (w:World) (e:Ending) (w':World):Prop :=
 match r with
 | .error x=>Z0 R x w e w'
 | .ok (lo,hi,q)=>e=.returned (.tuple #[.int .i64 lo,.int .i64 hi])/\Rc w' R s q g d/\Za (·=R) w w'
theorem Jq{r:Except Nat (Int×Int×Nat)}(hr:r=.error x)(h:Z0 R x w e w'):Tq R s g d r w e w':=by
 subst hr;exact h
theorem Ug{r:Except Nat (Int×Int×Nat)}{q:Nat}(hr:r=.ok (lo,hi,q))(hR:Rc w' R s q g d)(hK:Za (·=R) w w'):Tq R s g d r w (.returned (.tuple #[.int .i64 lo,.int .i64 hi])) w':=by
 subst hr;exact⟨rfl,hR,hK⟩
theorem ZeE(h:Rc w R s p g d)(hs:s.size<=120)(hp:p<=s.size):
  au 143 #[ae R] w (Tq R s g d (Zg s p) w):=by
 cases h1:Zu s p with
 | error x =>
   have HR:Hid (Zg s p=.error x):=(by show _ = _;simp[Zg,h1]);have H1:Hid (Zu s p=.error x):=h1;clear h1;go_enter Tryz.func143,Tryz.ntmps143;go_wp2_with(first|(go_at_call 155;refine(Zi0 h hs hp H1.out).mono ?_;rintro e w2 ⟨rfl,hk2⟩))
   exact⟨rfl,Jq HR.out ⟨rfl,hk2⟩⟩
 | ok v =>
   obtain⟨lo,q⟩:=v;obtain⟨hpq,gy,hlo⟩:=ZS hp h1;have H1:Hid (Zu s p=.ok (lo,q)):=h1
   by_cases eO:q=p
   ·have HR:Hid (Zg s p=.error p):=(by show _ = _;simp[Zg,h1,eO]);have HQ:Hid (q=p\/(lo:Int)<0):=Or.inl eO;clear h1 eO;go_enter Tryz.func143,Tryz.ntmps143;go_wp2_with(first|(go_at_call 155;refine(Zi1 h hs hp H1.out HQ.out).mono ?_;rintro e w2 ⟨rfl,hk2⟩))
    exact⟨rfl,Jq HR.out ⟨rfl,hk2⟩⟩
   ·have HQ:Hid (¬(q=p\/(lo:Int)<0)):=(by show ¬_;omega)
    by_cases hc:bt s q=44
    ·have HC:Hid (bt s q=44):=hc;have jf:=Zn hc (by decide);have hq1:q+1<=s.size:=jf
     by_cases hb:bt s (q+1)=125
     ·have h2:Zu s (q+1)=.ok (0,q+1):=by
       unfold Zu;rw[Zb0 (by rw[hb];decide)]
      have HR:Hid (Zg s p=.ok ((lo:Int),-1,q+1+1)):=(by show _ = _;simp[Zg,h1,eO,hc,h2,hb]);have HB:Hid (bt s (q+1)=125):=hb;have HT:Hid (decide (bt s (q+1)=125)=true):=(by show _ = _;simp[hb]);clear h1 eO hc hb h2;go_enter Tryz.func143,Tryz.ntmps143;go_wp2_with(first|(go_at_call 155;refine(Jf h hs hp H1.out HQ.out).mono ?_;clear h;rintro e w2 ⟨rfl,hR,hK⟩)|(go_at_call 76;refine(Z4 hR hs gy (b:=44) (by decide) HC.out).mono ?_;clear hR;rintro e w3 ⟨rfl,hR,hk2⟩;replace hK:=hK.trans hk2;clear hk2)|(go_at_call 95;refine(QD hR hs hq1 (b:=125) (by decide) HT.out).mono ?_;rintro e w4 ⟨rfl,n,hn⟩;have hk2:Za ai w3 w4:=(by rw[hn];exact(Za.refl _ _).drewN _);clear hn;replace hR:=hR.keeps hk2 id;replace hK:=hK.trans hk2.none;clear hk2)|(go_at_call 144;refine(JM hR hs hq1 (b:=125) (by decide) HB.out).mono ?_;clear hR;rintro e w5 ⟨rfl,hR,hk2⟩;replace hK:=hK.trans hk2;clear hk2))
      go_ret2;exact Ug HR.out hR hK
     ·have HT:Hid (decide (bt s (q+1)=125)=false):=(by show _ = _;simp[hb])
      cases h2:Zu s (q+1) with
      | error x =>
        have HR:Hid (Zg s p=.error x):=(by show _ = _;simp[Zg,h1,eO,hc,h2]);have H2:Hid (Zu s (q+1)=.error x):=h2;clear h1 eO hc hb h2;go_enter Tryz.func143,Tryz.ntmps143;go_wp2_with(first|(go_at_call_of 155 (Value.int .i64 0);refine(Jf h hs hp H1.out HQ.out).mono ?_;clear h;rintro e w2 ⟨rfl,hR,hK⟩)|(go_at_call 76;refine(Z4 hR hs gy (b:=44) (by decide) HC.out).mono ?_;clear hR;rintro e w3 ⟨rfl,hR,hk2⟩;replace hK:=hK.trans hk2;clear hk2)|(go_at_call 95;refine(QD hR hs hq1 (b:=125) (by decide) HT.out).mono ?_;rintro e w4 ⟨rfl,n,hn⟩;have hk2:Za ai w3 w4:=(by rw[hn];exact(Za.refl _ _).drewN _);clear hn;replace hR:=hR.keeps hk2 id;replace hK:=hK.trans hk2.none;clear hk2)|(go_at_call 155;refine(Zi0 hR hs hq1 H2.out).mono ?_;rintro e w5 ⟨rfl,hk2⟩))
        exact⟨rfl,Jq HR.out ⟨rfl,hK.trans hk2⟩⟩
      | ok v =>
        obtain⟨hi,q2⟩:=v;obtain⟨FO,xe,hhi⟩:=ZS hq1 h2;have H2:Hid (Zu s (q+1)=.ok (hi,q2)):=h2
        by_cases hbad:q2=q+1\/(hi:Int)<(lo:Int)
        ·have HR:Hid (Zg s p=.error (q+1)):=by
          show _ = _;simp only[Zg,h1,eO,hc,h2];rw[if_neg (by simp),if_pos trivial]
          by_cases e:q2=q+1
          ·subst e;simp[hb]
          ·have hl:hi<lo:=by omega
           simp[e,hl]
         have yz:Hid (q2=q+1\/(hi:Int)<(lo:Int)):=hbad;clear h1 eO hc hb h2 hbad;go_enter Tryz.func143,Tryz.ntmps143;go_wp2_with(first|(go_at_call_of 155 (Value.int .i64 0);refine(Jf h hs hp H1.out HQ.out).mono ?_;clear h;rintro e w2 ⟨rfl,hR,hK⟩)|(go_at_call 76;refine(Z4 hR hs gy (b:=44) (by decide) HC.out).mono ?_;clear hR;rintro e w3 ⟨rfl,hR,hk2⟩;replace hK:=hK.trans hk2;clear hk2)|(go_at_call 95;refine(QD hR hs hq1 (b:=125) (by decide) HT.out).mono ?_;rintro e w4 ⟨rfl,n,hn⟩;have hk2:Za ai w3 w4:=(by rw[hn];exact(Za.refl _ _).drewN _);clear hn;replace hR:=hR.keeps hk2 id;replace hK:=hK.trans hk2.none;clear hk2)|(go_at_call 155;refine(Zi1 hR hs hq1 H2.out yz.out).mono ?_;rintro e w5 ⟨rfl,hk2⟩))
         exact⟨rfl,Jq HR.out ⟨rfl,hK.trans hk2⟩⟩
        ·have yz:Hid (¬(q2=q+1\/(hi:Int)<(lo:Int))):=hbad;have hn1:¬q2=q+1:=by omega
         have hn2:¬hi<lo:=by omega
         by_cases hb2:bt s q2=125
         ·have HR:Hid (Zg s p=.ok ((lo:Int),(hi:Int),q2+1)):=(by show _ = _;simp[Zg,h1,eO,hc,h2,hn1,hn2,hb2]);have HB2:Hid (bt s q2=125):=hb2;clear h1 eO hc hb h2 hbad hn1 hn2 hb2;go_enter Tryz.func143,Tryz.ntmps143;go_wp2_with(first|(go_at_call_of 155 (Value.int .i64 0);refine(Jf h hs hp H1.out HQ.out).mono ?_;clear h;rintro e w2 ⟨rfl,hR,hK⟩)|(go_at_call 76;refine(Z4 hR hs gy (b:=44) (by decide) HC.out).mono ?_;clear hR;rintro e w3 ⟨rfl,hR,hk2⟩;replace hK:=hK.trans hk2;clear hk2)|(go_at_call 95;refine(QD hR hs hq1 (b:=125) (by decide) HT.out).mono ?_;rintro e w4 ⟨rfl,n,hn⟩;have hk2:Za ai w3 w4:=(by rw[hn];exact(Za.refl _ _).drewN _);clear hn;replace hR:=hR.keeps hk2 id;replace hK:=hK.trans hk2.none;clear hk2)|(go_at_call 155;refine(Jf hR hs hq1 H2.out yz.out).mono ?_;clear hR;rintro e w5 ⟨rfl,hR,hk2⟩;replace hK:=hK.trans hk2;clear hk2)|(go_at_call 144;refine(JM hR hs xe (b:=125) (by decide) HB2.out).mono ?_;clear hR;rintro e w6 ⟨rfl,hR,hk2⟩;replace hK:=hK.trans hk2;clear hk2))
          go_ret2;exact Ug HR.out hR hK
         ·have HR:Hid (Zg s p=.error q2):=(by show _ = _;simp[Zg,h1,eO,hc,h2,hn1,hn2,hb2]);have HB2:Hid (bt s q2≠125):=hb2;clear h1 eO hc hb h2 hbad hn1 hn2 hb2;go_enter Tryz.func143,Tryz.ntmps143;go_wp2_with(first|(go_at_call_of 155 (Value.int .i64 0);refine(Jf h hs hp H1.out HQ.out).mono ?_;clear h;rintro e w2 ⟨rfl,hR,hK⟩)|(go_at_call 76;refine(Z4 hR hs gy (b:=44) (by decide) HC.out).mono ?_;clear hR;rintro e w3 ⟨rfl,hR,hk2⟩;replace hK:=hK.trans hk2;clear hk2)|(go_at_call 95;refine(QD hR hs hq1 (b:=125) (by decide) HT.out).mono ?_;rintro e w4 ⟨rfl,n,hn⟩;have hk2:Za ai w3 w4:=(by rw[hn];exact(Za.refl _ _).drewN _);clear hn;replace hR:=hR.keeps hk2 id;replace hK:=hK.trans hk2.none;clear hk2)|(go_at_call 155;refine(Jf hR hs hq1 H2.out yz.out).mono ?_;clear hR;rintro e w5 ⟨rfl,hR,hk2⟩;replace hK:=hK.trans hk2;clear hk2)|(go_at_call 144;refine(Tn hR hs xe (b:=125) (by decide) HB2.out).mono ?_;rintro e w6 ⟨rfl,n,hn⟩;have hk2:Za ai w5 w6:=(by rw[hn];exact(Za.refl _ _).drewN _);clear hn;replace hK:=hK.trans hk2.none;clear hk2))
          exact⟨rfl,Jq HR.out ⟨rfl,hK⟩⟩
    ·have HC:Hid (bt s q≠44):=hc
     by_cases hb:bt s q=125
     ·have HR:Hid (Zg s p=.ok ((lo:Int),(lo:Int),q+1)):=(by show _ = _;simp[Zg,h1,eO,hb]);have HB:Hid (bt s q=125):=hb;clear h1 eO hc hb;go_enter Tryz.func143,Tryz.ntmps143;go_wp2_with(first|(go_at_call 155;refine(Jf h hs hp H1.out HQ.out).mono ?_;clear h;rintro e w2 ⟨rfl,hR,hK⟩)|(go_at_call 76;refine(vU hR hs gy (b:=44) (by decide) HC.out).mono ?_;rintro e w3 ⟨rfl,n,hn⟩;have hk2:Za ai w2 w3:=(by rw[hn];exact(Za.refl _ _).drewN _);clear hn;replace hR:=hR.keeps hk2 id;replace hK:=hK.trans hk2.none;clear hk2)|(go_at_call 144;refine(JM hR hs gy (b:=125) (by decide) HB.out).mono ?_;clear hR;rintro e w5 ⟨rfl,hR,hk2⟩;replace hK:=hK.trans hk2;clear hk2))
      go_ret2;exact Ug HR.out hR hK
     ·have HR:Hid (Zg s p=.error q):=(by show _ = _;simp[Zg,h1,eO,hc,hb]);have HB:Hid (bt s q≠125):=hb;clear h1 eO hc hb;go_enter Tryz.func143,Tryz.ntmps143;go_wp2_with(first|(go_at_call 155;refine(Jf h hs hp H1.out HQ.out).mono ?_;clear h;rintro e w2 ⟨rfl,hR,hK⟩)|(go_at_call 76;refine(vU hR hs gy (b:=44) (by decide) HC.out).mono ?_;rintro e w3 ⟨rfl,n,hn⟩;have hk2:Za ai w2 w3:=(by rw[hn];exact(Za.refl _ _).drewN _);clear hn;replace hR:=hR.keeps hk2 id;replace hK:=hK.trans hk2.none;clear hk2)|(go_at_call 144;refine(Tn hR hs gy (b:=125) (by decide) HB.out).mono ?_;rintro e w6 ⟨rfl,n,hn⟩;have hk2:Za ai w3 w6:=(by rw[hn];exact(Za.refl _ _).drewN _);clear hn;replace hK:=hK.trans hk2.none;clear hk2))
      exact⟨rfl,Jq HR.out ⟨rfl,hK⟩⟩
def JR (R:Nat) (s:ByteArray) (g d:Int) (r:Except Nat (Option (Int×Int)×Nat)) (w:World) (e:Ending) (w':World):Prop :=
 match r with
 | .error x=>Z0 R x w e w'
 | .ok (none,q)=>e=.returned (.tuple #[.int .i64 0,.int .i64 0,.bool false])/\Rc w' R s q g d/\Za (·=R) w w'
 | .ok (some (lo,hi),q)=>e=.returned (.tuple #[.int .i64 lo,.int .i64 hi,.bool true])/\Rc w' R s q g d/\Za (·=R) w w'
theorem ZgM{r:Except Nat (Option (Int×Int)×Nat)}(hr:r=.error x)(h:Z0 R x w e w'):JR R s g d r w e w':=by
 subst hr;exact h
theorem Zfv{r:Except Nat (Option (Int×Int)×Nat)}{q:Nat}(hr:r=.ok (none,q))(hR:Rc w' R s q g d)(hK:Za (·=R) w w'):JR R s g d r w (.returned (.tuple #[.int .i64 0,.int .i64 0,.bool false])) w':=by
 subst hr;exact⟨rfl,hR,hK⟩
theorem JO{r:Except Nat (Option (Int×Int)×Nat)}{q:Nat}(hr:r=.ok (some (lo,hi),q))(hR:Rc w' R s q g d)(hK:Za (·=R) w w'):JR R s g d r w (.returned (.tuple #[.int .i64 lo,.int .i64 hi,.bool true])) w':=by
 subst hr;exact⟨rfl,hR,hK⟩
theorem Ze{n:Nat}(h:w'=w.drewN n):Za ai w w':=by subst h;exact(Za.refl _ _).drewN _
theorem QP(h:Rc w R s p g d)(hs:s.size<=120)(hp:p<=s.size)(hlt:b<256)(hb:bt s p≠b):
  au 76 #[ae R,.int .u8 b] w fun e w'=>e=.returned (.bool false)/\Rc w' R s p g d/\Za (·=R) w w' :=
 (vU h hs hp hlt hb).mono fun e w' ⟨h1,n,hn⟩=>⟨h1,h.keeps (Ze hn) id,(Ze hn).none⟩
theorem Znh{q:Nat}(hR:Rc w R s q g d)(hs:s.size<=120)(hq:q<=s.size)(hb:bt s q=42):
  au 132 #[ae R] w (JR R s g d (ZG s q) w):=by
 have HR:Hid (ZG s q=.ok (some ((0:Int),(-1:Int)),q+1)):=(by show _ = _;simp[ZG,hb]);have HB:Hid (bt s q=42):=hb;clear hb;have hK:=Za.refl (·=R) w;go_enter Tryz.func132,Tryz.ntmps132;go_wp2_with(first|(go_at_call_of 76 (Value.int .u8 42);refine(Z4 hR hs hq (b:=42) (by decide) HB.out).mono ?_;clear hR;rintro e w2 ⟨rfl,hR,hk2⟩;replace hK:=hK.trans hk2;clear hk2))
 refine bodyPost_ret (v:=.tuple #[.int .i64 0,.int .i64 (-1),.bool true]) (by simp[results,Tryz.results132,go_sem]) rfl ?_;exact JO HR.out hR hK
theorem Zng{q:Nat}(hR:Rc w R s q g d)(hs:s.size<=120)(hq:q<=s.size)(n42:bt s q≠42)(hb:bt s q=43):
  au 132 #[ae R] w (JR R s g d (ZG s q) w):=by
 have HR:Hid (ZG s q=.ok (some ((1:Int),(-1:Int)),q+1)):=(by show _ = _;simp[ZG,hb]);have zF:Hid (bt s q≠42):=n42;have HB:Hid (bt s q=43):=hb;clear n42 hb;have hK:=Za.refl (·=R) w;go_enter Tryz.func132,Tryz.ntmps132;go_wp2_with(first|(go_at_call_of 76 (Value.int .u8 42);refine(QP hR hs hq (b:=42) (by decide) zF.out).mono ?_;clear hR;rintro e w2 ⟨rfl,hR,hk2⟩;replace hK:=hK.trans hk2;clear hk2)|(go_at_call_of 76 (Value.int .u8 43);refine(Z4 hR hs hq (b:=43) (by decide) HB.out).mono ?_;clear hR;rintro e w3 ⟨rfl,hR,hk2⟩;replace hK:=hK.trans hk2;clear hk2))
 refine bodyPost_ret (v:=.tuple #[.int .i64 1,.int .i64 (-1),.bool true]) (by simp[results,Tryz.results132,go_sem]) rfl ?_;exact JO HR.out hR hK
theorem Znf{q:Nat}(hR:Rc w R s q g d)(hs:s.size<=120)(hq:q<=s.size)(n42:bt s q≠42)(n43:bt s q≠43)(hb:bt s q=63):
  au 132 #[ae R] w (JR R s g d (ZG s q) w):=by
 have HR:Hid (ZG s q=.ok (some ((0:Int),(1:Int)),q+1)):=(by show _ = _;simp[ZG,hb]);have zF:Hid (bt s q≠42):=n42;have El:Hid (bt s q≠43):=n43;have HB:Hid (bt s q=63):=hb;clear n42 n43 hb;have hK:=Za.refl (·=R) w;go_enter Tryz.func132,Tryz.ntmps132;go_wp2_with(first|(go_at_call_of 76 (Value.int .u8 42);refine(QP hR hs hq (b:=42) (by decide) zF.out).mono ?_;clear hR;rintro e w2 ⟨rfl,hR,hk2⟩;replace hK:=hK.trans hk2;clear hk2)|(go_at_call_of 76 (Value.int .u8 43);refine(QP hR hs hq (b:=43) (by decide) El.out).mono ?_;clear hR;rintro e w3 ⟨rfl,hR,hk2⟩;replace hK:=hK.trans hk2;clear hk2)|(go_at_call_of 76 (Value.int .u8 63);refine(Z4 hR hs hq (b:=63) (by decide) HB.out).mono ?_;clear hR;rintro e w4 ⟨rfl,hR,hk2⟩;replace hK:=hK.trans hk2;clear hk2))
 refine bodyPost_ret (v:=.tuple #[.int .i64 0,.int .i64 1,.bool true]) (by simp[results,Tryz.results132,go_sem]) rfl ?_;exact JO HR.out hR hK
theorem Zku{q:Nat}(hR:Rc w R s q g d)(hs:s.size<=120)(hq:q<=s.size)(n42:bt s q≠42)(n43:bt s q≠43)(n63:bt s q≠63)(hb:bt s q=123):
  au 132 #[ae R] w (JR R s g d (ZG s q) w):=by
 have zF:Hid (bt s q≠42):=n42;have El:Hid (bt s q≠43):=n43;have MZ:Hid (bt s q≠63):=n63;have HB:Hid (bt s q=123):=hb;have hlt:=Zn hb (by decide);have hq1:q+1<=s.size:=hlt;have hK:=Za.refl (·=R) w
 cases hc:Zg s (q+1) with
 | error x =>
   have HR:Hid (ZG s q=.error x):=(by show _ = _;simp[ZG,hb,hc]);have HC:Hid (Zg s (q+1)=.error x):=hc;clear hc n42 n43 n63 hb;go_enter Tryz.func132,Tryz.ntmps132;go_wp2_with(first|(go_at_call_of 76 (Value.int .u8 42);refine(QP hR hs hq (b:=42) (by decide) zF.out).mono ?_;clear hR;rintro e w2 ⟨rfl,hR,hk2⟩;replace hK:=hK.trans hk2;clear hk2)|(go_at_call_of 76 (Value.int .u8 43);refine(QP hR hs hq (b:=43) (by decide) El.out).mono ?_;clear hR;rintro e w3 ⟨rfl,hR,hk2⟩;replace hK:=hK.trans hk2;clear hk2)|(go_at_call_of 76 (Value.int .u8 63);refine(QP hR hs hq (b:=63) (by decide) MZ.out).mono ?_;clear hR;rintro e w4 ⟨rfl,hR,hk2⟩;replace hK:=hK.trans hk2;clear hk2)|(go_at_call_of 76 (Value.int .u8 123);refine(Z4 hR hs hq (b:=123) (by decide) HB.out).mono ?_;clear hR;rintro e w5 ⟨rfl,hR,hk2⟩;replace hK:=hK.trans hk2;clear hk2)|(go_at_call 143;refine(ZeE hR hs hq1).mono ?_;rw[HC.out];rintro e w6 ⟨rfl,hk2⟩))
   exact⟨rfl,ZgM HR.out ⟨rfl,hK.trans hk2⟩⟩
 | ok v =>
   obtain⟨lo,hi,q2⟩:=v;have HR:Hid (ZG s q=.ok (some (lo,hi),q2)):=(by show _ = _;simp[ZG,hb,hc]);have HC:Hid (Zg s (q+1)=.ok (lo,hi,q2)):=hc;clear hc n42 n43 n63 hb;go_enter Tryz.func132,Tryz.ntmps132;go_wp2_with(first|(go_at_call_of 76 (Value.int .u8 42);refine(QP hR hs hq (b:=42) (by decide) zF.out).mono ?_;clear hR;rintro e w2 ⟨rfl,hR,hk2⟩;replace hK:=hK.trans hk2;clear hk2)|(go_at_call_of 76 (Value.int .u8 43);refine(QP hR hs hq (b:=43) (by decide) El.out).mono ?_;clear hR;rintro e w3 ⟨rfl,hR,hk2⟩;replace hK:=hK.trans hk2;clear hk2)|(go_at_call_of 76 (Value.int .u8 63);refine(QP hR hs hq (b:=63) (by decide) MZ.out).mono ?_;clear hR;rintro e w4 ⟨rfl,hR,hk2⟩;replace hK:=hK.trans hk2;clear hk2)|(go_at_call_of 76 (Value.int .u8 123);refine(Z4 hR hs hq (b:=123) (by decide) HB.out).mono ?_;clear hR;rintro e w5 ⟨rfl,hR,hk2⟩;replace hK:=hK.trans hk2;clear hk2)|(go_at_call 143;refine(ZeE hR hs hq1).mono ?_;rw[HC.out];clear hR;rintro e w6 ⟨rfl,hR,hk2⟩;replace hK:=hK.trans hk2;clear hk2))
   refine bodyPost_ret (v:=.tuple #[.int .i64 lo,.int .i64 hi,.bool true]) (by simp[results,Tryz.results132,go_sem]) rfl ?_;exact JO HR.out hR hK
theorem ZhW{q:Nat}(hR:Rc w R s q g d)(hs:s.size<=120)(hq:q<=s.size)(n42:bt s q≠42)(n43:bt s q≠43)(n63:bt s q≠63)(n123:bt s q≠123):
  au 132 #[ae R] w (JR R s g d (ZG s q) w):=by
 have HR:Hid (ZG s q=.ok (none,q)):=(by show _ = _;simp[ZG,n42,n43,n63,n123]);have zF:Hid (bt s q≠42):=n42;have El:Hid (bt s q≠43):=n43;have MZ:Hid (bt s q≠63):=n63;have UJ:Hid (bt s q≠123):=n123;clear n42 n43 n63 n123;have hK:=Za.refl (·=R) w;go_enter Tryz.func132,Tryz.ntmps132;go_wp2_with(first|(go_at_call_of 76 (Value.int .u8 42);refine(QP hR hs hq (b:=42) (by decide) zF.out).mono ?_;clear hR;rintro e w2 ⟨rfl,hR,hk2⟩;replace hK:=hK.trans hk2;clear hk2)|(go_at_call_of 76 (Value.int .u8 43);refine(QP hR hs hq (b:=43) (by decide) El.out).mono ?_;clear hR;rintro e w3 ⟨rfl,hR,hk2⟩;replace hK:=hK.trans hk2;clear hk2)|(go_at_call_of 76 (Value.int .u8 63);refine(QP hR hs hq (b:=63) (by decide) MZ.out).mono ?_;clear hR;rintro e w4 ⟨rfl,hR,hk2⟩;replace hK:=hK.trans hk2;clear hk2)|(go_at_call_of 76 (Value.int .u8 123);refine(QP hR hs hq (b:=123) (by decide) UJ.out).mono ?_;clear hR;rintro e w5 ⟨rfl,hR,hk2⟩;replace hK:=hK.trans hk2;clear hk2))
 refine bodyPost_ret (v:=.tuple #[.int .i64 0,.int .i64 0,.bool false]) (by simp[results,Tryz.results132,go_sem]) rfl ?_;exact Zfv HR.out hR hK
theorem MS{q:Nat}(hR:Rc w R s q g d)(hs:s.size<=120)(hq:q<=s.size):
  au 132 #[ae R] w (JR R s g d (ZG s q) w):=by
 by_cases h1:bt s q=42
 ·exact Znh hR hs hq h1
 by_cases h2:bt s q=43
 ·exact Zng hR hs hq h1 h2
 by_cases h3:bt s q=63
 ·exact Znf hR hs hq h1 h2 h3
 by_cases h4:bt s q=123
 ·exact Zku hR hs hq h1 h2 h3 h4
 exact ZhW hR hs hq h1 h2 h3 h4
end Go.Proofs.YtfkflljplohhcaaGreatDoor
