import Derived.Test.YtfkflljplohhcaaGreatDoorR
set_option maxHeartbeats 4000000
set_option maxRecDepth 100000
namespace Go.Proofs.YtfkflljplohhcaaGreatDoor
open Go.RowKit
set_option linter.unusedVariables false
theorem Zih {w:World} {R:Nat} {s:ByteArray} {p:Nat} {g d:Int} (h:Rc w R s p g d) (hs:s.size<=120) (hp:p < s.size) :
  Calls Tryz.prog 145 #[.pointer (some ⟨R,0,none⟩)] w (ZcR R s g d (Qw s p) w):=by
 unfold Qw
 cases he:Zm s p with
 | error x=>exact Zoc h hs hp he
 | ok v =>
   obtain ⟨S,o,q⟩:=v
   cases o with
   | none=>exact Zlt h hs hp he
   | some lo =>
     by_cases hc:bt s q=45/\bt s (q + 1)≠93
     ·simp only [if_pos hc]
      by_cases h25:bt s (q + 1)=256
      ·rw [if_pos h25]; exact Zlw h hs hp he hc h25
      ·rw [if_neg h25];have hend:q + 1 < s.size:=by
        apply Decidable.byContradiction; intro hn; exact h25 (Z7 hn)
       cases he2:Zm s (q + 1) with
       | error x=>exact ZdG h hs hp he hc hend he2
       | ok v =>
         obtain ⟨S2,o2,q2⟩:=v
         cases o2 with
         | none=>exact Zdi h hs hp he hc hend he2
         | some hi =>
           by_cases hl:hi < lo
           ·simp only [if_pos hl]; exact ZdF h hs hp he hc hend he2 hl
           ·simp only [if_neg hl]; exact Zjq h hs hp he hc hend he2 hl
     ·simp only [if_neg hc]; exact Zg5 h hs hp he hc
theorem Zif {w:World} {R:Nat} {s:ByteArray} {p x:Nat} {g d:Int} (h:Rc w R s p g d) (hs:s.size<=120) (hp:p < s.size) (he:Qw s p = .error x) :
  Calls Tryz.prog 145 #[.pointer (some ⟨R,0,none⟩)] w (ZY R x w) :=
 (Zih h hs hp).mono fun e w' hn=>by rw [he] at hn; exact hn
theorem Zlr {w:World} {R:Nat} {s:ByteArray} {p q:Nat} {S:Bs} {g d:Int} (h:Rc w R s p g d) (hs:s.size<=120) (hp:p < s.size) (he:Qw s p = .ok (S,q)) :
  Calls Tryz.prog 145 #[.pointer (some ⟨R,0,none⟩)] w (QP R s g d S q w) :=
 (Zih h hs hp).mono fun e w' hn=>by rw [he] at hn; exact hn
def ZmX (s:ByteArray) (p:Nat) (neg:Bool) (res:Except Nat (Bs×Nat)):Prop :=
 (∀x,res = .error x->Zx s p = .error x)/\(∀S q,res = .ok (S,q)->Zx s p = .ok (if neg then co S else S,q))
theorem Zi3 {s:ByteArray} {p:Nat} (h:bt s p=94):ZmX s p true (Zo s (s.size + 1) (p + 1) JR true):=by
 constructor
 ·intro x hx; simp [Zx,h,hx]
 ·intro S q hx; simp [Zx,h,hx]
theorem Zi2 {s:ByteArray} {p:Nat} (h:bt s p≠94):ZmX s p false (Zo s (s.size + 1) p JR true):=by
 constructor
 ·intro x hx; simp [Zx,h,hx]
 ·intro S q hx; simp [Zx,h,hx]
theorem Zp9 (S:Bs):un JR S=S:=by funext x; simp [un,JR]
theorem J6 {R:Nat} {s:ByteArray} {g d:Int} {r:Except Nat (Bs×Nat)} {x:Nat} {w:World} {e:Ending} {w':World} (hr:r = .error x) (h:ZY R x w e w'):ZcR R s g d r w e w':=by
 subst hr; exact h
theorem Zdk {R:Nat} {s:ByteArray} {g d:Int} {r:Except Nat (Bs×Nat)} {S:Bs} {q:Nat} {w:World} {e:Ending} {w':World} (hr:r = .ok (S,q)) (h:QP R s g d S q w e w'):ZcR R s g d r w e w':=by
 subst hr; exact h
def Zti (s:ByteArray) (R P F:Nat) (g d:Int) (w:World) (r:Except Nat (Bs×Nat)) (fu:Nat) (wr:World):Prop :=
 ∃(q:Nat) (S:Bs) (f:Nat->Nat),q<=s.size/\s.size + 1<=fu + q/\Aside (Zo s fu q S false=r)/\Rc wr R s q g d/\Bv S f/\Sb wr F f/\Sb wr P (fun _=>0)/\Za (fun k=>k=R) w wr
theorem Zqj {w:World} {P:Nat} {f:Nat->Nat} (h:Sb w P f) (f':Nat->Nat):Sb ((((w.setCell ⟨P,0,none⟩ (.int .u64 (f' 0))).setCell ⟨P,1,none⟩ (.int .u64 (f' 1))).setCell ⟨P,2,none⟩ (.int .u64 (f' 2))).setCell ⟨P,3,none⟩ (.int .u64 (f' 3))) P f':=by
 have h1:=h.set (q:=0) (by omega) (f' 0) (f':=fun i=>if i=0 then f' 0 else f i) (by intro i _; rfl);have h2:=h1.set (q:=1) (by omega) (f' 1) (f':=fun i=>if i=1 then f' 1 else if i=0 then f' 0 else f i) (by intro i _; rfl);have h3:=h2.set (q:=2) (by omega) (f' 2) (f':=fun i=>if i=2 then f' 2 else if i=1 then f' 1 else if i=0 then f' 0 else f i) (by intro i _; rfl);exact h3.set (q:=3) (by omega) (f' 3) (f':=f') (by intro i hi; rcases (show i=0\/i=1\/i=2\/i=3 from by omega) with e | e | e | e <;> subst e <;> rfl)
theorem Zjn (w:World) (P:Nat) {a b c d:Value}:Za (fun k=>k=P) w ((((w.setCell ⟨P,0,none⟩ a).setCell ⟨P,1,none⟩ b).setCell ⟨P,2,none⟩ c).setCell ⟨P,3,none⟩ d) :=
 ((((Za.refl (fun k=>k=P) w).setCell (fun _=>rfl) _).setCell (fun _=>rfl) _).setCell (fun _=>rfl) _).setCell (fun _=>rfl) _
theorem ZkA {w:World} {R:Nat} {s:ByteArray} {p:Nat} {g d:Int} (h:Rc w R s p g d) (hs:s.size<=120) (hp:p<=s.size) :
  Calls Tryz.prog 134 #[.pointer (some ⟨R,0,none⟩)] w (ZcR R s g d (Zx s p) w):=by
 have hne:=h.lt;have hR1:Rc (w.alloc (.cells #[.int .u64 0,.int .u64 0,.int .u64 0,.int .u64 0] 170)) R s p g d:=h.keeps ((Za.refl N0_ w).alloc _) id;have hK1:Za (fun k=>k=R) w (w.alloc (.cells #[.int .u64 0,.int .u64 0,.int .u64 0,.int .u64 0] 170)):=(Za.refl _ w).alloc _;have hr1:Sb (w.alloc (.cells #[.int .u64 0,.int .u64 0,.int .u64 0,.int .u64 0] 170)) w.heap.size (fun _=>0):=heap_alloc_new w _;clear h;go_enter Tryz.func134,Tryz.ntmps134;go_upto_region 1 with fail;generalize (w.alloc (.cells #[.int .u64 0,.int .u64 0,.int .u64 0,.int .u64 0] 170))=w1 at hR1 hK1 hr1 ⊢;go_cut [3] from 5 (fun n3 wc =>∃(neg:Bool) (p':Nat),n3 = .bool neg/\p'<=s.size/\Aside (ZmX s p neg (Zo s (s.size + 1) p' JR true))/\Rc wc R s p' g d/\Sb wc w.heap.size (fun _=>0)/\Za (fun k=>k=R) w wc)
 case first =>
  by_cases hb:bt s p=94
  ·have HB:Hid (bt s p=94):=hb;have hlt:=Zt hb (by decide);clear hb;go_wp2_with (first
    | (go_at_call 76; refine (Z2 hR1 hs hp (b:=94) (by decide) HB.out).mono ?_; rintro e w2 ⟨rfl,hR2,hk2⟩))
   go_meet
   case rel=>exact ⟨true,p + 1,rfl,by omega,Zi3 HB.out,hR2,hr1.keeps hk2 (by omega),hK1.trans hk2⟩
  ·have HB:Hid (bt s p≠94):=hb;clear hb;go_wp2_with (first
    | (go_at_call 76; refine (J9 hR1 hs hp (b:=94) (by decide) HB.out).mono ?_; rintro e w2 ⟨rfl,n,rfl⟩))
   go_meet
   case rel=>exact ⟨false,p,rfl,hp,Zi2 HB.out,hR1.drewN _,hr1.keeps ((Za.refl N0_ _).drewN _) id,hK1.drewN _⟩
 case rest =>
  clear hR1 hK1 hr1;obtain ⟨neg,p',rfl,hp',HRes,hR,hr1,hK⟩:=hcut;obtain ⟨res,hres⟩ :∃res,Zo s (s.size + 1) p' JR true=res:=⟨_,rfl⟩;rw [hres] at HRes
  by_cases hend:p'=s.size
  ·have HP:Hid (p'=s.size):=hend;have HX:Hid (Zx s p = .error p'):=HRes.1 p' (by rw [<- hres]; exact Zab hend (by omega));clear hend hres HRes;go_wp2_with (first
    | (go_at_call 145; refine (Zig hR hs HP.out).mono ?_; rintro e w2 ⟨rfl,hk2⟩))
   exact ⟨rfl,J6 HX.out ⟨rfl,hK.trans hk2⟩⟩
  ·have hlt:p' < s.size:=by omega
   rcases Zef hlt (by omega) (Or.inr rfl) hres with ⟨x,e1,e2⟩ | ⟨S1,q,f',e1,e2,e3,e4,e5,e6⟩
   ·have HE:Hid (Qw s p' = .error x):=e1;have HX:Hid (Zx s p = .error x):=HRes.1 x e2;clear e1 e2 hres HRes;go_wp2_with (first
     | (go_at_call 145; refine (Zif hR hs hlt HE.out).mono ?_; rintro e w2 ⟨rfl,hk2⟩))
    exact ⟨rfl,J6 HX.out ⟨rfl,hK.trans hk2⟩⟩
   ·have HE:Hid (Qw s p' = .ok (S1,q)):=e2;rw [Zp9] at e3;have HF:Hid (s.size=f'):=(by show _ = _; omega);clear e1 e2 hres;go_wp2_with (first
     | (go_at_call 145; refine (Zlr hR hs hlt HE.out).mono ?_; rintro e w2 ⟨f,hf,rfl,hR2,hk2⟩; replace hr1:=hr1.keeps hk2 (by omega); replace hk2:=hK.trans hk2))
    have hPF:w.heap.size < w2.heap.size:=lt_of_block hr1;obtain ⟨w3,hw⟩ :∃w3,w3=ZcJ w2 f:=⟨_,rfl⟩;have hS:Sb w3 w2.heap.size f:=hw ▸ ZaQ w2 f;have hk3:Za N0_ w2 w3:=hw ▸ QC w2 f
    delta ZcJ at hw
    rw [<- hw];clear hw;replace hr1:=hr1.keeps hk3 id;replace hR2:=hR2.keeps hk3 id;have hs2:=hk2.size;replace hk2:=hk2.trans hk3.none;clear hk3;generalize hF:w2.heap.size=F at hS hs2 hPF ⊢;clear hF;go_loopg [] (s.size) (fun fu wr=>Zti s R w.heap.size F g d w res fu wr)
    case atStart=>exact ⟨q,S1,f,e5,by have:=HF.out; omega,by have:=HF.out; subst this; exact e3,hR2,hf,hS,hr1,hk2⟩
    case round =>
     clear hR2 hf hS hr1 hk2 e3 e4 e5 e6 hR hK HE HF;obtain ⟨q,S,f,hq,hfu,hloop,hR,hf,hS,hr1,hK⟩:=hrel
     by_cases hb:bt s q=93
     ·have HB:Hid (bt s q=93):=hb;have HX:Hid (Zx s p = .ok (if neg then co S else S,q + 1)):=HRes.2 S (q + 1) (by rw [<- hloop]; exact ZcC hb (by omega));clear hb hloop HRes
      cases neg with
      | false =>
        have HX:Hid (Zx s p = .ok (S,q + 1)):=HX.out;go_wp2_with (first
         | (go_at_call 76; refine (Z2 hR hs hq (b:=93) (by decide) HB.out).mono ?_; clear hR; rintro e w4 ⟨rfl,hR,hk2⟩; replace hS:=hS.keeps hk2 (by omega); replace hr1:=hr1.keeps hk2 (by omega); replace hK:=hK.trans hk2; clear hk2; have c0:=hS.cell (q:=0) (by omega); have c1:=hS.cell (q:=1) (by omega); have c2:=hS.cell (q:=2) (by omega); have c3:=hS.cell (q:=3) (by omega); have e0:=hr1.cell (q:=0) (by omega); have e1:=hr1.cell (q:=1) (by omega); have e2:=hr1.cell (q:=2) (by omega); have e3:=hr1.cell (q:=3) (by omega); have ef:=hr1.fz))
        refine bodyPost_ret (v:=.agg #[.int .u64 (f 0),.int .u64 (f 1),.int .u64 (f 2),.int .u64 (f 3)]) (by simp [results,Tryz.results134,go_sem,e0,e1,e2,e3]) rfl ?_;exact Zdk HX.out ⟨f,hf,rfl,hR.set4 (by omega),hK.set4 (by omega)⟩
      | true =>
        have HX:Hid (Zx s p = .ok (co S,q + 1)):=HX.out;go_wp2_with (first
         | (go_at_call 76; refine (Z2 hR hs hq (b:=93) (by decide) HB.out).mono ?_; clear hR; rintro e w4 ⟨rfl,hR,hk2⟩; replace hS:=hS.keeps hk2 (by omega); replace hr1:=hr1.keeps hk2 (by omega); replace hK:=hK.trans hk2; clear hk2; have c0:=hS.cell (q:=0) (by omega); have c1:=hS.cell (q:=1) (by omega); have c2:=hS.cell (q:=2) (by omega); have c3:=hS.cell (q:=3) (by omega); clear hS)
         | (go_at_call 136; refine (ZfO hf).mono ?_; rintro e w5 ⟨f5,hf5,rfl,hk2⟩; replace hr1:=hr1.keeps hk2 id; replace hR:=hR.keeps hk2 id; replace hK:=hK.trans hk2.none; clear hk2; have e0:=hr1.cell (q:=0) (by omega); have e1:=hr1.cell (q:=1) (by omega); have e2:=hr1.cell (q:=2) (by omega); have e3:=hr1.cell (q:=3) (by omega); have ef:=hr1.fz))
        refine bodyPost_ret (v:=.agg #[.int .u64 (f5 0),.int .u64 (f5 1),.int .u64 (f5 2),.int .u64 (f5 3)]) (by simp [results,Tryz.results134,go_sem,e0,e1,e2,e3]) rfl ?_;exact Zdk HX.out ⟨f5,hf5,rfl,hR.set4 (by omega),hK.set4 (by omega)⟩
     ·have HB:Hid (bt s q≠93):=hb;go_upto_region 4 with (go_at_call 76; refine (J9 hR hs hq (b:=93) (by decide) HB.out).mono ?_; rintro e w4 ⟨rfl,n,hn⟩; have hk2:Za N0_ wr w4:=(by rw [hn]; exact (Za.refl _ _).drewN _); clear hn; replace hR:=hR.keeps hk2 id; replace hS:=hS.keeps hk2 id; replace hr1:=hr1.keeps hk2 id; replace hK:=hK.trans hk2.none; clear hk2);replace hR:=hR.drew;have c0:=hS.cell (q:=0) (by omega); have c1:=hS.cell (q:=1) (by omega); have c2:=hS.cell (q:=2) (by omega); have c3:=hS.cell (q:=3) (by omega);have hor:(∃x,Zx s p = .error x/\Calls Tryz.prog 145 #[.pointer (some ⟨R,0,none⟩)] w4.drew (ZY R x w4.drew))\/(∃S1 q1 f',q < s.size/\gk=f' + 1/\Qw s q = .ok (S1,q1)/\Zo s f' q1 (un S S1) false=res/\q < q1/\q1<=s.size/\s.size + 1<=f' + q1):=by
       by_cases hend:q=s.size
       ·exact Or.inl ⟨q,HRes.1 q (by rw [<- hloop]; exact Zab hend (by omega)),Zig hR hs hend⟩
       ·have hlt:q < s.size:=by omega
        rcases Zef hlt hfu (Or.inl hb) hloop with ⟨x,e1,e2⟩ | ⟨S1,q1,f',e1,e2,e3,e4,e5,e6⟩
        ·exact Or.inl ⟨x,HRes.1 x e2,Zif hR hs hlt e1⟩
        ·exact Or.inr ⟨S1,q1,f',hlt,e1,e2,e3,e4,e5,e6⟩
      clear hloop HRes hb
      rcases hor with ⟨x,hx,hcall⟩ | ⟨S1,q1,f',hlt,e1,e2,e3,e4,e5,e6⟩
      ·have HX:Hid (Zx s p = .error x):=hx;clear hx;refine wp_region_any (by kernel_rfl) ?_;change wpAny _ _ _ _ _ _ _ (World.drew _);refine wpAny_take (i:=1) (v:=?_) rfl (by kernel_rfl) (by kernel_rfl) (by kernel_rfl) (fun _ _ _ h=>h) (Or.inl ⟨by rfl,?_⟩) ?_
       rotate_left
       ·intro w; go_simp; with_reducible rfl
       ·refine wpAny_ready (rs := [0,2]) (by kernel_rfl) (by simp) ?_;refine AllReady.cons rfl (fun K hK'=>?_) ?_
        ·go_simp;refine hK' _ _ ?_;clear hK' K;refine wpAny_ready (rs := [2]) (by kernel_rfl) (by simp) ?_;refine AllReady.cons rfl (fun K hK'=>?_) AllReady.nil;go_simp;go_wp2_with (first
          | (go_at_call 145; refine hcall.mono ?_; rintro e w5 ⟨rfl,hk2⟩))
         exact ⟨rfl,J6 HX.out ⟨rfl,hK.trans (hkd hk2)⟩⟩
        ·refine AllReady.cons rfl (fun K hK'=>?_) AllReady.nil;go_simp;go_wp2_with (first
          | (go_at_call 145; refine hcall.mono ?_; rintro e w5 ⟨rfl,hk2⟩))
         exact ⟨rfl,J6 HX.out ⟨rfl,hK.trans (hkd hk2)⟩⟩
      ·have HE:Hid (Qw s q = .ok (S1,q1)):=e2;have HL:Hid (Zo s f' q1 (un S S1) false=res):=e3;have HF:Hid (gk=f' + 1):=e1;clear e1 e2 e3;go_region_with (first
        | (go_at_call 145; refine (Zlr hR hs hlt HE.out).mono ?_; clear hR; rintro e w5 ⟨f5,hf5,rfl,hR,hk2⟩; replace hk2:=hkd hk2; replace hS:=hS.keeps hk2 (by omega); replace hr1:=hr1.keeps hk2 (by omega); replace hK:=hK.trans hk2; clear hk2; have c0:=hS.cell (q:=0) (by omega); have c1:=hS.cell (q:=1) (by omega); have c2:=hS.cell (q:=2) (by omega); have c3:=hS.cell (q:=3) (by omega))
        | (go_at_call 146; refine (Zgw hf hf5).mono ?_; rintro e w6 ⟨f6,hf6,rfl,hk2⟩; replace hS:=hS.keeps hk2 id; replace hr1:=hr1.keeps hk2 id; replace hR:=hR.keeps hk2 id; replace hK:=hK.trans hk2.none; clear hk2; have c0:=hS.cell (q:=0) (by omega); have c1:=hS.cell (q:=1) (by omega); have c2:=hS.cell (q:=2) (by omega); have c3:=hS.cell (q:=3) (by omega); have cf:=hS.fz))
       all_goals go_wp2_with fail
       all_goals go_roundg f'
       all_goals first
        | exact ⟨q1,un S S1,f6,e5,e6,HL.out,hR.set4 (by omega),hf6,Zqj hS f6,hr1.keeps (Zjn w6 F) (by omega),hK.set4 (by omega)⟩
        | (have:=HF.out; omega)
def Zp1 (R:Nat) (s:ByteArray) (g d:Int) (p:Nat) (least:Int) (w:World) (e:Ending) (w':World):Prop :=
 match Zw s p with
 | .error x=>ZY R x w e w'
 | .ok (n,q)=>if q=p\/(n:Int) < least then ZY R p w e w' else e = .returned (.int .i64 n)/\Rc w' R s q g d/\Za (fun k=>k=R) w w'
theorem ZbM {s:ByteArray} {from_ fu p n:Nat} (h:ZU (bt s p)=false):Qh s from_ (fu + 1) p n = .ok (n,p):=by simp [Qh,h]
theorem ZfZ {s:ByteArray} {from_ fu p n:Nat} (h:ZU (bt s p)=true) (hb:50 < n * 10 + (bt s p - 48)):Qh s from_ (fu + 1) p n = .error from_:=by simp [Qh,h,hb]
theorem ZeT {s:ByteArray} {from_ fu p n:Nat} (h:ZU (bt s p)=true) (hb:¬ 50 < n * 10 + (bt s p - 48)):Qh s from_ (fu + 1) p n=Qh s from_ fu (p + 1) (n * 10 + (bt s p - 48)):=by simp [Qh,h,hb]
def Zm2 (s:ByteArray) (p fu q n:Nat):Prop:=(n<=50/\Qh s p fu q n=Zw s p)\/(n=51/\Zw s p = .error p)
def Zgq (s:ByteArray) (p q n:Nat):Prop:=(n<=50/\Zw s p = .ok (n,q))\/(n=51/\Zw s p = .error p)
theorem ZfP {s:ByteArray} {p fu q n:Nat} (h:Zm2 s p (fu + 1) q n) (hd:ZU (bt s q)=false):Zgq s p q n:=by
 rcases h with ⟨h1,h2⟩ | h
 ·exact Or.inl ⟨h1,by rw [<- h2]; exact ZbM hd⟩
 ·exact Or.inr h
theorem Zjc {s:ByteArray} {p fu q n:Nat} (h:Zm2 s p (fu + 1) q n) (hd:ZU (bt s q)=true):Zm2 s p fu (q + 1) (min (n * 10 + (bt s q - 48)) 51):=by
 rcases h with ⟨h1,h2⟩ | ⟨h1,h2⟩
 ·by_cases hb:50 < n * 10 + (bt s q - 48)
  ·exact Or.inr ⟨by omega,by rw [<- h2]; exact ZfZ hd hb⟩
  ·exact Or.inl ⟨by omega,by rw [<- h2,ZeT hd hb,Nat.min_eq_left (by omega)]⟩
 ·exact Or.inr ⟨by omega,h2⟩
theorem JM {R:Nat} {s:ByteArray} {g d:Int} {p q n:Nat} {least:Int} {w:World} {e:Ending} {w':World} (h:Zgq s p q n) (hc:q=p\/(n:Int) < least\/50 < n) (hf:ZY R p w e w'):Zp1 R s g d p least w e w':=by
 unfold Zp1
 rcases h with ⟨h1,h2⟩ | ⟨h1,h2⟩
 ·rw [h2]; dsimp only; rw [if_pos (by omega)]; exact hf
 ·rw [h2]; exact hf
theorem Zly {R:Nat} {s:ByteArray} {g d:Int} {p q n:Nat} {least:Int} {w w':World} (h:Zgq s p q n) (h1:¬ q=p) (h2:¬ (n:Int) < least) (h3:¬ 50 < n) (hR:Rc w' R s q g d) (hK:Za (fun k=>k=R) w w'):Zp1 R s g d p least w (.returned (.int .i64 n)) w':=by
 unfold Zp1
 rcases h with ⟨h4,h5⟩ | ⟨h4,h5⟩
 ·rw [h5]; dsimp only; rw [if_neg (by omega)]; exact ⟨rfl,hR,hK⟩
 ·omega
theorem Zir {w:World} {b:Nat} {t:Bool} (ht:ZU b=t) :
  Calls Tryz.prog 86 #[.int .u8 b] w fun e w'=>e = .returned (.bool t)/\∃n,w'=w.drewN n:=by
 subst ht; exact Zdq
theorem Zbv {w:World} {R:Nat} {s:ByteArray} {p:Nat} {g d:Int} {least:Int} (h:Rc w R s p g d) (hs:s.size<=120) (hp:p<=s.size) :
  Calls Tryz.prog 155 #[.pointer (some ⟨R,0,none⟩),.int .i64 least] w (Zp1 R s g d p least w):=by
 have c1:=h.c1;go_enter Tryz.func155,Tryz.ntmps155;go_wp2;go_loopg [6] (s.size + 1) (fun fu x wr =>∃n q:Nat,n<=51/\p<=q/\q<=s.size/\s.size - q < fu/\x = .int .i64 n/\Aside (Zm2 s p fu q n)/\Rc wr R s q g d/\Za (fun k=>k=R) w wr)
 case atStart=>exact ⟨0,p,by omega,by omega,hp,by omega,rfl,Or.inl ⟨by omega,rfl⟩,h,Za.refl _ _⟩
 case round =>
  clear c1 h;obtain ⟨n,q,hn,hpq,hq,hfu,rfl,HN,hR,hK⟩:=hrel;obtain ⟨fu,rfl⟩ :∃f,gk=f + 1:=⟨gk - 1,by omega⟩;have c0:=hR.c0;have c1:=hR.c1
  by_cases hin:q < s.size
  ·have hqz:(q:Int) < (s.size:Int):=by omega
   have hc:s[q].toNat=bt s q:=(ZV hin).symm;have hcl:=Q9 hin;have HR:Hid (Rc wr R s q g d):=hR
   cases hd:ZU (bt s q) with
   | true =>
     have HS:Hid (Zm2 s p fu (q + 1) (min (n * 10 + (bt s q - 48)) 51)):=Zjc HN hd;have HD:Hid (ZU (bt s q)=true):=hd;have hd':48<=bt s q/\bt s q<=57:=by simpa [ZU] using hd
     obtain ⟨d1,d2⟩:=hd';clear hd HN;generalize hbb:bt s q=b at hc hcl HS HD d1 d2;go_wp2;go_quiet (first
      | (go_at_call 54; exact Calls.quiet_of (Jr (HR.out.drewN _) hin))
      | (go_at_call 86; exact Calls.quiet_of (Zir HD.out)))
     replace hR:=hR.drewN nq;replace hK:=hK.drewN nq;clear c0 c1 HR;generalize wr.drewN nq=w3 at hR hK ⊢;have HBB:Hid (bt s q=b):=hbb;clear hbb;go_wp2_with (first
      | (go_at_call 85; refine (ZC hR hs hin).mono ?_; clear hR; rintro e w4 ⟨rfl,hR,hk2⟩; rw [HBB.out]; replace hK:=hK.trans hk2; clear hk2))
     all_goals go_roundg fu
     all_goals first
      | exact ⟨min (n * 10 + (b - 48)) 51,q + 1,by omega,by omega,by omega,by omega,congrArg (Value.int .i64) (by omega),HS.out,hR,hK⟩
      | omega
   | false =>
     have HOut:Hid (Zgq s p q n):=ZfP HN hd;have HD:Hid (ZU (bt s q)=false):=hd;clear hd HN;generalize bt s q=b at hc hcl HD;go_wp2;go_quiet (first
      | (go_at_call 54; exact Calls.quiet_of (Jr (HR.out.drewN _) hin))
      | (go_at_call 86; exact Calls.quiet_of (Zir HD.out)))
     replace hR:=hR.drewN nq;replace hK:=hK.drewN nq;clear c0 c1 HR;generalize wr.drewN nq=w3 at hR hK ⊢;have c1:=hR.c1
     by_cases hqp:q=p
     ·have hz:((q:Int) == (p:Int))=true:=by simp; omega
      have HQP:Hid (q=p):=hqp;clear hqp;go_wp2;exact ⟨rfl,JM HOut.out (Or.inl HQP.out) ⟨rfl,hK⟩⟩
     ·have hz:((q:Int) == (p:Int))=false:=by simp; omega
      have HQP:Hid (¬ q=p):=hqp;clear hqp
      by_cases hl:(n:Int) < least
      ·go_wp2;exact ⟨rfl,JM HOut.out (Or.inr (Or.inl hl)) ⟨rfl,hK⟩⟩
      ·have hlz:least<=(n:Int):=by omega
       have HL:Hid (¬ (n:Int) < least):=hl;clear hl
       by_cases h5:50 < n
       ·have h5z:(50:Int) < (n:Int):=by omega
        go_wp2;exact ⟨rfl,JM HOut.out (Or.inr (Or.inr h5)) ⟨rfl,hK⟩⟩
       ·have h5z:(n:Int)<=50:=by omega
        have H5:Hid (¬ 50 < n):=h5;clear h5;go_wp2;go_ret;exact Zly HOut.out HQP.out (by omega) H5.out hR hK
  ·have HQ:Hid (q=s.size):=(by show _ = _; omega);have HR:Hid (Rc wr R s q g d):=hR;have HOut:Hid (Zgq s p q n):=ZfP HN (by rw [Z7 hin]; decide);clear HN hin;go_wp2;go_quiet (first
    | (go_at_call 54; exact Calls.quiet_of (ZaZ (HR.out.drewN _) HQ.out)))
   replace hR:=hR.drewN nq;replace hK:=hK.drewN nq;clear c0 c1 HR;generalize wr.drewN nq=w3 at hR hK ⊢;have c1:=hR.c1
   by_cases hqp:q=p
   ·have hz:((q:Int) == (p:Int))=true:=by simp; omega
    have HQP:Hid (q=p):=hqp;clear hqp;go_wp2;exact ⟨rfl,JM HOut.out (Or.inl HQP.out) ⟨rfl,hK⟩⟩
   ·have hz:((q:Int) == (p:Int))=false:=by simp; omega
    have HQP:Hid (¬ q=p):=hqp;clear hqp
    by_cases hl:(n:Int) < least
    ·go_wp2;exact ⟨rfl,JM HOut.out (Or.inr (Or.inl hl)) ⟨rfl,hK⟩⟩
    ·have hlz:least<=(n:Int):=by omega
     have HL:Hid (¬ (n:Int) < least):=hl;clear hl
     by_cases h5:50 < n
     ·have h5z:(50:Int) < (n:Int):=by omega
      go_wp2;exact ⟨rfl,JM HOut.out (Or.inr (Or.inr h5)) ⟨rfl,hK⟩⟩
     ·have h5z:(n:Int)<=50:=by omega
      have H5:Hid (¬ 50 < n):=h5;clear h5;go_wp2;go_ret;exact Zly HOut.out HQP.out (by omega) H5.out hR hK
end Go.Proofs.YtfkflljplohhcaaGreatDoor
