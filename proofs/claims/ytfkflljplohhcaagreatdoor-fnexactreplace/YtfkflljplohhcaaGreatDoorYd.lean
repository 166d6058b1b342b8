import Derived.Test.YtfkflljplohhcaaGreatDoorYc
import Derived.Deep.RegionHeld3
set_option maxHeartbeats 2000000
set_option maxRecDepth 100000
namespace Go.Proofs.YtfkflljplohhcaaGreatDoor
open Go.RowKit
set_option linter.unusedVariables false
theorem Znl {w:World} {r p fn v room:Nat} {cap:Array Value} {Q:Ending->World->Prop} (hc:w.cell? ⟨r,p,none⟩=some (.int .u8 ((v:Nat):Int))) (hf:w.frozen? ⟨r,p,none⟩=false) (hp:p<=200) (hcf :∀(args:Array Value) (w:World),(callFunc fn args).run Tryz.prog w = .ok (.enter fn args) w)
  (h1:room<=v->Q (.returned (.bool true)) w)
  (h2:v < room->Calls Tryz.prog fn cap (w.setCell ⟨r,p,none⟩ (.int .u8 ((room:Nat):Int))) (fun e w2 =>∃b,e = .returned (.bool b)/\(b=true->Q (.returned (.bool true)) w2)/\(b=false->(∃u,w2.cell? ⟨r,p,none⟩=some u)/\w2.frozen? ⟨r,p,none⟩=false/\Q (.returned (.bool false)) (w2.setCell ⟨r,p,none⟩ (.int .u8 ((v:Nat):Int)))))) :
  Calls Tryz.prog 106 #[.pointer (some ⟨r,0,none⟩),.int .i64 ((p:Nat):Int),.int .u8 ((room:Nat):Int),.func (.func fn) #[] cap] w Q:=by
 have hpz:((p:Nat):Int) < 201:=by omega
 by_cases hr:room<=v
 ·have hQ:=h1 hr;have hrz:((room:Nat):Int)<=((v:Nat):Int):=by omega
  clear h1 h2 hr;go_enter Tryz.func106,Tryz.ntmps106;go_wp2_with fail;exact hQ
 ·have hcall:=h2 (by omega);have hrz:¬ ((room:Nat):Int)<=((v:Nat):Int):=by omega
  clear h1 h2 hr;go_enter Tryz.func106,Tryz.ntmps106;go_upto_region 6 with ((with_reducible (refine hcall.mono ?_)); rintro e w3 ⟨b,rfl,hb1,hb2⟩)
  cases b with
  | true =>
    have hQ:=hb1 rfl;clear hb1 hb2;go_wp2_with fail;exact hQ
  | false =>
    obtain ⟨⟨u,hu⟩,hfz,hQ⟩:=hb2 rfl;clear hb1 hb2;go_wp2_with fail;exact hQ
variable {C:Cx} {ρ:Rx} {ats:List Rsc} {τ:Tlr} {T:Tt} {out:List (Nat×Rs)} {w w':World} {F F' Fr Fr':Bs2}
def Rx.pin (ρ:Rx) (x:Et):Rx := { ρ with pn:=x :: ρ.pn }
theorem ZaR {x:Et} (h:Run C (ρ.pin x) ats τ T out w F Fr):Run C ρ ats τ T out w F Fr:=by
 obtain ⟨F1,F2,h⟩:=Zh6 h;exact Zc1 ⟨h.all,h.dis,Zqh (ρ := ρ.pin x) (pn := ρ.pn) h.one (fun y hy=>List.mem_cons.2 (Or.inr hy)),h.two⟩
theorem Zh5 (hτ:Zas C τ) (ha :∀R∈ats,Zq R) (h:Run C ρ ats τ T out w F Fr) :
  ∃F1,SeR C ρ τ.tv T w F F1/\∀(ρ':Rx) (T':Tt) (w':World) (F' F1':Bs2),Trn w F F1 w' F' F1'->SeR C ρ' τ.tv T' w' F' F1'->∃Fr',Run C ρ' ats τ T' out w' F' Fr'/\Trn w F Fr w' F' Fr':=by
 obtain ⟨F1,F2,h⟩:=Zh6 h;refine ⟨F1,h.one,fun ρ' T' w' F' F1' t hS=>?_⟩;obtain ⟨h1,h2⟩:=h.upd (Qx _ _ _ _) (ZrG hτ ha out) t hS;exact ⟨_,Zc1 h1,h2⟩
theorem ZkH {x:Et} (hτ:Zas C τ) (ha :∀R∈ats,Zq R) (h:Run C ρ ats τ T out w F Fr) (hx:x∈ρ.pn) (p:Nat) {v:Nat} (hv:v<=255) :
  ∃Fr',Run C ρ ats τ (ZaM T x.1.1 x.1.2 p v) out (w.setCell ⟨x.2.1,p,none⟩ (.int .u8 ((v:Nat):Int))) F Fr'/\Trn w F Fr (w.setCell ⟨x.2.1,p,none⟩ (.int .u8 ((v:Nat):Int))) F Fr':=by
 obtain ⟨F1,hS,hup⟩:=Zh5 hτ ha h;obtain ⟨h1,h2⟩:=Zqg hS hx p hv;exact hup _ _ _ _ _ h2 h1
theorem ZpB {x:Et} (h:Run C ρ ats τ T out w F Fr) (hx:x∈ρ.pn):Rm w x.2.1 (T x.1.1 x.1.2)/\(∀p,T x.1.1 x.1.2 p<=255)/\F x.2.1/\x.2.1 < w.heap.size:=by
 obtain ⟨F1,F2,h⟩:=Zh6 h;obtain ⟨L,hS,hT,hpn,he,hF,rest⟩:=h.one;exact ⟨hT.room x (hpn x hx),hT.few _ _,hF _ ((he _).2 (Or.inr (Or.inr ⟨x,hpn x hx,rfl⟩))),lt_of_block (hT.room x (hpn x hx))⟩
theorem Zb8 {j n:Nat} (hτ:Zas C τ) (ha :∀R∈ats,Zq R) (h:Run C ρ ats τ T out w F Fr) :
  Calls Tryz.prog 105 #[.agg #[.map (some C.m)],.agg #[.int .i64 ((j:Nat):Int),.int .i64 ((n:Nat):Int)]] w fun e w' =>∃(r c:Nat) (F' Fr':Bs2),e = .returned (.pointer (some ⟨r,0,none⟩))/\Run C (ρ.pin ((j,n),r,c)) ats τ T out w' F' Fr'/\Trn w F Fr w' F' Fr':=by
 obtain ⟨F1,hS,hup⟩:=Zh5 hτ ha h;refine (ZrY hS).mono ?_;rintro e w' ⟨⟨k,r,c⟩,F',F1',rfl,hk,h1,h2⟩;simp only at hk;subst hk;obtain ⟨Fr',g1,g2⟩:=hup (ρ.pin ((j,n),r,c)) T w' F' F1' h2 h1;exact ⟨r,c,F',Fr',rfl,g1,g2⟩
theorem Zc0 {r c j n p room fn:Nat} {cap:Array Value} {Q:Ending->World->Prop} (hτ:Zas C τ) (ha :∀R∈ats,Zq R) (h:Run C ρ ats τ T out w F Fr) (hx:((j,n),r,c)∈ρ.pn) (hp:p<=200) (hrm:room<=255)
  (hcf :∀(args:Array Value) (w:World),(callFunc fn args).run Tryz.prog w = .ok (.enter fn args) w)
  (h1:room<=T j n p->Q (.returned (.bool true)) w)
  (h2:T j n p < room->∀w1 Fr1,Run C ρ ats τ (ZaM T j n p room) out w1 F Fr1->Trn w F Fr w1 F Fr1->Calls Tryz.prog fn cap w1 (fun e w2 =>∃b,e = .returned (.bool b)/\(b=true->Q (.returned (.bool true)) w2)/\(b=false->∃T' out' F2 Fr2,Run C ρ ats τ T' out' w2 F2 Fr2/\∀w3 Fr3,Run C ρ ats τ (ZaM T' j n p (T j n p)) out' w3 F2 Fr3->Trn w2 F2 Fr2 w3 F2 Fr3->Q (.returned (.bool false)) w3))) :
  Calls Tryz.prog 106 #[.pointer (some ⟨r,0,none⟩),.int .i64 ((p:Nat):Int),.int .u8 ((room:Nat):Int),.func (.func fn) #[] cap] w Q:=by
 obtain ⟨hr,hfw,-,-⟩:=ZpB h hx;simp only at hr hfw;refine Znl (hr.cell hp) (hr.fz p) hp hcf h1 (fun hlt=>?_);obtain ⟨Fr1,g1,g2⟩:=ZkH hτ ha h hx p hrm;refine (h2 hlt _ Fr1 g1 g2).mono ?_;rintro e w2 ⟨b,rfl,hb1,hb2⟩;refine ⟨b,rfl,hb1,fun hb=>?_⟩;obtain ⟨T',out',F2,Fr2,k1,k2⟩:=hb2 hb;obtain ⟨hr2,-,-,-⟩:=ZpB k1 hx;simp only at hr2;obtain ⟨Fr3,k3,k4⟩:=ZkH hτ ha k1 hx p (hfw p);exact ⟨⟨_,hr2.cell hp⟩,hr2.fz p,k2 _ Fr3 k3 k4⟩
theorem Zk6 {w:World} {Cb Ab Gb p fn:Nat} {cap:Array Value} {ag:Option Addr} {ng cg:Nat} {Q:Ending->World->Prop} (c1:w.cell? ⟨Cb,0,none⟩=some (.func (.func fn) #[] cap)) (c2:w.cell? ⟨Ab,0,none⟩=some (.int .i64 ((p:Nat):Int))) (c3:w.cell? ⟨Gb,0,none⟩=some (.slice ag ng cg))
  (hcf :∀(args:Array Value) (w:World),(callFunc fn args).run Tryz.prog w = .ok (.enter fn args) w)
  (hcall:Calls Tryz.prog fn (#[.int .i64 ((p:Nat):Int),.slice ag ng cg] ++ cap) w (fun e w2 =>∃b,e = .returned (.bool b)/\Q (.returned (.bool b)) w2)) :
  Calls Tryz.prog 107 #[.pointer (some ⟨Cb,0,none⟩),.pointer (some ⟨Ab,0,none⟩),.pointer (some ⟨Gb,0,none⟩)] w Q:=by
 go_enter Tryz.func107,Tryz.ntmps107;go_wp2_with ((with_reducible (refine hcall.mono ?_)); rintro e w3 ⟨b,rfl,hQ⟩);exact hQ
theorem ZnX {w:World} {C:Cx} {ρ:Rx} {ats:List Rsc} {τ:Tlr} {T:Tt} {out:List (Nat×Rs)} {F Fr:Bs2} {A J Cb j p:Nat} {ag:Option Addr} {ng cg:Nat} {Q:Ending->World->Prop} (hτ:Zas C τ) (ha :∀R∈ats,Zq R) (hFb:Fb w F) (hR:Run C ρ ats τ T out w F Fr) (hA:BxI w F A 52 (.pointer (some ⟨C.X,0,none⟩))) (hJ:BxI w F J 3 (.int .i64 ((j:Nat):Int)))
  (hvis :∀(w1 w3:World) (r c:Nat) (F3 Fr3:Bs2),Za N0_ w w1->BxI w1 F w.heap.size 3 (.int .i64 ((p:Nat):Int))->BxI w1 F (w.heap.size + 1) 36 (.slice ag ng cg)->Run C (ρ.pin ((j,0),r,c)) ats τ T out w3 F3 Fr3->Trn w1 F Fr w3 F3 Fr3->
   Calls Tryz.prog 106 #[.pointer (some ⟨r,0,none⟩),.int .i64 ((p:Nat):Int),.int .u8 1,.func (.func 107) #[] #[.pointer (some ⟨Cb,0,none⟩),.pointer (some ⟨w.heap.size,0,none⟩),.pointer (some ⟨w.heap.size + 1,0,none⟩)]] w3 (fun e w4 =>∃b,e = .returned (.bool b)/\Q (.returned (.bool b)) w4/\(w4.cell? ⟨A,0,none⟩=some (.pointer (some ⟨C.X,0,none⟩))/\w4.cell? ⟨J,0,none⟩=some (.int .i64 ((j:Nat):Int))/\w4.cell? ⟨C.X,3,none⟩=some (.map (some C.m))/\w4.cell? ⟨w.heap.size,0,none⟩=some (.int .i64 ((p:Nat):Int))))) :
  Calls Tryz.prog 104 (#[.int .i64 ((p:Nat):Int),.slice ag ng cg] ++ #[.pointer (some ⟨A,0,none⟩),.pointer (some ⟨J,0,none⟩),.pointer (some ⟨Cb,0,none⟩)]) w Q:=by
 have hmf :∀(fn:Fn) (first cap:Array Value) (w:World),(Instr.makeFunc fn first cap).run Tryz.prog w = .ok (.func fn first cap) w:=fun _ _ _ _=>rfl;have hO:=ZdN hτ ha ρ T out;have kA:Za N0_ w ((w.alloc (.cells #[.int .i64 ((p:Nat):Int)] 3)).alloc (.cells #[.slice ag ng cg] 36)):=((Za.refl _ w).alloc _).alloc _;have bF:¬ F w.heap.size/\¬ F (w.heap.size + 1):=⟨fun h=>by have:=hFb _ h; omega,fun h=>by have:=hFb _ h; omega⟩;have b1:BxI ((w.alloc (.cells #[.int .i64 ((p:Nat):Int)] 3)).alloc (.cells #[.slice ag ng cg] 36)) F w.heap.size 3 (.int .i64 ((p:Nat):Int)):=⟨Zbc w _ _,bF.1⟩;have b2:BxI ((w.alloc (.cells #[.int .i64 ((p:Nat):Int)] 3)).alloc (.cells #[.slice ag ng cg] 36)) F (w.heap.size + 1) 36 (.slice ag ng cg):=⟨Zbi w _ _,bF.2⟩;go_enter Tryz.func104,Tryz.ntmps104;go_upto_region 1 with fail;have hA2:=hA.later (Lat.ofKeeps kA);have hJ2:=hJ.later (Lat.ofKeeps kA);obtain ⟨hR2,-⟩:=Qk hτ ha hR kA;clear hA hJ hR bF;generalize ((w.alloc (.cells #[.int .i64 ((p:Nat):Int)] 3)).alloc (.cells #[.slice ag ng cg] 36))=w2 at kA b1 b2 hA2 hJ2 hR2 ⊢;have kd:Za N0_ w2 w2.drew:=(Za.refl _ w2).drew;obtain ⟨hRd,-⟩:=Qk hτ ha hR2 kd;have hb1:=b1.later (Lat.ofKeeps kd);have hb2:=b2.later (Lat.ofKeeps kd);have hOF:=fun k hk=>((hO.lt hRd k hk).1);have hof:Calls Tryz.prog 105 #[.agg #[.map (some C.m)],.agg #[.int .i64 ((j:Nat):Int),.int .i64 0]] w2.drew fun e w' =>∃(r c:Nat) (F' Fr':Bs2),e = .returned (.pointer (some ⟨r,0,none⟩))/\Run C (ρ.pin ((j,0),r,c)) ats τ T out w' F' Fr'/\Trn w2.drew F Fr w' F' Fr':=Zb8 (n:=0) hτ ha hRd;have hvis2:=fun w3 r c F3 Fr3=>hvis w2.drew w3 r c F3 Fr3 (kA.trans kd) hb1 hb2;have hAd:=hA2.later (Lat.ofKeeps kd);have hJd:=hJ2.later (Lat.ofKeeps kd);have hS0:(w2.drew.cell? ⟨A,0,none⟩=some (.pointer (some ⟨C.X,0,none⟩))/\w2.drew.cell? ⟨J,0,none⟩=some (.int .i64 ((j:Nat):Int))/\w2.drew.cell? ⟨C.X,3,none⟩=some (.map (some C.m))/\w2.drew.cell? ⟨w.heap.size,0,none⟩=some (.int .i64 ((p:Nat):Int))):=⟨hAd.cell,hJd.cell,(Qq hRd).c3,hb1.cell⟩;generalize hP:w.heap.size=pb at *;clear hvis hA2 hJ2 hR2 kA kd hRd hO b1 b2;go_region_held3 (fun w'=>(w'.cell? ⟨A,0,none⟩=some (.pointer (some ⟨C.X,0,none⟩))/\w'.cell? ⟨J,0,none⟩=some (.int .i64 ((j:Nat):Int))/\w'.cell? ⟨C.X,3,none⟩=some (.map (some C.m))/\w'.cell? ⟨pb,0,none⟩=some (.int .i64 ((p:Nat):Int)))) (first | assumption | go_keep) (first
  | (go_at_call 105; refine hof.mono ?_; rintro e w3 ⟨r,c,F3,Fr3,rfl,hR3,hT3⟩; have hS3:(w3.cell? ⟨A,0,none⟩=some (.pointer (some ⟨C.X,0,none⟩))/\w3.cell? ⟨J,0,none⟩=some (.int .i64 ((j:Nat):Int))/\w3.cell? ⟨C.X,3,none⟩=some (.map (some C.m))/\w3.cell? ⟨pb,0,none⟩=some (.int .i64 ((p:Nat):Int))):=⟨(hAd.later (hT3.lat hOF)).cell,(hJd.later (hT3.lat hOF)).cell,(Qq hR3).c3,(hb1.later (hT3.lat hOF)).cell⟩)
  | (go_at_call 106; refine (hvis2 w3 r c F3 Fr3 hR3 hT3).mono ?_; rintro e w4 ⟨b,rfl,hQ,hS4⟩))
 all_goals (try go_wp2_with fail)
 all_goals exact hQ
theorem Pst.seen {N j p:Nat} {W:Wt} {B:Option Bo} {T:Tt} {V:Vs} {b:Bo} {L:Wn} {stop:Bool} (h:Cls N b T V) (hs :∀y∈L,V y.1=true):Pst N T T (QR stop V L) (some b):=by
 rw [Z8 (ZbP hs),<- Zcq,Zch hs,Q1];exact ⟨h,fun _ _=>rfl⟩
theorem Zbj {C:Cx} {ρ:Rx} {ats:List Rsc} {τ:Tlr} {T:Tt} {out:List (Nat×Rs)} {w w':World} {F F' O O':Bs2} (hτ:Zas C τ) (ha :∀R∈ats,Zq R) (hF:Fb w F) (t:Trn w F O w' F' O') (hR:Run C ρ ats τ T out w' F' O'):Fb w' F' :=
 hF.trn t (fun k hk=>((ZdN hτ ha ρ T out).lt hR k hk).2)
theorem JA {C:Cx} {ρ:Rx} {ats:List Rsc} {τ:Tlr} {T:Tt} {out:List (Nat×Rs)} {w:World} {F O:Bs2} (hτ:Zas C τ) (ha :∀R∈ats,Zq R) (hR:Run C ρ ats τ T out w F O) :∀k,O k->F k :=
 fun k hk=>((ZdN hτ ha ρ T out).lt hR k hk).1
theorem Zk4 {C:Cx} {w:World} {F:Bs2} {A J Cb j:Nat} {nx:Value} {W:Wt} {B:Option Bo} {mine:List Rsc} (hA:BxI w F A 52 (.pointer (some ⟨C.X,0,none⟩))) (hJ:BxI w F J 3 (.int .i64 ((j:Nat):Int))) (hC:BxI w F Cb 102 nx) (hnx:Qe C w F nx W B mine) (hj:Nw j B) (hi:B=none->Inj C.u.size W) (hu:C.u.size<=200) :
  Qe C w F (.func (.func 104) #[] #[.pointer (some ⟨A,0,none⟩),.pointer (some ⟨J,0,none⟩),.pointer (some ⟨Cb,0,none⟩)]) W (some (Qy j W B)) mine:=by
 refine ⟨_,_,rfl,fun _ _=>by kernel_rfl,?_⟩;intro w' F' l hFb ρ ats τ T V out Fr p gv gs ha hm hτ hR hg hl hp hP hn;have hA':=hA.later l; have hJ':=hJ.later l; have hC':=hC.later l; have hnx':=hnx.later l;obtain ⟨ag,cg,hgv⟩ :∃ag cg,gv = .slice ag gs.length cg:=by obtain ⟨a,c,h,_⟩:=hg; exact ⟨a,c,h⟩
 have hF0:=JA hτ ha hR;rw [hgv];refine ZnX hτ ha hFb hR hA' hJ' ?_;intro w1 w3 r c F3 Fr3 k1 b1 b2 hR3 hT3;have lk:Lat w' F' w1 F':=Lat.ofKeeps k1;have l3:Lat w1 F' w3 F3:=hT3.lat hF0;have hcell :∀(wx:World) (Fx:Bs2) (jx:Int) (bx tx:Value),Lat w1 F' wx Fx->Se wx C jx bx tx->(wx.cell? ⟨A,0,none⟩=some (.pointer (some ⟨C.X,0,none⟩))/\wx.cell? ⟨J,0,none⟩=some (.int .i64 ((j:Nat):Int))/\wx.cell? ⟨C.X,3,none⟩=some (.map (some C.m))/\wx.cell? ⟨w'.heap.size,0,none⟩=some (.int .i64 ((p:Nat):Int))) :=
  fun wx Fx jx bx tx lx hS=>⟨(hA'.later (lk.trans lx)).cell,(hJ'.later (lk.trans lx)).cell,hS.c3,(b1.later lx).cell⟩
 have t3:Trn w' F' Fr w3 F3 Fr3:=(Trn.ofKeeps hF0 k1).trans hT3;have hF3:=JA hτ ha hR3;have hFb3:Fb w3 F3:=Zbj hτ ha (hFb.keeps k1) hT3 hR3;refine Zc0 (ρ := ρ.pin ((j,0),r,c)) (room:=1) (j:=j) (n:=0) (c:=c) hτ ha hR3 (by simp [Rx.pin]) (by omega) (by omega) (fun _ _=>by kernel_rfl) ?_ ?_
 ·intro h1;have hs:=Zk5 hP hp (by omega);refine ⟨true,rfl,⟨by rw [ZbP hs],T,F3,Fr3,?_,t3,Pst.seen (j:=j) (p:=p) (W:=W) (B:=B) hP hs⟩,hcell w3 F3 _ _ _ l3 (Qq hR3)⟩;rw [ZcV hs,List.append_nil];exact ZaR hR3
 ·intro h1 w4 Fr4 hR4 hT4;have hT0:T j 0 p=0:=by omega
  have l4:Lat w3 F3 w4 F3:=hT4.lat hF3;have hF4:=JA hτ ha hR4;have hFb4:Fb w4 F3:=Zbj hτ ha hFb3 hT4 hR4;have hC4:=hC'.later ((lk.trans l3).trans l4);obtain ⟨fn,cap,rfl,hcf,hcall⟩:=hnx'.later ((lk.trans l3).trans l4);have hst:=hcall w4 F3 (Lat.refl _ _) hFb4 (ρ.pin ((j,0),r,c)) ats τ (ZaM T j 0 p 1) V out Fr4 p gv gs ha hm hτ hR4 (hg.later ((lk.trans l3).trans l4)) hl hp (ZqC hP hp hT0 hj) hn;rw [hgv] at hst;refine Zk6 hC4.cell (b1.later (l3.trans l4)).cell (b2.later (l3.trans l4)).cell hcf ?_;refine hst.mono ?_;rintro e w5 ⟨rfl,T5,F5,Fr5,hR5,hT5,hP5⟩;have hout:=ZnV hP hp hT0 hj hi hP5;have l5:Lat w4 F3 w5 F5:=hT5.lat hF4;have hF5:=JA hτ ha hR5;refine ⟨_,rfl,_,rfl,fun hc=>?_,fun hc=>?_⟩
  ·rw [if_pos hc] at hout;refine ⟨true,rfl,⟨by rw [hc],T5,F5,Fr5,ZaR hR5,(t3.trans hT4).trans hT5,hout⟩,hcell w5 F5 _ _ _ ((l3.trans l4).trans l5) (Qq hR5)⟩
  ·rw [if_neg (by simp [hc])] at hout;refine ⟨T5,_,F5,Fr5,hR5,fun w6 Fr6 hR6 hT6=>?_⟩;rw [hT0] at hR6;have l6:Lat w5 F5 w6 F5:=hT6.lat hF5;exact ⟨false,rfl,⟨by rw [hc],_,F5,Fr6,ZaR hR6,((t3.trans hT4).trans hT5).trans hT6,hout⟩,hcell w6 F5 _ _ _ (((l3.trans l4).trans l5).trans l6) (Qq hR6)⟩
def ZeK (k:Nat) (W:Wt):Wt:=fun p=>if p=k then W p else []
theorem Zja {w:World} {P Cb p k:Nat} {ag:Option Addr} {ng cg:Nat} (cp:w.cell? ⟨P,0,none⟩=some (.int .i64 (k:Int))) (hne:¬ (p:Int)=(k:Int)) :
  Calls Tryz.prog 119 (#[.int .i64 (p:Int),.slice ag ng cg] ++ #[.pointer (some ⟨P,0,none⟩),.pointer (some ⟨Cb,0,none⟩)]) w fun e w'=>e = .returned (.bool true)/\Za N0_ w w':=by
 have hK:=Za.refl N0_ w;go_enter Tryz.func119,Tryz.ntmps119;go_wp2_with fail;go_ret;exact ⟨rfl,by first | exact hK | exact hK.drewN _⟩
theorem ZgU {w:World} {P Cb p fn:Nat} {cap:Array Value} {ag:Option Addr} {ng cg:Nat} {Q:Ending->World->Prop} (cp:w.cell? ⟨P,0,none⟩=some (.int .i64 (p:Int))) (c:w.cell? ⟨Cb,0,none⟩=some (.func (.func fn) #[] cap))
  (hcf :∀(args:Array Value) (w:World),(callFunc fn args).run Tryz.prog w = .ok (.enter fn args) w)
  (hcall:Calls Tryz.prog fn (#[.int .i64 (p:Int),.slice ag ng cg] ++ cap) w (fun e w2 =>∃b,e = .returned (.bool b)/\Q (.returned (.bool b)) w2)) :
  Calls Tryz.prog 119 (#[.int .i64 (p:Int),.slice ag ng cg] ++ #[.pointer (some ⟨P,0,none⟩),.pointer (some ⟨Cb,0,none⟩)]) w Q:=by
 go_enter Tryz.func119,Tryz.ntmps119;go_wp2_with ((with_reducible (refine hcall.mono ?_)); rintro e w3 ⟨b,rfl,hQ⟩);exact hQ
theorem Zk2 {C:Cx} {w:World} {F:Bs2} {P Cb k:Nat} {nx:Value} {W:Wt} {B:Option Bo} {mine:List Rsc} (hk:BxI w F P 3 (.int .i64 (k:Int))) (hC:BxI w F Cb 102 nx) (hnx:Qe C w F nx W B mine) :
  Qe C w F (.func (.func 119) #[] #[.pointer (some ⟨P,0,none⟩),.pointer (some ⟨Cb,0,none⟩)]) (ZeK k W) B mine:=by
 refine ⟨_,_,rfl,fun _ _=>by kernel_rfl,?_⟩;intro w' F' l hFb ρ ats τ T V out Fr p gv gs ha hm hτ hR hg hl hp hP hn;have hk':=hk.later l; have hC':=hC.later l; have hnx':=hnx.later l;obtain ⟨ag,cg,hgv⟩ :∃ag cg,gv = .slice ag gs.length cg:=by obtain ⟨a,c,h,_⟩:=hg; exact ⟨a,c,h⟩
 by_cases he:p=k
 ·subst he;have e:ZeK p W p=W p:=by simp [ZeK]
  obtain ⟨fn,cap,rfl,hcf,hcall⟩:=hnx';have hP':Pre C.u.size W T V p B:=by
   cases B with
   | none=>intro y hy; exact hP y (by rw [e]; exact hy)
   | some b=>exact hP
  rw [e] at hn ⊢
  have:=hcall w' F' (Lat.refl _ _) hFb ρ ats τ T V out Fr p gv gs ha hm hτ hR hg hl hp hP' hn
  rw [hgv] at this ⊢;exact ZgU hk'.cell hC'.cell hcf (this.mono (fun e w2 h2=>⟨_,h2.1,by rw [<- h2.1]; exact h2⟩))
 ·have e:ZeK k W p = []:=by simp [ZeK,he]
  rw [e,hgv];refine (Zja (k:=k) hk'.cell (by omega)).mono ?_;rintro e w2 ⟨rfl,hk⟩;exact Zc7 (p:=p) hτ ha hR hP hk
end Go.Proofs.YtfkflljplohhcaaGreatDoor
