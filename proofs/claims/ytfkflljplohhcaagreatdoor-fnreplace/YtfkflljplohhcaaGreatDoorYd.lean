import Derived.Test.YtfkflljplohhcaaGreatDoorYc
import Derived.Deep.RegionHeld3
set_option linter.unusedVariables false
set_option maxHeartbeats 2000000
set_option maxRecDepth 100000
namespace Go.Proofs.YtfkflljplohhcaaGreatDoor
open Go.RowKit
variable {w:World}{r p fn v j Cb ng cg A J P:Nat}{cap:Array Value}{Q:Ending->World->Prop}{ag:Option Addr}{nx:Value}
theorem Zoq{room:Nat}(hc:w.cell? ⟨r,p,none⟩=some (.int .u8 ((v:Nat):Int)))(hf:w.frozen? ⟨r,p,none⟩=false)(hp:p<=200)(hcf:∀(args:Array Value) (w:World),(callFunc fn args).run Tryz.prog w=.ok (.enter fn args) w)
  (h1:room<=v->Q (.returned (.bool true)) w)
  (h2:v<room->au fn cap (w.setCell ⟨r,p,none⟩ (.int .u8 ((room:Nat):Int))) (fun e w2 =>∃b,e=.returned (.bool b)/\(b=true->Q (.returned (.bool true)) w2)/\(b=false->(∃u,w2.cell? ⟨r,p,none⟩=some u)/\w2.frozen? ⟨r,p,none⟩=false/\Q (.returned (.bool false)) (w2.setCell ⟨r,p,none⟩ (.int .u8 ((v:Nat):Int)))))) :
  au 106 #[ae r,.int .i64 ((p:Nat):Int),.int .u8 ((room:Nat):Int),.func (.func fn) #[] cap] w Q:=by
 have hpz:((p:Nat):Int)<201:=by omega
 by_cases hr:room<=v
 ·have hQ:=h1 hr;have hrz:((room:Nat):Int)<=((v:Nat):Int):=by omega
  clear h1 h2 hr;go_enter Tryz.func106,Tryz.ntmps106;go_wp2_with fail;exact hQ
 ·have hcall:=h2 (by omega);have hrz:¬((room:Nat):Int)<=((v:Nat):Int):=by omega
  clear h1 h2 hr;go_enter Tryz.func106,Tryz.ntmps106;go_upto_region 6 with((with_reducible (refine hcall.mono ?_));rintro e w3 ⟨b,rfl,hb1,hb2⟩)
  cases b with
  | true =>
    have hQ:=hb1 rfl;clear hb1 hb2;go_wp2_with fail;exact hQ
  | false =>
    obtain⟨⟨u,hu⟩,hfz,hQ⟩:=hb2 rfl;clear hb1 hb2;go_wp2_with fail;exact hQ
variable {C:Cx}{ρ:Rx}{ats:List aO}{τ:jG}{T:Tt}{out:List (Nat×Rs)}{w w':World}{F F' Fr aM:az}
def Rx.pin (ρ:Rx) (x:Et):Rx := { ρ with pn:=x::ρ.pn }
theorem zz{x:Et}(h:Run C (ρ.pin x) ats τ T out w F Fr):Run C ρ ats τ T out w F Fr:=by
 obtain⟨F1,F2,h⟩:=Lx h;exact TT ⟨h.all,h.fe,ZrH (ρ := ρ.pin x) (pn := ρ.pn) h.one (fun y hy=>List.mem_cons.2 (Or.inr hy)),h.two⟩
theorem ZiJ(hτ:j5 C τ)(ha:∀R∈ats,Zs R)(h:Run C ρ ats τ T out w F Fr):
  ∃F1,aR C ρ τ.tv T w F F1/\∀(ρ':Rx) (T':Tt) (w':World) (F' p8:az),aJ w F F1 w' F' p8->aR C ρ' τ.tv T' w' F' p8->∃aM,Run C ρ' ats τ T' out w' F' aM/\aJ w F Fr w' F' aM:=by
 obtain⟨F1,F2,h⟩:=Lx h;refine⟨F1,h.one,fun ρ' T' w' F' p8 t hS=>?_⟩;obtain⟨h1,h2⟩:=h.upd (QA _ _ _ _) (Xx hτ ha out) t hS;exact⟨_,TT h1,h2⟩
theorem YS{x:Et}(hτ:j5 C τ)(ha:∀R∈ats,Zs R)(h:Run C ρ ats τ T out w F Fr)(hx:x∈ρ.pn)(p:Nat)(hv:v<=255):
  ∃aM,Run C ρ ats τ (fC T x.1.1 x.1.2 p v) out (w.setCell ⟨x.2.1,p,none⟩ (.int .u8 ((v:Nat):Int))) F aM/\aJ w F Fr (w.setCell ⟨x.2.1,p,none⟩ (.int .u8 ((v:Nat):Int))) F aM:=by
 obtain⟨F1,hS,hup⟩:=ZiJ hτ ha h;obtain⟨h1,h2⟩:=ZrG hS hx p hv;exact hup _ _ _ _ _ h2 h1
theorem XX{x:Et}(h:Run C ρ ats τ T out w F Fr)(hx:x∈ρ.pn):Rm w x.2.1 (T x.1.1 x.1.2)/\(∀p,T x.1.1 x.1.2 p<=255)/\F x.2.1/\x.2.1<w.heap.size:=by
 obtain⟨F1,F2,h⟩:=Lx h;obtain⟨L,hS,hT,hpn,he,hF,rest⟩:=h.one;exact⟨hT.room x (hpn x hx),hT.few _ _,hF _ ((he _).2 (Or.inr (Or.inr ⟨x,hpn x hx,rfl⟩))),lt_of_block (hT.room x (hpn x hx))⟩
theorem Uo{n:Nat}(hτ:j5 C τ)(ha:∀R∈ats,Zs R)(h:Run C ρ ats τ T out w F Fr):
  au 105 #[.agg #[.map (some C.m)],.agg #[.int .i64 ((j:Nat):Int),.int .i64 ((n:Nat):Int)]] w fun e w' =>∃(r c:Nat) (F' aM:az),e=.returned ((ae r))/\Run C (ρ.pin ((j,n),r,c)) ats τ T out w' F' aM/\aJ w F Fr w' F' aM:=by
 obtain⟨F1,hS,hup⟩:=ZiJ hτ ha h;refine(ZtJ hS).mono ?_;rintro e w' ⟨⟨k,r,c⟩,F',p8,rfl,hk,h1,h2⟩;simp only at hk;subst hk;obtain⟨aM,g1,g2⟩:=hup (ρ.pin ((j,n),r,c)) T w' F' p8 h2 h1;exact⟨r,c,F',aM,rfl,g1,g2⟩
theorem TU{c n room:Nat}(hτ:j5 C τ)(ha:∀R∈ats,Zs R)(h:Run C ρ ats τ T out w F Fr)(hx:((j,n),r,c)∈ρ.pn)(hp:p<=200)(hrm:room<=255)
  (hcf:∀(args:Array Value) (w:World),(callFunc fn args).run Tryz.prog w=.ok (.enter fn args) w)
  (h1:room<=T j n p->Q (.returned (.bool true)) w)
  (h2:T j n p<room->∀w1 dO,Run C ρ ats τ (fC T j n p room) out w1 F dO->aJ w F Fr w1 F dO->au fn cap w1 (fun e w2 =>∃b,e=.returned (.bool b)/\(b=true->Q (.returned (.bool true)) w2)/\(b=false->∃T' out' F2 bf,Run C ρ ats τ T' out' w2 F2 bf/\∀w3 fV,Run C ρ ats τ (fC T' j n p (T j n p)) out' w3 F2 fV->aJ w2 F2 bf w3 F2 fV->Q (.returned (.bool false)) w3))) :
  au 106 #[ae r,.int .i64 ((p:Nat):Int),.int .u8 ((room:Nat):Int),.func (.func fn) #[] cap] w Q:=by
 obtain⟨hr,hfw,-,-⟩:=XX h hx;simp only at hr hfw;refine Zoq (hr.cell hp) (hr.fz p) hp hcf h1 (fun hlt=>?_);obtain⟨dO,g1,g2⟩:=YS hτ ha h hx p hrm;refine(h2 hlt _ dO g1 g2).mono ?_;rintro e w2 ⟨b,rfl,hb1,hb2⟩;refine⟨b,rfl,hb1,fun hb=>?_⟩;obtain⟨T',out',F2,bf,k1,k2⟩:=hb2 hb;obtain⟨hr2,-,-,-⟩:=XX k1 hx;simp only at hr2;obtain⟨fV,k3,k4⟩:=YS hτ ha k1 hx p (hfw p);exact⟨⟨_,hr2.cell hp⟩,hr2.fz p,k2 _ fV k3 k4⟩
theorem Zl1{w:World}{Ab Gb:Nat}(c1:w.cell? (ak Cb)=some (.func (.func fn) #[] cap))(c2:w.cell? (ak Ab)=some (.int .i64 ((p:Nat):Int)))(c3:w.cell? (ak Gb)=some (.slice ag ng cg))
  (hcf:∀(args:Array Value) (w:World),(callFunc fn args).run Tryz.prog w=.ok (.enter fn args) w)
  (hcall:au fn (#[.int .i64 ((p:Nat):Int),.slice ag ng cg]++cap) w (fun e w2 =>∃b,e=.returned (.bool b)/\Q (.returned (.bool b)) w2)) :
  au 107 #[ae Cb,ae Ab,ae Gb] w Q:=by
 go_enter Tryz.func107,Tryz.ntmps107;go_wp2_with((with_reducible (refine hcall.mono ?_));rintro e w3 ⟨b,rfl,hQ⟩);exact hQ
theorem Zpa{w:World}{C:Cx}{ρ:Rx}{ats:List aO}{τ:jG}{T:Tt}{out:List (Nat×Rs)}{F Fr:az}(hτ:j5 C τ)(ha:∀R∈ats,Zs R)(aW:Fb w F)(hR:Run C ρ ats τ T out w F Fr)(hA:di w F A 52 ((ae C.X)))(hJ:di w F J 3 (.int .i64 ((j:Nat):Int)))
  (mF:∀(w1 w3:World) (r c:Nat) (F3 fV:az),Za ai w w1->di w1 F w.heap.size 3 (.int .i64 ((p:Nat):Int))->di w1 F (w.heap.size+1) 36 (.slice ag ng cg)->Run C (ρ.pin ((j,0),r,c)) ats τ T out w3 F3 fV->aJ w1 F Fr w3 F3 fV->
   au 106 #[ae r,.int .i64 ((p:Nat):Int),.int .u8 1,.func (.func 107) #[] #[ae Cb,ae w.heap.size,.pointer (some ⟨w.heap.size+1,0,none⟩)]] w3 (fun e w4 =>∃b,e=.returned (.bool b)/\Q (.returned (.bool b)) w4/\(w4.cell? (ak A)=some ((ae C.X))/\w4.cell? (ak J)=some (.int .i64 ((j:Nat):Int))/\w4.cell? ⟨C.X,3,none⟩=some (.map (some C.m))/\w4.cell? (ak w.heap.size)=some (.int .i64 ((p:Nat):Int))))) :
  au 104 (#[.int .i64 ((p:Nat):Int),.slice ag ng cg]++#[ae A,ae J,ae Cb]) w Q:=by
 have mR:∀(fn:Fn) (first cap:Array Value) (w:World),(Instr.makeFunc fn first cap).run Tryz.prog w=.ok (.func fn first cap) w:=fun _ _ _ _=>rfl;have hO:=DL hτ ha ρ T out;have kA:Za ai w ((w.alloc (.cells #[.int .i64 ((p:Nat):Int)] 3)).alloc (.cells #[.slice ag ng cg] 36)):=((Za.refl _ w).alloc _).alloc _;have bF:¬F w.heap.size/\¬F (w.heap.size+1):=⟨fun h=>by have:=aW _ h;omega,fun h=>by have:=aW _ h;omega⟩;have b1:di ((w.alloc (.cells #[.int .i64 ((p:Nat):Int)] 3)).alloc (.cells #[.slice ag ng cg] 36)) F w.heap.size 3 (.int .i64 ((p:Nat):Int)):=⟨fU w _ _,bF.1⟩;have b2:di ((w.alloc (.cells #[.int .i64 ((p:Nat):Int)] 3)).alloc (.cells #[.slice ag ng cg] 36)) F (w.heap.size+1) 36 (.slice ag ng cg):=⟨gH w _ _,bF.2⟩;go_enter Tryz.func104,Tryz.ntmps104;go_upto_region 1 with fail;have hA2:=hA.later (aH.ay kA);have hJ2:=hJ.later (aH.ay kA);obtain⟨hR2,-⟩:=Ql hτ ha hR kA;clear hA hJ hR bF;generalize ((w.alloc (.cells #[.int .i64 ((p:Nat):Int)] 3)).alloc (.cells #[.slice ag ng cg] 36))=w2 at kA b1 b2 hA2 hJ2 hR2 ⊢;have kd:Za ai w2 w2.drew:=(Za.refl _ w2).drew;obtain⟨qW,-⟩:=Ql hτ ha hR2 kd;have hb1:=b1.later (aH.ay kd);have hb2:=b2.later (aH.ay kd);have PU:=fun k hk=>((hO.lt qW k hk).1);have hof:au 105 #[.agg #[.map (some C.m)],.agg #[.int .i64 ((j:Nat):Int),.int .i64 0]] w2.drew fun e w' =>∃(r c:Nat) (F' aM:az),e=.returned ((ae r))/\Run C (ρ.pin ((j,0),r,c)) ats τ T out w' F' aM/\aJ w2.drew F Fr w' F' aM:=Uo (n:=0) hτ ha qW;have Ff:=fun w3 r c F3 fV=>mF w2.drew w3 r c F3 fV (kA.trans kd) hb1 hb2;have WT:=hA2.later (aH.ay kd);have hJd:=hJ2.later (aH.ay kd);have hS0:(w2.drew.cell? (ak A)=some ((ae C.X))/\w2.drew.cell? (ak J)=some (.int .i64 ((j:Nat):Int))/\w2.drew.cell? ⟨C.X,3,none⟩=some (.map (some C.m))/\w2.drew.cell? (ak w.heap.size)=some (.int .i64 ((p:Nat):Int))):=⟨WT.cell,hJd.cell,(Qu qW).c3,hb1.cell⟩;generalize hP:w.heap.size=pb at *;clear mF hA2 hJ2 hR2 kA kd qW hO b1 b2;go_region_held3 (fun w'=>(w'.cell? (ak A)=some ((ae C.X))/\w'.cell? (ak J)=some (.int .i64 ((j:Nat):Int))/\w'.cell? ⟨C.X,3,none⟩=some (.map (some C.m))/\w'.cell? (ak pb)=some (.int .i64 ((p:Nat):Int)))) (first | assumption | go_keep) (first|(go_at_call 105;refine hof.mono ?_;rintro e w3 ⟨r,c,F3,fV,rfl,gB,qR⟩;have rT:(w3.cell? (ak A)=some ((ae C.X))/\w3.cell? (ak J)=some (.int .i64 ((j:Nat):Int))/\w3.cell? ⟨C.X,3,none⟩=some (.map (some C.m))/\w3.cell? (ak pb)=some (.int .i64 ((p:Nat):Int))):=⟨(WT.later (qR.dm PU)).cell,(hJd.later (qR.dm PU)).cell,(Qu gB).c3,(hb1.later (qR.dm PU)).cell⟩)|(go_at_call 106;refine(Ff w3 r c F3 fV gB qR).mono ?_;rintro e w4 ⟨b,rfl,hQ,dE⟩))
 all_goals (try go_wp2_with fail)
 all_goals exact hQ
theorem jH.seen{N j p:Nat}{W:Wt}{B:Option Bo}{T:Tt}{V:Vs}{b:Bo}{L:Wn}{stop:Bool}(h:ky N b T V)(hs:∀y∈L,V y.1=true):jH N T T (QW stop V L) (some b):=by
 rw[Qc (MJ hs),<- zu,DT hs,Q9];exact⟨h,fun _ _=>rfl⟩
variable {O:az}
theorem vT{C:Cx}{ρ:Rx}{ats:List aO}{τ:jG}{T:Tt}{out:List (Nat×Rs)}{w w':World}{F F' O':az}(hτ:j5 C τ)(ha:∀R∈ats,Zs R)(hF:Fb w F)(t:aJ w F O w' F' O')(hR:Run C ρ ats τ T out w' F' O'):Fb w' F' :=
 hF.vk t (fun k hk=>((DL hτ ha ρ T out).lt hR k hk).2)
theorem JG{C:Cx}{ρ:Rx}{ats:List aO}{τ:jG}{T:Tt}{out:List (Nat×Rs)}{w:World}{F:az}(hτ:j5 C τ)(ha:∀R∈ats,Zs R)(hR:Run C ρ ats τ T out w F O):∀k,O k->F k :=
 fun k hk=>((DL hτ ha ρ T out).lt hR k hk).1
variable {W:Wt}{B:Option Bo}
theorem ZlZ{C:Cx}{w:World}{F:az}{mine:List aO}(hA:di w F A 52 ((ae C.X)))(hJ:di w F J 3 (.int .i64 ((j:Nat):Int)))(hC:di w F Cb 102 nx)(hnx:Qg C w F nx W B mine)(hj:Nw j B)(hi:B=none->nJ C.u.size W)(hu:C.u.size<=200):
  Qg C w F (.func (.func 104) #[] #[ae A,ae J,ae Cb]) W (some (QB j W B)) mine:=by
 refine⟨_,_,rfl,fun _ _=>by kernel_rfl,?_⟩;intro w' F' l aW ρ ats τ T V out Fr p gv gs ha hm hτ hR hg hl hp hP hn;have hA':=hA.later l;have hJ':=hJ.later l;have hC':=hC.later l;have lq:=hnx.later l;obtain⟨ag,cg,hgv⟩:∃ag cg,gv=.slice ag gs.length cg:=by obtain⟨a,c,h,_⟩:=hg;exact⟨a,c,h⟩
 have eX:=JG hτ ha hR;rw[hgv];refine Zpa hτ ha aW hR hA' hJ' ?_;intro w1 w3 r c F3 fV k1 b1 b2 gB qR;have lk:aH w' F' w1 F':=aH.ay k1;have l3:aH w1 F' w3 F3:=qR.dm eX;have hcell:∀(wx:World) (Fx:az) (jx:Int) (bx tx:Value),aH w1 F' wx Fx->Se wx C jx bx tx->(wx.cell? (ak A)=some ((ae C.X))/\wx.cell? (ak J)=some (.int .i64 ((j:Nat):Int))/\wx.cell? ⟨C.X,3,none⟩=some (.map (some C.m))/\wx.cell? (ak w'.heap.size)=some (.int .i64 ((p:Nat):Int))) :=
  fun wx Fx jx bx tx lx hS=>⟨(hA'.later (lk.trans lx)).cell,(hJ'.later (lk.trans lx)).cell,hS.c3,(b1.later lx).cell⟩
 have t3:aJ w' F' Fr w3 F3 fV:=(aJ.ay eX k1).trans qR;have jr:=JG hτ ha gB;have iA:Fb w3 F3:=vT hτ ha (aW.keeps k1) qR gB;refine TU (ρ := ρ.pin ((j,0),r,c)) (room:=1) (j:=j) (n:=0) (c:=c) hτ ha gB (by simp[Rx.pin]) (by omega) (by omega) (fun _ _=>by kernel_rfl) ?_ ?_
 ·intro h1;have hs:=Zl0 hP hp (by omega);refine⟨true,rfl,⟨by rw[MJ hs],T,F3,fV,?_,t3,jH.seen (j:=j) (p:=p) (W:=W) (B:=B) hP hs⟩,hcell w3 F3 _ _ _ l3 (Qu gB)⟩;rw[TV hs,List.append_nil];exact zz gB
 ·intro h1 w4 sj nR fw;have hT0:T j 0 p=0:=by omega
  have l4:aH w3 F3 w4 F3:=fw.dm jr;have nS:=JG hτ ha nR;have o9:Fb w4 F3:=vT hτ ha iA fw nR;have Dl:=hC'.later ((lk.trans l3).trans l4);obtain⟨fn,cap,rfl,hcf,hcall⟩:=lq.later ((lk.trans l3).trans l4);have hst:=hcall w4 F3 (aH.refl _ _) o9 (ρ.pin ((j,0),r,c)) ats τ (fC T j 0 p 1) V out sj p gv gs ha hm hτ nR (hg.later ((lk.trans l3).trans l4)) hl hp (Zr4 hP hp hT0 hj) hn;rw[hgv] at hst;refine Zl1 Dl.cell (b1.later (l3.trans l4)).cell (b2.later (l3.trans l4)).cell hcf ?_;refine hst.mono ?_;rintro e w5 ⟨rfl,T5,F5,gK,yS,Pz,dY⟩;have hout:=Zo8 hP hp hT0 hj hi dY;have l5:aH w4 F3 w5 F5:=Pz.dm nS;have xJ:=JG hτ ha yS;refine⟨_,rfl,_,rfl,fun hc=>?_,fun hc=>?_⟩
  ·rw[if_pos hc] at hout;refine⟨true,rfl,⟨by rw[hc],T5,F5,gK,zz yS,(t3.trans fw).trans Pz,hout⟩,hcell w5 F5 _ _ _ ((l3.trans l4).trans l5) (Qu yS)⟩
  ·rw[if_neg (by simp[hc])] at hout;refine⟨T5,_,F5,gK,yS,fun w6 Ko C9 CY=>?_⟩;rw[hT0] at C9;have l6:aH w5 F5 w6 F5:=CY.dm xJ;exact⟨false,rfl,⟨by rw[hc],_,F5,Ko,zz C9,((t3.trans fw).trans Pz).trans CY,hout⟩,hcell w6 F5 _ _ _ (((l3.trans l4).trans l5).trans l6) (Qu C9)⟩
def x8 (k:Nat) (W:Wt):Wt:=fun p=>if p=k then W p else []
theorem ZjV{w:World}{k:Nat}(cp:w.cell? (ak P)=some (.int .i64 (k:Int)))(hne:¬(p:Int)=(k:Int)):
  au 119 (#[.int .i64 (p:Int),.slice ag ng cg]++#[ae P,ae Cb]) w fun e w'=>e=.returned (.bool true)/\Za ai w w':=by
 have hK:=Za.refl ai w;go_enter Tryz.func119,Tryz.ntmps119;go_wp2_with fail;go_ret;exact⟨rfl,by first | exact hK | exact hK.drewN _⟩
theorem Zhw{w:World}(cp:w.cell? (ak P)=some (.int .i64 (p:Int)))(c:w.cell? (ak Cb)=some (.func (.func fn) #[] cap))
  (hcf:∀(args:Array Value) (w:World),(callFunc fn args).run Tryz.prog w=.ok (.enter fn args) w)
  (hcall:au fn (#[.int .i64 (p:Int),.slice ag ng cg]++cap) w (fun e w2 =>∃b,e=.returned (.bool b)/\Q (.returned (.bool b)) w2)) :
  au 119 (#[.int .i64 (p:Int),.slice ag ng cg]++#[ae P,ae Cb]) w Q:=by
 go_enter Tryz.func119,Tryz.ntmps119;go_wp2_with((with_reducible (refine hcall.mono ?_));rintro e w3 ⟨b,rfl,hQ⟩);exact hQ
theorem ZlX{C:Cx}{w:World}{F:az}{k:Nat}{mine:List aO}(hk:di w F P 3 (.int .i64 (k:Int)))(hC:di w F Cb 102 nx)(hnx:Qg C w F nx W B mine):
  Qg C w F (.func (.func 119) #[] #[ae P,ae Cb]) (x8 k W) B mine:=by
 refine⟨_,_,rfl,fun _ _=>by kernel_rfl,?_⟩;intro w' F' l aW ρ ats τ T V out Fr p gv gs ha hm hτ hR hg hl hp hP hn;have hk':=hk.later l;have hC':=hC.later l;have lq:=hnx.later l;obtain⟨ag,cg,hgv⟩:∃ag cg,gv=.slice ag gs.length cg:=by obtain⟨a,c,h,_⟩:=hg;exact⟨a,c,h⟩
 by_cases he:p=k
 ·subst he;have e:x8 p W p=W p:=by simp[x8]
  obtain⟨fn,cap,rfl,hcf,hcall⟩:=lq;have hP':Pre C.u.size W T V p B:=by
   cases B with
   | none=>intro y hy;exact hP y (by rw[e];exact hy)
   | some b=>exact hP
  rw[e] at hn ⊢
  have:=hcall w' F' (aH.refl _ _) aW ρ ats τ T V out Fr p gv gs ha hm hτ hR hg hl hp hP' hn
  rw[hgv] at this ⊢;exact Zhw hk'.cell hC'.cell hcf (this.mono (fun e w2 h2=>⟨_,h2.1,by rw[<- h2.1];exact h2⟩))
 ·have e:x8 k W p = []:=by simp[x8,he]
  rw[e,hgv];refine(ZjV (k:=k) hk'.cell (by omega)).mono ?_;rintro e w2 ⟨rfl,hk⟩;exact TQ (p:=p) hτ ha hR hP hk
end Go.Proofs.YtfkflljplohhcaaGreatDoor
