import Derived.Test.YtfkflljplohhcaaGreatDoorYn
import Derived.Sort.LoopGhostIn
set_option linter.unusedVariables false
set_option maxHeartbeats 2000000
set_option maxRecDepth 100000
namespace Go.Proofs.YtfkflljplohhcaaGreatDoor
open Go.RowKit
variable {w w' w0 w5:World}{v tv tv':Value}{p:Int}{Pa D B0:Nat}{Ds:List Nat}
theorem Zkx{an:Option Addr}{cn:Nat}:au 91 #[.slice an 0 cn] w fun e w' =>∃a c,e=.returned (.slice a 0 c)/\w'.ownsRow w.heap.size 118 2 (.slice a 0 c) 0 []/\Za ai w w':=by
 cases an with
 | none =>
   have hq:∀w:World,(binOp BinOp.eql 36 (.slice none 0 cn) (.slice none 0 0)).run Tryz.prog w=.ok (.bool true) w:=fun _=>by kernel_rfl
   go_enter Tryz.func91,Tryz.ntmps91;go_wp2_with fail;go_ret;exact⟨_,_,rfl,World.ownsRow_nil _ _ _ _,Za.refl _ _⟩
 | some a =>
   have hq:∀w:World,(binOp BinOp.eql 36 (.slice (some a) 0 cn) (.slice none 0 0)).run Tryz.prog w=.ok (.bool false) w:=fun _=>by kernel_rfl
   have hap:∀(b:Addr) (w:World),(Builtin.append_ #[36,36] 36 #[.slice (some b) 0 0,.slice (some a) 0 cn]).run Tryz.prog w=.ok (.slice (some b) 0 0) w:=fun _ _=>by kernel_rfl
   have h0:(w.alloc (.cells #[] 118)).ownsRow w.heap.size 118 2 (.slice (some ⟨w.heap.size,0,none⟩) 0 0) 0 []:=World.ownsRow_lit w #[] 0 (Nat.le_refl _) (by unfold maxLen;omega) rfl;go_enter Tryz.func91,Tryz.ntmps91;go_wp2_with fail;go_ret;exact⟨_,_,rfl,h0,(Za.refl _ _).alloc _⟩
variable {F:az}{gs:Rs}
theorem Zh0(h:fF w F v gs)(hl:gs.length<=1000):
  au 91 #[v] w fun e w' =>∃a n c,e=.returned (.slice a n c)/\Hid (w'.ownsRow w.heap.size 118 2 (.slice a n c) gs.length (ZD gs))/\Za ai w w':=by
 obtain⟨ao,cap,rfl,h2⟩:=h
 cases hc:gs.length with
 | zero =>
   have e:gs = []:=List.eq_nil_of_length_eq_zero hc;refine Zkx.mono ?_;rintro e' w' ⟨a,c,rfl,h3,k⟩;exact⟨a,0,c,rfl,(by show World.ownsRow _ _ _ _ _ _ _;rw[e];exact h3),k⟩
 | succ n =>
   obtain⟨h3,h4⟩:=h2 (by omega);rw[hc] at h3;obtain⟨g,c,hv,-,-⟩:=ZM h3
   cases hv
   refine(MH h3 hc (by omega) (by omega)).mono ?_;rintro e w' ⟨g1,c1,rfl,h5,k⟩;exact⟨_,_,_,rfl,h5,k⟩
theorem ZhB{q:Int}{av:Option Addr}{nv cv:Nat}(h:fF w F (.slice av nv cv) gs)(hl:gs.length<=1000):
  au 72 #[.int .i64 p,.agg #[.int .i64 q,.slice av nv cv]] w fun e w' =>∃a n c,e=.returned (.agg #[.bool true,.int .i64 p,.int .i64 q,.slice a n c])/\Hid (w'.ownsRow w.heap.size 118 2 (.slice a n c) gs.length (ZD gs))/\Za ai w w':=by
 have hK:Za ai w ((w.alloc (.cells #[.int .i64 q,.slice av nv cv] 135)).alloc (.cells #[.bool false,.int .i64 0,.int .i64 0,.slice none 0 0] 38)):=((Za.refl _ w).alloc _).alloc _;have b1:=fU w (.cells #[.int .i64 q,.slice av nv cv] 135) (.cells #[.bool false,.int .i64 0,.int .i64 0,.slice none 0 0] 38);have b2:=gH w (.cells #[.int .i64 q,.slice av nv cv] 135) (.cells #[.bool false,.int .i64 0,.int .i64 0,.slice none 0 0] 38);go_enter Tryz.func72,Tryz.ntmps72;go_upto_region 1 with fail;generalize ((w.alloc (.cells #[.int .i64 q,.slice av nv cv] 135)).alloc (.cells #[.bool false,.int .i64 0,.int .i64 0,.slice none 0 0] 38))=w1 at hK b1 b2 ⊢;have hs:=hK.size;have c0:w1.drew.cell? (ak w.heap.size)=some (.int .i64 q):=by rw[Zc (w:=w1.drew) b1];rfl
 have c1:w1.drew.cell? ⟨w.heap.size,1,none⟩=some (.slice av nv cv):=by rw[Zc (w:=w1.drew) b1];rfl
 have hcl:=Zh0 ((h.later (aH.ay hK)).later (aH.ay (Za.refl ai w1).drew)) hl;have hS0:(w1.drew.cell? (ak w.heap.size)=some (.int .i64 q)/\w1.drew.cell? ⟨w.heap.size,1,none⟩=some (.slice av nv cv)):=⟨c0,c1⟩;clear h c0 c1;go_region_held3 (fun w'=>(w'.cell? (ak w.heap.size)=some (.int .i64 q)/\w'.cell? ⟨w.heap.size,1,none⟩=some (.slice av nv cv))) (first | assumption | go_keep) (first|(go_at_call 91;refine hcl.mono ?_;rintro e w2 ⟨a,n,c,rfl,HO,hk⟩;have hS2:(w2.cell? (ak w.heap.size)=some (.int .i64 q)/\w2.cell? ⟨w.heap.size,1,none⟩=some (.slice av nv cv)):=⟨Zf hS0.1 hk,Zf hS0.2 hk⟩;have hb:w2.heap[w.heap.size+1]?=some (.cells #[.bool false,.int .i64 0,.int .i64 0,.slice none 0 0] 38 (0,0)):=(hk.block _ (lt_of_block b2) id).trans b2;have d0:w2.cell? ⟨w.heap.size+1,0,none⟩=some (.bool false):=(by rw[Zc hb];rfl);have d1:w2.cell? ⟨w.heap.size+1,1,none⟩=some (.int .i64 0):=(by rw[Zc hb];rfl);have d2:w2.cell? ⟨w.heap.size+1,2,none⟩=some (.int .i64 0):=(by rw[Zc hb];rfl);have d3:w2.cell? ⟨w.heap.size+1,3,none⟩=some (.slice none 0 0):=(by rw[Zc hb];rfl);have f0:∀i,w2.frozen? ⟨w.heap.size+1,i,none⟩=false:=fun i=>Zv hb))
 all_goals (try go_wp2_with fail)
 all_goals refine bodyPost_ret (v:=.agg #[.bool true,.int .i64 p,.int .i64 q,.slice a n c]) (by simp[results,Tryz.results72,go_sem,d0,d1,d2,d3]) rfl ?_
 all_goals (
  have k4:Za (fun k=>k=w.heap.size+1) w2 ((((w2.setCell ⟨w.heap.size+1,0,none⟩ (.bool true)).setCell ⟨w.heap.size+1,1,none⟩ (.int .i64 p)).setCell ⟨w.heap.size+1,2,none⟩ (.int .i64 q)).setCell ⟨w.heap.size+1,3,none⟩ (.slice a n c)):=(((Zh _ _ _ _).trans (Zh _ _ _ _)).trans (Zh _ _ _ _)).trans (Zh _ _ _ _);have hb2:=lt_of_block b2;refine⟨a,n,c,rfl,?_,(hK.trans ((Za.refl ai w1).drew.trans hk)).trans' k4 (fun i hi e=>by omega)⟩;refine Zb (Zp HO.out (fun i hi=>?_)) k4 (fun i hi e=>?_)
  ·have h1:w1.heap.size<=i:=(HO.out.lt i hi).1;omega
  ·have h1:w1.heap.size<=i:=(HO.out.lt i hi).1;omega)
theorem ZkR{base:Nat}{L:List Mm}(h:w.ownsRow base 38 4 v L.length (L.flatMap Jx))(hb:base<=w.heap.size)(hl:L.length<=100000)(x:Mm){ag:Option Addr}{ng cg:Nat}(hx:x.2=.slice ag ng cg):
  ∃v' w',Sem.run Tryz.prog (Builtin.append_ #[25,25] 25 #[v,.slice (some ⟨w.heap.size,0,none⟩) 1 1]) (w.alloc (.cells #[.bool x.1.ok,.int .i64 x.1.fr,.int .i64 x.1.up,x.2] 38))=.ok v' w'/\w'.ownsRow base 38 4 v' (L++[x]).length ((L++[x]).flatMap Jx)/\Za (v.ownBlock=some ·) w w'/\(∀k,v'.ownBlock=some k->v.ownBlock=some k\/w.heap.size<=k):=by
 obtain⟨i0,hi,hz0,hz1,hz2⟩:=info_parts Tryz.jS;obtain⟨v',w3,hrun,ho,hgr,hbk⟩:=JF (P:=Tryz.prog) (w.alloc (.cells #[.bool x.1.ok,.int .i64 x.1.fr,.int .i64 x.1.up,x.2] 38)) base 25 25 38 i0 _ 4 48 Tryz.underlying25 hi hz0 hz1 hz2 rfl (by decide) v L.length _ (h.alloc _)
  (ak w.heap.size) 1 1 (Jx x) rfl (aV w _ _) (by intro u hu;simp[Jx,hx] at hu;rcases hu with rfl | rfl | rfl | rfl <;> rfl) (by unfold maxLen;omega) (by omega) (by simp;omega)
 refine⟨v',w3,hrun,?_,((Za.refl _ w).alloc _).grown hgr (fun k hk _=>hk),fun k hk=>?_⟩
 ·rw[List.flatMap_append,List.length_append];simpa using ho
 ·by_cases hlt:k<w.heap.size
  ·exact Or.inl (hbk k hk (by simp;omega))
  ·exact Or.inr (by omega)
structure Ch (B:Nat) (w:World) (F:az) (L:List Mm):Prop where
 rows:∀x∈L,w.ownsRow B 118 2 x.2 x.1.gs.length (ZD x.1.gs)/\∀k,x.2.ownBlock=some k->¬F k
 sep:(L.filterMap fun x=>x.2.ownBlock).Nodup
theorem Ch.later{B:Nat}{F':az}{L:List Mm}(h:Ch B w F L)(l:aH w F w' F'):Ch B w' F' L:=⟨fun x hx=>ZB (h.rows x hx) l,h.sep⟩
end Go.Proofs.YtfkflljplohhcaaGreatDoor
namespace Go.Proofs.YtfkflljplohhcaaGreatDoor
open Go.RowKit Go.Shelf
attribute [local go_sem] Oper.semAt_some
theorem Zve(G:Nat)(e:Ef):ap e (eG G)=gU G e:=by
 apply List.ext_getElem?;intro i
 by_cases hi:i<G
 ·rw[ZeH e G i hi];simp only[gU,List.getElem?_map,List.getElem?_range hi,Option.map_some]
  cases e i <;> rfl
 ·rw[List.getElem?_eq_none (by rw[Ih];simp[eG];omega),List.getElem?_eq_none (by rw[Jt];omega)]
def ZP (s u:ByteArray) (p:Int):List Mt:=if wanted s u p then (match ZA s with | .error _ => [] | .ok (g,f)=>(dx u [] f p.toNat).map (QN g p.toNat)) else []
theorem Zg8(s u:ByteArray)(p:Int):(ZP s u p).length<=201:=by
 unfold ZP
 split
 ·rename_i hw
  cases ht:ZA s with
  | error x=>simp
  | ok gf =>
    obtain⟨g,f⟩:=gf;simp only[List.length_map];simp only[wanted,Bool.and_eq_true,decide_eq_true_eq] at hw;obtain⟨hfg,-,-,-⟩:=yo ht;have hX:dh u.size 0 g (dx u [] f):=zi u ⟨f,hfg,rfl⟩
    have:=SE hX (p:=p.toNat) (by omega)
    omega
 ·simp
open Go.RowKit
def Z2 (L:Nat->List Mt):Nat->Nat->Option Mt
 | 0,_=>none
 | k+1,p=>match L p with
   | []=>Z2 L k (p+1)
   | m::_=>some m
variable {L:Nat->List Mt}
theorem Uj{k p:Nat}(h:L p = []):Z2 L (k+1) p=Z2 L k (p+1):=by simp[Z2,h]
theorem Zeu{k p:Nat}{m:Mt}{l:List Mt}(h:L p=m::l):Z2 L (k+1) p=some m:=by simp[Z2,h]
theorem ZdJ{L':Nat->List Mt}{k p:Nat}(h:∀q,p<=q->q<p+k->L q=L' q):Z2 L k p=Z2 L' k p:=by
 induction k generalizing p with
 | zero=>rfl
 | succ k ih =>
   simp only[Z2];rw[<- h p (Nat.le_refl _) (by omega),ih (fun q h1 h2=>h q (by omega) (by omega))]
theorem Zdx{Fe:Fence}{n:Nat}{fn:Func}{tmps:Array Value}{R:Ending->World->Prop}:∀(Ds:List Nat) (w:World),(∀D∈Ds,w.heap[D]?=some (.deferred (some [])))->Ds.Nodup->(∀w',Za (fun k=>k∈Ds) w w'->LeavesInM Fe n Tryz.prog fn tmps R [] .returning w')->
  LeavesInM Fe n Tryz.prog fn tmps R (Ds.map fun D => { target:=.collected D,args:=#[] }) .returning w:=by
 intro Ds
 induction Ds with
 | nil=>intro w _ _ h;exact h w (Za.refl _ _)
 | cons D Ds ih =>
   intro w hD hn h;rw[List.nodup_cons] at hn;refine⟨by simp,.inl ⟨D,_,rfl,run_takeDeferred (hD D (by simp)),ih _ (fun E hE=>?_) hn.2 (fun w' k=>h w' ?_)⟩⟩
   ·rw[QX (show E≠D from fun e=>hn.1 (e ▸ hE))];exact hD E (by simp[hE])
   ·exact((JZ w D (.deferred none)).mono (fun k _ e=>by simp[e])).trans (k.mono (fun k _ e=>by simp[e]))
def rF:Obj:=.cells #[.bool false,.int .i64 0,.int .i64 0,.slice none 0 0] 38 (0,0)
def uP (Rb B Pa:Nat) (p:Int) (Ds:List Nat) (out:List (Nat×Rs)):aO:=fun w F Fr =>
 (∀k,Fr k↔k=Rb\/k∈Ds)/\F Rb/\(∀D∈Ds,F D/\w.heap[D]?=some (.deferred (some [])))/\eY w F Pa 0 (.int .i64 p)/\Rb<w.heap.size/\
 (out = []->w.heap[Rb]?=some rF)/\
 (∀q gs l,out=(q,gs)::l->∃a n c,w.heap[Rb]?=some (.cells #[.bool true,.int .i64 p,.int .i64 (q:Int),.slice a n c] 38 (0,0))/\w.ownsRow B 118 2 (.slice a n c) gs.length (ZD gs)/\∀k,(Value.slice a n c).ownBlock=some k->¬F k)
theorem LV(Rb B Pa:Nat)(p:Int)(Ds:List Nat)(out:List (Nat×Rs)):Zs (uP Rb B Pa p Ds out):=by
 refine⟨?_,?_⟩
 ·rintro w F Fr ⟨h1,h2,hd,h3,h4,h5,h6⟩ k hk
  rcases(h1 k).1 hk with rfl | hk
  ·exact⟨h2,h4⟩
  ·exact⟨(hd k hk).1,(Array.getElem?_eq_some_iff.1 (hd k hk).2).1⟩
 ·rintro w w' F F' Fr ⟨h1,h2,hd,h3,h4,h5,h6⟩ l hF' hk;have hb:=hk Rb ((h1 Rb).2 (Or.inl rfl));refine⟨h1,hF' Rb ((h1 Rb).2 (Or.inl rfl)),fun D hD=>⟨hF' D ((h1 D).2 (Or.inr hD)),by rw[hk D ((h1 D).2 (Or.inr hD))];exact(hd D hD).2⟩,h3.later l,Nat.lt_of_lt_of_le h4 l.size,fun e=>by rw[hb];exact h5 e,fun q gs l' e=>?_⟩;obtain⟨a,n,c,g1,g2,g3⟩:=h6 q gs l' e;obtain⟨g4,g5⟩:=ZB ⟨g2,g3⟩ l;exact⟨a,n,c,by rw[hb];exact g1,g4,g5⟩
variable {C:Cx}{ρ:Rx}{tv v tv':Value}{T:Tt}{Pa D B0:Nat}{p:Int}{Ds:List Nat}{out:List (Nat×Rs)}{w w' w0 w5:World}{F Fr:az}
theorem Zgc{mine:List aO}{Rb B:Nat}(h:Zr (aR C ρ tv T::l9 D::uP Rb B Pa p Ds out::mine) w F Fr):Zr (aR C ρ tv T::uP Rb B Pa p (D::Ds) out::mine) w F Fr/\D ∉ Ds:=by
 obtain⟨A1,A2,eA,dA,iD,B1,B2,eB,dB,WO,C1,C2,eC,dC,PK,dK⟩:=h;obtain⟨f1,f2,f3⟩:=WO;obtain⟨h1,h2,hd,h3,h4,h5,h6⟩:=PK;refine⟨⟨A1,A2,eA,dA,iD,fun k=>B1 k\/C1 k,C2,fun k=>?_,fun k hk hc=>?_,⟨fun k=>?_,h2,fun E hE=>?_,h3,h4,h5,h6⟩,dK⟩,fun hD=>?_⟩
 ·rw[eB k,eC k];exact or_assoc.symm
 ·rcases hk with hk | hk
  ·exact dB k hk ((eC k).2 (Or.inr hc))
  ·exact dC k hk hc
 ·show B1 k\/C1 k↔_;rw[f1 k,h1 k,List.mem_cons];constructor
  ·rintro(h | h | h)
   ·exact Or.inr (Or.inl h)
   ·exact Or.inl h
   ·exact Or.inr (Or.inr h)
  ·rintro(h | h | h)
   ·exact Or.inr (Or.inl h)
   ·exact Or.inl h
   ·exact Or.inr (Or.inr h)
 ·rcases List.mem_cons.1 hE with rfl | hE
  ·exact⟨f2,f3⟩
  ·exact hd E hE
 ·exact dB D ((f1 D).2 rfl) ((eC D).2 (Or.inl ((h1 D).2 (Or.inr hD))))
theorem xV{mine:List aO}{R:aO}(ha:∀R∈mine,Zs R)(hR:Zs R):Zs (Zr (aR C ρ tv T::R::mine)):=ZT (fun Q hQ=>by
 rcases List.mem_cons.1 hQ with rfl | hQ
 ·exact QA _ _ _ _
 ·rcases List.mem_cons.1 hQ with rfl | hQ
  ·exact hR
  ·exact ha Q hQ)
structure Nj (C:Cx) (ρ:Rx) (X:Xs) (B:Option Bo) (mine:List aO) (Rb B0:Nat) (w0:World) (F0 pY:az) (at_ Pa:Nat) (Ds:List Nat) (w:World):Prop where
 ex:∃(T:Tt) (tv:Value) (F Fr:az),Zr (aR C ρ tv T::uP Rb B0 Pa (at_:Int) Ds []::mine) w F Fr/\ja C w F ρ.bg X B mine/\Fb w F/\iB C.u.size T B/\aJ w0 F0 pY w F Fr
 pa:w.heap[Pa]?=some (.cells #[.int .i64 (at_:Int)] 3 (0,0))
 nd:Ds.Nodup
variable {B:Option Bo}{F0 pY F5 gK:az}{T':Tt}
theorem Zss{X:Xs}{mine:List aO}{Rb at_:Nat}{wr w6:World}{F2 bf:az}
  (g2:ja C wr F2 ρ.bg X B mine) (g3:Fb wr F2) (g5:aJ w0 F0 pY wr F2 bf) (hF2:∀k,bf k->F2 k) (hnd:Ds.Nodup)
  (hst:Zr (aR C ρ tv' T'::l9 D::uP Rb B0 Pa (at_:Int) Ds []::mine) w5 F5 gK) (nQ:aJ wr F2 bf w5 F5 gK) (hrd:iB C.u.size T' B)
  (k6:Za ai w5 w6) (jU:w6.heap[w5.heap.size]?=some (.cells #[.int .i64 ((at_+1:Nat):Int)] 3 (0,0))) :
  Nj C ρ X B mine Rb B0 w0 F0 pY (at_+1) w5.heap.size (D::Ds) w6:=by
 obtain⟨h1,hnD⟩:=Zgc hst;have hok:=xV (C:=C) (ρ := ρ) (tv:=tv') (T:=T') g2.ok (LV Rb B0 Pa (at_:Int) (D::Ds) []);have hlt:=hok.lt h1;have fP:Fb w5 F5:=g3.vk nQ (fun k hk=>(hlt k hk).2);have h6:=hok.frame h1 (aH.ay k6) (fun k hk=>(hlt k hk).1) (fun k hk=>k6.block k (hlt k hk).2 id);have t6:aJ w5 F5 gK w6 F5 gK:=aJ.ay (fun k hk=>(hlt k hk).1) k6;obtain⟨A1,A2,eA,dA,iD,C1,C2,eC,dC,⟨r1,r2,rd,r3,r4,r5,r6⟩,dK⟩:=h6;refine⟨⟨T',tv',F5,gK,⟨A1,A2,eA,dA,iD,C1,C2,eC,dC,⟨r1,r2,rd,⟨by rw[Zc jU];rfl,fun h=>?_,lt_of_block jU⟩,r4,r5,fun q gs l e=>by cases e⟩,dK⟩,g2.later ((nQ.trans t6).dm hF2),fP.keeps k6,hrd,g5.trans (nQ.trans t6)⟩,jU,List.nodup_cons.2 ⟨hnD,hnd⟩⟩
 have:=fP _ h
 omega
theorem XT{mine:List aO}{Rb:Nat}(ha:∀R∈mine,Zs R)
  (hst:Zr (aR C ρ tv' T'::uP Rb B0 Pa p Ds out::mine) w5 F5 gK) (nQ:aJ w0 F0 pY w5 F5 gK) (k:Za (fun k=>k=Rb\/k∈Ds) w5 w') :
  ∃F' aM,Zr (aR C ρ tv' T'::mine) w' F' aM/\aJ w0 F0 pY w' F' aM/\∀k,F' k->F5 k:=by
 have hokS:=pK (C:=C) (ρ := ρ) (tl:=tv') (T:=T') ha;have iT:=LV Rb B0 Pa p Ds out;obtain⟨G1,G2,hA⟩:=Zo.1 (Zy hst);have h1:=hA.one.1;have hlt:=iT.lt hA.one;have t5:aJ w5 F5 G1 w' F5 G1:=aJ.same (fun k hk=>(hlt k hk).1) (k.mono (fun i _ h=>(h1 i).2 h));obtain⟨hA2,t2⟩:=hA.upd (R':=Le) iT hokS t5 (fun i hi=>⟨(hlt i hi).1,Nat.lt_of_lt_of_le (hlt i hi).2 k.size⟩);obtain⟨H1,H2,-,q2,q3⟩:=Ca SA hokS (Zo.2 ⟨_,_,hA2⟩) (nQ.trans t2);exact⟨_,H2,q2,q3,fun k hk=>hk.1⟩
def Ia (C:Cx) (ρ:Rx) (B:Option Bo) (mine:List aO) (r:Option Mt) (w:World) (F Fr:az) (e:Ending) (w':World):Prop :=
 ∃ (T':Tt) (tv':Value) (F' aM:az) (a:Option Addr) (n c:Nat),e=.returned (.agg #[.bool (r.elim false (·.ok)),.int .i64 (r.elim 0 (·.fr)),.int .i64 (r.elim 0 (·.up)),.slice a n c])/\
   w'.ownsRow w.heap.size 118 2 (.slice a n c) (r.elim [] (·.gs)).length (ZD (r.elim [] (·.gs)))/\(∀k,(Value.slice a n c).ownBlock=some k->¬F' k)/\
   Zr (aR C ρ tv' T'::mine) w' F' aM/\aJ w F Fr w' F' aM/\iB C.u.size T' B
theorem Zsr{mine:List aO}{Rb:Nat}(ha:∀R∈mine,Zs R)
  (hst:Zr (aR C ρ tv' T'::uP Rb B0 Pa p Ds out::mine) w5 F5 gK) (nQ:aJ w0 F0 pY w5 F5 gK) (k:Za (fun k=>k=Rb\/k∈Ds) w5 w') (hrd:iB C.u.size T' B) :
  Ia C ρ B mine none w0 F0 pY (.returned (.agg #[.bool false,.int .i64 0,.int .i64 0,.slice none 0 0])) w':=by
 obtain⟨F',aM,h1,h2,h3⟩:=XT ha hst nQ k;exact⟨T',tv',F',aM,none,0,0,rfl,World.ownsRow_nil _ _ _ _,fun k hk=>by simp[Value.ownBlock] at hk,h1,h2,hrd⟩
variable {gs:Rs}
theorem Zsq{mine:List aO}{Rb q:Nat}(ha:∀R∈mine,Zs R)
  (hst:Zr (aR C ρ tv' T'::uP Rb w0.heap.size Pa p Ds [(q,gs)]::mine) w5 F5 gK) (nQ:aJ w0 F0 pY w5 F5 gK) (hrd:iB C.u.size T' B) :
  ∃a n c,w5.heap[Rb]?=some (.cells #[.bool true,.int .i64 p,.int .i64 (q:Int),.slice a n c] 38 (0,0))/\(∀D∈Ds,w5.heap[D]?=some (.deferred (some [])))/\Rb ∉ Ds/\∀w',Za (fun k=>k∈Ds) w5 w'->Ia C ρ B mine (some ⟨true,p,(q:Int),gs⟩) w0 F0 pY (.returned (.agg #[.bool true,.int .i64 p,.int .i64 (q:Int),.slice a n c])) w':=by
 obtain⟨G1,G2,hA⟩:=Zo.1 (Zy hst);obtain⟨r1,r2,rd,r3,r4,r5,r6⟩:=hA.one;obtain⟨a,n,c,g1,g2,g3⟩:=r6 q gs [] rfl;refine⟨a,n,c,g1,fun D hD=>(rd D hD).2,fun h=>by have:=(rd _ h).2;rw[g1] at this;simp at this,fun w' k=>?_⟩;obtain⟨F',aM,h1,h2,h3⟩:=XT ha hst nQ (k.mono (fun i _ h=>Or.inr h));exact⟨T',tv',F',aM,a,n,c,rfl,Zb g2 k (fun i hi h=>g3 i hi (rd i h).1),fun i hi h=>g3 i hi (h3 i h),h1,h2,hrd⟩
end Go.Proofs.YtfkflljplohhcaaGreatDoor
namespace Go.Proofs.YtfkflljplohhcaaGreatDoor
open Go.RowKit Go.Shelf
attribute [local go_sem] Oper.semAt_some
variable {w w' w0 w5:World}{C:Cx}{ρ:Rx}{B:Option Bo}{T:Tt}{tv v tv':Value}{F Fr:az}{p:Int}{Pa D B0:Nat}{Ds:List Nat}
theorem ZpM{X:Xs}{mine:List aO}{p:Nat}(hS:ja C w F ρ.bg X B mine)(hR:Zr (aR C ρ tv T::mine) w F Fr)(aW:Fb w F)(hrd:iB C.u.size T B)(hX:dh C.u.size 0 C.G X)(hu:C.u.size<=200)(hG:C.G<=9)(hp:p<=C.u.size+1):
  au 44 #[ae C.X,.int .i64 (p:Int)] w (Ia C ρ B mine (Z2 (fun a=>(X a).map (QN C.G a)) (C.u.size+1-p) p) w F Fr):=by
 have hfn:∀f,Fence.wide.fn f:=fun _=>trivial;have hdp:Fence.wide.depth=none:=rfl;have b1:=fU w (.cells #[.bool false,.int .i64 0,.int .i64 0,.slice none 0 0] 38) (.cells #[.int .i64 (p:Int)] 3);have b2:=gH w (.cells #[.bool false,.int .i64 0,.int .i64 0,.slice none 0 0] 38) (.cells #[.int .i64 (p:Int)] 3);have k1:Za ai w ((w.alloc (.cells #[.bool false,.int .i64 0,.int .i64 0,.slice none 0 0] 38)).alloc (.cells #[.int .i64 (p:Int)] 3)):=((Za.refl _ w).alloc _).alloc _;refine(callsIn_wide (n:=3)).1 ?_;refine callsIn_of_wp_marks Tryz.func44 rfl trivial ?_;simp only[Tryz.ntmps44,List.size_toArray,List.length_cons,List.length_nil,Nat.reduceAdd,Nat.reduceSub,Array.replicate_succ,Array.replicate_zero,List.push_toArray,List.append_toArray,List.nil_append,List.cons_append];have hok0:=pK (C:=C) (ρ := ρ) (tl:=tv) (T:=T) hS.ok;have gQ:=hok0.lt hR;have H0:Hid (Nj C ρ X B mine w.heap.size w.heap.size w F Fr p (w.heap.size+1) [] ((w.alloc (.cells #[.bool false,.int .i64 0,.int .i64 0,.slice none 0 0] 38)).alloc (.cells #[.int .i64 (p:Int)] 3))):=by
  have l1:aH w F ((w.alloc (.cells #[.bool false,.int .i64 0,.int .i64 0,.slice none 0 0] 38)).alloc (.cells #[.int .i64 (p:Int)] 3)) (fun k=>F k\/k=w.heap.size):=⟨k1.mono (fun _ _ h=>h.elim),fun k hk=>hk.imp id (fun e=>by omega)⟩;have aK:=hok0.frame hR l1 (fun k hk=>Or.inl (gQ k hk).1) (fun k hk=>k1.block k (gQ k hk).2 id);have hn1:¬(F (w.heap.size+1)\/w.heap.size+1=w.heap.size):=fun h=>by
   rcases h with h | h
   ·have:=aW _ h;omega
   ·omega
  have hs2:=lt_of_block b2;have hs1:=lt_of_block b1;have hres:uP w.heap.size w.heap.size (w.heap.size+1) (p:Int) [] [] ((w.alloc (.cells #[.bool false,.int .i64 0,.int .i64 0,.slice none 0 0] 38)).alloc (.cells #[.int .i64 (p:Int)] 3)) (fun k=>F k\/k=w.heap.size) (·=w.heap.size) :=
   ⟨fun k=>by simp,Or.inr rfl,by simp,⟨by rw[Zc b2];rfl,hn1,hs2⟩,hs1,fun _=>b1,fun q gs l e=>by cases e⟩
  refine⟨⟨T,tv,_,_,Zy (ME hok0 aK (fun h=>by have:=(gQ _ h).2;omega) (Or.inr rfl) hres),hS.later l1,fun k hk=>?_,hrd,⟨k1.mono (fun _ _ h=>h.elim),fun k hk=>?_,fun k hk=>?_,fun k hs hk hn=>Or.inl hk,fun k hk=>?_⟩⟩,b2,by simp⟩
  ·rcases hk with h | h
   ·have:=aW k h;have:=k1.size;omega
   ·omega
  ·rcases hk with h | h
   ·exact Or.inr (by omega)
   ·exact Or.inl h
  ·rcases hk with h | h
   ·by_cases h2:Fr k
    ·exact Or.inr (Or.inr h2)
    ·exact Or.inl ⟨h,h2⟩
   ·exact Or.inr (Or.inl h)
  ·rcases hk with h | h
   ·exact Or.inr h
   ·exact Or.inl (gQ k h).1
 gi_wp2;generalize ((w.alloc (.cells #[.bool false,.int .i64 0,.int .i64 0,.slice none 0 0] 38)).alloc (.cells #[.int .i64 (p:Int)] 3))=w1 at *;refine wpIn_loop_ghost_k (fun n a wr =>∃(at_ Pa:Nat) (Ds:List Nat) (u8 u9 EE ED EC EB EA Cs u16 Vt Vr Vq u24:Value),n=C.u.size+1-at_/\at_<=C.u.size+1/\Hid (Z2 (fun a=>(X a).map (QN C.G a)) (C.u.size+1-p) p=Z2 (fun a=>(X a).map (QN C.G a)) (C.u.size+1-at_) at_)/\Hid (Nj C ρ X B mine w.heap.size w.heap.size w F Fr at_ Pa Ds wr)/\
  a = { tmps:=#[ae C.X,.int .i64 (p:Int),undef,undef,ae w.heap.size,ae Pa,undef,.int .i64 (p:Int),u8,u9,EE,ED,EC,EB,EA,Cs,u16,Vt,Vr,Vq,undef,undef,undef,undef,u24,undef],defers:=Ds.map fun D => { target:=.collected D,args:=#[] } }) (C.u.size+1-p) ?_ ?_
 ·exact⟨p,w.heap.size+1,[],_,_,_,_,_,_,_,_,_,_,_,_,_,rfl,hp,rfl,H0.out,rfl⟩
 intro n a wr hI J K hJ hK;obtain⟨at_,Pa,Ds,u8,u9,EE,ED,EC,EB,EA,Cs,u16,Vt,Vr,Vq,u24,hn,hat,HL,HI,rfl⟩:=hI;have HN:Hid (n=C.u.size+1-at_):=hn;obtain⟨⟨T2,EF,F2,bf,g1,g2,g3,g4,g5⟩,jU,hnd⟩:=HI.out;obtain⟨FA,FB,dZ⟩:=Zo.1 g1;have iD:Se wr C ρ.jn ρ.bg EF:=dZ.one.choose_spec.1;have hs0:=iD.c0;have ha0:wr.cell? (ak Pa)=some (.int .i64 (at_:Int)):=by rw[Zc jU];rfl
 by_cases hle:at_<=C.u.size
 ·have hz:(at_:Int)<=(C.u.size:Int):=by omega
  have HE:Hid (∀(w3:World),CallsIn Fence.wide 2 Tryz.prog 71 #[ae C.X,.int .i64 (at_:Int)] w3 (fun e w'=>e=.returned (.func (.func 90) #[] #[ae w3.heap.size,.pointer (some ⟨w3.heap.size+1,0,none⟩)])/\aP w' w3.heap.size 52 ((ae C.X))/\aP w' (w3.heap.size+1) 3 (.int .i64 (at_:Int))/\Za ai w3 w')):=fun w3=>callsIn_wide.2 (Zi6 (C:=C) (p:=(at_:Int)));clear dZ iD hS hR aW hrd b1 b2 k1 H0 hok0 gQ hn;gi_wp2;gi_region;gi_wp2_with(gi_at_call 71;refine(HE.out _).mono ?_;rintro e w4 ⟨rfl,bA,bP,k4⟩);have yK:Za ai wr w4:=by first | exact k4 | exact((Za.refl _ wr).drew).trans k4
  have y8:aP w4 wr.heap.size 52 ((ae C.X)):=bA;have Bq:aP w4 (wr.heap.size+1) 3 (.int .i64 (at_:Int)):=bP;have iT:=xV (C:=C) (ρ := ρ) (tv:=EF) (T:=T2) g2.ok (LV w.heap.size w.heap.size Pa (at_:Int) Ds []);have hlt:=iT.lt g1;have nR:=iT.frame g1 (aH.ay yK) (fun k hk=>(hlt k hk).1) (fun k hk=>yK.block k (hlt k hk).2 id);have dE:=g2.later (aH.ay (F:=F2) yK);have hF2:∀k,bf k->F2 k:=fun k hk=>(hlt k hk).1;have hno:ic (some Code.ret).isSome bq (bn (X at_) Q1)<=if (some Code.ret).isSome then 1 else 1:=by
   show (if true then min 1 (dd bq (bn (X at_) Q1)).length else _)<=1;simp;omega
  refine Zef (cap:=1) (c:=some .ret) (ρ := ρ) (p:=at_) (X:=X) (U:=uP w.heap.size w.heap.size Pa (at_:Int) Ds) (fun out=>LV _ _ _ _ _ out) rfl ?round rfl dE ⟨y8,fun h=>by have:=g3 _ h;omega⟩ ⟨Bq,fun h=>by have:=g3 _ h;omega⟩ (g3.keeps yK) nR hle (g4.pre _ _) hno ?done
  case round =>
   clear nR dE bA bP y8 Bq iT hlt g1 g2 g3 g4 g5 HI jU hs0 ha0 HE hK hJ k4 yK hF2 hno;intro l w5 F5 Fu out q' gv gs fP hU hsp hgl hq' hn pg hll hnl;obtain⟨ag,ng,cg,hgv⟩:∃ag ng cg,gv=.slice ag ng cg:=by obtain⟨a,c,h,_⟩:=hsp;exact⟨a,_,c,h⟩
   subst hgv;have hgs:gs.length<=1000:=by rw[hgl];omega
   have hout:out = []:=by
    have:out.length<1:=hn
    exact List.eq_nil_of_length_eq_zero (by omega)
   subst hout;clear hgl hn;refine⟨fun a1 w6=>w6.heap[w5.heap.size]?=some (.cells #[.int .i64 (q':Int),.slice ag ng cg] 135 (0,0))/\a1 = { tmps:=#[ae C.X,.int .i64 (p:Int),undef,undef,ae w.heap.size,ae Pa,ae w5.heap.size,.int .i64 (p:Int),.int .i64 (at_:Int),ae C.X,ae C.X,ae C.X,.string C.u,.int .i64 (C.u.size:Int),.bool true,Cs,u16,ae C.X,.int .i64 (at_:Int),.func (.func 90) #[] #[ae wr.heap.size,.pointer (some ⟨wr.heap.size+1,0,none⟩)],.agg #[.int .i64 (q':Int),.slice ag ng cg],undef,undef,undef,u24,undef],defers := [] },?_,?_⟩
   ·have HK:Hid (Za ai w5 (w5.alloc (.cells #[.int .i64 (q':Int),.slice ag ng cg] 135))):=QT;have HA:Hid ((w5.alloc (.cells #[.int .i64 (q':Int),.slice ag ng cg] 135)).heap[w5.heap.size]?=some (.cells #[.int .i64 (q':Int),.slice ag ng cg] 135 (0,0))):=heap_alloc_new _ _;clear hU hsp;gi_wp2;exact⟨HK.out,HA.out,by first | trivial | rfl⟩
   ·rintro a1 w6 w7 k6 ⟨hb,rfl⟩ k7 ⟨r1,r2,rd,r3,r4,r5,r6⟩;have AU:w7.heap[w5.heap.size]?=some (.cells #[.int .i64 (q':Int),.slice ag ng cg] 135 (0,0)):=by rw[k7.block _ (lt_of_block hb) (by omega)];exact hb
    have VA:aH w5 F5 w7 F5:=(aH.ay k6).trans ⟨k7.mono (fun k _ e=>e ▸ pg),fun k h=>Or.inl h⟩;have jq:Fb w7 F5:=(fP.keeps k6).keeps k7;have Fq:=hsp.later VA;have hmo:CallsIn (Fence.wide.inRound l) 0 Tryz.prog 72 #[.int .i64 (at_:Int),.agg #[.int .i64 (q':Int),.slice ag ng cg]] w7 _:=CallsIn.inRound l ((callsIn_wide (n:=0)).2 (ZhB (p:=(at_:Int)) (q:=(q':Int)) Fq hgs));have rQ:=r5 rfl;have d1:w7.cell? (ak Pa)=some (.int .i64 (at_:Int)):=r3.1;have d2:w7.cell? (ak w5.heap.size)=some (.int .i64 (q':Int)):=by rw[Zc AU];rfl
    have d3:w7.cell? ⟨w5.heap.size,1,none⟩=some (.slice ag ng cg):=by rw[Zc AU];rfl
    have HF:Hid (∀(w8:World) (a:Option Addr) (n c:Nat),Za ai w7 w8->w8.ownsRow w7.heap.size 118 2 (.slice a n c) gs.length (ZD gs)->w8.heap[w.heap.size]?=some rF/\Hid (∃F4 gZ,uP w.heap.size w.heap.size Pa (at_:Int) Ds ([]++[(q',gs)]) ((((w8.setCell (ak w.heap.size) (.bool true)).setCell ⟨w.heap.size,1,none⟩ (.int .i64 (at_:Int))).setCell ⟨w.heap.size,2,none⟩ (.int .i64 (q':Int))).setCell ⟨w.heap.size,3,none⟩ (.slice a n c)) F4 gZ/\aJ w7 F5 Fu ((((w8.setCell (ak w.heap.size) (.bool true)).setCell ⟨w.heap.size,1,none⟩ (.int .i64 (at_:Int))).setCell ⟨w.heap.size,2,none⟩ (.int .i64 (q':Int))).setCell ⟨w.heap.size,3,none⟩ (.slice a n c)) F4 gZ)):=by
     intro w8 a n c k8 hrow;have h8:w8.heap[w.heap.size]?=some rF:=(k8.block _ r4 id).trans rQ;refine⟨h8,F5,Fu,?_,?_⟩
     ·have kN:Za (·=w.heap.size) w8 ((((w8.setCell (ak w.heap.size) (.bool true)).setCell ⟨w.heap.size,1,none⟩ (.int .i64 (at_:Int))).setCell ⟨w.heap.size,2,none⟩ (.int .i64 (q':Int))).setCell ⟨w.heap.size,3,none⟩ (.slice a n c)):=(((Zh _ _ _ _).trans (Zh _ _ _ _)).trans (Zh _ _ _ _)).trans (Zh _ _ _ _);have lN:aH w7 F5 ((((w8.setCell (ak w.heap.size) (.bool true)).setCell ⟨w.heap.size,1,none⟩ (.int .i64 (at_:Int))).setCell ⟨w.heap.size,2,none⟩ (.int .i64 (q':Int))).setCell ⟨w.heap.size,3,none⟩ (.slice a n c)) F5:=⟨(k8.mono (fun _ _ h=>h.elim)).trans (kN.mono (fun k _ e=>e ▸ r2)),fun k h=>Or.inl h⟩;have hsz:=k8.size;refine⟨r1,r2,fun D hD=>⟨(rd D hD).1,?_⟩,r3.later lN,(by have:=kN.size;omega),(fun e=>by simp at e),fun q gs' l' e=>?_⟩
      ·have Ro:¬D=w.heap.size:=fun e=>by have:=(rd D hD).2;rw[e,rQ] at this;simp[rF] at this
       have hDl:=(Array.getElem?_eq_some_iff.1 (rd D hD).2).1;rw[kN.block D (by omega) Ro,k8.block D hDl id];exact(rd D hD).2
      ·simp only[List.nil_append,List.cons.injEq,Prod.mk.injEq] at e;obtain⟨⟨rfl,rfl⟩,rfl⟩:=e;refine⟨a,n,c,?_,?_,fun k hk h=>?_⟩
       ·have s1:=heap_setCell_same w8 w.heap.size 0 _ _ (.bool true) h8;have s2:=heap_setCell_same _ w.heap.size 1 _ _ (.int .i64 (at_:Int)) s1;have s3:=heap_setCell_same _ w.heap.size 2 _ _ (.int .i64 (q':Int)) s2;have s4:=heap_setCell_same _ w.heap.size 3 _ _ (.slice a n c) s3;exact s4
       ·have hr2:=Zb hrow kN (fun k hk e=>by have:=(hrow.lt k hk).1;omega);exact Zp hr2 (fun k hk=>by have:=(hr2.lt k hk).1;omega)
       ·have:=(hrow.lt k hk).1
        have:=jq k h
        omega
     ·exact aJ.same (fun k hk=>by
       rcases(r1 k).1 hk with e | e
       ·exact e ▸ r2
       ·exact(rd k e).1) ((k8.mono (fun _ _ h=>h.elim)).trans ((((Zh _ _ _ _).trans (Zh _ _ _ _)).trans (Zh _ _ _ _)).trans (Zh _ _ _ _) |>.mono (fun k _ e=>(r1 k).2 (Or.inl e))))
    clear r1 r2 rd r3 r4 r5 r6 AU VA jq Fq hb k6 k7 hU hsp rQ hgs;gi_wp2_with(gi_at_call 72;refine hmo.mono ?_;rintro e w8 ⟨a,n,c,rfl,HO,vF⟩;obtain⟨h8,HX⟩:=HF.out w8 a n c vF HO.out;have c0:w8.cell? (ak w.heap.size)=some (.bool false):=(by rw[Zc h8];rfl);have c1:w8.cell? ⟨w.heap.size,1,none⟩=some (.int .i64 0):=(by rw[Zc h8];rfl);have c2:w8.cell? ⟨w.heap.size,2,none⟩=some (.int .i64 0):=(by rw[Zc h8];rfl);have c3:w8.cell? ⟨w.heap.size,3,none⟩=some (.slice none 0 0):=(by rw[Zc h8];rfl);have ef:∀i,w8.frozen? ⟨w.heap.size,i,none⟩=false:=(fun i=>Zv h8);clear h8);exact⟨rfl,HX.out⟩
  case done =>
   intro D out T' tv' w5 F5 gK hout hst nQ hD tQ;have xc:iB C.u.size T' B:=iB.post tQ;have wX:aJ wr F2 bf w5 F5 gK:=(aJ.ay hF2 yK).trans nQ;rw[show (some Code.ret).isSome=true from rfl,ZjE hX hle] at hout
   cases CW:X at_ with
   | nil =>
     rw[CW] at hout;simp only[List.map_nil,List.take_nil] at hout;subst hout;have d0:w5.cell? (ak Pa)=some (.int .i64 (at_:Int)):=by
      obtain⟨A1,A2,eA,dA,iD,B1,B2,eB,dB,WO,C1,C2,eC,dC,⟨-,-,-,r3,-,-,-⟩,dK⟩:=hst;exact r3.1
     have uX:Hid (∀w6,Za ai w5 w6->w6.heap[w5.heap.size]?=some (.cells #[.int .i64 ((at_+1:Nat):Int)] 3 (0,0))->Nj C ρ X B mine w.heap.size w.heap.size w F Fr (at_+1) w5.heap.size (D::Ds) w6):=fun w6 k6 h6=>Zss g2 g3 g5 hF2 hnd hst wX xc k6 h6;have HL2:Hid (Z2 (fun a=>(X a).map (QN C.G a)) (C.u.size+1-p) p=Z2 (fun a=>(X a).map (QN C.G a)) (C.u.size+1-(at_+1)) (at_+1)):=by
      show _ = _;rw[HL.out];obtain⟨k,hk⟩:∃k,C.u.size+1-at_=k+1:=⟨C.u.size-at_,by omega⟩;rw[hk,Uj (by simp[CW])];rw[show C.u.size+1-(at_+1)=k by omega]
     rw[if_pos rfl];clear hst nQ wX tQ xc CW nR dE bA bP y8 Bq iT hlt g1 g2 g3 g4 g5 HI jU hs0 ha0 HE k4 yK hF2 hno hD hnd HL;gi_wp2;refine⟨C.u.size+1-(at_+1),by have:=HN.out;omega,hJ _ _ _ ⟨at_+1,w5.heap.size,D::Ds,_,_,_,_,_,_,_,_,_,_,_,_,_,rfl,by omega,HL2,uX.out _ ((Za.refl _ _).alloc _) ?_,rfl⟩⟩;rw[show ((at_+1:Nat):Int)=(at_:Int)+1 by omega];exact heap_alloc_new _ _
   | cons e L =>
     rw[CW] at hout;simp only[List.map_cons,List.take_succ_cons,List.take_zero] at hout;subst hout;obtain⟨h1,hnD⟩:=Zgc hst;obtain⟨a,m,c,b0,bD,WA,hfin⟩:=Zsq g2.ok h1 (g5.trans wX) xc;have hr:Z2 (fun a=>(X a).map (QN C.G a)) (C.u.size+1-p) p=some ⟨true,(at_:Int),((e.1:Nat):Int),ap e.2 (eG C.G)⟩:=by
      rw[HL.out];obtain⟨k,hk⟩:∃k,C.u.size+1-at_=k+1:=⟨C.u.size-at_,by omega⟩;rw[hk,Zeu (by rw[CW];rfl),Zve];rfl
     have HFin:Hid (∀w',Za (fun k=>k∈D::Ds) w5 w'->Ia C ρ B mine (Z2 (fun a=>(X a).map (QN C.G a)) (C.u.size+1-p) p) w F Fr (.returned (.agg #[.bool true,.int .i64 (at_:Int),.int .i64 ((e.1:Nat):Int),.slice a m c])) w'):=fun w' k=>by rw[hr];exact hfin w' k
     have HD:Hid (∀E∈D::Ds,w5.heap[E]?=some (.deferred (some []))):=bD;have HRb:Hid (∀w',Za (fun k=>k∈D::Ds) w5 w'->w'.heap[w.heap.size]?=some (.cells #[.bool true,.int .i64 (at_:Int),.int .i64 ((e.1:Nat):Int),.slice a m c] 38 (0,0))):=fun w' k=>(k.block _ (lt_of_block b0) WA).trans b0;have zM:Hid ((D::Ds).Nodup):=List.nodup_cons.2 ⟨hnD,hnd⟩;rw[if_neg (by simp)];clear hr hfin bD b0 WA h1 hst nQ wX tQ xc CW nR dE bA bP y8 Bq iT hlt g1 g2 g3 g4 g5 HI jU hs0 ha0 HE k4 yK hF2 hno hD hnd HL hnD hJ hK;gi_wp2;refine Zdx (D::Ds) w5 HD.out zM.out (fun w' k=>?_);have b9:=HRb.out w' k;have c0:w'.cell? (ak w.heap.size)=some (.bool true):=by rw[Zc b9];rfl
     have c1:w'.cell? ⟨w.heap.size,1,none⟩=some (.int .i64 (at_:Int)):=by rw[Zc b9];rfl
     have c2:w'.cell? ⟨w.heap.size,2,none⟩=some (.int .i64 ((e.1:Nat):Int)):=by rw[Zc b9];rfl
     have c3:w'.cell? ⟨w.heap.size,3,none⟩=some (.slice a m c):=by rw[Zc b9];rfl
     exact⟨.agg #[.bool true,.int .i64 (at_:Int),.int .i64 ((e.1:Nat):Int),.slice a m c],by simp[results,Tryz.results44,go_sem,c0,c1,c2,c3],HFin.out w' k⟩
 ·have hz:¬(at_:Int)<=(C.u.size:Int):=by omega
  obtain⟨A1,A2,eA,dA,PG,C1,C2,eC,dC,⟨r1,r2,rd,r3,r4,r5,r6⟩,dK⟩:=id g1;have rQ:=r5 rfl;have hr:Z2 (fun a=>(X a).map (QN C.G a)) (C.u.size+1-p) p=none:=by
   rw[HL.out,show C.u.size+1-at_=0 by omega];rfl
  have HFin:Hid (∀w',Za (fun k=>k=w.heap.size\/k∈Ds) wr w'->Ia C ρ B mine (Z2 (fun a=>(X a).map (QN C.G a)) (C.u.size+1-p) p) w F Fr (.returned (.agg #[.bool false,.int .i64 0,.int .i64 0,.slice none 0 0])) w'):=fun w' k=>by rw[hr];exact Zsr g2.ok g1 g5 k g4
  have HD:Hid (∀E∈Ds,wr.heap[E]?=some (.deferred (some []))):=fun E hE=>(rd E hE).2;have zM:Hid (Ds.Nodup/\w.heap.size ∉ Ds):=⟨hnd,fun h=>by have:=(rd _ h).2;rw[rQ] at this;simp[rF] at this⟩;have c0:wr.cell? (ak w.heap.size)=some (.bool false):=by rw[Zc rQ];rfl
  have c1:wr.cell? ⟨w.heap.size,1,none⟩=some (.int .i64 0):=by rw[Zc rQ];rfl
  have c2:wr.cell? ⟨w.heap.size,2,none⟩=some (.int .i64 0):=by rw[Zc rQ];rfl
  have c3:wr.cell? ⟨w.heap.size,3,none⟩=some (.slice none 0 0):=by rw[Zc rQ];rfl
  have ef:∀i,wr.frozen? ⟨w.heap.size,i,none⟩=false:=fun i=>Zv rQ;have HZ:Hid (wr.heap[w.heap.size]?=some rF):=rQ;clear hr r1 r2 rd r3 r4 r5 r6 dK PG g1 g2 g3 g4 g5 HI jU dZ iD hS hR aW hrd b1 b2 k1 H0 hok0 gQ hn rQ hJ hK;gi_wp2;gi_region;gi_wp2;have kN:Za (·=w.heap.size) wr ((((wr.setCell (ak w.heap.size) (.bool false)).setCell ⟨w.heap.size,1,none⟩ (.int .i64 0)).setCell ⟨w.heap.size,2,none⟩ (.int .i64 0)).setCell ⟨w.heap.size,3,none⟩ (.slice none 0 0)).drew:=((((Zh _ _ _ _).trans (Zh _ _ _ _)).trans (Zh _ _ _ _)).trans (Zh _ _ _ _)).drew;have hbN:((((wr.setCell (ak w.heap.size) (.bool false)).setCell ⟨w.heap.size,1,none⟩ (.int .i64 0)).setCell ⟨w.heap.size,2,none⟩ (.int .i64 0)).setCell ⟨w.heap.size,3,none⟩ (.slice none 0 0)).drew.heap[w.heap.size]?=some rF:=by
   have s1:=heap_setCell_same wr w.heap.size 0 _ _ (.bool false) HZ.out;have s2:=heap_setCell_same _ w.heap.size 1 _ _ (.int .i64 0) s1;have s3:=heap_setCell_same _ w.heap.size 2 _ _ (.int .i64 0) s2;have s4:=heap_setCell_same _ w.heap.size 3 _ _ (.slice none 0 0) s3;exact s4
  refine Zdx Ds _ (fun E hE=>?_) zM.out.1 (fun w' k=>?_)
  ·have hE2:=HD.out E hE;exact(kN.block E (Array.getElem?_eq_some_iff.1 hE2).1 (fun e=>zM.out.2 (e ▸ hE))).trans hE2
  have b9:w'.heap[w.heap.size]?=some rF:=(k.block _ (lt_of_block hbN) zM.out.2).trans hbN;have c0:w'.cell? (ak w.heap.size)=some (.bool false):=by rw[Zc b9];rfl
  have c1:w'.cell? ⟨w.heap.size,1,none⟩=some (.int .i64 0):=by rw[Zc b9];rfl
  have c2:w'.cell? ⟨w.heap.size,2,none⟩=some (.int .i64 0):=by rw[Zc b9];rfl
  have c3:w'.cell? ⟨w.heap.size,3,none⟩=some (.slice none 0 0):=by rw[Zc b9];rfl
  exact⟨.agg #[.bool false,.int .i64 0,.int .i64 0,.slice none 0 0],by simp[results,Tryz.results44,go_sem,c0,c1,c2,c3],HFin.out w' ((kN.mono (fun k _ e=>Or.inl e)).trans (k.mono (fun k _ e=>Or.inr e)))⟩
open Go.RowKit
end Go.Proofs.YtfkflljplohhcaaGreatDoor
