import Derived.Test.YtfkflljplohhcaaGreatDoorYm
set_option linter.unusedVariables false
set_option maxHeartbeats 800000
set_option maxRecDepth 100000
namespace Go.Proofs.YtfkflljplohhcaaGreatDoor
open Go.RowKit
variable {w0 w w' wi w5 w6 w4:World}{F0:az}{v bg tl nx y:Value}{f:Pf}{fn S c m i lo hi g G:Nat}{cap:Array Value}{fs:List Value}{ao:Option Addr}{u s:ByteArray}{lz:Bool}{ty:TypeId}
theorem Znu(num:Int)(hm:BJ w0 F0 v f):yc w0 F0 (.iface 182 (.agg #[.int .i64 num,v])) (JN num f):=by
 intro pre lo hi C w F Fr bg tl mine k nx W B l h hfp hG jL hu hk;obtain⟨fn,cap,hfe⟩:=h.st.form;subst hfe;obtain⟨⟨ty,y,rfl⟩,dV,hbc⟩:=hm;obtain⟨q,hq1,hq2,rfl,uq⟩:=ZtX hfp;have hlen:(JN ((q:Int)+1) f pre.length).length=(f pre.length).length+1:=by simp[JN]
 refine Zoz (fun w1 k1=>?_);refine ZpG (fun w2 k2 b1 b2=>?_);have k12:=k1.trans k2;have hs:=k1.size;obtain⟨h2,t2⟩:=h.same k12;have l2:aH w F w2 F:=aH.ay k12;have hN:eY w2 F w1.heap.size 0 (.int .i64 ((q:Int)+1)):=⟨by rw[Zc b1];rfl,h.new (by omega),lt_of_block b1⟩;have hC:di w2 F (w1.heap.size+1) 102 (.func (.func fn) #[] cap):=⟨b2,h.new (by omega)⟩;have hk1:q<C.G:=by omega
 have Ou:=Zkg hN hC h2.st hk1 jL;have hin:ZR C bg tl mine k (.func (.func 117) #[] #[ae w1.heap.size,.pointer (some ⟨w1.heap.size+1,0,none⟩)]) (fun p=>pr (sT q p) (W p)) B w2 F Fr:=⟨h2.fb,h2.ok,h2.res,Ou,h2.lid,fun hB=>XZ (h2.inj hB),h2.nn⟩;refine(hbc pre (q+1) hi C w2 F Fr bg tl mine k _ _ B (l.trans l2) hin uq hG jL hu (by omega)).mono ?_;rintro e w3 ⟨fv,B',new,k',F',aM,rfl,g1,g2,g3,g4,g5⟩;obtain⟨bU,cap2,xx⟩:=g1.st.form;subst xx;refine⟨bU,cap2,rfl,?_⟩;have k3:Za ai w3 (w3.alloc (.cells #[.func (.func bU) #[] cap2] 102)):=QT;have b3:aP (w3.alloc (.cells #[.func (.func bU) #[] cap2] 102)) w3.heap.size 102 (.func (.func bU) #[] cap2):=heap_alloc_new _ _;obtain⟨g1',t3⟩:=g1.same k3;have l3:aH w2 F w3 F':=g2.dm h2.dP;have Ot:=Zgz ((hN.later l3).later (aH.ay k3)) (show di _ F' w3.heap.size 102 _ from ⟨b3,g1.new (Nat.le_refl _)⟩) g1'.st hk1 jL;have OA:=zi C.u uq;have hW:∀p,p<=C.u.size->pr (sF q p) (bn (dx C.u pre f p) (fun p=>pr (sT q p) (W p)))=bn (dx C.u pre (JN ((q:Int)+1) f) p) W:=fun p hp=>by
  rw[YE C.u pre _ f dV,show (((q:Int)+1).toNat-1)=q from by omega];exact Zuf OA (Or.inl (by omega)) W p hp
 refine⟨_,_,rfl,_,B',new,k',F',aM,rfl,⟨g1'.fb,g1'.ok,g1'.res,Ot.congr hW,g1'.lid,fun hB=>?_,g1'.nn⟩,(t2.trans g2).trans t3,g3,by omega,g5⟩;exact nJ.uO (XZ (t:=fun p=>sF q p) (g1'.inj hB)) (fun p hp=>by rw[<- hW p hp];exact gV.refl _)
variable {C:Cx}{F Fr:az}
theorem Zlx{jn jn':Int}{T:Tt}(h:aR C ⟨jn,bg,[]⟩ tl T w F Fr)(hS:Se w' C jn' bg tl)(k:Za (·=C.X) w w'):aR C ⟨jn',bg,[]⟩ tl T w' F Fr:=by
 have hlt:=(QA _ _ _ _).lt h;obtain⟨L,h1,h2,h3,h4,h5,h6,h7⟩:=h;have hm:=k.block C.m (hlt _ ((h4 _).2 (Or.inr (Or.inl rfl)))).2 (Ne.symm h6);refine⟨L,hS,⟨by rw[hm];exact h2.mp,h2.keys,h2.pz,fun x hx=>?_,h2.rest,h2.few,h2.apart⟩,h3,h4,h5,h6,h7⟩;unfold Rm;rw[k.block x.2.1 (hlt _ ((h4 _).2 (Or.inr (Or.inr ⟨x,hx,rfl⟩)))).2 (h7 x hx)];exact h2.room x hx
variable {W:Wt}{B:Option Bo}
theorem ZR.joint{mine:List aO}{k k':Nat}(h:ZR C bg tl mine k nx W B w F Fr)(hS:Se w' C (k':Int) bg tl)(kk:Za (·=C.X) w w')(hk:k<=k'):
  ZR C bg tl mine k' nx W B w' F Fr/\aJ w F Fr w' F Fr:=by
 have hX:=h.VP;have hl:aH w F w' F:=⟨kk.mono (fun i _ e=>e ▸ hX.2),fun _ h=>Or.inl h⟩;obtain⟨F1,F2,hA⟩:=Zo.1 h.res;have h1X:F1 C.X:=by obtain⟨L,-,-,-,he,-⟩:=hA.one;exact(he _).2 (Or.inl rfl)
 have hok:Zs (Zr mine):=ZT h.ok;have h1:=Zlx hA.one hS kk;have t1:aJ w F F1 w' F F1:=aJ.same (fun i hi=>((QA _ _ _ _).lt hA.one i hi).1) (kk.mono (fun i _ e=>e ▸ h1X));have h2:=hok.stays hA.two t1 (fun i hi=>((QA _ _ _ _).lt hA.one i hi).1) (fun i hi h1=>hA.fe i h1 hi);exact⟨⟨h.fb.keeps kk,h.ok,⟨F1,F2,hA.all,hA.fe,h1,h2.1⟩,h.st.later hl,h.lid.mono hk,h.inj,h.nn.later hl⟩,aJ.same h.dP (kk.mono (fun i _ e=>e ▸ hX.1))⟩
theorem ZeD{mine:List aO}{k:Nat}(h:ZR C bg tl mine k (.func (.func fn) #[] cap) W B w F Fr)(hk:k<=100000)(hu:C.u.size<=200):
  au 81 #[ae C.X,.func (.func fn) #[] cap] w (fun e w' =>∃bU cap2,e=.returned (.func (.func bU) #[] cap2)/\ZR C bg tl mine (k+1) (.func (.func bU) #[] cap2) W (some (QB (k+1) W B)) w' F Fr/\aJ w F Fr w' F Fr/\Za (·=C.X) w w'):=by
 refine(Zo9 h.se (by omega) (by omega)).mono ?_;rintro e w' ⟨J,rfl,hJ,hS,b1,b2,b3,kk⟩;obtain⟨h1,t1⟩:=h.joint (k':=k+1) (by push_cast;exact hS) kk (by omega);refine⟨_,_,rfl,?_,t1,kk⟩;have hst:=ZlZ (j:=k+1) (⟨b1,h.new (Nat.le_refl _)⟩:di w' F _ _ _) (⟨by push_cast;exact b2,h.new hJ⟩:di w' F J 3 (.int .i64 ((k+1:Nat):Int))) (⟨b3,h.new (by omega)⟩:di w' F _ _ _) h1.st h.lid.nw h.inj hu;exact⟨h1.fb,h1.ok,h1.res,hst,Zeh h.lid,(fun h=>by cases h),h1.nn⟩
theorem Tryz.qC:(Tryz.prog.info? 102).map (fun i=>(i.zero,i.size,i.bytes))=some (some .nilFunc,1,8):=by kernel_rfl
theorem ZqF{base:Nat}(h:w.ownsRow base 102 1 v fs.length fs)(hb:base<=w.heap.size)(hl:fs.length<=1000)(x:Value)(hx:x.oneCell'=true):
  ∃v' w',Sem.run Tryz.prog (Builtin.append_ #[213,213] 213 #[v,.slice (some ⟨w.heap.size,0,none⟩) 1 1]) (w.alloc (.cells #[x] 102))=.ok v' w'/\w'.ownsRow base 102 1 v' (fs++[x]).length (fs++[x])/\Za (v.ownBlock=some ·) w w'/\(∀k,v'.ownBlock=some k->v.ownBlock=some k\/w.heap.size<=k):=by
 obtain⟨i0,hi,hz0,hz1,hz2⟩:=info_parts Tryz.qC;obtain⟨v',w3,hrun,ho,hgr,hbk⟩:=JF (P:=Tryz.prog) (w.alloc (.cells #[x] 102)) base 213 213 102 i0 _ 1 8 Tryz.underlying213 hi hz0 hz1 hz2 rfl (by decide) v fs.length _ (h.alloc _)
  (ak w.heap.size) 1 1 [x] rfl (aV w _ _) (by intro u hu;simp at hu;subst hu;exact hx) (by unfold maxLen;omega) (by omega) (by simp;omega)
 refine⟨v',w3,hrun,?_,((Za.refl _ w).alloc _).grown hgr (fun k hk _=>hk),fun k hk=>?_⟩
 ·rw[List.length_append];exact ho
 ·by_cases hlt:k<w.heap.size
  ·exact Or.inl (hbk k hk (by simp;omega))
  ·exact Or.inr (by omega)
def IX (S:Nat) (v:Value) (fs:List Value):aO:=fun w F Fr=>aP w S 213 v/\w.ownsRow 0 102 1 v fs.length fs/\(∀k,Fr k↔k=S\/v.ownBlock=some k)/\(∀k,Fr k->F k)/\v.ownBlock≠some S
theorem yg(S:Nat)(v:Value)(fs:List Value):Zs (IX S v fs):=by
 refine⟨?_,?_⟩
 ·rintro w F Fr ⟨h1,h3,h5,h6,h7⟩ k hk;refine⟨h6 k hk,?_⟩
  rcases(h5 k).1 hk with rfl | hk
  ·exact h1.lt
  ·exact(h3.lt k hk).2
 ·rintro w w' F F' Fr ⟨h1,h3,h5,h6,h7⟩ l hF' hk;exact⟨by unfold aP;rw[hk S ((h5 S).2 (Or.inl rfl))];exact h1,QJ h3 (fun k h=>hk k ((h5 k).2 (Or.inr h))),h5,hF',h7⟩
theorem ZrB{x:Value}(h:IX S v fs w F Fr)(hx:x.oneCell'=true)(hl:fs.length<=1000):
  ∃ v' w',Sem.run Tryz.prog (Builtin.append_ #[213,213] 213 #[v,.slice (some ⟨w.heap.size,0,none⟩) 1 1]) (w.alloc (.cells #[x] 102))=.ok v' w'/\(∃ao n cap,v'=.slice ao n cap)/\w'.cell? (ak S)=some v/\w'.frozen? (ak S)=false/\
    ∃F4 gZ,IX S v' (fs++[x]) (w'.setCell (ak S) v') F4 gZ/\aJ w F Fr (w'.setCell (ak S) v') F4 gZ:=by
 obtain⟨h1,h3,h5,h6,h7⟩:=h;obtain⟨v',w',hrun,ho,hk,hbk⟩:=ZqF h3 (Nat.zero_le _) hl x hx;have hS:aP w' S 213 v:=h1.keeps hk h7;have hS2:(w'.setCell (ak S) v').heap[S]?=some (.cells #[v'] 213 (0,0)):=by rw[heap_setCell_same _ _ _ _ _ _ hS];rfl
 have hne:v'.ownBlock≠some S:=fun e=>by
  rcases hbk S e with h | h
  ·exact h7 h
  ·have:=h1.lt;omega
 have kS:Za (·=S) w' (w'.setCell (ak S) v'):=Zh _ _ _ _;have mr:Za Fr w (w'.setCell (ak S) v'):=(hk.mono (fun k _ h=>(h5 k).2 (Or.inr h))).trans (kS.mono (fun k _ e=>(h5 k).2 (Or.inl e)));have ho2:(w'.setCell (ak S) v').ownsRow 0 102 1 v' (fs++[x]).length (fs++[x]):=QJ ho (fun k h=>Below.heap_setCell _ _ _ _ (fun e=>hne (by rw[h];exact congrArg some e)));refine⟨v',w',hrun,(by obtain⟨ao,cap,rfl⟩:=aj ho;exact⟨_,_,_,rfl⟩),hS.cell,Zv hS,fun k=>(F k/\¬Fr k)\/k=S\/v'.ownBlock=some k,fun k=>k=S\/v'.ownBlock=some k,⟨hS2,ho2,fun k=>Iff.rfl,fun k h=>Or.inr h,hne⟩,?_⟩;refine⟨mr,fun k h=>?_,fun k h=>h,fun k _ h hn=>Or.inl ⟨h,hn⟩,fun k h=>Or.inr h⟩
 rcases h with h | h
 ·exact Or.inl ((h5 k).2 (Or.inl h))
 ·rcases hbk k h with h | h
  ·exact Or.inl ((h5 k).2 (Or.inr h))
  ·exact Or.inr h
theorem Zs3{p cg ng:Nat}{ag:Option Addr}(cS:w.cell? (ak S)=some (.slice ao 0 c)):
  au 102 (#[.int .i64 (p:Int),.slice ag ng cg]++#[ae S]) w (fun e w'=>e=.returned (.bool true)/\Za ai w w'):=by
 go_enter Tryz.func102,Tryz.ntmps102;go_wp2;go_loopg [7,10] 1 (fun gl _ s10 wr=>s10=.int .i64 0/\wr=w)
 case atStart=>exact⟨rfl,rfl⟩
 case round =>
  obtain⟨rfl,rfl⟩:=hrel;go_wp2;go_ret;exact⟨rfl,Za.refl _ _⟩
theorem ZnY{mine:List aO}(hS:di w F S 213 (.slice ao 0 c)):
  Qg C w F (.func (.func 102) #[] #[ae S]) (fun _ => []) B mine:=by
 refine⟨_,_,rfl,fun _ _=>by kernel_rfl,?_⟩;intro w' F' l aW ρ ats τ T V out Fr p gv gs ha hm hτ hR hg hgl hp hP hno;obtain⟨ag,cg,hgv⟩:∃ag cg,gv=.slice ag gs.length cg:=by obtain⟨a,c,h,_⟩:=hg;exact⟨a,c,h⟩
 rw[hgv];refine(Zs3 (hS.later l).cell).mono ?_;rintro e w2 ⟨rfl,k2⟩;exact TQ (W:=fun _ => []) (p:=p) hτ ha hR hP k2
theorem ZnX{X:Nat}{Q:Ending->World->Prop}(hQ:Q (.returned (.func (.func 102) #[] #[ae w.heap.size])) (w.alloc (.cells #[.slice none 0 0] 213))):
  au 80 #[ae X,.slice ao 0 c,.func (.func fn) #[] cap] w Q:=by
 have mR:∀(fn:Fn) (first cap:Array Value) (w:World),(Instr.makeFunc fn first cap).run Tryz.prog w=.ok (.func fn first cap) w:=fun _ _ _ _=>rfl;go_enter Tryz.func80,Tryz.ntmps80;go_upto_region 2 with fail;generalize (w.alloc (.cells #[.slice none 0 0] 213))=w1 at hQ ⊢;go_wp2;go_loopg [9,12] 1 (fun gl _ s12 wr=>s12=.int .i64 0/\wr=w1)
 case atStart=>exact⟨rfl,rfl⟩
 case round =>
  obtain⟨rfl,rfl⟩:=hrel;go_wp2;exact hQ
structure Hy (C:Cx) (bg tl:Value) (mine:List aO) (k:Nat) (nx:Value) (W:Wt) (b:Bo) (l:List Xs) (w:World) (F Fr:az) (S m i:Nat) (v:Value) (wi:World):Prop where
 ex:∃(b':Bo) (new:List aO) (k':Nat) (F' Ft aM Fs:az) (fs:List Value),ZR C bg tl (new++mine) k' nx W (some b') wi F' aM/\iW (Zr (aR C ⟨(k':Int),bg,[]⟩ tl iP::(new++mine))) (IX S v fs) wi F' Ft aM Fs/\aJ w F Fr wi F' Ft/\b.le b'/\fs.length=i/\
  (∀(j:Nat) (h1:j<fs.length) (h2:j<l.length),Qg C wi F' fs[j] (fun p=>bn (l[j] p) W) (some b') (new++mine))/\k<=k'/\k'<=k+m
variable {b:Bo}{l:List Xs}
theorem ZnS{mine:List aO}{k:Nat}(h:ZR C bg tl mine k nx W (some b) w F Fr):
  Hy C bg tl mine k nx W b l w F Fr w.heap.size 0 0 (.slice none 0 0) (w.alloc (.cells #[.slice none 0 0] 213)):=by
 have k1:Za ai w (w.alloc (.cells #[.slice none 0 0] 213)):=(Za.refl _ w).alloc _;have b1:aP (w.alloc (.cells #[.slice none 0 0] 213)) w.heap.size 213 (.slice none 0 0):=heap_alloc_new _ _;obtain⟨h1,t1⟩:=h.same k1;have hlt:∀i,Fr i->F i/\i<w.heap.size:=h.fZ.lt h.res;have l1:aH (w.alloc (.cells #[.slice none 0 0] 213)) F (w.alloc (.cells #[.slice none 0 0] 213)) (fun k=>F k\/k=w.heap.size)->True:=fun _=>trivial;have l2:aH w F (w.alloc (.cells #[.slice none 0 0] 213)) (fun k=>F k\/k=w.heap.size):=⟨k1.mono (fun _ _ h=>h.elim),fun i hi=>hi.imp id (fun e=>by omega)⟩;have hres:Zr (aR C ⟨(k:Int),bg,[]⟩ tl iP::mine) (w.alloc (.cells #[.slice none 0 0] 213)) (fun k=>F k\/k=w.heap.size) Fr:=h.fZ.frame h.res l2 (fun i hi=>Or.inl (hlt i hi).1) (fun i hi=>k1.block i (hlt i hi).2 id);have CS:Fb (w.alloc (.cells #[.slice none 0 0] 213)) (fun k=>F k\/k=w.heap.size):=fun i hi=>hi.elim (fun h2=>Nat.lt_of_lt_of_le (h.fb i h2) k1.size) (fun e=>by have:=b1.lt;omega);refine⟨b,[],k,fun k=>F k\/k=w.heap.size,fun i=>Fr i\/i=w.heap.size,Fr,fun i=>i=w.heap.size,[],⟨CS,h.ok,hres,h.st.later l2,h.lid,(fun h=>by cases h),h.nn.later l2⟩,⟨fun i=>Iff.rfl,fun i hi e=>by have:=(hlt i hi).2;omega,hres,b1,World.ownsRow_nil _ _ _ _,fun i=>by simp[Value.ownBlock],fun i hi=>Or.inr hi,by simp[Value.ownBlock]⟩,?_,b.le_refl,rfl,fun j h1=>by simp at h1,Nat.le_refl _,by omega⟩;refine⟨k1.mono (fun _ _ h=>h.elim),fun i hi=>hi.imp id (fun e=>by omega),fun i hi=>?_,fun i hs hi hn=>Or.inl hi,fun i hi=>hi.elim (fun h=>Or.inl (hlt i h).1) Or.inr⟩
 rcases hi with hi | hi
 ·by_cases hf:Fr i
  ·exact Or.inr (Or.inl hf)
  ·exact Or.inl ⟨hi,hf⟩
 ·exact Or.inr (Or.inr hi)
theorem ZqK{mine:List aO}{k:Nat}{m':Nat}{ty':Value}{pre:List Pc}(hw:aH w0 F0 w F)(iY:∀k,Fr k->F k)(h:Hy C bg tl mine k (.func (.func fn) #[] cap) W b l w F Fr S m i v wi)(hbc:yc w0 F0 ty' f)(hfp:Fp lo hi pre.length (f pre.length))(hG:hi<=C.G)(jL:C.G<=9)(hu:C.u.size<=200)(hi2:i<l.length)(hl:l[i]=dx C.u pre f)(hi9:i<=999)(hkk:k+m+2*(f pre.length).length<=100000)(hm:m+2*(f pre.length).length<=m'):
  (∃ao n c,v=.slice ao n c)/\wi.cell? (ak S)=some v/\au 58 #[ae C.X,ty',.func (.func fn) #[] cap] wi.drew (LJ (Hy C bg tl mine k (.func (.func fn) #[] cap) W b l w F Fr S m') S i v):=by
 obtain⟨b',new,k',F',Ft,aM,Fs,fs,hb,hA,ht,hle,hfl,hst,hk1,hk2⟩:=h.ex;obtain⟨s1,s3,s5,s6,s7⟩:=id hA.two;obtain⟨ao,cp,eZ⟩:=aj s3;refine⟨⟨_,_,_,eZ⟩,s1.cell,?_⟩;have kd:Za ai wi wi.drew:=(Za.refl _ _).drew;obtain⟨hb1,t1⟩:=hb.same kd;have li:=ht.dm iY;refine(hbc pre lo hi C wi.drew F' aM bg tl (new++mine) k' _ W (some b') ((hw.trans li).trans (aH.ay kd)) hb1 hfp hG jL hu (by omega)).mono ?_;rintro e w2 ⟨fv,B2,wL,k2,F2,bf,rfl,g1,g2,g3,g4,g5⟩;obtain⟨bU,cap2,xx⟩:=g1.st.form;subst xx;obtain⟨b2,hB2,hb2⟩:=g5 b' rfl;subst hB2;have hA1:iW (Zr (aR C ⟨(k':Int),bg,[]⟩ tl iP::(new++mine))) (IX S v fs) wi.drew F' Ft aM Fs:=⟨hA.all,hA.fe,hb1.res,(yg _ _ _).frame hA.two (aH.ay kd) (fun i hi=>((yg _ _ _).lt hA.two i hi).1) (fun i hi=>kd.block i ((yg _ _ _).lt hA.two i hi).2 id)⟩;obtain⟨p1,p2⟩:=hA1.upd hb1.fZ (yg _ _ _) g2 g1.res;have yY:∀k,Ft k->F' k:=fun k hk=>((hA.all k).1 hk).elim (hb.dP k) (fun h=>((yg _ _ _).lt hA.two k h).1);obtain⟨v',w3,hrun,⟨nu,n',c',rfl⟩,cS,fS,F4,Vn,q1,q2⟩:=ZrB (x:=.func (.func bU) #[] cap2) p1.two rfl (by omega);refine⟨bU,cap2,nu,n',c',v,w3,rfl,p1.two.1.cell,hrun,cS,fS,?_⟩;obtain⟨r1,r2⟩:=p1.swap.upd (yg _ _ _) g1.fZ q2 q1;have Nl:aJ w F Fr (w3.setCell (ak S) (.slice nu n' c')) F4 (fun k=>Vn k\/bf k):=((ht.trans (aJ.ay yY kd)).trans p2).trans r2;have lw2:aH wi.drew F' w2 F2:=p2.dm yY;have Ri:∀k,(bf k\/Fs k)->F2 k:=fun k hk=>hk.elim (g1.dP k) (fun h=>((yg _ _ _).lt p1.two k h).1);have Vy:aH w2 F2 (w3.setCell (ak S) (.slice nu n' c')) F4:=r2.dm Ri;have zU:aH wi F' (w3.setCell (ak S) (.slice nu n' c')) F4:=((aH.ay kd).trans lw2).trans Vy;have hmem:∀R∈new++mine,R∈(wL++new)++mine:=fun R hR=>by rw[List.append_assoc];exact List.mem_append.2 (Or.inr hR)
 have O4:Fb (w3.setCell (ak S) (.slice nu n' c')) F4:=g1.fb.vk q2 (fun k hk=>((yg _ _ _).lt q1 k hk).2);refine⟨b2,wL++new,k2,F4,fun k=>bf k\/Vn k,bf,Vn,fs++[.func (.func bU) #[] cap2],⟨O4,?_,?_,((hb.st.later zU).wide hb2).mine hmem,g1.lid,(fun h=>by cases h),hb.nn.later zU⟩,⟨fun k=>Iff.rfl,fun k h1 h2=>r1.fe k h2 h1,?_,q1⟩,Nl.congr (fun _=>Iff.rfl) (fun k=>Or.comm),Bo.le_trans hle hb2,by simp[hfl],fun j h1 h2=>?_,by omega,by omega⟩
 ·intro R hR;rw[List.append_assoc] at hR;exact g1.ok R hR
 ·rw[List.append_assoc];exact r1.two
 ·rw[List.append_assoc];exact r1.two
 ·by_cases hj:j<fs.length
  ·rw[List.getElem_append_left hj];exact(((hst j hj h2).later zU).wide hb2).mine hmem
  ·have hji:j=i:=by simp at h1;omega
   subst hji;rw[List.getElem_append_right (by omega)];simp only[hfl,Nat.sub_self,List.getElem_cons_zero]
   have:=g1.st.later Vy
   rw[<- List.append_assoc] at this;rw[hl];exact this
theorem ZqM{mine:List aO}{k:Nat}(h:Hy C bg tl mine k nx W b l w F Fr S m l.length v wi)(hn:l.length<=1000)(h0:0<l.length):
  Qq C bg tl mine k m (fun p=>bn (rA l p) W) (some b) w F Fr (.returned (.func (.func 102) #[] #[ae S])) wi:=by
 obtain⟨b',new,k',F',Ft,aM,Fs,fs,hb,hA,ht,hle,hfl,hst,hk1,hk2⟩:=h.ex;obtain⟨FR,Fl,q1,q2,q3⟩:=Ca (yg _ _ _) hb.fZ (Zo.2 ⟨_,_,hA.swap⟩) ht;have ll:aH wi F' wi (fun k=>F' k/\¬FR k):=⟨Za.refl _ _,fun k hk=>Or.inl hk.1⟩;obtain⟨s1,s3,s5,s6,s7⟩:=q1;have hSI:IY wi (fun k=>F' k/\¬FR k) v fs:=by
  refine⟨?_,s3,fun k hk h=>h.2 ((s5 k).2 (Or.inr hk))⟩
  cases hc:fs.length with
  | zero=>omega
  | succ n=>rw[hc] at s3;obtain⟨g,c,hv,_⟩:=ZM s3;exact⟨g,c,hv⟩
 have hbx:di wi (fun k=>F' k/\¬FR k) S 213 v:=⟨s1,fun h=>h.2 ((s5 S).2 (Or.inl rfl))⟩;have hstep:=ZqJ (C:=C) (Ws:=l.map (fun X p=>bn (X p) W)) (b:=b') (mine:=new++mine) hbx hSI (by rw[List.length_map];exact hfl) (by omega) (fun i h1 h2=>by
  rw[List.getElem_map];exact(hst i h1 (by simpa using h2)).later ll)
 refine⟨_,some b',new,k',_,Fl,rfl,⟨fun i hi=>hb.fb i hi.1,hb.ok,q2,hstep.Hr (fun p hp=>?_),hb.lid,(fun h=>by cases h),hb.nn.later ll⟩,q3,hk1,hk2,fun c hc=>⟨b',rfl,by cases hc;exact hle⟩⟩;have e:lV (l.map (fun X p=>bn (X p) W)) p=l.flatMap fun X=>bn (X p) W:=by unfold lV;rw[List.flatMap_map]
 rw[e];exact(Zuh l W p).symm
theorem Tc{b:Nat}(h:w.cell? ⟨b,i,none⟩=some v):b<w.heap.size:=by
 apply Decidable.byContradiction;intro hc;unfold World.cell? at h;simp only at h;rw[Array.getElem?_eq_none (by omega)] at h;simp at h
theorem IB{b X:Nat}(h:w.cell? ⟨b,i,none⟩=some v)(k:Za (·=X) w w')(hb:b≠X):w'.cell? ⟨b,i,none⟩=some v:=by
 have hlt:=Tc h;unfold World.cell? at h ⊢;simp only at h ⊢;rw[k.block b hlt hb];exact h
theorem Zh3(fs:List Pf):∀(n i:Nat),(cat (fs.take i) n).length<=(cat fs n).length:=by
 induction fs with
 | nil=>intro n i;simp
 | cons f fs ih =>
   intro n i
   cases i with
   | zero=>simp[cat]
   | succ i =>
     have:=ih (n+(f n).length) i
     simp only[List.take_succ_cons,cat,List.length_append];omega
variable {D:az}
theorem Znw(hD0:∀k,D k->¬F0 k){vs:List Value}{fs:List Pf}(ho:w0.ownsRow 0 85 1 v vs.length vs)(hD:∀k,v.ownBlock=some k->D k)(hl:fs.length=vs.length)(hn:vs.length<=1000)(ih:∀(i:Nat) (x:Value) (f:Pf),vs[i]?=some x->fs[i]?=some f->BJ w0 F0 x f):
  yc w0 F0 (.iface 165 (.agg #[v])) (JQ fs):=by
 intro pre lo hi C w F Fr bg tl mine k nx W B l h hfp hG jL hu hk;obtain⟨fn,cap,hfe⟩:=h.st.form;subst hfe;have dV:∀f∈fs,jO f:=fun f hf=>by
  obtain⟨i,hi,rfl⟩:=List.getElem_of_mem hf;exact(ih i (vs[i]'(by omega)) _ (List.getElem?_eq_getElem (by omega)) (List.getElem?_eq_getElem hi)).2.1
 have Rl:=ZtY dV hfp;have hlen:(JQ fs pre.length).length=(cat fs pre.length).length+1:=by simp[JQ]
 obtain⟨ao,cp,eZ⟩:=aj ho;rw[eZ,YC C.u pre fs dV];have hXlt:C.X<w.heap.size:=h.se.lt;refine ZoB (R:=fun bU cap2 w2 =>∃bf,ZR C bg tl mine (k+1) (.func (.func bU) #[] cap2) W (some (QB (k+1) W B)) w2 F bf/\aJ w F Fr w2 F bf) (fun w1 k1 hc1=>?_) ?_
 ·obtain⟨h1,t1⟩:=h.same k1;refine(ZeD h1 (by omega) hu).mono ?_;rintro e w2 ⟨bU,cap2,rfl,g1,g2,g3⟩;refine⟨bU,cap2,rfl,⟨Fr,g1,t1.trans g2⟩,?_⟩;exact IB hc1 g3 (by omega)
 ·rintro bU cap2 w1 w2 ⟨dO,g1,g2⟩ k2 hc2;obtain⟨g1',t2⟩:=g1.same k2;have tw:=g2.trans t2;have lw:aH w F w2 F:=tw.dm h.dP;have hle:=Zei (W:=W) h.lid;have hxl:(gY C.u pre fs).length=fs.length:=TB _ _ _;have hend:∀(e:Ending) (w3:World),Qq C bg tl mine (k+1) (2*(cat fs pre.length).length) (fun p=>bn (rA (gY C.u pre fs) p) W) (some (QB (k+1) W B)) w2 F dO e w3->vS (Qq C bg tl mine k (2*(JQ fs pre.length).length) (fun p=>bn (rA (gY C.u pre fs) p) W) B w F Fr) e w3/\w3.cell? (ak w.heap.size)=some (.slice ao vs.length cp):=by
   rintro e w3 ⟨fv,B',new,k',F',aM,rfl,p1,p2,p3,p4,p5⟩;obtain⟨RH,pq,xx⟩:=p1.st.form;subst xx;refine⟨⟨RH,pq,rfl,_,B',new,k',F',aM,rfl,p1,tw.trans p2,by omega,by omega,hle.trans p5⟩,?_⟩;have hlt:w.heap.size<w2.heap.size:=Tc hc2;exact((show eY w2 F w.heap.size 0 _ from ⟨hc2,h.new (Nat.le_refl _),hlt⟩).later (p2.dm g1'.dP)).1
  cases hc:vs.length with
  | zero =>
    have h0:fs = []:=List.eq_nil_of_length_eq_zero (by omega);rw[hc] at hend;refine ZnX (hend _ _ ?_);have k3:Za ai w2 (w2.alloc (.cells #[.slice none 0 0] 213)):=QT;have b3:aP (w2.alloc (.cells #[.slice none 0 0] 213)) w2.heap.size 213 (.slice none 0 0):=heap_alloc_new _ _;refine g1'.give k3 (Qg.congr (ZnY ⟨b3,g1'.new (Nat.le_refl _)⟩) (fun p _=>?_)) (fun h=>by cases h);rw[h0];rfl
  | succ m =>
    obtain⟨g,cp',hg⟩:∃g cp',v=.slice (some ⟨g,0,none⟩) (m+1) cp':=by rw[hc] at ho;obtain⟨g,c,h,_⟩:=ZM ho;exact⟨g,c,h⟩
    rw[hc] at eZ;rw[hg] at eZ
    cases eZ
    rw[<- hc];have hF1:=g1'.dP;have hmono:∀i,i<=fs.length->(cat (fs.take i) pre.length).length<=(cat fs pre.length).length:=fun i _=>Zh3 fs pre.length i
    have:=Zs2 (n:=m+1) (g:=g) (c:=cp) (X:=C.X) (fn:=bU) (cap:=cap2) (w:=w2) (I:=fun i v wi=>Hy C bg tl mine (k+1) (.func (.func bU) #[] cap2) W (QB (k+1) W B) (gY C.u pre fs) w2 F dO w2.heap.size (2*(cat (fs.take i) pre.length).length) i v wi) (Q:=fun e w3=>vS (Qq C bg tl mine k (2*(JQ fs pre.length).length) (fun p=>bn (rA (gY C.u pre fs) p) W) B w F Fr) e w3/\w3.cell? (ak w.heap.size)=some (.slice (some ⟨g,0,none⟩) vs.length cp)) (by omega) (by simpa [cat] using ZnS g1') ?_ ?_
    ·rw[hc];rw[hc] at this;exact this
    ·intro i vv wi hI hin;have hi2:i<fs.length:=by omega
     obtain⟨⟨ty,y,hxe⟩,-,hbc⟩:=ih i (vs[i]'(by omega)) fs[i] (List.getElem?_eq_getElem (by omega)) (List.getElem?_eq_getElem hi2);have hpl:(pre++cat (fs.take i) pre.length).length=pre.length+(cat (fs.take i) pre.length).length:=by simp
     have hf1:=Yr fs pre.length i hi2 Rl;have hsp:=ZgR fs pre.length i hi2;rw[<- hpl] at hf1 hsp;have OE:=hmono (i+1) (by omega);obtain⟨q1,q2,q3⟩:=ZqK (m':=2*(cat (fs.take (i+1)) pre.length).length) (l.trans lw) hF1 hI hbc hf1 hG jL hu (by rw[hxl];exact hi2) (Ziz C.u fs pre i hi2 _) (by omega) (by omega) (by omega);refine⟨q1,q2,ty,y,?_,by rw[<- hxe];exact q3⟩;obtain⟨b',new,k',F',Ft,aM,Fs,fs',hb,hA,ht,-⟩:=hI.ex;have hrow:=(ZB ⟨ho,fun k hk=>hD0 k (hD k hk)⟩ ((l.trans lw).trans (ht.dm hF1))).1;rw[hg] at hrow;rw[show vs.length=m+1 from hc] at hrow;have hc3:=hrow.cellAt i (show i<(m+1)*1 by omega);rw[List.getElem?_eq_getElem (by omega),hxe] at hc3;exact hc3
    ·intro vv wi hI;rw[<- hc,<- hl,<- hxl] at hI;have hp:=ZqM hI (by rw[hxl];omega) (by rw[hxl];omega);rw[hxl,List.take_length] at hp;exact hend _ _ hp
theorem aJ.born{F5 F6 O5 O6:az}(k:Za ai w w5)(t:aJ w5 F5 O5 w6 F6 O6)(hO:∀i,O5 i->w.heap.size<=i)(hF:∀i,F5 i↔F i\/O5 i):aJ w F ai w6 F6 O6:=by
 refine⟨k.trans' t.keeps (fun i hi h=>by have:=hO i h;omega),fun i hi=>Or.inr ?_,fun i hi=>?_,fun i hs hi _=>t.dP i (Nat.lt_of_lt_of_le hs k.size) ((hF i).2 (Or.inl hi)) (fun h=>by have:=hO i h;omega),t.own⟩
 ·rcases t.fresh i hi with h | h
  ·exact hO i h
  ·exact Nat.le_trans k.size h
 ·rcases t.out i hi with⟨h1,h2⟩ | h
  ·rcases(hF i).1 h1 with h3 | h3
   ·exact Or.inl ⟨h3,fun h=>h⟩
   ·exact absurd h3 h2
  ·exact Or.inr h
theorem ZpL(G:Nat):ZD (eG G)=fD G G:=by
 unfold eG fD;simp only[Nat.sub_self,Nat.mul_zero,List.replicate_zero,List.append_nil]
 induction G with
 | zero=>rfl
 | succ G ih =>
   have e:2*(G+1)=2*G+1+1:=by omega
   rw[e];simp only[List.replicate_succ];rw[<- ih];rfl
theorem ZrD(hG:G<=9)(h:w.heap[g]?=some (.cells (fD G G).toArray 118 (0,0)))(hF:¬F g):fF w F (.slice (some ⟨g,0,none⟩) G G) (eG G):=by
 have hl:(eG G).length=G:=by simp[eG]
 refine⟨some ⟨g,0,none⟩,G,by rw[hl],fun _=>⟨?_,fun k hk=>?_⟩⟩
 ·rw[hl,ZpL];refine⟨by rw[Io (Nat.le_refl _)];omega,Or.inr ⟨g,G,(fD G G).toArray,rfl,Nat.zero_le _,h,Nat.le_refl _,by unfold maxLen;omega,by rw[List.size_toArray,Io (Nat.le_refl _)];omega,?_⟩⟩;rw[List.take_of_length_le];rw[show (fD G G).toArray.toList=fD G G from rfl,Io (Nat.le_refl _)];omega
 ·simp[Value.ownBlock] at hk;subst hk;exact hF
structure BC (u:ByteArray) (G:Nat) (X:Xs) (w:World) (F:az) (Xb:Nat) (w':World):Prop where
 ex:∃(C:Cx) (k:Nat) (bg:Value) (B:Option Bo) (mine:List aO) (F' aM:az),C.X=Xb/\C.u=u/\C.G=G/\Zr (aR C ⟨(k:Int),bg,[]⟩ .nilFunc iP::mine) w' F' aM/\aJ w F ai w' F' aM/\ja C w' F' bg X B mine
theorem IG{X:Xs}{Xb:Nat}(h:BC u G X w F Xb w'):Za ai w w':=by
 obtain⟨C,k,bg,B,mine,F',aM,-,-,-,-,t,-⟩:=h.ex;exact t.keeps
theorem ZbX(hm:BJ w0 F0 v f){pre:List Pc}(l:aH w0 F0 w F)(aW:Fb w F)(hfp:Fp lo hi pre.length (f pre.length))(hG:hi<=G)(jL:G<=9)(hu:u.size<=200)(hk:2*(f pre.length).length<=100000):
  au 36 #[.string u,.int .i64 (G:Int),v] w (fun e w' =>∃X2,e=.returned ((ae X2))/\BC u G (dx u pre f) w F X2 w'):=by
 obtain⟨⟨ty,y,rfl⟩,dV,hbc⟩:=hm;refine Zgr jL ?_;intro X m g w5 hN;obtain⟨hlg,hgm,hmX⟩:=hN.lt;have hXm:X≠m:=by omega
 have hold:∀i,F i->i<w.heap.size:=aW;have OI:=hN.se.lt;have xat:m<w5.heap.size:=(Array.getElem?_eq_some_iff.1 hN.mp).1;have hR:aR ⟨X,m,u,.slice (some ⟨g,0,none⟩) G G,G⟩ ⟨((0:Nat):Int),.nilFunc,[]⟩ .nilFunc iP w5 (fun i=>F i\/i=X\/i=m) (fun i=>i=X\/i=m) :=
  ⟨[],hN.se,⟨⟨0,hN.mp⟩,by simp,by simp,by simp,fun _ _ _ _=>rfl,fun _ _ _=>by simp[iP],by simp⟩,by simp,fun i=>by simp,fun i hi=>Or.inr hi,hXm,by simp⟩
 have fP:Fb w5 (fun i=>F i\/i=X\/i=m):=fun i hi=>by
  rcases hi with h | h | h
  ·exact Nat.lt_of_lt_of_le (aW i h) hN.k.size
  ·have:X<w5.heap.size:=OI
   omega
  ·omega
 have hnot:∀i,w.heap.size<=i->i≠X->i≠m->¬(F i\/i=X\/i=m):=fun i h1 h2 h3 h=>by
  rcases h with h | h | h
  ·have:=aW i h;omega
  ·exact h2 h
  ·exact h3 h
 have l5:aH w F w5 (fun i=>F i\/i=X\/i=m):=⟨hN.k.mono (fun _ _ h=>h.elim),fun i hi=>by rcases hi with h | h | h;exact Or.inl h;exact Or.inr (by omega);exact Or.inr (by omega)⟩;have hin:ZR ⟨X,m,u,.slice (some ⟨g,0,none⟩) G G,G⟩ .nilFunc .nilFunc [] 0 (.func (.func 59) #[] #[.pointer (some ⟨X+1,0,none⟩)]) Q1 none w5 (fun i=>F i\/i=X\/i=m) (fun i=>i=X\/i=m) :=
  ⟨fP,by simp,⟨fun i=>i=X\/i=m,fun _=>False,fun i=>by simp,fun _ _ h=>h,hR,fun _ h=>h⟩,Zlf ⟨hN.vb,hnot _ (by omega) (by omega) (by omega)⟩,(fun b hb=>by cases hb),fun _=>Zpx,ZrD jL hN.sp (hnot _ (by omega) (by omega) (by omega))⟩
 refine(hbc pre lo hi ⟨X,m,u,.slice (some ⟨g,0,none⟩) G G,G⟩ w5 _ _ _ _ _ _ _ _ _ (l.trans l5) hin hfp hG jL hu (by omega)).mono ?_;rintro e w6 ⟨fv,B',new,k',F',aM,rfl,g1,g2,g3,g4,g5⟩;rw[List.append_nil] at g1;obtain⟨fn,cap,xx⟩:=g1.st.form;subst xx;have lv:=g2.dm hin.dP;have KM:di w6 F' (X+1) 52 ((ae X)):=(show di w5 (fun i=>F i\/i=X\/i=m) _ _ _ from ⟨hN.vb,hnot _ (by omega) (by omega) (by omega)⟩).later lv;refine⟨fn,cap,(k':Int),rfl,KM.1,g1.se,?_⟩;have iq:Za (·=X) w6 (w6.setCell ⟨X,4,none⟩ (.func (.func fn) #[] cap)):=Zh _ _ _ _;obtain⟨hX1,hX2⟩:=g1.VP;have l7:aH w6 F' (w6.setCell ⟨X,4,none⟩ (.func (.func fn) #[] cap)) F':=⟨iq.mono (fun i _ e=>e ▸ hX2),fun _ h=>Or.inl h⟩;obtain⟨A1,A2,hA⟩:=Zo.1 g1.res;have hok:Zs (Zr new):=ZT g1.ok;have RD:A1 X:=by obtain⟨L,-,-,-,he,-⟩:=hA.one;exact(he _).2 (Or.inl rfl)
 have t7:aJ w6 F' A1 (w6.setCell ⟨X,4,none⟩ (.func (.func fn) #[] cap)) F' A1:=aJ.same (fun i hi=>((QA _ _ _ _).lt hA.one i hi).1) (iq.mono (fun i _ e=>e ▸ RD));have h7:aR ⟨X,m,u,.slice (some ⟨g,0,none⟩) G G,G⟩ ⟨(k':Int),.func (.func fn) #[] cap,[]⟩ .nilFunc iP (w6.setCell ⟨X,4,none⟩ (.func (.func fn) #[] cap)) F' A1:=by
  have hlt:=(QA _ _ _ _).lt hA.one;obtain⟨L,q1,q2,q3,q4,q5,q6,q7⟩:=hA.one;have hmm:=iq.block m (hlt _ ((q4 _).2 (Or.inr (Or.inl rfl)))).2 (Ne.symm q6);refine⟨L,q1.aX _,⟨by rw[hmm];exact q2.mp,q2.keys,q2.pz,fun x hx=>?_,q2.rest,q2.few,q2.apart⟩,q3,q4,q5,q6,q7⟩;unfold Rm;rw[iq.block x.2.1 (hlt _ ((q4 _).2 (Or.inr (Or.inr ⟨x,hx,rfl⟩)))).2 (q7 x hx)];exact q2.room x hx
 obtain⟨r1,r2⟩:=hA.upd (R':=aR ⟨X,m,u,.slice (some ⟨g,0,none⟩) G G,G⟩ ⟨(k':Int),.func (.func fn) #[] cap,[]⟩ .nilFunc iP) (QA _ _ _ _) hok t7 h7;refine⟨X,rfl,⟨_,k',_,B',new,F',_,rfl,rfl,rfl,Zo.2 ⟨_,_,r1⟩,?_,⟨g1.st.later l7,g1.nn.later l7,g1.ok⟩⟩⟩;exact aJ.born hN.k (g2.trans r2) (fun i hi=>by rcases hi with h | h <;> omega) (fun i=>Iff.rfl)
def H6 (w:World) (F:az) (b:Nat) (lo hi:Int) (lz:Bool) (ty:TypeId) (y:Value):Prop:=wm w b lo hi lz ty y/\¬F b/\b<w.heap.size
theorem H6.later{F':az}{b:Nat}{lo hi:Int}(h:H6 w F b lo hi lz ty y)(l:aH w F w' F'):H6 w' F' b lo hi lz ty y:=by
 obtain⟨⟨h0,h1,h2,h3⟩,h4,h5⟩:=h;have e:∀(i:Nat) (v:Value),w.cell? ⟨b,i,none⟩=some v->w'.cell? ⟨b,i,none⟩=some v:=fun i v h=>((show eY w F b i v from ⟨h,h4,h5⟩).later l).1;exact⟨⟨e _ _ h0,e _ _ h1,e _ _ h2,e _ _ h3⟩,(l.stay h5 h4).2,Nat.lt_of_lt_of_le h5 l.size⟩
theorem ZsS{b X:Nat}{lo hi:Int}(h:wm w b lo hi lz ty y)(k:Za (·=X) w w')(hb:b≠X):wm w' b lo hi lz ty y :=
 ⟨IB h.1 k hb,IB h.2.1 k hb,IB h.2.2.1 k hb,IB h.2.2.2 k hb⟩
structure Tp (C:Cx) (X:Xs) (w4:World) (F4:az) (w5 w6 w7:World) (fv:Value):Prop where
 ex:∃(R:aO) (F7 yB:az),Zs R/\R w7 F7 yB/\rC C w7 F7 fv X R/\aH w4 F4 w7 F7/\(∀i,F7 i->F4 i\/yB i\/(w5.heap.size<=i/\i<w6.heap.size))/\(∀i,F4 i->F7 i)/\(∀i,w5.heap.size<=i->i<w6.heap.size->F7 i)/\(∀i,yB i->w4.heap.size<=i/\¬(w5.heap.size<=i/\i<w6.heap.size))/\Za ai w4 w7/\Fb w7 F7
theorem ZnG{X:Xs}{F4:az}{X2:Nat}(h:BC C.u C.G X w4 F4 X2 w5)(aW:Fb w4 F4)(k6:Za ai w5 w6)(hu:C.u.size<=200)(hX:dh C.u.size lo hi X):
  au 108 #[ae X2] w6 (fun e w7 =>∃fat capat,e=.returned (.func (.func fat) #[] capat)/\Tp C X w4 F4 w5 w6 w7 (.func (.func fat) #[] capat)/\Za ai w6 w7):=by
 obtain⟨C2,kk,bg,B,mine,F5,gK,Bf,nV,qY,hres,ht,hS⟩:=h.ex;subst Bf;have hok:=pK (C:=C2) (ρ:=⟨(kk:Int),bg,[]⟩) (tl:=.nilFunc) (T:=iP) hS.ok;have hlt:=hok.lt hres;have xJ:Fb w5 F5:=aW.vk ht (fun i hi=>(hlt i hi).2);obtain⟨F6,Dk⟩:∃F6:az,F6=fun i=>F5 i\/(w5.heap.size<=i/\i<w6.heap.size):=⟨_,rfl⟩;have l6:aH w5 F5 w6 F6:=⟨k6.mono (fun _ _ h=>h.elim),fun i hi=>by rw[Dk] at hi;exact hi.imp id And.left⟩;have xI:Fb w6 F6:=fun i hi=>by rw[Dk] at hi;exact hi.elim (fun h=>Nat.lt_of_lt_of_le (xJ i h) k6.size) And.right
 have tH:=hok.frame hres l6 (fun i hi=>by rw[Dk];exact Or.inl (hlt i hi).1) (fun i hi=>k6.block i (hlt i hi).2 id);have iD:Se w6 C2 (kk:Int) bg .nilFunc:=by
  obtain⟨A1,A2,hA⟩:=Zo.1 tH;exact hA.one.choose_spec.1
 refine(Zd2 iD (by rw[nV];exact hu)).mono ?_;rintro e w7 ⟨Ab,Sb,Kb,kr,rfl,⟨n1,n2,n3,n4,n5,n6,n7,n8,n9⟩,b1,b2,r1,r2,k7⟩;obtain⟨F7,rU⟩:∃F7:az,F7=fun i=>F6 i\/i=kr\/i=Ab:=⟨_,rfl⟩;have l7:aH w6 F6 w7 F7:=⟨k7.mono (fun _ _ h=>h.elim),fun i hi=>by rw[rU] at hi;rcases hi with h | h | h;exact Or.inl h;exact Or.inr (by omega);exact Or.inr (by omega)⟩;have hkr:=(L8 r1 0).2;have hAb:=lt_of_block r2;have jq:Fb w7 F7:=fun i hi=>by rw[rU] at hi;rcases hi with h | h | h;exact Nat.lt_of_lt_of_le (xI i h) k7.size;omega;omega
 have Au:=hok.lt tH;have FL:=hok.frame tH l7 (fun i hi=>by rw[rU];exact Or.inl (Au i hi).1) (fun i hi=>k7.block i (Au i hi).2 id);have hnot:∀i,w6.heap.size<=i->i≠kr->i≠Ab->¬F7 i:=fun i h1 h2 h3 h=>by rw[rU] at h;rcases h with h | h | h;(have:=xI i h;omega);exact h2 h;exact h3 h
 have hKn:vY ⟨kr,Ab,C2.u.size,C2.G,X⟩ wP (fun p=>(wP p).isSome) w7 F7 (fun i=>i=kr\/i=Ab) :=
  ⟨⟨r1,r2⟩,fun i=>Iff.rfl,by rw[rU];exact Or.inr (Or.inl rfl),by rw[rU];exact Or.inr (Or.inr rfl),n5,fun p v M h=>by simp[wP] at h⟩
 have C8:ja C2 w7 F7 bg X B mine:=(hS.later l6).later l7;have hat:=Zo0 (C:=C2) (ρ:=⟨(kk:Int),bg,[]⟩) (κ:=⟨kr,Ab,C2.u.size,C2.G,X⟩) (lo:=lo) (hi:=hi) C8 (Sb:=Sb) (Kb:=Kb) ⟨b1,hnot _ n2 (Ne.symm n6) (Ne.symm n8)⟩ ⟨b2,hnot _ n3 (Ne.symm n7) (Ne.symm n9)⟩ rfl rfl rfl (by rw[nV];exact hu) (by rw[nV];exact hX);refine⟨_,_,rfl,⟨R9 C2 ⟨(kk:Int),bg,[]⟩ ⟨kr,Ab,C2.u.size,C2.G,X⟩ mine,F7,fun i=>(i=kr\/i=Ab)\/gK i,ZrW hS.ok,⟨iP,.nilFunc,wP,Zy ⟨_,gK,fun i=>Iff.rfl,fun i h1 h2=>?_,hKn,FL⟩⟩,hat.ctx nV.symm qY.symm,((ht.dm (fun _ h=>h.elim)).trans l6).trans l7,fun i hi=>?_,fun i hi=>?_,fun i h1 h2=>?_,fun i hi=>?_,(ht.keeps.trans k6).trans k7,jq⟩,k7⟩
 ·have:=(Au i h2).2;rcases h1 with h | h <;> omega
 ·rw[rU,Dk] at hi
  rcases hi with(h | h) | h | h
  ·rcases ht.out i h with h2 | h2
   ·exact Or.inl h2.1
   ·exact Or.inr (Or.inl (Or.inr h2))
  ·exact Or.inr (Or.inr h)
  ·exact Or.inr (Or.inl (Or.inl (Or.inl h)))
  ·exact Or.inr (Or.inl (Or.inl (Or.inr h)))
 ·rw[rU,Dk];exact Or.inl (Or.inl (ht.dP i (aW i hi) hi id))
 ·rw[rU,Dk];exact Or.inl (Or.inr ⟨h1,h2⟩)
 ·have hs4:=ht.keeps.size;have hs5:=k6.size
  rcases hi with(h | h) | h
  ·exact⟨by omega,fun h2=>by omega⟩
  ·exact⟨by omega,fun h2=>by omega⟩
  ·have h2:=(hlt i h).2
   rcases ht.fresh i h with h3 | h3
   ·exact h3.elim
   ·exact⟨h3,fun h4=>by omega⟩
structure Lh (C:Cx) (bg tl:Value) (mine:List aO) (k fn:Nat) (cap:Array Value) (W:Wt) (b:Bo) (r:Rp) (ty:TypeId) (y:Value) (w:World) (F Fr dO:az) (S A:Nat) (w3:World):Prop where
 dP:ZR C bg tl mine k (.func (.func fn) #[] cap) W (some b) w3 F dO
 t:aJ w F Fr w3 F dO
 a:eY w3 F A 0 ((ae C.X))
 n:rM w3 F (A+1) r (.iface ty y)
 c:eY w3 F (A+2) 0 (.func (.func fn) #[] cap)
 s:H6 w3 F S (r.least:Int) (jM r) r.lazy ty y
theorem ZoV{mine:List aO}{k fat:Nat}{capat:Array Value}{r:Rp}{w3 w7 w8:World}{dO:az}{A At:Nat}{X:Xs}(hI:Lh C bg tl mine (k+1) fn cap W b r ty y w F Fr dO S A w3)(Gd:rZ k (some b))(k4:Za ai w3 w4)(bJ:aP w4 w3.heap.size 3 (.int .i64 ((k+1:Nat):Int)))
  (hM:Tp C X w4 (fun i=>F i\/(w3.heap.size<i/\i<w4.heap.size)) w5 w6 w7 (.func (.func fat) #[] capat)) (wY:w4.heap.size<=w5.heap.size) (Fz:w5.heap.size<=w6.heap.size) (Fy:w6.heap.size<=w7.heap.size) (hAt:R7 w3 w4 w5 w6 w7 At) (k8:Za (·=At) w7 w8) (RY:aP w8 At 217 (.func (.func fat) #[] capat))
  (hX:dh C.u.size lo hi X) (hu:C.u.size<=200) (jL:C.G<=9) (hmm:∀m,r.most=some m->m<=50/\r.least<=m) (jK:r.least<=50) {wF:World} (hwF:wF=((w8.alloc (.cells #[.func (.func 114) #[] #[.pointer (some ⟨A+1,0,none⟩),.pointer (some ⟨w8.heap.size+1,0,none⟩),.pointer (some ⟨A+1+1,0,none⟩)]] 219)).alloc (.cells #[.func (.func 109) #[] #[.pointer (some ⟨A+1,0,none⟩),ae A,ae w3.heap.size,ae At,ae w8.heap.size]] 219))) :
  Qq C bg tl mine k 1 (fun p=>bn (uS C.u.size r X p) W) (some b) w F Fr (.returned (.func (.func 115) #[] #[ae A,ae w3.heap.size,.pointer (some ⟨A+1,0,none⟩),ae w8.heap.size])) wF/\wm wF S (r.least:Int) (jM r) r.lazy ty y:=by
 obtain⟨R,F7,yB,qV,KP,hat,l47,rU,G9,Rn,uE,VL,jq⟩:=hM.ex;have O7:=hI.dP.fb;have xal:=k4.size;have hsJ:w3.heap.size<w4.heap.size:=bJ.lt;have xak:=k8.size;have l34:aH w3 F w4 (fun i=>F i\/(w3.heap.size<i/\i<w4.heap.size)):=⟨k4.mono (fun _ _ h=>h.elim),fun i hi=>hi.imp id (fun h=>by omega)⟩;have kF:Za ai w8 wF:=by rw[hwF];exact((Za.refl _ _).alloc _).alloc _
 have bG:aP wF w8.heap.size 219 (.func (.func 114) #[] #[.pointer (some ⟨A+1,0,none⟩),.pointer (some ⟨w8.heap.size+1,0,none⟩),.pointer (some ⟨A+1+1,0,none⟩)]):=by rw[hwF];exact fU w8 _ _
 have bH:aP wF (w8.heap.size+1) 219 (.func (.func 109) #[] #[.pointer (some ⟨A+1,0,none⟩),ae A,ae w3.heap.size,ae At,ae w8.heap.size]):=by rw[hwF];exact gH w8 _ _
 clear hwF;obtain⟨F8,y7⟩:∃F8:az,F8=fun i=>F7 i/\¬(w3.heap.size<i/\i<w4.heap.size)/\¬(w5.heap.size<=i/\i<w6.heap.size):=⟨_,rfl⟩;have hAt7:At<w7.heap.size->F7 At:=fun h=>by
  rcases hAt with h1 | h1 | h1
  ·exact G9 At (Or.inr h1)
  ·exact Rn At h1.1 h1.2
  ·omega
 have Rz:¬F8 At:=fun h=>by
  rw[y7] at h
  rcases hAt with h1 | h1 | h1
  ·exact h.2.1 h1
  ·exact h.2.2 h1
  ·have:=jq At h.1;omega
 have Ry:¬yB At:=fun h=>by
  obtain⟨h1,h2⟩:=uE At h
  rcases hAt with h3 | h3 | h3
  ·omega
  ·exact h2 h3
  ·have:=(qV.lt KP At h).2;omega
 have EX:Za (·=At) w7 wF:=k8.trans (kF.mono (fun _ _ h=>h.elim));have NZ:aH w7 F7 wF F8:=⟨EX.mono (fun i hi e=>by subst e;exact hAt7 hi),fun i hi=>by rw[y7] at hi;exact Or.inl hi.1⟩;have zV:aH w3 F wF F8:=(l34.trans l47).trans NZ;have WC:R wF F8 yB:=qV.frame KP NZ (fun i hi=>by
  rw[y7];obtain⟨h1,h2⟩:=uE i hi;exact⟨(qV.lt KP i hi).1,fun h=>by omega,h2⟩) (fun i hi=>EX.block i (qV.lt KP i hi).2 (fun e=>Ry (e ▸ hi)))
 have hlt1:=hI.dP.fZ.lt hI.dP.res;have VM:Za ai w3 wF:=((k4.trans VL).trans' EX (fun i hi e=>by rcases hAt with h1 | h1 | h1 <;> omega)).mono (fun _ _ h=>h)
 have Bc:∀i,i<w3.heap.size->F i->F8 i:=fun i hi h=>by
  rw[y7];exact⟨G9 i (Or.inl h),fun h2=>by omega,fun h2=>by omega⟩
 have FJ:=hI.dP.fZ.frame hI.dP.res zV (fun i hi=>Bc i (hlt1 i hi).2 (hlt1 i hi).1) (fun i hi=>VM.block i (hlt1 i hi).2 id);have Pd:∀i,dO i->¬yB i:=fun i h1 h2=>by have:=(hlt1 i h1).2;have:=(uE i h2).1;omega
 have Rk:Fb wF F8:=fun i hi=>by rw[y7] at hi;exact Nat.lt_of_lt_of_le (jq i hi.1) EX.size
 have hbig:∀i,w8.heap.size<=i->¬F8 i:=fun i hi h=>by rw[y7] at h;have:=jq i h.1;omega
 have FY:¬F8 w3.heap.size:=fun h=>by
  rw[y7] at h
  rcases rU _ h.1 with h1 | h1 | h1
  ·rcases h1 with h1 | h1
   ·have:=O7 _ h1;omega
   ·omega
  ·have:=(uE _ h1).1;omega
  ·omega
 have Xk:aP wF w3.heap.size 3 (.int .i64 ((k+1:Nat):Int)):=by
  refine aP.keeps (bJ.keeps VL id) EX (fun e=>?_)
  rcases hAt with h1 | h1 | h1 <;> omega
 have Hq:aP wF At 217 (.func (.func fat) #[] capat):=RY.keeps kF id;have GI:vW C wF F8 ⟨A,w3.heap.size,A+1,At,w8.heap.size,w8.heap.size+1,A+2⟩ (k+1) r ty y (.func (.func fat) #[] capat) (.func (.func fn) #[] cap) :=
  ⟨hI.a.later zV,⟨Xk.cell,FY,Xk.lt⟩,hI.n.later zV,⟨Hq.cell,Rz,Hq.lt⟩,⟨bG.cell,hbig _ (Nat.le_refl _),bG.lt⟩,⟨bH.cell,hbig _ (Nat.le_succ _),bH.lt⟩,hI.c.later zV⟩
 have hj:¬b.has (k+1):=fun h=>by have:=Gd b rfl _ h;omega
 have hnx:=(hI.dP.st.later zV).mine (mine':=R::mine) (fun Q hQ=>List.mem_cons.2 (Or.inr hQ));have hst:=ZoU (R:=R) hX.eH hu hj hmm jK jL (fun p hp=>by have:=SE hX hp;omega) GI (hat.later NZ) (List.mem_cons.2 (Or.inl rfl)) hnx;refine⟨⟨_,some (om C.u.size (k+1) X r W b),[R],k+1,F8,fun i=>yB i\/dO i,rfl,⟨Rk,fun Q hQ=>?_,?_,hst,ZlG Gd,(fun h=>by cases h),hI.dP.nn.later zV⟩,?_,by omega,by omega,fun c hc=>⟨_,rfl,by cases hc;exact ZoW hj⟩⟩,(hI.s.later zV).1⟩
 ·rcases List.mem_cons.1 hQ with rfl | hQ
  ·exact qV
  ·exact hI.dP.ok Q hQ
 ·exact Zy ⟨yB,dO,fun i=>Iff.rfl,fun i h1 h2=>Pd i h2 h1,WC,FJ⟩
 ·refine hI.t.trans ⟨VM.mono (fun _ _ h=>h.elim),fun i hi=>?_,fun i hi=>?_,fun i hs hi _=>Bc i hs hi,fun i hi=>?_⟩
  ·rcases hi with h | h
   ·exact Or.inr (by have:=(uE i h).1;omega)
   ·exact Or.inl h
  ·rw[y7] at hi
   rcases rU i hi.1 with h | h | h
   ·rcases h with h | h
    ·by_cases h1:dO i
     ·exact Or.inr (Or.inr h1)
     ·exact Or.inl ⟨h,h1⟩
    ·exact absurd h hi.2.1
   ·exact Or.inr (Or.inl h)
   ·exact absurd h hi.2.2
  ·rcases hi with h | h
   ·exact(qV.lt WC i h).1
   ·exact Bc i (hlt1 i h).2 (hlt1 i h).1
theorem Znt(a b:Int)(lz:Bool)(hm:BJ w0 F0 v f):yc w0 F0 (.iface 179 (.agg #[.int .i64 a,.int .i64 b,.bool lz,v])) (Z5 a b lz f):=by
 intro pre lo hi C w F Fr bg tl mine k nx W B l h hfp hG jL hu hk;obtain⟨fn,cap,hfe⟩:=h.st.form;subst hfe;obtain⟨⟨ha0,xaC,hab,xaA⟩,uq⟩:=ZtW hfp;obtain⟨⟨ty,y,rfl⟩,dV,hbc⟩:=id hm;have hlen:∀a b lz,(Z5 a b lz f pre.length).length=(f pre.length).length+1:=fun _ _ _=>by simp[Z5]
 rw[hlen] at hk;rw[YF C.u pre a b lz f dV];obtain⟨r,hr⟩:∃r:Rp,r = { least:=a.toNat,most:=if b<0 then none else some b.toNat,lazy:=lz }:=⟨_,rfl⟩;rw[<- hr];have e1:a=(r.least:Int):=by rw[hr];show a=((a.toNat:Nat):Int);omega
 have e2:b=jM r:=by
  rw[hr];unfold jM
  by_cases hb:b<0
  ·simp[hb];omega
  ·simp[hb];omega
 have e3:lz=r.lazy:=by rw[hr]
 have hmm:∀m,r.most=some m->m<=50/\r.least<=m:=fun m h=>by
  rw[hr] at h ⊢;simp only at h ⊢
  split at h
  ·simp at h
  ·simp at h;omega
 have jK:r.least<=50:=by omega
 rw[e1,e2,e3];clear hr;have hX:=zi C.u uq;have hXlt:C.X<w.heap.size:=h.se.lt;have hbn:=Zei (W:=W) h.lid;have hbl:=Zeh (W:=W) h.lid;obtain⟨an,cn,hnn⟩:∃an cn,C.nn=.slice an C.G cn:=by obtain⟨an,cn,h1,_⟩:=h.nn;exact⟨an,cn,by simpa [eG] using h1⟩
 refine Zoy (R:=fun bU cap2 w2=>ZR C bg tl mine (k+1) (.func (.func bU) #[] cap2) W (some (QB (k+1) W B)) w2 F Fr/\aJ w F Fr w2 F Fr) (fun w1 k1 hc1=>?_) ?_
 ·obtain⟨h1,t1⟩:=h.same k1;refine(ZeD h1 (by omega) hu).mono ?_;rintro e w2 ⟨bU,cap2,rfl,g1,g2,g3⟩;exact⟨bU,cap2,rfl,⟨g1,t1.trans g2⟩,ZsS hc1 g3 (by omega)⟩
 ·rintro bU cap2 w1 w2 ⟨g1,g2⟩ k2 hc2;obtain⟨g1',t2⟩:=g1.same k2;have tw:=g2.trans t2;have lw:aH w F w2 F:=tw.dm h.dP;have hS2:H6 w2 F w.heap.size (r.least:Int) (jM r) r.lazy ty y:=⟨hc2,h.new (Nat.le_refl _),Tc hc2.1⟩;have hX2:C.X<w2.heap.size:=g1'.se.lt;refine ZrR (u:=C.u) (an:=an) (G:=C.G) (cn:=cn) (j:=((k+1+1:Nat):Int))
   (R1:=fun w3=>Lh C bg tl mine (k+1+1) bU cap2 W (QB (k+1) W B) r ty y w F Fr Fr w.heap.size w2.heap.size w3)
   (R2:=fun X2 w3 w4 w5=>Lh C bg tl mine (k+1+1) bU cap2 W (QB (k+1) W B) r ty y w F Fr Fr w.heap.size w2.heap.size w3/\Za ai w3 w4/\aP w4 w3.heap.size 3 (.int .i64 ((k+1+1:Nat):Int))/\Fb w4 (fun i=>F i\/(w3.heap.size<i/\i<w4.heap.size))/\BC C.u C.G (dx C.u pre f) w4 (fun i=>F i\/(w3.heap.size<i/\i<w4.heap.size)) X2 w5)
   (R3:=fun fat capat w3 w4 w5 w6 w7=>Lh C bg tl mine (k+1+1) bU cap2 W (QB (k+1) W B) r ty y w F Fr Fr w.heap.size w2.heap.size w3/\Za ai w3 w4/\aP w4 w3.heap.size 3 (.int .i64 ((k+1+1:Nat):Int))/\Tp C (dx C.u pre f) w4 (fun i=>F i\/(w3.heap.size<i/\i<w4.heap.size)) w5 w6 w7 (.func (.func fat) #[] capat)/\w4.heap.size<=w5.heap.size/\w5.heap.size<=w6.heap.size/\w6.heap.size<=w7.heap.size)
   ?_ ?_ ?_ ?_
  ·intro w3 k3 hb3;obtain⟨g3,t3⟩:=g1'.same k3;refine(Zgt g3.se (by omega) (by omega)).mono ?_;rintro e w4 ⟨rfl,dE,kk⟩;obtain⟨g4,t4⟩:=g3.joint (k':=k+1+1) (by push_cast;exact dE) kk (by omega);have b1:=hb3.a.keeps kk (by omega);have b2:w4.heap[w2.heap.size+1]?=some (.cells #[.int .i64 (r.least:Int),.int .i64 (jM r),.bool r.lazy,.iface ty y] 179 (0,0)):=(kk.block _ (lt_of_block hb3.n) (by omega)).trans hb3.n;have b3:=hb3.c.keeps kk (by omega);have hn1:∀i,w2.heap.size<=i->¬F i:=fun i hi=>g1'.new hi;have l4:aH w2 F w4 F:=(aH.ay k3).trans (t4.dm g3.dP);refine⟨by push_cast;rfl,⟨g4,(tw.trans t3).trans t4,⟨b1.cell,hn1 _ (Nat.le_refl _),b1.lt⟩,⟨b2,hn1 _ (by omega)⟩,⟨b3.cell,hn1 _ (by omega),b3.lt⟩,hS2.later l4⟩,⟨b1,b2,b3⟩,g4.se.c0,?_⟩
   have:=g4.se.c1
   rw[hnn] at this;exact this
  ·intro w3 w4 hI k4 bJ;have CS:Fb w4 (fun i=>F i\/(w3.heap.size<i/\i<w4.heap.size)):=fun i hi=>hi.elim (fun h1=>Nat.lt_of_lt_of_le (hI.dP.fb i h1) k4.size) And.right;have l4:aH w3 F w4 (fun i=>F i\/(w3.heap.size<i/\i<w4.heap.size)):=⟨k4.mono (fun _ _ h=>h.elim),fun i hi=>hi.imp id (fun h1=>by omega)⟩;refine(ZbX hm (u:=C.u) (G:=C.G) (pre:=pre) ((l.trans (hI.t.dm h.dP)).trans l4) CS uq hG jL hu (by omega)).mono ?_;rintro e w5 ⟨X2,rfl,o7⟩;exact⟨X2,rfl,⟨hI,k4,bJ,CS,o7⟩,IG o7⟩
  ·rintro X2 w3 w4 w5 w6 ⟨hI,k4,bJ,CS,o7⟩ k6;have wY:=(IG o7).size;refine(ZnG o7 CS k6 hu hX).mono ?_;rintro e w7 ⟨fat,capat,rfl,RA,k7⟩;exact⟨fat,capat,rfl,⟨hI,k4,bJ,RA,wY,k6.size,k7.size⟩,k7⟩
  ·rintro fat capat w3 w4 w5 w6 w7 w8 At ⟨hI,k4,bJ,RA,wY,Fz,Fy⟩ hAt k8 RY;have hk1:(k+1)+1=k+1+1:=rfl;obtain⟨p1,p2⟩:=ZoV (k:=k+1) hI hbl k4 bJ RA wY Fz Fy hAt k8 RY hX hu jL hmm jK rfl;refine⟨⟨_,_,rfl,?_⟩,p2⟩;obtain⟨fv,B',new,k',F',aM,q1,q2,q3,q4,q5,q6⟩:=p1;exact⟨fv,B',new,k',F',aM,q1,q2,q3,by omega,by rw[hlen];omega,hbn.trans q6⟩
theorem Znx(hD0:∀k,D k->¬F0 k)(h:Nd w0 D v f):BJ w0 F0 v f :=
 h.ind (M:=fun v f=>BJ w0 F0 v f) (fun S f hf=>⟨⟨_,_,rfl⟩,fun n=>by simp[Qy],Znr hf⟩) ⟨⟨_,_,rfl⟩,fun n=>by simp[QQ],Zh5⟩ ⟨⟨_,_,rfl⟩,fun n=>by simp[oh],Znv⟩
  (fun v vs fs ho hD hl hn ih=>⟨⟨_,_,rfl⟩,fun n=>by simp[QV],Zns hD0 ho hD hl hn ih⟩)
  (fun v vs fs ho hD hl hn ih=>⟨⟨_,_,rfl⟩,fun n=>by simp[JQ],Znw hD0 ho hD hl hn ih⟩)
  (fun a f lo hi lz _ ih=>⟨⟨_,_,rfl⟩,fun n=>by simp[Z5],Znt lo hi lz ih⟩)
  (fun a f num _ ih=>⟨⟨_,_,rfl⟩,fun n=>by simp[JN],Znu num ih⟩)
theorem yo(h:ZA s=.ok (g,f)):Fg 0 g f/\g<=9/\1<=(f 0).length/\(f 0).length<=400:=by
 unfold ZA at h
 split at h
 ·simp at h
 ·rename_i hs
  split at h
  ·simp at h
  ·rename_i f1 q1 g1 ha;have h1:=QG s 6 _ _ _ _ _ (Nat.zero_le _) (by omega) ha;have h2:=ZcQ s 6 _ _ _ _ _ (Nat.zero_le _) (by omega) (by omega) ha
   split at h
   ·simp at h
   ·simp only[Except.ok.injEq,Prod.mk.injEq] at h;obtain⟨e1,e2⟩:=h;subst e1 e2
    have:=h1.2.2.2 0
    exact⟨h2.2,h1.2.2.1,this.2,by omega⟩
def wanted (s u:ByteArray) (p:Int):Bool:=(match ZA s with | .error _=>false | .ok _=>true) && decide (u.size<=200) && decide (0<=p) && decide (p<=u.size)
def Ls (s u:ByteArray) (p:Int) (w:World) (F:az) (e:Ending) (w':World):Prop :=
 (wanted s u p=false/\e=.returned (.pointer none)/\Za ai w w')\/
 (∃g f X2,wanted s u p=true/\ZA s=.ok (g,f)/\e=.returned ((ae X2))/\BC u g (dx u [] f) w F X2 w')
theorem JJ{p:Int}(aW:Fb w F):
  au 18 #[.string s,.string u,.int .i64 p] w (Ls s u p w F):=by
 have hnil:∀w:World,(binOp BinOp.eql 85 .nilIface .nilIface).run Tryz.prog w=.ok (.bool true) w:=fun _=>by kernel_rfl
 have hnn:∀(t:TypeId) (y:Value) (w:World),(binOp BinOp.eql 85 (.iface t y) .nilIface).run Tryz.prog w=.ok (.bool false) w:=fun _ _ _=>by kernel_rfl
 have hT:=Zor (w:=w) s
 cases ht:ZA s with
 | error x =>
   have HP:Hid (∀w',Za ai w w'->Ls s u p w F (.returned (.pointer none)) w'):=fun w' k=>Or.inl ⟨by simp[wanted,ht],rfl,k⟩;unfold Jj at hT;rw[ht] at hT;clear aW ht;go_enter Tryz.func18,Tryz.ntmps18;go_wp2_with(go_at_call 35;refine hT.mono ?_;rintro e w2 ⟨rfl,hk⟩);go_ret;exact HP.out _ hk
 | ok gf =>
   obtain⟨g,f⟩:=gf;obtain⟨hfg,dH,hf1,AA⟩:=yo ht;have o5:au 35 #[.string s] w (fun e w' =>∃t y,e=.returned (.tuple #[.iface t y,.int .i64 (g:Int),.int .i64 0])/\Hid (Nd w' (fun k=>w.heap.size<=k) (.iface t y) f)/\Za ai w w'):=by
    refine hT.mono ?_;unfold Jj;rw[ht];rintro e w' ⟨v,rfl,hN,hk⟩;obtain⟨t,y,rfl⟩:=hN.iface;exact⟨t,y,rfl,hN,hk⟩
   clear hT
   by_cases hw:wanted s u p=true
   ·have hw2:=hw;simp only[wanted,ht,Bool.true_and,Bool.and_eq_true,decide_eq_true_eq] at hw2;obtain⟨⟨h1,h2⟩,h3⟩:=hw2;have HW:Hid (wanted s u p=true):=hw;have HT:Hid (ZA s=.ok (g,f)):=ht;have hz1:¬(200:Int)<(u.size:Int):=by omega
    have hz2:¬p<0:=by omega
    have hz3:¬(u.size:Int)<p:=by omega
    have HN:Hid (∀(w2:World) (t:TypeId) (y:Value),Za ai w w2->Nd w2 (fun k=>w.heap.size<=k) (.iface t y) f->au 36 #[.string u,.int .i64 (g:Int),.iface t y] w2 (fun e w' =>∃X2,e=.returned ((ae X2))/\Hid (Ls s u p w F (.returned ((ae X2))) w'))):=by
     intro w2 t y k2 hN;have hM:=Znx (w0:=w2) (F0:=F) (D:=fun k=>w.heap.size<=k) (fun k hk h=>by have:=aW k h;omega) hN;refine(ZbX hM (u:=u) (G:=g) (lo:=0) (hi:=g) (pre := []) (aH.refl w2 F) (aW.keeps k2) ⟨f,hfg,rfl⟩ (Nat.le_refl _) dH h1 (by simp;omega)).mono ?_;rintro e w3 ⟨X2,rfl,o7⟩;refine⟨X2,rfl,Or.inr ⟨g,f,X2,hw,ht,rfl,?_⟩⟩;obtain⟨C,kk,bg,B,mine,F',aM,q1,q2,q3,q4,q5,q6⟩:=o7.ex;exact⟨C,kk,bg,B,mine,F',aM,q1,q2,q3,q4,(aJ.ay (fun _ h=>h.elim) k2).trans q5,q6⟩
    clear hw ht aW hfg hf1 AA h1 h2 h3;go_enter Tryz.func18,Tryz.ntmps18;go_wp2_with(first|(go_at_call 35;refine o5.mono ?_;rintro e w2 ⟨t,y,rfl,zM,hk⟩;have hcall:=HN.out w2 t y hk zM.out)|(go_at_call 36;refine hcall.mono ?_;rintro e w3 ⟨X2,rfl,HP⟩))
    all_goals go_ret
    all_goals exact HP.out
   ·have HP:Hid (∀w',Za ai w w'->Ls s u p w F (.returned (.pointer none)) w'):=fun w' k=>Or.inl ⟨by simpa using hw,rfl,k⟩;have hc:(200:Int)<(u.size:Int)\/(¬(200:Int)<(u.size:Int)/\p<0)\/(¬(200:Int)<(u.size:Int)/\¬p<0/\(u.size:Int)<p):=by
     simp only[wanted,ht,Bool.true_and,Bool.and_eq_true,decide_eq_true_eq] at hw;omega
    clear hw ht aW hfg hf1 AA
    rcases hc with h1 | ⟨h1,h2⟩ | ⟨h1,h2,h3⟩
    all_goals
     go_enter Tryz.func18,Tryz.ntmps18;go_wp2_with(go_at_call 35;refine o5.mono ?_;rintro e w2 ⟨t,y,rfl,zM,hk⟩);go_ret;exact HP.out _ hk
end Go.Proofs.YtfkflljplohhcaaGreatDoor
