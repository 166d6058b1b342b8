import Derived.Test.YtfkflljplohhcaaGreatDoorYm
set_option maxHeartbeats 800000
set_option maxRecDepth 100000
namespace Go.Proofs.YtfkflljplohhcaaGreatDoor
open Go.RowKit
set_option linter.unusedVariables false
theorem Zms {w0:World} {F0:Bs2} {v:Value} {f:Pf} (num:Int) (hm:Zdz w0 F0 v f):ZbX w0 F0 (.iface 182 (.agg #[.int .i64 num,v])) (JT num f):=by
 intro pre lo hi C w F Fr bg tl mine k nx W B l h hfp hG hG9 hu hk;obtain ⟨fn,cap,hfe⟩:=h.st.form;subst hfe;obtain ⟨⟨ty,y,rfl⟩,hful,hbc⟩:=hm;obtain ⟨q,hq1,hq2,rfl,hfp2⟩:=Zr8 hfp;have hlen:(JT ((q:Int) + 1) f pre.length).length=(f pre.length).length + 1:=by simp [JT]
 refine Znt (fun w1 k1=>?_);refine Zoq (fun w2 k2 b1 b2=>?_);have k12:=k1.trans k2;have hs:=k1.size;obtain ⟨h2,t2⟩:=h.same k12;have l2:Lat w F w2 F:=Lat.ofKeeps k12;have hN:CeI w2 F w1.heap.size 0 (.int .i64 ((q:Int) + 1)):=⟨by rw [Zc b1]; rfl,h.new (by omega),lt_of_block b1⟩;have hC:BxI w2 F (w1.heap.size + 1) 102 (.func (.func fn) #[] cap):=⟨b2,h.new (by omega)⟩;have hk1:q < C.G:=by omega
 have hst1:=Zjv hN hC h2.st hk1 hG9;have hin:ZO C bg tl mine k (.func (.func 117) #[] #[.pointer (some ⟨w1.heap.size,0,none⟩),.pointer (some ⟨w1.heap.size + 1,0,none⟩)]) (fun p=>pr (sT q p) (W p)) B w2 F Fr:=⟨h2.fb,h2.ok,h2.res,hst1,h2.lid,fun hB=>ZpM (h2.inj hB),h2.nn⟩;refine (hbc pre (q + 1) hi C w2 F Fr bg tl mine k _ _ B (l.trans l2) hin hfp2 hG hG9 hu (by omega)).mono ?_;rintro e w3 ⟨fv,B',new,k',F',Fr',rfl,g1,g2,g3,g4,g5⟩;obtain ⟨fn2,cap2,hfv⟩:=g1.st.form;subst hfv;refine ⟨fn2,cap2,rfl,?_⟩;have k3:Za N0_ w3 (w3.alloc (.cells #[.func (.func fn2) #[] cap2] 102)):=(Za.refl _ _).alloc _;have b3:At1 (w3.alloc (.cells #[.func (.func fn2) #[] cap2] 102)) w3.heap.size 102 (.func (.func fn2) #[] cap2):=heap_alloc_new _ _;obtain ⟨g1',t3⟩:=g1.same k3;have l3:Lat w2 F w3 F':=g2.lat h2.inn;have hst2:=Zf2 ((hN.later l3).later (Lat.ofKeeps k3)) (show BxI _ F' w3.heap.size 102 _ from ⟨b3,g1.new (Nat.le_refl _)⟩) g1'.st hk1 hG9;have hokx:=Zjz C.u hfp2;have hW :∀p,p<=C.u.size->pr (sF q p) (bn (smx C.u pre f p) (fun p=>pr (sT q p) (W p)))=bn (smx C.u pre (JT ((q:Int) + 1) f) p) W:=fun p hp=>by
  rw [Zkt C.u pre _ f hful,show (((q:Int) + 1).toNat - 1)=q from by omega];exact Zsp hokx (Or.inl (by omega)) W p hp
 refine ⟨_,_,rfl,_,B',new,k',F',Fr',rfl,⟨g1'.fb,g1'.ok,g1'.res,hst2.congr hW,g1'.lid,fun hB=>?_,g1'.nn⟩,(t2.trans g2).trans t3,g3,by omega,g5⟩;exact Inj.alk (ZpM (t:=fun p=>sF q p) (g1'.inj hB)) (fun p hp=>by rw [<- hW p hp]; exact Alk.refl _)
theorem ZkD {C:Cx} {jn jn':Int} {bg tl:Value} {T:Tt} {w w':World} {F Fr:Bs2} (h:SeR C ⟨jn,bg,[]⟩ tl T w F Fr) (hS:Se w' C jn' bg tl) (k:Za (fun i=>i=C.X) w w'):SeR C ⟨jn',bg,[]⟩ tl T w' F Fr:=by
 have hlt:=(Qx _ _ _ _).lt h;obtain ⟨L,h1,h2,h3,h4,h5,h6,h7⟩:=h;have hm:=k.block C.m (hlt _ ((h4 _).2 (Or.inr (Or.inl rfl)))).2 (Ne.symm h6);refine ⟨L,hS,⟨by rw [hm]; exact h2.mp,h2.keys,h2.blks,fun x hx=>?_,h2.rest,h2.few,h2.apart⟩,h3,h4,h5,h6,h7⟩;unfold Rm;rw [k.block x.2.1 (hlt _ ((h4 _).2 (Or.inr (Or.inr ⟨x,hx,rfl⟩)))).2 (h7 x hx)];exact h2.room x hx
theorem ZO.joint {C:Cx} {bg tl:Value} {mine:List Rsc} {k k':Nat} {nx:Value} {W:Wt} {B:Option Bo} {w w':World} {F Fr:Bs2} (h:ZO C bg tl mine k nx W B w F Fr) (hS:Se w' C (k':Int) bg tl) (kk:Za (fun i=>i=C.X) w w') (hk:k<=k') :
  ZO C bg tl mine k' nx W B w' F Fr/\Trn w F Fr w' F Fr:=by
 have hX:=h.inX;have hl:Lat w F w' F:=⟨kk.mono (fun i _ e=>e ▸ hX.2),fun _ h=>Or.inl h⟩;obtain ⟨F1,F2,hA⟩:=Zl.1 h.res;have h1X:F1 C.X:=by obtain ⟨L,-,-,-,he,-⟩:=hA.one; exact (he _).2 (Or.inl rfl)
 have hok:Zq (Zp mine):=ZR h.ok;have h1:=ZkD hA.one hS kk;have t1:Trn w F F1 w' F F1:=Trn.same (fun i hi=>((Qx _ _ _ _).lt hA.one i hi).1) (kk.mono (fun i _ e=>e ▸ h1X));have h2:=hok.stays hA.two t1 (fun i hi=>((Qx _ _ _ _).lt hA.one i hi).1) (fun i hi h1=>hA.dis i h1 hi);exact ⟨⟨h.fb.keeps kk,h.ok,⟨F1,F2,hA.all,hA.dis,h1,h2.1⟩,h.st.later hl,h.lid.mono hk,h.inj,h.nn.later hl⟩,Trn.same h.inn (kk.mono (fun i _ e=>e ▸ hX.1))⟩
theorem Zeg {C:Cx} {bg tl:Value} {mine:List Rsc} {k fn:Nat} {cap:Array Value} {W:Wt} {B:Option Bo} {w:World} {F Fr:Bs2} (h:ZO C bg tl mine k (.func (.func fn) #[] cap) W B w F Fr) (hk:k<=100000) (hu:C.u.size<=200) :
  Calls Tryz.prog 81 #[.pointer (some ⟨C.X,0,none⟩),.func (.func fn) #[] cap] w (fun e w' =>∃fn2 cap2,e = .returned (.func (.func fn2) #[] cap2)/\ZO C bg tl mine (k + 1) (.func (.func fn2) #[] cap2) W (some (Qy (k + 1) W B)) w' F Fr/\Trn w F Fr w' F Fr/\Za (fun i=>i=C.X) w w'):=by
 refine (ZnW h.se (by omega) (by omega)).mono ?_;rintro e w' ⟨J,rfl,hJ,hS,b1,b2,b3,kk⟩;obtain ⟨h1,t1⟩:=h.joint (k':=k + 1) (by push_cast; exact hS) kk (by omega);refine ⟨_,_,rfl,?_,t1,kk⟩;have hst:=Zk4 (j:=k + 1) (⟨b1,h.new (Nat.le_refl _)⟩:BxI w' F _ _ _) (⟨by push_cast; exact b2,h.new hJ⟩:BxI w' F J 3 (.int .i64 ((k + 1:Nat):Int))) (⟨b3,h.new (by omega)⟩:BxI w' F _ _ _) h1.st h.lid.nw h.inj hu;exact ⟨h1.fb,h1.ok,h1.res,hst,ZdT h.lid,(fun h=>by cases h),h1.nn⟩
theorem Tryz.infoStepY:(Tryz.prog.info? 102).map (fun i=>(i.zero,i.size,i.bytes))=some (some .nilFunc,1,8):=by kernel_rfl
theorem Zpi {w:World} {base:Nat} {v:Value} {fs:List Value} (h:w.ownsRow base 102 1 v fs.length fs) (hb:base<=w.heap.size) (hl:fs.length<=1000) (x:Value) (hx:x.oneCell'=true) :
  ∃v' w',Sem.run Tryz.prog (Builtin.append_ #[213,213] 213 #[v,.slice (some ⟨w.heap.size,0,none⟩) 1 1]) (w.alloc (.cells #[x] 102)) = .ok v' w'/\w'.ownsRow base 102 1 v' (fs ++ [x]).length (fs ++ [x])/\Za (fun k=>v.ownBlock=some k) w w'/\(∀k,v'.ownBlock=some k->v.ownBlock=some k\/w.heap.size<=k):=by
 obtain ⟨i0,hi,hz0,hz1,hz2⟩:=info_parts Tryz.infoStepY;obtain ⟨v',w3,hrun,ho,hgr,hbk⟩:=JV (P:=Tryz.prog) (w.alloc (.cells #[x] 102)) base 213 213 102 i0 _ 1 8 Tryz.underlying213 hi hz0 hz1 hz2 rfl (by decide) v fs.length _ (h.alloc _)
  ⟨w.heap.size,0,none⟩ 1 1 [x] rfl (Qt w _ _) (by intro u hu; simp at hu; subst hu; exact hx) (by unfold maxLen; omega) (by omega) (by simp; omega)
 refine ⟨v',w3,hrun,?_,((Za.refl _ w).alloc _).grown hgr (fun k hk _=>hk),fun k hk=>?_⟩
 ·rw [List.length_append];exact ho
 ·by_cases hlt:k < w.heap.size
  ·exact Or.inl (hbk k hk (by simp; omega))
  ·exact Or.inr (by omega)
def StR (S:Nat) (v:Value) (fs:List Value):Rsc:=fun w F Fr=>At1 w S 213 v/\w.ownsRow 0 102 1 v fs.length fs/\(∀k,Fr k↔k=S\/v.ownBlock=some k)/\(∀k,Fr k->F k)/\v.ownBlock≠some S
theorem ZbE (S:Nat) (v:Value) (fs:List Value):Zq (StR S v fs):=by
 refine ⟨?_,?_⟩
 ·rintro w F Fr ⟨h1,h3,h5,h6,h7⟩ k hk;refine ⟨h6 k hk,?_⟩
  rcases (h5 k).1 hk with rfl | hk
  ·exact h1.lt
  ·exact (h3.lt k hk).2
 ·rintro w w' F F' Fr ⟨h1,h3,h5,h6,h7⟩ l hF' hk;exact ⟨by unfold At1; rw [hk S ((h5 S).2 (Or.inl rfl))]; exact h1,Jj h3 (fun k h=>hk k ((h5 k).2 (Or.inr h))),h5,hF',h7⟩
theorem Zqc {S:Nat} {x:Value} {w:World} {F Fr:Bs2} {v:Value} {fs:List Value} (h:StR S v fs w F Fr) (hx:x.oneCell'=true) (hl:fs.length<=1000) :
  ∃ v' w',Sem.run Tryz.prog (Builtin.append_ #[213,213] 213 #[v,.slice (some ⟨w.heap.size,0,none⟩) 1 1]) (w.alloc (.cells #[x] 102)) = .ok v' w'/\(∃ao n cap,v' = .slice ao n cap)/\w'.cell? ⟨S,0,none⟩=some v/\w'.frozen? ⟨S,0,none⟩=false/\
    ∃F4 Fu4,StR S v' (fs ++ [x]) (w'.setCell ⟨S,0,none⟩ v') F4 Fu4/\Trn w F Fr (w'.setCell ⟨S,0,none⟩ v') F4 Fu4:=by
 obtain ⟨h1,h3,h5,h6,h7⟩:=h;obtain ⟨v',w',hrun,ho,hk,hbk⟩:=Zpi h3 (Nat.zero_le _) hl x hx;have hS:At1 w' S 213 v:=h1.keeps hk h7;have hS2:(w'.setCell ⟨S,0,none⟩ v').heap[S]? = some (.cells #[v'] 213 (0,0)):=by rw [heap_setCell_same _ _ _ _ _ _ hS]; rfl
 have hne:v'.ownBlock≠some S:=fun e=>by
  rcases hbk S e with h | h
  ·exact h7 h
  ·have:=h1.lt; omega
 have kS:Za (fun k=>k=S) w' (w'.setCell ⟨S,0,none⟩ v'):=Zh _ _ _ _;have kAll:Za Fr w (w'.setCell ⟨S,0,none⟩ v'):=(hk.mono (fun k _ h=>(h5 k).2 (Or.inr h))).trans (kS.mono (fun k _ e=>(h5 k).2 (Or.inl e)));have ho2:(w'.setCell ⟨S,0,none⟩ v').ownsRow 0 102 1 v' (fs ++ [x]).length (fs ++ [x]):=Jj ho (fun k h=>Below.heap_setCell _ _ _ _ (fun e=>hne (by rw [h]; exact congrArg some e)));refine ⟨v',w',hrun,(by obtain ⟨ao,cap,rfl⟩:=Zd ho; exact ⟨_,_,_,rfl⟩),hS.cell,Zv hS,fun k=>(F k/\¬ Fr k)\/k=S\/v'.ownBlock=some k,fun k=>k=S\/v'.ownBlock=some k,⟨hS2,ho2,fun k=>Iff.rfl,fun k h=>Or.inr h,hne⟩,?_⟩;refine ⟨kAll,fun k h=>?_,fun k h=>h,fun k _ h hn=>Or.inl ⟨h,hn⟩,fun k h=>Or.inr h⟩
 rcases h with h | h
 ·exact Or.inl ((h5 k).2 (Or.inl h))
 ·rcases hbk k h with h | h
  ·exact Or.inl ((h5 k).2 (Or.inr h))
  ·exact Or.inr h
theorem Zrq {w:World} {S c p cg ng:Nat} {ao ag:Option Addr} (cS:w.cell? ⟨S,0,none⟩=some (.slice ao 0 c)) :
  Calls Tryz.prog 102 (#[.int .i64 (p:Int),.slice ag ng cg] ++ #[.pointer (some ⟨S,0,none⟩)]) w (fun e w'=>e = .returned (.bool true)/\Za N0_ w w'):=by
 go_enter Tryz.func102,Tryz.ntmps102;go_wp2;go_loopg [7,10] 1 (fun gl _ s10 wr=>s10 = .int .i64 0/\wr=w)
 case atStart=>exact ⟨rfl,rfl⟩
 case round =>
  obtain ⟨rfl,rfl⟩:=hrel;go_wp2;go_ret;exact ⟨rfl,Za.refl _ _⟩
theorem ZmV {C:Cx} {w:World} {F:Bs2} {S c:Nat} {ao:Option Addr} {B:Option Bo} {mine:List Rsc} (hS:BxI w F S 213 (.slice ao 0 c)) :
  Qe C w F (.func (.func 102) #[] #[.pointer (some ⟨S,0,none⟩)]) (fun _ => []) B mine:=by
 refine ⟨_,_,rfl,fun _ _=>by kernel_rfl,?_⟩;intro w' F' l hFb ρ ats τ T V out Fr p gv gs ha hm hτ hR hg hgl hp hP hno;obtain ⟨ag,cg,hgv⟩ :∃ag cg,gv = .slice ag gs.length cg:=by obtain ⟨a,c,h,_⟩:=hg; exact ⟨a,c,h⟩
 rw [hgv];refine (Zrq (hS.later l).cell).mono ?_;rintro e w2 ⟨rfl,k2⟩;exact Zc7 (W:=fun _ => []) (p:=p) hτ ha hR hP k2
theorem ZmU {w:World} {X c fn:Nat} {cap:Array Value} {ao:Option Addr} {Q:Ending->World->Prop} (hQ:Q (.returned (.func (.func 102) #[] #[.pointer (some ⟨w.heap.size,0,none⟩)])) (w.alloc (.cells #[.slice none 0 0] 213))) :
  Calls Tryz.prog 80 #[.pointer (some ⟨X,0,none⟩),.slice ao 0 c,.func (.func fn) #[] cap] w Q:=by
 have hmf :∀(fn:Fn) (first cap:Array Value) (w:World),(Instr.makeFunc fn first cap).run Tryz.prog w = .ok (.func fn first cap) w:=fun _ _ _ _=>rfl;go_enter Tryz.func80,Tryz.ntmps80;go_upto_region 2 with fail;generalize (w.alloc (.cells #[.slice none 0 0] 213))=w1 at hQ ⊢;go_wp2;go_loopg [9,12] 1 (fun gl _ s12 wr=>s12 = .int .i64 0/\wr=w1)
 case atStart=>exact ⟨rfl,rfl⟩
 case round =>
  obtain ⟨rfl,rfl⟩:=hrel;go_wp2;exact hQ
structure ZsP (C:Cx) (bg tl:Value) (mine:List Rsc) (k:Nat) (nx:Value) (W:Wt) (b:Bo) (l:List Xs) (w:World) (F Fr:Bs2) (S m i:Nat) (v:Value) (wi:World):Prop where
 ex :∃(b':Bo) (new:List Rsc) (k':Nat) (F' Ft Fr' Fs:Bs2) (fs:List Value),ZO C bg tl (new ++ mine) k' nx W (some b') wi F' Fr'/\Apt (Zp (SeR C ⟨(k':Int),bg,[]⟩ tl tno :: (new ++ mine))) (StR S v fs) wi F' Ft Fr' Fs/\Trn w F Fr wi F' Ft/\b.le b'/\fs.length=i/\
  (∀(j:Nat) (h1:j < fs.length) (h2:j < l.length),Qe C wi F' fs[j] (fun p=>bn (l[j] p) W) (some b') (new ++ mine))/\k<=k'/\k'<=k + m
theorem ZmP {C:Cx} {bg tl:Value} {mine:List Rsc} {k:Nat} {nx:Value} {W:Wt} {b:Bo} {l:List Xs} {w:World} {F Fr:Bs2} (h:ZO C bg tl mine k nx W (some b) w F Fr) :
  ZsP C bg tl mine k nx W b l w F Fr w.heap.size 0 0 (.slice none 0 0) (w.alloc (.cells #[.slice none 0 0] 213)):=by
 have k1:Za N0_ w (w.alloc (.cells #[.slice none 0 0] 213)):=(Za.refl _ w).alloc _;have b1:At1 (w.alloc (.cells #[.slice none 0 0] 213)) w.heap.size 213 (.slice none 0 0):=heap_alloc_new _ _;obtain ⟨h1,t1⟩:=h.same k1;have hlt :∀i,Fr i->F i/\i < w.heap.size:=h.resOk.lt h.res;have l1:Lat (w.alloc (.cells #[.slice none 0 0] 213)) F (w.alloc (.cells #[.slice none 0 0] 213)) (fun k=>F k\/k=w.heap.size)->True:=fun _=>trivial;have l2:Lat w F (w.alloc (.cells #[.slice none 0 0] 213)) (fun k=>F k\/k=w.heap.size):=⟨k1.mono (fun _ _ h=>h.elim),fun i hi=>hi.imp id (fun e=>by omega)⟩;have hres:Zp (SeR C ⟨(k:Int),bg,[]⟩ tl tno :: mine) (w.alloc (.cells #[.slice none 0 0] 213)) (fun k=>F k\/k=w.heap.size) Fr:=h.resOk.frame h.res l2 (fun i hi=>Or.inl (hlt i hi).1) (fun i hi=>k1.block i (hlt i hi).2 id);have hfb:Fb (w.alloc (.cells #[.slice none 0 0] 213)) (fun k=>F k\/k=w.heap.size):=fun i hi=>hi.elim (fun h2=>Nat.lt_of_lt_of_le (h.fb i h2) k1.size) (fun e=>by have:=b1.lt; omega);refine ⟨b,[],k,fun k=>F k\/k=w.heap.size,fun i=>Fr i\/i=w.heap.size,Fr,fun i=>i=w.heap.size,[],⟨hfb,h.ok,hres,h.st.later l2,h.lid,(fun h=>by cases h),h.nn.later l2⟩,⟨fun i=>Iff.rfl,fun i hi e=>by have:=(hlt i hi).2; omega,hres,b1,World.ownsRow_nil _ _ _ _,fun i=>by simp [Value.ownBlock],fun i hi=>Or.inr hi,by simp [Value.ownBlock]⟩,?_,b.le_refl,rfl,fun j h1=>by simp at h1,Nat.le_refl _,by omega⟩;refine ⟨k1.mono (fun _ _ h=>h.elim),fun i hi=>hi.imp id (fun e=>by omega),fun i hi=>?_,fun i hs hi hn=>Or.inl hi,fun i hi=>hi.elim (fun h=>Or.inl (hlt i h).1) Or.inr⟩
 rcases hi with hi | hi
 ·by_cases hf:Fr i
  ·exact Or.inr (Or.inl hf)
  ·exact Or.inl ⟨hi,hf⟩
 ·exact Or.inr (Or.inr hi)
theorem Zpn {C:Cx} {bg tl:Value} {mine:List Rsc} {k fn:Nat} {cap:Array Value} {W:Wt} {b:Bo} {l:List Xs} {w w0:World} {F F0 Fr:Bs2} {S m m' i:Nat} {v ty':Value} {wi:World} {f:Pf} {pre:List Pc} {lo hi:Nat} (hw:Lat w0 F0 w F) (hFr :∀k,Fr k->F k) (h:ZsP C bg tl mine k (.func (.func fn) #[] cap) W b l w F Fr S m i v wi) (hbc:ZbX w0 F0 ty' f) (hfp:Fp lo hi pre.length (f pre.length)) (hG:hi<=C.G) (hG9:C.G<=9) (hu:C.u.size<=200) (hi2:i < l.length) (hl:l[i]=smx C.u pre f) (hi9:i<=999) (hkk:k + m + 2 * (f pre.length).length<=100000) (hm:m + 2 * (f pre.length).length<=m') :
  (∃ao n c,v = .slice ao n c)/\wi.cell? ⟨S,0,none⟩=some v/\Calls Tryz.prog 58 #[.pointer (some ⟨C.X,0,none⟩),ty',.func (.func fn) #[] cap] wi.drew (Zfl (ZsP C bg tl mine k (.func (.func fn) #[] cap) W b l w F Fr S m') S i v):=by
 obtain ⟨b',new,k',F',Ft,Fr',Fs,fs,hb,hA,ht,hle,hfl,hst,hk1,hk2⟩:=h.ex;obtain ⟨s1,s3,s5,s6,s7⟩:=id hA.two;obtain ⟨ao,cp,hvf⟩:=Zd s3;refine ⟨⟨_,_,_,hvf⟩,s1.cell,?_⟩;have kd:Za N0_ wi wi.drew:=(Za.refl _ _).drew;obtain ⟨hb1,t1⟩:=hb.same kd;have li:=ht.lat hFr;refine (hbc pre lo hi C wi.drew F' Fr' bg tl (new ++ mine) k' _ W (some b') ((hw.trans li).trans (Lat.ofKeeps kd)) hb1 hfp hG hG9 hu (by omega)).mono ?_;rintro e w2 ⟨fv,B2,new2,k2,F2,Fr2,rfl,g1,g2,g3,g4,g5⟩;obtain ⟨fn2,cap2,hfv⟩:=g1.st.form;subst hfv;obtain ⟨b2,hB2,hb2⟩:=g5 b' rfl;subst hB2;have hA1:Apt (Zp (SeR C ⟨(k':Int),bg,[]⟩ tl tno :: (new ++ mine))) (StR S v fs) wi.drew F' Ft Fr' Fs:=⟨hA.all,hA.dis,hb1.res,(ZbE _ _ _).frame hA.two (Lat.ofKeeps kd) (fun i hi=>((ZbE _ _ _).lt hA.two i hi).1) (fun i hi=>kd.block i ((ZbE _ _ _).lt hA.two i hi).2 id)⟩;obtain ⟨p1,p2⟩:=hA1.upd hb1.resOk (ZbE _ _ _) g2 g1.res;have hFt :∀k,Ft k->F' k:=fun k hk=>((hA.all k).1 hk).elim (hb.inn k) (fun h=>((ZbE _ _ _).lt hA.two k h).1);obtain ⟨v',w3,hrun,⟨ao',n',c',rfl⟩,cS,fS,F4,Fs4,q1,q2⟩:=Zqc (x:=.func (.func fn2) #[] cap2) p1.two rfl (by omega);refine ⟨fn2,cap2,ao',n',c',v,w3,rfl,p1.two.1.cell,hrun,cS,fS,?_⟩;obtain ⟨r1,r2⟩:=p1.swap.upd (ZbE _ _ _) g1.resOk q2 q1;have tall:Trn w F Fr (w3.setCell ⟨S,0,none⟩ (.slice ao' n' c')) F4 (fun k=>Fs4 k\/Fr2 k):=((ht.trans (Trn.ofKeeps hFt kd)).trans p2).trans r2;have lw2:Lat wi.drew F' w2 F2:=p2.lat hFt;have hFt2 :∀k,(Fr2 k\/Fs k)->F2 k:=fun k hk=>hk.elim (g1.inn k) (fun h=>((ZbE _ _ _).lt p1.two k h).1);have lw4:Lat w2 F2 (w3.setCell ⟨S,0,none⟩ (.slice ao' n' c')) F4:=r2.lat hFt2;have lall:Lat wi F' (w3.setCell ⟨S,0,none⟩ (.slice ao' n' c')) F4:=((Lat.ofKeeps kd).trans lw2).trans lw4;have hmem :∀R∈new ++ mine,R∈(new2 ++ new) ++ mine:=fun R hR=>by rw [List.append_assoc]; exact List.mem_append.2 (Or.inr hR)
 have hfb4:Fb (w3.setCell ⟨S,0,none⟩ (.slice ao' n' c')) F4:=g1.fb.trn q2 (fun k hk=>((ZbE _ _ _).lt q1 k hk).2);refine ⟨b2,new2 ++ new,k2,F4,fun k=>Fr2 k\/Fs4 k,Fr2,Fs4,fs ++ [.func (.func fn2) #[] cap2],⟨hfb4,?_,?_,((hb.st.later lall).wide hb2).mine hmem,g1.lid,(fun h=>by cases h),hb.nn.later lall⟩,⟨fun k=>Iff.rfl,fun k h1 h2=>r1.dis k h2 h1,?_,q1⟩,tall.congr (fun _=>Iff.rfl) (fun k=>Or.comm),Bo.le_trans hle hb2,by simp [hfl],fun j h1 h2=>?_,by omega,by omega⟩
 ·intro R hR;rw [List.append_assoc] at hR;exact g1.ok R hR
 ·rw [List.append_assoc]; exact r1.two
 ·rw [List.append_assoc]; exact r1.two
 ·by_cases hj:j < fs.length
  ·rw [List.getElem_append_left hj];exact (((hst j hj h2).later lall).wide hb2).mine hmem
  ·have hji:j=i:=by simp at h1; omega
   subst hji;rw [List.getElem_append_right (by omega)];simp only [hfl,Nat.sub_self,List.getElem_cons_zero]
   have:=g1.st.later lw4
   rw [<- List.append_assoc] at this;rw [hl];exact this
theorem Zpp {C:Cx} {bg tl:Value} {mine:List Rsc} {k:Nat} {nx:Value} {W:Wt} {b:Bo} {l:List Xs} {w:World} {F Fr:Bs2} {S m:Nat} {v:Value} {wi:World} (h:ZsP C bg tl mine k nx W b l w F Fr S m l.length v wi) (hn:l.length<=1000) (h0:0 < l.length) :
  Qo C bg tl mine k m (fun p=>bn (Zj5 l p) W) (some b) w F Fr (.returned (.func (.func 102) #[] #[.pointer (some ⟨S,0,none⟩)])) wi:=by
 obtain ⟨b',new,k',F',Ft,Fr',Fs,fs,hb,hA,ht,hle,hfl,hst,hk1,hk2⟩:=h.ex;obtain ⟨FR,Fl,q1,q2,q3⟩:=Zat (ZbE _ _ _) hb.resOk (Zl.2 ⟨_,_,hA.swap⟩) ht;have ll:Lat wi F' wi (fun k=>F' k/\¬ FR k):=⟨Za.refl _ _,fun k hk=>Or.inl hk.1⟩;obtain ⟨s1,s3,s5,s6,s7⟩:=q1;have hSI:StI wi (fun k=>F' k/\¬ FR k) v fs:=by
  refine ⟨?_,s3,fun k hk h=>h.2 ((s5 k).2 (Or.inr hk))⟩
  cases hc:fs.length with
  | zero=>omega
  | succ n=>rw [hc] at s3; obtain ⟨g,c,hv,_⟩:=ZQ s3; exact ⟨g,c,hv⟩
 have hbx:BxI wi (fun k=>F' k/\¬ FR k) S 213 v:=⟨s1,fun h=>h.2 ((s5 S).2 (Or.inl rfl))⟩;have hstep:=Zpm (C:=C) (Ws:=l.map (fun X p=>bn (X p) W)) (b:=b') (mine:=new ++ mine) hbx hSI (by rw [List.length_map]; exact hfl) (by omega) (fun i h1 h2=>by
  rw [List.getElem_map];exact (hst i h1 (by simpa using h2)).later ll)
 refine ⟨_,some b',new,k',_,Fl,rfl,⟨fun i hi=>hb.fb i hi.1,hb.ok,q2,hstep.alkO (fun p hp=>?_),hb.lid,(fun h=>by cases h),hb.nn.later ll⟩,q3,hk1,hk2,fun c hc=>⟨b',rfl,by cases hc; exact hle⟩⟩;have e:Zfn (l.map (fun X p=>bn (X p) W)) p=l.flatMap fun X=>bn (X p) W:=by unfold Zfn; rw [List.flatMap_map]
 rw [e];exact (Zsr l W p).symm
theorem Zhq {w:World} {b i:Nat} {v:Value} (h:w.cell? ⟨b,i,none⟩=some v):b < w.heap.size:=by
 apply Decidable.byContradiction;intro hc;unfold World.cell? at h;simp only at h;rw [Array.getElem?_eq_none (by omega)] at h;simp at h
theorem ZbS {w w':World} {b i X:Nat} {v:Value} (h:w.cell? ⟨b,i,none⟩=some v) (k:Za (fun j=>j=X) w w') (hb:b≠X):w'.cell? ⟨b,i,none⟩=some v:=by
 have hlt:=Zhq h;unfold World.cell? at h ⊢;simp only at h ⊢;rw [k.block b hlt hb];exact h
theorem Zhs (fs:List Pf) :∀(n i:Nat),(cat (fs.take i) n).length<=(cat fs n).length:=by
 induction fs with
 | nil=>intro n i; simp
 | cons f fs ih =>
   intro n i
   cases i with
   | zero=>simp [cat]
   | succ i =>
     have:=ih (n + (f n).length) i
     simp only [List.take_succ_cons,cat,List.length_append];omega
theorem Zmu {w0:World} {F0 D:Bs2} (hD0 :∀k,D k->¬ F0 k) {v:Value} {vs:List Value} {fs:List Pf} (ho:w0.ownsRow 0 85 1 v vs.length vs) (hD :∀k,v.ownBlock=some k->D k) (hl:fs.length=vs.length) (hn:vs.length<=1000) (ih :∀(i:Nat) (x:Value) (f:Pf),vs[i]? = some x->fs[i]? = some f->Zdz w0 F0 x f) :
  ZbX w0 F0 (.iface 165 (.agg #[v])) (JW fs):=by
 intro pre lo hi C w F Fr bg tl mine k nx W B l h hfp hG hG9 hu hk;obtain ⟨fn,cap,hfe⟩:=h.st.form;subst hfe;have hful :∀f∈fs,Ful f:=fun f hf=>by
  obtain ⟨i,hi,rfl⟩:=List.getElem_of_mem hf;exact (ih i (vs[i]'(by omega)) _ (List.getElem?_eq_getElem (by omega)) (List.getElem?_eq_getElem hi)).2.1
 have hFL:=Zr9 hful hfp;have hlen:(JW fs pre.length).length=(cat fs pre.length).length + 1:=by simp [JW]
 obtain ⟨ao,cp,hvf⟩:=Zd ho;rw [hvf,Zkv C.u pre fs hful];have hXlt:C.X < w.heap.size:=h.se.lt;refine Znv (R:=fun fn2 cap2 w2 =>∃Fr2,ZO C bg tl mine (k + 1) (.func (.func fn2) #[] cap2) W (some (Qy (k + 1) W B)) w2 F Fr2/\Trn w F Fr w2 F Fr2) (fun w1 k1 hc1=>?_) ?_
 ·obtain ⟨h1,t1⟩:=h.same k1;refine (Zeg h1 (by omega) hu).mono ?_;rintro e w2 ⟨fn2,cap2,rfl,g1,g2,g3⟩;refine ⟨fn2,cap2,rfl,⟨Fr,g1,t1.trans g2⟩,?_⟩;exact ZbS hc1 g3 (by omega)
 ·rintro fn2 cap2 w1 w2 ⟨Fr1,g1,g2⟩ k2 hc2;obtain ⟨g1',t2⟩:=g1.same k2;have tw:=g2.trans t2;have lw:Lat w F w2 F:=tw.lat h.inn;have hle:=ZdU (W:=W) h.lid;have hxl:(ZbB C.u pre fs).length=fs.length:=Zey _ _ _;have hend :∀(e:Ending) (w3:World),Qo C bg tl mine (k + 1) (2 * (cat fs pre.length).length) (fun p=>bn (Zj5 (ZbB C.u pre fs) p) W) (some (Qy (k + 1) W B)) w2 F Fr1 e w3->Zbm (Qo C bg tl mine k (2 * (JW fs pre.length).length) (fun p=>bn (Zj5 (ZbB C.u pre fs) p) W) B w F Fr) e w3/\w3.cell? ⟨w.heap.size,0,none⟩=some (.slice ao vs.length cp):=by
   rintro e w3 ⟨fv,B',new,k',F',Fr',rfl,p1,p2,p3,p4,p5⟩;obtain ⟨fn3,cap3,hfv⟩:=p1.st.form;subst hfv;refine ⟨⟨fn3,cap3,rfl,_,B',new,k',F',Fr',rfl,p1,tw.trans p2,by omega,by omega,hle.trans p5⟩,?_⟩;have hlt:w.heap.size < w2.heap.size:=Zhq hc2;exact ((show CeI w2 F w.heap.size 0 _ from ⟨hc2,h.new (Nat.le_refl _),hlt⟩).later (p2.lat g1'.inn)).1
  cases hc:vs.length with
  | zero =>
    have h0:fs = []:=List.eq_nil_of_length_eq_zero (by omega);rw [hc] at hend;refine ZmU (hend _ _ ?_);have k3:Za N0_ w2 (w2.alloc (.cells #[.slice none 0 0] 213)):=(Za.refl _ _).alloc _;have b3:At1 (w2.alloc (.cells #[.slice none 0 0] 213)) w2.heap.size 213 (.slice none 0 0):=heap_alloc_new _ _;refine g1'.give k3 (Qe.congr (ZmV ⟨b3,g1'.new (Nat.le_refl _)⟩) (fun p _=>?_)) (fun h=>by cases h);rw [h0];rfl
  | succ m =>
    obtain ⟨g,cp',hg⟩ :∃g cp',v = .slice (some ⟨g,0,none⟩) (m + 1) cp':=by rw [hc] at ho; obtain ⟨g,c,h,_⟩:=ZQ ho; exact ⟨g,c,h⟩
    rw [hc] at hvf;rw [hg] at hvf
    cases hvf
    rw [<- hc];have hF1:=g1'.inn;have hmono :∀i,i<=fs.length->(cat (fs.take i) pre.length).length<=(cat fs pre.length).length:=fun i _=>Zhs fs pre.length i
    have:=Zrp (n:=m + 1) (g:=g) (c:=cp) (X:=C.X) (fn:=fn2) (cap:=cap2) (w:=w2) (I:=fun i v wi=>ZsP C bg tl mine (k + 1) (.func (.func fn2) #[] cap2) W (Qy (k + 1) W B) (ZbB C.u pre fs) w2 F Fr1 w2.heap.size (2 * (cat (fs.take i) pre.length).length) i v wi) (Q:=fun e w3=>Zbm (Qo C bg tl mine k (2 * (JW fs pre.length).length) (fun p=>bn (Zj5 (ZbB C.u pre fs) p) W) B w F Fr) e w3/\w3.cell? ⟨w.heap.size,0,none⟩=some (.slice (some ⟨g,0,none⟩) vs.length cp)) (by omega) (by simpa [cat] using ZmP g1') ?_ ?_
    ·rw [hc]; rw [hc] at this; exact this
    ·intro i vv wi hI hin;have hi2:i < fs.length:=by omega
     obtain ⟨⟨ty,y,hxe⟩,-,hbc⟩:=ih i (vs[i]'(by omega)) fs[i] (List.getElem?_eq_getElem (by omega)) (List.getElem?_eq_getElem hi2);have hpl:(pre ++ cat (fs.take i) pre.length).length=pre.length + (cat (fs.take i) pre.length).length:=by simp
     have hf1:=ZlW fs pre.length i hi2 hFL;have hsp:=Zgg fs pre.length i hi2;rw [<- hpl] at hf1 hsp;have hmi:=hmono (i + 1) (by omega);obtain ⟨q1,q2,q3⟩:=Zpn (m':=2 * (cat (fs.take (i + 1)) pre.length).length) (l.trans lw) hF1 hI hbc hf1 hG hG9 hu (by rw [hxl]; exact hi2) (ZhV C.u fs pre i hi2 _) (by omega) (by omega) (by omega);refine ⟨q1,q2,ty,y,?_,by rw [<- hxe]; exact q3⟩;obtain ⟨b',new,k',F',Ft,Fr',Fs,fs',hb,hA,ht,-⟩:=hI.ex;have hrow:=(ZJ ⟨ho,fun k hk=>hD0 k (hD k hk)⟩ ((l.trans lw).trans (ht.lat hF1))).1;rw [hg] at hrow;rw [show vs.length=m + 1 from hc] at hrow;have hc3:=hrow.cellAt i (show i < (m + 1) * 1 by omega);rw [List.getElem?_eq_getElem (by omega),hxe] at hc3;exact hc3
    ·intro vv wi hI;rw [<- hc,<- hl,<- hxl] at hI;have hp:=Zpp hI (by rw [hxl]; omega) (by rw [hxl]; omega);rw [hxl,List.take_length] at hp;exact hend _ _ hp
theorem Trn.born {w w5 w6:World} {F F5 F6 O5 O6:Bs2} (k:Za N0_ w w5) (t:Trn w5 F5 O5 w6 F6 O6) (hO :∀i,O5 i->w.heap.size<=i) (hF :∀i,F5 i↔F i\/O5 i):Trn w F N0_ w6 F6 O6:=by
 refine ⟨k.trans' t.keeps (fun i hi h=>by have:=hO i h; omega),fun i hi=>Or.inr ?_,fun i hi=>?_,fun i hs hi _=>t.inn i (Nat.lt_of_lt_of_le hs k.size) ((hF i).2 (Or.inl hi)) (fun h=>by have:=hO i h; omega),t.own⟩
 ·rcases t.fresh i hi with h | h
  ·exact hO i h
  ·exact Nat.le_trans k.size h
 ·rcases t.out i hi with ⟨h1,h2⟩ | h
  ·rcases (hF i).1 h1 with h3 | h3
   ·exact Or.inl ⟨h3,fun h=>h⟩
   ·exact absurd h3 h2
  ·exact Or.inr h
theorem Zov (G:Nat):ZB (noS G)=spc G G:=by
 unfold noS spc;simp only [Nat.sub_self,Nat.mul_zero,List.replicate_zero,List.append_nil]
 induction G with
 | zero=>rfl
 | succ G ih =>
   have e:2 * (G + 1)=2 * G + 1 + 1:=by omega
   rw [e];simp only [List.replicate_succ];rw [<- ih];rfl
theorem Zqe {w:World} {F:Bs2} {g G:Nat} (hG:G<=9) (h:w.heap[g]? = some (.cells (spc G G).toArray 118 (0,0))) (hF:¬ F g):SpI w F (.slice (some ⟨g,0,none⟩) G G) (noS G):=by
 have hl:(noS G).length=G:=by simp [noS]
 refine ⟨some ⟨g,0,none⟩,G,by rw [hl],fun _=>⟨?_,fun k hk=>?_⟩⟩
 ·rw [hl,Zov];refine ⟨by rw [ZcZ (Nat.le_refl _)]; omega,Or.inr ⟨g,G,(spc G G).toArray,rfl,Nat.zero_le _,h,Nat.le_refl _,by unfold maxLen; omega,by rw [List.size_toArray,ZcZ (Nat.le_refl _)]; omega,?_⟩⟩;rw [List.take_of_length_le];rw [show (spc G G).toArray.toList=spc G G from rfl,ZcZ (Nat.le_refl _)]; omega
 ·simp [Value.ownBlock] at hk;subst hk;exact hF
structure Zrw (u:ByteArray) (G:Nat) (X:Xs) (w:World) (F:Bs2) (Xb:Nat) (w':World):Prop where
 ex :∃(C:Cx) (k:Nat) (bg:Value) (B:Option Bo) (mine:List Rsc) (F' Fr':Bs2),C.X=Xb/\C.u=u/\C.G=G/\Zp (SeR C ⟨(k:Int),bg,[]⟩ .nilFunc tno :: mine) w' F' Fr'/\Trn w F N0_ w' F' Fr'/\ZdC C w' F' bg X B mine
theorem Za8 {u:ByteArray} {G:Nat} {X:Xs} {w:World} {F:Bs2} {Xb:Nat} {w':World} (h:Zrw u G X w F Xb w'):Za N0_ w w':=by
 obtain ⟨C,k,bg,B,mine,F',Fr',-,-,-,-,t,-⟩:=h.ex;exact t.keeps
theorem ZbK {w0:World} {F0:Bs2} {v:Value} {f:Pf} (hm:Zdz w0 F0 v f) {w:World} {F:Bs2} {u:ByteArray} {G lo hi:Nat} {pre:List Pc} (l:Lat w0 F0 w F) (hFb:Fb w F) (hfp:Fp lo hi pre.length (f pre.length)) (hG:hi<=G) (hG9:G<=9) (hu:u.size<=200) (hk:2 * (f pre.length).length<=100000) :
  Calls Tryz.prog 36 #[.string u,.int .i64 (G:Int),v] w (fun e w' =>∃X2,e = .returned (.pointer (some ⟨X2,0,none⟩))/\Zrw u G (smx u pre f) w F X2 w'):=by
 obtain ⟨⟨ty,y,rfl⟩,hful,hbc⟩:=hm;refine ZfU hG9 ?_;intro X m g w5 hN;obtain ⟨hlg,hgm,hmX⟩:=hN.lt;have hXm:X≠m:=by omega
 have hold :∀i,F i->i < w.heap.size:=hFb;have hltX:=hN.se.lt;have hltm:m < w5.heap.size:=(Array.getElem?_eq_some_iff.1 hN.mp).1;have hR:SeR ⟨X,m,u,.slice (some ⟨g,0,none⟩) G G,G⟩ ⟨((0:Nat):Int),.nilFunc,[]⟩ .nilFunc tno w5 (fun i=>F i\/i=X\/i=m) (fun i=>i=X\/i=m) :=
  ⟨[],hN.se,⟨⟨0,hN.mp⟩,by simp,by simp,by simp,fun _ _ _ _=>rfl,fun _ _ _=>by simp [tno],by simp⟩,by simp,fun i=>by simp,fun i hi=>Or.inr hi,hXm,by simp⟩
 have hFb5:Fb w5 (fun i=>F i\/i=X\/i=m):=fun i hi=>by
  rcases hi with h | h | h
  ·exact Nat.lt_of_lt_of_le (hFb i h) hN.k.size
  ·have:X < w5.heap.size:=hltX
   omega
  ·omega
 have hnot :∀i,w.heap.size<=i->i≠X->i≠m->¬ (F i\/i=X\/i=m):=fun i h1 h2 h3 h=>by
  rcases h with h | h | h
  ·have:=hFb i h; omega
  ·exact h2 h
  ·exact h3 h
 have l5:Lat w F w5 (fun i=>F i\/i=X\/i=m):=⟨hN.k.mono (fun _ _ h=>h.elim),fun i hi=>by rcases hi with h | h | h; exact Or.inl h; exact Or.inr (by omega); exact Or.inr (by omega)⟩;have hin:ZO ⟨X,m,u,.slice (some ⟨g,0,none⟩) G G,G⟩ .nilFunc .nilFunc [] 0 (.func (.func 59) #[] #[.pointer (some ⟨X + 1,0,none⟩)]) QU none w5 (fun i=>F i\/i=X\/i=m) (fun i=>i=X\/i=m) :=
  ⟨hFb5,by simp,⟨fun i=>i=X\/i=m,fun _=>False,fun i=>by simp,fun _ _ h=>h,hR,fun _ h=>h⟩,Zkm ⟨hN.vb,hnot _ (by omega) (by omega) (by omega)⟩,(fun b hb=>by cases hb),fun _=>Zoi,Zqe hG9 hN.sp (hnot _ (by omega) (by omega) (by omega))⟩
 refine (hbc pre lo hi ⟨X,m,u,.slice (some ⟨g,0,none⟩) G G,G⟩ w5 _ _ _ _ _ _ _ _ _ (l.trans l5) hin hfp hG hG9 hu (by omega)).mono ?_;rintro e w6 ⟨fv,B',new,k',F',Fr',rfl,g1,g2,g3,g4,g5⟩;rw [List.append_nil] at g1;obtain ⟨fn,cap,hfv⟩:=g1.st.form;subst hfv;have lv:=g2.lat hin.inn;have hV6:BxI w6 F' (X + 1) 52 (.pointer (some ⟨X,0,none⟩)):=(show BxI w5 (fun i=>F i\/i=X\/i=m) _ _ _ from ⟨hN.vb,hnot _ (by omega) (by omega) (by omega)⟩).later lv;refine ⟨fn,cap,(k':Int),rfl,hV6.1,g1.se,?_⟩;have hk7:Za (fun i=>i=X) w6 (w6.setCell ⟨X,4,none⟩ (.func (.func fn) #[] cap)):=Zh _ _ _ _;obtain ⟨hX1,hX2⟩:=g1.inX;have l7:Lat w6 F' (w6.setCell ⟨X,4,none⟩ (.func (.func fn) #[] cap)) F':=⟨hk7.mono (fun i _ e=>e ▸ hX2),fun _ h=>Or.inl h⟩;obtain ⟨A1,A2,hA⟩:=Zl.1 g1.res;have hok:Zq (Zp new):=ZR g1.ok;have hA1X:A1 X:=by obtain ⟨L,-,-,-,he,-⟩:=hA.one; exact (he _).2 (Or.inl rfl)
 have t7:Trn w6 F' A1 (w6.setCell ⟨X,4,none⟩ (.func (.func fn) #[] cap)) F' A1:=Trn.same (fun i hi=>((Qx _ _ _ _).lt hA.one i hi).1) (hk7.mono (fun i _ e=>e ▸ hA1X));have h7:SeR ⟨X,m,u,.slice (some ⟨g,0,none⟩) G G,G⟩ ⟨(k':Int),.func (.func fn) #[] cap,[]⟩ .nilFunc tno (w6.setCell ⟨X,4,none⟩ (.func (.func fn) #[] cap)) F' A1:=by
  have hlt:=(Qx _ _ _ _).lt hA.one;obtain ⟨L,q1,q2,q3,q4,q5,q6,q7⟩:=hA.one;have hmm:=hk7.block m (hlt _ ((q4 _).2 (Or.inr (Or.inl rfl)))).2 (Ne.symm q6);refine ⟨L,q1.set4 _,⟨by rw [hmm]; exact q2.mp,q2.keys,q2.blks,fun x hx=>?_,q2.rest,q2.few,q2.apart⟩,q3,q4,q5,q6,q7⟩;unfold Rm;rw [hk7.block x.2.1 (hlt _ ((q4 _).2 (Or.inr (Or.inr ⟨x,hx,rfl⟩)))).2 (q7 x hx)];exact q2.room x hx
 obtain ⟨r1,r2⟩:=hA.upd (R':=SeR ⟨X,m,u,.slice (some ⟨g,0,none⟩) G G,G⟩ ⟨(k':Int),.func (.func fn) #[] cap,[]⟩ .nilFunc tno) (Qx _ _ _ _) hok t7 h7;refine ⟨X,rfl,⟨_,k',_,B',new,F',_,rfl,rfl,rfl,Zl.2 ⟨_,_,r1⟩,?_,⟨g1.st.later l7,g1.nn.later l7,g1.ok⟩⟩⟩;exact Trn.born hN.k (g2.trans r2) (fun i hi=>by rcases hi with h | h <;> omega) (fun i=>Iff.rfl)
def ZsN (w:World) (F:Bs2) (b:Nat) (lo hi:Int) (lz:Bool) (ty:TypeId) (y:Value):Prop:=At4 w b lo hi lz ty y/\¬ F b/\b < w.heap.size
theorem ZsN.later {w w':World} {F F':Bs2} {b:Nat} {lo hi:Int} {lz:Bool} {ty:TypeId} {y:Value} (h:ZsN w F b lo hi lz ty y) (l:Lat w F w' F'):ZsN w' F' b lo hi lz ty y:=by
 obtain ⟨⟨h0,h1,h2,h3⟩,h4,h5⟩:=h;have e :∀(i:Nat) (v:Value),w.cell? ⟨b,i,none⟩=some v->w'.cell? ⟨b,i,none⟩=some v:=fun i v h=>((show CeI w F b i v from ⟨h,h4,h5⟩).later l).1;exact ⟨⟨e _ _ h0,e _ _ h1,e _ _ h2,e _ _ h3⟩,(l.stay h5 h4).2,Nat.lt_of_lt_of_le h5 l.size⟩
theorem Zrg {w w':World} {b X:Nat} {lo hi:Int} {lz:Bool} {ty:TypeId} {y:Value} (h:At4 w b lo hi lz ty y) (k:Za (fun j=>j=X) w w') (hb:b≠X):At4 w' b lo hi lz ty y :=
 ⟨ZbS h.1 k hb,ZbS h.2.1 k hb,ZbS h.2.2.1 k hb,ZbS h.2.2.2 k hb⟩
structure Zfj (C:Cx) (X:Xs) (w4:World) (F4:Bs2) (w5 w6 w7:World) (fv:Value):Prop where
 ex :∃(R:Rsc) (F7 Fr7:Bs2),Zq R/\R w7 F7 Fr7/\Zke C w7 F7 fv X R/\Lat w4 F4 w7 F7/\(∀i,F7 i->F4 i\/Fr7 i\/(w5.heap.size<=i/\i < w6.heap.size))/\(∀i,F4 i->F7 i)/\(∀i,w5.heap.size<=i->i < w6.heap.size->F7 i)/\(∀i,Fr7 i->w4.heap.size<=i/\¬ (w5.heap.size<=i/\i < w6.heap.size))/\Za N0_ w4 w7/\Fb w7 F7
theorem ZmD {C:Cx} {X:Xs} {w4 w5 w6:World} {F4:Bs2} {X2 lo hi:Nat} (h:Zrw C.u C.G X w4 F4 X2 w5) (hFb:Fb w4 F4) (k6:Za N0_ w5 w6) (hu:C.u.size<=200) (hX:OkX C.u.size lo hi X) :
  Calls Tryz.prog 108 #[.pointer (some ⟨X2,0,none⟩)] w6 (fun e w7 =>∃fat capat,e = .returned (.func (.func fat) #[] capat)/\Zfj C X w4 F4 w5 w6 w7 (.func (.func fat) #[] capat)/\Za N0_ w6 w7):=by
 obtain ⟨C2,kk,bg,B,mine,F5,Fr5,hCX,hCu,hCG,hres,ht,hS⟩:=h.ex;subst hCX;have hok:=Zb7 (C:=C2) (ρ:=⟨(kk:Int),bg,[]⟩) (tl:=.nilFunc) (T:=tno) hS.ok;have hlt:=hok.lt hres;have hF5:Fb w5 F5:=hFb.trn ht (fun i hi=>(hlt i hi).2);obtain ⟨F6,hF6⟩ :∃F6:Bs2,F6=fun i=>F5 i\/(w5.heap.size<=i/\i < w6.heap.size):=⟨_,rfl⟩;have l6:Lat w5 F5 w6 F6:=⟨k6.mono (fun _ _ h=>h.elim),fun i hi=>by rw [hF6] at hi; exact hi.imp id And.left⟩;have hFb6:Fb w6 F6:=fun i hi=>by rw [hF6] at hi; exact hi.elim (fun h=>Nat.lt_of_lt_of_le (hF5 i h) k6.size) And.right
 have hres6:=hok.frame hres l6 (fun i hi=>by rw [hF6]; exact Or.inl (hlt i hi).1) (fun i hi=>k6.block i (hlt i hi).2 id);have hSe:Se w6 C2 (kk:Int) bg .nilFunc:=by
  obtain ⟨A1,A2,hA⟩:=Zl.1 hres6;exact hA.one.choose_spec.1
 refine (ZdE hSe (by rw [hCu]; exact hu)).mono ?_;rintro e w7 ⟨Ab,Sb,Kb,kr,rfl,⟨n1,n2,n3,n4,n5,n6,n7,n8,n9⟩,b1,b2,r1,r2,k7⟩;obtain ⟨F7,hF7⟩ :∃F7:Bs2,F7=fun i=>F6 i\/i=kr\/i=Ab:=⟨_,rfl⟩;have l7:Lat w6 F6 w7 F7:=⟨k7.mono (fun _ _ h=>h.elim),fun i hi=>by rw [hF7] at hi; rcases hi with h | h | h; exact Or.inl h; exact Or.inr (by omega); exact Or.inr (by omega)⟩;have hkr:=(ZcH r1 0).2;have hAb:=lt_of_block r2;have hFb7:Fb w7 F7:=fun i hi=>by rw [hF7] at hi; rcases hi with h | h | h; exact Nat.lt_of_lt_of_le (hFb6 i h) k7.size; omega; omega
 have hlt6:=hok.lt hres6;have hres7:=hok.frame hres6 l7 (fun i hi=>by rw [hF7]; exact Or.inl (hlt6 i hi).1) (fun i hi=>k7.block i (hlt6 i hi).2 id);have hnot :∀i,w6.heap.size<=i->i≠kr->i≠Ab->¬ F7 i:=fun i h1 h2 h3 h=>by rw [hF7] at h; rcases h with h | h | h; (have:=hFb6 i h; omega); exact h2 h; exact h3 h
 have hKn:KnB ⟨kr,Ab,C2.u.size,C2.G,X⟩ kno (fun p=>(kno p).isSome) w7 F7 (fun i=>i=kr\/i=Ab) :=
  ⟨⟨r1,r2⟩,fun i=>Iff.rfl,by rw [hF7]; exact Or.inr (Or.inl rfl),by rw [hF7]; exact Or.inr (Or.inr rfl),n5,fun p v M h=>by simp [kno] at h⟩
 have hS7:ZdC C2 w7 F7 bg X B mine:=(hS.later l6).later l7;have hat:=ZnN (C:=C2) (ρ:=⟨(kk:Int),bg,[]⟩) (κ:=⟨kr,Ab,C2.u.size,C2.G,X⟩) (lo:=lo) (hi:=hi) hS7 (Sb:=Sb) (Kb:=Kb) ⟨b1,hnot _ n2 (Ne.symm n6) (Ne.symm n8)⟩ ⟨b2,hnot _ n3 (Ne.symm n7) (Ne.symm n9)⟩ rfl rfl rfl (by rw [hCu]; exact hu) (by rw [hCu]; exact hX);refine ⟨_,_,rfl,⟨Ztl C2 ⟨(kk:Int),bg,[]⟩ ⟨kr,Ab,C2.u.size,C2.G,X⟩ mine,F7,fun i=>(i=kr\/i=Ab)\/Fr5 i,Zqu hS.ok,⟨tno,.nilFunc,kno,Zy ⟨_,Fr5,fun i=>Iff.rfl,fun i h1 h2=>?_,hKn,hres7⟩⟩,hat.ctx hCu.symm hCG.symm,((ht.lat (fun _ h=>h.elim)).trans l6).trans l7,fun i hi=>?_,fun i hi=>?_,fun i h1 h2=>?_,fun i hi=>?_,(ht.keeps.trans k6).trans k7,hFb7⟩,k7⟩
 ·have:=(hlt6 i h2).2; rcases h1 with h | h <;> omega
 ·rw [hF7,hF6] at hi
  rcases hi with (h | h) | h | h
  ·rcases ht.out i h with h2 | h2
   ·exact Or.inl h2.1
   ·exact Or.inr (Or.inl (Or.inr h2))
  ·exact Or.inr (Or.inr h)
  ·exact Or.inr (Or.inl (Or.inl (Or.inl h)))
  ·exact Or.inr (Or.inl (Or.inl (Or.inr h)))
 ·rw [hF7,hF6];exact Or.inl (Or.inl (ht.inn i (hFb i hi) hi id))
 ·rw [hF7,hF6];exact Or.inl (Or.inr ⟨h1,h2⟩)
 ·have hs4:=ht.keeps.size;have hs5:=k6.size
  rcases hi with (h | h) | h
  ·exact ⟨by omega,fun h2=>by omega⟩
  ·exact ⟨by omega,fun h2=>by omega⟩
  ·have h2:=(hlt i h).2
   rcases ht.fresh i h with h3 | h3
   ·exact h3.elim
   ·exact ⟨h3,fun h4=>by omega⟩
structure Zpy (C:Cx) (bg tl:Value) (mine:List Rsc) (k fn:Nat) (cap:Array Value) (W:Wt) (b:Bo) (r:Rp) (ty:TypeId) (y:Value) (w:World) (F Fr Fr1:Bs2) (S A:Nat) (w3:World):Prop where
 inn:ZO C bg tl mine k (.func (.func fn) #[] cap) W (some b) w3 F Fr1
 t:Trn w F Fr w3 F Fr1
 a:CeI w3 F A 0 (.pointer (some ⟨C.X,0,none⟩))
 n:RnI w3 F (A + 1) r (.iface ty y)
 c:CeI w3 F (A + 2) 0 (.func (.func fn) #[] cap)
 s:ZsN w3 F S (r.least:Int) (Zaa r) r.lazy ty y
theorem ZnI {C:Cx} {bg tl:Value} {mine:List Rsc} {k fn fat:Nat} {cap capat:Array Value} {W:Wt} {b:Bo} {r:Rp} {ty:TypeId} {y:Value} {w w3 w4 w5 w6 w7 w8:World} {F Fr Fr1:Bs2} {S A At lo hi:Nat} {X:Xs} (hI:Zpy C bg tl mine (k + 1) fn cap W b r ty y w F Fr Fr1 S A w3) (hlid:Lid k (some b)) (k4:Za N0_ w3 w4) (bJ:At1 w4 w3.heap.size 3 (.int .i64 ((k + 1:Nat):Int)))
  (hM:Zfj C X w4 (fun i=>F i\/(w3.heap.size < i/\i < w4.heap.size)) w5 w6 w7 (.func (.func fat) #[] capat)) (hs45:w4.heap.size<=w5.heap.size) (hs56:w5.heap.size<=w6.heap.size) (hs67:w6.heap.size<=w7.heap.size) (hAt:Ztr w3 w4 w5 w6 w7 At) (k8:Za (fun i=>i=At) w7 w8) (bAt:At1 w8 At 217 (.func (.func fat) #[] capat))
  (hX:OkX C.u.size lo hi X) (hu:C.u.size<=200) (hG9:C.G<=9) (hmm :∀m,r.most=some m->m<=50/\r.least<=m) (hl50:r.least<=50) {wF:World} (hwF:wF=((w8.alloc (.cells #[.func (.func 114) #[] #[.pointer (some ⟨A + 1,0,none⟩),.pointer (some ⟨w8.heap.size + 1,0,none⟩),.pointer (some ⟨A + 1 + 1,0,none⟩)]] 219)).alloc (.cells #[.func (.func 109) #[] #[.pointer (some ⟨A + 1,0,none⟩),.pointer (some ⟨A,0,none⟩),.pointer (some ⟨w3.heap.size,0,none⟩),.pointer (some ⟨At,0,none⟩),.pointer (some ⟨w8.heap.size,0,none⟩)]] 219))) :
  Qo C bg tl mine k 1 (fun p=>bn (ZkM C.u.size r X p) W) (some b) w F Fr (.returned (.func (.func 115) #[] #[.pointer (some ⟨A,0,none⟩),.pointer (some ⟨w3.heap.size,0,none⟩),.pointer (some ⟨A + 1,0,none⟩),.pointer (some ⟨w8.heap.size,0,none⟩)])) wF/\At4 wF S (r.least:Int) (Zaa r) r.lazy ty y:=by
 obtain ⟨R,F7,Fr7,hRok,hR7,hat,l47,hF7,hF47,hF67,hFr7,k47,hFb7⟩:=hM.ex;have hfb3:=hI.inn.fb;have hs34:=k4.size;have hsJ:w3.heap.size < w4.heap.size:=bJ.lt;have hs78:=k8.size;have l34:Lat w3 F w4 (fun i=>F i\/(w3.heap.size < i/\i < w4.heap.size)):=⟨k4.mono (fun _ _ h=>h.elim),fun i hi=>hi.imp id (fun h=>by omega)⟩;have kF:Za N0_ w8 wF:=by rw [hwF]; exact ((Za.refl _ _).alloc _).alloc _
 have bG:At1 wF w8.heap.size 219 (.func (.func 114) #[] #[.pointer (some ⟨A + 1,0,none⟩),.pointer (some ⟨w8.heap.size + 1,0,none⟩),.pointer (some ⟨A + 1 + 1,0,none⟩)]):=by rw [hwF]; exact Zbc w8 _ _
 have bH:At1 wF (w8.heap.size + 1) 219 (.func (.func 109) #[] #[.pointer (some ⟨A + 1,0,none⟩),.pointer (some ⟨A,0,none⟩),.pointer (some ⟨w3.heap.size,0,none⟩),.pointer (some ⟨At,0,none⟩),.pointer (some ⟨w8.heap.size,0,none⟩)]):=by rw [hwF]; exact Zbi w8 _ _
 clear hwF;obtain ⟨F8,hF8⟩ :∃F8:Bs2,F8=fun i=>F7 i/\¬ (w3.heap.size < i/\i < w4.heap.size)/\¬ (w5.heap.size<=i/\i < w6.heap.size):=⟨_,rfl⟩;have hAt7:At < w7.heap.size->F7 At:=fun h=>by
  rcases hAt with h1 | h1 | h1
  ·exact hF47 At (Or.inr h1)
  ·exact hF67 At h1.1 h1.2
  ·omega
 have hAt8:¬ F8 At:=fun h=>by
  rw [hF8] at h
  rcases hAt with h1 | h1 | h1
  ·exact h.2.1 h1
  ·exact h.2.2 h1
  ·have:=hFb7 At h.1; omega
 have hAtr:¬ Fr7 At:=fun h=>by
  obtain ⟨h1,h2⟩:=hFr7 At h
  rcases hAt with h3 | h3 | h3
  ·omega
  ·exact h2 h3
  ·have:=(hRok.lt hR7 At h).2; omega
 have k7F:Za (fun i=>i=At) w7 wF:=k8.trans (kF.mono (fun _ _ h=>h.elim));have l7F:Lat w7 F7 wF F8:=⟨k7F.mono (fun i hi e=>by subst e; exact hAt7 hi),fun i hi=>by rw [hF8] at hi; exact Or.inl hi.1⟩;have l3F:Lat w3 F wF F8:=(l34.trans l47).trans l7F;have hRF:R wF F8 Fr7:=hRok.frame hR7 l7F (fun i hi=>by
  rw [hF8];obtain ⟨h1,h2⟩:=hFr7 i hi;exact ⟨(hRok.lt hR7 i hi).1,fun h=>by omega,h2⟩) (fun i hi=>k7F.block i (hRok.lt hR7 i hi).2 (fun e=>hAtr (e ▸ hi)))
 have hlt1:=hI.inn.resOk.lt hI.inn.res;have k3F:Za N0_ w3 wF:=((k4.trans k47).trans' k7F (fun i hi e=>by rcases hAt with h1 | h1 | h1 <;> omega)).mono (fun _ _ h=>h)
 have hF83 :∀i,i < w3.heap.size->F i->F8 i:=fun i hi h=>by
  rw [hF8];exact ⟨hF47 i (Or.inl h),fun h2=>by omega,fun h2=>by omega⟩
 have hresF:=hI.inn.resOk.frame hI.inn.res l3F (fun i hi=>hF83 i (hlt1 i hi).2 (hlt1 i hi).1) (fun i hi=>k3F.block i (hlt1 i hi).2 id);have hdis :∀i,Fr1 i->¬ Fr7 i:=fun i h1 h2=>by have:=(hlt1 i h1).2; have:=(hFr7 i h2).1; omega
 have hFbF:Fb wF F8:=fun i hi=>by rw [hF8] at hi; exact Nat.lt_of_lt_of_le (hFb7 i hi.1) k7F.size
 have hbig :∀i,w8.heap.size<=i->¬ F8 i:=fun i hi h=>by rw [hF8] at h; have:=hFb7 i h.1; omega
 have hnotJ:¬ F8 w3.heap.size:=fun h=>by
  rw [hF8] at h
  rcases hF7 _ h.1 with h1 | h1 | h1
  ·rcases h1 with h1 | h1
   ·have:=hfb3 _ h1; omega
   ·omega
  ·have:=(hFr7 _ h1).1; omega
  ·omega
 have bJF:At1 wF w3.heap.size 3 (.int .i64 ((k + 1:Nat):Int)):=by
  refine At1.keeps (bJ.keeps k47 id) k7F (fun e=>?_)
  rcases hAt with h1 | h1 | h1 <;> omega
 have bAtF:At1 wF At 217 (.func (.func fat) #[] capat):=bAt.keeps kF id;have hRp:RpI C wF F8 ⟨A,w3.heap.size,A + 1,At,w8.heap.size,w8.heap.size + 1,A + 2⟩ (k + 1) r ty y (.func (.func fat) #[] capat) (.func (.func fn) #[] cap) :=
  ⟨hI.a.later l3F,⟨bJF.cell,hnotJ,bJF.lt⟩,hI.n.later l3F,⟨bAtF.cell,hAt8,bAtF.lt⟩,⟨bG.cell,hbig _ (Nat.le_refl _),bG.lt⟩,⟨bH.cell,hbig _ (Nat.le_succ _),bH.lt⟩,hI.c.later l3F⟩
 have hj:¬ b.has (k + 1):=fun h=>by have:=hlid b rfl _ h; omega
 have hnx:=(hI.inn.st.later l3F).mine (mine':=R :: mine) (fun Q hQ=>List.mem_cons.2 (Or.inr hQ));have hst:=ZnH (R:=R) hX.rng hu hj hmm hl50 hG9 (fun p hp=>by have:=ZgV hX hp; omega) hRp (hat.later l7F) (List.mem_cons.2 (Or.inl rfl)) hnx;refine ⟨⟨_,some (Zbg C.u.size (k + 1) X r W b),[R],k + 1,F8,fun i=>Fr7 i\/Fr1 i,rfl,⟨hFbF,fun Q hQ=>?_,?_,hst,ZkN hlid,(fun h=>by cases h),hI.inn.nn.later l3F⟩,?_,by omega,by omega,fun c hc=>⟨_,rfl,by cases hc; exact ZnJ hj⟩⟩,(hI.s.later l3F).1⟩
 ·rcases List.mem_cons.1 hQ with rfl | hQ
  ·exact hRok
  ·exact hI.inn.ok Q hQ
 ·exact Zy ⟨Fr7,Fr1,fun i=>Iff.rfl,fun i h1 h2=>hdis i h2 h1,hRF,hresF⟩
 ·refine hI.t.trans ⟨k3F.mono (fun _ _ h=>h.elim),fun i hi=>?_,fun i hi=>?_,fun i hs hi _=>hF83 i hs hi,fun i hi=>?_⟩
  ·rcases hi with h | h
   ·exact Or.inr (by have:=(hFr7 i h).1; omega)
   ·exact Or.inl h
  ·rw [hF8] at hi
   rcases hF7 i hi.1 with h | h | h
   ·rcases h with h | h
    ·by_cases h1:Fr1 i
     ·exact Or.inr (Or.inr h1)
     ·exact Or.inl ⟨h,h1⟩
    ·exact absurd h hi.2.1
   ·exact Or.inr (Or.inl h)
   ·exact absurd h hi.2.2
  ·rcases hi with h | h
   ·exact (hRok.lt hRF i h).1
   ·exact hF83 i (hlt1 i h).2 (hlt1 i h).1
theorem Zmr {w0:World} {F0:Bs2} {v:Value} {f:Pf} (a b:Int) (lz:Bool) (hm:Zdz w0 F0 v f):ZbX w0 F0 (.iface 179 (.agg #[.int .i64 a,.int .i64 b,.bool lz,v])) (Z9 a b lz f):=by
 intro pre lo hi C w F Fr bg tl mine k nx W B l h hfp hG hG9 hu hk;obtain ⟨fn,cap,hfe⟩:=h.st.form;subst hfe;obtain ⟨⟨ha0,ha50,hab,hb50⟩,hfp2⟩:=Zr7 hfp;obtain ⟨⟨ty,y,rfl⟩,hful,hbc⟩:=id hm;have hlen :∀a b lz,(Z9 a b lz f pre.length).length=(f pre.length).length + 1:=fun _ _ _=>by simp [Z9]
 rw [hlen] at hk;rw [Zks C.u pre a b lz f hful];obtain ⟨r,hr⟩ :∃r:Rp,r = { least:=a.toNat,most:=if b < 0 then none else some b.toNat,lazy:=lz }:=⟨_,rfl⟩;rw [<- hr];have e1:a=(r.least:Int):=by rw [hr]; show a=((a.toNat:Nat):Int); omega
 have e2:b=Zaa r:=by
  rw [hr];unfold Zaa
  by_cases hb:b < 0
  ·simp [hb]; omega
  ·simp [hb]; omega
 have e3:lz=r.lazy:=by rw [hr]
 have hmm :∀m,r.most=some m->m<=50/\r.least<=m:=fun m h=>by
  rw [hr] at h ⊢;simp only at h ⊢
  split at h
  ·simp at h
  ·simp at h; omega
 have hl50:r.least<=50:=by omega
 rw [e1,e2,e3];clear hr;have hX:=Zjz C.u hfp2;have hXlt:C.X < w.heap.size:=h.se.lt;have hbn:=ZdU (W:=W) h.lid;have hbl:=ZdT (W:=W) h.lid;obtain ⟨an,cn,hnn⟩ :∃an cn,C.nn = .slice an C.G cn:=by obtain ⟨an,cn,h1,_⟩:=h.nn; exact ⟨an,cn,by simpa [noS] using h1⟩
 refine Zns (R:=fun fn2 cap2 w2=>ZO C bg tl mine (k + 1) (.func (.func fn2) #[] cap2) W (some (Qy (k + 1) W B)) w2 F Fr/\Trn w F Fr w2 F Fr) (fun w1 k1 hc1=>?_) ?_
 ·obtain ⟨h1,t1⟩:=h.same k1;refine (Zeg h1 (by omega) hu).mono ?_;rintro e w2 ⟨fn2,cap2,rfl,g1,g2,g3⟩;exact ⟨fn2,cap2,rfl,⟨g1,t1.trans g2⟩,Zrg hc1 g3 (by omega)⟩
 ·rintro fn2 cap2 w1 w2 ⟨g1,g2⟩ k2 hc2;obtain ⟨g1',t2⟩:=g1.same k2;have tw:=g2.trans t2;have lw:Lat w F w2 F:=tw.lat h.inn;have hS2:ZsN w2 F w.heap.size (r.least:Int) (Zaa r) r.lazy ty y:=⟨hc2,h.new (Nat.le_refl _),Zhq hc2.1⟩;have hX2:C.X < w2.heap.size:=g1'.se.lt;refine Zqp (u:=C.u) (an:=an) (G:=C.G) (cn:=cn) (j:=((k + 1 + 1:Nat):Int))
   (R1:=fun w3=>Zpy C bg tl mine (k + 1 + 1) fn2 cap2 W (Qy (k + 1) W B) r ty y w F Fr Fr w.heap.size w2.heap.size w3)
   (R2:=fun X2 w3 w4 w5=>Zpy C bg tl mine (k + 1 + 1) fn2 cap2 W (Qy (k + 1) W B) r ty y w F Fr Fr w.heap.size w2.heap.size w3/\Za N0_ w3 w4/\At1 w4 w3.heap.size 3 (.int .i64 ((k + 1 + 1:Nat):Int))/\Fb w4 (fun i=>F i\/(w3.heap.size < i/\i < w4.heap.size))/\Zrw C.u C.G (smx C.u pre f) w4 (fun i=>F i\/(w3.heap.size < i/\i < w4.heap.size)) X2 w5)
   (R3:=fun fat capat w3 w4 w5 w6 w7=>Zpy C bg tl mine (k + 1 + 1) fn2 cap2 W (Qy (k + 1) W B) r ty y w F Fr Fr w.heap.size w2.heap.size w3/\Za N0_ w3 w4/\At1 w4 w3.heap.size 3 (.int .i64 ((k + 1 + 1:Nat):Int))/\Zfj C (smx C.u pre f) w4 (fun i=>F i\/(w3.heap.size < i/\i < w4.heap.size)) w5 w6 w7 (.func (.func fat) #[] capat)/\w4.heap.size<=w5.heap.size/\w5.heap.size<=w6.heap.size/\w6.heap.size<=w7.heap.size)
   ?_ ?_ ?_ ?_
  ·intro w3 k3 hb3;obtain ⟨g3,t3⟩:=g1'.same k3;refine (ZfW g3.se (by omega) (by omega)).mono ?_;rintro e w4 ⟨rfl,hS4,kk⟩;obtain ⟨g4,t4⟩:=g3.joint (k':=k + 1 + 1) (by push_cast; exact hS4) kk (by omega);have b1:=hb3.a.keeps kk (by omega);have b2:w4.heap[w2.heap.size + 1]? = some (.cells #[.int .i64 (r.least:Int),.int .i64 (Zaa r),.bool r.lazy,.iface ty y] 179 (0,0)):=(kk.block _ (lt_of_block hb3.n) (by omega)).trans hb3.n;have b3:=hb3.c.keeps kk (by omega);have hn1 :∀i,w2.heap.size<=i->¬ F i:=fun i hi=>g1'.new hi;have l4:Lat w2 F w4 F:=(Lat.ofKeeps k3).trans (t4.lat g3.inn);refine ⟨by push_cast; rfl,⟨g4,(tw.trans t3).trans t4,⟨b1.cell,hn1 _ (Nat.le_refl _),b1.lt⟩,⟨b2,hn1 _ (by omega)⟩,⟨b3.cell,hn1 _ (by omega),b3.lt⟩,hS2.later l4⟩,⟨b1,b2,b3⟩,g4.se.c0,?_⟩
   have:=g4.se.c1
   rw [hnn] at this;exact this
  ·intro w3 w4 hI k4 bJ;have hfb:Fb w4 (fun i=>F i\/(w3.heap.size < i/\i < w4.heap.size)):=fun i hi=>hi.elim (fun h1=>Nat.lt_of_lt_of_le (hI.inn.fb i h1) k4.size) And.right;have l4:Lat w3 F w4 (fun i=>F i\/(w3.heap.size < i/\i < w4.heap.size)):=⟨k4.mono (fun _ _ h=>h.elim),fun i hi=>hi.imp id (fun h1=>by omega)⟩;refine (ZbK hm (u:=C.u) (G:=C.G) (pre:=pre) ((l.trans (hI.t.lat h.inn)).trans l4) hfb hfp2 hG hG9 hu (by omega)).mono ?_;rintro e w5 ⟨X2,rfl,hMd⟩;exact ⟨X2,rfl,⟨hI,k4,bJ,hfb,hMd⟩,Za8 hMd⟩
  ·rintro X2 w3 w4 w5 w6 ⟨hI,k4,bJ,hfb,hMd⟩ k6;have hs45:=(Za8 hMd).size;refine (ZmD hMd hfb k6 hu hX).mono ?_;rintro e w7 ⟨fat,capat,rfl,hAm,k7⟩;exact ⟨fat,capat,rfl,⟨hI,k4,bJ,hAm,hs45,k6.size,k7.size⟩,k7⟩
  ·rintro fat capat w3 w4 w5 w6 w7 w8 At ⟨hI,k4,bJ,hAm,hs45,hs56,hs67⟩ hAt k8 bAt;have hk1:(k + 1) + 1=k + 1 + 1:=rfl;obtain ⟨p1,p2⟩:=ZnI (k:=k + 1) hI hbl k4 bJ hAm hs45 hs56 hs67 hAt k8 bAt hX hu hG9 hmm hl50 rfl;refine ⟨⟨_,_,rfl,?_⟩,p2⟩;obtain ⟨fv,B',new,k',F',Fr',q1,q2,q3,q4,q5,q6⟩:=p1;exact ⟨fv,B',new,k',F',Fr',q1,q2,q3,by omega,by rw [hlen]; omega,hbn.trans q6⟩
theorem Zmv {w0:World} {F0 D:Bs2} (hD0 :∀k,D k->¬ F0 k) {v:Value} {f:Pf} (h:Nd w0 D v f):Zdz w0 F0 v f :=
 h.ind (M:=fun v f=>Zdz w0 F0 v f) (fun S f hf=>⟨⟨_,_,rfl⟩,fun n=>by simp [Qv],Zmp hf⟩) ⟨⟨_,_,rfl⟩,fun n=>by simp [QN],Zhu⟩ ⟨⟨_,_,rfl⟩,fun n=>by simp [Zbh],Zmt⟩
  (fun v vs fs ho hD hl hn ih=>⟨⟨_,_,rfl⟩,fun n=>by simp [Jh],Zmq hD0 ho hD hl hn ih⟩)
  (fun v vs fs ho hD hl hn ih=>⟨⟨_,_,rfl⟩,fun n=>by simp [JW],Zmu hD0 ho hD hl hn ih⟩)
  (fun a f lo hi lz _ ih=>⟨⟨_,_,rfl⟩,fun n=>by simp [Z9],Zmr lo hi lz ih⟩)
  (fun a f num _ ih=>⟨⟨_,_,rfl⟩,fun n=>by simp [JT],Zms num ih⟩)
theorem Zb2 {s:ByteArray} {g:Nat} {f:Pf} (h:ZD s = .ok (g,f)):Fg 0 g f/\g<=9/\1<=(f 0).length/\(f 0).length<=400:=by
 unfold ZD at h
 split at h
 ·simp at h
 ·rename_i hs
  split at h
  ·simp at h
  ·rename_i f1 q1 g1 ha;have h1:=QD s 6 _ _ _ _ _ (Nat.zero_le _) (by omega) ha;have h2:=Zcy s 6 _ _ _ _ _ (Nat.zero_le _) (by omega) (by omega) ha
   split at h
   ·simp at h
   ·simp only [Except.ok.injEq,Prod.mk.injEq] at h;obtain ⟨e1,e2⟩:=h;subst e1 e2
    have:=h1.2.2.2 0
    exact ⟨h2.2,h1.2.2.1,this.2,by omega⟩
def wanted (s u:ByteArray) (p:Int):Bool:=(match ZD s with | .error _=>false | .ok _=>true) && decide (u.size<=200) && decide (0<=p) && decide (p<=u.size)
def ZiL (s u:ByteArray) (p:Int) (w:World) (F:Bs2) (e:Ending) (w':World):Prop :=
 (wanted s u p=false/\e = .returned (.pointer none)/\Za N0_ w w')\/
 (∃g f X2,wanted s u p=true/\ZD s = .ok (g,f)/\e = .returned (.pointer (some ⟨X2,0,none⟩))/\Zrw u g (smx u [] f) w F X2 w')
theorem Zav {w:World} {F:Bs2} {s u:ByteArray} {p:Int} (hFb:Fb w F) :
  Calls Tryz.prog 18 #[.string s,.string u,.int .i64 p] w (ZiL s u p w F):=by
 have hnil :∀w:World,(binOp BinOp.eql 85 .nilIface .nilIface).run Tryz.prog w = .ok (.bool true) w:=fun _=>by kernel_rfl
 have hnn :∀(t:TypeId) (y:Value) (w:World),(binOp BinOp.eql 85 (.iface t y) .nilIface).run Tryz.prog w = .ok (.bool false) w:=fun _ _ _=>by kernel_rfl
 have hT:=Znm (w:=w) s
 cases ht:ZD s with
 | error x =>
   have HP:Hid (∀w',Za N0_ w w'->ZiL s u p w F (.returned (.pointer none)) w'):=fun w' k=>Or.inl ⟨by simp [wanted,ht],rfl,k⟩;unfold Jc at hT;rw [ht] at hT;clear hFb ht;go_enter Tryz.func18,Tryz.ntmps18;go_wp2_with (go_at_call 35; refine hT.mono ?_; rintro e w2 ⟨rfl,hk⟩);go_ret;exact HP.out _ hk
 | ok gf =>
   obtain ⟨g,f⟩:=gf;obtain ⟨hfg,hg9,hf1,hf4⟩:=Zb2 ht;have hT2:Calls Tryz.prog 35 #[.string s] w (fun e w' =>∃t y,e = .returned (.tuple #[.iface t y,.int .i64 (g:Int),.int .i64 0])/\Hid (Nd w' (fun k=>w.heap.size<=k) (.iface t y) f)/\Za N0_ w w'):=by
    refine hT.mono ?_;unfold Jc;rw [ht];rintro e w' ⟨v,rfl,hN,hk⟩;obtain ⟨t,y,rfl⟩:=hN.iface;exact ⟨t,y,rfl,hN,hk⟩
   clear hT
   by_cases hw:wanted s u p=true
   ·have hw2:=hw;simp only [wanted,ht,Bool.true_and,Bool.and_eq_true,decide_eq_true_eq] at hw2;obtain ⟨⟨h1,h2⟩,h3⟩:=hw2;have HW:Hid (wanted s u p=true):=hw;have HT:Hid (ZD s = .ok (g,f)):=ht;have hz1:¬ (200:Int) < (u.size:Int):=by omega
    have hz2:¬ p < 0:=by omega
    have hz3:¬ (u.size:Int) < p:=by omega
    have HN:Hid (∀(w2:World) (t:TypeId) (y:Value),Za N0_ w w2->Nd w2 (fun k=>w.heap.size<=k) (.iface t y) f->Calls Tryz.prog 36 #[.string u,.int .i64 (g:Int),.iface t y] w2 (fun e w' =>∃X2,e = .returned (.pointer (some ⟨X2,0,none⟩))/\Hid (ZiL s u p w F (.returned (.pointer (some ⟨X2,0,none⟩))) w'))):=by
     intro w2 t y k2 hN;have hM:=Zmv (w0:=w2) (F0:=F) (D:=fun k=>w.heap.size<=k) (fun k hk h=>by have:=hFb k h; omega) hN;refine (ZbK hM (u:=u) (G:=g) (lo:=0) (hi:=g) (pre := []) (Lat.refl w2 F) (hFb.keeps k2) ⟨f,hfg,rfl⟩ (Nat.le_refl _) hg9 h1 (by simp; omega)).mono ?_;rintro e w3 ⟨X2,rfl,hMd⟩;refine ⟨X2,rfl,Or.inr ⟨g,f,X2,hw,ht,rfl,?_⟩⟩;obtain ⟨C,kk,bg,B,mine,F',Fr',q1,q2,q3,q4,q5,q6⟩:=hMd.ex;exact ⟨C,kk,bg,B,mine,F',Fr',q1,q2,q3,q4,(Trn.ofKeeps (fun _ h=>h.elim) k2).trans q5,q6⟩
    clear hw ht hFb hfg hf1 hf4 h1 h2 h3;go_enter Tryz.func18,Tryz.ntmps18;go_wp2_with (first
     | (go_at_call 35; refine hT2.mono ?_; rintro e w2 ⟨t,y,rfl,HNd,hk⟩; have hcall:=HN.out w2 t y hk HNd.out)
     | (go_at_call 36; refine hcall.mono ?_; rintro e w3 ⟨X2,rfl,HP⟩))
    all_goals go_ret
    all_goals exact HP.out
   ·have HP:Hid (∀w',Za N0_ w w'->ZiL s u p w F (.returned (.pointer none)) w'):=fun w' k=>Or.inl ⟨by simpa using hw,rfl,k⟩;have hc:(200:Int) < (u.size:Int)\/(¬ (200:Int) < (u.size:Int)/\p < 0)\/(¬ (200:Int) < (u.size:Int)/\¬ p < 0/\(u.size:Int) < p):=by
     simp only [wanted,ht,Bool.true_and,Bool.and_eq_true,decide_eq_true_eq] at hw;omega
    clear hw ht hFb hfg hf1 hf4
    rcases hc with h1 | ⟨h1,h2⟩ | ⟨h1,h2,h3⟩
    all_goals
     go_enter Tryz.func18,Tryz.ntmps18;go_wp2_with (go_at_call 35; refine hT2.mono ?_; rintro e w2 ⟨t,y,rfl,HNd,hk⟩);go_ret;exact HP.out _ hk
end Go.Proofs.YtfkflljplohhcaaGreatDoor
