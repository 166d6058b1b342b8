import Derived.Test.YthkmmeamplmnhaaGreatYo
import Derived.Stop.RegionWithIn
namespace Go.Proofs.YthkmmeamplmnhaaGreat
open Go.RowKit Go.Shelf
set_option linter.unusedVariables false
attribute [local go_sem] Oper.semAt_some
theorem step_appendIn_run {P:Program} {Fe:Fence} {nn:Nat} {ops:Array Oper} {o:Oper} {a:Act} {w:World} {K:Act→World→Prop} {Q:Exit→Act→World→Prop} {E:Prop}
  (hg:o.guard=none) (s x:Operand) (t ty:TypeId) (hop:o.op=Op.call { callee:=Callee.builtin Builtin.append,args:=#[s,x],argTypes:=#[t,t] }) (hty:o.type=ty)
  (v y v':Value) (w':World) (hs:a.eval s=v) (hx:a.eval x=y) (hrun:Sem.run P (Builtin.append_ #[t,t] ty #[v,y]) w = .ok v' w')
  (hK:K (a.put o.dst v') w') :
  if Region.wanted o (yielded ops a.tmps)=true then Oper.wpIn Fe nn P o a w K Q else E:=by
 have hw:Region.wanted o (yielded ops a.tmps)=true:=by simp [Region.wanted,hg]
 rw [if_pos hw]
 unfold Oper.wpIn
 refine ⟨?_,?_⟩
 ·simp [Oper.about,hop,resolve,Target.leads,Sem.run_pure]
 ·rw [Oper.semAt_plain Fe _ _ (by rw [hop]; intro c hc'; cases hc')]
  simp [execOp,hop,hty,resolve,invoke,builtin,hs,hx,hrun,Result.andThen]
  exact hK
theorem ap_gs (G:Nat) (e:Ef):ap e (noS G)=gsOf G e:=by
 apply List.ext_getElem?
 intro i
 by_cases hi:i < G
 ·rw [ap_noS_get e G i hi]
  simp only [gsOf,List.getElem?_map,List.getElem?_range hi,Option.map_some]
  cases e i <;> rfl
 ·rw [List.getElem?_eq_none (by rw [ap_len]; simp [noS]; omega),List.getElem?_eq_none (by rw [gsOf_len]; omega)]
def WaysP (s u:ByteArray) (p:Int) (w:World) (e:Ending) (w':World):Prop :=
 (wanted s u p=false∧e = .returned (.slice none 0 0)∧Keeps (fun _=>False) w w')∨
 ∃(g:Nat) (f:Pf) (q:Nat) (v:Value) (L:List Mm),wanted s u p=true∧treeRef s = .ok (g,f)∧p=(q:Int)∧e = .returned v∧L.map (·.1)=(smx u [] f q).map (mtOf g q)∧w'.ownsRow w.heap.size 29 4 v L.length (L.flatMap cell4)∧MwI w.heap.size w' (fun _=>False) L∧Keeps (fun _=>False) w w'
set_option maxHeartbeats 2000000 in
set_option maxRecDepth 100000 in
theorem ways_any {w:World} {s u:ByteArray} {p:Int}:Calls Tryz.prog 20 #[.string s,.string u,.int .i64 p] w (WaysP s u p w):=by
 have hpn :∀(a:Addr) (w:World),(binOp BinOp.eql 61 (.pointer (some a)) (.pointer none)).run Tryz.prog w = .ok (.bool false) w:=fun _ _=>by kernel_rfl
 have hpn0 :∀(w:World),(binOp BinOp.eql 61 (.pointer none) (.pointer none)).run Tryz.prog w = .ok (.bool true) w:=fun _=>by kernel_rfl
 have hfn :∀f,Fence.wide.fn f:=fun _=>trivial
 have hdp:Fence.wide.depth=none:=rfl
 have b1:At1 (w.alloc (.cells #[.int .i64 p] 3)) w.heap.size 3 (.int .i64 p):=heap_alloc_new _ _
 have k1:Keeps (fun _=>False) w (w.alloc (.cells #[.int .i64 p] 3)):=(Keeps.refl _ w).alloc _
 have hs1:=b1.lt
 have hsf:Calls Tryz.prog 33 #[.string s,.string u,.int .i64 p] (w.alloc (.cells #[.int .i64 p] 3)) _:=searchFor_any (F:=fun _=>False) (fun _ h=>h.elim)
 have c1:=b1.cell
 refine (callsIn_wide (n:=3)).1 ?_
 refine callsIn_of_wp_marks Tryz.func20 rfl trivial ?_
 simp only [Tryz.ntmps20,List.size_toArray,List.length_cons,List.length_nil,Nat.reduceAdd,Nat.reduceSub,Array.replicate_succ,Array.replicate_zero,List.push_toArray,List.append_toArray,List.nil_append,List.cons_append]
 by_cases hw:wanted s u p=true
 ·
  have hq :∃q:Nat,p=(q:Int)∧q≤u.size∧u.size≤200:=by
   simp only [wanted,Bool.and_eq_true,decide_eq_true_eq] at hw
   exact ⟨p.toNat,by omega,by omega,by omega⟩
  obtain ⟨q,rfl,hqu,hu⟩:=hq
  have hsf2:CallsIn Fence.wide 2 Tryz.prog 33 #[.string s,.string u,.int .i64 (q:Int)] (w.alloc (.cells #[.int .i64 (q:Int)] 3)) (fun e w2 =>∃X2,e = .returned (.pointer (some ⟨X2,0,none⟩))∧Hid (∃g f,treeRef s = .ok (g,f)∧Made u g (smx u [] f) (w.alloc (.cells #[.int .i64 (q:Int)] 3)) (fun _=>False) X2 w2)):=by
   refine callsIn_wide.2 (hsf.mono ?_)
   rintro e w2 (⟨h1,-⟩ | ⟨g,f,X2,h1,h2,rfl,h3⟩)
   ·rw [hw] at h1; cases h1
   ·exact ⟨X2,rfl,g,f,h2,h3⟩
  have HE:Hid (∀(X2:Nat) (w3:World),CallsIn Fence.wide 2 Tryz.prog 44 #[.pointer (some ⟨X2,0,none⟩),.int .i64 (q:Int)] w3 (fun e w'=>e = .returned (.func (.func 64) #[] #[.pointer (some ⟨w3.heap.size,0,none⟩),.pointer (some ⟨w3.heap.size + 1,0,none⟩)])∧At1 w' w3.heap.size 61 (.pointer (some ⟨X2,0,none⟩))∧At1 w' (w3.heap.size + 1) 3 (.int .i64 (q:Int))∧Keeps (fun _=>False) w3 w')):=fun X2 w3=>callsIn_wide.2 (ends_any (C:=⟨X2,0,u,.nilFunc,0⟩) (p:=(q:Int)))
  clear hsf hpn0
  gi_wp2_with (first
   | (gi_at_call 33; refine hsf2.mono ?_; rintro e w2 ⟨X2,rfl,HM⟩; have k12:Keeps (fun _=>False) (w.alloc (.cells #[.int .i64 (q:Int)] 3)) w2:=(by obtain ⟨g,f,ht,hMd⟩:=HM.out; exact made_keeps hMd); have c3:=cell_keeps c1 (k12.alloc (.cells #[.slice none 0 0] 25)))
   | (gi_at_call 44; refine (HE.out X2 _).mono ?_; rintro e w4 ⟨rfl,bA,bP,k4⟩))
  obtain ⟨g,f,ht,hMd⟩:=HM.out
  obtain ⟨C,kk,bg,B,mine,F',Fr',hCX,hCu,hCG,hres,hT,hS⟩:=hMd.ex
  subst hCX
  obtain ⟨hfg,hg9,hf1,hf4⟩:=tree_fg ht
  have hX:OkX C.u.size 0 g (smx u [] f):=by rw [hCu]; exact fp_ok u ⟨f,hfg,rfl⟩
  have hok:=se_ok (C:=C) (ρ:=⟨(kk:Int),bg,[]⟩) (tl:=.nilFunc) (T:=tno) hS.ok
  have hlt:=hok.lt hres
  have hs12:=k12.size
  have hF' :∀i,F' i→Fr' i∧(w.alloc (.cells #[.int .i64 (q:Int)] 3)).heap.size≤i∧i < w2.heap.size:=fun i hi=>by
   rcases hT.out i hi with h | h
   ·exact h.1.elim
   ·rcases hT.fresh i h with h2 | h2
    ·exact h2.elim
    ·exact ⟨h,h2,(hlt i h).2⟩
  have k23:Keeps (fun _=>False) w2 (w2.alloc (.cells #[.slice none 0 0] 25)):=(Keeps.refl _ _).alloc _
  have bS:At1 (w2.alloc (.cells #[.slice none 0 0] 25)) w2.heap.size 25 (.slice none 0 0):=heap_alloc_new _ _
  have hsS:=bS.lt
  simp only [World.size_alloc] at bA bP hsS
  have k24:=k23.trans k4
  have hs34:=k4.size
  simp only [World.size_alloc] at hs34
  have bS4:=bS.keeps k4 (fun h=>h)
  have l24:Lat w2 F' w4 (fun i=>F' i∨i=w2.heap.size):=⟨k24.mono (fun _ _ h=>h.elim),fun i hi=>hi.imp id (fun e=>by omega)⟩
  have hres4:=hok.frame hres l24 (fun i hi=>Or.inl (hlt i hi).1) (fun i hi=>k24.block i (hlt i hi).2 (fun h=>h))
  have hnot :∀i,i < (w.alloc (.cells #[.int .i64 (q:Int)] 3)).heap.size∨w2.heap.size < i→¬ (F' i∨i=w2.heap.size):=fun i hi h=>by
   rcases h with h | h
   ·have:=hF' i h; omega
   ·omega
  have hMch:MchR w2.heap.size w.heap.size w.heap.size (q:Int) [] w4 (fun i=>F' i∨i=w2.heap.size) (fun i=>i=w2.heap.size) :=
   ⟨_,[],bS4,rfl,World.ownsRow_nil _ _ _ _,⟨by simp,by simp⟩,fun i=>by simp [Value.ownBlock],fun i hi=>Or.inr hi,by simp [Value.ownBlock],⟨cell_keeps c3 k4,hnot _ (Or.inl hs1),by omega⟩⟩
  have hR4:starL (SeR C ⟨(kk:Int),bg,[]⟩ .nilFunc tno :: MchR w2.heap.size w.heap.size w.heap.size (q:Int) [] :: mine) w4 (fun i=>F' i∨i=w2.heap.size) (fun i=>i=w2.heap.size∨Fr' i):=starL_perm (starL_new hok hres4 (fun h=>by have:=(hlt _ h).2; omega) (Or.inr rfl) hMch)
  have hFb4:Fb w4 (fun i=>F' i∨i=w2.heap.size):=fun i hi=>by
   rcases hi with h | h
   ·have:=(hF' i h).2.2; omega
   ·omega
  have hS4:Srch C w4 (fun i=>F' i∨i=w2.heap.size) bg (smx u [] f) B mine:=hS.later l24
  have hk04:Keeps (fun _=>False) w w4:=(k1.trans k12).trans k24
  clear hMch hres4 hS hMd HM
  refine range_ends (cap:=1000) (c:=none) (ρ:=⟨(kk:Int),bg,[]⟩) (p:=q) (X:=smx u [] f) (U:=MchR w2.heap.size w.heap.size w.heap.size (q:Int)) (fun out=>mchR_ok _ _ _ _ out) rfl ?round rfl hS4 ⟨bA,hnot _ (Or.inr (by omega))⟩ ⟨bP,hnot _ (Or.inr (by omega))⟩ hFb4 hR4 (by rw [hCu]; exact hqu) pre_no (Nat.le_trans (tln_tell hX (by rw [hCu]; exact hqu) _) (by rw [hCu]; simp; omega)) ?done
  case round =>
   clear hS4 bA bP hFb4 hR4 hF' hlt hok hT hres bS4 bS l24 hnot c3 c1 b1 hsf2 HE
   intro l w5 F5 Fu out q' gv gs hFb5 hU hsp hgl hq' hn hF5l hll hnl
   obtain ⟨ag,ng,cg,hgv⟩ :∃ag ng cg,gv = .slice ag ng cg:=by obtain ⟨a,c,h,_⟩:=hsp; exact ⟨a,_,c,h⟩
   subst hgv
   have hgs:gs.length≤1000:=by rw [hgl,hCG]; omega
   have HB:Hid (w.heap.size≤w5.heap.size):=(by obtain ⟨v,L,e1,e2,e3,e4,e5,e6,e7,e8⟩:=hU; have:=e8.2.2; exact Nat.le_of_lt this)
   clear hgl
   refine ⟨fun a1 w6=>w6.heap[w5.heap.size]? = some (.cells #[.int .i64 (q':Int),.slice ag ng cg] 83 (0,0))∧a1 = { tmps:=#[.string s,.string u,.int .i64 (q:Int),undef,undef,.pointer (some ⟨w.heap.size,0,none⟩),.slice none 0 0,.pointer (some ⟨C.X,0,none⟩),.pointer (some ⟨w2.heap.size,0,none⟩),.pointer (some ⟨w5.heap.size,0,none⟩),.string s,.string u,.int .i64 (q:Int),.pointer (some ⟨C.X,0,none⟩),.pointer (some ⟨C.X,0,none⟩),.bool false,.pointer (some ⟨C.X,0,none⟩),.int .i64 (q:Int),.func (.func 64) #[] #[.pointer (some ⟨w2.heap.size + 1,0,none⟩),.pointer (some ⟨w2.heap.size + 1 + 1,0,none⟩)],.agg #[.int .i64 (q':Int),.slice ag ng cg],undef,undef,undef,undef,undef,undef,undef],defers := [] },?_,?_⟩
   ·have HK:Hid (Keeps (fun _=>False) w5 (w5.alloc (.cells #[.int .i64 (q':Int),.slice ag ng cg] 83))):=(Keeps.refl _ _).alloc _
    have HA:Hid ((w5.alloc (.cells #[.int .i64 (q':Int),.slice ag ng cg] 83)).heap[w5.heap.size]? = some (.cells #[.int .i64 (q':Int),.slice ag ng cg] 83 (0,0))):=heap_alloc_new _ _
    clear hU hsp
    gi_wp2
    exact ⟨HK.out,HA.out,by first | trivial | rfl⟩
   ·rintro a1 w6 w7 k6 ⟨hb,rfl⟩ k7 ⟨v,L,e1,e2,e3,e4,e5,e6,e7,e8⟩
    have hb7:w7.heap[w5.heap.size]? = some (.cells #[.int .i64 (q':Int),.slice ag ng cg] 83 (0,0)):=by rw [k7.block _ (lt_of_block hb) (by omega)]; exact hb
    have l57:Lat w5 F5 w7 F5:=(Lat.ofKeeps k6).trans ⟨k7.mono (fun k _ e=>e ▸ hF5l),fun k h=>Or.inl h⟩
    have kd:Keeps (fun _=>False) w7 w7.drew:=(Keeps.refl _ _).drew
    have hFb7:Fb w7 F5:=(hFb5.keeps k6).keeps k7
    have hsp7:=(hsp.later l57).later (Lat.ofKeeps (F:=F5) kd)
    have hmo:CallsIn (Fence.wide.inRound l) 0 Tryz.prog 45 #[.int .i64 (q:Int),.agg #[.int .i64 (q':Int),.slice ag ng cg]] w7.drew _:=CallsIn.inRound l ((callsIn_wide (n:=0)).2 (matchOf_any (p:=(q:Int)) (q:=(q':Int)) hsp7 hgs))
    obtain ⟨ao,m,cap,hvf⟩ :∃ao m cap,v = .slice ao m cap:=by obtain ⟨ao,cap,h⟩:=own_form e3; exact ⟨_,_,_,h⟩
    have d0:w7.drew.cell? ⟨w2.heap.size,0,none⟩=some v:=e1.cell
    have d1:w7.drew.cell? ⟨w.heap.size,0,none⟩=some (.int .i64 (q:Int)):=e8.1
    have d2:w7.drew.cell? ⟨w5.heap.size,0,none⟩=some (.int .i64 (q':Int)):=by rw [cell_of (w:=w7.drew) hb7]; rfl
    have d3:w7.drew.cell? ⟨w5.heap.size,1,none⟩=some (.slice ag ng cg):=by rw [cell_of (w:=w7.drew) hb7]; rfl
    have HA:Hid (∀(w8:World) (a:Option Addr) (n c:Nat),Keeps (fun _=>False) w7.drew w8→w8.ownsRow w7.drew.heap.size 31 2 (.slice a n c) gs.length (flatR gs)→∃ao' n' c' w9,Sem.run Tryz.prog (Builtin.append_ #[25,25] 25 #[.slice ao m cap,.slice (some ⟨w8.heap.size,0,none⟩) 1 1]) (w8.alloc (.cells #[.bool true,.int .i64 (q:Int),.int .i64 (q':Int),.slice a n c] 29)) = .ok (.slice ao' n' c') w9∧w8.cell? ⟨w2.heap.size,0,none⟩=some (.slice ao m cap)∧w9.cell? ⟨w2.heap.size,0,none⟩=some (.slice ao m cap)∧w9.frozen? ⟨w2.heap.size,0,none⟩=false∧Hid (∃F4 Fu4,MchR w2.heap.size w.heap.size w.heap.size (q:Int) (out ++ [(q',gs)]) (w9.setCell ⟨w2.heap.size,0,none⟩ (.slice ao' n' c')) F4 Fu4∧Trn w7 F5 Fu (w9.setCell ⟨w2.heap.size,0,none⟩ (.slice ao' n' c')) F4 Fu4)):=by
     intro w8 a n c k8 hrow
     have hB7:w.heap.size≤w7.heap.size:=Nat.le_trans HB.out (Nat.le_trans k6.size k7.size)
     obtain ⟨v',w9,hrun,⟨ao',n',c',rfl⟩,s1,s2,s3,hfin⟩:=mchR_add (q:=q') hFb7 hB7 e1 e2 e3 e4 e5 e6 e7 e8 (by simpa using hn) (kd.trans k8) hrow
     rw [hvf] at hrun s1 s2
     exact ⟨ao',n',c',w9,hrun,s1,s2,s3,hfin⟩
    rw [hvf] at d0
    clear e1 e2 e3 e4 e5 e6 e7 e8 hb7 l57 hFb7 hsp7 hb k6 k7 hU hsp hvf kd HB hgs hn
    gi_wp2
    refine wpIn_region_any (by kernel_rfl) ?_
    change wpAnyIn _ _ _ _ _ _ _ _ _ (World.drew _)
    refine wpAnyIn_ready (rs := [0,1,2]) (by kernel_rfl) (by simp) ?_
    refine AllReadyIn.cons rfl (fun K hK=>?_) ?_
    ·go_simp
     refine hK _ _ ?_
     clear hK K
     refine wpAnyIn_ready (rs := [1,2]) (by kernel_rfl) (by simp) ?_
     refine AllReadyIn.cons rfl (fun K hK=>?_) ?_
     ·go_simp
      refine hK _ _ ?_
      clear hK K
      refine wpAnyIn_ready (rs := [2]) (by kernel_rfl) (by simp) ?_
      refine AllReadyIn.cons rfl (fun K hK=>?_) ?_
      ·go_simp
       refine hK _ _ ?_
       clear hK K
       refine wpAnyIn_ready (rs := [3]) (by kernel_rfl) (by simp) ?_
       refine AllReadyIn.cons rfl (fun K hK=>?_) ?_
       ·go_simp
        gi_wp2_with (gi_at_call 45; refine hmo.mono ?_; rintro e w8 ⟨a,n,c,rfl,HO,hk8⟩; obtain ⟨ao',n',c',w9,hrun,s1,s2,s3,HF⟩:=HA.out w8 a n c hk8 HO.out; have s4:=cell_keeps s1 ((Keeps.refl (fun _=>False) w8).alloc (.cells #[.bool true,.int .i64 (q:Int),.int .i64 (q':Int),.slice a n c] 29)); have hst:(store ⟨w2.heap.size,0,none⟩ (.slice ao' n' c')).run Tryz.prog w9 = .ok () (w9.setCell ⟨w2.heap.size,0,none⟩ (.slice ao' n' c')):=(by rw [run_store _ _ _ _ _ rfl]; simp [s2,s3,go_sem]))
        refine wpAnyIn_ready (rs := [4]) (by kernel_rfl) (by simp) ?_
        refine AllReadyIn.cons rfl (fun K hK=>?_) ?_
        ·go_simp
         refine hK _ _ ?_
         clear hK K
         refine wpAnyIn_ready (rs := [5]) (by kernel_rfl) (by simp) ?_
         refine AllReadyIn.cons rfl (fun K hK=>?_) ?_
         ·refine step_appendIn_run rfl _ _ _ _ rfl rfl _ _ _ _ rfl rfl hrun ?_
          refine hK _ _ ?_
          clear hK K
          refine wpAnyIn_ready (rs := [6]) (by kernel_rfl) (by simp) ?_
          refine AllReadyIn.cons rfl (fun K hK=>?_) ?_
          ·go_simp
           refine hK _ _ ?_
           clear hK K
           refine wpAnyIn_done (by kernel_rfl) ?_ _
           exact ⟨rfl,HF.out⟩
          exact AllReadyIn.nil
         exact AllReadyIn.nil
        exact AllReadyIn.nil
       exact AllReadyIn.nil
      exact AllReadyIn.nil
     refine AllReadyIn.cons rfl (fun K hK=>?_) ?_
     ·go_simp
      refine hK _ _ ?_
      clear hK K
      refine wpAnyIn_ready (rs := [1]) (by kernel_rfl) (by simp) ?_
      refine AllReadyIn.cons rfl (fun K hK=>?_) ?_
      ·go_simp
       refine hK _ _ ?_
       clear hK K
       refine wpAnyIn_ready (rs := [3]) (by kernel_rfl) (by simp) ?_
       refine AllReadyIn.cons rfl (fun K hK=>?_) ?_
       ·go_simp
        gi_wp2_with (gi_at_call 45; refine hmo.mono ?_; rintro e w8 ⟨a,n,c,rfl,HO,hk8⟩; obtain ⟨ao',n',c',w9,hrun,s1,s2,s3,HF⟩:=HA.out w8 a n c hk8 HO.out; have s4:=cell_keeps s1 ((Keeps.refl (fun _=>False) w8).alloc (.cells #[.bool true,.int .i64 (q:Int),.int .i64 (q':Int),.slice a n c] 29)); have hst:(store ⟨w2.heap.size,0,none⟩ (.slice ao' n' c')).run Tryz.prog w9 = .ok () (w9.setCell ⟨w2.heap.size,0,none⟩ (.slice ao' n' c')):=(by rw [run_store _ _ _ _ _ rfl]; simp [s2,s3,go_sem]))
        refine wpAnyIn_ready (rs := [4]) (by kernel_rfl) (by simp) ?_
        refine AllReadyIn.cons rfl (fun K hK=>?_) ?_
        ·go_simp
         refine hK _ _ ?_
         clear hK K
         refine wpAnyIn_ready (rs := [5]) (by kernel_rfl) (by simp) ?_
         refine AllReadyIn.cons rfl (fun K hK=>?_) ?_
         ·refine step_appendIn_run rfl _ _ _ _ rfl rfl _ _ _ _ rfl rfl hrun ?_
          refine hK _ _ ?_
          clear hK K
          refine wpAnyIn_ready (rs := [6]) (by kernel_rfl) (by simp) ?_
          refine AllReadyIn.cons rfl (fun K hK=>?_) ?_
          ·go_simp
           refine hK _ _ ?_
           clear hK K
           refine wpAnyIn_done (by kernel_rfl) ?_ _
           exact ⟨rfl,HF.out⟩
          exact AllReadyIn.nil
         exact AllReadyIn.nil
        exact AllReadyIn.nil
       exact AllReadyIn.nil
      exact AllReadyIn.nil
     exact AllReadyIn.nil
    refine AllReadyIn.cons rfl (fun K hK=>?_) ?_
    ·go_simp
     refine hK _ _ ?_
     clear hK K
     refine wpAnyIn_ready (rs := [0,2]) (by kernel_rfl) (by simp) ?_
     refine AllReadyIn.cons rfl (fun K hK=>?_) ?_
     ·go_simp
      refine hK _ _ ?_
      clear hK K
      refine wpAnyIn_ready (rs := [2]) (by kernel_rfl) (by simp) ?_
      refine AllReadyIn.cons rfl (fun K hK=>?_) ?_
      ·go_simp
       refine hK _ _ ?_
       clear hK K
       refine wpAnyIn_ready (rs := [3]) (by kernel_rfl) (by simp) ?_
       refine AllReadyIn.cons rfl (fun K hK=>?_) ?_
       ·go_simp
        gi_wp2_with (gi_at_call 45; refine hmo.mono ?_; rintro e w8 ⟨a,n,c,rfl,HO,hk8⟩; obtain ⟨ao',n',c',w9,hrun,s1,s2,s3,HF⟩:=HA.out w8 a n c hk8 HO.out; have s4:=cell_keeps s1 ((Keeps.refl (fun _=>False) w8).alloc (.cells #[.bool true,.int .i64 (q:Int),.int .i64 (q':Int),.slice a n c] 29)); have hst:(store ⟨w2.heap.size,0,none⟩ (.slice ao' n' c')).run Tryz.prog w9 = .ok () (w9.setCell ⟨w2.heap.size,0,none⟩ (.slice ao' n' c')):=(by rw [run_store _ _ _ _ _ rfl]; simp [s2,s3,go_sem]))
        refine wpAnyIn_ready (rs := [4]) (by kernel_rfl) (by simp) ?_
        refine AllReadyIn.cons rfl (fun K hK=>?_) ?_
        ·go_simp
         refine hK _ _ ?_
         clear hK K
         refine wpAnyIn_ready (rs := [5]) (by kernel_rfl) (by simp) ?_
         refine AllReadyIn.cons rfl (fun K hK=>?_) ?_
         ·refine step_appendIn_run rfl _ _ _ _ rfl rfl _ _ _ _ rfl rfl hrun ?_
          refine hK _ _ ?_
          clear hK K
          refine wpAnyIn_ready (rs := [6]) (by kernel_rfl) (by simp) ?_
          refine AllReadyIn.cons rfl (fun K hK=>?_) ?_
          ·go_simp
           refine hK _ _ ?_
           clear hK K
           refine wpAnyIn_done (by kernel_rfl) ?_ _
           exact ⟨rfl,HF.out⟩
          exact AllReadyIn.nil
         exact AllReadyIn.nil
        exact AllReadyIn.nil
       exact AllReadyIn.nil
      exact AllReadyIn.nil
     refine AllReadyIn.cons rfl (fun K hK=>?_) ?_
     ·go_simp
      refine hK _ _ ?_
      clear hK K
      refine wpAnyIn_ready (rs := [0,3]) (by kernel_rfl) (by simp) ?_
      refine AllReadyIn.cons rfl (fun K hK=>?_) ?_
      ·go_simp
       refine hK _ _ ?_
       clear hK K
       refine wpAnyIn_ready (rs := [3]) (by kernel_rfl) (by simp) ?_
       refine AllReadyIn.cons rfl (fun K hK=>?_) ?_
       ·go_simp
        gi_wp2_with (gi_at_call 45; refine hmo.mono ?_; rintro e w8 ⟨a,n,c,rfl,HO,hk8⟩; obtain ⟨ao',n',c',w9,hrun,s1,s2,s3,HF⟩:=HA.out w8 a n c hk8 HO.out; have s4:=cell_keeps s1 ((Keeps.refl (fun _=>False) w8).alloc (.cells #[.bool true,.int .i64 (q:Int),.int .i64 (q':Int),.slice a n c] 29)); have hst:(store ⟨w2.heap.size,0,none⟩ (.slice ao' n' c')).run Tryz.prog w9 = .ok () (w9.setCell ⟨w2.heap.size,0,none⟩ (.slice ao' n' c')):=(by rw [run_store _ _ _ _ _ rfl]; simp [s2,s3,go_sem]))
        refine wpAnyIn_ready (rs := [4]) (by kernel_rfl) (by simp) ?_
        refine AllReadyIn.cons rfl (fun K hK=>?_) ?_
        ·go_simp
         refine hK _ _ ?_
         clear hK K
         refine wpAnyIn_ready (rs := [5]) (by kernel_rfl) (by simp) ?_
         refine AllReadyIn.cons rfl (fun K hK=>?_) ?_
         ·refine step_appendIn_run rfl _ _ _ _ rfl rfl _ _ _ _ rfl rfl hrun ?_
          refine hK _ _ ?_
          clear hK K
          refine wpAnyIn_ready (rs := [6]) (by kernel_rfl) (by simp) ?_
          refine AllReadyIn.cons rfl (fun K hK=>?_) ?_
          ·go_simp
           refine hK _ _ ?_
           clear hK K
           refine wpAnyIn_done (by kernel_rfl) ?_ _
           exact ⟨rfl,HF.out⟩
          exact AllReadyIn.nil
         exact AllReadyIn.nil
        exact AllReadyIn.nil
       exact AllReadyIn.nil
      refine AllReadyIn.cons rfl (fun K hK=>?_) ?_
      ·go_simp
       gi_wp2_with (gi_at_call 45; refine hmo.mono ?_; rintro e w8 ⟨a,n,c,rfl,HO,hk8⟩; obtain ⟨ao',n',c',w9,hrun,s1,s2,s3,HF⟩:=HA.out w8 a n c hk8 HO.out; have s4:=cell_keeps s1 ((Keeps.refl (fun _=>False) w8).alloc (.cells #[.bool true,.int .i64 (q:Int),.int .i64 (q':Int),.slice a n c] 29)); have hst:(store ⟨w2.heap.size,0,none⟩ (.slice ao' n' c')).run Tryz.prog w9 = .ok () (w9.setCell ⟨w2.heap.size,0,none⟩ (.slice ao' n' c')):=(by rw [run_store _ _ _ _ _ rfl]; simp [s2,s3,go_sem]))
       refine wpAnyIn_ready (rs := [0,4]) (by kernel_rfl) (by simp) ?_
       refine AllReadyIn.cons rfl (fun K hK=>?_) ?_
       ·go_simp
        refine hK _ _ ?_
        clear hK K
        refine wpAnyIn_ready (rs := [4]) (by kernel_rfl) (by simp) ?_
        refine AllReadyIn.cons rfl (fun K hK=>?_) ?_
        ·go_simp
         refine hK _ _ ?_
         clear hK K
         refine wpAnyIn_ready (rs := [5]) (by kernel_rfl) (by simp) ?_
         refine AllReadyIn.cons rfl (fun K hK=>?_) ?_
         ·refine step_appendIn_run rfl _ _ _ _ rfl rfl _ _ _ _ rfl rfl hrun ?_
          refine hK _ _ ?_
          clear hK K
          refine wpAnyIn_ready (rs := [6]) (by kernel_rfl) (by simp) ?_
          refine AllReadyIn.cons rfl (fun K hK=>?_) ?_
          ·go_simp
           refine hK _ _ ?_
           clear hK K
           refine wpAnyIn_done (by kernel_rfl) ?_ _
           exact ⟨rfl,HF.out⟩
          exact AllReadyIn.nil
         exact AllReadyIn.nil
        exact AllReadyIn.nil
       refine AllReadyIn.cons rfl (fun K hK=>?_) ?_
       ·go_simp
        refine hK _ _ ?_
        clear hK K
        refine wpAnyIn_ready (rs := [0]) (by kernel_rfl) (by simp) ?_
        refine AllReadyIn.cons rfl (fun K hK=>?_) ?_
        ·go_simp
         refine hK _ _ ?_
         clear hK K
         refine wpAnyIn_ready (rs := [5]) (by kernel_rfl) (by simp) ?_
         refine AllReadyIn.cons rfl (fun K hK=>?_) ?_
         ·refine step_appendIn_run rfl _ _ _ _ rfl rfl _ _ _ _ rfl rfl hrun ?_
          refine hK _ _ ?_
          clear hK K
          refine wpAnyIn_ready (rs := [6]) (by kernel_rfl) (by simp) ?_
          refine AllReadyIn.cons rfl (fun K hK=>?_) ?_
          ·go_simp
           refine hK _ _ ?_
           clear hK K
           refine wpAnyIn_done (by kernel_rfl) ?_ _
           exact ⟨rfl,HF.out⟩
          exact AllReadyIn.nil
         exact AllReadyIn.nil
        exact AllReadyIn.nil
       exact AllReadyIn.nil
      exact AllReadyIn.nil
     exact AllReadyIn.nil
    refine AllReadyIn.cons rfl (fun K hK=>?_) ?_
    ·go_simp
     refine hK _ _ ?_
     clear hK K
     refine wpAnyIn_ready (rs := [0,1]) (by kernel_rfl) (by simp) ?_
     refine AllReadyIn.cons rfl (fun K hK=>?_) ?_
     ·go_simp
      refine hK _ _ ?_
      clear hK K
      refine wpAnyIn_ready (rs := [1]) (by kernel_rfl) (by simp) ?_
      refine AllReadyIn.cons rfl (fun K hK=>?_) ?_
      ·go_simp
       refine hK _ _ ?_
       clear hK K
       refine wpAnyIn_ready (rs := [3]) (by kernel_rfl) (by simp) ?_
       refine AllReadyIn.cons rfl (fun K hK=>?_) ?_
       ·go_simp
        gi_wp2_with (gi_at_call 45; refine hmo.mono ?_; rintro e w8 ⟨a,n,c,rfl,HO,hk8⟩; obtain ⟨ao',n',c',w9,hrun,s1,s2,s3,HF⟩:=HA.out w8 a n c hk8 HO.out; have s4:=cell_keeps s1 ((Keeps.refl (fun _=>False) w8).alloc (.cells #[.bool true,.int .i64 (q:Int),.int .i64 (q':Int),.slice a n c] 29)); have hst:(store ⟨w2.heap.size,0,none⟩ (.slice ao' n' c')).run Tryz.prog w9 = .ok () (w9.setCell ⟨w2.heap.size,0,none⟩ (.slice ao' n' c')):=(by rw [run_store _ _ _ _ _ rfl]; simp [s2,s3,go_sem]))
        refine wpAnyIn_ready (rs := [4]) (by kernel_rfl) (by simp) ?_
        refine AllReadyIn.cons rfl (fun K hK=>?_) ?_
        ·go_simp
         refine hK _ _ ?_
         clear hK K
         refine wpAnyIn_ready (rs := [5]) (by kernel_rfl) (by simp) ?_
         refine AllReadyIn.cons rfl (fun K hK=>?_) ?_
         ·refine step_appendIn_run rfl _ _ _ _ rfl rfl _ _ _ _ rfl rfl hrun ?_
          refine hK _ _ ?_
          clear hK K
          refine wpAnyIn_ready (rs := [6]) (by kernel_rfl) (by simp) ?_
          refine AllReadyIn.cons rfl (fun K hK=>?_) ?_
          ·go_simp
           refine hK _ _ ?_
           clear hK K
           refine wpAnyIn_done (by kernel_rfl) ?_ _
           exact ⟨rfl,HF.out⟩
          exact AllReadyIn.nil
         exact AllReadyIn.nil
        exact AllReadyIn.nil
       exact AllReadyIn.nil
      exact AllReadyIn.nil
     refine AllReadyIn.cons rfl (fun K hK=>?_) ?_
     ·go_simp
      refine hK _ _ ?_
      clear hK K
      refine wpAnyIn_ready (rs := [0,3]) (by kernel_rfl) (by simp) ?_
      refine AllReadyIn.cons rfl (fun K hK=>?_) ?_
      ·go_simp
       refine hK _ _ ?_
       clear hK K
       refine wpAnyIn_ready (rs := [3]) (by kernel_rfl) (by simp) ?_
       refine AllReadyIn.cons rfl (fun K hK=>?_) ?_
       ·go_simp
        gi_wp2_with (gi_at_call 45; refine hmo.mono ?_; rintro e w8 ⟨a,n,c,rfl,HO,hk8⟩; obtain ⟨ao',n',c',w9,hrun,s1,s2,s3,HF⟩:=HA.out w8 a n c hk8 HO.out; have s4:=cell_keeps s1 ((Keeps.refl (fun _=>False) w8).alloc (.cells #[.bool true,.int .i64 (q:Int),.int .i64 (q':Int),.slice a n c] 29)); have hst:(store ⟨w2.heap.size,0,none⟩ (.slice ao' n' c')).run Tryz.prog w9 = .ok () (w9.setCell ⟨w2.heap.size,0,none⟩ (.slice ao' n' c')):=(by rw [run_store _ _ _ _ _ rfl]; simp [s2,s3,go_sem]))
        refine wpAnyIn_ready (rs := [4]) (by kernel_rfl) (by simp) ?_
        refine AllReadyIn.cons rfl (fun K hK=>?_) ?_
        ·go_simp
         refine hK _ _ ?_
         clear hK K
         refine wpAnyIn_ready (rs := [5]) (by kernel_rfl) (by simp) ?_
         refine AllReadyIn.cons rfl (fun K hK=>?_) ?_
         ·refine step_appendIn_run rfl _ _ _ _ rfl rfl _ _ _ _ rfl rfl hrun ?_
          refine hK _ _ ?_
          clear hK K
          refine wpAnyIn_ready (rs := [6]) (by kernel_rfl) (by simp) ?_
          refine AllReadyIn.cons rfl (fun K hK=>?_) ?_
          ·go_simp
           refine hK _ _ ?_
           clear hK K
           refine wpAnyIn_done (by kernel_rfl) ?_ _
           exact ⟨rfl,HF.out⟩
          exact AllReadyIn.nil
         exact AllReadyIn.nil
        exact AllReadyIn.nil
       exact AllReadyIn.nil
      refine AllReadyIn.cons rfl (fun K hK=>?_) ?_
      ·go_simp
       gi_wp2_with (gi_at_call 45; refine hmo.mono ?_; rintro e w8 ⟨a,n,c,rfl,HO,hk8⟩; obtain ⟨ao',n',c',w9,hrun,s1,s2,s3,HF⟩:=HA.out w8 a n c hk8 HO.out; have s4:=cell_keeps s1 ((Keeps.refl (fun _=>False) w8).alloc (.cells #[.bool true,.int .i64 (q:Int),.int .i64 (q':Int),.slice a n c] 29)); have hst:(store ⟨w2.heap.size,0,none⟩ (.slice ao' n' c')).run Tryz.prog w9 = .ok () (w9.setCell ⟨w2.heap.size,0,none⟩ (.slice ao' n' c')):=(by rw [run_store _ _ _ _ _ rfl]; simp [s2,s3,go_sem]))
       refine wpAnyIn_ready (rs := [0,4]) (by kernel_rfl) (by simp) ?_
       refine AllReadyIn.cons rfl (fun K hK=>?_) ?_
       ·go_simp
        refine hK _ _ ?_
        clear hK K
        refine wpAnyIn_ready (rs := [4]) (by kernel_rfl) (by simp) ?_
        refine AllReadyIn.cons rfl (fun K hK=>?_) ?_
        ·go_simp
         refine hK _ _ ?_
         clear hK K
         refine wpAnyIn_ready (rs := [5]) (by kernel_rfl) (by simp) ?_
         refine AllReadyIn.cons rfl (fun K hK=>?_) ?_
         ·refine step_appendIn_run rfl _ _ _ _ rfl rfl _ _ _ _ rfl rfl hrun ?_
          refine hK _ _ ?_
          clear hK K
          refine wpAnyIn_ready (rs := [6]) (by kernel_rfl) (by simp) ?_
          refine AllReadyIn.cons rfl (fun K hK=>?_) ?_
          ·go_simp
           refine hK _ _ ?_
           clear hK K
           refine wpAnyIn_done (by kernel_rfl) ?_ _
           exact ⟨rfl,HF.out⟩
          exact AllReadyIn.nil
         exact AllReadyIn.nil
        exact AllReadyIn.nil
       refine AllReadyIn.cons rfl (fun K hK=>?_) ?_
       ·go_simp
        refine hK _ _ ?_
        clear hK K
        refine wpAnyIn_ready (rs := [0]) (by kernel_rfl) (by simp) ?_
        refine AllReadyIn.cons rfl (fun K hK=>?_) ?_
        ·go_simp
         refine hK _ _ ?_
         clear hK K
         refine wpAnyIn_ready (rs := [5]) (by kernel_rfl) (by simp) ?_
         refine AllReadyIn.cons rfl (fun K hK=>?_) ?_
         ·refine step_appendIn_run rfl _ _ _ _ rfl rfl _ _ _ _ rfl rfl hrun ?_
          refine hK _ _ ?_
          clear hK K
          refine wpAnyIn_ready (rs := [6]) (by kernel_rfl) (by simp) ?_
          refine AllReadyIn.cons rfl (fun K hK=>?_) ?_
          ·go_simp
           refine hK _ _ ?_
           clear hK K
           refine wpAnyIn_done (by kernel_rfl) ?_ _
           exact ⟨rfl,HF.out⟩
          exact AllReadyIn.nil
         exact AllReadyIn.nil
        exact AllReadyIn.nil
       exact AllReadyIn.nil
      exact AllReadyIn.nil
     exact AllReadyIn.nil
    exact AllReadyIn.nil
  case done =>
   intro D out T' tv w5 F5 Fr5 hout hst ht5 hD hpst
   obtain ⟨hD1,F3,Fr3,F6,FU,q1,q2,q3,q4⟩:=done_end (mchR_ok _ _ _ _ _) hS4.ok hst ht5
   obtain ⟨v,L,e1,e2,e3,e4,e5,e6,e7,e8⟩:=q3
   have e0:At1 w5 w2.heap.size 25 v:=by
    unfold At1 at e1 ⊢
    rw [put_other (by omega)] at e1
    exact e1
   obtain ⟨ao,m,cap,hvf⟩ :∃ao m cap,v = .slice ao m cap:=by obtain ⟨ao,cap,h⟩:=own_form e3; exact ⟨_,_,_,h⟩
   subst hvf
   have d0:=e0.cell
   have e:(if out = [] then (none:Option Code) else none)=none:=by split <;> rfl
   rw [e]
   have hmap:L.map (·.1)=(smx u [] f q).map (mtOf g q):=by
    rw [e2,hout]
    have:=told_tell hX (p:=q) (by rw [hCu]; exact hqu) (noS C.G)
    rw [show (none:Option Code).isSome=false from rfl,this,List.map_map]
    refine List.map_congr_left fun x _=>?_
    simp only [Function.comp,mtE,mtOf]
    rw [ap_gs,hCG]
   have hkk:Keeps (fun _=>False) w (w5.putObj D (.deferred none)):=hk04.trans' q2.keeps (fun i hi h=>by
    rcases h with h | h
    ·omega
    ·rcases hT.fresh i h with h2 | h2
     ·exact h2
     ·omega)
   have HF:Hid (WaysP s u (q:Int) w (.returned (.slice ao m cap)) (w5.putObj D (.deferred none))):=Or.inr ⟨g,f,q,_,L,hw,ht,rfl,rfl,hmap,e3,⟨fun x hx=>⟨(e4.rows x hx).1,fun _ _ h=>h⟩,e4.sep⟩,hkk⟩
   have HD:Hid (w5.heap[D]? = some (.deferred (some []))):=hD1
   clear q1 q2 q4 e1 e2 e3 e4 e5 e6 e7 e8 e0 hD1 hst ht5 hpst hmap hkk hS4 bA bP hFb4 hR4 hF' hlt hok hT hres bS4 bS l24 hnot c3 c1 b1 hsf2 HE hX hout e
   gi_wp2
   refine ⟨by simp,.inl ⟨_,_,rfl,run_takeDeferred HD.out,?_⟩⟩
   refine ⟨_,results_tmp rfl _ _ _,?_⟩
   exact HF.out
 ·have hsf2:CallsIn Fence.wide 2 Tryz.prog 33 #[.string s,.string u,.int .i64 p] (w.alloc (.cells #[.int .i64 p] 3)) (fun e w2=>e = .returned (.pointer none)∧Hid (WaysP s u p w (.returned (.slice none 0 0)) w2)):=by
   refine callsIn_wide.2 (hsf.mono ?_)
   rintro e w2 (⟨h1,rfl,h2⟩ | ⟨g,f,X2,h1,-⟩)
   ·exact ⟨rfl,Or.inl ⟨h1,rfl,k1.trans h2⟩⟩
   ·rw [h1] at hw; exact absurd rfl hw
  clear hsf hpn
  gi_wp2_with (gi_at_call 33; refine hsf2.mono ?_; rintro e w2 ⟨rfl,HP⟩)
  refine ⟨_,results_tmp rfl _ _ _,?_⟩
  exact HP.out
end Go.Proofs.YthkmmeamplmnhaaGreat
namespace Go.Proofs.YthkmmeamplmnhaaGreat
open Go.RowKit
set_option linter.unusedVariables false
def waysRef (s u:ByteArray) (p:Int):List Mt:=if wanted s u p then (match treeRef s with | .error _ => [] | .ok (g,f)=>(smx u [] f p.toNat).map (mtOf g p.toNat)) else []
def WaysV (s u:ByteArray) (p:Int) (w:World) (e:Ending) (w':World):Prop :=
 ∃(ao:Option Addr) (n c:Nat) (L:List Mm),e = .returned (.slice ao n c)∧L.map (·.1)=waysRef s u p∧w'.ownsRow w.heap.size 29 4 (.slice ao n c) L.length (L.flatMap cell4)∧MwI w.heap.size w' (fun _=>False) L∧Keeps (fun _=>False) w w'
theorem ways_val {w:World} {s u:ByteArray} {p:Int}:Calls Tryz.prog 20 #[.string s,.string u,.int .i64 p] w (WaysV s u p w):=by
 refine ways_any.mono ?_
 rintro e w' (⟨h1,rfl,k⟩ | ⟨g,f,q,v,L,h1,h2,rfl,rfl,h3,h4,h5,k⟩)
 ·exact ⟨none,0,0,[],rfl,by simp [waysRef,h1],World.ownsRow_nil _ _ _ _,⟨by simp,by simp⟩,k⟩
 ·obtain ⟨ao,cap,rfl⟩:=own_form h4
  exact ⟨ao,L.length,cap,L,rfl,by rw [h3]; simp [waysRef,h1,h2],h4,h5,k⟩
theorem waysRef_few (s u:ByteArray) (p:Int):(waysRef s u p).length≤201:=by
 unfold waysRef
 split
 ·rename_i hw
  cases ht:treeRef s with
  | error x=>simp
  | ok gf =>
    obtain ⟨g,f⟩:=gf
    simp only [List.length_map]
    simp only [wanted,Bool.and_eq_true,decide_eq_true_eq] at hw
    obtain ⟨hfg,-,-,-⟩:=tree_fg ht
    have hX:OkX u.size 0 g (smx u [] f):=fp_ok u ⟨f,hfg,rfl⟩
    have:=okX_few hX (p:=p.toNat) (by omega)
    omega
 ·simp
def wholeRef (s u:ByteArray):Option Mt:=(waysRef s u 0).find? fun m=>decide (m.up=(u.size:Int))
def noMatch:Value:=.agg #[.bool false,.int .i64 0,.int .i64 0,.slice none 0 0]
def OneP (r:Option Mt) (w:World) (e:Ending) (w':World):Prop :=
 (r=none∧e = .returned noMatch∧Keeps (fun _=>False) w w')∨
 ∃(x:Mt) (a:Option Addr) (n c:Nat),r=some x∧e = .returned (.agg #[.bool x.ok,.int .i64 x.fr,.int .i64 x.up,.slice a n c])∧w'.ownsRow w.heap.size 31 2 (.slice a n c) x.gs.length (flatR x.gs)∧Keeps (fun _=>False) w w'
theorem cell4_get {L:List Mm} {k:Nat} (h:k < L.length) (j:Nat) (hj:j < 4):(L.flatMap cell4)[k * 4 + j]? = (cell4 L[k])[j]?:=by
 induction L generalizing k with
 | nil=>simp at h
 | cons a L ih =>
   rw [List.flatMap_cons]
   cases k with
   | zero =>
     rw [List.getElem?_append_left (by simp [cell4]; omega)]
     simp
   | succ k =>
     rw [List.getElem?_append_right (by simp [cell4]; omega)]
     have:=ih (k:=k) (by simpa using h)
     have e:(k + 1) * 4 + j - (cell4 a).length=k * 4 + j:=by simp [cell4]; omega
     rw [e,this]
     rfl
set_option maxHeartbeats 2000000 in
set_option maxRecDepth 100000 in
theorem whole_all {w:World} {s u:ByteArray}:Calls Tryz.prog 23 #[.string s,.string u] w (OneP (wholeRef s u) w):=by
 have k1:Keeps (fun _=>False) w (w.alloc (.cells #[.bool false,.int .i64 0,.int .i64 0,.slice none 0 0] 29)):=(Keeps.refl _ w).alloc _
 have b1:(w.alloc (.cells #[.bool false,.int .i64 0,.int .i64 0,.slice none 0 0] 29)).heap[w.heap.size]? = some (.cells #[.bool false,.int .i64 0,.int .i64 0,.slice none 0 0] 29 (0,0)):=heap_alloc_new w _
 have hs1:=lt_of_block b1
 have hcall:Calls Tryz.prog 20 #[.string s,.string u,.int .i64 0] (w.alloc (.cells #[.bool false,.int .i64 0,.int .i64 0,.slice none 0 0] 29)) (fun e w2 =>∃(ao:Option Addr) (n c:Nat) (L:List Mm),e = .returned (.slice ao n c)∧Hid (n=L.length∧n≤201∧L.map (·.1)=waysRef s u 0)∧w2.ownsRow (w.alloc (.cells #[.bool false,.int .i64 0,.int .i64 0,.slice none 0 0] 29)).heap.size 29 4 (.slice ao n c) n (L.flatMap cell4)∧MwI (w.alloc (.cells #[.bool false,.int .i64 0,.int .i64 0,.slice none 0 0] 29)).heap.size w2 (fun _=>False) L∧Keeps (fun _=>False) (w.alloc (.cells #[.bool false,.int .i64 0,.int .i64 0,.slice none 0 0] 29)) w2):=by
  refine ways_val.mono ?_
  rintro e w2 ⟨ao,n,c,L,rfl,h1,h2,h3,h4⟩
  obtain ⟨ao',cap',hv⟩:=own_form h2
  cases hv
  have:=waysRef_few s u 0
  rw [← h1,List.length_map] at this
  exact ⟨ao,L.length,c,L,rfl,⟨rfl,this,h1⟩,h2,h3,h4⟩
 go_enter Tryz.func23,Tryz.ntmps23
 go_wp2_with (go_at_call 20; refine hcall.mono ?_; rintro e w2 ⟨ao,n,c,L,rfl,HL,hrow,hMw,hk2⟩)
 clear hcall
 generalize (w.alloc (.cells #[.bool false,.int .i64 0,.int .i64 0,.slice none 0 0] 29))=w1 at *
 have hn201:=HL.out.2.1
 go_loopg [6,11] (n + 1) (fun gl _ s11 wr =>∃k:Nat,k + gl=n + 1∧k≤n∧s11 = .int .i64 (k:Int)∧Hid (∀j (h:j < L.length),j < k→L[j].1.up≠(u.size:Int))∧Keeps (fun _=>False) w2 wr)
 case atStart=>exact ⟨0,by omega,by omega,rfl,fun j h hj=>by omega,Keeps.refl _ _⟩
 case round =>
  obtain ⟨k,hgl,hk,rfl,HN,hK⟩:=hrel
  have HG:Hid (k + gk=n + 1):=hgl
  clear hgl
  have b2:wr.heap[w.heap.size]? = some (.cells #[.bool false,.int .i64 0,.int .i64 0,.slice none 0 0] 29 (0,0)):=((hk2.trans hK).block _ hs1 (fun h=>h)).trans b1
  by_cases hlt:k < n
  ·have hz:(k:Int) < (n:Int):=by omega
   have hkL:k < L.length:=by have:=HL.out.1; omega
   have hr:=ownsRow_keeps hrow hK (fun _ _ h=>h)
   obtain ⟨gm,rfl⟩ :∃gm,ao=some ⟨gm,0,none⟩:=by
    obtain ⟨m,rfl⟩ :∃m,n=m + 1:=⟨n - 1,by omega⟩
    obtain ⟨g,c',hv,-⟩:=own_some hr
    cases hv
    exact ⟨g,rfl⟩
   have m0:=hr.cellAt (k * 4) (by omega)
   have m1:=hr.cellAt (k * 4 + 1) (by omega)
   have m2:=hr.cellAt (k * 4 + 2) (by omega)
   have m3:=hr.cellAt (k * 4 + 3) (by omega)
   have e0:=cell4_get hkL 0 (by omega)
   rw [Nat.add_zero] at e0
   rw [e0] at m0
   clear e0
   rw [cell4_get hkL 1 (by omega)] at m1
   rw [cell4_get hkL 2 (by omega)] at m2
   rw [cell4_get hkL 3 (by omega)] at m3
   have hx:=hMw.rows L[k] (List.getElem_mem hkL)
   obtain ⟨ax,cx,hxv⟩:=own_form hx.1
   have HX:Hid (wr.ownsRow w1.heap.size 31 2 L[k].2 L[k].1.gs.length (flatR L[k].1.gs)):=ownsRow_keeps hx.1 hK (fun _ _ h=>h)
   rw [show (cell4 L[k])[0]? = some (.bool L[k].1.ok) from rfl] at m0
   rw [show (cell4 L[k])[1]? = some (.int .i64 L[k].1.fr) from rfl] at m1
   rw [show (cell4 L[k])[2]? = some (.int .i64 L[k].1.up) from rfl] at m2
   rw [show (cell4 L[k])[3]? = some L[k].2 from rfl,hxv] at m3
   have HF:Hid (∀(wF:World),Keeps (fun i=>i=w.heap.size) wr wF→L[k].1.up=(u.size:Int)→OneP (wholeRef s u) w (.returned (.agg #[.bool L[k].1.ok,.int .i64 L[k].1.fr,.int .i64 L[k].1.up,.slice ax L[k].1.gs.length cx])) wF):=by
    intro wF kF hup
    have hr2:wF.ownsRow w1.heap.size 31 2 L[k].2 L[k].1.gs.length (flatR L[k].1.gs):=ownsRow_keeps HX.out kF (fun i hi e=>by have:=(HX.out.lt i hi).1; omega)
    refine Or.inr ⟨L[k].1,ax,L[k].1.gs.length,cx,?_,rfl,?_,?_⟩
    ·unfold wholeRef
     rw [← HL.out.2.2,List.find?_map]
     rw [List.find?_eq_some_iff_getElem.2 ⟨by simp [hup],k,hkL,rfl,fun j hj=>by have:=HN.out j (by omega) hj; simpa using this⟩]
     rfl
    ·rw [← hxv]; exact ownsRow_base hr2 (fun i hi=>by have:=(hr2.lt i hi).1; have:=k1.size; omega)
    ·exact (k1.trans (hk2.trans hK)).trans' kF (fun i hi e=>by omega)
   have HNX:Hid (L[k].1.up≠(u.size:Int)→∀j (h:j < L.length),j < k + 1→L[j].1.up≠(u.size:Int)):=by
    intro hne j h hj
    by_cases e:j=k
    ·subst e; exact hne
    ·exact HN.out j h (by omega)
   generalize L[k].1.gs.length=ng at m3 HF
   generalize L[k].1=x at m0 m1 m2 HF HNX
   clear hx hxv HX hr HN hMw
   have kB:Keeps (fun _=>False) wr (wr.alloc (.cells #[.bool x.ok,.int .i64 x.fr,.int .i64 x.up,.slice ax ng cx] 29)):=(Keeps.refl _ _).alloc _
   have bB:(wr.alloc (.cells #[.bool x.ok,.int .i64 x.fr,.int .i64 x.up,.slice ax ng cx] 29)).heap[wr.heap.size]? = some (.cells #[.bool x.ok,.int .i64 x.fr,.int .i64 x.up,.slice ax ng cx] 29 (0,0)):=heap_alloc_new _ _
   have hne0:wr.heap.size≠w.heap.size:=by have:=lt_of_block b2; omega
   go_upto_region 4 with fail
   clear m0 m1 m2 m3
   generalize (wr.alloc (.cells #[.bool x.ok,.int .i64 x.fr,.int .i64 x.up,.slice ax ng cx] 29))=w3 at kB bB ⊢
   have b3:w3.heap[w.heap.size]? = some (.cells #[.bool false,.int .i64 0,.int .i64 0,.slice none 0 0] 29 (0,0)):=(kB.block _ (lt_of_block b2) (fun h=>h)).trans b2
   have c0:w3.cell? ⟨w.heap.size,0,none⟩=some (.bool false):=by rw [cell_of b3]; rfl
   have c1:w3.cell? ⟨w.heap.size,1,none⟩=some (.int .i64 0):=by rw [cell_of b3]; rfl
   have c2:w3.cell? ⟨w.heap.size,2,none⟩=some (.int .i64 0):=by rw [cell_of b3]; rfl
   have c3:w3.cell? ⟨w.heap.size,3,none⟩=some (.slice none 0 0):=by rw [cell_of b3]; rfl
   have ef :∀i,w3.frozen? ⟨w.heap.size,i,none⟩=false:=fun i=>free_of b3
   have d0:w3.cell? ⟨wr.heap.size,0,none⟩=some (.bool x.ok):=by rw [cell_of bB]; rfl
   have d1:w3.cell? ⟨wr.heap.size,1,none⟩=some (.int .i64 x.fr):=by rw [cell_of bB]; rfl
   have d2:w3.cell? ⟨wr.heap.size,2,none⟩=some (.int .i64 x.up):=by rw [cell_of bB]; rfl
   have d3:w3.cell? ⟨wr.heap.size,3,none⟩=some (.slice ax ng cx):=by rw [cell_of bB]; rfl
   clear b1 b2 b3 bB hrow
   by_cases hup:x.up=(u.size:Int)
   ·have HU:Hid (x.up=(u.size:Int)):=hup
    have hz2:(x.up == (u.size:Int))=true:=by simp [hup]
    clear hup
    go_wp2_with fail
    refine bodyPost_ret (v:=.agg #[.bool x.ok,.int .i64 x.fr,.int .i64 x.up,.slice ax ng cx]) (by simp [results,Tryz.results23,go_sem,c0,c1,c2,c3]) rfl ?_
    exact HF.out _ ((((((kB.mono (fun _ _ h=>h.elim)).trans (keeps_setCell _ _ _ _)).trans (keeps_setCell _ _ _ _)).trans (keeps_setCell _ _ _ _)).trans (keeps_setCell _ _ _ _))) HU.out
   ·have hz2:(x.up == (u.size:Int))=false:=by simpa using hup
    have HN2:=HNX.out hup
    have HN3:Hid (∀j (h:j < L.length),j < k + 1→L[j].1.up≠(u.size:Int)):=HN2
    clear hup HN2 HNX HF c0 c1 c2 c3 d0 d1 d3
    go_wp2_with fail
    go_roundg (gk - 1)
    case measure=>have:=HG.out; omega
    case rel=>exact ⟨k + 1,by have:=HG.out; omega,by omega,congrArg (Value.int .i64) (by omega),HN3,hK.trans kB⟩
  ·obtain rfl:k=n:=by omega
   have hz:¬ (k:Int) < (k:Int):=by omega
   have HF:Hid (wholeRef s u=none):=by
    show wholeRef s u=none
    unfold wholeRef
    rw [← HL.out.2.2,List.find?_eq_none]
    intro m hm
    obtain ⟨y,hy,rfl⟩:=List.mem_map.1 hm
    obtain ⟨j,hj,rfl⟩:=List.getElem_of_mem hy
    have:=HN.out j hj (by have:=HL.out.1; omega)
    simpa using this
   have c0:wr.cell? ⟨w.heap.size,0,none⟩=some (.bool false):=by rw [cell_of b2]; rfl
   have c1:wr.cell? ⟨w.heap.size,1,none⟩=some (.int .i64 0):=by rw [cell_of b2]; rfl
   have c2:wr.cell? ⟨w.heap.size,2,none⟩=some (.int .i64 0):=by rw [cell_of b2]; rfl
   have c3:wr.cell? ⟨w.heap.size,3,none⟩=some (.slice none 0 0):=by rw [cell_of b2]; rfl
   have ef :∀i,wr.frozen? ⟨w.heap.size,i,none⟩=false:=fun i=>free_of b2
   clear HN hrow hMw b1 b2
   go_wp2_with fail
   refine bodyPost_ret (v:=.agg #[.bool false,.int .i64 0,.int .i64 0,.slice none 0 0]) (by simp [results,Tryz.results23,go_sem,c0,c1,c2,c3]) rfl ?_
   refine Or.inl ⟨HF.out,rfl,(k1.trans (hk2.trans hK)).trans' (E':=fun i=>i=w.heap.size) ?_ (fun i hi e=>by omega)⟩
   exact (((keeps_setCell _ _ _ _).trans (keeps_setCell _ _ _ _)).trans (keeps_setCell _ _ _ _)).trans (keeps_setCell _ _ _ _)
end Go.Proofs.YthkmmeamplmnhaaGreat
