import Derived.Test.YthkmmeamplmnhaaGreatYt
import Derived.Scope
import Derived.Laws.DeepStrings4
namespace Go.Proofs.YthkmmeamplmnhaaGreat
open Go.RowKit Go.Shelf
set_option linter.unusedVariables false
attribute [local go_sem] Oper.semAt_some
theorem cut1 {G T:Prop} (m:G→T) (g:G):T:=m g
theorem allX_len {X:Xs} {N G:Nat} (hX:OkX N 0 G X) :∀(k p:Nat),p≤N + 1→(allL (fun a=>(X a).map (mtOf G a)) N k p).length + p≤N + 1:=by
 intro k
 induction k with
 | zero=>intro p hp; simp only [allL,List.length_nil]; omega
 | succ k ih =>
   intro p hp
   simp only [allL]
   cases hf:findL (fun a=>(X a).map (mtOf G a)) (N + 1 - p) p with
   | none=>simp only [List.length_nil]; omega
   | some m =>
     obtain ⟨f1,f2,f3,f4,f5,f6,f7⟩:=findX_in hX (by omega) hf
     have:=ih (nxt m) f7
     simp only [List.length_cons]
     omega
def spC (u:ByteArray) (out:List Mt):Option Code:=match out.getLast? with
 | some m=>if m.up=m.fr∧¬ m.fr=0∧m.fr=(u.size:Int) then some (.exit 0) else none
 | none=>none
theorem spC_snoc (u:ByteArray) (out:List Mt) (m:Mt):spC u (out ++ [m])=if m.up=m.fr∧¬ m.fr=0∧m.fr=(u.size:Int) then some (.exit 0) else none:=by simp [spC]
theorem spC_end {u:ByteArray} (out:List Mt) (m:Mt) (h:(spC u (out ++ [m])).isNone=false):m.up=m.fr∧m.fr=(u.size:Int):=by
 rw [spC_snoc] at h
 split at h
 ·rename_i h1; exact ⟨h1.1,h1.2.2⟩
 ·cases h
theorem slice_str {u:ByteArray} {a b:Nat} (h1:a≤b) (h2:b≤u.size) (w:World):(Instr.slice 9 (.string u) (some (.int .i64 (a:Int))) (some (.int .i64 (b:Int))) none).run Tryz.prog w = .ok (.string (u.extract a b)) w:=by
 rw [run_slice_string_if w 9 u .i64 .i64 (a:Int) (b:Int) Tryz.underlying9,if_pos (by omega),if_pos (by omega)]
 rfl
def SplitP (s u:ByteArray) (w:World) (e:Ending) (w':World):Prop :=∃(ao:Option Addr) (n c:Nat),e = .returned (.slice ao n c)∧Sr w' w.heap.size (.slice ao n c) (splitRef s u)∧Keeps (fun _=>False) w w'
set_option maxHeartbeats 4000000 in
set_option maxRecDepth 100000 in
theorem isplit_any {w:World} {s u:ByteArray}:Calls Tryz.prog 24 #[.string s,.string u] w (SplitP s u w):=by
 have hpn :∀(a:Addr) (w:World),(binOp BinOp.eql 61 (.pointer (some a)) (.pointer none)).run Tryz.prog w = .ok (.bool false) w:=fun _ _=>by kernel_rfl
 have hpn0 :∀(w:World),(binOp BinOp.eql 61 (.pointer none) (.pointer none)).run Tryz.prog w = .ok (.bool true) w:=fun _=>by kernel_rfl
 have hfn :∀f,Fence.wide.fn f:=fun _=>trivial
 have hdp:Fence.wide.depth=none:=rfl
 have b1:At1 (w.alloc (.cells #[.string u] 9)) w.heap.size 9 (.string u):=heap_alloc_new _ _
 have k1:Keeps (fun _=>False) w (w.alloc (.cells #[.string u] 9)):=(Keeps.refl _ w).alloc _
 have hs1:=b1.lt
 have c1:=b1.cell
 have hsf:Calls Tryz.prog 33 #[.string s,.string u,.int .i64 0] (w.alloc (.cells #[.string u] 9)) _:=searchFor_any (F:=fun _=>False) (fun _ h=>h.elim)
 refine (callsIn_wide (n:=3)).1 ?_
 refine callsIn_of_wp_marks Tryz.func24 rfl trivial ?_
 simp only [Tryz.ntmps24,List.size_toArray,List.length_cons,List.length_nil,Nat.reduceAdd,Nat.reduceSub,Array.replicate_succ,Array.replicate_zero,List.push_toArray,List.append_toArray,List.nil_append,List.cons_append]
 by_cases hw:wanted s u 0=true
 ·have hu:u.size≤200:=by
   simp only [wanted,Bool.and_eq_true,decide_eq_true_eq] at hw
   omega
  have hsf2:CallsIn Fence.wide 2 Tryz.prog 33 #[.string s,.string u,.int .i64 0] (w.alloc (.cells #[.string u] 9)) (fun e w2 =>∃X2,e = .returned (.pointer (some ⟨X2,0,none⟩))∧Hid (∃g f,treeRef s = .ok (g,f)∧Made u g (smx u [] f) (w.alloc (.cells #[.string u] 9)) (fun _=>False) X2 w2)):=by
   refine callsIn_wide.2 (hsf.mono ?_)
   rintro e w2 (⟨h1,-⟩ | ⟨g,f,X2,h1,h2,rfl,h3⟩)
   ·rw [hw] at h1; cases h1
   ·exact ⟨X2,rfl,g,f,h2,h3⟩
  have HE:Hid (∀(X2:Nat) (w3:World),CallsIn Fence.wide 2 Tryz.prog 35 #[.pointer (some ⟨X2,0,none⟩)] w3 (fun e w'=>e = .returned (.func (.func 56) #[] #[.pointer (some ⟨w3.heap.size,0,none⟩)])∧At1 w' w3.heap.size 61 (.pointer (some ⟨X2,0,none⟩))∧Keeps (fun _=>False) w3 w')):=fun X2 w3=>callsIn_wide.2 matches_any
  clear hsf hpn0
  gi_wp2
  refine wpIn_wide.2 (wp_scope_straight ((wpIn_wide (n:=3)).1 ?_))
  gi_wp2_with (first
   | (gi_at_call 33; refine hsf2.mono ?_; rintro e w2 ⟨X2,rfl,HM⟩; have k12:Keeps (fun _=>False) (w.alloc (.cells #[.string u] 9)) w2:=(by obtain ⟨g,f,ht,hMd⟩:=HM.out; exact made_keeps hMd))
   | (gi_at_call 35; refine (HE.out X2 _).mono ?_; rintro e w4 ⟨rfl,bA,k4⟩))
  refine wpIn_label ?_
  gi_wp2_with (first
   | (gi_at_call 35; refine (HE.out X2 _).mono ?_; rintro e w4 ⟨rfl,bA,k4⟩))
  obtain ⟨g,f,ht,hMd⟩:=HM.out
  obtain ⟨C,kk,bg,B,mine,F',Fr',hCX,hCu,hCG,hres,hT,hS⟩:=hMd.ex
  subst hCX
  obtain ⟨hfg,hg9,hf1,hf4⟩:=tree_fg ht
  have hX:OkX C.u.size 0 C.G (smx u [] f):=by rw [hCu,hCG]; exact fp_ok u ⟨f,hfg,rfl⟩
  have hok:=se_ok (C:=C) (ρ:=⟨(kk:Int),bg,[]⟩) (tl:=.nilFunc) (T:=tno) hS.ok
  have hlt:=hok.lt hres
  have hs12:=k12.size
  have hF' :∀i,F' i→Fr' i∧(w.alloc (.cells #[.string u] 9)).heap.size≤i∧i < w2.heap.size:=fun i hi=>by
   rcases hT.out i hi with h | h
   ·exact h.1.elim
   ·rcases hT.fresh i h with h2 | h2
    ·exact h2.elim
    ·exact ⟨h,h2,(hlt i h).2⟩
  have k23:Keeps (fun _=>False) w2 ((w2.alloc (.cells #[.slice none 0 0] 47)).alloc (.cells #[.int .i64 0] 3)):=((Keeps.refl _ _).alloc _).alloc _
  have bS:At1 ((w2.alloc (.cells #[.slice none 0 0] 47)).alloc (.cells #[.int .i64 0] 3)) w2.heap.size 47 (.slice none 0 0):=box1 w2 _ _
  have bP:At1 ((w2.alloc (.cells #[.slice none 0 0] 47)).alloc (.cells #[.int .i64 0] 3)) (w2.heap.size + 1) 3 (.int .i64 0):=box2 w2 _ _
  have hsS:=bP.lt
  simp only [World.size_alloc] at bA hsS hs12 hF' hs1
  have k24:=k23.trans k4
  have hs34:=k4.size
  simp only [World.size_alloc] at hs34
  have bS4:=bS.keeps k4 (fun h=>h)
  have bP4:=bP.keeps k4 (fun h=>h)
  have c3:=cell_keeps c1 (k12.trans k24)
  have l24:Lat w2 F' w4 (fun i=>F' i∨i=w2.heap.size∨i=w2.heap.size + 1):=⟨k24.mono (fun _ _ h=>h.elim),fun i hi=>hi.imp id (fun e=>by omega)⟩
  have hres4:=hok.frame hres l24 (fun i hi=>Or.inl (hlt i hi).1) (fun i hi=>k24.block i (hlt i hi).2 (fun h=>h))
  have hnot :∀i,i≤w.heap.size∨w2.heap.size + 1 < i→¬ (F' i∨i=w2.heap.size∨i=w2.heap.size + 1):=fun i hi h=>by
   rcases h with h | h | h
   ·have:=hF' i h; omega
   ·omega
   ·omega
  have hPt:PtR w2.heap.size (w2.heap.size + 1) w.heap.size w.heap.size u 0 [] w4 (fun i=>F' i∨i=w2.heap.size∨i=w2.heap.size + 1) (fun i=>i=w2.heap.size∨i=w2.heap.size + 1) :=
   ⟨.slice none 0 0,bS4,bP4,World.ownsRow_nil _ _ _ _,fun k=>by simp [Value.ownBlock],fun k hk=>Or.inr hk,by simp [Value.ownBlock],by simp [Value.ownBlock],⟨c3,hnot _ (Or.inl (Nat.le_refl _)),by omega⟩,by omega⟩
  have hR4:starL (SeR C ⟨(kk:Int),bg,[]⟩ .nilFunc tno :: PtR w2.heap.size (w2.heap.size + 1) w.heap.size w.heap.size u 0 [] :: mine) w4 (fun i=>F' i∨i=w2.heap.size∨i=w2.heap.size + 1) (fun i=>(i=w2.heap.size∨i=w2.heap.size + 1)∨Fr' i) :=
   starL_perm ⟨fun i=>i=w2.heap.size∨i=w2.heap.size + 1,Fr',fun k=>Iff.rfl,fun k h1 h2=>by have:=(hlt k h2).2; omega,hPt,hres4⟩
  have hFb4:Fb w4 (fun i=>F' i∨i=w2.heap.size∨i=w2.heap.size + 1):=fun i hi=>by
   rcases hi with h | h | h
   ·have:=(hF' i h).2.2; omega
   ·omega
   ·omega
  have hS4:Srch C w4 (fun i=>F' i∨i=w2.heap.size∨i=w2.heap.size + 1) bg (smx u [] f) B mine:=hS.later l24
  have hk04:Keeps (fun _=>False) w w4:=(k1.trans k12).trans k24
  have hord:Ord u.size 0 (allL (fun a=>(smx u [] f a).map (mtOf C.G a)) C.u.size (C.u.size + 2) 0):=by
   have h:=allX_ord hX (C.u.size + 2) 0 (Nat.zero_le _)
   rw [hCu] at h ⊢
   exact h
  clear hPt hres4 hS hMd HM
  refine range_matches (cap:=1000) (cc:=spC u) (b0:=0) (ρ:=⟨(kk:Int),bg,[]⟩) (X:=smx u [] f) (U:=PtR w2.heap.size (w2.heap.size + 1) w.heap.size w.heap.size u) (fun b out=>ptR_ok _ _ _ _ _ b out) (fun b b' out w F Fr hb h=>ptR_up _ _ _ _ _ b b' out w F Fr hb h) rfl rfl ?round rfl hS4 ⟨bA.cell,hnot _ (Or.inr (by omega)),bA.lt⟩ hFb4 hR4 Rdy.no hX (by rw [hCu]; exact hu) (by rw [hCG]; exact hg9) (Nat.zero_le _) (by rw [hCu]; omega) ?done
  case round =>
   clear hS4 bA hFb4 hR4 hF' hlt hok hT hres bS4 bS bP4 bP l24 hnot hsf2 HE c3 c1 b1
   intro l w5 F5 Fu b out m ag ng cg hFb5 hU hb5 hrow hnF h1 h2 h3 h4 h5 hn hcc hpx hF5l hll hnl
   have hFu5:¬ Fu w5.heap.size:=fun h=>by have:=((ptR_ok _ _ _ _ _ _ _).lt hU _ h).2; omega
   rw [hCu] at h5
   obtain ⟨fN,hfN⟩ :∃fN:Nat,m.fr=(fN:Int):=⟨m.fr.toNat,by omega⟩
   obtain ⟨tN,htN⟩ :∃tN:Nat,m.up=(tN:Int):=⟨m.up.toNat,by omega⟩
   have hle:(spA u out).2≤fN:=by
    obtain ⟨t,ht⟩:=hpx
    have e:out ++ m :: t=out ++ [m] ++ t:=by simp
    have h6:=sp_le out m t 0 ([],0) (by rw [e,ht]; exact hord) (Nat.le_refl _)
    have h7:((spA u out).2:Int)≤m.fr:=h6
    omega
   obtain ⟨a,ha⟩ :∃a,(spA u out).2=a:=⟨_,rfl⟩
   rw [ha] at hle
   have hft:fN≤tN:=by omega
   have htu:tN≤u.size:=by omega
   clear hrow hnF h1 h2 hpx hord hU
   refine ⟨fun a1 w6=>w6.heap[w5.heap.size]? = some (.cells #[.bool m.ok,.int .i64 m.fr,.int .i64 m.up,.slice ag ng cg] 29 (0,0))∧a1 = { tmps:=#[.string s,.string u,undef,.pointer (some ⟨w.heap.size,0,none⟩),.slice none 0 0,.pointer (some ⟨C.X,0,none⟩),.pointer (some ⟨w2.heap.size,0,none⟩),.pointer (some ⟨w2.heap.size + 1,0,none⟩),.pointer (some ⟨w5.heap.size,0,none⟩),undef,.string s,.string u,.pointer (some ⟨C.X,0,none⟩),.pointer (some ⟨C.X,0,none⟩),.bool false,.pointer (some ⟨C.X,0,none⟩),.func (.func 56) #[] #[.pointer (some ⟨w2.heap.size + 1 + 1,0,none⟩)],.agg #[.bool m.ok,.int .i64 m.fr,.int .i64 m.up,.slice ag ng cg],undef,undef,undef,undef,undef,undef,undef,undef,undef,undef,undef,undef,undef,undef,undef,undef,undef,undef,undef,undef,undef,undef,undef,undef,undef,undef,undef,undef,undef,undef,undef,undef,undef,undef,undef,undef,undef,undef,undef],defers := [] },?_,?_⟩
   ·have HK:Hid (Keeps (fun _=>False) w5 (w5.alloc (.cells #[.bool m.ok,.int .i64 m.fr,.int .i64 m.up,.slice ag ng cg] 29))):=(Keeps.refl _ _).alloc _
    have HA:Hid ((w5.alloc (.cells #[.bool m.ok,.int .i64 m.fr,.int .i64 m.up,.slice ag ng cg] 29)).heap[w5.heap.size]? = some (.cells #[.bool m.ok,.int .i64 m.fr,.int .i64 m.up,.slice ag ng cg] 29 (0,0))):=heap_alloc_new _ _
    clear h3 h4 h5 hfN htN
    gi_wp2
    exact ⟨HK.out,HA.out,by first | trivial | rfl⟩
   ·rintro a1 w6 w7 k6 ⟨hb,rfl⟩ k7 hUw
    have hb7:w7.heap[w5.heap.size]? = some (.cells #[.bool m.ok,.int .i64 m.fr,.int .i64 m.up,.slice ag ng cg] 29 (0,0)):=by rw [k7.block _ (lt_of_block hb) (by omega)]; exact hb
    have kd:Keeps (fun _=>False) w7 w7.drew:=(Keeps.refl _ _).drew
    have hFb7:Fb w7 F5:=(hFb5.keeps k6).keeps k7
    have d1:w7.cell? ⟨w5.heap.size,1,none⟩=some (.int .i64 (fN:Int)):=by rw [cell_of hb7,← hfN]; rfl
    have d2:w7.cell? ⟨w5.heap.size,2,none⟩=some (.int .i64 (tN:Int)):=by rw [cell_of hb7,← htN]; rfl
    have hfF :∀k,Fu k→F5 k:=fun k hk=>((ptR_ok _ _ _ _ _ _ _).lt hUw k hk).1
    obtain ⟨v,p1,p2,p3,p4,p5,p6,p7,p8,p9⟩:=id hUw
    have dT:w7.cell? ⟨w.heap.size,0,none⟩=some (.string u):=p8.1
    rw [hfN] at h3 h4
    rw [htN] at h4 h5
    by_cases cSk:tN=fN∧(fN=0∨fN=u.size)
    ·have hsk:m.up=m.fr∧(m.fr=0∨m.fr=(u.size:Int)):=by rw [hfN,htN]; omega
     have HP:Hid (∃F4 Fu4,PtR w2.heap.size (w2.heap.size + 1) w.heap.size w.heap.size u w7.heap.size (out ++ [m]) w7 F4 Fu4∧Trn w7 F5 Fu w7 F4 Fu4):=⟨F5,Fu,ptR_skip hUw hsk,Trn.ofKeeps hfF (Keeps.refl _ _)⟩
     by_cases c0:fN=0
     ·have HX:Hid (exOf (spC u (out ++ [m])) .normal):=by
       show exOf (spC u (out ++ [m])) .normal
       rw [spC_snoc,if_neg (by rw [hfN,htN]; omega)]
       rfl
      have z1:((tN:Int) == (fN:Int))=true:=by simp; omega
      have z2:((fN:Int) == 0)=true:=by simp; omega
      clear p1 p2 p3 p4 p5 p6 p7 p8 p9 hb7 hFb7 kd hb k6 k7 hUw hfF cSk c0 hsk hfN htN h3 h4 h5 hcc hle hft htu
      gi_wp2
      exact ⟨HX.out,HP.out⟩
     ·have HX:Hid (exOf (spC u (out ++ [m])) (.exit 0)):=by
       show exOf (spC u (out ++ [m])) (.exit 0)
       rw [spC_snoc,if_pos (by rw [hfN,htN]; omega)]
       rfl
      have z1:((tN:Int) == (fN:Int))=true:=by simp; omega
      have z2:((fN:Int) == 0)=false:=by simp; omega
      have z3:((fN:Int) == (u.size:Int))=true:=by simp; omega
      clear p1 p2 p3 p4 p5 p6 p7 p8 p9 hb7 hFb7 kd hb k6 k7 hUw hfF cSk c0 hsk hfN htN h3 h4 h5 hcc hle hft htu
      gi_wp2
      exact ⟨HX.out,HP.out⟩
    ·have hskip:¬ (m.up=m.fr∧(m.fr=0∨m.fr=(u.size:Int))):=by rw [hfN,htN]; omega
     have hnb:¬ (m.up=m.fr∧¬ m.fr=0∧m.fr=(u.size:Int)):=by rw [hfN,htN]; omega
     have hcl:CallsIn (Fence.wide.inRound l) 0 Tryz.prog 47 #[.string (u.extract a fN)] w7.drew _:=CallsIn.inRound l ((callsIn_wide (n:=0)).2 (sclone_any (u.extract a fN) w7.drew (by rw [ByteArray.size_extract]; omega)))
     have hsl:=fun w=>slice_str (u:=u) hle (by omega) w
     obtain ⟨ao,nn,cp,hvf⟩ :∃ao nn cp,v = .slice ao nn cp:=by obtain ⟨ao,cap,h⟩:=own_form p3; exact ⟨_,_,_,h⟩
     subst hvf
     have e0:w7.drew.cell? ⟨w2.heap.size,0,none⟩=some (.slice ao nn cp):=p1.cell
     have eP:w7.drew.cell? ⟨w2.heap.size + 1,0,none⟩=some (.int .i64 (a:Int)):=by rw [← ha]; exact p2.cell
     have eT:w7.drew.cell? ⟨w.heap.size,0,none⟩=some (.string u):=p8.1
     have e1:w7.drew.cell? ⟨w5.heap.size,1,none⟩=some (.int .i64 (fN:Int)):=d1
     have HA:Hid (∀w8,Keeps (fun _=>False) w7.drew w8→∃ao' n' c' w9,Sem.run Tryz.prog (Builtin.append_ #[47,47] 47 #[.slice ao nn cp,.slice (some ⟨w8.heap.size,0,none⟩) 1 1]) (w8.alloc (.cells #[.string (u.extract a fN)] 9)) = .ok (.slice ao' n' c') w9∧w8.cell? ⟨w2.heap.size,0,none⟩=some (.slice ao nn cp)∧w9.cell? ⟨w2.heap.size,0,none⟩=some (.slice ao nn cp)∧w9.frozen? ⟨w2.heap.size,0,none⟩=false∧(w9.setCell ⟨w2.heap.size,0,none⟩ (.slice ao' n' c')).cell? ⟨w5.heap.size,2,none⟩=some (.int .i64 (tN:Int))∧(w9.setCell ⟨w2.heap.size,0,none⟩ (.slice ao' n' c')).cell? ⟨w2.heap.size + 1,0,none⟩=some (.int .i64 (a:Int))∧(w9.setCell ⟨w2.heap.size,0,none⟩ (.slice ao' n' c')).frozen? ⟨w2.heap.size + 1,0,none⟩=false∧Hid (∃F4 Fu4,PtR w2.heap.size (w2.heap.size + 1) w.heap.size w.heap.size u ((w9.setCell ⟨w2.heap.size,0,none⟩ (.slice ao' n' c')).setCell ⟨w2.heap.size + 1,0,none⟩ (.int .i64 (tN:Int))).heap.size (out ++ [m]) ((w9.setCell ⟨w2.heap.size,0,none⟩ (.slice ao' n' c')).setCell ⟨w2.heap.size + 1,0,none⟩ (.int .i64 (tN:Int))) F4 Fu4∧Trn w7 F5 Fu ((w9.setCell ⟨w2.heap.size,0,none⟩ (.slice ao' n' c')).setCell ⟨w2.heap.size + 1,0,none⟩ (.int .i64 (tN:Int))) F4 Fu4)):=by
      intro w8 k8
      obtain ⟨v',w9,hrun,⟨ao',n',c',rfl⟩,s1,s2,s3,s4,s5,hfin⟩:=ptR_add (b':=0) (m:=m) (w2:=w8) hFb7 (by omega) hskip p1 p2 p3 p4 p5 p6 p7 p8 p9 hn (by omega) (kd.trans k8)
      rw [show m.fr.toNat=fN by omega,ha] at hrun
      rw [htN] at hfin
      rw [ha] at s4
      refine ⟨ao',n',c',w9,hrun,s1,s2,s3,?_,s4.cell,free_of s4,hfin⟩
      have hbS:(w9.setCell ⟨w2.heap.size,0,none⟩ (.slice ao' n' c')).heap[w5.heap.size]? = some (.cells #[.bool m.ok,.int .i64 m.fr,.int .i64 m.up,.slice ag ng cg] 29 (0,0)):=by rw [s5.block _ (lt_of_block hb7) hFu5]; exact hb7
      rw [cell_of hbS,← htN]; rfl
     have HX:Hid (exOf (spC u (out ++ [m])) .normal):=by
      show exOf (spC u (out ++ [m])) .normal
      rw [spC_snoc,if_neg hnb]
      rfl
     clear p1 p2 p3 p4 p5 p6 p7 p8 p9 hb7 hFb7 kd hb k6 k7 hskip hnb hFu5 hcc
     have z:(((tN:Int) == (fN:Int))=false)∨(((tN:Int) == (fN:Int))=true∧((fN:Int) == 0)=false∧((fN:Int) == (u.size:Int))=false):=by
      by_cases c:tN=fN
      ·exact Or.inr ⟨by simp; omega,by simp; omega,by simp; omega⟩
      ·exact Or.inl (by simp; omega)
     clear cSk hfN htN h3 h4 h5 hft htu hUw hfF
     rcases z with z1 | ⟨z1,z2,z3⟩
     ·gi_wp2
      refine wpIn_region_any (by kernel_rfl) ?_
      change wpAnyIn _ _ _ _ _ _ _ _ _ (World.drew _)
      apply cut1
      intro st6
      apply cut1
      intro st06
      apply cut1
      intro st5
      apply cut1
      intro st05
      apply cut1
      intro st1
      apply cut1
      intro st2
      apply cut1
      intro st4
      apply cut1
      intro st01
      apply cut1
      intro st02
      apply cut1
      intro st04
      apply cut1
      intro st12
      apply cut1
      intro st14
      apply cut1
      intro st24
      apply cut1
      intro st3
      apply cut1
      intro st012
      apply cut1
      intro st014
      apply cut1
      intro st024
      apply cut1
      intro st03
      apply cut1
      intro st124
      apply cut1
      intro st13
      apply cut1
      intro st23
      apply cut1
      intro st0124
      apply cut1
      intro st013
      apply cut1
      intro st023
      apply cut1
      intro st123
      refine wpAnyIn_ready (rs := [0,1,2,3]) (by kernel_rfl) (by simp) ?_
      refine AllReadyIn.cons rfl (fun K hK=>?_) ?_
      go_simp
      refine hK _ _ ?_
      clear hK K
      refine wpAnyIn_ready (rs := [1,2,3]) (by kernel_rfl) (by simp) ?_
      exact st123
      refine AllReadyIn.cons rfl (fun K hK=>?_) ?_
      go_simp
      refine hK _ _ ?_
      clear hK K
      refine wpAnyIn_ready (rs := [0,2,3]) (by kernel_rfl) (by simp) ?_
      exact st023
      refine AllReadyIn.cons rfl (fun K hK=>?_) ?_
      go_simp
      refine hK _ _ ?_
      clear hK K
      refine wpAnyIn_ready (rs := [0,1,3]) (by kernel_rfl) (by simp) ?_
      exact st013
      refine AllReadyIn.cons rfl (fun K hK=>?_) ?_
      go_simp
      refine hK _ _ ?_
      clear hK K
      refine wpAnyIn_ready (rs := [0,1,2,4]) (by kernel_rfl) (by simp) ?_
      exact st0124
      exact AllReadyIn.nil
      refine AllReadyIn.cons rfl (fun K hK=>?_) ?_
      go_simp
      refine hK _ _ ?_
      clear hK K
      refine wpAnyIn_ready (rs := [2,3]) (by kernel_rfl) (by simp) ?_
      exact st23
      refine AllReadyIn.cons rfl (fun K hK=>?_) ?_
      go_simp
      refine hK _ _ ?_
      clear hK K
      refine wpAnyIn_ready (rs := [1,3]) (by kernel_rfl) (by simp) ?_
      exact st13
      refine AllReadyIn.cons rfl (fun K hK=>?_) ?_
      go_simp
      refine hK _ _ ?_
      clear hK K
      refine wpAnyIn_ready (rs := [1,2,4]) (by kernel_rfl) (by simp) ?_
      exact st124
      exact AllReadyIn.nil
      refine AllReadyIn.cons rfl (fun K hK=>?_) ?_
      go_simp
      refine hK _ _ ?_
      clear hK K
      refine wpAnyIn_ready (rs := [2,3]) (by kernel_rfl) (by simp) ?_
      exact st23
      refine AllReadyIn.cons rfl (fun K hK=>?_) ?_
      go_simp
      refine hK _ _ ?_
      clear hK K
      refine wpAnyIn_ready (rs := [0,3]) (by kernel_rfl) (by simp) ?_
      exact st03
      refine AllReadyIn.cons rfl (fun K hK=>?_) ?_
      go_simp
      refine hK _ _ ?_
      clear hK K
      refine wpAnyIn_ready (rs := [0,2,4]) (by kernel_rfl) (by simp) ?_
      exact st024
      exact AllReadyIn.nil
      refine AllReadyIn.cons rfl (fun K hK=>?_) ?_
      go_simp
      refine hK _ _ ?_
      clear hK K
      refine wpAnyIn_ready (rs := [1,3]) (by kernel_rfl) (by simp) ?_
      exact st13
      refine AllReadyIn.cons rfl (fun K hK=>?_) ?_
      go_simp
      refine hK _ _ ?_
      clear hK K
      refine wpAnyIn_ready (rs := [0,3]) (by kernel_rfl) (by simp) ?_
      exact st03
      refine AllReadyIn.cons rfl (fun K hK=>?_) ?_
      go_simp
      refine hK _ _ ?_
      clear hK K
      refine wpAnyIn_ready (rs := [0,1,4]) (by kernel_rfl) (by simp) ?_
      exact st014
      exact AllReadyIn.nil
      refine AllReadyIn.cons rfl (fun K hK=>?_) ?_
      go_simp
      refine hK _ _ ?_
      clear hK K
      refine wpAnyIn_ready (rs := [1,2,4]) (by kernel_rfl) (by simp) ?_
      exact st124
      refine AllReadyIn.cons rfl (fun K hK=>?_) ?_
      go_simp
      refine hK _ _ ?_
      clear hK K
      refine wpAnyIn_ready (rs := [0,2,4]) (by kernel_rfl) (by simp) ?_
      exact st024
      refine AllReadyIn.cons rfl (fun K hK=>?_) ?_
      go_simp
      refine hK _ _ ?_
      clear hK K
      refine wpAnyIn_ready (rs := [0,1,4]) (by kernel_rfl) (by simp) ?_
      exact st014
      refine AllReadyIn.cons rfl (fun K hK=>?_) ?_
      go_simp
      refine hK _ _ ?_
      clear hK K
      refine wpAnyIn_ready (rs := [0,1,2]) (by kernel_rfl) (by simp) ?_
      exact st012
      exact AllReadyIn.nil
      refine AllReadyIn.cons rfl (fun K hK=>?_) ?_
      go_simp
      refine hK _ _ ?_
      clear hK K
      refine wpAnyIn_ready (rs := [3]) (by kernel_rfl) (by simp) ?_
      exact st3
      refine AllReadyIn.cons rfl (fun K hK=>?_) ?_
      go_simp
      refine hK _ _ ?_
      clear hK K
      refine wpAnyIn_ready (rs := [2,4]) (by kernel_rfl) (by simp) ?_
      exact st24
      exact AllReadyIn.nil
      refine AllReadyIn.cons rfl (fun K hK=>?_) ?_
      go_simp
      refine hK _ _ ?_
      clear hK K
      refine wpAnyIn_ready (rs := [3]) (by kernel_rfl) (by simp) ?_
      exact st3
      refine AllReadyIn.cons rfl (fun K hK=>?_) ?_
      go_simp
      refine hK _ _ ?_
      clear hK K
      refine wpAnyIn_ready (rs := [1,4]) (by kernel_rfl) (by simp) ?_
      exact st14
      exact AllReadyIn.nil
      refine AllReadyIn.cons rfl (fun K hK=>?_) ?_
      go_simp
      refine hK _ _ ?_
      clear hK K
      refine wpAnyIn_ready (rs := [2,4]) (by kernel_rfl) (by simp) ?_
      exact st24
      refine AllReadyIn.cons rfl (fun K hK=>?_) ?_
      go_simp
      refine hK _ _ ?_
      clear hK K
      refine wpAnyIn_ready (rs := [1,4]) (by kernel_rfl) (by simp) ?_
      exact st14
      refine AllReadyIn.cons rfl (fun K hK=>?_) ?_
      go_simp
      refine hK _ _ ?_
      clear hK K
      refine wpAnyIn_ready (rs := [1,2]) (by kernel_rfl) (by simp) ?_
      exact st12
      exact AllReadyIn.nil
      refine AllReadyIn.cons rfl (fun K hK=>?_) ?_
      go_simp
      refine hK _ _ ?_
      clear hK K
      refine wpAnyIn_ready (rs := [3]) (by kernel_rfl) (by simp) ?_
      exact st3
      refine AllReadyIn.cons rfl (fun K hK=>?_) ?_
      go_simp
      refine hK _ _ ?_
      clear hK K
      refine wpAnyIn_ready (rs := [0,4]) (by kernel_rfl) (by simp) ?_
      exact st04
      exact AllReadyIn.nil
      refine AllReadyIn.cons rfl (fun K hK=>?_) ?_
      go_simp
      refine hK _ _ ?_
      clear hK K
      refine wpAnyIn_ready (rs := [2,4]) (by kernel_rfl) (by simp) ?_
      exact st24
      refine AllReadyIn.cons rfl (fun K hK=>?_) ?_
      go_simp
      refine hK _ _ ?_
      clear hK K
      refine wpAnyIn_ready (rs := [0,4]) (by kernel_rfl) (by simp) ?_
      exact st04
      refine AllReadyIn.cons rfl (fun K hK=>?_) ?_
      go_simp
      refine hK _ _ ?_
      clear hK K
      refine wpAnyIn_ready (rs := [0,2]) (by kernel_rfl) (by simp) ?_
      exact st02
      exact AllReadyIn.nil
      refine AllReadyIn.cons rfl (fun K hK=>?_) ?_
      go_simp
      refine hK _ _ ?_
      clear hK K
      refine wpAnyIn_ready (rs := [1,4]) (by kernel_rfl) (by simp) ?_
      exact st14
      refine AllReadyIn.cons rfl (fun K hK=>?_) ?_
      go_simp
      refine hK _ _ ?_
      clear hK K
      refine wpAnyIn_ready (rs := [0,4]) (by kernel_rfl) (by simp) ?_
      exact st04
      refine AllReadyIn.cons rfl (fun K hK=>?_) ?_
      go_simp
      refine hK _ _ ?_
      clear hK K
      refine wpAnyIn_ready (rs := [0,1]) (by kernel_rfl) (by simp) ?_
      exact st01
      exact AllReadyIn.nil
      refine AllReadyIn.cons rfl (fun K hK=>?_) ?_
      go_simp
      refine hK _ _ ?_
      clear hK K
      refine wpAnyIn_ready (rs := [1,2]) (by kernel_rfl) (by simp) ?_
      exact st12
      refine AllReadyIn.cons rfl (fun K hK=>?_) ?_
      go_simp
      refine hK _ _ ?_
      clear hK K
      refine wpAnyIn_ready (rs := [0,2]) (by kernel_rfl) (by simp) ?_
      exact st02
      refine AllReadyIn.cons rfl (fun K hK=>?_) ?_
      go_simp
      refine hK _ _ ?_
      clear hK K
      refine wpAnyIn_ready (rs := [0,1]) (by kernel_rfl) (by simp) ?_
      exact st01
      exact AllReadyIn.nil
      refine AllReadyIn.cons rfl (fun K hK=>?_) ?_
      go_simp
      refine hK _ _ ?_
      clear hK K
      refine wpAnyIn_ready (rs := [4]) (by kernel_rfl) (by simp) ?_
      exact st4
      exact AllReadyIn.nil
      refine AllReadyIn.cons rfl (fun K hK=>?_) ?_
      go_simp
      refine hK _ _ ?_
      clear hK K
      refine wpAnyIn_ready (rs := [4]) (by kernel_rfl) (by simp) ?_
      exact st4
      refine AllReadyIn.cons rfl (fun K hK=>?_) ?_
      go_simp
      refine hK _ _ ?_
      clear hK K
      refine wpAnyIn_ready (rs := [2]) (by kernel_rfl) (by simp) ?_
      exact st2
      exact AllReadyIn.nil
      refine AllReadyIn.cons rfl (fun K hK=>?_) ?_
      go_simp
      refine hK _ _ ?_
      clear hK K
      refine wpAnyIn_ready (rs := [4]) (by kernel_rfl) (by simp) ?_
      exact st4
      refine AllReadyIn.cons rfl (fun K hK=>?_) ?_
      go_simp
      refine hK _ _ ?_
      clear hK K
      refine wpAnyIn_ready (rs := [1]) (by kernel_rfl) (by simp) ?_
      exact st1
      exact AllReadyIn.nil
      refine AllReadyIn.cons rfl (fun K hK=>?_) ?_
      go_simp
      refine hK _ _ ?_
      clear hK K
      refine wpAnyIn_ready (rs := [2]) (by kernel_rfl) (by simp) ?_
      exact st2
      refine AllReadyIn.cons rfl (fun K hK=>?_) ?_
      go_simp
      refine hK _ _ ?_
      clear hK K
      refine wpAnyIn_ready (rs := [1]) (by kernel_rfl) (by simp) ?_
      exact st1
      exact AllReadyIn.nil
      refine AllReadyIn.cons rfl (fun K hK=>?_) ?_
      go_simp
      refine hK _ _ ?_
      clear hK K
      refine wpAnyIn_ready (rs := [4]) (by kernel_rfl) (by simp) ?_
      exact st4
      refine AllReadyIn.cons rfl (fun K hK=>?_) ?_
      go_simp
      refine hK _ _ ?_
      clear hK K
      refine wpAnyIn_ready (rs := [0,5]) (by kernel_rfl) (by simp) ?_
      exact st05
      exact AllReadyIn.nil
      refine AllReadyIn.cons rfl (fun K hK=>?_) ?_
      go_simp
      refine hK _ _ ?_
      clear hK K
      refine wpAnyIn_ready (rs := [2]) (by kernel_rfl) (by simp) ?_
      exact st2
      refine AllReadyIn.cons rfl (fun K hK=>?_) ?_
      go_simp
      refine hK _ _ ?_
      clear hK K
      refine wpAnyIn_ready (rs := [0,5]) (by kernel_rfl) (by simp) ?_
      exact st05
      exact AllReadyIn.nil
      refine AllReadyIn.cons rfl (fun K hK=>?_) ?_
      go_simp
      refine hK _ _ ?_
      clear hK K
      refine wpAnyIn_ready (rs := [1]) (by kernel_rfl) (by simp) ?_
      exact st1
      refine AllReadyIn.cons rfl (fun K hK=>?_) ?_
      go_simp
      refine hK _ _ ?_
      clear hK K
      refine wpAnyIn_ready (rs := [0,5]) (by kernel_rfl) (by simp) ?_
      exact st05
      exact AllReadyIn.nil
      refine AllReadyIn.cons rfl (fun K hK=>?_) ?_
      go_simp
      refine hK _ _ ?_
      clear hK K
      refine wpAnyIn_ready (rs := [5]) (by kernel_rfl) (by simp) ?_
      exact st5
      exact AllReadyIn.nil
      refine AllReadyIn.cons rfl (fun K hK=>?_) ?_
      go_simp
      refine hK _ _ ?_
      clear hK K
      refine wpAnyIn_ready (rs := [5]) (by kernel_rfl) (by simp) ?_
      exact st5
      exact AllReadyIn.nil
      refine AllReadyIn.cons rfl (fun K hK=>?_) ?_
      go_simp
      refine hK _ _ ?_
      clear hK K
      refine wpAnyIn_ready (rs := [5]) (by kernel_rfl) (by simp) ?_
      exact st5
      exact AllReadyIn.nil
      refine AllReadyIn.cons rfl (fun K hK=>?_) ?_
      go_simp
      refine hK _ _ ?_
      clear hK K
      refine wpAnyIn_ready (rs := [5]) (by kernel_rfl) (by simp) ?_
      exact st5
      refine AllReadyIn.cons rfl (fun K hK=>?_) ?_
      go_simp
      refine hK _ _ ?_
      clear hK K
      refine wpAnyIn_ready (rs := [0,6]) (by kernel_rfl) (by simp) ?_
      exact st06
      exact AllReadyIn.nil
      refine AllReadyIn.cons rfl (fun K hK=>?_) ?_
      go_simp
      refine hK _ _ ?_
      clear hK K
      refine wpAnyIn_ready (rs := [6]) (by kernel_rfl) (by simp) ?_
      exact st6
      exact AllReadyIn.nil
      refine AllReadyIn.cons rfl (fun K hK=>?_) ?_
      go_simp
      refine hK _ _ ?_
      clear hK K
      refine wpAnyIn_ready (rs := [6]) (by kernel_rfl) (by simp) ?_
      exact st6
      refine AllReadyIn.cons rfl (fun K hK=>?_) ?_
      go_simp
      gi_wp2_with (gi_at_call 47; refine hcl.mono ?_; rintro e w8 ⟨rfl,hk8⟩; obtain ⟨ao',n',c',w9,hrun,s1,s2,s3,s5,s6,s7,HF⟩:=HA.out w8 hk8; have s4:=cell_keeps s1 ((Keeps.refl (fun _=>False) w8).alloc (.cells #[.string (u.extract a fN)] 9)); have hst:(store ⟨w2.heap.size,0,none⟩ (.slice ao' n' c')).run Tryz.prog w9 = .ok () (w9.setCell ⟨w2.heap.size,0,none⟩ (.slice ao' n' c')):=(by rw [run_store _ _ _ _ _ rfl]; simp [s2,s3,go_sem]))
      refine wpAnyIn_ready (rs := [0,7]) (by kernel_rfl) (by simp) ?_
      refine AllReadyIn.cons rfl (fun K hK=>?_) ?_
      go_simp
      refine hK _ _ ?_
      clear hK K
      refine wpAnyIn_ready (rs := [7]) (by kernel_rfl) (by simp) ?_
      refine AllReadyIn.cons rfl (fun K hK=>?_) ?_
      go_simp
      refine hK _ _ ?_
      clear hK K
      refine wpAnyIn_ready (rs := [8]) (by kernel_rfl) (by simp) ?_
      refine AllReadyIn.cons rfl (fun K hK=>?_) ?_
      refine step_appendIn_run rfl _ _ _ _ rfl rfl _ _ _ _ rfl rfl hrun ?_
      refine hK _ _ ?_
      clear hK K
      refine wpAnyIn_ready (rs := [9]) (by kernel_rfl) (by simp) ?_
      refine AllReadyIn.cons rfl (fun K hK=>?_) ?_
      go_simp
      refine hK _ _ ?_
      clear hK K
      refine wpAnyIn_done (by kernel_rfl) ?_ _
      gi_wp2
      exact ⟨HX.out,HF.out⟩
      exact AllReadyIn.nil
      exact AllReadyIn.nil
      exact AllReadyIn.nil
      refine AllReadyIn.cons rfl (fun K hK=>?_) ?_
      go_simp
      refine hK _ _ ?_
      clear hK K
      refine wpAnyIn_ready (rs := [0]) (by kernel_rfl) (by simp) ?_
      refine AllReadyIn.cons rfl (fun K hK=>?_) ?_
      go_simp
      refine hK _ _ ?_
      clear hK K
      refine wpAnyIn_ready (rs := [8]) (by kernel_rfl) (by simp) ?_
      refine AllReadyIn.cons rfl (fun K hK=>?_) ?_
      refine step_appendIn_run rfl _ _ _ _ rfl rfl _ _ _ _ rfl rfl hrun ?_
      refine hK _ _ ?_
      clear hK K
      refine wpAnyIn_ready (rs := [9]) (by kernel_rfl) (by simp) ?_
      refine AllReadyIn.cons rfl (fun K hK=>?_) ?_
      go_simp
      refine hK _ _ ?_
      clear hK K
      refine wpAnyIn_done (by kernel_rfl) ?_ _
      gi_wp2
      exact ⟨HX.out,HF.out⟩
      exact AllReadyIn.nil
      exact AllReadyIn.nil
      exact AllReadyIn.nil
      exact AllReadyIn.nil
      exact AllReadyIn.nil
      refine AllReadyIn.cons rfl (fun K hK=>?_) ?_
      go_simp
      gi_wp2_with (gi_at_call 47; refine hcl.mono ?_; rintro e w8 ⟨rfl,hk8⟩; obtain ⟨ao',n',c',w9,hrun,s1,s2,s3,s5,s6,s7,HF⟩:=HA.out w8 hk8; have s4:=cell_keeps s1 ((Keeps.refl (fun _=>False) w8).alloc (.cells #[.string (u.extract a fN)] 9)); have hst:(store ⟨w2.heap.size,0,none⟩ (.slice ao' n' c')).run Tryz.prog w9 = .ok () (w9.setCell ⟨w2.heap.size,0,none⟩ (.slice ao' n' c')):=(by rw [run_store _ _ _ _ _ rfl]; simp [s2,s3,go_sem]))
      refine wpAnyIn_ready (rs := [7]) (by kernel_rfl) (by simp) ?_
      refine AllReadyIn.cons rfl (fun K hK=>?_) ?_
      go_simp
      refine hK _ _ ?_
      clear hK K
      refine wpAnyIn_ready (rs := [8]) (by kernel_rfl) (by simp) ?_
      refine AllReadyIn.cons rfl (fun K hK=>?_) ?_
      refine step_appendIn_run rfl _ _ _ _ rfl rfl _ _ _ _ rfl rfl hrun ?_
      refine hK _ _ ?_
      clear hK K
      refine wpAnyIn_ready (rs := [9]) (by kernel_rfl) (by simp) ?_
      refine AllReadyIn.cons rfl (fun K hK=>?_) ?_
      go_simp
      refine hK _ _ ?_
      clear hK K
      refine wpAnyIn_done (by kernel_rfl) ?_ _
      gi_wp2
      exact ⟨HX.out,HF.out⟩
      exact AllReadyIn.nil
      exact AllReadyIn.nil
      exact AllReadyIn.nil
      exact AllReadyIn.nil
     ·gi_wp2
      refine wpIn_region_any (by kernel_rfl) ?_
      change wpAnyIn _ _ _ _ _ _ _ _ _ (World.drew _)
      apply cut1
      intro st6
      apply cut1
      intro st06
      apply cut1
      intro st5
      apply cut1
      intro st05
      apply cut1
      intro st1
      apply cut1
      intro st2
      apply cut1
      intro st4
      apply cut1
      intro st01
      apply cut1
      intro st02
      apply cut1
      intro st04
      apply cut1
      intro st12
      apply cut1
      intro st14
      apply cut1
      intro st24
      apply cut1
      intro st3
      apply cut1
      intro st012
      apply cut1
      intro st014
      apply cut1
      intro st024
      apply cut1
      intro st03
      apply cut1
      intro st124
      apply cut1
      intro st13
      apply cut1
      intro st23
      apply cut1
      intro st0124
      apply cut1
      intro st013
      apply cut1
      intro st023
      apply cut1
      intro st123
      refine wpAnyIn_ready (rs := [0,1,2,3]) (by kernel_rfl) (by simp) ?_
      refine AllReadyIn.cons rfl (fun K hK=>?_) ?_
      go_simp
      refine hK _ _ ?_
      clear hK K
      refine wpAnyIn_ready (rs := [1,2,3]) (by kernel_rfl) (by simp) ?_
      exact st123
      refine AllReadyIn.cons rfl (fun K hK=>?_) ?_
      go_simp
      refine hK _ _ ?_
      clear hK K
      refine wpAnyIn_ready (rs := [0,2,3]) (by kernel_rfl) (by simp) ?_
      exact st023
      refine AllReadyIn.cons rfl (fun K hK=>?_) ?_
      go_simp
      refine hK _ _ ?_
      clear hK K
      refine wpAnyIn_ready (rs := [0,1,3]) (by kernel_rfl) (by simp) ?_
      exact st013
      refine AllReadyIn.cons rfl (fun K hK=>?_) ?_
      go_simp
      refine hK _ _ ?_
      clear hK K
      refine wpAnyIn_ready (rs := [0,1,2,4]) (by kernel_rfl) (by simp) ?_
      exact st0124
      exact AllReadyIn.nil
      refine AllReadyIn.cons rfl (fun K hK=>?_) ?_
      go_simp
      refine hK _ _ ?_
      clear hK K
      refine wpAnyIn_ready (rs := [2,3]) (by kernel_rfl) (by simp) ?_
      exact st23
      refine AllReadyIn.cons rfl (fun K hK=>?_) ?_
      go_simp
      refine hK _ _ ?_
      clear hK K
      refine wpAnyIn_ready (rs := [1,3]) (by kernel_rfl) (by simp) ?_
      exact st13
      refine AllReadyIn.cons rfl (fun K hK=>?_) ?_
      go_simp
      refine hK _ _ ?_
      clear hK K
      refine wpAnyIn_ready (rs := [1,2,4]) (by kernel_rfl) (by simp) ?_
      exact st124
      exact AllReadyIn.nil
      refine AllReadyIn.cons rfl (fun K hK=>?_) ?_
      go_simp
      refine hK _ _ ?_
      clear hK K
      refine wpAnyIn_ready (rs := [2,3]) (by kernel_rfl) (by simp) ?_
      exact st23
      refine AllReadyIn.cons rfl (fun K hK=>?_) ?_
      go_simp
      refine hK _ _ ?_
      clear hK K
      refine wpAnyIn_ready (rs := [0,3]) (by kernel_rfl) (by simp) ?_
      exact st03
      refine AllReadyIn.cons rfl (fun K hK=>?_) ?_
      go_simp
      refine hK _ _ ?_
      clear hK K
      refine wpAnyIn_ready (rs := [0,2,4]) (by kernel_rfl) (by simp) ?_
      exact st024
      exact AllReadyIn.nil
      refine AllReadyIn.cons rfl (fun K hK=>?_) ?_
      go_simp
      refine hK _ _ ?_
      clear hK K
      refine wpAnyIn_ready (rs := [1,3]) (by kernel_rfl) (by simp) ?_
      exact st13
      refine AllReadyIn.cons rfl (fun K hK=>?_) ?_
      go_simp
      refine hK _ _ ?_
      clear hK K
      refine wpAnyIn_ready (rs := [0,3]) (by kernel_rfl) (by simp) ?_
      exact st03
      refine AllReadyIn.cons rfl (fun K hK=>?_) ?_
      go_simp
      refine hK _ _ ?_
      clear hK K
      refine wpAnyIn_ready (rs := [0,1,4]) (by kernel_rfl) (by simp) ?_
      exact st014
      exact AllReadyIn.nil
      refine AllReadyIn.cons rfl (fun K hK=>?_) ?_
      go_simp
      refine hK _ _ ?_
      clear hK K
      refine wpAnyIn_ready (rs := [1,2,4]) (by kernel_rfl) (by simp) ?_
      exact st124
      refine AllReadyIn.cons rfl (fun K hK=>?_) ?_
      go_simp
      refine hK _ _ ?_
      clear hK K
      refine wpAnyIn_ready (rs := [0,2,4]) (by kernel_rfl) (by simp) ?_
      exact st024
      refine AllReadyIn.cons rfl (fun K hK=>?_) ?_
      go_simp
      refine hK _ _ ?_
      clear hK K
      refine wpAnyIn_ready (rs := [0,1,4]) (by kernel_rfl) (by simp) ?_
      exact st014
      refine AllReadyIn.cons rfl (fun K hK=>?_) ?_
      go_simp
      refine hK _ _ ?_
      clear hK K
      refine wpAnyIn_ready (rs := [0,1,2]) (by kernel_rfl) (by simp) ?_
      exact st012
      exact AllReadyIn.nil
      refine AllReadyIn.cons rfl (fun K hK=>?_) ?_
      go_simp
      refine hK _ _ ?_
      clear hK K
      refine wpAnyIn_ready (rs := [3]) (by kernel_rfl) (by simp) ?_
      exact st3
      refine AllReadyIn.cons rfl (fun K hK=>?_) ?_
      go_simp
      refine hK _ _ ?_
      clear hK K
      refine wpAnyIn_ready (rs := [2,4]) (by kernel_rfl) (by simp) ?_
      exact st24
      exact AllReadyIn.nil
      refine AllReadyIn.cons rfl (fun K hK=>?_) ?_
      go_simp
      refine hK _ _ ?_
      clear hK K
      refine wpAnyIn_ready (rs := [3]) (by kernel_rfl) (by simp) ?_
      exact st3
      refine AllReadyIn.cons rfl (fun K hK=>?_) ?_
      go_simp
      refine hK _ _ ?_
      clear hK K
      refine wpAnyIn_ready (rs := [1,4]) (by kernel_rfl) (by simp) ?_
      exact st14
      exact AllReadyIn.nil
      refine AllReadyIn.cons rfl (fun K hK=>?_) ?_
      go_simp
      refine hK _ _ ?_
      clear hK K
      refine wpAnyIn_ready (rs := [2,4]) (by kernel_rfl) (by simp) ?_
      exact st24
      refine AllReadyIn.cons rfl (fun K hK=>?_) ?_
      go_simp
      refine hK _ _ ?_
      clear hK K
      refine wpAnyIn_ready (rs := [1,4]) (by kernel_rfl) (by simp) ?_
      exact st14
      refine AllReadyIn.cons rfl (fun K hK=>?_) ?_
      go_simp
      refine hK _ _ ?_
      clear hK K
      refine wpAnyIn_ready (rs := [1,2]) (by kernel_rfl) (by simp) ?_
      exact st12
      exact AllReadyIn.nil
      refine AllReadyIn.cons rfl (fun K hK=>?_) ?_
      go_simp
      refine hK _ _ ?_
      clear hK K
      refine wpAnyIn_ready (rs := [3]) (by kernel_rfl) (by simp) ?_
      exact st3
      refine AllReadyIn.cons rfl (fun K hK=>?_) ?_
      go_simp
      refine hK _ _ ?_
      clear hK K
      refine wpAnyIn_ready (rs := [0,4]) (by kernel_rfl) (by simp) ?_
      exact st04
      exact AllReadyIn.nil
      refine AllReadyIn.cons rfl (fun K hK=>?_) ?_
      go_simp
      refine hK _ _ ?_
      clear hK K
      refine wpAnyIn_ready (rs := [2,4]) (by kernel_rfl) (by simp) ?_
      exact st24
      refine AllReadyIn.cons rfl (fun K hK=>?_) ?_
      go_simp
      refine hK _ _ ?_
      clear hK K
      refine wpAnyIn_ready (rs := [0,4]) (by kernel_rfl) (by simp) ?_
      exact st04
      refine AllReadyIn.cons rfl (fun K hK=>?_) ?_
      go_simp
      refine hK _ _ ?_
      clear hK K
      refine wpAnyIn_ready (rs := [0,2]) (by kernel_rfl) (by simp) ?_
      exact st02
      exact AllReadyIn.nil
      refine AllReadyIn.cons rfl (fun K hK=>?_) ?_
      go_simp
      refine hK _ _ ?_
      clear hK K
      refine wpAnyIn_ready (rs := [1,4]) (by kernel_rfl) (by simp) ?_
      exact st14
      refine AllReadyIn.cons rfl (fun K hK=>?_) ?_
      go_simp
      refine hK _ _ ?_
      clear hK K
      refine wpAnyIn_ready (rs := [0,4]) (by kernel_rfl) (by simp) ?_
      exact st04
      refine AllReadyIn.cons rfl (fun K hK=>?_) ?_
      go_simp
      refine hK _ _ ?_
      clear hK K
      refine wpAnyIn_ready (rs := [0,1]) (by kernel_rfl) (by simp) ?_
      exact st01
      exact AllReadyIn.nil
      refine AllReadyIn.cons rfl (fun K hK=>?_) ?_
      go_simp
      refine hK _ _ ?_
      clear hK K
      refine wpAnyIn_ready (rs := [1,2]) (by kernel_rfl) (by simp) ?_
      exact st12
      refine AllReadyIn.cons rfl (fun K hK=>?_) ?_
      go_simp
      refine hK _ _ ?_
      clear hK K
      refine wpAnyIn_ready (rs := [0,2]) (by kernel_rfl) (by simp) ?_
      exact st02
      refine AllReadyIn.cons rfl (fun K hK=>?_) ?_
      go_simp
      refine hK _ _ ?_
      clear hK K
      refine wpAnyIn_ready (rs := [0,1]) (by kernel_rfl) (by simp) ?_
      exact st01
      exact AllReadyIn.nil
      refine AllReadyIn.cons rfl (fun K hK=>?_) ?_
      go_simp
      refine hK _ _ ?_
      clear hK K
      refine wpAnyIn_ready (rs := [4]) (by kernel_rfl) (by simp) ?_
      exact st4
      exact AllReadyIn.nil
      refine AllReadyIn.cons rfl (fun K hK=>?_) ?_
      go_simp
      refine hK _ _ ?_
      clear hK K
      refine wpAnyIn_ready (rs := [4]) (by kernel_rfl) (by simp) ?_
      exact st4
      refine AllReadyIn.cons rfl (fun K hK=>?_) ?_
      go_simp
      refine hK _ _ ?_
      clear hK K
      refine wpAnyIn_ready (rs := [2]) (by kernel_rfl) (by simp) ?_
      exact st2
      exact AllReadyIn.nil
      refine AllReadyIn.cons rfl (fun K hK=>?_) ?_
      go_simp
      refine hK _ _ ?_
      clear hK K
      refine wpAnyIn_ready (rs := [4]) (by kernel_rfl) (by simp) ?_
      exact st4
      refine AllReadyIn.cons rfl (fun K hK=>?_) ?_
      go_simp
      refine hK _ _ ?_
      clear hK K
      refine wpAnyIn_ready (rs := [1]) (by kernel_rfl) (by simp) ?_
      exact st1
      exact AllReadyIn.nil
      refine AllReadyIn.cons rfl (fun K hK=>?_) ?_
      go_simp
      refine hK _ _ ?_
      clear hK K
      refine wpAnyIn_ready (rs := [2]) (by kernel_rfl) (by simp) ?_
      exact st2
      refine AllReadyIn.cons rfl (fun K hK=>?_) ?_
      go_simp
      refine hK _ _ ?_
      clear hK K
      refine wpAnyIn_ready (rs := [1]) (by kernel_rfl) (by simp) ?_
      exact st1
      exact AllReadyIn.nil
      refine AllReadyIn.cons rfl (fun K hK=>?_) ?_
      go_simp
      refine hK _ _ ?_
      clear hK K
      refine wpAnyIn_ready (rs := [4]) (by kernel_rfl) (by simp) ?_
      exact st4
      refine AllReadyIn.cons rfl (fun K hK=>?_) ?_
      go_simp
      refine hK _ _ ?_
      clear hK K
      refine wpAnyIn_ready (rs := [0,5]) (by kernel_rfl) (by simp) ?_
      exact st05
      exact AllReadyIn.nil
      refine AllReadyIn.cons rfl (fun K hK=>?_) ?_
      go_simp
      refine hK _ _ ?_
      clear hK K
      refine wpAnyIn_ready (rs := [2]) (by kernel_rfl) (by simp) ?_
      exact st2
      refine AllReadyIn.cons rfl (fun K hK=>?_) ?_
      go_simp
      refine hK _ _ ?_
      clear hK K
      refine wpAnyIn_ready (rs := [0,5]) (by kernel_rfl) (by simp) ?_
      exact st05
      exact AllReadyIn.nil
      refine AllReadyIn.cons rfl (fun K hK=>?_) ?_
      go_simp
      refine hK _ _ ?_
      clear hK K
      refine wpAnyIn_ready (rs := [1]) (by kernel_rfl) (by simp) ?_
      exact st1
      refine AllReadyIn.cons rfl (fun K hK=>?_) ?_
      go_simp
      refine hK _ _ ?_
      clear hK K
      refine wpAnyIn_ready (rs := [0,5]) (by kernel_rfl) (by simp) ?_
      exact st05
      exact AllReadyIn.nil
      refine AllReadyIn.cons rfl (fun K hK=>?_) ?_
      go_simp
      refine hK _ _ ?_
      clear hK K
      refine wpAnyIn_ready (rs := [5]) (by kernel_rfl) (by simp) ?_
      exact st5
      exact AllReadyIn.nil
      refine AllReadyIn.cons rfl (fun K hK=>?_) ?_
      go_simp
      refine hK _ _ ?_
      clear hK K
      refine wpAnyIn_ready (rs := [5]) (by kernel_rfl) (by simp) ?_
      exact st5
      exact AllReadyIn.nil
      refine AllReadyIn.cons rfl (fun K hK=>?_) ?_
      go_simp
      refine hK _ _ ?_
      clear hK K
      refine wpAnyIn_ready (rs := [5]) (by kernel_rfl) (by simp) ?_
      exact st5
      exact AllReadyIn.nil
      refine AllReadyIn.cons rfl (fun K hK=>?_) ?_
      go_simp
      refine hK _ _ ?_
      clear hK K
      refine wpAnyIn_ready (rs := [5]) (by kernel_rfl) (by simp) ?_
      exact st5
      refine AllReadyIn.cons rfl (fun K hK=>?_) ?_
      go_simp
      refine hK _ _ ?_
      clear hK K
      refine wpAnyIn_ready (rs := [0,6]) (by kernel_rfl) (by simp) ?_
      exact st06
      exact AllReadyIn.nil
      refine AllReadyIn.cons rfl (fun K hK=>?_) ?_
      go_simp
      refine hK _ _ ?_
      clear hK K
      refine wpAnyIn_ready (rs := [6]) (by kernel_rfl) (by simp) ?_
      exact st6
      exact AllReadyIn.nil
      refine AllReadyIn.cons rfl (fun K hK=>?_) ?_
      go_simp
      refine hK _ _ ?_
      clear hK K
      refine wpAnyIn_ready (rs := [6]) (by kernel_rfl) (by simp) ?_
      exact st6
      refine AllReadyIn.cons rfl (fun K hK=>?_) ?_
      go_simp
      gi_wp2_with (gi_at_call 47; refine hcl.mono ?_; rintro e w8 ⟨rfl,hk8⟩; obtain ⟨ao',n',c',w9,hrun,s1,s2,s3,s5,s6,s7,HF⟩:=HA.out w8 hk8; have s4:=cell_keeps s1 ((Keeps.refl (fun _=>False) w8).alloc (.cells #[.string (u.extract a fN)] 9)); have hst:(store ⟨w2.heap.size,0,none⟩ (.slice ao' n' c')).run Tryz.prog w9 = .ok () (w9.setCell ⟨w2.heap.size,0,none⟩ (.slice ao' n' c')):=(by rw [run_store _ _ _ _ _ rfl]; simp [s2,s3,go_sem]))
      refine wpAnyIn_ready (rs := [0,7]) (by kernel_rfl) (by simp) ?_
      refine AllReadyIn.cons rfl (fun K hK=>?_) ?_
      go_simp
      refine hK _ _ ?_
      clear hK K
      refine wpAnyIn_ready (rs := [7]) (by kernel_rfl) (by simp) ?_
      refine AllReadyIn.cons rfl (fun K hK=>?_) ?_
      go_simp
      refine hK _ _ ?_
      clear hK K
      refine wpAnyIn_ready (rs := [8]) (by kernel_rfl) (by simp) ?_
      refine AllReadyIn.cons rfl (fun K hK=>?_) ?_
      refine step_appendIn_run rfl _ _ _ _ rfl rfl _ _ _ _ rfl rfl hrun ?_
      refine hK _ _ ?_
      clear hK K
      refine wpAnyIn_ready (rs := [9]) (by kernel_rfl) (by simp) ?_
      refine AllReadyIn.cons rfl (fun K hK=>?_) ?_
      go_simp
      refine hK _ _ ?_
      clear hK K
      refine wpAnyIn_done (by kernel_rfl) ?_ _
      gi_wp2
      exact ⟨HX.out,HF.out⟩
      exact AllReadyIn.nil
      exact AllReadyIn.nil
      exact AllReadyIn.nil
      refine AllReadyIn.cons rfl (fun K hK=>?_) ?_
      go_simp
      refine hK _ _ ?_
      clear hK K
      refine wpAnyIn_ready (rs := [0]) (by kernel_rfl) (by simp) ?_
      refine AllReadyIn.cons rfl (fun K hK=>?_) ?_
      go_simp
      refine hK _ _ ?_
      clear hK K
      refine wpAnyIn_ready (rs := [8]) (by kernel_rfl) (by simp) ?_
      refine AllReadyIn.cons rfl (fun K hK=>?_) ?_
      refine step_appendIn_run rfl _ _ _ _ rfl rfl _ _ _ _ rfl rfl hrun ?_
      refine hK _ _ ?_
      clear hK K
      refine wpAnyIn_ready (rs := [9]) (by kernel_rfl) (by simp) ?_
      refine AllReadyIn.cons rfl (fun K hK=>?_) ?_
      go_simp
      refine hK _ _ ?_
      clear hK K
      refine wpAnyIn_done (by kernel_rfl) ?_ _
      gi_wp2
      exact ⟨HX.out,HF.out⟩
      exact AllReadyIn.nil
      exact AllReadyIn.nil
      exact AllReadyIn.nil
      exact AllReadyIn.nil
      exact AllReadyIn.nil
      refine AllReadyIn.cons rfl (fun K hK=>?_) ?_
      go_simp
      gi_wp2_with (gi_at_call 47; refine hcl.mono ?_; rintro e w8 ⟨rfl,hk8⟩; obtain ⟨ao',n',c',w9,hrun,s1,s2,s3,s5,s6,s7,HF⟩:=HA.out w8 hk8; have s4:=cell_keeps s1 ((Keeps.refl (fun _=>False) w8).alloc (.cells #[.string (u.extract a fN)] 9)); have hst:(store ⟨w2.heap.size,0,none⟩ (.slice ao' n' c')).run Tryz.prog w9 = .ok () (w9.setCell ⟨w2.heap.size,0,none⟩ (.slice ao' n' c')):=(by rw [run_store _ _ _ _ _ rfl]; simp [s2,s3,go_sem]))
      refine wpAnyIn_ready (rs := [7]) (by kernel_rfl) (by simp) ?_
      refine AllReadyIn.cons rfl (fun K hK=>?_) ?_
      go_simp
      refine hK _ _ ?_
      clear hK K
      refine wpAnyIn_ready (rs := [8]) (by kernel_rfl) (by simp) ?_
      refine AllReadyIn.cons rfl (fun K hK=>?_) ?_
      refine step_appendIn_run rfl _ _ _ _ rfl rfl _ _ _ _ rfl rfl hrun ?_
      refine hK _ _ ?_
      clear hK K
      refine wpAnyIn_ready (rs := [9]) (by kernel_rfl) (by simp) ?_
      refine AllReadyIn.cons rfl (fun K hK=>?_) ?_
      go_simp
      refine hK _ _ ?_
      clear hK K
      refine wpAnyIn_done (by kernel_rfl) ?_ _
      gi_wp2
      exact ⟨HX.out,HF.out⟩
      exact AllReadyIn.nil
      exact AllReadyIn.nil
      exact AllReadyIn.nil
      exact AllReadyIn.nil
  case done =>
   intro D b' out T' tv w5 F5 Fr5 hout hst ht5 hD hrd2
   have hmt:out=allRef s u:=by
    rw [hout,mtold_ord (N:=u.size) (fun o m h=>spC_end o m h) _ 0 [] hord,List.nil_append,hCu,hCG,allRef_eq hw ht]
   have hall:out.length≤201:=by
    rw [hout,mtold_ord (N:=u.size) (fun o m h=>spC_end o m h) _ 0 [] hord,List.nil_append]
    have h1:=allX_len hX (C.u.size + 2) 0 (Nat.zero_le _)
    rw [hCu] at h1 ⊢
    omega
   have hin:(spA u out).2≤u.size:=by
    have h1:=sp_in (allL (fun a=>(smx u [] f a).map (mtOf C.G a)) C.u.size (C.u.size + 2) 0) 0 ([],0) hord (Nat.le_refl _) (Nat.zero_le _)
    rw [hout,mtold_ord (N:=u.size) (fun o m h=>spC_end o m h) _ 0 [] hord,List.nil_append]
    exact h1
   have hfew:=sp_few (u:=u) out
   obtain ⟨A1,A2,eA,dA,hSe,C1,C2,eC,dC,⟨r1,r2,r3⟩,D1,D2,eD,dD,⟨v,p1,p2,p3,p4,p5,p6,p7,p8,p9⟩,hmine⟩:=id hst
   obtain ⟨ao,nn,cp,hvf⟩ :∃ao nn cp,v = .slice ao nn cp:=by obtain ⟨ao,cap,h⟩:=own_form p3; exact ⟨_,_,_,h⟩
   subst hvf
   obtain ⟨a,ha⟩ :∃a,(spA u out).2=a:=⟨_,rfl⟩
   rw [ha] at p2 hin
   have kd:Keeps (fun _=>False) w5 w5.drew:=(Keeps.refl _ _).drew
   have e0:w5.drew.cell? ⟨w2.heap.size,0,none⟩=some (.slice ao nn cp):=p1.cell
   have eP:w5.drew.cell? ⟨w2.heap.size + 1,0,none⟩=some (.int .i64 (a:Int)):=p2.cell
   have eT:w5.drew.cell? ⟨w.heap.size,0,none⟩=some (.string u):=p8.1
   have hcl:CallsIn Fence.wide 2 Tryz.prog 47 #[.string (u.extract a u.size)] w5.drew _:=callsIn_wide.2 (sclone_any (u.extract a u.size) w5.drew (by rw [ByteArray.size_extract]; omega))
   have hsl :∀w:World,(Instr.slice 9 (.string u) (some (.int .i64 (a:Int))) none none).run Tryz.prog w = .ok (.string (u.extract a u.size)) w:=fun w=>by
    rw [run_slice_string_l (P:=Tryz.prog) (w:=w) (t:=9) (s:=u) Tryz.underlying9 .i64 (a:Int) (by omega) (by omega)]
    rfl
   have hnv :∀k,(Value.slice ao nn cp).ownBlock=some k→k≠D:=fun k hk e=>by
    subst e
    have h1:=p3
    unfold Sr World.ownsRow at h1
    obtain ⟨-,⟨h2,-⟩ | ⟨g2,c2,cur,h2,-,h3,-⟩⟩:=h1
    ·rw [h2] at hk; simp [Value.ownBlock] at hk
    ·rw [h2] at hk
     simp only [Value.ownBlock,Option.some.injEq] at hk
     subst hk
     rw [r3] at h3
     cases h3
   have hk05:Keeps (fun _=>False) w w5:=hk04.trans' ht5.keeps (fun i hi h=>by
    rcases h with h | h
    ·omega
    ·have:=(hF' i (hlt i h).1).2.1; omega)
   have HA:Hid (∀w8,Keeps (fun _=>False) w5.drew w8→∃ao' n' c' w9,Sem.run Tryz.prog (Builtin.append_ #[47,47] 47 #[.slice ao nn cp,.slice (some ⟨w8.heap.size,0,none⟩) 1 1]) (w8.alloc (.cells #[.string (u.extract a u.size)] 9)) = .ok (.slice ao' n' c') w9∧w8.cell? ⟨w2.heap.size,0,none⟩=some (.slice ao nn cp)∧Hid (w9.heap[D]? = some (.deferred (some [])))∧Hid (SplitP s u w (.returned (.slice ao' n' c')) (w9.putObj D (.deferred none)))):=by
    intro w8 k8
    have k58:=kd.trans k8
    have h8:=k58.size
    obtain ⟨v',w9,hrun,ho,hk9,hbk⟩:=app_str (ownsRow_keeps p3 k58 (fun _ _ h=>h)) (Nat.le_trans p9 h8) (by omega) (u.extract a u.size)
    obtain ⟨ao',cp',rfl⟩:=own_form ho
    have hD5:D < w5.heap.size:=(Array.getElem?_eq_some_iff.1 r3).1
    have hD9:w9.heap[D]? = some (.deferred (some [])):=by
     rw [hk9.block D (by omega) (fun h=>hnv D h rfl),k58.block D hD5 (fun h=>h)]
     exact r3
    refine ⟨ao',_,cp',w9,hrun,cell_keeps e0 k8,hD9,ao',_,cp',rfl,?_,?_⟩
    ·have hn9 :∀k,(Value.slice ao' ((spA u out).1 ++ [u.extract a u.size]).length cp').ownBlock=some k→k≠D:=fun k hk e=>by
      rcases hbk k hk with h | h
      ·exact hnv k h e
      ·omega
     have h10:=ownsRow_keeps ho (put_keeps w9 D (.deferred none)) (fun k hk e=>hn9 k hk e)
     unfold Sr splitRef
     rw [if_pos hw,← hmt,ha]
     exact h10
    ·refine ((hk05.trans k58).trans' hk9 (fun i hi h=>?_)).trans' (put_keeps w9 D (.deferred none)) (fun i hi h=>?_)
     ·have:=(p3.lt i h).1; omega
     ·have:=hk04.size; omega
   have hcc:spC u out=none∨spC u out=some (.exit 0):=by
    unfold spC
    split
    ·split
     ·exact Or.inr rfl
     ·exact Or.inl rfl
    ·exact Or.inl rfl
   clear p1 p2 p3 p4 p5 p6 p7 p8 p9 r1 r2 r3 hst ht5 hS4 bA hFb4 hR4 hF' hlt hok hT hres bS4 bS bP4 bP l24 hnot hsf2 HE hX hout hmt hk05 hnv kd hSe eA dA eC dC eD dD hmine c3 c1 b1 hord hall hfew hD hrd2
   rcases hcc with hcc | hcc
   ·rw [hcc]
    gi_wp2
    refine wpIn_region_any (by kernel_rfl) ?_
    change wpAnyIn _ _ _ _ _ _ _ _ _ (World.drew _)
    apply cut1
    intro sr4
    apply cut1
    intro sr04
    apply cut1
    intro sr3
    apply cut1
    intro sr03
    apply cut1
    intro sr1
    apply cut1
    intro sr2
    apply cut1
    intro sr01
    apply cut1
    intro sr02
    apply cut1
    intro sr12
    refine wpAnyIn_ready (rs := [0,1,2]) (by kernel_rfl) (by simp) ?_
    refine AllReadyIn.cons rfl (fun K hK=>?_) ?_
    go_simp
    refine hK _ _ ?_
    clear hK K
    refine wpAnyIn_ready (rs := [1,2]) (by kernel_rfl) (by simp) ?_
    exact sr12
    refine AllReadyIn.cons rfl (fun K hK=>?_) ?_
    go_simp
    refine hK _ _ ?_
    clear hK K
    refine wpAnyIn_ready (rs := [0,2]) (by kernel_rfl) (by simp) ?_
    exact sr02
    refine AllReadyIn.cons rfl (fun K hK=>?_) ?_
    go_simp
    refine hK _ _ ?_
    clear hK K
    refine wpAnyIn_ready (rs := [0,1]) (by kernel_rfl) (by simp) ?_
    exact sr01
    exact AllReadyIn.nil
    refine AllReadyIn.cons rfl (fun K hK=>?_) ?_
    go_simp
    refine hK _ _ ?_
    clear hK K
    refine wpAnyIn_ready (rs := [2]) (by kernel_rfl) (by simp) ?_
    exact sr2
    refine AllReadyIn.cons rfl (fun K hK=>?_) ?_
    go_simp
    refine hK _ _ ?_
    clear hK K
    refine wpAnyIn_ready (rs := [1]) (by kernel_rfl) (by simp) ?_
    exact sr1
    exact AllReadyIn.nil
    refine AllReadyIn.cons rfl (fun K hK=>?_) ?_
    go_simp
    refine hK _ _ ?_
    clear hK K
    refine wpAnyIn_ready (rs := [2]) (by kernel_rfl) (by simp) ?_
    exact sr2
    refine AllReadyIn.cons rfl (fun K hK=>?_) ?_
    go_simp
    refine hK _ _ ?_
    clear hK K
    refine wpAnyIn_ready (rs := [0,3]) (by kernel_rfl) (by simp) ?_
    exact sr03
    exact AllReadyIn.nil
    refine AllReadyIn.cons rfl (fun K hK=>?_) ?_
    go_simp
    refine hK _ _ ?_
    clear hK K
    refine wpAnyIn_ready (rs := [1]) (by kernel_rfl) (by simp) ?_
    exact sr1
    refine AllReadyIn.cons rfl (fun K hK=>?_) ?_
    go_simp
    refine hK _ _ ?_
    clear hK K
    refine wpAnyIn_ready (rs := [0,3]) (by kernel_rfl) (by simp) ?_
    exact sr03
    exact AllReadyIn.nil
    refine AllReadyIn.cons rfl (fun K hK=>?_) ?_
    go_simp
    refine hK _ _ ?_
    clear hK K
    refine wpAnyIn_ready (rs := [3]) (by kernel_rfl) (by simp) ?_
    exact sr3
    exact AllReadyIn.nil
    refine AllReadyIn.cons rfl (fun K hK=>?_) ?_
    go_simp
    refine hK _ _ ?_
    clear hK K
    refine wpAnyIn_ready (rs := [3]) (by kernel_rfl) (by simp) ?_
    exact sr3
    exact AllReadyIn.nil
    refine AllReadyIn.cons rfl (fun K hK=>?_) ?_
    go_simp
    refine hK _ _ ?_
    clear hK K
    refine wpAnyIn_ready (rs := [3]) (by kernel_rfl) (by simp) ?_
    exact sr3
    refine AllReadyIn.cons rfl (fun K hK=>?_) ?_
    go_simp
    refine hK _ _ ?_
    clear hK K
    refine wpAnyIn_ready (rs := [0,4]) (by kernel_rfl) (by simp) ?_
    exact sr04
    exact AllReadyIn.nil
    refine AllReadyIn.cons rfl (fun K hK=>?_) ?_
    go_simp
    refine hK _ _ ?_
    clear hK K
    refine wpAnyIn_ready (rs := [4]) (by kernel_rfl) (by simp) ?_
    exact sr4
    exact AllReadyIn.nil
    refine AllReadyIn.cons rfl (fun K hK=>?_) ?_
    go_simp
    refine hK _ _ ?_
    clear hK K
    refine wpAnyIn_ready (rs := [4]) (by kernel_rfl) (by simp) ?_
    exact sr4
    refine AllReadyIn.cons rfl (fun K hK=>?_) ?_
    go_simp
    gi_wp2_with (gi_at_call 47; refine hcl.mono ?_; rintro e w8 ⟨rfl,hk8⟩; obtain ⟨ao',n',c',w9,hrun,s1,HD,HF⟩:=HA.out w8 hk8; have s4:=cell_keeps s1 ((Keeps.refl (fun _=>False) w8).alloc (.cells #[.string (u.extract a u.size)] 9)))
    refine wpAnyIn_ready (rs := [0,5]) (by kernel_rfl) (by simp) ?_
    refine AllReadyIn.cons rfl (fun K hK=>?_) ?_
    go_simp
    refine hK _ _ ?_
    clear hK K
    refine wpAnyIn_ready (rs := [5]) (by kernel_rfl) (by simp) ?_
    refine AllReadyIn.cons rfl (fun K hK=>?_) ?_
    go_simp
    refine hK _ _ ?_
    clear hK K
    refine wpAnyIn_ready (rs := [6]) (by kernel_rfl) (by simp) ?_
    refine AllReadyIn.cons rfl (fun K hK=>?_) ?_
    refine step_appendIn_run rfl _ _ _ _ rfl rfl _ _ _ _ rfl rfl hrun ?_
    refine hK _ _ ?_
    clear hK K
    refine wpAnyIn_ready (rs := [7]) (by kernel_rfl) (by simp) ?_
    refine AllReadyIn.cons rfl (fun K hK=>?_) ?_
    go_simp
    refine hK _ _ ?_
    clear hK K
    refine wpAnyIn_done (by kernel_rfl) ?_ _
    gi_wp2
    refine ⟨by simp,.inl ⟨_,_,rfl,run_takeDeferred HD.out,?_⟩⟩
    refine ⟨_,results_tmp rfl _ _ _,?_⟩
    exact HF.out
    exact AllReadyIn.nil
    exact AllReadyIn.nil
    exact AllReadyIn.nil
    refine AllReadyIn.cons rfl (fun K hK=>?_) ?_
    go_simp
    refine hK _ _ ?_
    clear hK K
    refine wpAnyIn_ready (rs := [0]) (by kernel_rfl) (by simp) ?_
    refine AllReadyIn.cons rfl (fun K hK=>?_) ?_
    go_simp
    refine hK _ _ ?_
    clear hK K
    refine wpAnyIn_ready (rs := [6]) (by kernel_rfl) (by simp) ?_
    refine AllReadyIn.cons rfl (fun K hK=>?_) ?_
    refine step_appendIn_run rfl _ _ _ _ rfl rfl _ _ _ _ rfl rfl hrun ?_
    refine hK _ _ ?_
    clear hK K
    refine wpAnyIn_ready (rs := [7]) (by kernel_rfl) (by simp) ?_
    refine AllReadyIn.cons rfl (fun K hK=>?_) ?_
    go_simp
    refine hK _ _ ?_
    clear hK K
    refine wpAnyIn_done (by kernel_rfl) ?_ _
    gi_wp2
    refine ⟨by simp,.inl ⟨_,_,rfl,run_takeDeferred HD.out,?_⟩⟩
    refine ⟨_,results_tmp rfl _ _ _,?_⟩
    exact HF.out
    exact AllReadyIn.nil
    exact AllReadyIn.nil
    exact AllReadyIn.nil
    exact AllReadyIn.nil
    exact AllReadyIn.nil
    refine AllReadyIn.cons rfl (fun K hK=>?_) ?_
    go_simp
    gi_wp2_with (gi_at_call 47; refine hcl.mono ?_; rintro e w8 ⟨rfl,hk8⟩; obtain ⟨ao',n',c',w9,hrun,s1,HD,HF⟩:=HA.out w8 hk8; have s4:=cell_keeps s1 ((Keeps.refl (fun _=>False) w8).alloc (.cells #[.string (u.extract a u.size)] 9)))
    refine wpAnyIn_ready (rs := [5]) (by kernel_rfl) (by simp) ?_
    refine AllReadyIn.cons rfl (fun K hK=>?_) ?_
    go_simp
    refine hK _ _ ?_
    clear hK K
    refine wpAnyIn_ready (rs := [6]) (by kernel_rfl) (by simp) ?_
    refine AllReadyIn.cons rfl (fun K hK=>?_) ?_
    refine step_appendIn_run rfl _ _ _ _ rfl rfl _ _ _ _ rfl rfl hrun ?_
    refine hK _ _ ?_
    clear hK K
    refine wpAnyIn_ready (rs := [7]) (by kernel_rfl) (by simp) ?_
    refine AllReadyIn.cons rfl (fun K hK=>?_) ?_
    go_simp
    refine hK _ _ ?_
    clear hK K
    refine wpAnyIn_done (by kernel_rfl) ?_ _
    gi_wp2
    refine ⟨by simp,.inl ⟨_,_,rfl,run_takeDeferred HD.out,?_⟩⟩
    refine ⟨_,results_tmp rfl _ _ _,?_⟩
    exact HF.out
    exact AllReadyIn.nil
    exact AllReadyIn.nil
    exact AllReadyIn.nil
    exact AllReadyIn.nil
   ·rw [hcc]
    gi_wp2
    refine wpIn_region_any (by kernel_rfl) ?_
    change wpAnyIn _ _ _ _ _ _ _ _ _ (World.drew _)
    apply cut1
    intro sr4
    apply cut1
    intro sr04
    apply cut1
    intro sr3
    apply cut1
    intro sr03
    apply cut1
    intro sr1
    apply cut1
    intro sr2
    apply cut1
    intro sr01
    apply cut1
    intro sr02
    apply cut1
    intro sr12
    refine wpAnyIn_ready (rs := [0,1,2]) (by kernel_rfl) (by simp) ?_
    refine AllReadyIn.cons rfl (fun K hK=>?_) ?_
    go_simp
    refine hK _ _ ?_
    clear hK K
    refine wpAnyIn_ready (rs := [1,2]) (by kernel_rfl) (by simp) ?_
    exact sr12
    refine AllReadyIn.cons rfl (fun K hK=>?_) ?_
    go_simp
    refine hK _ _ ?_
    clear hK K
    refine wpAnyIn_ready (rs := [0,2]) (by kernel_rfl) (by simp) ?_
    exact sr02
    refine AllReadyIn.cons rfl (fun K hK=>?_) ?_
    go_simp
    refine hK _ _ ?_
    clear hK K
    refine wpAnyIn_ready (rs := [0,1]) (by kernel_rfl) (by simp) ?_
    exact sr01
    exact AllReadyIn.nil
    refine AllReadyIn.cons rfl (fun K hK=>?_) ?_
    go_simp
    refine hK _ _ ?_
    clear hK K
    refine wpAnyIn_ready (rs := [2]) (by kernel_rfl) (by simp) ?_
    exact sr2
    refine AllReadyIn.cons rfl (fun K hK=>?_) ?_
    go_simp
    refine hK _ _ ?_
    clear hK K
    refine wpAnyIn_ready (rs := [1]) (by kernel_rfl) (by simp) ?_
    exact sr1
    exact AllReadyIn.nil
    refine AllReadyIn.cons rfl (fun K hK=>?_) ?_
    go_simp
    refine hK _ _ ?_
    clear hK K
    refine wpAnyIn_ready (rs := [2]) (by kernel_rfl) (by simp) ?_
    exact sr2
    refine AllReadyIn.cons rfl (fun K hK=>?_) ?_
    go_simp
    refine hK _ _ ?_
    clear hK K
    refine wpAnyIn_ready (rs := [0,3]) (by kernel_rfl) (by simp) ?_
    exact sr03
    exact AllReadyIn.nil
    refine AllReadyIn.cons rfl (fun K hK=>?_) ?_
    go_simp
    refine hK _ _ ?_
    clear hK K
    refine wpAnyIn_ready (rs := [1]) (by kernel_rfl) (by simp) ?_
    exact sr1
    refine AllReadyIn.cons rfl (fun K hK=>?_) ?_
    go_simp
    refine hK _ _ ?_
    clear hK K
    refine wpAnyIn_ready (rs := [0,3]) (by kernel_rfl) (by simp) ?_
    exact sr03
    exact AllReadyIn.nil
    refine AllReadyIn.cons rfl (fun K hK=>?_) ?_
    go_simp
    refine hK _ _ ?_
    clear hK K
    refine wpAnyIn_ready (rs := [3]) (by kernel_rfl) (by simp) ?_
    exact sr3
    exact AllReadyIn.nil
    refine AllReadyIn.cons rfl (fun K hK=>?_) ?_
    go_simp
    refine hK _ _ ?_
    clear hK K
    refine wpAnyIn_ready (rs := [3]) (by kernel_rfl) (by simp) ?_
    exact sr3
    exact AllReadyIn.nil
    refine AllReadyIn.cons rfl (fun K hK=>?_) ?_
    go_simp
    refine hK _ _ ?_
    clear hK K
    refine wpAnyIn_ready (rs := [3]) (by kernel_rfl) (by simp) ?_
    exact sr3
    refine AllReadyIn.cons rfl (fun K hK=>?_) ?_
    go_simp
    refine hK _ _ ?_
    clear hK K
    refine wpAnyIn_ready (rs := [0,4]) (by kernel_rfl) (by simp) ?_
    exact sr04
    exact AllReadyIn.nil
    refine AllReadyIn.cons rfl (fun K hK=>?_) ?_
    go_simp
    refine hK _ _ ?_
    clear hK K
    refine wpAnyIn_ready (rs := [4]) (by kernel_rfl) (by simp) ?_
    exact sr4
    exact AllReadyIn.nil
    refine AllReadyIn.cons rfl (fun K hK=>?_) ?_
    go_simp
    refine hK _ _ ?_
    clear hK K
    refine wpAnyIn_ready (rs := [4]) (by kernel_rfl) (by simp) ?_
    exact sr4
    refine AllReadyIn.cons rfl (fun K hK=>?_) ?_
    go_simp
    gi_wp2_with (gi_at_call 47; refine hcl.mono ?_; rintro e w8 ⟨rfl,hk8⟩; obtain ⟨ao',n',c',w9,hrun,s1,HD,HF⟩:=HA.out w8 hk8; have s4:=cell_keeps s1 ((Keeps.refl (fun _=>False) w8).alloc (.cells #[.string (u.extract a u.size)] 9)))
    refine wpAnyIn_ready (rs := [0,5]) (by kernel_rfl) (by simp) ?_
    refine AllReadyIn.cons rfl (fun K hK=>?_) ?_
    go_simp
    refine hK _ _ ?_
    clear hK K
    refine wpAnyIn_ready (rs := [5]) (by kernel_rfl) (by simp) ?_
    refine AllReadyIn.cons rfl (fun K hK=>?_) ?_
    go_simp
    refine hK _ _ ?_
    clear hK K
    refine wpAnyIn_ready (rs := [6]) (by kernel_rfl) (by simp) ?_
    refine AllReadyIn.cons rfl (fun K hK=>?_) ?_
    refine step_appendIn_run rfl _ _ _ _ rfl rfl _ _ _ _ rfl rfl hrun ?_
    refine hK _ _ ?_
    clear hK K
    refine wpAnyIn_ready (rs := [7]) (by kernel_rfl) (by simp) ?_
    refine AllReadyIn.cons rfl (fun K hK=>?_) ?_
    go_simp
    refine hK _ _ ?_
    clear hK K
    refine wpAnyIn_done (by kernel_rfl) ?_ _
    gi_wp2
    refine ⟨by simp,.inl ⟨_,_,rfl,run_takeDeferred HD.out,?_⟩⟩
    refine ⟨_,results_tmp rfl _ _ _,?_⟩
    exact HF.out
    exact AllReadyIn.nil
    exact AllReadyIn.nil
    exact AllReadyIn.nil
    refine AllReadyIn.cons rfl (fun K hK=>?_) ?_
    go_simp
    refine hK _ _ ?_
    clear hK K
    refine wpAnyIn_ready (rs := [0]) (by kernel_rfl) (by simp) ?_
    refine AllReadyIn.cons rfl (fun K hK=>?_) ?_
    go_simp
    refine hK _ _ ?_
    clear hK K
    refine wpAnyIn_ready (rs := [6]) (by kernel_rfl) (by simp) ?_
    refine AllReadyIn.cons rfl (fun K hK=>?_) ?_
    refine step_appendIn_run rfl _ _ _ _ rfl rfl _ _ _ _ rfl rfl hrun ?_
    refine hK _ _ ?_
    clear hK K
    refine wpAnyIn_ready (rs := [7]) (by kernel_rfl) (by simp) ?_
    refine AllReadyIn.cons rfl (fun K hK=>?_) ?_
    go_simp
    refine hK _ _ ?_
    clear hK K
    refine wpAnyIn_done (by kernel_rfl) ?_ _
    gi_wp2
    refine ⟨by simp,.inl ⟨_,_,rfl,run_takeDeferred HD.out,?_⟩⟩
    refine ⟨_,results_tmp rfl _ _ _,?_⟩
    exact HF.out
    exact AllReadyIn.nil
    exact AllReadyIn.nil
    exact AllReadyIn.nil
    exact AllReadyIn.nil
    exact AllReadyIn.nil
    refine AllReadyIn.cons rfl (fun K hK=>?_) ?_
    go_simp
    gi_wp2_with (gi_at_call 47; refine hcl.mono ?_; rintro e w8 ⟨rfl,hk8⟩; obtain ⟨ao',n',c',w9,hrun,s1,HD,HF⟩:=HA.out w8 hk8; have s4:=cell_keeps s1 ((Keeps.refl (fun _=>False) w8).alloc (.cells #[.string (u.extract a u.size)] 9)))
    refine wpAnyIn_ready (rs := [5]) (by kernel_rfl) (by simp) ?_
    refine AllReadyIn.cons rfl (fun K hK=>?_) ?_
    go_simp
    refine hK _ _ ?_
    clear hK K
    refine wpAnyIn_ready (rs := [6]) (by kernel_rfl) (by simp) ?_
    refine AllReadyIn.cons rfl (fun K hK=>?_) ?_
    refine step_appendIn_run rfl _ _ _ _ rfl rfl _ _ _ _ rfl rfl hrun ?_
    refine hK _ _ ?_
    clear hK K
    refine wpAnyIn_ready (rs := [7]) (by kernel_rfl) (by simp) ?_
    refine AllReadyIn.cons rfl (fun K hK=>?_) ?_
    go_simp
    refine hK _ _ ?_
    clear hK K
    refine wpAnyIn_done (by kernel_rfl) ?_ _
    gi_wp2
    refine ⟨by simp,.inl ⟨_,_,rfl,run_takeDeferred HD.out,?_⟩⟩
    refine ⟨_,results_tmp rfl _ _ _,?_⟩
    exact HF.out
    exact AllReadyIn.nil
    exact AllReadyIn.nil
    exact AllReadyIn.nil
    exact AllReadyIn.nil
 ·have hsf2:CallsIn Fence.wide 2 Tryz.prog 33 #[.string s,.string u,.int .i64 0] (w.alloc (.cells #[.string u] 9)) (fun e w2=>e = .returned (.pointer none)∧Hid (SplitP s u w (.returned (.slice none 0 0)) w2)):=by
   refine callsIn_wide.2 (hsf.mono ?_)
   rintro e w2 (⟨h1,rfl,h2⟩ | ⟨g,f,X2,h1,-⟩)
   ·refine ⟨rfl,none,0,0,rfl,?_,k1.trans h2⟩
    unfold splitRef
    rw [if_neg hw]
    exact World.ownsRow_nil _ _ _ _
   ·rw [h1] at hw; exact absurd rfl hw
  clear hsf hpn
  gi_wp2
  refine wpIn_wide.2 (wp_scope_straight ((wpIn_wide (n:=3)).1 ?_))
  gi_wp2_with (gi_at_call 33; refine hsf2.mono ?_; rintro e w2 ⟨rfl,HP⟩)
  refine ⟨_,results_tmp rfl _ _ _,?_⟩
  exact HP.out
end Go.Proofs.YthkmmeamplmnhaaGreat
