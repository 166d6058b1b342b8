import Derived.Test.YthkmmeamplmnhaaGreatYq
import Derived.RegionIn
import Derived.Sort.LoopGhostIn
import Derived.Stop.RegionWithIn
namespace Go.Proofs.YthkmmeamplmnhaaGreat
open Go.RowKit
set_option linter.unusedVariables false
def nxt (m:Mt):Nat:=(if m.up=m.fr then m.up + 1 else m.up).toNat
def allL (L:Nat→List Mt) (N:Nat):Nat→Nat→List Mt
 | 0,_ => []
 | k + 1,p=>match findL L (N + 1 - p) p with
   | none => []
   | some m=>m :: allL L N k (nxt m)
def allRef (s u:ByteArray):List Mt:=allL (fun a=>waysRef s u (a:Int)) u.size (u.size + 2) 0
theorem findL_at {L:Nat→List Mt} {m:Mt} :∀(k p:Nat),findL L k p=some m→∃a,p≤a∧a < p + k∧m∈L a:=by
 intro k
 induction k with
 | zero=>intro p h; cases h
 | succ k ih =>
   intro p h
   simp only [findL] at h
   split at h
   ·obtain ⟨a,h1,h2,h3⟩:=ih _ h
    exact ⟨a,by omega,by omega,h3⟩
   ·rename_i m' l e
    cases h
    exact ⟨p,Nat.le_refl _,by omega,by rw [e]; simp⟩
theorem waysRef_in {s u:ByteArray} {p:Int} {m:Mt} (h:m∈waysRef s u p):m.ok=true∧m.fr=p∧p≤m.up∧m.up≤(u.size:Int):=by
 unfold waysRef at h
 split at h
 ·rename_i hw
  cases ht:treeRef s with
  | error x=>rw [ht] at h; simp at h
  | ok gf =>
    obtain ⟨g,f⟩:=gf
    rw [ht] at h
    simp only [List.mem_map] at h
    obtain ⟨e,he,rfl⟩:=h
    simp only [wanted,Bool.and_eq_true,decide_eq_true_eq] at hw
    obtain ⟨hfg,-,-,-⟩:=tree_fg ht
    have hX:OkX u.size 0 g (smx u [] f):=fp_ok u ⟨f,hfg,rfl⟩
    have h1:=(hX p.toNat (by omega)).2 e he
    have h2:=h1.1
    have h3:=h1.2.1
    exact ⟨rfl,by show ((p.toNat:Nat):Int)=p; omega,by show p≤((e.1:Nat):Int); omega,by show ((e.1:Nat):Int)≤_; omega⟩
 ·simp at h
theorem Srch.mine {C:Cx} {w:World} {F:Bs2} {bg:Value} {X:Xs} {B:Option Bo} {mine mine':List Rsc} (h:Srch C w F bg X B mine) (hm :∀R∈mine,R∈mine') (ho :∀R∈mine',RscOk R):Srch C w F bg X B mine':=⟨h.st.mine hm,h.nn,ho⟩
theorem nextFrom_any {w:World} {ok:Bool} {fr up:Int} {a:Option Addr} {n c:Nat} (h0:0≤up) (h1:up≤1000000) :
  Calls Tryz.prog 57 #[.agg #[.bool ok,.int .i64 fr,.int .i64 up,.slice a n c]] w fun e w'=>e = .returned (.int .i64 (if up=fr then up + 1 else up))∧Keeps (fun _=>False) w w':=by
 by_cases he:up=fr
 ·have hz:(up == fr)=true:=by simp [he]
  rw [if_pos he]
  clear he
  go_enter Tryz.func57,Tryz.ntmps57
  go_wp2
  go_ret
  exact ⟨rfl,(Keeps.refl _ _).alloc _⟩
 ·have hz:(up == fr)=false:=by simp [he]
  rw [if_neg he]
  clear he
  go_enter Tryz.func57,Tryz.ntmps57
  go_wp2
  go_ret
  exact ⟨rfl,(Keeps.refl _ _).alloc _⟩
theorem matches_any {w:World} {X:Nat}:Calls Tryz.prog 35 #[.pointer (some ⟨X,0,none⟩)] w fun e w'=>e = .returned (.func (.func 56) #[] #[.pointer (some ⟨w.heap.size,0,none⟩)])∧At1 w' w.heap.size 61 (.pointer (some ⟨X,0,none⟩))∧Keeps (fun _=>False) w w':=by
 have hmf :∀(fn:Fn) (first cap:Array Value) (w:World),(Instr.makeFunc fn first cap).run Tryz.prog w = .ok (.func fn first cap) w:=fun _ _ _ _=>rfl
 have b1:=heap_alloc_new w (.cells #[.pointer (some ⟨X,0,none⟩)] 61)
 go_enter Tryz.func35,Tryz.ntmps35
 go_wp2
 go_ret
 exact ⟨rfl,b1,(Keeps.refl _ _).alloc _⟩
structure Mlr where
 l:Nat
 on:List Mt→Bool
 cap:Nat
 tl:Nat→List Mt→Rsc
structure MlrOk (N:Nat) (Al:List Mt) (τ:Mlr):Prop where
 ok :∀b out,RscOk (τ.tl b out)
 on0 : τ.on []=true
 up :∀b b' out w F Fr,b≤b'→τ.tl b out w F Fr→τ.tl b' out w F Fr
 yl :∀(w:World) (F Fr:Bs2) (b:Nat) (out:List Mt) (m:Mt) (a:Option Addr) (n c:Nat),Fb w F→τ.tl b out w F Fr→b≤w.heap.size→w.ownsRow b 31 2 (.slice a n c) m.gs.length (flatR m.gs)→(∀k,(Value.slice a n c).ownBlock=some k→¬ F k)→m.ok=true→m.gs.length≤9→0≤m.fr→m.fr≤m.up→m.up≤(N:Int)→out.length < τ.cap→τ.on out=true→out ++ [m] <+: Al→
  YieldAt Fence.wide 0 Tryz.prog τ.l #[.agg #[.bool m.ok,.int .i64 m.fr,.int .i64 m.up,.slice a n c]] w fun e w'=>e = .returned (.bool (τ.on (out ++ [m])))∧∃F' Fr',τ.tl w'.heap.size (out ++ [m]) w' F' Fr'∧Trn w F Fr w' F' Fr'
def mtold (on:List Mt→Bool):List Mt→List Mt→List Mt
 | out,[]=>out
 | out,m :: ms=>if on (out ++ [m]) then mtold on (out ++ [m]) ms else out ++ [m]
end Go.Proofs.YthkmmeamplmnhaaGreat
namespace Go.Proofs.YthkmmeamplmnhaaGreat
open Go.RowKit Go.Shelf
set_option linter.unusedVariables false
attribute [local go_sem] Oper.semAt_some
def MaR (P b:Nat) (m:Mt) (a:Option Addr) (n c:Nat):Rsc:=fun w F Fr =>
 (∀k,Fr k↔k=P)∧F P∧w.heap[P]? = some (.cells #[.bool m.ok,.int .i64 m.fr,.int .i64 m.up,.slice a n c] 29 (0,0))∧w.ownsRow b 31 2 (.slice a n c) m.gs.length (flatR m.gs)∧∀k,(Value.slice a n c).ownBlock=some k→¬ F k
theorem maR_ok (P b:Nat) (m:Mt) (a:Option Addr) (n c:Nat):RscOk (MaR P b m a n c):=by
 refine ⟨?_,?_⟩
 ·rintro w F Fr ⟨h1,h2,h3,h4,h5⟩ k hk
  rw [h1] at hk
  subst hk
  exact ⟨h2,lt_of_block h3⟩
 ·rintro w w' F F' Fr ⟨h1,h2,h3,h4,h5⟩ l hF' hk
  obtain ⟨g4,g5⟩:=ownsRow_later ⟨h4,h5⟩ l
  exact ⟨h1,hF' P ((h1 P).2 rfl),by rw [hk P ((h1 P).2 rfl)]; exact h3,g4,g5⟩
def mtE0 (r:Option Mt):Mt:=r.elim ⟨false,0,0,[]⟩ id
structure MaI (C:Cx) (ρ:Rx) (X:Xs) (B:Option Bo) (mine:List Rsc) (τ:Mlr) (A P:Nat) (w0:World) (F0 Fr0:Bs2) (r:Option Mt) (out:List Mt) (a:Option Addr) (n c:Nat) (w:World):Prop where
 ex :∃(T:Tt) (tv:Value) (F Fr:Bs2) (b:Nat),starL (SeR C ρ tv T :: MaR P b (mtE0 r) a n c :: τ.tl b out :: mine) w F Fr∧Srch C w F ρ.bg X B mine∧Fb w F∧Rdy C.u.size T B∧Trn w0 F0 Fr0 w F Fr∧b≤w.heap.size∧CeI w F A 0 (.pointer (some ⟨C.X,0,none⟩))
theorem ma_oks {C:Cx} {ρ:Rx} {tv:Value} {T:Tt} {mine:List Rsc} {R Q:Rsc} (ha :∀R∈mine,RscOk R) (hR:RscOk R) (hQ:RscOk Q) :∀S∈SeR C ρ tv T :: R :: Q :: mine,RscOk S:=by
 intro S hS
 rcases List.mem_cons.1 hS with rfl | hS
 ·exact seR_ok _ _ _ _
 ·rcases List.mem_cons.1 hS with rfl | hS
  ·exact hR
  ·rcases List.mem_cons.1 hS with rfl | hS
   ·exact hQ
   ·exact ha S hS
theorem ma_store {C:Cx} {ρ:Rx} {B:Option Bo} {mine:List Rsc} {Al:List Mt} {τ:Mlr} {N P b b1:Nat} {m:Mt} {a a':Option Addr} {n c n' c':Nat} {r:Option Mt} {out:List Mt} {w w' wS:World} {F Fr F' Fr':Bs2} {T':Tt} {tv':Value} (hτ:MlrOk N Al τ) (ha :∀R∈mine,RscOk R) (hb:b≤w.heap.size)
  (h2:w'.ownsRow w.heap.size 31 2 (.slice a' n' c') (r.elim [] (·.gs)).length (flatR (r.elim [] (·.gs)))) (h3 :∀k,(Value.slice a' n' c').ownBlock=some k→¬ F' k)
  (h4:starL (SeR C ρ tv' T' :: MaR P b1 m a n c :: τ.tl b out :: mine) w' F' Fr') (h5:Trn w F Fr w' F' Fr')
  (kS:Keeps (fun k=>k=P) w' wS) (bS:wS.heap[P]? = some (.cells #[.bool (mtE0 r).ok,.int .i64 (mtE0 r).fr,.int .i64 (mtE0 r).up,.slice a' n' c'] 29 (0,0))) :
  starL (SeR C ρ tv' T' :: MaR P w.heap.size (mtE0 r) a' n' c' :: τ.tl w.heap.size out :: mine) wS F' Fr'∧Trn w F Fr wS F' Fr':=by
 have hokR:RscOk (starL (SeR C ρ tv' T' :: τ.tl b out :: mine)):=fi_ok ha (hτ.ok b out)
 obtain ⟨G1,G2,hA⟩:=starL_cons.1 (starL_perm h4)
 obtain ⟨r1,r2,r3,r4,r5⟩:=hA.one
 have hgs:(mtE0 r).gs=r.elim [] (·.gs):=by cases r <;> rfl
 have hrow:wS.ownsRow w.heap.size 31 2 (.slice a' n' c') (mtE0 r).gs.length (flatR (mtE0 r).gs):=by
  rw [hgs]
  exact ownsRow_keeps h2 kS (fun k hk e=>h3 k hk (e ▸ r2))
 have hM:MaR P w.heap.size (mtE0 r) a' n' c' wS F' G1:=⟨r1,r2,bS,hrow,h3⟩
 have t1:Trn w' F' G1 wS F' G1:=Trn.same (fun k hk=>((r1 k).1 hk) ▸ r2) (kS.mono (fun k _ e=>(r1 k).2 e))
 obtain ⟨hA2,t2⟩:=hA.upd (maR_ok P b1 m a n c) hokR t1 hM
 have t3:=h5.trans t2
 obtain ⟨A1,A2,eA,dA,hSe,C1,C2,eC,dC,hMa,D1,D2,eD,dD,htl,hmine⟩:=starL_perm (starL_cons.2 ⟨_,_,hA2⟩)
 have hfe :∀k,Fr' k↔G1 k∨G2 k:=hA.all
 have hFr:(fun k=>G1 k∨G2 k)=Fr':=funext fun k=>propext (hfe k).symm
 rw [← hFr]
 exact ⟨⟨A1,A2,eA,dA,hSe,C1,C2,eC,dC,hMa,D1,D2,eD,dD,hτ.up _ _ _ _ _ _ hb htl,hmine⟩,t3⟩
theorem ma_tell {C:Cx} {ρ:Rx} {mine:List Rsc} {Al:List Mt} {τ:Mlr} {N P b:Nat} {m:Mt} {a:Option Addr} {n c:Nat} {out:List Mt} {w:World} {F Fr:Bs2} {T:Tt} {tv:Value} (hτ:MlrOk N Al τ) (ha :∀R∈mine,RscOk R) (hFb:Fb w F) (hb:b≤w.heap.size)
  (h4:starL (SeR C ρ tv T :: MaR P b m a n c :: τ.tl b out :: mine) w F Fr) (h1:m.ok=true) (h2:m.gs.length≤9) (h3:0≤m.fr) (h5:m.fr≤m.up) (h6:m.up≤(N:Int)) (h7:out.length < τ.cap) (h8 : τ.on out=true) (h9:out ++ [m] <+: Al) :
  YieldAt Fence.wide 0 Tryz.prog τ.l #[.agg #[.bool m.ok,.int .i64 m.fr,.int .i64 m.up,.slice a n c]] w fun e w'=>e = .returned (.bool (τ.on (out ++ [m])))∧∃F' Fr',starL (SeR C ρ tv T :: MaR P b m a n c :: τ.tl w'.heap.size (out ++ [m]) :: mine) w' F' Fr'∧Trn w F Fr w' F' Fr':=by
 obtain ⟨A1,A2,eA,dA,hSe,C1,C2,eC,dC,hMa,D1,D2,eD,dD,htl,hmine⟩:=id h4
 obtain ⟨r1,r2,r3,r4,r5⟩:=hMa
 refine (hτ.yl w F D1 b out m a n c hFb htl hb r4 r5 h1 h2 h3 h5 h6 h7 h8 h9).mono ?_
 rintro e w' ⟨rfl,F',Fr',g1,g2⟩
 have hA:Apt (τ.tl b out) (starL (SeR C ρ tv T :: MaR P b m a n c :: mine)) w F Fr D1 (fun k=>A1 k∨C1 k∨D2 k):=by
  refine ⟨fun k=>?_,fun k hk hc=>?_,htl,A1,fun k=>C1 k∨D2 k,fun k=>Iff.rfl,fun k hk hc=>?_,hSe,C1,D2,fun k=>Iff.rfl,fun k hk hc=>?_,⟨r1,r2,r3,r4,r5⟩,hmine⟩
  ·rw [eA k,eC k,eD k]
   constructor
   ·rintro (h | h | h | h)
    ·exact Or.inr (Or.inl h)
    ·exact Or.inr (Or.inr (Or.inl h))
    ·exact Or.inl h
    ·exact Or.inr (Or.inr (Or.inr h))
   ·rintro (h | h | h | h)
    ·exact Or.inr (Or.inr (Or.inl h))
    ·exact Or.inl h
    ·exact Or.inr (Or.inl h)
    ·exact Or.inr (Or.inr (Or.inr h))
  ·rcases hc with hc | hc | hc
   ·exact dA k hc ((eC k).2 (Or.inr ((eD k).2 (Or.inl hk))))
   ·exact dC k hc ((eD k).2 (Or.inl hk))
   ·exact dD k hk hc
  ·rcases hc with hc | hc
   ·exact dA k hk ((eC k).2 (Or.inl hc))
   ·exact dA k hk ((eC k).2 (Or.inr ((eD k).2 (Or.inr hc))))
  ·exact dC k hk ((eD k).2 (Or.inr hc))
 have hokR:RscOk (starL (SeR C ρ tv T :: MaR P b m a n c :: mine)):=fi_ok ha (maR_ok P b m a n c)
 obtain ⟨hA2,t2⟩:=hA.upd (hτ.ok b out) hokR g2 g1
 refine ⟨rfl,F',_,?_,t2⟩
 obtain ⟨B1,B2,hX⟩ :∃B1 B2,Apt (SeR C ρ tv T) (starL (τ.tl w'.heap.size (out ++ [m]) :: MaR P b m a n c :: mine)) w' F' _ B1 B2:=starL_cons.1 (starL_perm (starL_cons.2 ⟨_,_,hA2⟩))
 exact starL_cons.2 ⟨B1,B2,hX.all,hX.dis,hX.one,starL_perm hX.two⟩
theorem find_e0 {w:World} {C:Cx} {ρ:Rx} {X:Xs} {B:Option Bo} {mine:List Rsc} {T:Tt} {tv:Value} {F Fr:Bs2} {p:Nat} (hS:Srch C w F ρ.bg X B mine) (hR:starL (SeR C ρ tv T :: mine) w F Fr) (hFb:Fb w F) (hrd:Rdy C.u.size T B) (hX:OkX C.u.size 0 C.G X) (hu:C.u.size≤200) (hG:C.G≤9) (hp:p≤C.u.size + 1) {r:Option Mt} (hr:findL (fun a=>(X a).map (mtOf C.G a)) (C.u.size + 1 - p) p=r) :
  Calls Tryz.prog 42 #[.pointer (some ⟨C.X,0,none⟩),.int .i64 (p:Int)] w (fun e w' =>∃(a:Option Addr) (n c:Nat),e = .returned (.agg #[.bool (mtE0 r).ok,.int .i64 (mtE0 r).fr,.int .i64 (mtE0 r).up,.slice a n c])∧Hid (∃(T':Tt) (tv':Value) (F' Fr':Bs2),w'.ownsRow w.heap.size 31 2 (.slice a n c) (r.elim [] (·.gs)).length (flatR (r.elim [] (·.gs)))∧(∀k,(Value.slice a n c).ownBlock=some k→¬ F' k)∧starL (SeR C ρ tv' T' :: mine) w' F' Fr'∧Trn w F Fr w' F' Fr'∧Rdy C.u.size T' B)):=by
 have h:=find_any hS hR hFb hrd hX hu hG hp
 rw [hr] at h
 refine h.mono ?_
 rintro e w' ⟨T',tv',F',Fr',a,n,c,rfl,g1,g2,g3,g4,g5⟩
 refine ⟨a,n,c,?_,T',tv',F',Fr',g1,g2,g3,g4,g5⟩
 cases r <;> rfl
theorem ma_init {C:Cx} {ρ:Rx} {X:Xs} {B:Option Bo} {mine:List Rsc} {Al:List Mt} {τ:Mlr} {N A b:Nat} {a:Option Addr} {n c:Nat} {r:Option Mt} {w w2:World} {F Fr F1 Fr1:Bs2} {T:Tt} {tv:Value} (hτ:MlrOk N Al τ) (hb:b≤w.heap.size) (hS:Srch C w F ρ.bg X B mine) (hFb:Fb w F) (hF :∀k,Fr k→F k) (hA:CeI w F A 0 (.pointer (some ⟨C.X,0,none⟩)))
  (h2:w2.ownsRow w.heap.size 31 2 (.slice a n c) (r.elim [] (·.gs)).length (flatR (r.elim [] (·.gs)))) (h3 :∀k,(Value.slice a n c).ownBlock=some k→¬ F1 k)
  (h4:starL (SeR C ρ tv T :: τ.tl b [] :: mine) w2 F1 Fr1) (h5:Trn w F Fr w2 F1 Fr1) (hrd:Rdy C.u.size T B) :
  MaI C ρ X B mine τ A w2.heap.size w F Fr r [] a n c (w2.alloc (.cells #[.bool (mtE0 r).ok,.int .i64 (mtE0 r).fr,.int .i64 (mtE0 r).up,.slice a n c] 29)):=by
 have k1:Keeps (fun _=>False) w2 (w2.alloc (.cells #[.bool (mtE0 r).ok,.int .i64 (mtE0 r).fr,.int .i64 (mtE0 r).up,.slice a n c] 29)):=(Keeps.refl _ _).alloc _
 have bP:(w2.alloc (.cells #[.bool (mtE0 r).ok,.int .i64 (mtE0 r).fr,.int .i64 (mtE0 r).up,.slice a n c] 29)).heap[w2.heap.size]? = some (.cells #[.bool (mtE0 r).ok,.int .i64 (mtE0 r).fr,.int .i64 (mtE0 r).up,.slice a n c] 29 (0,0)):=heap_alloc_new _ _
 generalize (w2.alloc (.cells #[.bool (mtE0 r).ok,.int .i64 (mtE0 r).fr,.int .i64 (mtE0 r).up,.slice a n c] 29))=w3 at k1 bP ⊢
 have hok:=fi_ok (C:=C) (ρ := ρ) (tv:=tv) (T:=T) hS.ok (hτ.ok b [])
 have hlt:=hok.lt h4
 have hFb1:Fb w2 F1:=hFb.trn h5 (fun k hk=>(hlt k hk).2)
 have hs3:=lt_of_block bP
 have hgs:(mtE0 r).gs=r.elim [] (·.gs):=by cases r <;> rfl
 have l1:Lat w2 F1 w3 (fun k=>F1 k∨k=w2.heap.size):=⟨k1.mono (fun _ _ h=>h.elim),fun k hk=>hk.imp id (fun e=>by omega)⟩
 have hR1:=hok.frame h4 l1 (fun k hk=>Or.inl (hlt k hk).1) (fun k hk=>k1.block k (hlt k hk).2 (fun h=>h))
 have hrow:=ownsRow_keeps h2 k1 (fun _ _ h=>h)
 have hM:MaR w2.heap.size w.heap.size (mtE0 r) a n c w3 (fun k=>F1 k∨k=w2.heap.size) (fun k=>k=w2.heap.size):=⟨fun k=>Iff.rfl,Or.inr rfl,bP,by rw [hgs]; exact hrow,fun k hk h=>by
  rcases h with h | h
  ·exact h3 k hk h
  ·have:=(h2.lt k hk).2; omega⟩
 have hst:=starL_perm (starL_new hok hR1 (fun h=>by have:=(hlt _ h).2; omega) (Or.inr rfl) hM)
 obtain ⟨A1,A2,eA,dA,hSe,C1,C2,eC,dC,hMa,D1,D2,eD,dD,htl,hmine⟩:=hst
 have l2:Lat w F w3 (fun k=>F1 k∨k=w2.heap.size):=(h5.lat hF).trans l1
 have t1:Trn w2 F1 Fr1 w3 (fun k=>F1 k∨k=w2.heap.size) (fun k=>k=w2.heap.size∨Fr1 k):=by
  refine ⟨k1.mono (fun _ _ h=>h.elim),fun k hk=>?_,fun k hk=>?_,fun k hs hk hn=>Or.inl hk,fun k hk=>?_⟩
  ·rcases hk with h | h
   ·exact Or.inr (by omega)
   ·exact Or.inl h
  ·rcases hk with h | h
   ·by_cases h2:Fr1 k
    ·exact Or.inr (Or.inr h2)
    ·exact Or.inl ⟨h,h2⟩
   ·exact Or.inr (Or.inl h)
  ·rcases hk with h | h
   ·exact Or.inr h
   ·exact Or.inl (hlt k h).1
 have hws:w.heap.size≤w3.heap.size:=l2.size
 refine ⟨T,tv,_,_,w.heap.size,⟨A1,A2,eA,dA,hSe,C1,C2,eC,dC,hMa,D1,D2,eD,dD,hτ.up _ _ _ _ _ _ hb htl,hmine⟩,hS.later l2,fun k hk=>?_,hrd,h5.trans t1,hws,hA.later l2⟩
 rcases hk with h | h
 ·have:=hFb1 k h; have:=k1.size; omega
 ·omega
def MtP (C:Cx) (ρ:Rx) (B:Option Bo) (mine:List Rsc) (τ:Mlr) (l:List Mt) (w:World) (F Fr:Bs2) (e:Ending) (w':World):Prop :=
 e = .returned (.tuple #[])∧∃(T':Tt) (tv':Value) (F' Fr':Bs2) (b':Nat),starL (SeR C ρ tv' T' :: τ.tl b' l :: mine) w' F' Fr'∧Trn w F Fr w' F' Fr'∧Rdy C.u.size T' B
theorem ma_end {C:Cx} {ρ:Rx} {B:Option Bo} {mine:List Rsc} {Al:List Mt} {τ:Mlr} {N P b b1:Nat} {m:Mt} {a:Option Addr} {n c:Nat} {out:List Mt} {w w':World} {F Fr F' Fr':Bs2} {T':Tt} {tv':Value} (hτ:MlrOk N Al τ) (ha :∀R∈mine,RscOk R) (h4:starL (SeR C ρ tv' T' :: MaR P b1 m a n c :: τ.tl b out :: mine) w' F' Fr') (h5:Trn w F Fr w' F' Fr') (hrd:Rdy C.u.size T' B):MtP C ρ B mine τ out w F Fr (.returned (.tuple #[])) w':=by
 obtain ⟨H1,H2,-,q2,q3⟩:=trn_drop (maR_ok P b1 m a n c) (fi_ok ha (hτ.ok b out)) (starL_perm h4) h5
 exact ⟨rfl,T',tv',_,H2,b,q2,q3,hrd⟩
theorem findX_in {X:Xs} {N G k p:Nat} {m:Mt} (hX:OkX N 0 G X) (hk:p + k≤N + 1) (h:findL (fun a=>(X a).map (mtOf G a)) k p=some m):m.ok=true∧m.gs.length=G∧(p:Int)≤m.fr∧m.fr≤m.up∧m.up≤(N:Int)∧p + 1≤nxt m∧nxt m≤N + 1:=by
 obtain ⟨a,h1,h2,h3⟩:=findL_at _ _ h
 obtain ⟨e,he,rfl⟩:=List.mem_map.1 h3
 have h4:=(hX a (by omega)).2 e he
 have h5:=h4.1
 have h6:=h4.2.1
 have hn:nxt (mtOf G a e)=if e.1=a then e.1 + 1 else e.1:=by
  unfold nxt
  show (if ((e.1:Nat):Int)=((a:Nat):Int) then ((e.1:Nat):Int) + 1 else ((e.1:Nat):Int)).toNat = _
  by_cases hh:e.1=a
  ·rw [if_pos hh,if_pos (by omega)]; omega
  ·rw [if_neg hh,if_neg (by omega)]; omega
 rw [hn]
 refine ⟨rfl,gsOf_len _ _,by show (p:Int)≤((a:Nat):Int); omega,by show ((a:Nat):Int)≤((e.1:Nat):Int); omega,by show ((e.1:Nat):Int)≤_; omega,?_,?_⟩
 ·split <;> omega
 ·split <;> omega
theorem set4_at {w:World} {P:Nat} {t:TypeId} {a0 a1 a2 a3:Value} (b0 b1 b2 b3:Value) (h:w.heap[P]? = some (.cells #[a0,a1,a2,a3] t (0,0))) :
  ((((w.setCell ⟨P,0,none⟩ b0).setCell ⟨P,1,none⟩ b1).setCell ⟨P,2,none⟩ b2).setCell ⟨P,3,none⟩ b3).heap[P]? = some (.cells #[b0,b1,b2,b3] t (0,0))∧Keeps (fun k=>k=P) w ((((w.setCell ⟨P,0,none⟩ b0).setCell ⟨P,1,none⟩ b1).setCell ⟨P,2,none⟩ b2).setCell ⟨P,3,none⟩ b3):=by
 have h1:(w.setCell ⟨P,0,none⟩ b0).heap[P]? = some (.cells #[b0,a1,a2,a3] t (0,0)):=by rw [heap_setCell_same _ _ _ _ _ _ h]; rfl
 have h2:((w.setCell ⟨P,0,none⟩ b0).setCell ⟨P,1,none⟩ b1).heap[P]? = some (.cells #[b0,b1,a2,a3] t (0,0)):=by rw [heap_setCell_same _ _ _ _ _ _ h1]; rfl
 have h3:(((w.setCell ⟨P,0,none⟩ b0).setCell ⟨P,1,none⟩ b1).setCell ⟨P,2,none⟩ b2).heap[P]? = some (.cells #[b0,b1,b2,a3] t (0,0)):=by rw [heap_setCell_same _ _ _ _ _ _ h2]; rfl
 refine ⟨by rw [heap_setCell_same _ _ _ _ _ _ h3]; rfl,?_⟩
 exact ((((Keeps.refl (fun k=>k=P) w).setCell (fun _=>rfl) _).setCell (fun _=>rfl) _).setCell (fun _=>rfl) _).setCell (fun _=>rfl) _
set_option maxHeartbeats 2000000 in
set_option maxRecDepth 100000 in
theorem matches_run {w:World} {C:Cx} {ρ:Rx} {X:Xs} {B:Option Bo} {mine:List Rsc} {T:Tt} {tv:Value} {F Fr:Bs2} {A b0:Nat} {τ:Mlr} (hτ:MlrOk C.u.size (allL (fun a=>(X a).map (mtOf C.G a)) C.u.size (C.u.size + 2) 0) τ) (hS:Srch C w F ρ.bg X B mine) (hA:CeI w F A 0 (.pointer (some ⟨C.X,0,none⟩))) (hR:starL (SeR C ρ tv T :: τ.tl b0 [] :: mine) w F Fr) (hFb:Fb w F) (hrd:Rdy C.u.size T B) (hX:OkX C.u.size 0 C.G X) (hu:C.u.size≤200) (hG:C.G≤9) (hb:b0≤w.heap.size) (hcap:C.u.size + 1≤τ.cap) :
  Calls Tryz.prog 56 #[.func (.yield τ.l) #[] #[],.pointer (some ⟨A,0,none⟩)] w (MtP C ρ B mine τ (mtold τ.on [] (allL (fun a=>(X a).map (mtOf C.G a)) C.u.size (C.u.size + 2) 0)) w F Fr):=by
 have hfn :∀f,Fence.wide.fn f:=fun _=>trivial
 have hdp:Fence.wide.depth=none:=rfl
 have cA:=hA.1
 obtain ⟨r0,hr0⟩ :∃r,findL (fun a=>(X a).map (mtOf C.G a)) (C.u.size + 1 - 0) 0=r:=⟨_,rfl⟩
 have hok0:=fi_ok (C:=C) (ρ := ρ) (tv:=tv) (T:=T) hS.ok (hτ.ok b0 [])
 have hf0:CallsIn Fence.wide 2 Tryz.prog 42 #[.pointer (some ⟨C.X,0,none⟩),.int .i64 0] w (fun e w' =>∃(a:Option Addr) (n c:Nat),e = .returned (.agg #[.bool (mtE0 r0).ok,.int .i64 (mtE0 r0).fr,.int .i64 (mtE0 r0).up,.slice a n c])∧Hid (MaI C ρ X B mine τ A w'.heap.size w F Fr r0 [] a n c (w'.alloc (.cells #[.bool (mtE0 r0).ok,.int .i64 (mtE0 r0).fr,.int .i64 (mtE0 r0).up,.slice a n c] 29)))):=by
  refine callsIn_wide.2 ((find_e0 (p:=0) (hS.mine (mine' := τ.tl b0 [] :: mine) (fun R hR=>List.mem_cons_of_mem _ hR) (fun R hR=>by
   rcases List.mem_cons.1 hR with rfl | hR
   ·exact hτ.ok _ _
   ·exact hS.ok R hR)) hR hFb hrd hX hu hG (Nat.zero_le _) hr0).mono ?_)
  rintro e w' ⟨a,n,c,rfl,HX⟩
  obtain ⟨T',tv',F',Fr',g1,g2,g3,g4,g5⟩:=HX.out
  exact ⟨a,n,c,rfl,ma_init hτ hb hS hFb (fun k hk=>(hok0.lt hR k hk).1) hA g1 g2 g3 g4 g5⟩
 have HR0:Hid (findL (fun a=>(X a).map (mtOf C.G a)) (C.u.size + 1 - 0) 0=r0):=hr0
 refine (callsIn_wide (n:=3)).1 ?_
 refine callsIn_of_wp Tryz.func56 rfl trivial ?_
 simp only [Tryz.ntmps56,List.size_toArray,List.length_cons,List.length_nil,Nat.reduceAdd,Nat.reduceSub,Array.replicate_succ,Array.replicate_zero,List.push_toArray,List.append_toArray,List.nil_append,List.cons_append]
 clear hr0 hS hR hFb hrd hok0
 gi_wp2_with (gi_at_call 42; refine hf0.mono ?_; rintro e w2 ⟨a,n,c,rfl,HI⟩; clear hf0)
 obtain ⟨P,hP⟩ :∃P,w2.heap.size=P:=⟨_,rfl⟩
 have HI0:Hid (MaI C ρ X B mine τ A P w F Fr r0 [] a n c (w2.alloc (.cells #[.bool (mtE0 r0).ok,.int .i64 (mtE0 r0).fr,.int .i64 (mtE0 r0).up,.slice a n c] 29))):=by rw [← hP]; exact HI
 clear HI
 rw [hP]
 generalize (w2.alloc (.cells #[.bool (mtE0 r0).ok,.int .i64 (mtE0 r0).fr,.int .i64 (mtE0 r0).up,.slice a n c] 29))=w3 at *
 refine wpIn_loop_ghost_k (fun g a wr =>∃(p k:Nat) (r:Option Mt) (out:List Mt) (ar:Option Addr) (nr cr:Nat) (u4 u5 u6 u7 u8 u9 u10 u11 u12 u13 u14 u15 u16:Value),g=k∧p≤C.u.size + 1∧C.u.size + 2≤p + (k + 1)∧Hid (τ.on out=true∧out.length≤p∧findL (fun a=>(X a).map (mtOf C.G a)) (C.u.size + 1 - p) p=r∧mtold τ.on out (allL (fun a=>(X a).map (mtOf C.G a)) C.u.size (k + 1) p)=mtold τ.on [] (allL (fun a=>(X a).map (mtOf C.G a)) C.u.size (C.u.size + 2) 0)∧allL (fun a=>(X a).map (mtOf C.G a)) C.u.size (C.u.size + 2) 0=out ++ allL (fun a=>(X a).map (mtOf C.G a)) C.u.size (k + 1) p)∧Hid (MaI C ρ X B mine τ A P w F Fr r out ar nr cr wr)∧
  a = { tmps:=#[.func (.yield τ.l) #[] #[],.pointer (some ⟨A,0,none⟩),undef,.pointer (some ⟨P,0,none⟩),u4,u5,u6,u7,u8,u9,u10,u11,u12,u13,u14,u15,u16],defers := [] }) (C.u.size + 1) ?_ ?_
 ·exact ⟨0,C.u.size + 1,r0,[],a,n,c,_,_,_,_,_,_,_,_,_,_,_,_,_,rfl,by omega,by omega,⟨hτ.on0,Nat.le_refl _,HR0.out,rfl,rfl⟩,HI0,rfl⟩
 clear HI0 HR0 hP w2 w3 r0 a n c cA
 intro g a wr hI J K hJ hK
 obtain ⟨p,k,r,out,ar,nr,cr,u4,u5,u6,u7,u8,u9,u10,u11,u12,u13,u14,u15,u16,rfl,hp,hfu,HE,HI,rfl⟩:=hI
 obtain ⟨T2,tv2,F2,Fr2,b,g1,g2,g3,g4,g5,g6,g7⟩:=HI.out.ex
 obtain ⟨A1,A2,eA,dA,hSe,C1,C2,eC,dC,⟨q1,q2,q3,q4,q5⟩,hrest⟩:=id g1
 have cA:=g7.1
 have c0:wr.cell? ⟨P,0,none⟩=some (.bool (mtE0 r).ok):=by rw [cell_of q3]; rfl
 have c1:wr.cell? ⟨P,1,none⟩=some (.int .i64 (mtE0 r).fr):=by rw [cell_of q3]; rfl
 have c2:wr.cell? ⟨P,2,none⟩=some (.int .i64 (mtE0 r).up):=by rw [cell_of q3]; rfl
 have c3:wr.cell? ⟨P,3,none⟩=some (.slice ar nr cr):=by rw [cell_of q3]; rfl
 cases r with
 | none =>
   have HF:Hid (MtP C ρ B mine τ (mtold τ.on [] (allL (fun a=>(X a).map (mtOf C.G a)) C.u.size (C.u.size + 2) 0)) w F Fr (.returned (.tuple #[])) wr):=by
    have e:=HE.out.2.2.2.1
    simp only [allL,HE.out.2.2.1,mtold] at e
    rw [← HE.out.2.2.2.1]
    simp only [allL,HE.out.2.2.1,mtold]
    exact ma_end hτ g2.ok g1 g5 g4
   simp only [mtE0,Option.elim_none] at c0
   clear g1 g2 g3 g4 g5 g6 g7 HI HE eA dA hSe eC dC q1 q2 q3 q4 q5 hrest hJ hK
   gi_wp2
   refine bodyPost_end (results_none rfl _ _ _) rfl ?_
   exact HF.out
 | some m =>
   obtain ⟨f1,f2,f3,f4,f5,f6,f7⟩:=findX_in hX (by omega) HE.out.2.2.1
   have hY:=ma_tell (m:=m) hτ g2.ok g3 g6 g1 f1 (by omega) (by omega) f4 f5 (by have:=HE.out.2.1; omega) HE.out.1 (by rw [HE.out.2.2.2.2]; simp only [allL,HE.out.2.2.1]; exact ⟨allL (fun a=>(X a).map (mtOf C.G a)) C.u.size g (nxt m),by simp⟩)
   obtain ⟨fn,tmps,assign,body,hy,hRd⟩:=hY
   have c0':wr.cell? ⟨P,0,none⟩=some (.bool m.ok):=c0
   have c1':wr.cell? ⟨P,1,none⟩=some (.int .i64 m.fr):=c1
   have c2':wr.cell? ⟨P,2,none⟩=some (.int .i64 m.up):=c2
   rw [f1] at c0' hy
   clear c0 c1 c2
   gi_wp2
   refine (round_any hRd).mono ?_
   rintro e w5 ⟨rfl,HT⟩
   obtain ⟨F5,Fr5,st5,t5⟩:=HT
   have hok2:RscOk (starL (SeR C ρ tv2 T2 :: MaR P b m ar nr cr :: τ.tl b out :: mine)):=starL_ok (ma_oks g2.ok (maR_ok P b m ar nr cr) (hτ.ok b out))
   have hok5:RscOk (starL (SeR C ρ tv2 T2 :: MaR P b m ar nr cr :: τ.tl w5.heap.size (out ++ [m]) :: mine)):=starL_ok (ma_oks g2.ok (maR_ok P b m ar nr cr) (hτ.ok _ _))
   have hlt5:=hok5.lt st5
   have t05:Trn w F Fr w5 F5 Fr5:=g5.trans t5
   cases hon : τ.on (out ++ [m]) with
   | false =>
     have HF:Hid (MtP C ρ B mine τ (mtold τ.on [] (allL (fun a=>(X a).map (mtOf C.G a)) C.u.size (C.u.size + 2) 0)) w F Fr (.returned (.tuple #[])) w5):=by
      rw [← HE.out.2.2.2.1]
      simp only [allL,HE.out.2.2.1,mtold,hon]
      exact ma_end hτ g2.ok st5 t05 g4
     clear g1 g2 g3 g4 g5 g6 g7 HI HE eA dA hSe eC dC q1 q2 q3 q4 q5 hrest hJ hK st5 t5 hok2 hok5 hlt5 t05 hy hRd
     gi_wp2
     refine bodyPost_end (results_none rfl _ _ _) rfl ?_
     exact HF.out
   | true =>
     have l25:Lat wr F2 w5 F5:=t5.lat (fun k hk=>(hok2.lt g1 k hk).1)
     have hFb5:Fb w5 F5:=g3.trn t5 (fun k hk=>(hlt5 k hk).2)
     have hS5:=g2.later l25
     have hA5:=g7.later l25
     obtain ⟨-,-,-,-,-,-,-,-,-,⟨r1,r2,r3,r4,r5⟩,-⟩:=id st5
     have kd:Keeps (fun _=>False) w5 w5.drew:=(Keeps.refl _ _).drew
     have cA5:w5.drew.cell? ⟨A,0,none⟩=some (.pointer (some ⟨C.X,0,none⟩)):=hA5.1
     have d0:w5.drew.cell? ⟨P,0,none⟩=some (.bool true):=by rw [cell_of (w:=w5.drew) r3,f1]; rfl
     have d1:w5.drew.cell? ⟨P,1,none⟩=some (.int .i64 m.fr):=by rw [cell_of (w:=w5.drew) r3]; rfl
     have d2:w5.drew.cell? ⟨P,2,none⟩=some (.int .i64 m.up):=by rw [cell_of (w:=w5.drew) r3]; rfl
     have d3:w5.drew.cell? ⟨P,3,none⟩=some (.slice ar nr cr):=by rw [cell_of (w:=w5.drew) r3]; rfl
     have hnxz:((nxt m:Nat):Int)=if m.up=m.fr then m.up + 1 else m.up:=by unfold nxt; split <;> omega
     have hnx:CallsIn Fence.wide 2 Tryz.prog 57 #[.agg #[.bool true,.int .i64 m.fr,.int .i64 m.up,.slice ar nr cr]] w5.drew (fun e w'=>e = .returned (.int .i64 ((nxt m:Nat):Int))∧Keeps (fun _=>False) w5.drew w'):=by
      rw [hnxz]
      exact callsIn_wide.2 (nextFrom_any (by omega) (by omega))
     obtain ⟨r',hr'⟩ :∃r',findL (fun a=>(X a).map (mtOf C.G a)) (C.u.size + 1 - nxt m) (nxt m)=r':=⟨_,rfl⟩
     have HFd:Hid (∀w6,Keeps (fun _=>False) w5.drew w6→CallsIn Fence.wide 2 Tryz.prog 42 #[.pointer (some ⟨C.X,0,none⟩),.int .i64 ((nxt m:Nat):Int)] w6 (fun e w' =>∃(a':Option Addr) (n' c':Nat),e = .returned (.agg #[.bool (mtE0 r').ok,.int .i64 (mtE0 r').fr,.int .i64 (mtE0 r').up,.slice a' n' c'])∧w'.heap[P]? = some (.cells #[.bool m.ok,.int .i64 m.fr,.int .i64 m.up,.slice ar nr cr] 29 (0,0))∧Hid (∀wS,Keeps (fun k=>k=P) w' wS→wS.heap[P]? = some (.cells #[.bool (mtE0 r').ok,.int .i64 (mtE0 r').fr,.int .i64 (mtE0 r').up,.slice a' n' c'] 29 (0,0))→MaI C ρ X B mine τ A P w F Fr r' (out ++ [m]) a' n' c' wS))):=by
      intro w6 hk6
      have k56:=kd.trans hk6
      have l56:Lat w5 F5 w6 F5:=Lat.ofKeeps k56
      have st6:=hok5.frame st5 l56 (fun k hk=>(hlt5 k hk).1) (fun k hk=>k56.block k (hlt5 k hk).2 (fun h=>h))
      have hFb6:Fb w6 F5:=hFb5.keeps k56
      have hS6:=hS5.later l56
      refine callsIn_wide.2 ((find_e0 (p:=nxt m) (hS6.mine (mine':=MaR P b m ar nr cr :: τ.tl w5.heap.size (out ++ [m]) :: mine) (fun R hR=>List.mem_cons_of_mem _ (List.mem_cons_of_mem _ hR)) (fun R hR=>by
       rcases List.mem_cons.1 hR with rfl | hR
       ·exact maR_ok _ _ _ _ _ _
       ·rcases List.mem_cons.1 hR with rfl | hR
        ·exact hτ.ok _ _
        ·exact hS5.ok R hR)) st6 hFb6 g4 hX hu hG f7 hr').mono ?_)
      rintro e w' ⟨a',n',c',rfl,HX⟩
      obtain ⟨T',tv',F',Fr',h2,h3,h4,h5,h6⟩:=HX.out
      obtain ⟨-,-,-,-,-,-,-,-,-,⟨p1,p2,p3,p4,p5⟩,-⟩:=id h4
      refine ⟨a',n',c',rfl,p3,?_⟩
      intro wS kS bS
      obtain ⟨s1,s2⟩:=ma_store (B:=B) hτ hS5.ok k56.size h2 h3 h4 h5 kS bS
      have t56:Trn w5 F5 Fr5 w6 F5 Fr5:=Trn.ofKeeps (fun k hk=>(hlt5 k hk).1) k56
      have t5S:=t56.trans s2
      have l5S:Lat w5 F5 wS F':=t5S.lat (fun k hk=>(hlt5 k hk).1)
      have hokS:RscOk (starL (SeR C ρ tv' T' :: MaR P w6.heap.size (mtE0 r') a' n' c' :: τ.tl w6.heap.size (out ++ [m]) :: mine)):=starL_ok (ma_oks hS5.ok (maR_ok _ _ _ _ _ _) (hτ.ok _ _))
      exact ⟨T',tv',F',Fr',w6.heap.size,s1,hS5.later l5S,hFb5.trn t5S (fun k hk=>(hokS.lt s1 k hk).2),h6,t05.trans t5S,s2.keeps.size,hA5.later l5S⟩
     have HN:Hid (τ.on (out ++ [m])=true∧(out ++ [m]).length≤nxt m∧findL (fun a=>(X a).map (mtOf C.G a)) (C.u.size + 1 - nxt m) (nxt m)=r'∧(∀g',g=g' + 1→mtold τ.on (out ++ [m]) (allL (fun a=>(X a).map (mtOf C.G a)) C.u.size (g' + 1) (nxt m))=mtold τ.on [] (allL (fun a=>(X a).map (mtOf C.G a)) C.u.size (C.u.size + 2) 0)∧allL (fun a=>(X a).map (mtOf C.G a)) C.u.size (C.u.size + 2) 0=(out ++ [m]) ++ allL (fun a=>(X a).map (mtOf C.G a)) C.u.size (g' + 1) (nxt m))):=by
      obtain ⟨e1,e2,e3,e4,e5⟩:=HE.out
      refine ⟨hon,(by simp; omega),hr',fun g' hg=>?_⟩
      subst hg
      refine ⟨?_,?_⟩
      ·rw [← e4]
       conv=>rhs; rw [allL]
       simp only [e3,mtold,hon,if_true]
      ·rw [e5]
       conv=>lhs; rw [allL]
       simp only [e3]
       simp
     clear g1 g2 g3 g4 g5 g6 g7 HI HE eA dA hSe eC dC q1 q2 q3 q4 q5 hrest st5 t5 hok2 hok5 hlt5 t05 hy hRd l25 hFb5 hS5 hA5 r3 kd c0' c1' c2' c3 hnxz hr'
     gi_wp2
     gi_region_with (first
      | (gi_at_call 57; refine hnx.mono ?_; rintro e w6 ⟨rfl,hk6⟩; have cA6:=cell_keeps cA5 hk6)
      | (gi_at_call 42; refine (HFd.out _ hk6).mono ?_; rintro e w7 ⟨a',n',c',rfl,hP7,HM⟩; have y0:w7.cell? ⟨P,0,none⟩=some (.bool m.ok):=(by rw [cell_of hP7]; rfl); have y1:w7.cell? ⟨P,1,none⟩=some (.int .i64 m.fr):=(by rw [cell_of hP7]; rfl); have y2:w7.cell? ⟨P,2,none⟩=some (.int .i64 m.up):=(by rw [cell_of hP7]; rfl); have y3:w7.cell? ⟨P,3,none⟩=some (.slice ar nr cr):=(by rw [cell_of hP7]; rfl); have z0:w7.frozen? ⟨P,0,none⟩=false:=free_of hP7; have z1:w7.frozen? ⟨P,1,none⟩=false:=free_of hP7; have z2:w7.frozen? ⟨P,2,none⟩=false:=free_of hP7; have z3:w7.frozen? ⟨P,3,none⟩=false:=free_of hP7))
     all_goals gi_wp2
     all_goals
      obtain ⟨g',rfl⟩ :∃g',g=g' + 1:=⟨g - 1,by omega⟩
      obtain ⟨b1,b2,b3,b4⟩:=HN.out
      obtain ⟨b5,b6⟩:=b4 g' rfl
      obtain ⟨s1,s2⟩:=set4_at (.bool (mtE0 r').ok) (.int .i64 (mtE0 r').fr) (.int .i64 (mtE0 r').up) (.slice a' n' c') hP7
      exact ⟨g',by omega,hJ _ _ _ ⟨nxt m,g',r',out ++ [m],a',n',c',_,_,_,_,_,_,_,_,_,_,_,_,_,rfl,f7,by omega,⟨b1,b2,b3,b5,b6⟩,HM.out _ s2 s1,rfl⟩⟩
end Go.Proofs.YthkmmeamplmnhaaGreat
