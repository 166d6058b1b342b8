import Derived.Test.YtfkflljplohhcaaGreatDoorYo
import Derived.RegionIn
import Derived.Sort.LoopGhostIn
import Derived.Stop.RegionWithIn
set_option maxHeartbeats 2000000
set_option maxRecDepth 100000
namespace Go.Proofs.YtfkflljplohhcaaGreatDoor
open Go.RowKit
set_option linter.unusedVariables false
def nxt (m:Mt):Nat:=(if m.up=m.fr then m.up + 1 else m.up).toNat
def JN (L:Nat->List Mt) (N:Nat):Nat->Nat->List Mt
 | 0,_ => []
 | k + 1,p=>match Qc L (N + 1 - p) p with
   | none => []
   | some m=>m :: JN L N k (nxt m)
def Jf (s u:ByteArray):List Mt:=JN (fun a=>ZZ s u (a:Int)) u.size (u.size + 2) 0
theorem ZcN {L:Nat->List Mt} {m:Mt} :∀(k p:Nat),Qc L k p=some m->∃a,p<=a/\a < p + k/\m∈L a:=by
 intro k
 induction k with
 | zero=>intro p h; cases h
 | succ k ih =>
   intro p h;simp only [Qc] at h
   split at h
   ·obtain ⟨a,h1,h2,h3⟩:=ih _ h;exact ⟨a,by omega,by omega,h3⟩
   ·rename_i m' l e
    cases h
    exact ⟨p,Nat.le_refl _,by omega,by rw [e]; simp⟩
theorem ZiO {s u:ByteArray} {p:Int} {m:Mt} (h:m∈ZZ s u p):m.ok=true/\m.fr=p/\p<=m.up/\m.up<=(u.size:Int):=by
 unfold ZZ at h
 split at h
 ·rename_i hw
  cases ht:ZD s with
  | error x=>rw [ht] at h; simp at h
  | ok gf =>
    obtain ⟨g,f⟩:=gf;rw [ht] at h;simp only [List.mem_map] at h;obtain ⟨e,he,rfl⟩:=h;simp only [wanted,Bool.and_eq_true,decide_eq_true_eq] at hw;obtain ⟨hfg,-,-,-⟩:=Zb2 ht;have hX:OkX u.size 0 g (smx u [] f):=Zjz u ⟨f,hfg,rfl⟩;have h1:=(hX p.toNat (by omega)).2 e he;have h2:=h1.1;have h3:=h1.2.1;exact ⟨rfl,by show ((p.toNat:Nat):Int)=p; omega,by show p<=((e.1:Nat):Int); omega,by show ((e.1:Nat):Int)<=_; omega⟩
 ·simp at h
theorem ZdC.mine {C:Cx} {w:World} {F:Bs2} {bg:Value} {X:Xs} {B:Option Bo} {mine mine':List Rsc} (h:ZdC C w F bg X B mine) (hm :∀R∈mine,R∈mine') (ho :∀R∈mine',Zq R):ZdC C w F bg X B mine':=⟨h.st.mine hm,h.nn,ho⟩
theorem ZfT {w:World} {ok:Bool} {fr up:Int} {a:Option Addr} {n c:Nat} (h0:0<=up) (h1:up<=1000000) :
  Calls Tryz.prog 45 #[.agg #[.bool ok,.int .i64 fr,.int .i64 up,.slice a n c]] w fun e w'=>e = .returned (.int .i64 (if up=fr then up + 1 else up))/\Za N0_ w w':=by
 by_cases he:up=fr
 ·have hz:(up == fr)=true:=by simp [he]
  rw [if_pos he];clear he;go_enter Tryz.func45,Tryz.ntmps45;go_wp2;go_ret;exact ⟨rfl,(Za.refl _ _).alloc _⟩
 ·have hz:(up == fr)=false:=by simp [he]
  rw [if_neg he];clear he;go_enter Tryz.func45,Tryz.ntmps45;go_wp2;go_ret;exact ⟨rfl,(Za.refl _ _).alloc _⟩
theorem ZgZ {w:World} {X:Nat}:Calls Tryz.prog 23 #[.pointer (some ⟨X,0,none⟩)] w fun e w'=>e = .returned (.func (.func 43) #[] #[.pointer (some ⟨w.heap.size,0,none⟩)])/\At1 w' w.heap.size 52 (.pointer (some ⟨X,0,none⟩))/\Za N0_ w w':=by
 have hmf :∀(fn:Fn) (first cap:Array Value) (w:World),(Instr.makeFunc fn first cap).run Tryz.prog w = .ok (.func fn first cap) w:=fun _ _ _ _=>rfl;have b1:=heap_alloc_new w (.cells #[.pointer (some ⟨X,0,none⟩)] 52);go_enter Tryz.func23,Tryz.ntmps23;go_wp2;go_ret;exact ⟨rfl,b1,(Za.refl _ _).alloc _⟩
structure Mlr where
 l:Nat
 on:List Mt->Bool
 cap:Nat
 tl:Nat->List Mt->Rsc
def TxA (Xa:Nat) (u:ByteArray) (w:World):Prop :=∃cs,w.heap[Xa]? = some (.cells cs 105 (0,0))/\cs[0]? = some (.string u)
theorem TxA.keeps {Xa:Nat} {u:ByteArray} {w w':World} {E:Nat->Prop} (h:TxA Xa u w) (k:Za E w w') (hn:¬ E Xa):TxA Xa u w':=by
 obtain ⟨cs,h1,h2⟩:=h;exact ⟨cs,(k.block Xa (lt_of_block h1) hn).trans h1,h2⟩
theorem TxA.of {C:Cx} {w:World} {jn:Int} {bg tl:Value} (h:Se w C jn bg tl):TxA C.X C.u w:=⟨_,h,rfl⟩
structure ZcD (N:Nat) (Al:List Mt) (Xa:Nat) (xt:ByteArray) (τ:Mlr):Prop where
 ok :∀b out,Zq (τ.tl b out)
 on0 : τ.on []=true
 up :∀b b' out w F Fr,b<=b'->τ.tl b out w F Fr->τ.tl b' out w F Fr
 yl :∀(w:World) (F Fr:Bs2) (b:Nat) (out:List Mt) (m:Mt) (a:Option Addr) (n c:Nat),Fb w F->τ.tl b out w F Fr->b<=w.heap.size->w.ownsRow b 118 2 (.slice a n c) m.gs.length (ZB m.gs)->(∀k,(Value.slice a n c).ownBlock=some k->¬ F k)->m.ok=true->m.gs.length<=9->0<=m.fr->m.fr<=m.up->m.up<=(N:Int)->out.length < τ.cap->τ.on out=true->out ++ [m] <+: Al->TxA Xa xt w->
  YieldAt Fence.wide 0 Tryz.prog τ.l #[.agg #[.bool m.ok,.int .i64 m.fr,.int .i64 m.up,.slice a n c]] w fun e w'=>e = .returned (.bool (τ.on (out ++ [m])))/\∃F' Fr',τ.tl w'.heap.size (out ++ [m]) w' F' Fr'/\Trn w F Fr w' F' Fr'
def Jk (on:List Mt->Bool):List Mt->List Mt->List Mt
 | out,[]=>out
 | out,m :: ms=>if on (out ++ [m]) then Jk on (out ++ [m]) ms else out ++ [m]
end Go.Proofs.YtfkflljplohhcaaGreatDoor
namespace Go.Proofs.YtfkflljplohhcaaGreatDoor
open Go.RowKit Go.Shelf
set_option linter.unusedVariables false
attribute [local go_sem] Oper.semAt_some
def MaR (P b:Nat) (m:Mt) (a:Option Addr) (n c:Nat):Rsc:=fun w F Fr =>
 (∀k,Fr k↔k=P)/\F P/\w.heap[P]? = some (.cells #[.bool m.ok,.int .i64 m.fr,.int .i64 m.up,.slice a n c] 38 (0,0))/\w.ownsRow b 118 2 (.slice a n c) m.gs.length (ZB m.gs)/\∀k,(Value.slice a n c).ownBlock=some k->¬ F k
theorem Zdb (P b:Nat) (m:Mt) (a:Option Addr) (n c:Nat):Zq (MaR P b m a n c):=by
 refine ⟨?_,?_⟩
 ·rintro w F Fr ⟨h1,h2,h3,h4,h5⟩ k hk;rw [h1] at hk;subst hk;exact ⟨h2,lt_of_block h3⟩
 ·rintro w w' F F' Fr ⟨h1,h2,h3,h4,h5⟩ l hF' hk;obtain ⟨g4,g5⟩:=ZJ ⟨h4,h5⟩ l;exact ⟨h1,hF' P ((h1 P).2 rfl),by rw [hk P ((h1 P).2 rfl)]; exact h3,g4,g5⟩
def Jl (r:Option Mt):Mt:=r.elim ⟨false,0,0,[]⟩ id
structure MaI (C:Cx) (ρ:Rx) (X:Xs) (B:Option Bo) (mine:List Rsc) (τ:Mlr) (A P:Nat) (w0:World) (F0 Fr0:Bs2) (r:Option Mt) (out:List Mt) (a:Option Addr) (n c:Nat) (w:World):Prop where
 ex :∃(T:Tt) (tv:Value) (F Fr:Bs2) (b:Nat),Zp (SeR C ρ tv T :: MaR P b (Jl r) a n c :: τ.tl b out :: mine) w F Fr/\ZdC C w F ρ.bg X B mine/\Fb w F/\Rdy C.u.size T B/\Trn w0 F0 Fr0 w F Fr/\b<=w.heap.size/\CeI w F A 0 (.pointer (some ⟨C.X,0,none⟩))
theorem Zll {C:Cx} {ρ:Rx} {tv:Value} {T:Tt} {mine:List Rsc} {R Q:Rsc} (ha :∀R∈mine,Zq R) (hR:Zq R) (hQ:Zq Q) :∀S∈SeR C ρ tv T :: R :: Q :: mine,Zq S:=by
 intro S hS
 rcases List.mem_cons.1 hS with rfl | hS
 ·exact Qx _ _ _ _
 ·rcases List.mem_cons.1 hS with rfl | hS
  ·exact hR
  ·rcases List.mem_cons.1 hS with rfl | hS
   ·exact hQ
   ·exact ha S hS
theorem Zn3 {C:Cx} {ρ:Rx} {B:Option Bo} {mine:List Rsc} {Al:List Mt} {τ:Mlr} {N P b b1:Nat} {m:Mt} {a a':Option Addr} {n c n' c':Nat} {r:Option Mt} {out:List Mt} {w w' wS:World} {F Fr F' Fr':Bs2} {T':Tt} {tv':Value} (hτ:ZcD N Al C.X C.u τ) (ha :∀R∈mine,Zq R) (hb:b<=w.heap.size)
  (h2:w'.ownsRow w.heap.size 118 2 (.slice a' n' c') (r.elim [] (·.gs)).length (ZB (r.elim [] (·.gs)))) (h3 :∀k,(Value.slice a' n' c').ownBlock=some k->¬ F' k)
  (h4:Zp (SeR C ρ tv' T' :: MaR P b1 m a n c :: τ.tl b out :: mine) w' F' Fr') (h5:Trn w F Fr w' F' Fr')
  (kS:Za (fun k=>k=P) w' wS) (bS:wS.heap[P]? = some (.cells #[.bool (Jl r).ok,.int .i64 (Jl r).fr,.int .i64 (Jl r).up,.slice a' n' c'] 38 (0,0))) :
  Zp (SeR C ρ tv' T' :: MaR P w.heap.size (Jl r) a' n' c' :: τ.tl w.heap.size out :: mine) wS F' Fr'/\Trn w F Fr wS F' Fr':=by
 have hokR:Zq (Zp (SeR C ρ tv' T' :: τ.tl b out :: mine)):=ZeZ ha (hτ.ok b out);obtain ⟨G1,G2,hA⟩:=Zl.1 (Zy h4);obtain ⟨r1,r2,r3,r4,r5⟩:=hA.one;have hgs:(Jl r).gs=r.elim [] (·.gs):=by cases r <;> rfl
 have hrow:wS.ownsRow w.heap.size 118 2 (.slice a' n' c') (Jl r).gs.length (ZB (Jl r).gs):=by
  rw [hgs];exact Zb h2 kS (fun k hk e=>h3 k hk (e ▸ r2))
 have hM:MaR P w.heap.size (Jl r) a' n' c' wS F' G1:=⟨r1,r2,bS,hrow,h3⟩;have t1:Trn w' F' G1 wS F' G1:=Trn.same (fun k hk=>((r1 k).1 hk) ▸ r2) (kS.mono (fun k _ e=>(r1 k).2 e));obtain ⟨hA2,t2⟩:=hA.upd (Zdb P b1 m a n c) hokR t1 hM;have t3:=h5.trans t2;obtain ⟨A1,A2,eA,dA,hSe,C1,C2,eC,dC,hMa,D1,D2,eD,dD,htl,hmine⟩:=Zy (Zl.2 ⟨_,_,hA2⟩);have hfe :∀k,Fr' k↔G1 k\/G2 k:=hA.all;have hFr:(fun k=>G1 k\/G2 k)=Fr':=funext fun k=>propext (hfe k).symm;rw [<- hFr];exact ⟨⟨A1,A2,eA,dA,hSe,C1,C2,eC,dC,hMa,D1,D2,eD,dD,hτ.up _ _ _ _ _ _ hb htl,hmine⟩,t3⟩
theorem ZqH {C:Cx} {ρ:Rx} {mine:List Rsc} {Al:List Mt} {τ:Mlr} {N P b:Nat} {m:Mt} {a:Option Addr} {n c:Nat} {out:List Mt} {w:World} {F Fr:Bs2} {T:Tt} {tv:Value} (hτ:ZcD N Al C.X C.u τ) (ha :∀R∈mine,Zq R) (hFb:Fb w F) (hb:b<=w.heap.size)
  (h4:Zp (SeR C ρ tv T :: MaR P b m a n c :: τ.tl b out :: mine) w F Fr) (h1:m.ok=true) (h2:m.gs.length<=9) (h3:0<=m.fr) (h5:m.fr<=m.up) (h6:m.up<=(N:Int)) (h7:out.length < τ.cap) (h8 : τ.on out=true) (h9:out ++ [m] <+: Al) :
  YieldAt Fence.wide 0 Tryz.prog τ.l #[.agg #[.bool m.ok,.int .i64 m.fr,.int .i64 m.up,.slice a n c]] w fun e w'=>e = .returned (.bool (τ.on (out ++ [m])))/\∃F' Fr',Zp (SeR C ρ tv T :: MaR P b m a n c :: τ.tl w'.heap.size (out ++ [m]) :: mine) w' F' Fr'/\Trn w F Fr w' F' Fr':=by
 obtain ⟨A1,A2,eA,dA,hSe,C1,C2,eC,dC,hMa,D1,D2,eD,dD,htl,hmine⟩:=id h4;obtain ⟨r1,r2,r3,r4,r5⟩:=hMa;refine (hτ.yl w F D1 b out m a n c hFb htl hb r4 r5 h1 h2 h3 h5 h6 h7 h8 h9 (by obtain ⟨L0,hs0,-⟩:=id hSe; exact TxA.of hs0)).mono ?_;rintro e w' ⟨rfl,F',Fr',g1,g2⟩;have hA:Apt (τ.tl b out) (Zp (SeR C ρ tv T :: MaR P b m a n c :: mine)) w F Fr D1 (fun k=>A1 k\/C1 k\/D2 k):=by
  refine ⟨fun k=>?_,fun k hk hc=>?_,htl,A1,fun k=>C1 k\/D2 k,fun k=>Iff.rfl,fun k hk hc=>?_,hSe,C1,D2,fun k=>Iff.rfl,fun k hk hc=>?_,⟨r1,r2,r3,r4,r5⟩,hmine⟩
  ·rw [eA k,eC k,eD k];constructor
   ·rintro (h | h | h | h)
    ·exact Or.inr (Or.inl h)
    ·exact Or.inr (Or.inr (Or.inl h))
    ·exact Or.inl h
    ·exact Or.inr (Or.inr (Or.inr h))
   ·rintro (h | h | h | h)
    ·exact Or.inr (Or.inr (Or.inl h))
    ·exact Or.inl h
    ·exact Or.inr (Or.inl h)
    ·exact Or.inr (Or.inr (Or.inr h))
  ·rcases hc with hc | hc | hc
   ·exact dA k hc ((eC k).2 (Or.inr ((eD k).2 (Or.inl hk))))
   ·exact dC k hc ((eD k).2 (Or.inl hk))
   ·exact dD k hk hc
  ·rcases hc with hc | hc
   ·exact dA k hk ((eC k).2 (Or.inl hc))
   ·exact dA k hk ((eC k).2 (Or.inr ((eD k).2 (Or.inr hc))))
  ·exact dC k hk ((eD k).2 (Or.inr hc))
 have hokR:Zq (Zp (SeR C ρ tv T :: MaR P b m a n c :: mine)):=ZeZ ha (Zdb P b m a n c);obtain ⟨hA2,t2⟩:=hA.upd (hτ.ok b out) hokR g2 g1;refine ⟨rfl,F',_,?_,t2⟩;obtain ⟨B1,B2,hX⟩ :∃B1 B2,Apt (SeR C ρ tv T) (Zp (τ.tl w'.heap.size (out ++ [m]) :: MaR P b m a n c :: mine)) w' F' _ B1 B2:=Zl.1 (Zy (Zl.2 ⟨_,_,hA2⟩));exact Zl.2 ⟨B1,B2,hX.all,hX.dis,hX.one,Zy hX.two⟩
theorem ZlZ {w:World} {C:Cx} {ρ:Rx} {X:Xs} {B:Option Bo} {mine:List Rsc} {T:Tt} {tv:Value} {F Fr:Bs2} {p:Nat} (hS:ZdC C w F ρ.bg X B mine) (hR:Zp (SeR C ρ tv T :: mine) w F Fr) (hFb:Fb w F) (hrd:Rdy C.u.size T B) (hX:OkX C.u.size 0 C.G X) (hu:C.u.size<=200) (hG:C.G<=9) (hp:p<=C.u.size + 1) {r:Option Mt} (hr:Qc (fun a=>(X a).map (QX C.G a)) (C.u.size + 1 - p) p=r) :
  Calls Tryz.prog 44 #[.pointer (some ⟨C.X,0,none⟩),.int .i64 (p:Int)] w (fun e w' =>∃(a:Option Addr) (n c:Nat),e = .returned (.agg #[.bool (Jl r).ok,.int .i64 (Jl r).fr,.int .i64 (Jl r).up,.slice a n c])/\Hid (∃(T':Tt) (tv':Value) (F' Fr':Bs2),w'.ownsRow w.heap.size 118 2 (.slice a n c) (r.elim [] (·.gs)).length (ZB (r.elim [] (·.gs)))/\(∀k,(Value.slice a n c).ownBlock=some k->¬ F' k)/\Zp (SeR C ρ tv' T' :: mine) w' F' Fr'/\Trn w F Fr w' F' Fr'/\Rdy C.u.size T' B)):=by
 have h:=Zow hS hR hFb hrd hX hu hG hp;rw [hr] at h;refine h.mono ?_;rintro e w' ⟨T',tv',F',Fr',a,n,c,rfl,g1,g2,g3,g4,g5⟩;refine ⟨a,n,c,?_,T',tv',F',Fr',g1,g2,g3,g4,g5⟩
 cases r <;> rfl
theorem ZqI {C:Cx} {ρ:Rx} {X:Xs} {B:Option Bo} {mine:List Rsc} {Al:List Mt} {τ:Mlr} {N A b:Nat} {a:Option Addr} {n c:Nat} {r:Option Mt} {w w2:World} {F Fr F1 Fr1:Bs2} {T:Tt} {tv:Value} (hτ:ZcD N Al C.X C.u τ) (hb:b<=w.heap.size) (hS:ZdC C w F ρ.bg X B mine) (hFb:Fb w F) (hF :∀k,Fr k->F k) (hA:CeI w F A 0 (.pointer (some ⟨C.X,0,none⟩)))
  (h2:w2.ownsRow w.heap.size 118 2 (.slice a n c) (r.elim [] (·.gs)).length (ZB (r.elim [] (·.gs)))) (h3 :∀k,(Value.slice a n c).ownBlock=some k->¬ F1 k)
  (h4:Zp (SeR C ρ tv T :: τ.tl b [] :: mine) w2 F1 Fr1) (h5:Trn w F Fr w2 F1 Fr1) (hrd:Rdy C.u.size T B) :
  MaI C ρ X B mine τ A w2.heap.size w F Fr r [] a n c (w2.alloc (.cells #[.bool (Jl r).ok,.int .i64 (Jl r).fr,.int .i64 (Jl r).up,.slice a n c] 38)):=by
 have k1:Za N0_ w2 (w2.alloc (.cells #[.bool (Jl r).ok,.int .i64 (Jl r).fr,.int .i64 (Jl r).up,.slice a n c] 38)):=(Za.refl _ _).alloc _;have bP:(w2.alloc (.cells #[.bool (Jl r).ok,.int .i64 (Jl r).fr,.int .i64 (Jl r).up,.slice a n c] 38)).heap[w2.heap.size]? = some (.cells #[.bool (Jl r).ok,.int .i64 (Jl r).fr,.int .i64 (Jl r).up,.slice a n c] 38 (0,0)):=heap_alloc_new _ _;generalize (w2.alloc (.cells #[.bool (Jl r).ok,.int .i64 (Jl r).fr,.int .i64 (Jl r).up,.slice a n c] 38))=w3 at k1 bP ⊢;have hok:=ZeZ (C:=C) (ρ := ρ) (tv:=tv) (T:=T) hS.ok (hτ.ok b []);have hlt:=hok.lt h4;have hFb1:Fb w2 F1:=hFb.trn h5 (fun k hk=>(hlt k hk).2);have hs3:=lt_of_block bP;have hgs:(Jl r).gs=r.elim [] (·.gs):=by cases r <;> rfl
 have l1:Lat w2 F1 w3 (fun k=>F1 k\/k=w2.heap.size):=⟨k1.mono (fun _ _ h=>h.elim),fun k hk=>hk.imp id (fun e=>by omega)⟩;have hR1:=hok.frame h4 l1 (fun k hk=>Or.inl (hlt k hk).1) (fun k hk=>k1.block k (hlt k hk).2 id);have hrow:=Zb h2 k1 (fun _ _ h=>h);have hM:MaR w2.heap.size w.heap.size (Jl r) a n c w3 (fun k=>F1 k\/k=w2.heap.size) (fun k=>k=w2.heap.size):=⟨fun k=>Iff.rfl,Or.inr rfl,bP,by rw [hgs]; exact hrow,fun k hk h=>by
  rcases h with h | h
  ·exact h3 k hk h
  ·have:=(h2.lt k hk).2; omega⟩
 have hst:=Zy (ZcY hok hR1 (fun h=>by have:=(hlt _ h).2; omega) (Or.inr rfl) hM);obtain ⟨A1,A2,eA,dA,hSe,C1,C2,eC,dC,hMa,D1,D2,eD,dD,htl,hmine⟩:=hst;have l2:Lat w F w3 (fun k=>F1 k\/k=w2.heap.size):=(h5.lat hF).trans l1;have t1:Trn w2 F1 Fr1 w3 (fun k=>F1 k\/k=w2.heap.size) (fun k=>k=w2.heap.size\/Fr1 k):=by
  refine ⟨k1.mono (fun _ _ h=>h.elim),fun k hk=>?_,fun k hk=>?_,fun k hs hk hn=>Or.inl hk,fun k hk=>?_⟩
  ·rcases hk with h | h
   ·exact Or.inr (by omega)
   ·exact Or.inl h
  ·rcases hk with h | h
   ·by_cases h2:Fr1 k
    ·exact Or.inr (Or.inr h2)
    ·exact Or.inl ⟨h,h2⟩
   ·exact Or.inr (Or.inl h)
  ·rcases hk with h | h
   ·exact Or.inr h
   ·exact Or.inl (hlt k h).1
 have hws:w.heap.size<=w3.heap.size:=l2.size;refine ⟨T,tv,_,_,w.heap.size,⟨A1,A2,eA,dA,hSe,C1,C2,eC,dC,hMa,D1,D2,eD,dD,hτ.up _ _ _ _ _ _ hb htl,hmine⟩,hS.later l2,fun k hk=>?_,hrd,h5.trans t1,hws,hA.later l2⟩
 rcases hk with h | h
 ·have:=hFb1 k h; have:=k1.size; omega
 ·omega
def MtP (C:Cx) (ρ:Rx) (B:Option Bo) (mine:List Rsc) (τ:Mlr) (l:List Mt) (w:World) (F Fr:Bs2) (e:Ending) (w':World):Prop :=
 e = .returned (.tuple #[])/\∃(T':Tt) (tv':Value) (F' Fr':Bs2) (b':Nat),Zp (SeR C ρ tv' T' :: τ.tl b' l :: mine) w' F' Fr'/\Trn w F Fr w' F' Fr'/\Rdy C.u.size T' B
theorem ZpI {C:Cx} {ρ:Rx} {B:Option Bo} {mine:List Rsc} {Al:List Mt} {τ:Mlr} {N P b b1:Nat} {m:Mt} {a:Option Addr} {n c:Nat} {out:List Mt} {w w':World} {F Fr F' Fr':Bs2} {T':Tt} {tv':Value} (hτ:ZcD N Al C.X C.u τ) (ha :∀R∈mine,Zq R) (h4:Zp (SeR C ρ tv' T' :: MaR P b1 m a n c :: τ.tl b out :: mine) w' F' Fr') (h5:Trn w F Fr w' F' Fr') (hrd:Rdy C.u.size T' B):MtP C ρ B mine τ out w F Fr (.returned (.tuple #[])) w':=by
 obtain ⟨H1,H2,-,q2,q3⟩:=Zat (Zdb P b1 m a n c) (ZeZ ha (hτ.ok b out)) (Zy h4) h5;exact ⟨rfl,T',tv',_,H2,b,q2,q3,hrd⟩
theorem ZcM {X:Xs} {N G k p:Nat} {m:Mt} (hX:OkX N 0 G X) (hk:p + k<=N + 1) (h:Qc (fun a=>(X a).map (QX G a)) k p=some m):m.ok=true/\m.gs.length=G/\(p:Int)<=m.fr/\m.fr<=m.up/\m.up<=(N:Int)/\p + 1<=nxt m/\nxt m<=N + 1:=by
 obtain ⟨a,h1,h2,h3⟩:=ZcN _ _ h;obtain ⟨e,he,rfl⟩:=List.mem_map.1 h3;have h4:=(hX a (by omega)).2 e he;have h5:=h4.1;have h6:=h4.2.1;have hn:nxt (QX G a e)=if e.1=a then e.1 + 1 else e.1:=by
  unfold nxt;show (if ((e.1:Nat):Int)=((a:Nat):Int) then ((e.1:Nat):Int) + 1 else ((e.1:Nat):Int)).toNat = _
  by_cases hh:e.1=a
  ·rw [if_pos hh,if_pos (by omega)]; omega
  ·rw [if_neg hh,if_neg (by omega)]; omega
 rw [hn];refine ⟨rfl,Jq _ _,by show (p:Int)<=((a:Nat):Int); omega,by show ((a:Nat):Int)<=((e.1:Nat):Int); omega,by show ((e.1:Nat):Int)<=_; omega,?_,?_⟩
 ·split <;> omega
 ·split <;> omega
theorem Zqf {w:World} {P:Nat} {t:TypeId} {a0 a1 a2 a3:Value} (b0 b1 b2 b3:Value) (h:w.heap[P]? = some (.cells #[a0,a1,a2,a3] t (0,0))) :
  ((((w.setCell ⟨P,0,none⟩ b0).setCell ⟨P,1,none⟩ b1).setCell ⟨P,2,none⟩ b2).setCell ⟨P,3,none⟩ b3).heap[P]? = some (.cells #[b0,b1,b2,b3] t (0,0))/\Za (fun k=>k=P) w ((((w.setCell ⟨P,0,none⟩ b0).setCell ⟨P,1,none⟩ b1).setCell ⟨P,2,none⟩ b2).setCell ⟨P,3,none⟩ b3):=by
 have h1:(w.setCell ⟨P,0,none⟩ b0).heap[P]? = some (.cells #[b0,a1,a2,a3] t (0,0)):=by rw [heap_setCell_same _ _ _ _ _ _ h]; rfl
 have h2:((w.setCell ⟨P,0,none⟩ b0).setCell ⟨P,1,none⟩ b1).heap[P]? = some (.cells #[b0,b1,a2,a3] t (0,0)):=by rw [heap_setCell_same _ _ _ _ _ _ h1]; rfl
 have h3:(((w.setCell ⟨P,0,none⟩ b0).setCell ⟨P,1,none⟩ b1).setCell ⟨P,2,none⟩ b2).heap[P]? = some (.cells #[b0,b1,b2,a3] t (0,0)):=by rw [heap_setCell_same _ _ _ _ _ _ h2]; rfl
 refine ⟨by rw [heap_setCell_same _ _ _ _ _ _ h3]; rfl,?_⟩;exact ((((Za.refl (fun k=>k=P) w).setCell (fun _=>rfl) _).setCell (fun _=>rfl) _).setCell (fun _=>rfl) _).setCell (fun _=>rfl) _
theorem ZgY {w:World} {C:Cx} {ρ:Rx} {X:Xs} {B:Option Bo} {mine:List Rsc} {T:Tt} {tv:Value} {F Fr:Bs2} {A b0:Nat} {τ:Mlr} (hτ:ZcD C.u.size (JN (fun a=>(X a).map (QX C.G a)) C.u.size (C.u.size + 2) 0) C.X C.u τ) (hS:ZdC C w F ρ.bg X B mine) (hA:CeI w F A 0 (.pointer (some ⟨C.X,0,none⟩))) (hR:Zp (SeR C ρ tv T :: τ.tl b0 [] :: mine) w F Fr) (hFb:Fb w F) (hrd:Rdy C.u.size T B) (hX:OkX C.u.size 0 C.G X) (hu:C.u.size<=200) (hG:C.G<=9) (hb:b0<=w.heap.size) (hcap:C.u.size + 1<=τ.cap) :
  Calls Tryz.prog 43 #[.func (.yield τ.l) #[] #[],.pointer (some ⟨A,0,none⟩)] w (MtP C ρ B mine τ (Jk τ.on [] (JN (fun a=>(X a).map (QX C.G a)) C.u.size (C.u.size + 2) 0)) w F Fr):=by
 have hfn :∀f,Fence.wide.fn f:=fun _=>trivial;have hdp:Fence.wide.depth=none:=rfl;have cA:=hA.1;obtain ⟨r0,hr0⟩ :∃r,Qc (fun a=>(X a).map (QX C.G a)) (C.u.size + 1 - 0) 0=r:=⟨_,rfl⟩;have hok0:=ZeZ (C:=C) (ρ := ρ) (tv:=tv) (T:=T) hS.ok (hτ.ok b0 []);have hf0:CallsIn Fence.wide 2 Tryz.prog 44 #[.pointer (some ⟨C.X,0,none⟩),.int .i64 0] w (fun e w' =>∃(a:Option Addr) (n c:Nat),e = .returned (.agg #[.bool (Jl r0).ok,.int .i64 (Jl r0).fr,.int .i64 (Jl r0).up,.slice a n c])/\Hid (MaI C ρ X B mine τ A w'.heap.size w F Fr r0 [] a n c (w'.alloc (.cells #[.bool (Jl r0).ok,.int .i64 (Jl r0).fr,.int .i64 (Jl r0).up,.slice a n c] 38)))):=by
  refine callsIn_wide.2 ((ZlZ (p:=0) (hS.mine (mine' := τ.tl b0 [] :: mine) (fun R hR=>List.mem_cons_of_mem _ hR) (fun R hR=>by
   rcases List.mem_cons.1 hR with rfl | hR
   ·exact hτ.ok _ _
   ·exact hS.ok R hR)) hR hFb hrd hX hu hG (Nat.zero_le _) hr0).mono ?_)
  rintro e w' ⟨a,n,c,rfl,HX⟩;obtain ⟨T',tv',F',Fr',g1,g2,g3,g4,g5⟩:=HX.out;exact ⟨a,n,c,rfl,ZqI hτ hb hS hFb (fun k hk=>(hok0.lt hR k hk).1) hA g1 g2 g3 g4 g5⟩
 have HR0:Hid (Qc (fun a=>(X a).map (QX C.G a)) (C.u.size + 1 - 0) 0=r0):=hr0;refine (callsIn_wide (n:=3)).1 ?_;refine callsIn_of_wp Tryz.func43 rfl trivial ?_;simp only [Tryz.ntmps43,List.size_toArray,List.length_cons,List.length_nil,Nat.reduceAdd,Nat.reduceSub,Array.replicate_succ,Array.replicate_zero,List.push_toArray,List.append_toArray,List.nil_append,List.cons_append];clear hr0 hS hR hFb hrd hok0;gi_wp2_with (gi_at_call 44; refine hf0.mono ?_; rintro e w2 ⟨a,n,c,rfl,HI⟩; clear hf0);obtain ⟨P,hP⟩ :∃P,w2.heap.size=P:=⟨_,rfl⟩;have HI0:Hid (MaI C ρ X B mine τ A P w F Fr r0 [] a n c (w2.alloc (.cells #[.bool (Jl r0).ok,.int .i64 (Jl r0).fr,.int .i64 (Jl r0).up,.slice a n c] 38))):=by rw [<- hP]; exact HI
 clear HI;rw [hP];generalize (w2.alloc (.cells #[.bool (Jl r0).ok,.int .i64 (Jl r0).fr,.int .i64 (Jl r0).up,.slice a n c] 38))=w3 at *;refine wpIn_loop_ghost_k (fun g a wr =>∃(p k:Nat) (r:Option Mt) (out:List Mt) (ar:Option Addr) (nr cr:Nat) (u4 u5 u6 u7 u8 u9 u10 u11 u12 u13 u14 u15 u16:Value),g=k/\p<=C.u.size + 1/\C.u.size + 2<=p + (k + 1)/\Hid (τ.on out=true/\out.length<=p/\Qc (fun a=>(X a).map (QX C.G a)) (C.u.size + 1 - p) p=r/\Jk τ.on out (JN (fun a=>(X a).map (QX C.G a)) C.u.size (k + 1) p)=Jk τ.on [] (JN (fun a=>(X a).map (QX C.G a)) C.u.size (C.u.size + 2) 0)/\JN (fun a=>(X a).map (QX C.G a)) C.u.size (C.u.size + 2) 0=out ++ JN (fun a=>(X a).map (QX C.G a)) C.u.size (k + 1) p)/\Hid (MaI C ρ X B mine τ A P w F Fr r out ar nr cr wr)/\
  a = { tmps:=#[.func (.yield τ.l) #[] #[],.pointer (some ⟨A,0,none⟩),undef,.pointer (some ⟨P,0,none⟩),u4,u5,u6,u7,u8,u9,u10,u11,u12,u13,u14,u15,u16],defers := [] }) (C.u.size + 1) ?_ ?_
 ·exact ⟨0,C.u.size + 1,r0,[],a,n,c,_,_,_,_,_,_,_,_,_,_,_,_,_,rfl,by omega,by omega,⟨hτ.on0,Nat.le_refl _,HR0.out,rfl,rfl⟩,HI0,rfl⟩
 clear HI0 HR0 hP w2 w3 r0 a n c cA;intro g a wr hI J K hJ hK;obtain ⟨p,k,r,out,ar,nr,cr,u4,u5,u6,u7,u8,u9,u10,u11,u12,u13,u14,u15,u16,rfl,hp,hfu,HE,HI,rfl⟩:=hI;obtain ⟨T2,tv2,F2,Fr2,b,g1,g2,g3,g4,g5,g6,g7⟩:=HI.out.ex;obtain ⟨A1,A2,eA,dA,hSe,C1,C2,eC,dC,⟨q1,q2,q3,q4,q5⟩,hrest⟩:=id g1;have cA:=g7.1;have c0:wr.cell? ⟨P,0,none⟩=some (.bool (Jl r).ok):=by rw [Zc q3]; rfl
 have c1:wr.cell? ⟨P,1,none⟩=some (.int .i64 (Jl r).fr):=by rw [Zc q3]; rfl
 have c2:wr.cell? ⟨P,2,none⟩=some (.int .i64 (Jl r).up):=by rw [Zc q3]; rfl
 have c3:wr.cell? ⟨P,3,none⟩=some (.slice ar nr cr):=by rw [Zc q3]; rfl
 cases r with
 | none =>
   have HF:Hid (MtP C ρ B mine τ (Jk τ.on [] (JN (fun a=>(X a).map (QX C.G a)) C.u.size (C.u.size + 2) 0)) w F Fr (.returned (.tuple #[])) wr):=by
    have e:=HE.out.2.2.2.1;simp only [JN,HE.out.2.2.1,Jk] at e;rw [<- HE.out.2.2.2.1];simp only [JN,HE.out.2.2.1,Jk];exact ZpI hτ g2.ok g1 g5 g4
   simp only [Jl,Option.elim_none] at c0;clear g1 g2 g3 g4 g5 g6 g7 HI HE eA dA hSe eC dC q1 q2 q3 q4 q5 hrest hJ hK;gi_wp2;refine bodyPost_end (results_none rfl _ _ _) rfl ?_;exact HF.out
 | some m =>
   obtain ⟨f1,f2,f3,f4,f5,f6,f7⟩:=ZcM hX (by omega) HE.out.2.2.1;have hY:=ZqH (m:=m) hτ g2.ok g3 g6 g1 f1 (by omega) (by omega) f4 f5 (by have:=HE.out.2.1; omega) HE.out.1 (by rw [HE.out.2.2.2.2]; simp only [JN,HE.out.2.2.1]; exact ⟨JN (fun a=>(X a).map (QX C.G a)) C.u.size g (nxt m),by simp⟩);obtain ⟨fn,tmps,assign,body,hy,hRd⟩:=hY;have c0':wr.cell? ⟨P,0,none⟩=some (.bool m.ok):=c0;have c1':wr.cell? ⟨P,1,none⟩=some (.int .i64 m.fr):=c1;have c2':wr.cell? ⟨P,2,none⟩=some (.int .i64 m.up):=c2;rw [f1] at c0' hy;clear c0 c1 c2;gi_wp2;refine (Zc3 hRd).mono ?_;rintro e w5 ⟨rfl,HT⟩;obtain ⟨F5,Fr5,st5,t5⟩:=HT;have hok2:Zq (Zp (SeR C ρ tv2 T2 :: MaR P b m ar nr cr :: τ.tl b out :: mine)):=ZR (Zll g2.ok (Zdb P b m ar nr cr) (hτ.ok b out));have hok5:Zq (Zp (SeR C ρ tv2 T2 :: MaR P b m ar nr cr :: τ.tl w5.heap.size (out ++ [m]) :: mine)):=ZR (Zll g2.ok (Zdb P b m ar nr cr) (hτ.ok _ _));have hlt5:=hok5.lt st5;have t05:Trn w F Fr w5 F5 Fr5:=g5.trans t5
   cases hon : τ.on (out ++ [m]) with
   | false =>
     have HF:Hid (MtP C ρ B mine τ (Jk τ.on [] (JN (fun a=>(X a).map (QX C.G a)) C.u.size (C.u.size + 2) 0)) w F Fr (.returned (.tuple #[])) w5):=by
      rw [<- HE.out.2.2.2.1];simp only [JN,HE.out.2.2.1,Jk,hon];exact ZpI hτ g2.ok st5 t05 g4
     clear g1 g2 g3 g4 g5 g6 g7 HI HE eA dA hSe eC dC q1 q2 q3 q4 q5 hrest hJ hK st5 t5 hok2 hok5 hlt5 t05 hy hRd;gi_wp2;refine bodyPost_end (results_none rfl _ _ _) rfl ?_;exact HF.out
   | true =>
     have l25:Lat wr F2 w5 F5:=t5.lat (fun k hk=>(hok2.lt g1 k hk).1);have hFb5:Fb w5 F5:=g3.trn t5 (fun k hk=>(hlt5 k hk).2);have hS5:=g2.later l25;have hA5:=g7.later l25;obtain ⟨-,-,-,-,-,-,-,-,-,⟨r1,r2,r3,r4,r5⟩,-⟩:=id st5;have kd:Za N0_ w5 w5.drew:=(Za.refl _ _).drew;have cA5:w5.drew.cell? ⟨A,0,none⟩=some (.pointer (some ⟨C.X,0,none⟩)):=hA5.1;have d0:w5.drew.cell? ⟨P,0,none⟩=some (.bool true):=by rw [Zc (w:=w5.drew) r3,f1]; rfl
     have d1:w5.drew.cell? ⟨P,1,none⟩=some (.int .i64 m.fr):=by rw [Zc (w:=w5.drew) r3]; rfl
     have d2:w5.drew.cell? ⟨P,2,none⟩=some (.int .i64 m.up):=by rw [Zc (w:=w5.drew) r3]; rfl
     have d3:w5.drew.cell? ⟨P,3,none⟩=some (.slice ar nr cr):=by rw [Zc (w:=w5.drew) r3]; rfl
     have hnxz:((nxt m:Nat):Int)=if m.up=m.fr then m.up + 1 else m.up:=by unfold nxt; split <;> omega
     have hnx:CallsIn Fence.wide 2 Tryz.prog 45 #[.agg #[.bool true,.int .i64 m.fr,.int .i64 m.up,.slice ar nr cr]] w5.drew (fun e w'=>e = .returned (.int .i64 ((nxt m:Nat):Int))/\Za N0_ w5.drew w'):=by
      rw [hnxz];exact callsIn_wide.2 (ZfT (by omega) (by omega))
     obtain ⟨r',hr'⟩ :∃r',Qc (fun a=>(X a).map (QX C.G a)) (C.u.size + 1 - nxt m) (nxt m)=r':=⟨_,rfl⟩;have HFd:Hid (∀w6,Za N0_ w5.drew w6->CallsIn Fence.wide 2 Tryz.prog 44 #[.pointer (some ⟨C.X,0,none⟩),.int .i64 ((nxt m:Nat):Int)] w6 (fun e w' =>∃(a':Option Addr) (n' c':Nat),e = .returned (.agg #[.bool (Jl r').ok,.int .i64 (Jl r').fr,.int .i64 (Jl r').up,.slice a' n' c'])/\w'.heap[P]? = some (.cells #[.bool m.ok,.int .i64 m.fr,.int .i64 m.up,.slice ar nr cr] 38 (0,0))/\Hid (∀wS,Za (fun k=>k=P) w' wS->wS.heap[P]? = some (.cells #[.bool (Jl r').ok,.int .i64 (Jl r').fr,.int .i64 (Jl r').up,.slice a' n' c'] 38 (0,0))->MaI C ρ X B mine τ A P w F Fr r' (out ++ [m]) a' n' c' wS))):=by
      intro w6 hk6;have k56:=kd.trans hk6;have l56:Lat w5 F5 w6 F5:=Lat.ofKeeps k56;have st6:=hok5.frame st5 l56 (fun k hk=>(hlt5 k hk).1) (fun k hk=>k56.block k (hlt5 k hk).2 id);have hFb6:Fb w6 F5:=hFb5.keeps k56;have hS6:=hS5.later l56;refine callsIn_wide.2 ((ZlZ (p:=nxt m) (hS6.mine (mine':=MaR P b m ar nr cr :: τ.tl w5.heap.size (out ++ [m]) :: mine) (fun R hR=>List.mem_cons_of_mem _ (List.mem_cons_of_mem _ hR)) (fun R hR=>by
       rcases List.mem_cons.1 hR with rfl | hR
       ·exact Zdb _ _ _ _ _ _
       ·rcases List.mem_cons.1 hR with rfl | hR
        ·exact hτ.ok _ _
        ·exact hS5.ok R hR)) st6 hFb6 g4 hX hu hG f7 hr').mono ?_)
      rintro e w' ⟨a',n',c',rfl,HX⟩;obtain ⟨T',tv',F',Fr',h2,h3,h4,h5,h6⟩:=HX.out;obtain ⟨-,-,-,-,-,-,-,-,-,⟨p1,p2,p3,p4,p5⟩,-⟩:=id h4;refine ⟨a',n',c',rfl,p3,?_⟩;intro wS kS bS;obtain ⟨s1,s2⟩:=Zn3 (B:=B) hτ hS5.ok k56.size h2 h3 h4 h5 kS bS;have t56:Trn w5 F5 Fr5 w6 F5 Fr5:=Trn.ofKeeps (fun k hk=>(hlt5 k hk).1) k56;have t5S:=t56.trans s2;have l5S:Lat w5 F5 wS F':=t5S.lat (fun k hk=>(hlt5 k hk).1);have hokS:Zq (Zp (SeR C ρ tv' T' :: MaR P w6.heap.size (Jl r') a' n' c' :: τ.tl w6.heap.size (out ++ [m]) :: mine)):=ZR (Zll hS5.ok (Zdb _ _ _ _ _ _) (hτ.ok _ _));exact ⟨T',tv',F',Fr',w6.heap.size,s1,hS5.later l5S,hFb5.trn t5S (fun k hk=>(hokS.lt s1 k hk).2),h6,t05.trans t5S,s2.keeps.size,hA5.later l5S⟩
     have HN:Hid (τ.on (out ++ [m])=true/\(out ++ [m]).length<=nxt m/\Qc (fun a=>(X a).map (QX C.G a)) (C.u.size + 1 - nxt m) (nxt m)=r'/\(∀g',g=g' + 1->Jk τ.on (out ++ [m]) (JN (fun a=>(X a).map (QX C.G a)) C.u.size (g' + 1) (nxt m))=Jk τ.on [] (JN (fun a=>(X a).map (QX C.G a)) C.u.size (C.u.size + 2) 0)/\JN (fun a=>(X a).map (QX C.G a)) C.u.size (C.u.size + 2) 0=(out ++ [m]) ++ JN (fun a=>(X a).map (QX C.G a)) C.u.size (g' + 1) (nxt m))):=by
      obtain ⟨e1,e2,e3,e4,e5⟩:=HE.out;refine ⟨hon,(by simp; omega),hr',fun g' hg=>?_⟩;subst hg;refine ⟨?_,?_⟩
      ·rw [<- e4]
       conv=>rhs; rw [JN]
       simp only [e3,Jk,hon,if_true]
      ·rw [e5]
       conv=>lhs; rw [JN]
       simp only [e3];simp
     clear g1 g2 g3 g4 g5 g6 g7 HI HE eA dA hSe eC dC q1 q2 q3 q4 q5 hrest st5 t5 hok2 hok5 hlt5 t05 hy hRd l25 hFb5 hS5 hA5 r3 kd c0' c1' c2' c3 hnxz hr';gi_wp2;gi_region_with (first
      | (gi_at_call 45; refine hnx.mono ?_; rintro e w6 ⟨rfl,hk6⟩; have cA6:=Zf cA5 hk6)
      | (gi_at_call 44; refine (HFd.out _ hk6).mono ?_; rintro e w7 ⟨a',n',c',rfl,hP7,HM⟩; have y0:w7.cell? ⟨P,0,none⟩=some (.bool m.ok):=(by rw [Zc hP7]; rfl); have y1:w7.cell? ⟨P,1,none⟩=some (.int .i64 m.fr):=(by rw [Zc hP7]; rfl); have y2:w7.cell? ⟨P,2,none⟩=some (.int .i64 m.up):=(by rw [Zc hP7]; rfl); have y3:w7.cell? ⟨P,3,none⟩=some (.slice ar nr cr):=(by rw [Zc hP7]; rfl); have z0:w7.frozen? ⟨P,0,none⟩=false:=Zv hP7; have z1:w7.frozen? ⟨P,1,none⟩=false:=Zv hP7; have z2:w7.frozen? ⟨P,2,none⟩=false:=Zv hP7; have z3:w7.frozen? ⟨P,3,none⟩=false:=Zv hP7))
     all_goals gi_wp2
     all_goals
      obtain ⟨g',rfl⟩ :∃g',g=g' + 1:=⟨g - 1,by omega⟩;obtain ⟨b1,b2,b3,b4⟩:=HN.out;obtain ⟨b5,b6⟩:=b4 g' rfl;obtain ⟨s1,s2⟩:=Zqf (.bool (Jl r').ok) (.int .i64 (Jl r').fr) (.int .i64 (Jl r').up) (.slice a' n' c') hP7;exact ⟨g',by omega,hJ _ _ _ ⟨nxt m,g',r',out ++ [m],a',n',c',_,_,_,_,_,_,_,_,_,_,_,_,_,rfl,f7,by omega,⟨b1,b2,b3,b5,b6⟩,HM.out _ s2 s1,rfl⟩⟩
end Go.Proofs.YtfkflljplohhcaaGreatDoor
