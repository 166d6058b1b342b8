import Derived.Test.YtfkflljplohhcaaGreatDoorYo
set_option linter.unusedVariables false
set_option maxHeartbeats 2000000
set_option maxRecDepth 100000
namespace Go.Proofs.YtfkflljplohhcaaGreatDoor
open Go.RowKit
def fG (m:Mt):Nat:=(if m.up=m.fr then m.up+1 else m.up).toNat
def Q5 (L:Nat->List Mt) (N:Nat):Nat->Nat->List Mt
 | 0,_ => []
 | k+1,p=>match Z2 L (N+1-p) p with
   | none => []
   | some m=>m::Q5 L N k (fG m)
def Z1 (s u:ByteArray):List Mt:=Q5 (fun a=>ZP s u (a:Int)) u.size (u.size+2) 0
variable {m:Mt}
theorem Mi{L:Nat->List Mt}:∀(k p:Nat),Z2 L k p=some m->∃a,p<=a/\a<p+k/\m∈L a:=by
 intro k
 induction k with
 | zero=>intro p h;cases h
 | succ k ih =>
   intro p h;simp only[Z2] at h
   split at h
   ·obtain⟨a,h1,h2,h3⟩:=ih _ h;exact⟨a,by omega,by omega,h3⟩
   ·rename_i m' l e
    cases h
    exact⟨p,Nat.le_refl _,by omega,by rw[e];simp⟩
variable {u:ByteArray}{p c N P b b1 A:Nat}{w w':World}{bg tv tv':Value}{a:Option Addr}
theorem Zjy{s:ByteArray}{p:Int}(h:m∈ZP s u p):m.ok=true/\m.fr=p/\p<=m.up/\m.up<=(u.size:Int):=by
 unfold ZP at h
 split at h
 ·rename_i hw
  cases ht:ZA s with
  | error x=>rw[ht] at h;simp at h
  | ok gf =>
    obtain⟨g,f⟩:=gf;rw[ht] at h;simp only[List.mem_map] at h;obtain⟨e,he,rfl⟩:=h;simp only[wanted,Bool.and_eq_true,decide_eq_true_eq] at hw;obtain⟨hfg,-,-,-⟩:=yo ht;have hX:dh u.size 0 g (dx u [] f):=zi u ⟨f,hfg,rfl⟩;have h1:=(hX p.toNat (by omega)).2 e he;have h2:=h1.1;have h3:=h1.2.1;exact⟨rfl,by show ((p.toNat:Nat):Int)=p;omega,by show p<=((e.1:Nat):Int);omega,by show ((e.1:Nat):Int)<=_;omega⟩
 ·simp at h
variable {C:Cx}{F:az}{B:Option Bo}
theorem ja.mine{X:Xs}{mine mine':List aO}(h:ja C w F bg X B mine)(hm:∀R∈mine,R∈mine')(ho:∀R∈mine',Zs R):ja C w F bg X B mine':=⟨h.st.mine hm,h.nn,ho⟩
theorem Zgq{ok:Bool}{fr up:Int}{n:Nat}(h0:0<=up)(h1:up<=1000000):
  au 45 #[.agg #[.bool ok,.int .i64 fr,.int .i64 up,.slice a n c]] w fun e w'=>e=.returned (.int .i64 (if up=fr then up+1 else up))/\Za ai w w':=by
 by_cases he:up=fr
 ·have hz:(up == fr)=true:=by simp[he]
  rw[if_pos he];clear he;go_enter Tryz.func45,Tryz.ntmps45;go_wp2;go_ret;exact⟨rfl,(Za.refl _ _).alloc _⟩
 ·have hz:(up == fr)=false:=by simp[he]
  rw[if_neg he];clear he;go_enter Tryz.func45,Tryz.ntmps45;go_wp2;go_ret;exact⟨rfl,(Za.refl _ _).alloc _⟩
theorem Zdt{X:Nat}:au 23 #[ae X] w fun e w'=>e=.returned (.func (.func 43) #[] #[ae w.heap.size])/\aP w' w.heap.size 52 ((ae X))/\Za ai w w':=by
 have mR:∀(fn:Fn) (first cap:Array Value) (w:World),(Instr.makeFunc fn first cap).run Tryz.prog w=.ok (.func fn first cap) w:=fun _ _ _ _=>rfl;have b1:=heap_alloc_new w (.cells #[ae X] 52);go_enter Tryz.func23,Tryz.ntmps23;go_wp2;go_ret;exact⟨rfl,b1,(Za.refl _ _).alloc _⟩
structure zH where
 l:Nat
 on:List Mt->Bool
 cap:Nat
 tl:Nat->List Mt->aO
def pM (Xa:Nat) (u:ByteArray) (w:World):Prop :=∃cs,w.heap[Xa]?=some (.cells cs 105 (0,0))/\cs[0]?=some (.string u)
theorem pM.keeps{Xa:Nat}{E:Nat->Prop}(h:pM Xa u w)(k:Za E w w')(hn:¬E Xa):pM Xa u w':=by
 obtain⟨cs,h1,h2⟩:=h;exact⟨cs,(k.block Xa (lt_of_block h1) hn).trans h1,h2⟩
theorem pM.of{jn:Int}{tl:Value}(h:Se w C jn bg tl):pM C.X C.u w:=⟨_,h,rfl⟩
structure rW (N:Nat) (Al:List Mt) (Xa:Nat) (xt:ByteArray) (τ:zH):Prop where
 ok:∀b out,Zs (τ.tl b out)
 Vw : τ.on []=true
 up:∀b b' out w F Fr,b<=b'->τ.tl b out w F Fr->τ.tl b' out w F Fr
 yl:∀(w:World) (F Fr:az) (b:Nat) (out:List Mt) (m:Mt) (a:Option Addr) (n c:Nat),Fb w F->τ.tl b out w F Fr->b<=w.heap.size->w.ownsRow b 118 2 (.slice a n c) m.gs.length (ZD m.gs)->(∀k,(Value.slice a n c).ownBlock=some k->¬F k)->m.ok=true->m.gs.length<=9->0<=m.fr->m.fr<=m.up->m.up<=(N:Int)->out.length < τ.cap->τ.on out=true->out++[m] <+: Al->pM Xa xt w->
  YieldAt Fence.wide 0 Tryz.prog τ.l #[.agg #[.bool m.ok,.int .i64 m.fr,.int .i64 m.up,.slice a n c]] w fun e w'=>e=.returned (.bool (τ.on (out++[m])))/\∃F' aM,τ.tl w'.heap.size (out++[m]) w' F' aM/\aJ w F Fr w' F' aM
def Q2 (on:List Mt->Bool):List Mt->List Mt->List Mt
 | out,[]=>out
 | out,m::ms=>if on (out++[m]) then Q2 on (out++[m]) ms else out++[m]
end Go.Proofs.YtfkflljplohhcaaGreatDoor
namespace Go.Proofs.YtfkflljplohhcaaGreatDoor
open Go.RowKit Go.Shelf
attribute [local go_sem] Oper.semAt_some
def oo (P b:Nat) (m:Mt) (a:Option Addr) (n c:Nat):aO:=fun w F Fr =>
 (∀k,Fr k↔k=P)/\F P/\w.heap[P]?=some (.cells #[.bool m.ok,.int .i64 m.fr,.int .i64 m.up,.slice a n c] 38 (0,0))/\w.ownsRow b 118 2 (.slice a n c) m.gs.length (ZD m.gs)/\∀k,(Value.slice a n c).ownBlock=some k->¬F k
theorem BI(P b:Nat)(m:Mt)(a:Option Addr)(n c:Nat):Zs (oo P b m a n c):=by
 refine⟨?_,?_⟩
 ·rintro w F Fr ⟨h1,h2,h3,h4,h5⟩ k hk;rw[h1] at hk;subst hk;exact⟨h2,lt_of_block h3⟩
 ·rintro w w' F F' Fr ⟨h1,h2,h3,h4,h5⟩ l hF' hk;obtain⟨g4,g5⟩:=ZB ⟨h4,h5⟩ l;exact⟨h1,hF' P ((h1 P).2 rfl),by rw[hk P ((h1 P).2 rfl)];exact h3,g4,g5⟩
def Jp (r:Option Mt):Mt:=r.elim ⟨false,0,0,[]⟩ id
structure I5 (C:Cx) (ρ:Rx) (X:Xs) (B:Option Bo) (mine:List aO) (τ:zH) (A P:Nat) (w0:World) (F0 pY:az) (r:Option Mt) (out:List Mt) (a:Option Addr) (n c:Nat) (w:World):Prop where
 ex:∃(T:Tt) (tv:Value) (F Fr:az) (b:Nat),Zr (aR C ρ tv T::oo P b (Jp r) a n c::τ.tl b out::mine) w F Fr/\ja C w F ρ.bg X B mine/\Fb w F/\iB C.u.size T B/\aJ w0 F0 pY w F Fr/\b<=w.heap.size/\eY w F A 0 ((ae C.X))
variable {C:Cx}{ρ:Rx}{tv bg tv':Value}{T:Tt}{u:ByteArray}{p c N P b b1 A:Nat}{w w':World}{a:Option Addr}
theorem Sr{mine:List aO}{R Q:aO}(ha:∀R∈mine,Zs R)(hR:Zs R)(hQ:Zs Q):∀S∈aR C ρ tv T::R::Q::mine,Zs S:=by
 intro S hS
 rcases List.mem_cons.1 hS with rfl | hS
 ·exact QA _ _ _ _
 ·rcases List.mem_cons.1 hS with rfl | hS
  ·exact hR
  ·rcases List.mem_cons.1 hS with rfl | hS
   ·exact hQ
   ·exact ha S hS
variable {Al out:List Mt}{τ:zH}{m:Mt}{r:Option Mt}{F Fr F' aM:az}{T':Tt}
theorem Zph{B:Option Bo}{mine:List aO}{a':Option Addr}{n n' c':Nat}{wS:World}(hτ:rW N Al C.X C.u τ)(ha:∀R∈mine,Zs R)(hb:b<=w.heap.size)
  (h2:w'.ownsRow w.heap.size 118 2 (.slice a' n' c') (r.elim [] (·.gs)).length (ZD (r.elim [] (·.gs)))) (h3:∀k,(Value.slice a' n' c').ownBlock=some k->¬F' k)
  (h4:Zr (aR C ρ tv' T'::oo P b1 m a n c::τ.tl b out::mine) w' F' aM) (h5:aJ w F Fr w' F' aM)
  (kS:Za (·=P) w' wS) (bS:wS.heap[P]?=some (.cells #[.bool (Jp r).ok,.int .i64 (Jp r).fr,.int .i64 (Jp r).up,.slice a' n' c'] 38 (0,0))) :
  Zr (aR C ρ tv' T'::oo P w.heap.size (Jp r) a' n' c'::τ.tl w.heap.size out::mine) wS F' aM/\aJ w F Fr wS F' aM:=by
 have iT:Zs (Zr (aR C ρ tv' T'::τ.tl b out::mine)):=xV ha (hτ.ok b out);obtain⟨G1,G2,hA⟩:=Zo.1 (Zy h4);obtain⟨r1,r2,r3,r4,r5⟩:=hA.one;have hgs:(Jp r).gs=r.elim [] (·.gs):=by cases r <;> rfl
 have hrow:wS.ownsRow w.heap.size 118 2 (.slice a' n' c') (Jp r).gs.length (ZD (Jp r).gs):=by
  rw[hgs];exact Zb h2 kS (fun k hk e=>h3 k hk (e ▸ r2))
 have hM:oo P w.heap.size (Jp r) a' n' c' wS F' G1:=⟨r1,r2,bS,hrow,h3⟩;have t1:aJ w' F' G1 wS F' G1:=aJ.same (fun k hk=>((r1 k).1 hk) ▸ r2) (kS.mono (fun k _ e=>(r1 k).2 e));obtain⟨hA2,t2⟩:=hA.upd (BI P b1 m a n c) iT t1 hM;have t3:=h5.trans t2;obtain⟨A1,A2,eA,dA,iD,C1,C2,eC,dC,GX,D1,D2,eD,dD,htl,dK⟩:=Zy (Zo.2 ⟨_,_,hA2⟩);have hfe:∀k,aM k↔G1 k\/G2 k:=hA.all;have iY:(fun k=>G1 k\/G2 k)=aM:=funext fun k=>propext (hfe k).symm;rw[<- iY];exact⟨⟨A1,A2,eA,dA,iD,C1,C2,eC,dC,GX,D1,D2,eD,dD,hτ.up _ _ _ _ _ _ hb htl,dK⟩,t3⟩
theorem Zsa{mine:List aO}{n:Nat}(hτ:rW N Al C.X C.u τ)(ha:∀R∈mine,Zs R)(aW:Fb w F)(hb:b<=w.heap.size)
  (h4:Zr (aR C ρ tv T::oo P b m a n c::τ.tl b out::mine) w F Fr) (h1:m.ok=true) (h2:m.gs.length<=9) (h3:0<=m.fr) (h5:m.fr<=m.up) (h6:m.up<=(N:Int)) (h7:out.length < τ.cap) (h8 : τ.on out=true) (h9:out++[m] <+: Al) :
  YieldAt Fence.wide 0 Tryz.prog τ.l #[.agg #[.bool m.ok,.int .i64 m.fr,.int .i64 m.up,.slice a n c]] w fun e w'=>e=.returned (.bool (τ.on (out++[m])))/\∃F' aM,Zr (aR C ρ tv T::oo P b m a n c::τ.tl w'.heap.size (out++[m])::mine) w' F' aM/\aJ w F Fr w' F' aM:=by
 obtain⟨A1,A2,eA,dA,iD,C1,C2,eC,dC,GX,D1,D2,eD,dD,htl,dK⟩:=id h4;obtain⟨r1,r2,r3,r4,r5⟩:=GX;refine(hτ.yl w F D1 b out m a n c aW htl hb r4 r5 h1 h2 h3 h5 h6 h7 h8 h9 (by obtain⟨L0,hs0,-⟩:=id iD;exact pM.of hs0)).mono ?_;rintro e w' ⟨rfl,F',aM,g1,g2⟩;have hA:iW (τ.tl b out) (Zr (aR C ρ tv T::oo P b m a n c::mine)) w F Fr D1 (fun k=>A1 k\/C1 k\/D2 k):=by
  refine⟨fun k=>?_,fun k hk hc=>?_,htl,A1,fun k=>C1 k\/D2 k,fun k=>Iff.rfl,fun k hk hc=>?_,iD,C1,D2,fun k=>Iff.rfl,fun k hk hc=>?_,⟨r1,r2,r3,r4,r5⟩,dK⟩
  ·rw[eA k,eC k,eD k];constructor
   ·rintro(h | h | h | h)
    ·exact Or.inr (Or.inl h)
    ·exact Or.inr (Or.inr (Or.inl h))
    ·exact Or.inl h
    ·exact Or.inr (Or.inr (Or.inr h))
   ·rintro(h | h | h | h)
    ·exact Or.inr (Or.inr (Or.inl h))
    ·exact Or.inl h
    ·exact Or.inr (Or.inl h)
    ·exact Or.inr (Or.inr (Or.inr h))
  ·rcases hc with hc | hc | hc
   ·exact dA k hc ((eC k).2 (Or.inr ((eD k).2 (Or.inl hk))))
   ·exact dC k hc ((eD k).2 (Or.inl hk))
   ·exact dD k hk hc
  ·rcases hc with hc | hc
   ·exact dA k hk ((eC k).2 (Or.inl hc))
   ·exact dA k hk ((eC k).2 (Or.inr ((eD k).2 (Or.inr hc))))
  ·exact dC k hk ((eD k).2 (Or.inr hc))
 have iT:Zs (Zr (aR C ρ tv T::oo P b m a n c::mine)):=xV ha (BI P b m a n c);obtain⟨hA2,t2⟩:=hA.upd (hτ.ok b out) iT g2 g1;refine⟨rfl,F',_,?_,t2⟩;obtain⟨B1,B2,hX⟩:∃B1 B2,iW (aR C ρ tv T) (Zr (τ.tl w'.heap.size (out++[m])::oo P b m a n c::mine)) w' F' _ B1 B2:=Zo.1 (Zy (Zo.2 ⟨_,_,hA2⟩));exact Zo.2 ⟨B1,B2,hX.all,hX.fe,hX.one,Zy hX.two⟩
variable {B:Option Bo}
theorem Yq{X:Xs}{mine:List aO}(hS:ja C w F ρ.bg X B mine)(hR:Zr (aR C ρ tv T::mine) w F Fr)(aW:Fb w F)(hrd:iB C.u.size T B)(hX:dh C.u.size 0 C.G X)(hu:C.u.size<=200)(hG:C.G<=9)(hp:p<=C.u.size+1)(hr:Z2 (fun a=>(X a).map (QN C.G a)) (C.u.size+1-p) p=r):
  au 44 #[ae C.X,.int .i64 (p:Int)] w (fun e w' =>∃(a:Option Addr) (n c:Nat),e=.returned (.agg #[.bool (Jp r).ok,.int .i64 (Jp r).fr,.int .i64 (Jp r).up,.slice a n c])/\Hid (∃(T':Tt) (tv':Value) (F' aM:az),w'.ownsRow w.heap.size 118 2 (.slice a n c) (r.elim [] (·.gs)).length (ZD (r.elim [] (·.gs)))/\(∀k,(Value.slice a n c).ownBlock=some k->¬F' k)/\Zr (aR C ρ tv' T'::mine) w' F' aM/\aJ w F Fr w' F' aM/\iB C.u.size T' B)):=by
 have h:=ZpM hS hR aW hrd hX hu hG hp;rw[hr] at h;refine h.mono ?_;rintro e w' ⟨T',tv',F',aM,a,n,c,rfl,g1,g2,g3,g4,g5⟩;refine⟨a,n,c,?_,T',tv',F',aM,g1,g2,g3,g4,g5⟩
 cases r <;> rfl
theorem Zsb{X:Xs}{mine:List aO}{n:Nat}{w2:World}{F1 dO:az}(hτ:rW N Al C.X C.u τ)(hb:b<=w.heap.size)(hS:ja C w F ρ.bg X B mine)(aW:Fb w F)(hF:∀k,Fr k->F k)(hA:eY w F A 0 ((ae C.X)))
  (h2:w2.ownsRow w.heap.size 118 2 (.slice a n c) (r.elim [] (·.gs)).length (ZD (r.elim [] (·.gs)))) (h3:∀k,(Value.slice a n c).ownBlock=some k->¬F1 k)
  (h4:Zr (aR C ρ tv T::τ.tl b []::mine) w2 F1 dO) (h5:aJ w F Fr w2 F1 dO) (hrd:iB C.u.size T B) :
  I5 C ρ X B mine τ A w2.heap.size w F Fr r [] a n c (w2.alloc (.cells #[.bool (Jp r).ok,.int .i64 (Jp r).fr,.int .i64 (Jp r).up,.slice a n c] 38)):=by
 have k1:Za ai w2 (w2.alloc (.cells #[.bool (Jp r).ok,.int .i64 (Jp r).fr,.int .i64 (Jp r).up,.slice a n c] 38)):=QT;have bP:(w2.alloc (.cells #[.bool (Jp r).ok,.int .i64 (Jp r).fr,.int .i64 (Jp r).up,.slice a n c] 38)).heap[w2.heap.size]?=some (.cells #[.bool (Jp r).ok,.int .i64 (Jp r).fr,.int .i64 (Jp r).up,.slice a n c] 38 (0,0)):=heap_alloc_new _ _;generalize (w2.alloc (.cells #[.bool (Jp r).ok,.int .i64 (Jp r).fr,.int .i64 (Jp r).up,.slice a n c] 38))=w3 at k1 bP ⊢;have hok:=xV (C:=C) (ρ := ρ) (tv:=tv) (T:=T) hS.ok (hτ.ok b []);have hlt:=hok.lt h4;have eQ:Fb w2 F1:=aW.vk h5 (fun k hk=>(hlt k hk).2);have hs3:=lt_of_block bP;have hgs:(Jp r).gs=r.elim [] (·.gs):=by cases r <;> rfl
 have l1:aH w2 F1 w3 (fun k=>F1 k\/k=w2.heap.size):=⟨k1.mono (fun _ _ h=>h.elim),fun k hk=>hk.imp id (fun e=>by omega)⟩;have aK:=hok.frame h4 l1 (fun k hk=>Or.inl (hlt k hk).1) (fun k hk=>k1.block k (hlt k hk).2 id);have hrow:=Zb h2 k1 (fun _ _ h=>h);have hM:oo w2.heap.size w.heap.size (Jp r) a n c w3 (fun k=>F1 k\/k=w2.heap.size) (·=w2.heap.size):=⟨fun k=>Iff.rfl,Or.inr rfl,bP,by rw[hgs];exact hrow,fun k hk h=>by
  rcases h with h | h
  ·exact h3 k hk h
  ·have:=(h2.lt k hk).2;omega⟩
 have hst:=Zy (ME hok aK (fun h=>by have:=(hlt _ h).2;omega) (Or.inr rfl) hM);obtain⟨A1,A2,eA,dA,iD,C1,C2,eC,dC,GX,D1,D2,eD,dD,htl,dK⟩:=hst;have l2:aH w F w3 (fun k=>F1 k\/k=w2.heap.size):=(h5.dm hF).trans l1;have t1:aJ w2 F1 dO w3 (fun k=>F1 k\/k=w2.heap.size) (fun k=>k=w2.heap.size\/dO k):=by
  refine⟨k1.mono (fun _ _ h=>h.elim),fun k hk=>?_,fun k hk=>?_,fun k hs hk hn=>Or.inl hk,fun k hk=>?_⟩
  ·rcases hk with h | h
   ·exact Or.inr (by omega)
   ·exact Or.inl h
  ·rcases hk with h | h
   ·by_cases h2:dO k
    ·exact Or.inr (Or.inr h2)
    ·exact Or.inl ⟨h,h2⟩
   ·exact Or.inr (Or.inl h)
  ·rcases hk with h | h
   ·exact Or.inr h
   ·exact Or.inl (hlt k h).1
 have hws:w.heap.size<=w3.heap.size:=l2.size;refine⟨T,tv,_,_,w.heap.size,⟨A1,A2,eA,dA,iD,C1,C2,eC,dC,GX,D1,D2,eD,dD,hτ.up _ _ _ _ _ _ hb htl,dK⟩,hS.later l2,fun k hk=>?_,hrd,h5.trans t1,hws,hA.later l2⟩
 rcases hk with h | h
 ·have:=eQ k h;have:=k1.size;omega
 ·omega
def zG (C:Cx) (ρ:Rx) (B:Option Bo) (mine:List aO) (τ:zH) (l:List Mt) (w:World) (F Fr:az) (e:Ending) (w':World):Prop :=
 e=.returned (.tuple #[])/\∃(T':Tt) (tv':Value) (F' aM:az) (b':Nat),Zr (aR C ρ tv' T'::τ.tl b' l::mine) w' F' aM/\aJ w F Fr w' F' aM/\iB C.u.size T' B
theorem X4{mine:List aO}{n:Nat}(hτ:rW N Al C.X C.u τ)(ha:∀R∈mine,Zs R)(h4:Zr (aR C ρ tv' T'::oo P b1 m a n c::τ.tl b out::mine) w' F' aM)(h5:aJ w F Fr w' F' aM)(hrd:iB C.u.size T' B):zG C ρ B mine τ out w F Fr (.returned (.tuple #[])) w':=by
 obtain⟨H1,H2,-,q2,q3⟩:=Ca (BI P b1 m a n c) (xV ha (hτ.ok b out)) (Zy h4) h5;exact⟨rfl,T',tv',_,H2,b,q2,q3,hrd⟩
theorem Mj{X:Xs}{G k:Nat}(hX:dh N 0 G X)(hk:p+k<=N+1)(h:Z2 (fun a=>(X a).map (QN G a)) k p=some m):m.ok=true/\m.gs.length=G/\(p:Int)<=m.fr/\m.fr<=m.up/\m.up<=(N:Int)/\p+1<=fG m/\fG m<=N+1:=by
 obtain⟨a,h1,h2,h3⟩:=Mi _ _ h;obtain⟨e,he,rfl⟩:=List.mem_map.1 h3;have h4:=(hX a (by omega)).2 e he;have h5:=h4.1;have h6:=h4.2.1;have hn:fG (QN G a e)=if e.1=a then e.1+1 else e.1:=by
  unfold fG;show (if ((e.1:Nat):Int)=((a:Nat):Int) then ((e.1:Nat):Int)+1 else ((e.1:Nat):Int)).toNat = _
  by_cases hh:e.1=a
  ·rw[if_pos hh,if_pos (by omega)];omega
  ·rw[if_neg hh,if_neg (by omega)];omega
 rw[hn];refine⟨rfl,Jt _ _,by show (p:Int)<=((a:Nat):Int);omega,by show ((a:Nat):Int)<=((e.1:Nat):Int);omega,by show ((e.1:Nat):Int)<=_;omega,?_,?_⟩
 ·split <;> omega
 ·split <;> omega
theorem ZrE{t:TypeId}{a0 a1 a2 a3:Value}(b0 b1 b2 b3:Value)(h:w.heap[P]?=some (.cells #[a0,a1,a2,a3] t (0,0))):
  ((((w.setCell (ak P) b0).setCell ⟨P,1,none⟩ b1).setCell ⟨P,2,none⟩ b2).setCell ⟨P,3,none⟩ b3).heap[P]?=some (.cells #[b0,b1,b2,b3] t (0,0))/\Za (·=P) w ((((w.setCell (ak P) b0).setCell ⟨P,1,none⟩ b1).setCell ⟨P,2,none⟩ b2).setCell ⟨P,3,none⟩ b3):=by
 have h1:(w.setCell (ak P) b0).heap[P]?=some (.cells #[b0,a1,a2,a3] t (0,0)):=by rw[heap_setCell_same _ _ _ _ _ _ h];rfl
 have h2:((w.setCell (ak P) b0).setCell ⟨P,1,none⟩ b1).heap[P]?=some (.cells #[b0,b1,a2,a3] t (0,0)):=by rw[heap_setCell_same _ _ _ _ _ _ h1];rfl
 have h3:(((w.setCell (ak P) b0).setCell ⟨P,1,none⟩ b1).setCell ⟨P,2,none⟩ b2).heap[P]?=some (.cells #[b0,b1,b2,a3] t (0,0)):=by rw[heap_setCell_same _ _ _ _ _ _ h2];rfl
 refine⟨by rw[heap_setCell_same _ _ _ _ _ _ h3];rfl,?_⟩;exact((((Za.refl (·=P) w).setCell (fun _=>rfl) _).setCell (fun _=>rfl) _).setCell (fun _=>rfl) _).setCell (fun _=>rfl) _
theorem ZhA{X:Xs}{mine:List aO}{b0:Nat}(hτ:rW C.u.size (Q5 (fun a=>(X a).map (QN C.G a)) C.u.size (C.u.size+2) 0) C.X C.u τ)(hS:ja C w F ρ.bg X B mine)(hA:eY w F A 0 ((ae C.X)))(hR:Zr (aR C ρ tv T::τ.tl b0 []::mine) w F Fr)(aW:Fb w F)(hrd:iB C.u.size T B)(hX:dh C.u.size 0 C.G X)(hu:C.u.size<=200)(hG:C.G<=9)(hb:b0<=w.heap.size)(hcap:C.u.size+1<=τ.cap):
  au 43 #[.func (.yield τ.l) #[] #[],ae A] w (zG C ρ B mine τ (Q2 τ.on [] (Q5 (fun a=>(X a).map (QN C.G a)) C.u.size (C.u.size+2) 0)) w F Fr):=by
 have hfn:∀f,Fence.wide.fn f:=fun _=>trivial;have hdp:Fence.wide.depth=none:=rfl;have cA:=hA.1;obtain⟨r0,hr0⟩:∃r,Z2 (fun a=>(X a).map (QN C.G a)) (C.u.size+1-0) 0=r:=⟨_,rfl⟩;have hok0:=xV (C:=C) (ρ := ρ) (tv:=tv) (T:=T) hS.ok (hτ.ok b0 []);have hf0:CallsIn Fence.wide 2 Tryz.prog 44 #[ae C.X,.int .i64 0] w (fun e w' =>∃(a:Option Addr) (n c:Nat),e=.returned (.agg #[.bool (Jp r0).ok,.int .i64 (Jp r0).fr,.int .i64 (Jp r0).up,.slice a n c])/\Hid (I5 C ρ X B mine τ A w'.heap.size w F Fr r0 [] a n c (w'.alloc (.cells #[.bool (Jp r0).ok,.int .i64 (Jp r0).fr,.int .i64 (Jp r0).up,.slice a n c] 38)))):=by
  refine callsIn_wide.2 ((Yq (p:=0) (hS.mine (mine' := τ.tl b0 []::mine) (fun R hR=>List.mem_cons_of_mem _ hR) (fun R hR=>by
   rcases List.mem_cons.1 hR with rfl | hR
   ·exact hτ.ok _ _
   ·exact hS.ok R hR)) hR aW hrd hX hu hG (Nat.zero_le _) hr0).mono ?_)
  rintro e w' ⟨a,n,c,rfl,HX⟩;obtain⟨T',tv',F',aM,g1,g2,g3,g4,g5⟩:=HX.out;exact⟨a,n,c,rfl,Zsb hτ hb hS aW (fun k hk=>(hok0.lt hR k hk).1) hA g1 g2 g3 g4 g5⟩
 have zL:Hid (Z2 (fun a=>(X a).map (QN C.G a)) (C.u.size+1-0) 0=r0):=hr0;refine(callsIn_wide (n:=3)).1 ?_;refine callsIn_of_wp Tryz.func43 rfl trivial ?_;simp only[Tryz.ntmps43,List.size_toArray,List.length_cons,List.length_nil,Nat.reduceAdd,Nat.reduceSub,Array.replicate_succ,Array.replicate_zero,List.push_toArray,List.append_toArray,List.nil_append,List.cons_append];clear hr0 hS hR aW hrd hok0;gi_wp2_with(gi_at_call 44;refine hf0.mono ?_;rintro e w2 ⟨a,n,c,rfl,HI⟩;clear hf0);obtain⟨P,hP⟩:∃P,w2.heap.size=P:=⟨_,rfl⟩;have HI0:Hid (I5 C ρ X B mine τ A P w F Fr r0 [] a n c (w2.alloc (.cells #[.bool (Jp r0).ok,.int .i64 (Jp r0).fr,.int .i64 (Jp r0).up,.slice a n c] 38))):=by rw[<- hP];exact HI
 clear HI;rw[hP];generalize (w2.alloc (.cells #[.bool (Jp r0).ok,.int .i64 (Jp r0).fr,.int .i64 (Jp r0).up,.slice a n c] 38))=w3 at *;refine wpIn_loop_ghost_k (fun g a wr =>∃(p k:Nat) (r:Option Mt) (out:List Mt) (ar:Option Addr) (nr cr:Nat) (u4 u5 u6 u7 u8 u9 EE ED EC EB EA Cs u16:Value),g=k/\p<=C.u.size+1/\C.u.size+2<=p+(k+1)/\Hid (τ.on out=true/\out.length<=p/\Z2 (fun a=>(X a).map (QN C.G a)) (C.u.size+1-p) p=r/\Q2 τ.on out (Q5 (fun a=>(X a).map (QN C.G a)) C.u.size (k+1) p)=Q2 τ.on [] (Q5 (fun a=>(X a).map (QN C.G a)) C.u.size (C.u.size+2) 0)/\Q5 (fun a=>(X a).map (QN C.G a)) C.u.size (C.u.size+2) 0=out++Q5 (fun a=>(X a).map (QN C.G a)) C.u.size (k+1) p)/\Hid (I5 C ρ X B mine τ A P w F Fr r out ar nr cr wr)/\
  a = { tmps:=#[.func (.yield τ.l) #[] #[],ae A,undef,ae P,u4,u5,u6,u7,u8,u9,EE,ED,EC,EB,EA,Cs,u16],defers := [] }) (C.u.size+1) ?_ ?_
 ·exact⟨0,C.u.size+1,r0,[],a,n,c,_,_,_,_,_,_,_,_,_,_,_,_,_,rfl,by omega,by omega,⟨hτ.Vw,Nat.le_refl _,zL.out,rfl,rfl⟩,HI0,rfl⟩
 clear HI0 zL hP w2 w3 r0 a n c cA;intro g a wr hI J K hJ hK;obtain⟨p,k,r,out,ar,nr,cr,u4,u5,u6,u7,u8,u9,EE,ED,EC,EB,EA,Cs,u16,rfl,hp,hfu,HE,HI,rfl⟩:=hI;obtain⟨T2,EF,F2,bf,b,g1,g2,g3,g4,g5,g6,g7⟩:=HI.out.ex;obtain⟨A1,A2,eA,dA,iD,C1,C2,eC,dC,⟨q1,q2,q3,q4,q5⟩,hrest⟩:=id g1;have cA:=g7.1;have c0:wr.cell? (ak P)=some (.bool (Jp r).ok):=by rw[Zc q3];rfl
 have c1:wr.cell? ⟨P,1,none⟩=some (.int .i64 (Jp r).fr):=by rw[Zc q3];rfl
 have c2:wr.cell? ⟨P,2,none⟩=some (.int .i64 (Jp r).up):=by rw[Zc q3];rfl
 have c3:wr.cell? ⟨P,3,none⟩=some (.slice ar nr cr):=by rw[Zc q3];rfl
 cases r with
 | none =>
   have HF:Hid (zG C ρ B mine τ (Q2 τ.on [] (Q5 (fun a=>(X a).map (QN C.G a)) C.u.size (C.u.size+2) 0)) w F Fr (.returned (.tuple #[])) wr):=by
    have e:=HE.out.2.2.2.1;simp only[Q5,HE.out.2.2.1,Q2] at e;rw[<- HE.out.2.2.2.1];simp only[Q5,HE.out.2.2.1,Q2];exact X4 hτ g2.ok g1 g5 g4
   simp only[Jp,Option.elim_none] at c0;clear g1 g2 g3 g4 g5 g6 g7 HI HE eA dA iD eC dC q1 q2 q3 q4 q5 hrest hJ hK;gi_wp2;refine bodyPost_end (results_none rfl _ _ _) rfl ?_;exact HF.out
 | some m =>
   obtain⟨f1,f2,f3,f4,f5,f6,f7⟩:=Mj hX (by omega) HE.out.2.2.1;have hY:=Zsa (m:=m) hτ g2.ok g3 g6 g1 f1 (by omega) (by omega) f4 f5 (by have:=HE.out.2.1;omega) HE.out.1 (by rw[HE.out.2.2.2.2];simp only[Q5,HE.out.2.2.1];exact⟨Q5 (fun a=>(X a).map (QN C.G a)) C.u.size g (fG m),by simp⟩);obtain⟨fn,tmps,assign,body,hy,qW⟩:=hY;have c0':wr.cell? (ak P)=some (.bool m.ok):=c0;have c1':wr.cell? ⟨P,1,none⟩=some (.int .i64 m.fr):=c1;have c2':wr.cell? ⟨P,2,none⟩=some (.int .i64 m.up):=c2;rw[f1] at c0' hy;clear c0 c1 c2;gi_wp2;refine(TS qW).mono ?_;rintro e w5 ⟨rfl,HT⟩;obtain⟨F5,gK,aL,t5⟩:=HT;have hok2:Zs (Zr (aR C ρ EF T2::oo P b m ar nr cr::τ.tl b out::mine)):=ZT (Sr g2.ok (BI P b m ar nr cr) (hτ.ok b out));have xk:Zs (Zr (aR C ρ EF T2::oo P b m ar nr cr::τ.tl w5.heap.size (out++[m])::mine)):=ZT (Sr g2.ok (BI P b m ar nr cr) (hτ.ok _ _));have oN:=xk.lt aL;have Kv:aJ w F Fr w5 F5 gK:=g5.trans t5
   cases hon : τ.on (out++[m]) with
   | false =>
     have HF:Hid (zG C ρ B mine τ (Q2 τ.on [] (Q5 (fun a=>(X a).map (QN C.G a)) C.u.size (C.u.size+2) 0)) w F Fr (.returned (.tuple #[])) w5):=by
      rw[<- HE.out.2.2.2.1];simp only[Q5,HE.out.2.2.1,Q2,hon];exact X4 hτ g2.ok aL Kv g4
     clear g1 g2 g3 g4 g5 g6 g7 HI HE eA dA iD eC dC q1 q2 q3 q4 q5 hrest hJ hK aL t5 hok2 xk oN Kv hy qW;gi_wp2;refine bodyPost_end (results_none rfl _ _ _) rfl ?_;exact HF.out
   | true =>
     have N7:aH wr F2 w5 F5:=t5.dm (fun k hk=>(hok2.lt g1 k hk).1);have fP:Fb w5 F5:=g3.vk t5 (fun k hk=>(oN k hk).2);have hS5:=g2.later N7;have RB:=g7.later N7;obtain⟨-,-,-,-,-,-,-,-,-,⟨r1,r2,r3,r4,r5⟩,-⟩:=id aL;have kd:Za ai w5 w5.drew:=(Za.refl _ _).drew;have cA5:w5.drew.cell? (ak A)=some ((ae C.X)):=RB.1;have d0:w5.drew.cell? (ak P)=some (.bool true):=by rw[Zc (w:=w5.drew) r3,f1];rfl
     have d1:w5.drew.cell? ⟨P,1,none⟩=some (.int .i64 m.fr):=by rw[Zc (w:=w5.drew) r3];rfl
     have d2:w5.drew.cell? ⟨P,2,none⟩=some (.int .i64 m.up):=by rw[Zc (w:=w5.drew) r3];rfl
     have d3:w5.drew.cell? ⟨P,3,none⟩=some (.slice ar nr cr):=by rw[Zc (w:=w5.drew) r3];rfl
     have FW:((fG m:Nat):Int)=if m.up=m.fr then m.up+1 else m.up:=by unfold fG;split <;> omega
     have hnx:CallsIn Fence.wide 2 Tryz.prog 45 #[.agg #[.bool true,.int .i64 m.fr,.int .i64 m.up,.slice ar nr cr]] w5.drew (fun e w'=>e=.returned (.int .i64 ((fG m:Nat):Int))/\Za ai w5.drew w'):=by
      rw[FW];exact callsIn_wide.2 (Zgq (by omega) (by omega))
     obtain⟨r',hr'⟩:∃r',Z2 (fun a=>(X a).map (QN C.G a)) (C.u.size+1-fG m) (fG m)=r':=⟨_,rfl⟩;have HFd:Hid (∀w6,Za ai w5.drew w6->CallsIn Fence.wide 2 Tryz.prog 44 #[ae C.X,.int .i64 ((fG m:Nat):Int)] w6 (fun e w' =>∃(a':Option Addr) (n' c':Nat),e=.returned (.agg #[.bool (Jp r').ok,.int .i64 (Jp r').fr,.int .i64 (Jp r').up,.slice a' n' c'])/\w'.heap[P]?=some (.cells #[.bool m.ok,.int .i64 m.fr,.int .i64 m.up,.slice ar nr cr] 38 (0,0))/\Hid (∀wS,Za (·=P) w' wS->wS.heap[P]?=some (.cells #[.bool (Jp r').ok,.int .i64 (Jp r').fr,.int .i64 (Jp r').up,.slice a' n' c'] 38 (0,0))->I5 C ρ X B mine τ A P w F Fr r' (out++[m]) a' n' c' wS))):=by
      intro w6 dN;have EY:=kd.trans dN;have VB:aH w5 F5 w6 F5:=aH.ay EY;have dI:=xk.frame aL VB (fun k hk=>(oN k hk).1) (fun k hk=>EY.block k (oN k hk).2 id);have xI:Fb w6 F5:=fP.keeps EY;have lG:=hS5.later VB;refine callsIn_wide.2 ((Yq (p:=fG m) (lG.mine (mine':=oo P b m ar nr cr::τ.tl w5.heap.size (out++[m])::mine) (fun R hR=>List.mem_cons_of_mem _ (List.mem_cons_of_mem _ hR)) (fun R hR=>by
       rcases List.mem_cons.1 hR with rfl | hR
       ·exact BI _ _ _ _ _ _
       ·rcases List.mem_cons.1 hR with rfl | hR
        ·exact hτ.ok _ _
        ·exact hS5.ok R hR)) dI xI g4 hX hu hG f7 hr').mono ?_)
      rintro e w' ⟨a',n',c',rfl,HX⟩;obtain⟨T',tv',F',aM,h2,h3,h4,h5,h6⟩:=HX.out;obtain⟨-,-,-,-,-,-,-,-,-,⟨p1,p2,p3,p4,p5⟩,-⟩:=id h4;refine⟨a',n',c',rfl,p3,?_⟩;intro wS kS bS;obtain⟨s1,s2⟩:=Zph (B:=B) hτ hS5.ok EY.size h2 h3 h4 h5 kS bS;have t56:aJ w5 F5 gK w6 F5 gK:=aJ.ay (fun k hk=>(oN k hk).1) EY;have Np:=t56.trans s2;have Vz:aH w5 F5 wS F':=Np.dm (fun k hk=>(oN k hk).1);have hokS:Zs (Zr (aR C ρ tv' T'::oo P w6.heap.size (Jp r') a' n' c'::τ.tl w6.heap.size (out++[m])::mine)):=ZT (Sr hS5.ok (BI _ _ _ _ _ _) (hτ.ok _ _));exact⟨T',tv',F',aM,w6.heap.size,s1,hS5.later Vz,fP.vk Np (fun k hk=>(hokS.lt s1 k hk).2),h6,Kv.trans Np,s2.keeps.size,RB.later Vz⟩
     have HN:Hid (τ.on (out++[m])=true/\(out++[m]).length<=fG m/\Z2 (fun a=>(X a).map (QN C.G a)) (C.u.size+1-fG m) (fG m)=r'/\(∀g',g=g'+1->Q2 τ.on (out++[m]) (Q5 (fun a=>(X a).map (QN C.G a)) C.u.size (g'+1) (fG m))=Q2 τ.on [] (Q5 (fun a=>(X a).map (QN C.G a)) C.u.size (C.u.size+2) 0)/\Q5 (fun a=>(X a).map (QN C.G a)) C.u.size (C.u.size+2) 0=(out++[m])++Q5 (fun a=>(X a).map (QN C.G a)) C.u.size (g'+1) (fG m))):=by
      obtain⟨e1,e2,e3,e4,e5⟩:=HE.out;refine⟨hon,(by simp;omega),hr',fun g' hg=>?_⟩;subst hg;refine⟨?_,?_⟩
      ·rw[<- e4]
       conv=>rhs;rw[Q5]
       simp only[e3,Q2,hon,if_true]
      ·rw[e5]
       conv=>lhs;rw[Q5]
       simp only[e3];simp
     clear g1 g2 g3 g4 g5 g6 g7 HI HE eA dA iD eC dC q1 q2 q3 q4 q5 hrest aL t5 hok2 xk oN Kv hy qW N7 fP hS5 RB r3 kd c0' c1' c2' c3 FW hr';gi_wp2;gi_region_with (first|(gi_at_call 45;refine hnx.mono ?_;rintro e w6 ⟨rfl,dN⟩;have cA6:=Zf cA5 dN)|(gi_at_call 44;refine(HFd.out _ dN).mono ?_;rintro e w7 ⟨a',n',c',rfl,uA,HM⟩;have y0:w7.cell? (ak P)=some (.bool m.ok):=(by rw[Zc uA];rfl);have y1:w7.cell? ⟨P,1,none⟩=some (.int .i64 m.fr):=(by rw[Zc uA];rfl);have y2:w7.cell? ⟨P,2,none⟩=some (.int .i64 m.up):=(by rw[Zc uA];rfl);have y3:w7.cell? ⟨P,3,none⟩=some (.slice ar nr cr):=(by rw[Zc uA];rfl);have z0:w7.frozen? (ak P)=false:=Zv uA;have z1:w7.frozen? ⟨P,1,none⟩=false:=Zv uA;have z2:w7.frozen? ⟨P,2,none⟩=false:=Zv uA;have z3:w7.frozen? ⟨P,3,none⟩=false:=Zv uA))
     all_goals gi_wp2
     all_goals
      obtain⟨g',rfl⟩:∃g',g=g'+1:=⟨g-1,by omega⟩;obtain⟨b1,b2,b3,b4⟩:=HN.out;obtain⟨b5,b6⟩:=b4 g' rfl;obtain⟨s1,s2⟩:=ZrE (.bool (Jp r').ok) (.int .i64 (Jp r').fr) (.int .i64 (Jp r').up) (.slice a' n' c') uA;exact⟨g',by omega,hJ _ _ _ ⟨fG m,g',r',out++[m],a',n',c',_,_,_,_,_,_,_,_,_,_,_,_,_,rfl,f7,by omega,⟨b1,b2,b3,b5,b6⟩,HM.out _ s2 s1,rfl⟩⟩
end Go.Proofs.YtfkflljplohhcaaGreatDoor
