import Derived.Test.YtfkflljplohhcaaGreatDoorRd
import Derived.Test.YtfkflljplohhcaaGreatDoorYs
import Derived.Scope
import Derived.Laws.DeepStrings4
set_option maxHeartbeats 2000000
set_option maxRecDepth 100000
namespace Go.Proofs.YtfkflljplohhcaaGreatDoor
open Go.RowKit
set_option linter.unusedVariables false
theorem Zky {w:World} {X:Nat} {g:Int} {x:ByteArray} (hb:(-1:Int)<=g):Calls Tryz.prog 41 #[.pointer (some ⟨X,0,none⟩),.agg #[.int .i64 g,.string x]] w fun e w' =>∃f caps,e = .returned (.func f #[] caps)/\Hid (∀F:Bs2,(∀k,F k->k < w.heap.size)->FvI X (g,x) (.func f #[] caps) w' F)/\Za N0_ w w':=by
 have hmf :∀(fn:Fn) (first cap:Array Value) (w:World),(Instr.makeFunc fn first cap).run Tryz.prog w = .ok (.func fn first cap) w:=fun _ _ _ _=>rfl;have k2:Za N0_ w ((w.alloc (.cells #[.pointer (some ⟨X,0,none⟩)] 52)).alloc (.cells #[.int .i64 g,.string x] 73)):=((Za.refl _ _).alloc _).alloc _;have bA:((w.alloc (.cells #[.pointer (some ⟨X,0,none⟩)] 52)).alloc (.cells #[.int .i64 g,.string x] 73)).heap[w.heap.size]? = some (.cells #[.pointer (some ⟨X,0,none⟩)] 52 (0,0)):=Zbc w _ _;have bB:((w.alloc (.cells #[.pointer (some ⟨X,0,none⟩)] 52)).alloc (.cells #[.int .i64 g,.string x] 73)).heap[w.heap.size + 1]? = some (.cells #[.int .i64 g,.string x] 73 (0,0)):=Zbi w _ _;go_enter Tryz.func41,Tryz.ntmps41
 by_cases h1:g = -1
 ·subst h1;have HF:Hid (∀F:Bs2,(∀k,F k->k < w.heap.size)->FvI X (-1,x) (.func (.func 67) #[] #[.pointer (some ⟨w.heap.size + 1,0,none⟩)]) ((w.alloc (.cells #[.pointer (some ⟨X,0,none⟩)] 52)).alloc (.cells #[.int .i64 (-1),.string x] 73)) F):=fun F hF=>Or.inl ⟨rfl,_,rfl,bB,fun h=>by have:=hF _ h; omega⟩;clear bA bB;go_wp2;go_ret;exact ⟨_,_,rfl,HF,k2⟩
 ·by_cases h2:g=0
  ·subst h2;have HF:Hid (∀F:Bs2,(∀k,F k->k < w.heap.size)->FvI X (0,x) (.func (.func 68) #[] #[.pointer (some ⟨w.heap.size,0,none⟩)]) ((w.alloc (.cells #[.pointer (some ⟨X,0,none⟩)] 52)).alloc (.cells #[.int .i64 0,.string x] 73)) F):=fun F hF=>Or.inr (Or.inl ⟨rfl,_,rfl,bA,fun h=>by have:=hF _ h; omega⟩);clear bA bB;go_wp2;go_ret;exact ⟨_,_,rfl,HF,k2⟩
  ·have HF:Hid (∀F:Bs2,(∀k,F k->k < w.heap.size)->FvI X (g,x) (.func (.func 69) #[] #[.pointer (some ⟨w.heap.size + 1,0,none⟩),.pointer (some ⟨w.heap.size,0,none⟩)]) ((w.alloc (.cells #[.pointer (some ⟨X,0,none⟩)] 52)).alloc (.cells #[.int .i64 g,.string x] 73)) F):=fun F hF=>Or.inr (Or.inr ⟨by show (0:Int) < g; omega,_,_,rfl,⟨bB,fun h=>by have:=hF _ h; omega⟩,⟨bA,fun h=>by have:=hF _ h; omega⟩⟩);have z1:(g == -1)=false:=by simp; omega
   have z2:(g == 0)=false:=by simp; omega
   clear bA bB h1 h2;go_wp2;go_ret;exact ⟨_,_,rfl,HF,k2⟩
theorem FvI.row {X B n:Nat} {b:Bt} {v vo:Value} {w w':World} {F:Bs2} {xs:List Value} (h:FvI X b v w F) (hr:w.ownsRow B 66 1 vo n xs) (k:Za (fun k=>vo.ownBlock=some k) w w'):FvI X b v w' F:=by
 have hk :∀(j:Nat) (cs:Array Value) (t:TypeId),t≠66->BkI w F j (.cells cs t (0,0))->BkI w' F j (.cells cs t (0,0)):=fun j cs t ht hj=>⟨(k.block j hj.lt (Zi hr hj.1 (Ne.symm ht))).trans hj.1,hj.2⟩
 rcases h with ⟨h1,Pb,h2,h3⟩ | ⟨h1,A,h2,h3⟩ | ⟨h1,Pb,A,h2,h3,h4⟩
 ·exact Or.inl ⟨h1,Pb,h2,hk _ _ _ (by decide) h3⟩
 ·exact Or.inr (Or.inl ⟨h1,A,h2,hk _ _ _ (by decide) h3⟩)
 ·exact Or.inr (Or.inr ⟨h1,Pb,A,h2,hk _ _ _ (by decide) h3,hk _ _ _ (by decide) h4⟩)
theorem Tryz.infoFill:(Tryz.prog.info? 66).map (fun i=>(i.zero,i.size,i.bytes))=some (some .nilFunc,1,8):=by kernel_rfl
theorem Zsw {w:World} {base:Nat} {v:Value} {L:List Value} (h:w.ownsRow base 66 1 v L.length L) (hb:base<=w.heap.size) (hl:L.length<=100000) (f:Fn) (caps:Array Value) :
  ∃ao c w',Sem.run Tryz.prog (Builtin.append_ #[59,59] 59 #[v,.slice (some ⟨w.heap.size,0,none⟩) 1 1]) (w.alloc (.cells #[.func f #[] caps] 66)) = .ok (.slice ao (L.length + 1) c) w'/\w'.ownsRow base 66 1 (.slice ao (L.length + 1) c) (L.length + 1) (L ++ [.func f #[] caps])/\Za (fun k=>v.ownBlock=some k) w w':=by
 obtain ⟨i0,hi,hz0,hz1,hz2⟩:=info_parts Tryz.infoFill;obtain ⟨v',w3,hrun,ho,hgr,hbk⟩:=JV (P:=Tryz.prog) (w.alloc (.cells #[.func f #[] caps] 66)) base 59 59 66 i0 _ 1 8 Tryz.underlying59 hi hz0 hz1 hz2 rfl (by decide) v L.length _ (h.alloc _)
  ⟨w.heap.size,0,none⟩ 1 1 [.func f #[] caps] rfl (Qt w _ _) (by intro u hu; simp at hu; subst hu; rfl) (by unfold maxLen; omega) (by omega) (by simp; omega)
 obtain ⟨ao,c,rfl⟩:=Zd ho;exact ⟨ao,c,w3,hrun,ho,((Za.refl _ w).alloc _).grown hgr (fun k hk _=>hk)⟩
structure FlR (w:World) (X:Nat) (Bs:List Bt) (fs:List Value) (v:Value) (wr:World):Prop where
 row:wr.ownsRow w.heap.size 66 1 v fs.length fs
 one :∀(i:Nat) (h:i < fs.length) (h2:i < Bs.length) (F:Bs2),(∀k,F k->k < w.heap.size)->FvI X Bs[i] fs[i] wr F
 keeps:Za N0_ w wr
theorem FlR.more {w:World} {X:Nat} {Bs:List Bt} {fs:List Value} {v v':Value} {wr w5 w2 wA:World} {f:Fn} {caps:Array Value} {b:Bt} (h:FlR w X Bs fs v wr) (k5:Za N0_ wr w5) (k2:Za N0_ w5 w2) (hf :∀F:Bs2,(∀k,F k->k < w5.heap.size)->FvI X b (.func f #[] caps) w2 F) (hb :∀h:fs.length < Bs.length,Bs[fs.length]=b)
  (ho:wA.ownsRow w.heap.size 66 1 v' (fs.length + 1) (fs ++ [.func f #[] caps])) (kA:Za (fun k=>v.ownBlock=some k) w2 wA):FlR w X Bs (fs ++ [.func f #[] caps]) v' wA:=by
 have k52:=k5.trans k2;have hrow:=Zb h.row k52 (fun _ _ h=>h);refine ⟨by rw [List.length_append]; exact ho,fun i hi hi2 F hF=>?_,?_⟩
 ·by_cases hlt:i < fs.length
  ·have h1:=(h.one i hlt hi2 F hF).later (Lat.ofKeeps k52);have h2:=h1.row hrow kA;rw [List.getElem_append_left hlt];exact h2
  ·have e:i=fs.length:=by rw [List.length_append] at hi; simp at hi; omega
   subst e;have h1:=hf F (fun k hk=>by have:=hF k hk; have:=h.keeps.size; have:=k5.size; omega);rw [List.getElem_append_right (Nat.le_refl _),hb hi2];simp only [Nat.sub_self,List.getElem_cons_zero];exact h1.row hrow kA
 ·exact ((h.keeps.trans k52).trans' kA (fun i hi hk=>by have:=(hrow.lt i hk).1; omega))
theorem Zl1 {w:World} {X n cap base:Nat} {ao:Option Addr} {Bs:List Bt} (h:BR w base (.slice ao n cap) Bs) (hn:Bs.length=n) (hl:n<=1000) (hge :∀b∈Bs,(-1:Int)<=b.1) :
  Calls Tryz.prog 21 #[.pointer (some ⟨X,0,none⟩),.slice ao n cap] w fun e w' =>∃a2 c2 fs,e = .returned (.slice a2 n c2)/\fs.length=n/\FlR w X Bs fs (.slice a2 n c2) w':=by
 have HN:Hid (Bs.length=n):=hn;have HB:Hid (BR w base (.slice ao n cap) Bs):=h;have HGe:Hid (∀b∈Bs,(-1:Int)<=b.1):=hge;clear hn h hge;go_enter Tryz.func21,Tryz.ntmps21;go_wp2;go_loopg [5,10] (n + 1) (fun gl s5 s10 wr =>∃(k:Nat) (a2:Option Addr) (c2:Nat) (fs:List Value),k + gl=n + 1/\k<=n/\s5 = .slice a2 k c2/\s10 = .int .i64 (k:Int)/\Hid (fs.length=k/\FlR w X Bs fs (.slice a2 k c2) wr))
 case atStart=>exact ⟨0,none,0,[],by omega,by omega,rfl,rfl,rfl,World.ownsRow_nil _ _ _ _,fun i hi=>by simp at hi,Za.refl _ _⟩
 case round =>
  obtain ⟨k,a2,c2,fs,hgl,hk,rfl,rfl,HI⟩:=hrel;have HG:Hid (k + gk=n + 1):=hgl;clear hgl
  by_cases hlt:k < n
  ·have hz:(k:Int) < (n:Int):=by omega
   have hkl:k < Bs.length:=by have:=HN.out; omega
   have hrow:=Zb HB.out HI.out.2.keeps (fun _ _ h=>h);rw [HN.out] at hrow;obtain ⟨g,rfl⟩ :∃g,ao=some ⟨g,0,none⟩:=by
    obtain ⟨n0,rfl⟩ :∃n0,n=n0 + 1:=⟨n - 1,by omega⟩;obtain ⟨g,cp,hv,-⟩:=ZQ hrow
    cases hv
    exact ⟨g,rfl⟩
   obtain ⟨c1,c2'⟩:=Jv Bs k Bs[k] (List.getElem?_eq_getElem hkl);have a0:=hrow.cellAt (k * 2) (by omega);have a1:=hrow.cellAt (k * 2 + 1) (by omega);rw [c1] at a0;rw [c2'] at a1;have hgb:=HGe.out Bs[k] (List.getElem_mem hkl);have HBk:Hid (∀h:k < Bs.length,Bs[k]=Bs[k]'hkl):=fun _=>rfl;generalize Bs[k]'hkl=r at a0 a1 hgb HBk;obtain ⟨x,y⟩:=r;simp only at a0 a1 hgb;have kB:Za N0_ wr (wr.alloc (.cells #[.int .i64 x,.string y] 73)):=(Za.refl _ _).alloc _;have bB:(wr.alloc (.cells #[.int .i64 x,.string y] 73)).heap[wr.heap.size]? = some (.cells #[.int .i64 x,.string y] 73 (0,0)):=heap_alloc_new _ _;clear hrow c1 c2';go_upto_region 5 with fail;generalize (wr.alloc (.cells #[.int .i64 x,.string y] 73))=w5 at kB bB ⊢;generalize wr.heap.size=P2 at bB ⊢;have d0:w5.cell? ⟨P2,0,none⟩=some (.int .i64 x):=by rw [Zc bB]; rfl
   have d1:w5.cell? ⟨P2,1,none⟩=some (.string y):=by rw [Zc bB]; rfl
   have hcall:=Zky (w:=w5) (X:=X) (g:=x) (x:=y) hgb;have HA:Hid (∀(f:Fn) (caps:Array Value) (w2:World),Za N0_ w5 w2->(∀F:Bs2,(∀k,F k->k < w5.heap.size)->FvI X (x,y) (.func f #[] caps) w2 F)->∃aA cA wA,Sem.run Tryz.prog (Builtin.append_ #[59,59] 59 #[.slice a2 k c2,.slice (some ⟨w2.heap.size,0,none⟩) 1 1]) (w2.alloc (.cells #[.func f #[] caps] 66)) = .ok (.slice aA (k + 1) cA) wA/\Hid (FlR w X Bs (fs ++ [.func f #[] caps]) (.slice aA (k + 1) cA) wA)):=by
    intro f caps w2 hk2 hf;obtain ⟨e1,hR⟩:=HI.out;have hrow2:=Zb hR.row (kB.trans hk2) (fun _ _ h=>h);obtain ⟨aA,cA,wA,hrun,hoA,hkA⟩:=Zsw hrow2 (by have:=hR.keeps.size; have:=kB.size; have:=hk2.size; omega) (by omega) f caps;have hM:=hR.more kB hk2 hf (fun h=>by have:=HBk.out (by omega); subst e1; exact this) hoA hkA;rw [e1] at hrun hM;exact ⟨aA,cA,wA,hrun,hM⟩
   have HLn:Hid (fs.length=k):=HI.out.1;clear HI HBk a0 a1 bB kB hkl hgb;go_wp2_with (first
    | (go_at_call 41; refine hcall.mono ?_; rintro e w2 ⟨f,caps,rfl,HF,hk2⟩; obtain ⟨aA,cA,wA,hrun,HM⟩:=HA.out f caps w2 hk2 HF.out)
    | (at_builtin; refine Zk rfl _ _ _ _ rfl rfl (.slice a2 k c2) _ _ _ rfl rfl hrun ?_))
   go_roundg (gk - 1)
   case measure=>have:=HG.out; omega
   case rel=>exact ⟨k + 1,aA,cA,fs ++ [.func f #[] caps],by have:=HG.out; omega,by omega,rfl,congrArg (Value.int .i64) (by omega),by rw [List.length_append,HLn.out]; rfl,HM.out⟩
  ·obtain rfl:k=n:=by omega
   clear hlt;go_wp2;go_ret;exact ⟨a2,c2,fs,rfl,HI.out.1,HI.out.2⟩
end Go.Proofs.YtfkflljplohhcaaGreatDoor
namespace Go.Proofs.YtfkflljplohhcaaGreatDoor
open Go.RowKit Go.Shelf
set_option linter.unusedVariables false
attribute [local go_sem] Oper.semAt_some
theorem ZmK {R Q:Rsc} (hR:Zq R) (hQ:Zq Q) {w w':World} {F F' Fr F1 F2:Bs2} (h:Apt R Q w F Fr F1 F2) (l:Lat w F w' F') (hF :∀k,Fr k->F' k) (hk :∀k,Fr k->w'.heap[k]? = w.heap[k]?):Apt R Q w' F' Fr F1 F2 :=
 ⟨h.all,h.dis,hR.frame h.one l (fun k hk1=>hF k ((h.all k).2 (Or.inl hk1))) (fun k hk1=>hk k ((h.all k).2 (Or.inl hk1))),hQ.frame h.two l (fun k hk1=>hF k ((h.all k).2 (Or.inr hk1))) (fun k hk1=>hk k ((h.all k).2 (Or.inr hk1)))⟩
def CtA (P:Nat) (n:Nat):Rsc:=fun w F Fr=>(∀k,Fr k↔k=P)/\F P/\At1 w P 3 (.int .i64 (n:Int))
theorem Zeb (P n:Nat):Zq (CtA P n):=by
 refine ⟨?_,?_⟩
 ·rintro w F Fr ⟨h1,h2,h3⟩ k hk;obtain rfl:=(h1 k).1 hk;exact ⟨h2,h3.lt⟩
 ·rintro w w' F F' Fr ⟨h1,h2,h3⟩ l hF' hk;exact ⟨h1,hF' P ((h1 P).2 rfl),by unfold At1 at h3 ⊢; rw [hk P ((h1 P).2 rfl)]; exact h3⟩
def AmR (Py Pm Pg most:Nat) (τ:Mlr) (b:Nat) (out:List Mt):Rsc:=fun w F Fr=>CeI w F Py 0 (.func (.yield τ.l) #[] #[])/\CeI w F Pm 0 (.int .i64 (most:Int))/\∃F1 F2,Apt (τ.tl b out) (CtA Pg out.length) w F Fr F1 F2
theorem ZmO {N:Nat} {Al:List Mt} {Xa:Nat} {xt:ByteArray} {τ:Mlr} (hτ:ZcD N Al Xa xt τ) (Py Pm Pg most b:Nat) (out:List Mt):Zq (AmR Py Pm Pg most τ b out):=by
 refine ⟨?_,?_⟩
 ·rintro w F Fr ⟨-,-,F1,F2,h⟩ k hk
  rcases (h.all k).1 hk with hk | hk
  ·exact (hτ.ok b out).lt h.one k hk
  ·exact (Zeb _ _).lt h.two k hk
 ·rintro w w' F F' Fr ⟨h1,h2,F1,F2,h⟩ l hF' hk;exact ⟨h1.later l,h2.later l,F1,F2,ZmK (hτ.ok b out) (Zeb _ _) h l hF' hk⟩
theorem ZsA {N:Nat} {Al:List Mt} {Xa:Nat} {xt:ByteArray} {τ:Mlr} (hτ:ZcD N Al Xa xt τ) {Py Pm Pg most:Nat} (b b':Nat) (out:List Mt) (w:World) (F Fr:Bs2) (hb:b<=b') (h:AmR Py Pm Pg most τ b out w F Fr):AmR Py Pm Pg most τ b' out w F Fr:=by
 obtain ⟨h1,h2,F1,F2,h⟩:=h;exact ⟨h1,h2,F1,F2,h.all,h.dis,hτ.up _ _ _ _ _ _ hb h.one,h.two⟩
theorem Zqa {w w1:World} {F Fr:Bs2} {P:Nat} (k1:Za N0_ w w1) (hP:w.heap.size<=P) {w2:World} {F2 Fr2:Bs2} (t:Trn w1 (fun k=>F k\/k=P) (fun k=>k=P\/Fr k) w2 F2 Fr2):Trn w F Fr w2 F2 Fr2:=by
 refine ⟨?_,fun k hk=>?_,fun k hk=>?_,fun k hs hk hn=>?_,t.own⟩
 ·exact ((k1.mono (fun _ _ h=>h.elim)).trans' (E:=Fr) t.keeps (fun i hi h=>h.elim (fun e=>by omega) id))
 ·rcases t.fresh k hk with (h | h) | h
  ·exact Or.inr (by omega)
  ·exact Or.inl h
  ·exact Or.inr (Nat.le_trans k1.size h)
 ·rcases t.out k hk with ⟨h1,h2⟩ | h
  ·rcases h1 with h1 | h1
   ·exact Or.inl ⟨h1,fun h=>h2 (Or.inr h)⟩
   ·exact absurd (Or.inl h1) h2
  ·exact Or.inr h
 ·exact t.inn k (Nat.lt_of_lt_of_le hs k1.size) (Or.inl hk) (fun h=>h.elim (fun e=>by omega) hn)
theorem Zmc {C:Cx} {ρ:Rx} {tv:Value} {T':Tt} {D:Nat} {U:Rsc} {mine:List Rsc} {w w2:World} {F Fr F2 Fr2:Bs2} (hU:Zq U) (ha :∀R∈mine,Zq R) (h:Zp (SeR C ρ tv T' :: DfR D :: U :: mine) w2 F2 Fr2) (t:Trn w F Fr w2 F2 Fr2) :
  w2.heap[D]? = some (.deferred (some []))/\∃F3 Fr3,Zp (SeR C ρ tv T' :: U :: mine) (w2.putObj D (.deferred none)) F3 Fr3/\Trn w F Fr (w2.putObj D (.deferred none)) F3 Fr3:=by
 have hmU':Zq (Zp (SeR C ρ tv T' :: U :: mine)):=ZR (fun R hR=>by
  rcases List.mem_cons.1 hR with rfl | hR
  ·exact Qx _ _ _ _
  ·rcases List.mem_cons.1 hR with rfl | hR
   ·exact hU
   ·exact ha R hR)
 obtain ⟨FD,Fl,hA⟩:=Zl.1 (Zy h);obtain ⟨hD1,hD2,hD3⟩:=id hA.one;have kD:Za FD w2 (w2.putObj D (.deferred none)):=(JP w2 D _).mono (fun k _ e=>(hD1 k).2 e);have tD:Trn w2 F2 FD (w2.putObj D (.deferred none)) F2 FD:=Trn.same (fun k hk=>((QK D).lt hA.one k hk).1) kD;obtain ⟨hA2,t2⟩:=hA.upd (R':=ZsS) (QK D) hmU' tD (fun k hk=>⟨((QK D).lt hA.one k hk).1,Nat.lt_of_lt_of_le ((QK D).lt hA.one k hk).2 kD.size⟩);obtain ⟨G1,G2,-,q2,q3⟩:=Zat ZhF hmU' (Zl.2 ⟨_,_,hA2⟩) (t.trans t2);exact ⟨hD3,_,G2,q2,q3⟩
theorem ZiX {S R Q:Rsc} {mine:List Rsc} {w:World} {F Fr:Bs2} {U:Rsc} (h:Zp (S :: U :: mine) w F Fr) (hU :∀Fu,U w F Fu->∃F1 F2,Apt R Q w F Fu F1 F2):Zp (Q :: S :: R :: mine) w F Fr:=by
 obtain ⟨A1,A2,eA,dA,hS,U1,M1,eU,dU,hu,hM⟩:=h;obtain ⟨G1,G2,hG⟩:=hU U1 hu;refine ⟨G2,fun k=>A1 k\/G1 k\/M1 k,fun k=>?_,fun k h1 h2=>?_,hG.two,A1,fun k=>G1 k\/M1 k,fun k=>Iff.rfl,fun k h1 h2=>?_,hS,G1,M1,fun k=>Iff.rfl,fun k h1 h2=>?_,hG.one,hM⟩
 ·rw [eA k,eU k,hG.all k];constructor
  ·rintro (h | (h | h) | h)
   ·exact Or.inr (Or.inl h)
   ·exact Or.inr (Or.inr (Or.inl h))
   ·exact Or.inl h
   ·exact Or.inr (Or.inr (Or.inr h))
  ·rintro (h | h | h | h)
   ·exact Or.inr (Or.inl (Or.inr h))
   ·exact Or.inl h
   ·exact Or.inr (Or.inl (Or.inl h))
   ·exact Or.inr (Or.inr h)
 ·rcases h2 with h2 | h2 | h2
  ·exact dA k h2 ((eU k).2 (Or.inl ((hG.all k).2 (Or.inr h1))))
  ·exact hG.dis k h2 h1
  ·exact dU k ((hG.all k).2 (Or.inr h1)) h2
 ·rcases h2 with h2 | h2
  ·exact dA k h1 ((eU k).2 (Or.inl ((hG.all k).2 (Or.inl h2))))
  ·exact dA k h1 ((eU k).2 (Or.inr h2))
 ·exact dU k ((hG.all k).2 (Or.inl h1)) h2
theorem ZjW {w:World} {n:Int} {f:Fn} {caps:Array Value}:Calls Tryz.prog 22 #[.int .i64 n,.func f #[] caps] w fun e w'=>e = .returned (.func (.func 42) #[] #[.pointer (some ⟨w.heap.size,0,none⟩),.pointer (some ⟨w.heap.size + 1,0,none⟩)])/\At1 w' w.heap.size 3 (.int .i64 n)/\At1 w' (w.heap.size + 1) 62 (.func f #[] caps)/\Za N0_ w w':=by
 have hmf :∀(fn:Fn) (first cap:Array Value) (w:World),(Instr.makeFunc fn first cap).run Tryz.prog w = .ok (.func fn first cap) w:=fun _ _ _ _=>rfl;have b1:=Zbc w (.cells #[.int .i64 n] 3) (.cells #[.func f #[] caps] 62);have b2:=Zbi w (.cells #[.int .i64 n] 3) (.cells #[.func f #[] caps] 62);go_enter Tryz.func22,Tryz.ntmps22;go_wp2;go_ret;exact ⟨rfl,b1,b2,((Za.refl _ _).alloc _).alloc _⟩
theorem Jx {G T:Prop} (m:G->T) (g:G):T:=m g
theorem Jg {P:Program} {Fe:Fence} {nn:Nat} {ops:Array Oper} {o:Oper} {a:Act} {w:World} {K:Act->World->Prop} {Q:Exit->Act->World->Prop} {E:Prop}
  (hg:o.guard=none) (s x:Operand) (t t2 ty:TypeId) (hop:o.op=Op.call { callee:=Callee.builtin Builtin.append,args:=#[s,x],argTypes:=#[t,t2] }) (hty:o.type=ty)
  (v y v':Value) (w':World) (hs:a.eval s=v) (hx:a.eval x=y) (hrun:Sem.run P (Builtin.append_ #[t,t2] ty #[v,y]) w = .ok v' w')
  (hK:K (a.put o.dst v') w') :
  if Region.wanted o (yielded ops a.tmps)=true then Oper.wpIn Fe nn P o a w K Q else E:=by
 have hw:Region.wanted o (yielded ops a.tmps)=true:=by simp [Region.wanted,hg]
 rw [if_pos hw];unfold Oper.wpIn;refine ⟨?_,?_⟩
 ·simp [Oper.about,hop,resolve,Target.leads,Sem.run_pure]
 ·rw [Oper.semAt_plain Fe _ _ (by rw [hop]; intro c hc'; cases hc')];simp [execOp,hop,hty,resolve,invoke,builtin,hs,hx,hrun,Result.andThen];exact hK
theorem Zi0 {u:ByteArray} {a b:Nat} (h1:a<=b) (h2:b<=u.size) (w:World):(Instr.slice 9 (.string u) (some (.int .i64 (a:Int))) (some (.int .i64 (b:Int))) none).run Tryz.prog w = .ok (.string (u.extract a b)) w:=by
 rw [run_slice_string_if w 9 u .i64 .i64 (a:Int) (b:Int) Tryz.underlying9,if_pos (by omega),if_pos (by omega)];rfl
theorem Zrm {N:Nat} {Al:List Mt} {Xa:Nat} {xt:ByteArray} {τ:Mlr} (hτ:ZcD N Al Xa xt τ) {Py Pm Pg most b:Nat} {out:List Mt} {m:Mt} {ag:Option Addr} {ng cg:Nat} {w:World} {F Fu:Bs2} (hU:AmR Py Pm Pg most τ b out w F Fu) (hFb:Fb w F) (hb:b<=w.heap.size) (hrow:w.ownsRow b 118 2 (.slice ag ng cg) m.gs.length (ZB m.gs)) (hnF :∀k,(Value.slice ag ng cg).ownBlock=some k->¬ F k) (h1:m.ok=true) (h2:m.gs.length<=9) (h3:0<=m.fr) (h4:m.fr<=m.up) (h5:m.up<=(N:Int)) (h6:out.length < τ.cap) (h7 : τ.on out=true) (h8:out ++ [m] <+: Al) (hT:TxA Xa xt w) :
  w.cell? ⟨Pg,0,none⟩=some (.int .i64 (out.length:Int))/\w.frozen? ⟨Pg,0,none⟩=false/\(w.setCell ⟨Pg,0,none⟩ (.int .i64 ((out.length:Int) + 1))).cell? ⟨Py,0,none⟩=some (.func (.yield τ.l) #[] #[])/\Za (fun k=>k=Pg) w (w.setCell ⟨Pg,0,none⟩ (.int .i64 ((out.length:Int) + 1)))/\Fu Pg/\
  YieldAt Fence.wide 0 Tryz.prog τ.l #[.agg #[.bool m.ok,.int .i64 m.fr,.int .i64 m.up,.slice ag ng cg]] (w.setCell ⟨Pg,0,none⟩ (.int .i64 ((out.length:Int) + 1))) fun e w'=>e = .returned (.bool (τ.on (out ++ [m])))/\w'.cell? ⟨Pg,0,none⟩=some (.int .i64 ((out.length:Int) + 1))/\w'.cell? ⟨Pm,0,none⟩=some (.int .i64 (most:Int))/\Hid (∃F' Fu',AmR Py Pm Pg most τ w'.heap.size (out ++ [m]) w' F' Fu'/\Trn w F Fu w' F' Fu'):=by
 obtain ⟨cy,cm,F1,F2,hA⟩:=hU;obtain ⟨e1,e2,e3⟩:=hA.two;have hP2:F2 Pg:=(e1 Pg).2 rfl;have hFu:Fu Pg:=(hA.all Pg).2 (Or.inr hP2);have kS:Za (fun k=>k=Pg) w (w.setCell ⟨Pg,0,none⟩ (.int .i64 ((out.length:Int) + 1))):=Zh _ _ _ _;have e4:At1 (w.setCell ⟨Pg,0,none⟩ (.int .i64 ((out.length:Int) + 1))) Pg 3 (.int .i64 ((out.length:Int) + 1)):=by unfold At1 at e3 ⊢; rw [heap_setCell_same _ _ _ _ _ _ e3]; rfl
 have c0:=e3.cell;have f0:=Zv e3 (i:=0);have lat:Lat w F (w.setCell ⟨Pg,0,none⟩ (.int .i64 ((out.length:Int) + 1))) F:=⟨kS.mono (fun k _ e=>e ▸ e2),fun k h=>Or.inl h⟩;have t2:Trn w F F2 (w.setCell ⟨Pg,0,none⟩ (.int .i64 ((out.length:Int) + 1))) F F2:=Trn.same (fun k hk=>((Zeb _ _).lt hA.two k hk).1) (kS.mono (fun k _ e=>(e1 k).2 e));have hA':Apt (CtA Pg out.length) (τ.tl b out) w F Fu F2 F1:=⟨fun k=>(hA.all k).trans Or.comm,fun k h1 h2=>hA.dis k h2 h1,hA.two,hA.one⟩;have hC2:CtA Pg (out ++ [m]).length (w.setCell ⟨Pg,0,none⟩ (.int .i64 ((out.length:Int) + 1))) F F2:=⟨e1,e2,by rw [List.length_append]; exact e4⟩;obtain ⟨hB,tB⟩:=hA'.upd (Zeb _ _) (hτ.ok b out) t2 hC2;have hTx:TxA Xa xt (w.setCell ⟨Pg,0,none⟩ (.int .i64 ((out.length:Int) + 1))):=hT.keeps kS (fun e=>by
  obtain ⟨cs,hX1,-⟩:=hT;unfold At1 at e3;rw [e,e3] at hX1;simp only [Option.some.injEq,Obj.cells.injEq] at hX1;exact absurd hX1.2.1 (by decide))
 obtain ⟨hr,hn⟩:=ZJ ⟨hrow,hnF⟩ lat;have cy2:=cy.later lat;have cm2:=cm.later lat;have hFb2:Fb (w.setCell ⟨Pg,0,none⟩ (.int .i64 ((out.length:Int) + 1))) F:=hFb.keeps kS;generalize (w.setCell ⟨Pg,0,none⟩ (.int .i64 ((out.length:Int) + 1)))=w2 at *;refine ⟨c0,f0,cy2.1,kS,hFu,?_⟩;refine (hτ.yl w2 F F1 b out m ag ng cg hFb2 hB.two (Nat.le_trans hb kS.size) hr hn h1 h2 h3 h4 h5 h6 h7 h8 hTx).mono ?_;rintro e w' ⟨rfl,F',Fr',g1,g2⟩;have hB':Apt (τ.tl b out) (CtA Pg (out ++ [m]).length) w2 F (fun k=>F2 k\/F1 k) F1 F2:=⟨fun k=>Or.comm,fun k h1 h2=>hB.dis k h2 h1,hB.two,hB.one⟩;obtain ⟨hD,tD⟩:=hB'.upd (hτ.ok b out) (Zeb _ _) g2 g1;have hF1 :∀k,F1 k->F k:=fun k hk=>((hτ.ok b out).lt hB.two k hk).1;have l2:Lat w2 F w' F':=g2.lat hF1;have e5:=hD.two.2.2;rw [List.length_append] at e5;exact ⟨rfl,e5.cell,(cm2.later l2).1,F',_,⟨cy2.later l2,cm2.later l2,Fr',F2,hD⟩,tB.trans tD⟩
theorem ZjV {w:World} {C:Cx} {ρ:Rx} {X:Xs} {B:Option Bo} {mine:List Rsc} {T:Tt} {tv:Value} {F Fr:Bs2} {A Pm Pf b0 most:Nat} {τ:Mlr} (hτ:ZcD C.u.size ((JN (fun a=>(X a).map (QX C.G a)) C.u.size (C.u.size + 2) 0).take most) C.X C.u τ) (hS:ZdC C w F ρ.bg X B mine) (hA:CeI w F A 0 (.pointer (some ⟨C.X,0,none⟩))) (hM:CeI w F Pm 0 (.int .i64 (most:Int))) (hPf:CeI w F Pf 0 (.func (.func 43) #[] #[.pointer (some ⟨A,0,none⟩)])) (hR:Zp (SeR C ρ tv T :: τ.tl b0 [] :: mine) w F Fr) (hFb:Fb w F) (hrd:Rdy C.u.size T B) (hX:OkX C.u.size 0 C.G X) (hu:C.u.size<=200) (hG:C.G<=9) (hb:b0<=w.heap.size) (hcap:C.u.size + 1<=τ.cap) (hmz:(most:Int)<=9223372036854775807) :
  Calls Tryz.prog 42 #[.func (.yield τ.l) #[] #[],.pointer (some ⟨Pm,0,none⟩),.pointer (some ⟨Pf,0,none⟩)] w (MtP C ρ B mine τ (Jk τ.on [] ((JN (fun a=>(X a).map (QX C.G a)) C.u.size (C.u.size + 2) 0).take most)) w F Fr):=by
 have hfn :∀f,Fence.wide.fn f:=fun _=>trivial;have hdp:Fence.wide.depth=none:=rfl;have hok0:=ZeZ (C:=C) (ρ := ρ) (tv:=tv) (T:=T) hS.ok (hτ.ok b0 []);have hlt0:=hok0.lt hR;have k1:Za N0_ w (w.alloc (.cells #[.func (.yield τ.l) #[] #[]] 108)):=(Za.refl _ _).alloc _;have bY:At1 (w.alloc (.cells #[.func (.yield τ.l) #[] #[]] 108)) w.heap.size 108 (.func (.yield τ.l) #[] #[]):=heap_alloc_new _ _;have l1:Lat w F (w.alloc (.cells #[.func (.yield τ.l) #[] #[]] 108)) F:=Lat.ofKeeps k1;have hR1:=hok0.frame hR l1 (fun k hk=>(hlt0 k hk).1) (fun k hk=>k1.block k (hlt0 k hk).2 id);have t1:Trn w F Fr (w.alloc (.cells #[.func (.yield τ.l) #[] #[]] 108)) F Fr:=Trn.ofKeeps (fun k hk=>(hlt0 k hk).1) k1;have hnY:¬ F w.heap.size:=fun h=>by have:=hFb _ h; omega
 have cM:=(hM.later l1).1;refine (callsIn_wide (n:=3)).1 ?_;refine callsIn_of_wp_marks Tryz.func42 rfl trivial ?_;simp only [Tryz.ntmps42,List.size_toArray,List.length_cons,List.length_nil,Nat.reduceAdd,Nat.reduceSub,Array.replicate_succ,Array.replicate_zero,List.push_toArray,List.append_toArray,List.nil_append,List.cons_append]
 by_cases hmo:most=0
 ·subst hmo;have HF:Hid (MtP C ρ B mine τ [] w F Fr (.returned (.tuple #[])) (w.alloc (.cells #[.func (.yield τ.l) #[] #[]] 108))):=⟨rfl,T,tv,F,Fr,b0,hR1,t1,hrd⟩;have cM0:(w.alloc (.cells #[.func (.yield τ.l) #[] #[]] 108)).cell? ⟨Pm,0,none⟩=some (.int .i64 0):=cM;clear hτ hS hA hM hPf hR hFb hrd hX hok0 hlt0 bY l1 hR1 t1 cM;gi_wp2;refine ⟨_,results_none rfl _ _ _,?_⟩;exact HF.out
 ·have hmp:0 < most:=by omega
  have z1:((most:Int) == 0)=false:=by simp; omega
  have k2:Za N0_ w ((w.alloc (.cells #[.func (.yield τ.l) #[] #[]] 108)).alloc (.cells #[.int .i64 0] 3)):=k1.alloc _;have bY2:At1 ((w.alloc (.cells #[.func (.yield τ.l) #[] #[]] 108)).alloc (.cells #[.int .i64 0] 3)) w.heap.size 108 (.func (.yield τ.l) #[] #[]):=Zbc w _ _;have bG2:At1 ((w.alloc (.cells #[.func (.yield τ.l) #[] #[]] 108)).alloc (.cells #[.int .i64 0] 3)) (w.heap.size + 1) 3 (.int .i64 0):=Zbi w _ _;obtain ⟨F2,hF2⟩ :∃F2:Bs2,F2=fun i=>F i\/i=w.heap.size + 1:=⟨_,rfl⟩;have l2:Lat w F ((w.alloc (.cells #[.func (.yield τ.l) #[] #[]] 108)).alloc (.cells #[.int .i64 0] 3)) F2:=⟨k2.mono (fun _ _ h=>h.elim),fun i hi=>by rw [hF2] at hi; exact hi.imp id (fun e=>by omega)⟩;have hR2:=hok0.frame hR l2 (fun k hk=>by rw [hF2]; exact Or.inl (hlt0 k hk).1) (fun k hk=>k2.block k (hlt0 k hk).2 id);have hM2:=hM.later l2;have hA2:=hA.later l2;have hPf2:=hPf.later l2;have hS2:=hS.later l2;have hY2:CeI ((w.alloc (.cells #[.func (.yield τ.l) #[] #[]] 108)).alloc (.cells #[.int .i64 0] 3)) F2 w.heap.size 0 (.func (.yield τ.l) #[] #[]):=⟨bY2.cell,by rw [hF2]; intro h; rcases h with h | h; exact hnY h; omega,bY2.lt⟩;have hsz2:=bG2.lt;have hFb2:Fb ((w.alloc (.cells #[.func (.yield τ.l) #[] #[]] 108)).alloc (.cells #[.int .i64 0] 3)) F2:=fun i hi=>by
   rw [hF2] at hi
   rcases hi with h | h
   ·have:=hFb i h; omega
   ·omega
  have hlt2 :∀k,Fr k->k≠w.heap.size + 1:=fun k hk e=>by have:=(hlt0 k hk).2; omega
  have hR3:Zp (SeR C ρ tv T :: AmR w.heap.size Pm (w.heap.size + 1) most τ b0 [] :: mine) ((w.alloc (.cells #[.func (.yield τ.l) #[] #[]] 108)).alloc (.cells #[.int .i64 0] 3)) F2 (fun k=>k=w.heap.size + 1\/Fr k):=by
   obtain ⟨A1,A2,eA,dA,hSe,D1,M1,eD,dD,htl,hmine⟩:=hR2;have hD :∀k,D1 k->Fr k:=fun k h=>(eA k).2 (Or.inr ((eD k).2 (Or.inl h)));have hMm :∀k,M1 k->Fr k:=fun k h=>(eA k).2 (Or.inr ((eD k).2 (Or.inr h)));refine ⟨A1,fun k=>(D1 k\/k=w.heap.size + 1)\/M1 k,fun k=>?_,fun k h1 h2=>?_,hSe,fun k=>D1 k\/k=w.heap.size + 1,M1,fun k=>Iff.rfl,fun k h1 h2=>?_,⟨hY2,hM2,D1,fun k=>k=w.heap.size + 1,fun k=>Iff.rfl,fun k h1 h2=>hlt2 k (hD k h1) h2,htl,fun k=>Iff.rfl,by rw [hF2]; exact Or.inr rfl,bG2⟩,hmine⟩
   ·constructor
    ·rintro (h | h)
     ·exact Or.inr (Or.inl (Or.inr h))
     ·rcases (eA k).1 h with h | h
      ·exact Or.inl h
      ·rcases (eD k).1 h with h | h
       ·exact Or.inr (Or.inl (Or.inl h))
       ·exact Or.inr (Or.inr h)
    ·rintro (h | (h | h) | h)
     ·exact Or.inr ((eA k).2 (Or.inl h))
     ·exact Or.inr (hD k h)
     ·exact Or.inl h
     ·exact Or.inr (hMm k h)
   ·rcases h2 with (h2 | h2) | h2
    ·exact dA k h1 ((eD k).2 (Or.inl h2))
    ·exact hlt2 k ((eA k).2 (Or.inl h1)) h2
    ·exact dA k h1 ((eD k).2 (Or.inr h2))
   ·rcases h1 with h1 | h1
    ·exact dD k h1 h2
    ·exact hlt2 k (hMm k h2) h1
  have cP2:=hPf2.1;have HR3:Hid _:=hR3;have hok:=hS.ok;have hbz:b0<=((w.alloc (.cells #[.func (.yield τ.l) #[] #[]] 108)).alloc (.cells #[.int .i64 0] 3)).heap.size:=Nat.le_trans hb k2.size;clear hR3 hR2 hR hR1 t1 l1 hlt0 hok0 hS hA hM hPf bY bY2 bG2 hnY hlt2;gi_wp2;refine ZeG (cap := τ.cap) (cc:=amC τ.on most) (b0:=b0) (ρ := ρ) (X:=X) (U:=AmR w.heap.size Pm (w.heap.size + 1) most τ) (fun b out=>ZmO hτ _ _ _ _ b out) (fun b b' out w F Fr hb h=>ZsA hτ b b' out w F Fr hb h) (by simp [amC]) rfl ?round rfl hS2 hA2 hFb2 HR3.out hrd hX hu hG hbz hcap ?done
  case round =>
   intro l w5 F5 Fu b out m ag ng cg hFb5 hU hb5 hrow hnF h1 h2 h3 h4 h5 hn hcc hpx hF5l hll hnl;obtain ⟨hon,hlen⟩:=Zpl hτ.on0 hmp hcc;have hpx2:=List.prefix_take_iff.2 ⟨hpx,show (out ++ [m]).length<=most by rw [List.length_append]; exact hlen⟩;have hPg :∀k,Fu k->k < w5.heap.size:=fun k hk=>((ZmO hτ _ _ _ _ b out).lt hU k hk).2;clear hU hpx HR3 hA2 hS2 hPf2 hM2 hY2 hFb2 hX hrd cP2 cM;refine ⟨fun a1 w6=>w6.heap[w5.heap.size]? = some (.cells #[.bool m.ok,.int .i64 m.fr,.int .i64 m.up,.slice ag ng cg] 38 (0,0))/\a1 = { tmps:=#[.func (.yield τ.l) #[] #[],.pointer (some ⟨Pm,0,none⟩),.pointer (some ⟨Pf,0,none⟩),.pointer (some ⟨w.heap.size,0,none⟩),.pointer (some ⟨w.heap.size + 1,0,none⟩),.pointer (some ⟨w5.heap.size,0,none⟩),.int .i64 (most:Int),.bool false,.func (.func 43) #[] #[.pointer (some ⟨A,0,none⟩)],.agg #[.bool m.ok,.int .i64 m.fr,.int .i64 m.up,.slice ag ng cg],undef,undef,undef,undef,undef,undef,undef,undef,undef,undef,undef],defers := [] },?_,?_⟩
   ·have HK:Hid (Za N0_ w5 (w5.alloc (.cells #[.bool m.ok,.int .i64 m.fr,.int .i64 m.up,.slice ag ng cg] 38))):=(Za.refl _ _).alloc _;have HA:Hid ((w5.alloc (.cells #[.bool m.ok,.int .i64 m.fr,.int .i64 m.up,.slice ag ng cg] 38)).heap[w5.heap.size]? = some (.cells #[.bool m.ok,.int .i64 m.fr,.int .i64 m.up,.slice ag ng cg] 38 (0,0))):=heap_alloc_new _ _;clear h1 h2 h3 h4 h5 hrow hnF hn hcc hpx2 hon hPg z1;gi_wp2;exact ⟨HK.out,HA.out,by first | trivial | rfl⟩
   ·rintro a1 w6 w7 k6 ⟨hbm,rfl⟩ k7 hTx hUw;have hb7:w7.heap[w5.heap.size]? = some (.cells #[.bool m.ok,.int .i64 m.fr,.int .i64 m.up,.slice ag ng cg] 38 (0,0)):=by rw [k7.block _ (lt_of_block hbm) (by omega)]; exact hbm
    have lat7:Lat w5 F5 w7 F5:=(Lat.ofKeeps k6).trans ⟨k7.mono (fun k _ e=>e ▸ hF5l),fun k h=>Or.inl h⟩;obtain ⟨hrow7,hnF7⟩:=ZJ ⟨hrow,hnF⟩ lat7;have hFb7:Fb w7 F5:=(hFb5.keeps k6).keeps k7;obtain ⟨c0,f0,cy,kS,hFuP,hY⟩:=Zrm hτ hUw hFb7 (Nat.le_trans hb5 lat7.size) hrow7 hnF7 h1 h2 h3 h4 h5 hn hon hpx2 hTx;have hb8:=(kS.block _ (lt_of_block hb7) (by have:=hPg _ hFuP; omega)).trans hb7;have hz:(out.length:Int) < 9223372036854775807:=by omega
    obtain ⟨HX1,HX2,HX3⟩:=ZsB (on := τ.on) (most:=most) (out:=out) (m:=m);have HX1':Hid _:=HX1;have HX2':Hid _:=HX2;have HX3':Hid _:=HX3;obtain ⟨N,hN⟩ :∃N,out.length=N:=⟨_,rfl⟩;have HN:Hid (out.length=N):=hN;rw [hN] at c0 cy hY hb8 hz hlen kS;have hlz:(N:Int) < (most:Int):=by omega
    obtain ⟨fn,tmps,assign,body,hy,hRd⟩:=hY;have d0:(w7.setCell ⟨w.heap.size + 1,0,none⟩ (.int .i64 ((N:Int) + 1))).cell? ⟨w5.heap.size,0,none⟩=some (.bool m.ok):=by rw [Zc hb8]; rfl
    have d1:(w7.setCell ⟨w.heap.size + 1,0,none⟩ (.int .i64 ((N:Int) + 1))).cell? ⟨w5.heap.size,1,none⟩=some (.int .i64 m.fr):=by rw [Zc hb8]; rfl
    have d2:(w7.setCell ⟨w.heap.size + 1,0,none⟩ (.int .i64 ((N:Int) + 1))).cell? ⟨w5.heap.size,2,none⟩=some (.int .i64 m.up):=by rw [Zc hb8]; rfl
    have d3:(w7.setCell ⟨w.heap.size + 1,0,none⟩ (.int .i64 ((N:Int) + 1))).cell? ⟨w5.heap.size,3,none⟩=some (.slice ag ng cg):=by rw [Zc hb8]; rfl
    clear h1 h2 h3 h4 h5 hrow hnF hn hcc hpx2 hon hPg z1 hb8 kS hb7 hbm k6 k7 hTx hUw lat7 hrow7 hnF7 hFb7 hFb5 hb5 HX1 HX2 HX3 hFuP hN hll hnl hF5l;gi_wp2;refine (show RoundIn (Fence.wide.inRound l) 0 Tryz.prog τ.l fn tmps assign body _ _ from Zc3 hRd).mono ?_;rintro e w9 ⟨rfl,cG,cMo,HU⟩;clear hy hRd d0 d1 d2 d3 c0 f0 cy
    cases hon : τ.on (out ++ [m]) with
    | false =>
      have HX:Hid (Zoz (amC τ.on most (out ++ [m])) .ret):=HX1'.out hon;clear hon;gi_wp2;exact ⟨HX.out,HU.out⟩
    | true =>
      by_cases hme:most=N + 1
      ·have HX:Hid (Zoz (amC τ.on most (out ++ [m])) .ret):=HX2'.out hon (by have:=HN.out; omega);have z2:((N:Int) + 1 == (most:Int))=true:=by simp; omega
       clear hon hme hlz hlen;gi_wp2;exact ⟨HX.out,HU.out⟩
      ·have HX:Hid (Zoz (amC τ.on most (out ++ [m])) .normal):=HX3'.out hon (by have:=HN.out; omega);have z2:((N:Int) + 1 == (most:Int))=false:=by simp; omega
       clear hon hme hlz hlen;gi_wp2;exact ⟨HX.out,HU.out⟩
  case done =>
   intro D b' out T' tv' w5 F5 Fr5 hout hst ht5 hD hrd2;have hcc:amC τ.on most out=none\/amC τ.on most out=some .ret:=by
    unfold amC
    split
    ·exact Or.inl rfl
    ·split
     ·exact Or.inr rfl
     ·exact Or.inl rfl
   obtain ⟨hD1,F3,Fr3,q1,q2⟩:=Zmc (ZmO hτ _ _ _ _ b' out) hok hst ht5;have st:=ZiX (R := τ.tl b' out) (Q:=CtA (w.heap.size + 1) out.length) q1 (fun Fu h=>h.2.2);obtain ⟨FR,Fl,-,p2,p3⟩:=Zat (Zeb _ _) (ZeZ hok (hτ.ok b' out)) st q2;rw [hF2] at p3;have hfin:=Zqa k2 (by omega) p3;rw [Zpk _ _ hmp] at hout;simp only [List.length_nil,Nat.sub_zero] at hout;have HF:Hid (MtP C ρ B mine τ (Jk τ.on [] ((JN (fun a=>(X a).map (QX C.G a)) C.u.size (C.u.size + 2) 0).take most)) w F Fr (.returned (.tuple #[])) (w5.putObj D (.deferred none))):=⟨rfl,T',tv',_,Fl,b',by rw [<- hout]; exact p2,hfin,hrd2⟩;have HD:Hid (w5.heap[D]? = some (.deferred (some []))):=hD1;clear hout hst ht5 hrd2 hD1 q1 q2 st p2 p3 hfin HR3 hA2 hS2 hPf2 hM2 hY2 hFb2 hX hrd cP2 cM z1 hτ hok
   rcases hcc with h | h
   ·simp only [h];gi_wp2;refine ⟨by simp,.inl ⟨_,_,rfl,run_takeDeferred HD.out,?_⟩⟩;refine ⟨_,results_none rfl _ _ _,?_⟩;exact HF.out
   ·simp only [h];gi_wp2;refine ⟨by simp,.inl ⟨_,_,rfl,run_takeDeferred HD.out,?_⟩⟩;refine ⟨_,results_none rfl _ _ _,?_⟩;exact HF.out
end Go.Proofs.YtfkflljplohhcaaGreatDoor
