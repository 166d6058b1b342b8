import Derived.Test.YtfkflljplohhcaaGreatDoorYg
set_option maxHeartbeats 400000
namespace Go.Proofs.YtfkflljplohhcaaGreatDoor
open Go.RowKit
set_option linter.unusedVariables false
theorem ZnE {C:Cx} {ρ:Rx} {ats:List Rsc} {τ:Tlr} {T:Tt} {out:List (Nat×Rs)} {w:World} {F Fr:Bs2} {R:Rsc} (hτ:Zas C τ) (ha :∀R∈ats,Zq R) (hR:R∈ats) (h:Run C ρ ats τ T out w F Fr) :
  ∃F1,R w F F1/\(∀k,F1 k->F k)/\∀(w':World) (F' F1':Bs2),Trn w F F1 w' F' F1'->R w' F' F1'->∃Fr',Run C ρ ats τ T out w' F' Fr'/\Trn w F Fr w' F' Fr':=by
 have hall :∀S∈(SeR C ρ τ.tv T :: τ.tl out :: ats),Zq S:=by
  intro S hS
  rcases List.mem_cons.1 hS with rfl | hS
  ·exact Qx _ _ _ _
  ·rcases List.mem_cons.1 hS with rfl | hS
   ·exact hτ.ok out
   ·exact ha S hS
 obtain ⟨l',hl',hsp⟩:=ZgA (R:=R) (l:=SeR C ρ τ.tv T :: τ.tl out :: ats) (List.mem_cons.2 (Or.inr (List.mem_cons.2 (Or.inr hR))));obtain ⟨F1,F2,h1,h2,h3,h4⟩:=(hsp w F Fr).1 h;have hA:Apt R (Zp l') w F Fr F1 F2:=⟨h1,h2,h3,h4⟩;have hq:Zq (Zp l'):=ZR (fun S hS=>hall S (hl' S hS));refine ⟨F1,h3,fun k hk=>((ha R hR).lt h3 k hk).1,fun w' F' F1' t hR'=>?_⟩;obtain ⟨g1,g2⟩:=hA.upd (ha R hR) hq t hR';exact ⟨_,(hsp w' F' _).2 ⟨_,_,g1.all,g1.dis,g1.one,g1.two⟩,g2⟩
def Zke (C:Cx) (w:World) (F:Bs2) (fv:Value) (X:Xs) (R:Rsc):Prop :=
 ∃ (fn:Nat) (cap:Array Value),fv = .func (.func fn) #[] cap/\ZdD fn/\
   ∀ (w':World) (F':Bs2),Lat w F w' F'->Fb w' F'->∀(Fr:Bs2) (p:Nat),R w' F' Fr->p<=C.u.size->
     Calls Tryz.prog fn (#[.int .i64 (p:Int)] ++ cap) w' (fun e w2 =>∃(v:Value) (M:List Em) (F2 Fr2:Bs2),e = .returned v/\R w2 F2 Fr2/\Trn w' F' Fr w2 F2 Fr2/\EnI w2 F2 v M/\M.map (fun x=>(x.1,x.2.1))=(X p).map (fun x=>(x.1,ap x.2 (noS C.G))))
theorem Zke.later {C:Cx} {w w':World} {F F':Bs2} {fv:Value} {X:Xs} {R:Rsc} (h:Zke C w F fv X R) (l:Lat w F w' F'):Zke C w' F' fv X R:=by
 obtain ⟨fn,cap,h1,h2,h3⟩:=h;exact ⟨fn,cap,h1,h2,fun w2 F2 l2=>h3 w2 F2 (l.trans l2)⟩
structure Rb where
 A:Nat
 J:Nat
 Nb:Nat
 At:Nat
 Gb:Nat
 Ab:Nat
 Cb:Nat
def Rb.again (k:Rb):Array Value:=#[.pointer (some ⟨k.Nb,0,none⟩),.pointer (some ⟨k.A,0,none⟩),.pointer (some ⟨k.J,0,none⟩),.pointer (some ⟨k.At,0,none⟩),.pointer (some ⟨k.Gb,0,none⟩)]
def Rb.goOn (k:Rb):Array Value:=#[.pointer (some ⟨k.Nb,0,none⟩),.pointer (some ⟨k.Ab,0,none⟩),.pointer (some ⟨k.Cb,0,none⟩)]
structure RpI (C:Cx) (w:World) (F:Bs2) (k:Rb) (j:Nat) (r:Rp) (ty:TypeId) (y atv nx:Value):Prop where
 a:CeI w F k.A 0 (.pointer (some ⟨C.X,0,none⟩))
 j:CeI w F k.J 0 (.int .i64 (j:Int))
 n:RnI w F k.Nb r (.iface ty y)
 at_:CeI w F k.At 0 atv
 g:CeI w F k.Gb 0 (.func (.func 114) #[] k.goOn)
 ag:CeI w F k.Ab 0 (.func (.func 109) #[] k.again)
 c:CeI w F k.Cb 0 nx
theorem RpI.later {C:Cx} {w w':World} {F F':Bs2} {k:Rb} {j:Nat} {r:Rp} {ty:TypeId} {y atv nx:Value} (h:RpI C w F k j r ty y atv nx) (l:Lat w F w' F'):RpI C w' F' k j r ty y atv nx :=
 ⟨h.a.later l,h.j.later l,h.n.later l,h.at_.later l,h.g.later l,h.ag.later l,h.c.later l⟩
def ZaL (C:Cx) (ρ:Rx) (ats:List Rsc) (τ:Tlr) (X:Xs) (W:Wt) (j:Nat) (r:Rp) (b:Bo) (d p:Nat) (T:Tt) (V:Vs) (out:List (Nat×Rs)) (L:Wn) (gs:Rs) (w:World) (F Fr:Bs2) (e:Ending) (w':World):Prop :=
 e = .returned (.bool (JB τ.stop V L))/\∃T' F' Fr',Run C ρ ats τ T' (out ++ Zae τ.stop V L gs) w' F' Fr'/\Trn w F Fr w' F' Fr'/\Zbz C.u.size j (jwR C.u.size X r W) r b d p T T' (QR τ.stop V L)
def RcC (C:Cx) (w:World) (F:Bs2) (fn:Nat) (cap:Array Value) (X:Xs) (W:Wt) (j:Nat) (r:Rp) (b:Bo) (mine:List Rsc) (d p:Nat) (L:Wn):Prop :=
 ∀ (w':World) (F':Bs2),Lat w F w' F'->Fb w' F'->∀(ρ:Rx) (ats:List Rsc) (τ:Tlr) (T:Tt) (V:Vs) (out:List (Nat×Rs)) (Fr:Bs2) (gv:Value) (gs:Rs),
   (∀R∈ats,Zq R)->(∀R∈mine,R∈ats)->Zas C τ->Run C ρ ats τ T out w' F' Fr->SpI w' F' gv gs->gs.length=C.G->ZmY C.u.size j (jwR C.u.size X r W) r b d p T V->out.length + tln τ.stop V L<=τ.cap->
   Calls Tryz.prog fn (#[.int .i64 (d:Int),.int .i64 (p:Int),gv] ++ cap) w' (ZaL C ρ ats τ X W j r b d p T V out L gs w' F' Fr)
variable {C:Cx} {ρ:Rx} {ats:List Rsc} {τ:Tlr} {X:Xs} {W:Wt} {j:Nat} {r:Rp} {b:Bo} {d p:Nat} {T:Tt} {V:Vs} {out:List (Nat×Rs)} {L L1 L2:Wn} {gs:Rs} {w w1 w2:World} {F Fr F1 Fr1:Bs2} {e:Ending}
theorem ZaL.stop (h:ZaL C ρ ats τ X W j r b d p T V out L1 gs w F Fr e w1) (hc:JB τ.stop V L1=false) (L2:Wn):ZaL C ρ ats τ X W j r b d p T V out (L1 ++ L2) gs w F Fr (.returned (.bool false)) w1:=by
 obtain ⟨rfl,T1,F1,Fr1,h1,h2,h3⟩:=h;refine ⟨by rw [ZbO hc],T1,F1,Fr1,?_,h2,?_⟩
 ·rw [ZcU hc]; exact h1
 ·rw [QB (ZbO hc _)]; rw [QB hc] at h3; exact h3
theorem ZaL.then {T1:Tt} (hc:JB τ.stop V L1=true) (t:Trn w F Fr w1 F1 Fr1) (ho:Zbz C.u.size j (jwR C.u.size X r W) r b d p T T1 (sal V L1)) (h2:ZaL C ρ ats τ X W j r b d p T1 (sal V L1) (out ++ Zae τ.stop V L1 gs) L2 gs w1 F1 Fr1 e w2):ZaL C ρ ats τ X W j r b d p T V out (L1 ++ L2) gs w F Fr e w2:=by
 obtain ⟨rfl,T2,F2,Fr2,g1,g2,g3⟩:=h2;refine ⟨by rw [Zar hc],T2,F2,Fr2,?_,t.trans g2,?_⟩
 ·rw [JO hc,<- List.append_assoc]; exact g1
 ·rw [Zb6 hc]; exact ho.trans g3
theorem QT.rp (hin:ZmY C.u.size j (jwR C.u.size X r W) r b d p T V) (hj:¬ b.has j) (h:QT C ρ ats τ T V out L gs (some b) w F Fr e w1):ZaL C ρ ats τ X W j r b d p T V out L gs w F Fr e w1:=by
 obtain ⟨rfl,T1,F1,Fr1,h1,h2,h3⟩:=h;exact ⟨rfl,T1,F1,Fr1,h1,h2,Zql hin hj (fun y hy=>ZdM _ _ _ _ hy) h3⟩
theorem Zor {C:Cx} {w:World} {F:Bs2} {k:Rb} {j:Nat} {r:Rp} {ty:TypeId} {y atv nx:Value} {X:Xs} {W:Wt} {b:Bo} {mine:List Rsc} {d p:Nat} (hX:Rng C.u.size X) (hp:p<=C.u.size) (hj:¬ b.has j)
  (hI:RpI C w F k j r ty y atv nx) (hnx:Qe C w F nx W (some b) mine) (hag:RcC C w F 109 k.again X W j r b mine d p (bn (wa C.u.size X r d p) W)) :
  RcC C w F 114 k.goOn X W j r b mine d p (bn (wg C.u.size X r d p) W):=by
 intro w' F' l hFb ρ ats τ T V out Fr gv gs ha hm hτ hR hg hgl hin hno;have hI':=hI.later l;have hF0:=JA hτ ha hR;obtain ⟨ao,cg,hgv⟩ :∃ag cg,gv = .slice ag gs.length cg:=by obtain ⟨a,c,h,_⟩:=hg; exact ⟨a,c,h⟩
 have hca:ZdD 109:=fun _ _=>by kernel_rfl
 obtain ⟨fn,cap,hfe,hcf,hcall⟩:=hnx;have hc:=hI'.c.1;rw [hfe] at hc;rw [ZrB hX r d p hp] at hno ⊢
 by_cases hd:d < r.least
 ·rw [if_pos hd] at hno ⊢;have h1:=hag w' F' l hFb ρ ats τ T V out Fr gv gs ha hm hτ hR hg hgl hin hno;rw [hgv] at h1 ⊢;exact ZnL hI'.n.c0 hI'.ag.1 (by omega) hca (h1.mono (fun e w2 h2=>⟨_,h2.1,by rw [<- h2.1]; exact h2⟩))
 ·rw [if_neg hd] at hno ⊢
  cases hz:r.lazy with
  | true =>
    rw [hz,if_pos rfl] at hno;rw [if_pos rfl];have e1:bn ((p,eno) :: wa C.u.size X r d p) W=W p ++ bn (wa C.u.size X r d p) W:=by rw [Zq6,ZpY,ZrT]
    rw [e1] at hno ⊢;obtain ⟨n1,n2⟩:=Za5 out V _ _ gs τ.stop hno;have h1:=hcall w' F' l hFb ρ ats τ T V out Fr p gv gs ha hm hτ hR hg hgl hp hin.cls n1;rw [hgv] at h1 ⊢;have c2:=hI'.n.c2;rw [hz] at c2;refine ZkO (fa:=109) (capa:=k.again) hI'.n.c0 c2 hc (by omega) hcf hca (h1.mono ?_);intro e w1 h2;have h3:=h2.rp (X:=X) (W:=W) hin hj;refine ⟨_,h2.1,fun hcb=>?_,fun hcb=>?_⟩
    ·exact h3.stop hcb _
    ·obtain ⟨rfl,T1,F1,Fr1,g1,g2,g3⟩:=h3;rw [Z8 hcb] at g3;have l1:=g2.lat hF0;refine ⟨(hI'.later l1).ag.1,?_⟩;have h4:=hag w1 F1 (l.trans l1) (Zbj hτ ha hFb g2 g1) ρ ats τ T1 (sal V (W p)) _ Fr1 gv gs ha hm hτ g1 (hg.later l1) hgl g3.inn (n2 hcb);rw [hgv] at h4;exact h4.mono (fun e w2 h5=>⟨_,h5.1,by rw [<- h5.1]; exact ZaL.then hcb g2 g3 h5⟩)
  | false =>
    rw [hz,if_neg (by simp)] at hno;rw [if_neg (by simp)];have e1:bn (wa C.u.size X r d p ++ [(p,eno)]) W=bn (wa C.u.size X r d p) W ++ W p:=by rw [Zmx,ZiD]
    rw [e1] at hno ⊢;obtain ⟨n1,n2⟩:=Za5 out V _ _ gs τ.stop hno;have h1:=hag w' F' l hFb ρ ats τ T V out Fr gv gs ha hm hτ hR hg hgl hin n1;rw [hgv] at h1 ⊢;have c2:=hI'.n.c2;rw [hz] at c2;refine ZgI (fn:=fn) (cap:=cap) hI'.n.c0 c2 hI'.ag.1 (by omega) hcf hca (h1.mono ?_);intro e w1 h3;refine ⟨_,h3.1,fun hcb=>?_,fun hcb=>?_⟩
    ·exact h3.stop hcb _
    ·obtain ⟨rfl,T1,F1,Fr1,g1,g2,g3⟩:=h3;rw [Z8 hcb] at g3;have l1:=g2.lat hF0;have hc1:=(hI'.later l1).c.1;rw [hfe] at hc1;refine ⟨hc1,?_⟩;have h4:=hcall w1 F1 (l.trans l1) (Zbj hτ ha hFb g2 g1) ρ ats τ T1 (sal V (bn (wa C.u.size X r d p) W)) _ Fr1 p gv gs ha hm hτ g1 (hg.later l1) hgl hp g3.cls (n2 hcb);rw [hgv] at h4;exact h4.mono (fun e w2 h5=>⟨_,h5.1,by rw [<- h5.1]; exact ZaL.then hcb g2 g3 (h5.rp g3.inn hj)⟩)
def tk (r:Rp) (d p:Nat) (e:Nat×Ef):Bool := !(decide (r.least<=d) && e.1 == p)
def agL (N:Nat) (X:Xs) (r:Rp) (W:Wt) (d p:Nat) (l:En):Wn:=(l.filter (tk r d p)).flatMap fun e=>pr (ap e.2) (bn (wg N X r (d + 1) e.1) W)
theorem Zrr {N:Nat} {X:Xs} {r:Rp} {W:Wt} {d p:Nat} (h:r.most≠some d):bn (wa N X r d p) W=agL N X r W d p (X p):=by
 unfold wa agL;rw [if_neg h,Zhx]
 congr 1
 funext e
 rw [ZpV]
theorem Zpu {N:Nat} {X:Xs} {r:Rp} {W:Wt} {d p i:Nat} {l:En} (h:i < l.length) (hs:tk r d p l[i]=false):agL N X r W d p (l.take (i + 1))=agL N X r W d p (l.take i):=by
 unfold agL;rw [List.take_succ_eq_append_getElem h,List.filter_append];simp [hs]
theorem Zpv {N:Nat} {X:Xs} {r:Rp} {W:Wt} {d p i:Nat} {l:En} (h:i < l.length) (hs:tk r d p l[i]=true):agL N X r W d p (l.take (i + 1))=agL N X r W d p (l.take i) ++ pr (ap l[i].2) (bn (wg N X r (d + 1) l[i].1) W):=by
 unfold agL;rw [List.take_succ_eq_append_getElem h,List.filter_append];simp [hs]
theorem ZiI {N:Nat} {X:Xs} {r:Rp} {W:Wt} {d p:Nat} (l:En) (i:Nat):agL N X r W d p l=agL N X r W d p (l.take i) ++ agL N X r W d p (l.drop i):=by
 unfold agL;rw [<- List.flatMap_append,<- List.filter_append,List.take_append_drop]
theorem Ziy (M:List Em) (i:Nat) (h:i < M.length):(M.flatMap Zge)[i * 2]? = some (.int .i64 (M[i].1:Int))/\(M.flatMap Zge)[i * 2 + 1]? = some M[i].2.2:=by
 induction M generalizing i with
 | nil=>simp at h
 | cons x M ih =>
   cases i with
   | zero=>exact ⟨rfl,rfl⟩
   | succ i =>
     have:=ih i (by simpa using h)
     rw [show (i + 1) * 2=i * 2 + 2 by omega,show i * 2 + 2 + 1=i * 2 + 1 + 2 by omega];exact this
theorem Zqx {V:Vs} {L:Wn} {t:Tr} (h :∀y∈L,V y.1=true) :∀y∈pr t L,V y.1=true:=by
 intro y hy;unfold pr at hy;rw [List.mem_map] at hy;obtain ⟨x,hx,rfl⟩:=hy;exact h x hx
structure AgI (C:Cx) (ρ:Rx) (ats:List Rsc) (τ:Tlr) (X:Xs) (W:Wt) (j:Nat) (r:Rp) (b:Bo) (d p:Nat) (T:Tt) (V:Vs) (out:List (Nat×Rs)) (gv:Value) (gs:Rs) (w:World) (F Fr:Bs2) (rr:Nat) (ao:Option Addr) (n cp i:Nat) (w':World):Prop where
 more:JB τ.stop V (agL C.u.size X r W d p ((X p).take i))=true
 st :∃(c:Nat) (M:List Em) (T':Tt) (F' Fr':Bs2),EnI w' F' (.slice ao n cp) M/\M.map (fun x=>(x.1,x.2.1))=(X p).map (fun x=>(x.1,ap x.2 (noS C.G)))/\n=M.length/\
  Run C (ρ.pin ((j,r.need (d + 1)),rr,c)) ats τ T' (out ++ Zae τ.stop V (agL C.u.size X r W d p ((X p).take i)) gs) w' F' Fr'/\Trn w F Fr w' F' Fr'/\Zbz C.u.size j (jwR C.u.size X r W) r b d p T T' (sal V (agL C.u.size X r W d p ((X p).take i)))/\
  BxI w' F' w.heap.size 3 (.int .i64 (d:Int))/\BxI w' F' (w.heap.size + 1) 36 gv
variable {C:Cx} {ρ:Rx} {ats:List Rsc} {τ:Tlr} {X:Xs} {W:Wt} {j:Nat} {r:Rp} {b:Bo} {d p:Nat} {T:Tt} {V:Vs} {out:List (Nat×Rs)} {gv:Value} {gs:Rs} {w w1 w2:World} {F Fr:Bs2} {rr:Nat} {ao:Option Addr} {n cp i:Nat}
theorem AgI.same (hτ:Zas C τ) (ha :∀R∈ats,Zq R) (hFb:Fb w F) (h:AgI C ρ ats τ X W j r b d p T V out gv gs w F Fr rr ao n cp i w1) (k:Za N0_ w1 w2):AgI C ρ ats τ X W j r b d p T V out gv gs w F Fr rr ao n cp i w2:=by
 obtain ⟨h1,c,M,T',F',Fr',h2,h3,h4,h5,h6,h7,h8,h9⟩:=h;obtain ⟨g1,g2⟩:=Qk hτ ha h5 k;have l:Lat w1 F' w2 F':=Lat.ofKeeps k;exact ⟨h1,c,M,T',F',Fr',h2.later l,h3,h4,g1,h6.trans g2,h7,h8.later l,h9.later l⟩
theorem AgI.skip (hi:i < (X p).length) (hs:tk r d p (X p)[i]=false) (h:AgI C ρ ats τ X W j r b d p T V out gv gs w F Fr rr ao n cp i w1):AgI C ρ ats τ X W j r b d p T V out gv gs w F Fr rr ao n cp (i + 1) w1:=by
 have e:=Zpu (N:=C.u.size) (X:=X) (W:=W) hi hs;refine ⟨by rw [e]; exact h.more,?_⟩;rw [e];exact h.st
theorem Zps {C:Cx} {ρ:Rx} {ats:List Rsc} {τ:Tlr} {X:Xs} {W:Wt} {j:Nat} {r:Rp} {b:Bo} {d p:Nat} {T T1:Tt} {V:Vs} {out:List (Nat×Rs)} {gv:Value} {gs:Rs} {w w1 w2:World} {F Fr F1 Fr1:Bs2} {rr c:Nat} {ao ag av:Option Addr} {n cp i cg nv cv Eb:Nat} {k:Rb} {ty:TypeId} {y atv nx:Value} {mine:List Rsc} {M:List Em}
  (hX:Rng C.u.size X) (hp:p<=C.u.size) (hu:C.u.size<=200) (hj:¬ b.has j) (hmm :∀m,r.most=some m->m<=50/\r.least<=m) (hdm :∀m,r.most=some m->d + 1<=m) (hd1:d<=900) (hG:C.G<=9)
  (hI:RpI C w F k j r ty y atv nx) (hFb:Fb w F) (hτ:Zas C τ) (ha :∀R∈ats,Zq R) (hm :∀R∈mine,R∈ats) (hF0 :∀k,Fr k->F k) (hg:SpI w F gv gs) (hgl:gs.length=C.G) (hgv:gv = .slice ag gs.length cg)
  (hi:i < (X p).length) (hs:tk r d p (X p)[i]=true) (hno:out.length + tln τ.stop V (agL C.u.size X r W d p (X p))<=τ.cap)
  (ih:RcC C w F 114 k.goOn X W j r b mine (d + 1) (X p)[i].1 (bn (wg C.u.size X r (d + 1) (X p)[i].1) W))
  (hc:JB τ.stop V (agL C.u.size X r W d p ((X p).take i))=true)
  (hEn:EnI w1 F1 (.slice ao n cp) M) (hM:M.map (fun x=>(x.1,x.2.1))=(X p).map (fun x=>(x.1,ap x.2 (noS C.G)))) (hn:n=M.length)
  (hR1:Run C (ρ.pin ((j,r.need (d + 1)),rr,c)) ats τ T1 (out ++ Zae τ.stop V (agL C.u.size X r W d p ((X p).take i)) gs) w1 F1 Fr1) (t1:Trn w F Fr w1 F1 Fr1) (ho:Zbz C.u.size j (jwR C.u.size X r W) r b d p T T1 (sal V (agL C.u.size X r W d p ((X p).take i))))
  (bd:BxI w1 F1 w.heap.size 3 (.int .i64 (d:Int))) (bg:BxI w1 F1 (w.heap.size + 1) 36 gv) (hsp:SpI w1 F1 (.slice av nv cv) (ap (X p)[i].2 (noS C.G)))
  (k2:Za N0_ w1 w2) (hEb:w1.heap.size<=Eb) (hb:w2.heap[Eb]? = some (.cells #[.int .i64 ((X p)[i].1:Int),.slice av nv cv] 135 (0,0))) :
  Calls Tryz.prog 106 #[.pointer (some ⟨rr,0,none⟩),.int .i64 ((X p)[i].1:Int),.int .u8 ((r.room (d + 1):Nat):Int),.func (.func 112) #[] #[.pointer (some ⟨k.Gb,0,none⟩),.pointer (some ⟨w.heap.size,0,none⟩),.pointer (some ⟨Eb,0,none⟩),.pointer (some ⟨w.heap.size + 1,0,none⟩)]] w2
   (fun e w3 =>∃f,e = .returned (.bool f)/\Hid (f=true->AgI C ρ ats τ X W j r b d p T V out gv gs w F Fr rr ao n cp (i + 1) w3)/\Hid (f=false->ZaL C ρ ats τ X W j r b d p T V out (agL C.u.size X r W d p (X p)) gs w F Fr (.returned (.bool false)) w3)):=by
 have l1:=t1.lat hF0;have l2:Lat w1 F1 w2 F1:=Lat.ofKeeps k2;obtain ⟨hR2,t2⟩:=Qk hτ ha hR1 k2;have hF1:=JA hτ ha hR1;have hFb1:Fb w1 F1:=Zbj hτ ha hFb t1 hR1;have hFb2:Fb w2 F1:=hFb1.keeps k2;obtain ⟨hpq,hq⟩:=hX p hp (X p)[i] (List.getElem_mem hi);have hcd:d < r.least\/p < (X p)[i].1:=by
  unfold tk at hs;simp only [Bool.not_eq_true',Bool.and_eq_false_iff,decide_eq_false_iff_not,beq_eq_false_iff_ne] at hs;omega
 obtain ⟨hrm1,hrm2⟩:=ZkK (fun m h=>(hmm m h).1) (r:=r) (d + 1);have hnx:=Zpv (N:=C.u.size) (X:=X) (W:=W) hi hs;have hE0:CeI w2 F1 Eb 0 (.int .i64 ((X p)[i].1:Int)):=⟨by rw [Zc hb]; rfl,fun h=>by have:=hFb1 _ h; omega,lt_of_block hb⟩;have hE1:CeI w2 F1 Eb 1 (.slice av nv cv):=⟨by rw [Zc hb]; rfl,fun h=>by have:=hFb1 _ h; omega,lt_of_block hb⟩;have hcell :∀(wx:World) (Fx:Bs2),Lat w2 F1 wx Fx->(wx.cell? ⟨k.Gb,0,none⟩=some (.func (.func 114) #[] k.goOn)/\wx.cell? ⟨w.heap.size,0,none⟩=some (.int .i64 (d:Int))/\wx.cell? ⟨Eb,0,none⟩=some (.int .i64 ((X p)[i].1:Int))/\wx.cell? ⟨Eb,1,none⟩=some (.slice av nv cv)/\wx.cell? ⟨w.heap.size + 1,0,none⟩=some (.slice ag gs.length cg)):=by
  intro wx Fx lx;have h5:=(bg.later (l2.trans lx)).cell;rw [hgv] at h5;exact ⟨((hI.later l1).later (l2.trans lx)).g.1,(bd.later (l2.trans lx)).cell,(hE0.later lx).1,(hE1.later lx).1,h5⟩
 refine Zc0 (ρ := ρ.pin ((j,r.need (d + 1)),rr,c)) (room:=r.room (d + 1)) (j:=j) (n:=r.need (d + 1)) (c:=c) (p:=(X p)[i].1) hτ ha hR2 (by simp [Rx.pin]) (by omega) (by omega) (fun _ _=>by kernel_rfl) ?_ ?_
 ·intro hrm;have hseen:=Zqx (t:=ap (X p)[i].2) (Zqk hX (fun m h=>(hmm m h).2) ho.inn hpq hq hcd hdm hrm1 hrm);refine ⟨true,rfl,fun _=>⟨?_,c,M,T1,F1,Fr1,hEn.later l2,hM,hn,?_,t1.trans t2,?_,bd.later l2,bg.later l2⟩,fun h=>nomatch h⟩
  ·rw [hnx,Zar hc]; exact ZbP hseen
  ·rw [hnx,JO hc,ZcV hseen,List.append_nil]; exact hR2
  ·rw [hnx,JK,<- Zcq,Zch hseen,Q1]; exact ho
 ·intro hrm w3 Fr3 hR3 t3;have l3:Lat w2 F1 w3 F1:=t3.lat hF1;have hF3:=JA hτ ha hR3;have hFb3:Fb w3 F1:=Zbj hτ ha hFb2 t3 hR3;have hin:=ZsX (X:=X) (W:=W) (T:=T1) ho.inn hj hpq;have kd:Za N0_ w3 w3.drew:=(Za.refl _ _).drew;have hwl:Lat w F w3 F1:=(l1.trans l2).trans l3;have hsum:(out ++ Zae τ.stop V (agL C.u.size X r W d p ((X p).take i)) gs).length + tln τ.stop (sal V (agL C.u.size X r W d p ((X p).take i))) (bn (wg C.u.size X r (d + 1) (X p)[i].1) W)<=τ.cap:=by
   have h1:=hno;rw [ZiI (X p) (i + 1),hnx,List.append_assoc] at h1;obtain ⟨-,h2⟩:=Za5 out V _ _ gs τ.stop h1;have h3:=(Za5 _ _ _ _ gs τ.stop (h2 hc)).1;rw [Zkk] at h3;exact h3
  refine ZnM (fn:=114) (cap:=k.goOn) (R:=fun v wx=>Za N0_ w3 wx/\SpI wx F1 v (ap (X p)[i].2 gs)) (hcell w3.drew F1 (l3.drew)) (by omega) (fun _ _=>by kernel_rfl) ?_ ?_
  ·have hg3:=(hg.later hwl).later (Lat.ofKeeps (F:=F1) kd);have hsp3:=((hsp.later l2).later l3).later (Lat.ofKeeps (F:=F1) kd);rw [hgv] at hg3;rw [<- hgl] at hsp3;refine (Zlx (hFb3.keeps kd) hg3 hsp3 (by omega)).mono ?_;rintro x wx ⟨v,rfl,hv,hk⟩;obtain ⟨av',cv',rfl,-⟩:=id hv;exact ⟨_,_,_,rfl,⟨kd.trans hk,hv⟩,hcell wx F1 (l3.trans (Lat.ofKeeps (kd.trans hk)))⟩
  ·rintro av' nv' cv' wx ⟨hk,hv⟩;obtain ⟨hRx,tx⟩:=Qk hτ ha hR3 hk;have h1:=ih wx F1 (hwl.trans (Lat.ofKeeps hk)) (hFb3.keeps hk) _ ats τ _ _ _ Fr3 _ _ ha hm hτ hRx hv (by rw [Zgj]; exact hgl) hin hsum
   push_cast at h1
   refine h1.mono ?_;rintro e w4 ⟨rfl,T4,F4,Fr4,g1,g2,g3⟩;have hout:=ZrO hX (fun m h=>(hmm m h).2) ho.inn hj hpq hq hcd hdm g3;have l4:Lat w2 F1 w4 F4:=(l3.trans (Lat.ofKeeps hk)).trans (g2.lat hF3);have t4:Trn w F Fr w4 F4 Fr4:=(((t1.trans t2).trans t3).trans tx).trans g2;have e1 :∀L:Wn,(out ++ Zae τ.stop V (agL C.u.size X r W d p ((X p).take i)) gs) ++ Zae τ.stop (sal V (agL C.u.size X r W d p ((X p).take i))) L (ap (X p)[i].2 gs)=out ++ Zae τ.stop V (agL C.u.size X r W d p ((X p).take i) ++ pr (ap (X p)[i].2) L) gs:=by
    intro L;rw [JO hc,Zkj,List.append_assoc]
   rw [e1,<- hnx] at g1;have e2:JB τ.stop V (agL C.u.size X r W d p ((X p).take (i + 1)))=JB τ.stop (sal V (agL C.u.size X r W d p ((X p).take i))) (bn (wg C.u.size X r (d + 1) (X p)[i].1) W):=by rw [hnx,Zar hc,Zhn]
   have e3:QR τ.stop V (agL C.u.size X r W d p ((X p).take (i + 1)))=QR τ.stop (sal V (agL C.u.size X r W d p ((X p).take i))) (bn (wg C.u.size X r (d + 1) (X p)[i].1) W):=by rw [hnx,Zb6 hc,ZhZ]
   rw [<- e3,<- e2] at hout;refine ⟨_,rfl,⟨_,rfl,fun hcb=>?_,fun hcb=>?_⟩,hcell w4 F4 l4⟩
   ·rw [<- e2] at hcb;rw [if_pos hcb,Z8 hcb] at hout;have ll:=l2.trans l4;exact ⟨true,rfl,fun _=>⟨hcb,c,M,T4,F4,Fr4,hEn.later (l2.trans l4),hM,hn,g1,t4,ho.trans hout,bd.later (l2.trans l4),bg.later (l2.trans l4)⟩,fun h=>nomatch h⟩
   ·rw [<- e2] at hcb;rw [if_neg (by simp [hcb])] at hout;refine ⟨T4,_,F4,Fr4,g1,fun w5 Fr5 hR5 t5=>⟨false,rfl,(fun h=>nomatch h),fun _=>?_⟩⟩;have h5:ZaL C ρ ats τ X W j r b d p T V out (agL C.u.size X r W d p ((X p).take (i + 1))) gs w F Fr (.returned (.bool false)) w5:=⟨by rw [hcb],_,F4,Fr5,ZaR hR5,t4.trans t5,ho.trans hout⟩;rw [ZiI (X p) (i + 1)];exact h5.stop hcb _
theorem RcC.later {C:Cx} {w w':World} {F F':Bs2} {fn:Nat} {cap:Array Value} {X:Xs} {W:Wt} {j:Nat} {r:Rp} {b:Bo} {mine:List Rsc} {d p:Nat} {L:Wn} (h:RcC C w F fn cap X W j r b mine d p L) (l:Lat w F w' F'):RcC C w' F' fn cap X W j r b mine d p L :=
 fun w2 F2 l2=>h w2 F2 (l.trans l2)
theorem Zpt {C:Cx} {w:World} {F:Bs2} {k:Rb} {j:Nat} {r:Rp} {ty:TypeId} {y atv nx:Value} {X:Xs} {W:Wt} {b:Bo} {mine:List Rsc} {R:Rsc} {d p:Nat} (hX:Rng C.u.size X) (hp:p<=C.u.size) (hu:C.u.size<=200) (hj:¬ b.has j) (hmm :∀m,r.most=some m->m<=50/\r.least<=m) (hl50:r.least<=50) (hdm :∀m,r.most=some m->d<=m) (hd1:d<=900) (hG:C.G<=9) (hfew:(X p).length<=1000)
  (hI:RpI C w F k j r ty y atv nx) (hat:Zke C w F atv X R) (hRm:R∈mine)
  (ih:r.most≠some d->∀q,p<=q->q<=C.u.size->(d < r.least\/p < q)->RcC C w F 114 k.goOn X W j r b mine (d + 1) q (bn (wg C.u.size X r (d + 1) q) W)) :
  RcC C w F 109 k.again X W j r b mine d p (bn (wa C.u.size X r d p) W):=by
 intro w' F' l hFb ρ ats τ T V out Fr gv gs ha hm hτ hR hg hgl hin hno;have hI':=hI.later l;have hF0:=JA hτ ha hR;obtain ⟨ag,cg,hgv⟩ :∃ag cg,gv = .slice ag gs.length cg:=by obtain ⟨a,c,h,_⟩:=hg; exact ⟨a,c,h⟩
 by_cases hmd:r.most=some d
 ·have e:bn (wa C.u.size X r d p) W = []:=by unfold wa; rw [if_pos hmd]; rfl
  have c1:=hI'.n.c1;have hmv:Zaa r=(d:Int):=by unfold Zaa; rw [hmd]
  rw [hmv] at c1;rw [e,hgv];refine (ZkP c1 (lt_of_block hI'.n.1)).mono ?_;rintro e w2 ⟨rfl,hk⟩;obtain ⟨g1,g2⟩:=Qk hτ ha hR hk;refine ⟨by rw [Zbb],T,F',Fr,by rw [ZcE,List.append_nil]; exact g1,g2,?_⟩;rw [Z8 (Zbb _ _),Q1];exact hin.refl
 ·rw [Zrr hmd] at hno ⊢;obtain ⟨fat,capat,hfe,hcfa,hacall⟩:=hat.later l;have hne:¬ (d:Int)=Zaa r:=by
   unfold Zaa
   cases hc:r.most with
   | none=>simp only; omega
   | some m=>simp only; intro h; exact hmd (by rw [hc]; congr 1; omega)
  have hdm' :∀m,r.most=some m->d + 1<=m:=fun m h=>by
   have:=hdm m h
   have:m≠d:=fun h'=>hmd (h' ▸ h)
   omega
  have hcells :∀(w1:World) (F1:Bs2) (jx:Int) (bx tx:Value),Lat w' F' w1 F1->Se w1 C jx bx tx->w1.cell? ⟨w'.heap.size,0,none⟩=some (.int .i64 (d:Int))->
    (w1.cell? ⟨k.A,0,none⟩=some (.pointer (some ⟨C.X,0,none⟩))/\w1.cell? ⟨k.J,0,none⟩=some (.int .i64 (j:Int))/\w1.cell? ⟨C.X,3,none⟩=some (.map (some C.m))/\w1.cell? ⟨k.Nb,0,none⟩=some (.int .i64 (r.least:Int))/\w1.cell? ⟨k.Nb,1,none⟩=some (.int .i64 (Zaa r))/\w1.cell? ⟨k.Nb,2,none⟩=some (.bool r.lazy)/\w1.cell? ⟨k.Nb,3,none⟩=some (.iface ty y)/\w1.cell? ⟨w'.heap.size,0,none⟩=some (.int .i64 (d:Int))):=by
   intro w1 F1 jx bx tx l1 hS hb;have h1:=hI'.later l1;exact ⟨h1.a.1,h1.j.1,hS.c3,h1.n.c0,h1.n.c1,h1.n.c2,h1.n.c3,hb⟩
  have hnF :∀x,w'.heap.size<=x->¬ F' x:=fun x hx h=>by have:=hFb x h; omega
  rw [hgv];refine Zqr (X:=C.X) (m:=C.m) (nd:=r.need (d + 1)) (rm:=r.room (d + 1)) (l:=r.least) (mo:=Zaa r) (lz:=r.lazy) (ty:=ty) (y:=y) (j:=j) (fat:=fat) (capat:=capat)
   (R:=fun rr w2 =>∃c F2 Fr2,Run C (ρ.pin ((j,r.need (d + 1)),rr,c)) ats τ T out w2 F2 Fr2/\Trn w' F' Fr w2 F2 Fr2/\BxI w2 F2 w'.heap.size 3 (.int .i64 (d:Int))/\BxI w2 F2 (w'.heap.size + 1) 36 gv)
   (I:=fun rr ao n cp i wi=>AgI C ρ ats τ X W j r b d p T V out gv gs w' F' Fr rr ao n cp i wi) (by omega) hne hcfa ?_ ?_ ?_ ?_ ?_ ?_ ?_
  ·intro w1 k1 hb;exact hcells w1 F' _ _ _ (Lat.ofKeeps k1) (Qq (Qk hτ ha hR k1).1) hb.cell
  ·intro w1
   have:=ZdW (w:=w1) (r:=r) (t:=ty) (y:=y) (d:=d + 1) (by omega) (by omega)
   unfold rpV at this
   push_cast at this
   exact this
  ·intro w1
   have:=Zh7 (w:=w1) (r:=r) (t:=ty) (y:=y) (d:=d + 1) (fun m h=>⟨(hmm m h).1,hdm' m h⟩)
   unfold rpV at this
   push_cast at this
   exact this
  ·intro w1 k1 b1 b2;obtain ⟨g1,g2⟩:=Qk hτ ha hR k1;refine (Zb8 (j:=j) (n:=r.need (d + 1)) hτ ha g1).mono ?_;rintro e w2 ⟨rr,c,F2,Fr2,rfl,h1,h2⟩;have l2:Lat w1 F' w2 F2:=h2.lat hF0;have B1:BxI w2 F2 w'.heap.size 3 (.int .i64 (d:Int)):=(show BxI w1 F' _ _ _ from ⟨b1,hnF _ (Nat.le_refl _)⟩).later l2;have B2:BxI w2 F2 (w'.heap.size + 1) 36 gv:=(show BxI w1 F' _ _ _ from ⟨by rw [hgv]; exact b2,hnF _ (by omega)⟩).later l2;exact ⟨rr,rfl,⟨c,F2,Fr2,h1,g2.trans h2,B1,B2⟩,hcells w2 F2 _ _ _ ((Lat.ofKeeps k1).trans l2) (Qq h1) B1.cell⟩
  ·rintro rr w3 w4 ⟨c,F2,Fr2,h1,h2,B1,B2⟩ k4;have l2:Lat w' F' w3 F2:=h2.lat hF0;have l4:Lat w3 F2 w4 F2:=Lat.ofKeeps k4;obtain ⟨g1,g2⟩:=Qk hτ ha h1 k4;have hFb4:Fb w4 F2:=(Zbj hτ ha hFb h2 h1).keeps k4;have hca:=(hI'.later (l2.trans l4)).at_.1;rw [hfe] at hca;refine ⟨hca,?_⟩;obtain ⟨F4,hR4,hF4,hup⟩:=ZnE hτ ha (hm R hRm) g1;refine (hacall w4 F2 (l2.trans l4) hFb4 F4 p hR4 hp).mono ?_;rintro e w5 ⟨v,M,F5,Fr5,rfl,hR5,t5,hEn,hM⟩;obtain ⟨Fr6,g5,g6⟩:=hup w5 F5 Fr5 t5 hR5;obtain ⟨ao,cp,rfl⟩:=hEn.form;have hln:M.length=(X p).length:=by have:=congrArg List.length hM; simpa using this
   have l5:Lat w4 F2 w5 F5:=t5.lat hF4;refine ⟨ao,M.length,cp,rfl,by omega,?_⟩;show AgI C ρ ats τ X W j r b d p T V out gv gs w' F' Fr rr ao M.length cp 0 w5;have e0:agL C.u.size X r W d p ((X p).take 0) = []:=by simp [agL]
   refine ⟨by rw [e0,Zbb],c,M,T,F5,Fr6,hEn,hM,rfl,?_,(h2.trans g2).trans g6,?_,B1.later (l4.trans l5),B2.later (l4.trans l5)⟩
   ·rw [e0,ZcE,List.append_nil]; exact g5
   ·rw [e0,Q1]; exact hin.refl
  ·intro rr ao n cp i wi hA hin2;obtain ⟨hc,c,M,T1,F1,Fr1,hEn,hM,hn,hR1,t1,ho,bd,bg⟩:=id hA;have hln:M.length=(X p).length:=by have:=congrArg List.length hM; simpa using this
   have hi:i < (X p).length:=by omega
   have hiM:i < M.length:=by omega
   have hx:(M[i].1,M[i].2.1)=((X p)[i].1,ap (X p)[i].2 (noS C.G)):=by
    have h1:(M.map (fun x=>(x.1,x.2.1)))[i]? = ((X p).map (fun x=>(x.1,ap x.2 (noS C.G))))[i]?:=by rw [hM]
    rw [List.getElem?_map,List.getElem?_map,List.getElem?_eq_getElem hiM,List.getElem?_eq_getElem hi] at h1;simpa using h1
   obtain ⟨hx1,hx2⟩:=Prod.mk.inj hx;have l1:=t1.lat hF0;obtain ⟨hrow,hro⟩:=hEn.row (by omega);have hsp:=hEn.sp M[i] (List.getElem_mem hiM);rw [hx2] at hsp;obtain ⟨av,cv,hav,-⟩:=id hsp;rw [hav] at hsp;obtain ⟨g,rfl⟩ :∃g,ao=some ⟨g,0,none⟩:=by
    obtain ⟨m,hm2⟩ :∃m,M.length=m + 1:=⟨M.length - 1,by omega⟩;rw [hm2] at hrow;obtain ⟨g,c2,h5,_⟩:=ZQ hrow;simp only [Value.slice.injEq] at h5;exact ⟨g,h5.1⟩
   subst hn;have hI1:=hI'.later l1;refine ⟨g,(X p)[i].1,av,(ap (X p)[i].2 (noS C.G)).length,cv,rfl,?_,?_,hI1.n.c0,bd.cell,fun h1 h2 w2 k2=>?_,fun h1 w2 Eb k2 hEb hb=>?_⟩
   ·rw [hrow.cellAt (i * 2) (by omega),(Ziy M i hiM).1,hx1]
   ·rw [hrow.cellAt (i * 2 + 1) (by omega),(Ziy M i hiM).2,hav]
   ·have hs:tk r d p (X p)[i]=false:=by
     unfold tk;have a1:r.least<=d:=by omega
     have a2:(X p)[i].1=p:=by omega
     simp [a1,a2]
    exact (hA.skip hi hs).same hτ ha hFb k2
   ·have hs:tk r d p (X p)[i]=true:=by
     unfold tk;simp only [Bool.not_eq_true',Bool.and_eq_false_iff,decide_eq_false_iff_not,beq_eq_false_iff_ne];omega
    have hcd:d < r.least\/p < (X p)[i].1:=by
     have:=(hX p hp (X p)[i] (List.getElem_mem hi)).1
     omega
    obtain ⟨hpq,hq⟩:=hX p hp (X p)[i] (List.getElem_mem hi);exact Zps hX hp hu hj hmm hdm' hd1 hG hI' hFb hτ ha hm hF0 hg hgl hgv hi hs hno ((ih hmd _ hpq hq hcd).later l) hc hEn hM rfl hR1 t1 ho bd bg hsp k2 hEb hb
  ·rintro rr ao n cp wi ⟨hc,c,M,T1,F1,Fr1,hEn,hM,hn,hR1,t1,ho,bd,bg⟩;have hln:M.length=(X p).length:=by have:=congrArg List.length hM; simpa using this
   rw [hn,hln,List.take_length] at hc hR1 ho;exact ⟨by rw [hc],T1,F1,Fr1,ZaR hR1,t1,by rw [Z8 hc]; exact ho⟩
theorem Zr5 {C:Cx} {w:World} {F:Bs2} {k:Rb} {j:Nat} {r:Rp} {ty:TypeId} {y atv nx:Value} {X:Xs} {W:Wt} {b:Bo} {mine:List Rsc} {R:Rsc} (hX:Rng C.u.size X) (hu:C.u.size<=200) (hj:¬ b.has j) (hmm :∀m,r.most=some m->m<=50/\r.least<=m) (hl50:r.least<=50) (hG:C.G<=9) (hfew :∀p,p<=C.u.size->(X p).length<=1000)
  (hI:RpI C w F k j r ty y atv nx) (hat:Zke C w F atv X R) (hRm:R∈mine) (hnx:Qe C w F nx W (some b) mine) :
  ∀f d p,wgN C.u.size r d p<=f->p<=C.u.size->d<=r.least + p->(∀m,r.most=some m->d<=m)->RcC C w F 114 k.goOn X W j r b mine d p (bn (wg C.u.size X r d p) W):=by
 intro f
 induction f with
 | zero=>intro d p h hp; unfold wgN at h; omega
 | succ f ih =>
   intro d p h hp hd hdm;refine Zor hX hp hj hI hnx (Zpt hX hp hu hj hmm hl50 hdm (by omega) hG (hfew p hp) hI hat hRm ?_);intro hmd q hpq hq hc;refine ih (d + 1) q ?_ hq (by omega) (fun m hm=>?_)
   ·unfold wgN at *; omega
   ·have:=hdm m hm
    have:m≠d:=fun h'=>hmd (h' ▸ hm)
    omega
def Zbg (N:Nat) (j:Nat) (X:Xs) (r:Rp) (W:Wt) (b:Bo):Bo:=⟨b.j0,b.W0,(j,jwR N X r W) :: b.js⟩
theorem ZbF {N j:Nat} {X:Xs} {r:Rp} {W:Wt} {b:Bo} {T:Tt} {V:Vs} (h:Cls N (Zbg N j X r W b) T V):Cls N b T V/\ClJ N (j,jwR N X r W) T V :=
 ⟨⟨h.1,fun x hx=>h.2 x (by simp [Zbg,hx])⟩,h.2 _ (by simp [Zbg])⟩
theorem ZnF {N:Nat} {X:Xs} (hX:Rng N X) {r:Rp} (hm :∀m,r.most=some m->r.least<=m) {j p:Nat} {b:Bo} {T:Tt} {V:Vs} {W:Wt} (h:Cls N (Zbg N j X r W b) T V) (hp:p<=N) (hrm:0 < r.room 0) (hT:r.room 0<=T j (r.need 0) p) :∀y∈bn (wg N X r 0 p) W,V y.1=true:=by
 intro y hy;obtain ⟨z,hz,he⟩:=ZpT (W:=W) (Ziv hX r hm (d:=0) (fun _ _=>Nat.zero_le _) hT (by omega)) y hy;rw [<- he];exact (ZbF h).2 (r.need 0) p hp (by simp only; omega) z hz
theorem ZrQ {N:Nat} {X:Xs} {r:Rp} {j p rm:Nat} {b:Bo} {T:Tt} {V:Vs} {W:Wt} (h:Cls N (Zbg N j X r W b) T V) (hj:¬ b.has j):ZmY N j (jwR N X r W) r b 0 p (ZaM T j (r.need 0) p rm) V:=by
 refine ⟨Zck (ZbF h).1 hj,fun n x hx hO hne y hy=>?_⟩;have hne2:¬ (n=r.need 0/\x=p):=by
  rintro ⟨rfl,rfl⟩;exact hO (Or.inr ⟨rfl,Nat.le_refl _⟩)
 rw [Z1 T (by simp; intro h1 h2; exact hne2 ⟨h1,h2⟩)] at hne hy;exact (ZbF h).2 n x hx hne y hy
theorem Zqm {N:Nat} {X:Xs} (hX:Rng N X) {r:Rp} (hm :∀m,r.most=some m->r.least<=m) {j p:Nat} {b:Bo} {T T':Tt} {V:Vs} {W:Wt} {stop:Bool} (h:Cls N (Zbg N j X r W b) T V) (hj:¬ b.has j) (hp:p<=N)
  (hP:Zbz N j (jwR N X r W) r b 0 p (ZaM T j (r.need 0) p (r.room 0)) T' (QR stop V (bn (wg N X r 0 p) W))) :
  Pst N T (if JB stop V (bn (wg N X r 0 p) W) then T' else ZaM T' j (r.need 0) p (T j (r.need 0) p)) (QR stop V (bn (wg N X r 0 p) W)) (some (Zbg N j X r W b)):=by
 obtain ⟨g1,g2,g3,g4⟩:=hP;obtain ⟨h1,h2⟩:=ZbF h;have hT :∀n x,Op r 0 p n x->¬ (n=r.need 0/\x=p)->T' j n x=T j n x:=by
  intro n x hO hne;rw [g3 n x hO,Z1 T (by simp; intro h1 h2; exact hne ⟨h1,h2⟩)]
 have hT2:T' j (r.need 0) p=r.room 0:=by
  rw [g3 _ _ (Or.inr ⟨rfl,Nat.le_refl _⟩),Zag]
 have hou :∀a,¬ (Zbg N j X r W b).has a->¬ b.has a/\a≠j:=by
  intro a ha;refine ⟨fun h2=>ha (h2.imp id (fun ⟨x,hx,e⟩=>⟨x,by simp [Zbg,hx],e⟩)),fun e=>ha (Or.inr ⟨(j,jwR N X r W),by simp [Zbg],e.symm⟩)⟩
 cases hcc:JB stop V (bn (wg N X r 0 p) W) with
 | true =>
   rw [if_pos rfl];rw [Z8 hcc] at g1 g2 ⊢;refine ⟨⟨g1.1,fun x hx=>?_⟩,fun a ha=>?_⟩
   ·rcases List.mem_cons.1 hx with rfl | hx
    ·intro n x hx hne y hy;simp only at hne hy
     by_cases hO2:Op r 0 p n x
     ·by_cases hh:n=r.need 0/\x=p
      ·obtain ⟨rfl,rfl⟩:=hh;rw [hT2] at hy;unfold jwR at hy;rw [Ziu hX r hm (fun _ _=>Nat.zero_le _)] at hy;exact Zax hy
      ·rw [hT n x hO2 hh] at hne hy;exact Zaw _ _ _ (h2 n x hx hne y hy)
     ·exact g2 n x hx hO2 hne y hy
    ·exact g1.2 x hx
   ·obtain ⟨q1,q2⟩:=hou a ha;rw [g4 a q2 q1,Qj T q2]
 | false =>
   simp only [Bool.false_eq_true,if_false];rw [QB hcc] at g1 g2 ⊢;have g5:Cls N b (ZaM T' j (r.need 0) p (T j (r.need 0) p)) V:=Zck g1 hj;refine ⟨⟨g5.1,fun x hx=>?_⟩,fun a ha=>?_⟩
   ·rcases List.mem_cons.1 hx with rfl | hx
    ·intro n x hx hne y hy;simp only at hne hy
     by_cases hh:n=r.need 0/\x=p
     ·obtain ⟨rfl,rfl⟩:=hh;rw [Zag] at hne hy;exact h2 _ _ hx hne y hy
     ·rw [Z1 T' (by simp; intro h1 h2; exact hh ⟨h1,h2⟩)] at hne hy
      by_cases hO2:Op r 0 p n x
      ·rw [hT n x hO2 hh] at hne hy;exact h2 n x hx hne y hy
      ·exact g2 n x hx hO2 hne y hy
    ·exact g5.2 x hx
   ·obtain ⟨q1,q2⟩:=hou a ha;rw [Qj T' q2,g4 a q2 q1,Qj T q2]
theorem ZkL {C:Cx} {w:World} {F:Bs2} {k:Rb} {j:Nat} {r:Rp} {ty:TypeId} {y atv nx:Value} {X:Xs} {W:Wt} {b:Bo} {mine:List Rsc} {R:Rsc} (hX:Rng C.u.size X) (hu:C.u.size<=200) (hj:¬ b.has j) (hmm :∀m,r.most=some m->m<=50/\r.least<=m) (hl50:r.least<=50) (hG:C.G<=9) (hfew :∀p,p<=C.u.size->(X p).length<=1000)
  (hI:RpI C w F k j r ty y atv nx) (hat:Zke C w F atv X R) (hRm:R∈mine) (hnx:Qe C w F nx W (some b) mine) :
  Qe C w F (.func (.func 115) #[] #[.pointer (some ⟨k.A,0,none⟩),.pointer (some ⟨k.J,0,none⟩),.pointer (some ⟨k.Nb,0,none⟩),.pointer (some ⟨k.Gb,0,none⟩)]) (fun p=>bn (wg C.u.size X r 0 p) W) (some (Zbg C.u.size j X r W b)) mine:=by
 refine ⟨_,_,rfl,fun _ _=>by kernel_rfl,?_⟩;intro w' F' l hFb ρ ats τ T V out Fr p gv gs ha hm hτ hR hg hgl hp hP hno;have hI':=hI.later l;have hF0:=JA hτ ha hR;have hgo:RcC C w F 114 k.goOn X W j r b mine 0 p (bn (wg C.u.size X r 0 p) W):=Zr5 hX hu hj hmm hl50 hG hfew hI hat hRm hnx _ 0 p (Nat.le_refl _) hp (Nat.zero_le _) (fun _ _=>Nat.zero_le _);have hP':Cls C.u.size (Zbg C.u.size j X r W b) T V:=hP;obtain ⟨ag,cg,hgv⟩ :∃ag cg,gv = .slice ag gs.length cg:=by obtain ⟨a,c,h,_⟩:=hg; exact ⟨a,c,h⟩
 obtain ⟨hrm1,hrm2⟩:=ZkK (fun m h=>(hmm m h).1) (r:=r) 0;have hcells :∀(w1:World) (F1:Bs2) (jx:Int) (bx tx:Value),Lat w' F' w1 F1->Se w1 C jx bx tx->w1.cell? ⟨w'.heap.size,0,none⟩=some (.int .i64 (p:Int))->
   (w1.cell? ⟨k.A,0,none⟩=some (.pointer (some ⟨C.X,0,none⟩))/\w1.cell? ⟨k.J,0,none⟩=some (.int .i64 (j:Int))/\w1.cell? ⟨C.X,3,none⟩=some (.map (some C.m))/\w1.cell? ⟨k.Nb,0,none⟩=some (.int .i64 (r.least:Int))/\w1.cell? ⟨k.Nb,1,none⟩=some (.int .i64 (Zaa r))/\w1.cell? ⟨k.Nb,2,none⟩=some (.bool r.lazy)/\w1.cell? ⟨k.Nb,3,none⟩=some (.iface ty y)/\w1.cell? ⟨w'.heap.size,0,none⟩=some (.int .i64 (p:Int))):=by
  intro w1 F1 jx bx tx l1 hS hb;have h1:=hI'.later l1;exact ⟨h1.a.1,h1.j.1,hS.c3,h1.n.c0,h1.n.c1,h1.n.c2,h1.n.c3,hb⟩
 have hnF :∀x,w'.heap.size<=x->¬ F' x:=fun x hx h=>by have:=hFb x h; omega
 rw [hgv];refine Zqq (X:=C.X) (m:=C.m) (nd:=r.need 0) (rm:=r.room 0) (l:=r.least) (mo:=Zaa r) (lz:=r.lazy) (ty:=ty) (y:=y) (j:=j)
  (R:=fun rr w2 =>∃c F2 Fr2,Run C (ρ.pin ((j,r.need 0),rr,c)) ats τ T out w2 F2 Fr2/\Trn w' F' Fr w2 F2 Fr2/\BxI w2 F2 w'.heap.size 3 (.int .i64 (p:Int))/\BxI w2 F2 (w'.heap.size + 1) 36 gv) ?_ ?_ ?_ ?_ ?_
 ·intro w1 k1 hb;exact hcells w1 F' _ _ _ (Lat.ofKeeps k1) (Qq (Qk hτ ha hR k1).1) hb.cell
 ·intro w1
  have:=ZdW (w:=w1) (r:=r) (t:=ty) (y:=y) (d:=0) (by omega) (by omega)
  exact this
 ·intro w1
  have:=Zh7 (w:=w1) (r:=r) (t:=ty) (y:=y) (d:=0) (fun m h=>⟨(hmm m h).1,Nat.zero_le _⟩)
  exact this
 ·intro w1 k1 b1 b2;obtain ⟨g1,g2⟩:=Qk hτ ha hR k1;refine (Zb8 (j:=j) (n:=r.need 0) hτ ha g1).mono ?_;rintro e w2 ⟨rr,c,F2,Fr2,rfl,h1,h2⟩;have l2:Lat w1 F' w2 F2:=h2.lat hF0;have B1:BxI w2 F2 w'.heap.size 3 (.int .i64 (p:Int)):=(show BxI w1 F' _ _ _ from ⟨b1,hnF _ (Nat.le_refl _)⟩).later l2;have B2:BxI w2 F2 (w'.heap.size + 1) 36 gv:=(show BxI w1 F' _ _ _ from ⟨by rw [hgv]; exact b2,hnF _ (by omega)⟩).later l2;exact ⟨rr,rfl,⟨c,F2,Fr2,h1,g2.trans h2,B1,B2⟩,hcells w2 F2 _ _ _ ((Lat.ofKeeps k1).trans l2) (Qq h1) B1.cell⟩
 ·rintro rr w2 w3 ⟨c,F2,Fr2,h1,h2,B1,B2⟩ k3;have l2:Lat w' F' w2 F2:=h2.lat hF0;have l3:Lat w2 F2 w3 F2:=Lat.ofKeeps k3;obtain ⟨hR3,t3⟩:=Qk hτ ha h1 k3;have hF3:=JA hτ ha hR3;have hFb3:Fb w3 F2:=(Zbj hτ ha hFb h2 h1).keeps k3;have t03:Trn w' F' Fr w3 F2 Fr2:=h2.trans t3;have hcl :∀(wx:World) (Fx:Bs2) (jx:Int) (bx tx:Value),Lat w3 F2 wx Fx->Se wx C jx bx tx->_:=fun wx Fx jx bx tx lx hS=>hcells wx Fx jx bx tx ((l2.trans l3).trans lx) hS (B1.later (l3.trans lx)).cell;refine Zc0 (ρ := ρ.pin ((j,r.need 0),rr,c)) (room:=r.room 0) (j:=j) (n:=r.need 0) (c:=c) (p:=p) hτ ha hR3 (by simp [Rx.pin]) (by omega) (by omega) (fun _ _=>by kernel_rfl) ?_ ?_
  ·intro hrm;have hs:=ZnF hX (fun m h=>(hmm m h).2) hP' hp hrm1 hrm;refine ⟨true,rfl,⟨by rw [ZbP hs],T,F2,Fr2,?_,t03,Pst.seen (j:=j) (p:=p) (W:=W) (B:=none) hP' hs⟩,hcl w3 F2 _ _ _ (Lat.refl _ _) (Qq hR3)⟩;rw [ZcV hs,List.append_nil];exact ZaR hR3
  ·intro hrm w4 Fr4 hR4 t4;have l4:Lat w3 F2 w4 F2:=t4.lat hF3;have hF4:=JA hτ ha hR4;have hFb4:Fb w4 F2:=Zbj hτ ha hFb3 t4 hR4;have lw:Lat w' F' w4 F2:=(l2.trans l3).trans l4;have c3:=(B2.later (l3.trans l4)).cell;rw [hgv] at c3;have hst:=hgo w4 F2 (l.trans lw) hFb4 (ρ.pin ((j,r.need 0),rr,c)) ats τ _ V out Fr4 gv gs ha hm hτ hR4 (hg.later lw) hgl (ZrQ (X:=X) (W:=W) hP' hj) hno;rw [hgv] at hst;refine ZnK (fn:=114) (cap:=k.goOn) (hI'.later lw).g.1 (B1.later (l3.trans l4)).cell c3 (fun _ _=>by kernel_rfl) ?_;refine Calls.mono hst ?_;rintro e w5 ⟨rfl,T5,F5,Fr5,g1,g2,g3⟩;have hout:=Zqm hX (fun m h=>(hmm m h).2) hP' hj hp g3;have l5:Lat w4 F2 w5 F5:=g2.lat hF4;have hF5:=JA hτ ha g1;refine ⟨_,rfl,_,rfl,fun hc=>?_,fun hc=>?_⟩
   ·rw [if_pos hc] at hout;exact ⟨true,rfl,⟨by rw [hc],T5,F5,Fr5,ZaR g1,(t03.trans t4).trans g2,hout⟩,hcl w5 F5 _ _ _ (l4.trans l5) (Qq g1)⟩
   ·rw [if_neg (by simp [hc])] at hout;refine ⟨T5,_,F5,Fr5,g1,fun w6 Fr6 hR6 t6=>?_⟩;exact ⟨false,rfl,⟨by rw [hc],_,F5,Fr6,ZaR hR6,((t03.trans t4).trans g2).trans t6,hout⟩,hcl w6 F5 _ _ _ ((l4.trans l5).trans (t6.lat hF5)) (Qq hR6)⟩
theorem ZnH {C:Cx} {w:World} {F:Bs2} {k:Rb} {j:Nat} {r:Rp} {ty:TypeId} {y atv nx:Value} {X:Xs} {W:Wt} {b:Bo} {mine:List Rsc} {R:Rsc} (hX:Rng C.u.size X) (hu:C.u.size<=200) (hj:¬ b.has j) (hmm :∀m,r.most=some m->m<=50/\r.least<=m) (hl50:r.least<=50) (hG:C.G<=9) (hfew :∀p,p<=C.u.size->(X p).length<=1000)
  (hI:RpI C w F k j r ty y atv nx) (hat:Zke C w F atv X R) (hRm:R∈mine) (hnx:Qe C w F nx W (some b) mine) :
  Qe C w F (.func (.func 115) #[] #[.pointer (some ⟨k.A,0,none⟩),.pointer (some ⟨k.J,0,none⟩),.pointer (some ⟨k.Nb,0,none⟩),.pointer (some ⟨k.Gb,0,none⟩)]) (fun p=>bn (ZkM C.u.size r X p) W) (some (Zbg C.u.size j X r W b)) mine :=
 (ZkL hX hu hj hmm hl50 hG hfew hI hat hRm hnx).alk (fun p hp=>(Zso hX r hmm p hp W).symm)
end Go.Proofs.YtfkflljplohhcaaGreatDoor
