import Derived.Test.YthkmmeamplmnhaaGreatDb
import Derived.Test.YthkmmeamplmnhaaGreatC
import Derived.Test.YthkmmeamplmnhaaGreatFa
import Derived.Test.YthkmmeamplmnhaaGreatMa
import Derived.Deep.RegionHeld3
import Derived.Deep.Cut
import Derived.Deep.CutRange
import Derived.Deep.DeepCutAuto
import Derived.Deep.CutBlock
import Derived.Test.YthkmmeamplmnhaaGreatDd
import Derived.Test.YthkmmeamplmnhaaGreatNa
import Derived.ProofKit
import Derived.OpenShut
import Derived.Carry
namespace Go.Proofs.YthkmmeamplmnhaaGreat
set_option linter.unusedVariables false
def SayM (M:Pf→Prop) (k:Sh) (d g:Nat) (l:List Nat) (g':Nat):Prop :=∀(s:ByteArray) (p D:Nat),AtB s p l→d≤D→g≤9→p + l.length≤s.size→
 match k with
 | .atom =>∃f,atomRef (altD s D) (roomD D) s p (9 - g) = .ok (f,p + l.length,9 - g')∧M f
 | .seq=>free4 (bt s (p + l.length))→∃(fs':List Pf) (n:Nat),n≤l.length∧(∀f∈fs',M f)∧∀fu fs,seqLoop (altD s D) (roomD D) s (fu + n) p (9 - g) fs=seqLoop (altD s D) (roomD D) s fu (p + l.length) (9 - g') (fs ++ fs')
 | .pat=>(bt s (p + l.length)=256∨bt s (p + l.length)=41)→(∃f,altOf (altD s D) (roomD D) s p (9 - g) = .ok (f,p + l.length,9 - g')∧M f)∧
   ∀fu fs r,p=r + 1→bt s r=124→l.length + 2≤fu→(∀f∈fs,M f)→∃fs',altLoop (altD s D) (roomD D) s fu r (9 - g) fs = .ok (fs',p + l.length,9 - g')∧∀f∈fs',M f
structure ClM (M:Pf→Prop):Prop where
 set :∀S,M (setPf S)
 seq :∀fs,(∀f∈fs,M f)→M (seqPf fs)
 alt :∀fs,(∀f∈fs,M f)→M (altPf fs)
 rep :∀f a b lz,M f→M (repPf a b lz f)
 grp :∀n f,M f→M (grpPf n f)
theorem vatom_set {alt:Nat→Nat→Rd3} {room:Bool} {s:ByteArray} {p g q g':Nat} {f:Pf} (h1:bt s p≠40) (h2:bt s p≠94) (h3:bt s p≠36) (h:atomRef alt room s p g = .ok (f,q,g')) :∃S,f=setPf S:=by
 unfold atomRef at h
 rw [if_neg h1] at h
 split at h
 ·split at h
  ·simp at h
  ·simp only [Except.ok.injEq,Prod.mk.injEq] at h
   exact ⟨_,h.1.symm⟩
 ·split at h
  ·simp only [Except.ok.injEq,Prod.mk.injEq] at h
   exact ⟨_,h.1.symm⟩
  ·split at h
   ·split at h
    ·simp at h
    ·simp only [Except.ok.injEq,Prod.mk.injEq] at h
     exact ⟨_,h.1.symm⟩
   ·split at h
    ·simp at h
    ·simp only [Except.ok.injEq,Prod.mk.injEq] at h
     exact ⟨_,h.1.symm⟩
theorem fix_head {l:List Nat} (h:l∈fixT true) :∃c r,l=c :: r∧c≠40∧c≠94∧c≠36:=by
 simp only [fixT,List.mem_append,List.mem_cons,List.not_mem_nil,or_false,if_true] at h
 rcases h with rfl | rfl | rfl | rfl | rfl | rfl | rfl | rfl | rfl | rfl | rfl | rfl | rfl | rfl | rfl | rfl | rfl | rfl | rfl | rfl | rfl | rfl | rfl <;> exact ⟨_,_,rfl,by decide,by decide,by decide⟩
theorem snoc_all {M:Pf→Prop} {fs:List Pf} {f:Pf} (h :∀g∈fs,M g) (hf:M f) :∀g∈fs ++ [f],M g:=fun g hg=>by
 rcases List.mem_append.1 hg with h1 | h1
 ·exact h g h1
 ·simp at h1; subst h1; exact hf
theorem sayM_all {M:Pf→Prop} (hM:ClM M) {k:Sh} {d g g':Nat} {l:List Nat} (h:Dr true k d g l g'):SayM M k d g l g':=by
 induction h with
 | @fix d g l hl =>
   intro s p D hA hD hg hp
   simp only
   obtain ⟨c,r,hcr,n1,n2,n3⟩:=fix_head hl
   obtain ⟨f,hf⟩:=atom_fix (alt:=altD s D) (room:=roomD D) (g:=9 - g) (by
    unfold fixT at hl ⊢
    simp only [if_true,List.append_nil] at hl
    exact List.mem_append_left _ hl) hA
   have hc:bt s p=c:=by rw [hcr] at hA; exact hA.head
   obtain ⟨S,rfl⟩:=vatom_set (by rw [hc]; exact n1) (by rw [hc]; exact n2) (by rw [hc]; exact n3) hf
   exact ⟨_,hf,hM.set S⟩
 | @grp d g g' y hy ih =>
   intro s p D hA hD hg hp
   simp only
   obtain ⟨D',rfl⟩ :∃D',D=D' + 1:=⟨D - 1,by omega⟩
   have hl:(40 :: (y ++ [41])).length=y.length + 2:=by simp
   rw [hl] at hp ⊢
   have h1:=hA.head
   have h2:=hA.tail
   have h3:=h2.right.head
   obtain ⟨⟨f,hf,mf⟩,-⟩:=ih s (p + 1) D' h2.left (by omega) (by omega) (by omega) (Or.inr h3)
   refine ⟨grpPf (((9 - (g + 1):Nat):Int) + 1) f,?_,hM.grp _ _ mf⟩
   unfold atomRef
   rw [if_pos h1,if_neg (by simp [roomD]; omega)]
   have e:altD s (D' + 1) (p + 1) (9 - (g + 1) + 1) = .ok (f,p + 1 + y.length,9 - g'):=by
    show altRef s D' (p + 1) (9 - (g + 1) + 1) = _
    rw [altRef_D,show 9 - (g + 1) + 1=9 - g by omega]
    exact hf
   rw [e]
   simp only
   rw [if_pos h3,show p + 1 + y.length + 1=p + (y.length + 2) by omega]
 | nil =>
   intro s p D hA hD hg hp
   exact fun _=>⟨[],0,by simp,by simp,fun fu fs=>by simp⟩
 | @bare d g g1 g2 t x ht hx iht ihx =>
   intro s p D hA hD hg hp hfr
   rw [List.length_append] at hp hfr ⊢
   have hg1:=dr_le ht
   rcases dr_first hx with ⟨_,c,r,hxc,c1,c2,c3,c4⟩ | hno
   ·have hc:bt s (p + t.length)=c:=by have:=hA.right; rw [hxc] at this; exact this.head
    obtain ⟨fs',n,hn,mfs,hs⟩:=iht s p D hA.left hD hg (by omega) (by rw [hc]; exact c4)
    obtain ⟨f,hf,mf⟩:=ihx s (p + t.length) D hA.right hD (by omega) (by omega)
    have hxl:0 < x.length:=by rw [hxc]; simp
    refine ⟨fs' ++ [f],n + 1,by omega,snoc_all mfs mf,fun fu fs=>?_⟩
    rw [show fu + (n + 1)=(fu + 1) + n by omega,hs,seq_step (f:=f) (q:=p + (t.length + x.length)) (g':=9 - g2) (by omega) (by omega) (by omega) ?_,List.append_assoc]
    unfold pieceRef
    rw [hf]
    simp only
    rw [cnt_free (by rw [Nat.add_assoc]; exact hfr),Nat.add_assoc]
   ·exact absurd rfl hno
 | @cnt d g g1 g2 t x q ht hx hq iht ihx =>
   intro s p D hA hD hg hp hfr
   rw [List.length_append,List.length_append] at hp hfr ⊢
   have hg1:=dr_le ht
   rcases dr_first hx with ⟨_,c,r,hxc,c1,c2,c3,c4⟩ | hno
   ·have hc:bt s (p + t.length)=c:=by have:=hA.right.left; rw [hxc] at this; exact this.head
    obtain ⟨fs',n,hn,mfs,hs⟩:=iht s p D hA.left hD hg (by omega) (by rw [hc]; exact c4)
    obtain ⟨f,hf,mf⟩:=ihx s (p + t.length) D hA.right.left hD (by omega) (by omega)
    obtain ⟨lo,hi,hcn⟩:=cnt_qua hq hA.right.right
    have hxl:0 < x.length:=by rw [hxc]; simp
    refine ⟨fs' ++ [repPf lo hi false f],n + 1,by omega,snoc_all mfs (hM.rep _ _ _ _ mf),fun fu fs=>?_⟩
    rw [show fu + (n + 1)=(fu + 1) + n by omega,hs,seq_step (f:=repPf lo hi false f) (q:=p + (t.length + (x.length + q.length))) (g':=9 - g2) (by omega) (by omega) (by omega) ?_,List.append_assoc]
    unfold pieceRef
    rw [hf]
    simp only
    rw [hcn]
    simp only
    have e:p + t.length + x.length + q.length=p + (t.length + (x.length + q.length)):=by omega
    rw [e,if_neg hfr.2.2.1]
   ·exact absurd rfl hno
 | @lzy d g g1 g2 t x q ht hx hq iht ihx =>
   intro s p D hA hD hg hp hfr
   rw [List.length_append,List.length_append,List.length_append] at hp hfr ⊢
   simp only [List.length_cons,List.length_nil] at hp hfr ⊢
   have hg1:=dr_le ht
   rcases dr_first hx with ⟨_,c,r,hxc,c1,c2,c3,c4⟩ | hno
   ·have hc:bt s (p + t.length)=c:=by have:=hA.right.left; rw [hxc] at this; exact this.head
    obtain ⟨fs',n,hn,mfs,hs⟩:=iht s p D hA.left hD hg (by omega) (by rw [hc]; exact c4)
    obtain ⟨f,hf,mf⟩:=ihx s (p + t.length) D hA.right.left hD (by omega) (by omega)
    obtain ⟨lo,hi,hcn⟩:=cnt_qua hq hA.right.right.left
    have h63:=hA.right.right.right.head
    have hxl:0 < x.length:=by rw [hxc]; simp
    refine ⟨fs' ++ [repPf lo hi true f],n + 1,by omega,snoc_all mfs (hM.rep _ _ _ _ mf),fun fu fs=>?_⟩
    rw [show fu + (n + 1)=(fu + 1) + n by omega,hs,seq_step (f:=repPf lo hi true f) (q:=p + (t.length + (x.length + (q.length + (0 + 1))))) (g':=9 - g2) (by omega) (by omega) (by omega) ?_,List.append_assoc]
    unfold pieceRef
    rw [hf]
    simp only
    rw [hcn]
    simp only
    rw [if_pos h63]
    congr 3
    omega
   ·exact absurd rfl hno
 | @one d g g' t ht iht =>
   intro s p D hA hD hg hp hst
   have hst3:stop3 (bt s (p + t.length)):=by unfold stop3; omega
   obtain ⟨fs',n,hn,mfs,hs⟩:=iht s p D hA hD hg hp (stop_free hst3)
   have hr:=seq_ref hp hn hst3 hs
   refine ⟨⟨seqPf fs',?_,hM.seq _ mfs⟩,fun fu fs r hpr hb hfu mf=>?_⟩
   ·unfold altOf
    rw [hr]
    simp only
    rw [if_neg (by omega)]
   ·obtain ⟨m,rfl⟩ :∃m,fu=m + 2:=⟨fu - 2,by omega⟩
    subst hpr
    refine ⟨fs ++ [seqPf fs'],?_,snoc_all mf (hM.seq _ mfs)⟩
    simp only [altLoop]
    rw [if_pos hb,hr]
    simp only
    rw [if_neg (by omega)]
 | @bar d g g1 g2 t y ht hy iht ihy =>
   intro s p D hA hD hg hp hst
   rw [List.length_append,List.length_cons] at hp hst ⊢
   have hg1:=dr_le ht
   have h124:=hA.right.head
   have hst3:stop3 (bt s (p + t.length)):=by unfold stop3; omega
   obtain ⟨fs',n,hn,mfs,hs⟩:=iht s p D hA.left hD hg (by omega) (stop_free hst3)
   have hr:=seq_ref (by omega) hn hst3 hs
   have e:p + t.length + 1 + y.length=p + (t.length + (y.length + 1)):=by omega
   obtain ⟨-,hB⟩:=ihy s (p + t.length + 1) D hA.right.tail hD (by omega) (by omega) (by rw [e]; exact hst)
   refine ⟨?_,fun fu fs r hpr hb hfu mf=>?_⟩
   ·obtain ⟨fs2,h2,m2⟩:=hB (s.size + 1) [seqPf fs'] (p + t.length) rfl h124 (by omega) (fun f hf=>by simp at hf; subst hf; exact hM.seq _ mfs)
    refine ⟨altPf fs2,?_,hM.alt _ m2⟩
    unfold altOf
    rw [hr]
    simp only
    rw [if_pos h124,h2]
    simp only
    rw [e]
   ·obtain ⟨m,rfl⟩ :∃m,fu=m + 1:=⟨fu - 1,by omega⟩
    subst hpr
    obtain ⟨fs2,h2,m2⟩:=hB m (fs ++ [seqPf fs']) (r + 1 + t.length) rfl h124 (by omega) (snoc_all mf (hM.seq _ mfs))
    refine ⟨fs2,?_,m2⟩
    simp only [altLoop]
    rw [if_pos hb,hr]
    simp only
    rw [h2,e]
theorem dr_readM {M:Pf→Prop} (hM:ClM M) {s:ByteArray} {g':Nat} (h:Dr true .pat 3 9 (bl s) g') (hs:s.size≤120) :∃f,altRef s 6 0 0 = .ok (f,s.size,9 - g')∧M f:=by
 obtain ⟨⟨f,hf,mf⟩,-⟩:=sayM_all hM h s 0 6 (atB_self s) (by decide) (Nat.le_refl _) (by rw [bl_len]; omega) (Or.inl (by rw [bl_len]; exact bt_out (by omega)))
 refine ⟨f,?_,mf⟩
 rw [altRef_D,hf,bl_len,Nat.zero_add]
def cutE (i:Nat) (L:En):En:=L.filter fun e=>decide (e.1≤i)
theorem cutE_append (i:Nat) (L M:En):cutE i (L ++ M)=cutE i L ++ cutE i M:=by simp [cutE]
theorem cutE_none {i:Nat} {L:En} (h :∀e∈L,i < e.1):cutE i L = []:=by
 unfold cutE
 rw [List.filter_eq_nil_iff]
 intro e he
 have:=h e he
 simp
 omega
theorem cutE_beh (i:Nat) (e:Nat×Ef) (L:En):cutE i (beh e L)=beh e (cutE i L):=by
 unfold cutE beh
 rw [List.filter_map]
 rfl
theorem cutE_flat {α:Type} (i:Nat) (L:List α) (F : α→En):cutE i (L.flatMap F)=L.flatMap fun a=>cutE i (F a):=by
 induction L with
 | nil=>rfl
 | cons a L ih=>rw [List.flatMap_cons,cutE_append,ih,List.flatMap_cons]
theorem cutE_dd {i:Nat} :∀(L:En) (s t:Vs),(∀x,x≤i→s x=t x)→cutE i (dd s L)=dd t (cutE i L):=by
 intro L
 induction L with
 | nil=>intro s t _; rfl
 | cons e L ih =>
   intro s t h
   by_cases he:e.1≤i
   ·have hc:cutE i (e :: L)=e :: cutE i L:=by unfold cutE; rw [List.filter_cons]; simp [he]
    rw [hc]
    cases hs:s e.1 with
    | true=>rw [dd_cons_seen hs,dd_cons_seen (by rw [← h _ he]; exact hs),ih s t h]
    | false =>
      rw [dd_cons_new hs,dd_cons_new (by rw [← h _ he]; exact hs)]
      have hc2:cutE i (e :: dd (sad s e.1) L)=e :: cutE i (dd (sad s e.1) L):=by unfold cutE; rw [List.filter_cons]; simp [he]
      rw [hc2,ih (sad s e.1) (sad t e.1) (fun x hx=>by simp [sad,h x hx])]
   ·have hc:cutE i (e :: L)=cutE i L:=by unfold cutE; rw [List.filter_cons]; simp [he]
    rw [hc]
    cases hs:s e.1 with
    | true=>rw [dd_cons_seen hs,ih s t h]
    | false =>
      rw [dd_cons_new hs]
      have hc2:cutE i (e :: dd (sad s e.1) L)=cutE i (dd (sad s e.1) L):=by unfold cutE; rw [List.filter_cons]; simp [he]
      rw [hc2,ih (sad s e.1) t (fun x hx=>by
       have hne:¬ x=e.1:=by omega
       simp [sad,h x hx,hne])]
def TrX (i:Nat) (X Y:Xs):Prop :=∀p,p≤i→Y p=cutE i (X p)
theorem tr_bnd {N i:Nat} {X Y:Xs} (hX:Rng N X) (h:TrX i X Y) :∀(L:En),(∀e∈L,e.1≤N)→cutE i (bnd L X)=bnd (cutE i L) Y:=by
 intro L
 induction L with
 | nil=>intro _; rfl
 | cons e L ih =>
   intro hL
   rw [bnd_cons,cutE_append,ih (fun a ha=>hL a (by simp [ha])),cutE_beh]
   by_cases he:e.1≤i
   ·have hc:cutE i (e :: L)=e :: cutE i L:=by unfold cutE; rw [List.filter_cons]; simp [he]
    rw [hc,bnd_cons,h _ he]
   ·have hc:cutE i (e :: L)=cutE i L:=by unfold cutE; rw [List.filter_cons]; simp [he]
    rw [hc,cutE_none (fun a ha=>by have:=(hX _ (hL e (by simp)) a ha).1; omega)]
    rfl
inductive Trs (N i:Nat):List Xs→List Xs→Prop where
 | nil:Trs N i [] []
 | cons {X Y:Xs} {l m:List Xs}:Rng N X∧TrX i X Y→Trs N i l m→Trs N i (X :: l) (Y :: m)
theorem tr_thns {N i:Nat} :∀(l m:List Xs),Trs N i l m→∀(L:En),(∀e∈L,e.1≤N)→cutE i (thns L l)=thns (cutE i L) m:=by
 intro l m h
 induction h with
 | nil=>intro L _; rfl
 | @cons X Y l m hXY _ ih =>
   intro L hL
   show cutE i (thns (thn L X) l)=thns (thn (cutE i L) Y) m
   have h1:cutE i (thn L X)=thn (cutE i L) Y:=by
    unfold thn
    rw [cutE_dd _ _ sno (fun _ _=>rfl),tr_bnd hXY.1 hXY.2 L hL]
   rw [ih,h1]
   intro e he
   have h2:=(dd_sub e he).1
   unfold bnd at h2
   rw [List.mem_flatMap] at h2
   obtain ⟨a,ha,hb⟩:=h2
   unfold beh at hb
   rw [List.mem_map] at hb
   obtain ⟨b,hb,rfl⟩:=hb
   exact (hXY.1 _ (hL a ha) b hb).2
theorem tr_seq {N i:Nat} (hi:i≤N) {l m:List Xs} (h:Trs N i l m):TrX i (seqX l) (seqX m):=by
 intro p hp
 unfold seqX
 rw [tr_thns l m h _ (by simp; omega)]
 simp [cutE,hp]
theorem tr_alt {N i:Nat} {l m:List Xs} (h:Trs N i l m):TrX i (altX l) (altX m):=by
 intro p hp
 unfold altX
 rw [cutE_dd _ _ sno (fun _ _=>rfl),cutE_flat]
 congr 1
 induction h with
 | nil=>rfl
 | cons hXY _ ih=>rw [List.flatMap_cons,List.flatMap_cons,ih,hXY.2 p hp]
theorem tr_grp {i n:Nat} {X Y:Xs} (h:TrX i X Y):TrX i (grpX n X) (grpX n Y):=by
 intro p hp
 unfold grpX
 rw [h p hp]
 unfold cutE
 rw [List.filter_map]
 rfl
theorem fuF_ge {N:Nat} {X:Xs} (hX:Rng N X) (lz:Bool) (f:Nat) :∀left p,p≤N→∀e∈fuF X lz f left p,p≤e.1∧e.1≤N:=by
 induction f with
 | zero=>intro left p hp e he; simp [fuF] at he
 | succ f ih =>
   intro left p hp e he
   have hmore :∀e∈(if left=0 then [] else ((X p).filter fun e=>decide (p < e.1)).flatMap fun e=>beh e (fuF X lz f (less left) e.1)),p≤e.1∧e.1≤N:=by
    intro e he
    split at he
    ·simp at he
    ·rw [List.mem_flatMap] at he
     obtain ⟨a,ha,he⟩:=he
     rw [List.mem_filter] at ha
     have h1:=hX p hp a ha.1
     unfold beh at he
     rw [List.mem_map] at he
     obtain ⟨b,hb,rfl⟩:=he
     have:=ih _ _ h1.2 b hb
     simp only
     omega
   rw [fuF] at he
   cases lz with
   | true =>
     simp only [if_true] at he
     rcases List.mem_cons.1 he with rfl | he
     ·exact ⟨Nat.le_refl _,hp⟩
     ·exact hmore e he
   | false =>
     simp only [Bool.false_eq_true,if_false] at he
     rcases List.mem_append.1 he with he | he
     ·exact hmore e he
     ·simp at he; subst he; exact ⟨Nat.le_refl _,hp⟩
theorem tr_fuF {N i:Nat} {X Y:Xs} (hi:i≤N) (hX:Rng N X) (h:TrX i X Y) (lz:Bool) :∀(f f' left p:Nat),p≤i→N + 1≤p + f→i + 1≤p + f'→cutE i (fuF X lz f left p)=fuF Y lz f' left p:=by
 intro f
 induction f with
 | zero=>intro f' left p hp hf _; omega
 | succ f ih =>
   intro f' left p hp hf hf'
   obtain ⟨m,rfl⟩ :∃m,f'=m + 1:=⟨f' - 1,by omega⟩
   have hmore:cutE i (if left=0 then [] else ((X p).filter fun e=>decide (p < e.1)).flatMap fun e=>beh e (fuF X lz f (less left) e.1))=(if left=0 then [] else ((Y p).filter fun e=>decide (p < e.1)).flatMap fun e=>beh e (fuF Y lz m (less left) e.1)):=by
    split
    ·rfl
    ·rw [cutE_flat,h p hp]
     have hin :∀e∈X p,p≤e.1∧e.1≤N:=hX p (by omega)
     generalize X p=L at hin
     induction L with
     | nil=>rfl
     | cons e L ihL =>
       have hL:=ihL (fun a ha=>hin a (by simp [ha]))
       have he0:=hin e (by simp)
       by_cases hlt:p < e.1
       ·have c1:(e :: L).filter (fun e=>decide (p < e.1))=e :: L.filter (fun e=>decide (p < e.1)):=by rw [List.filter_cons]; simp [hlt]
        rw [c1,List.flatMap_cons,hL,cutE_beh]
        by_cases he:e.1≤i
        ·have hc:cutE i (e :: L)=e :: cutE i L:=by unfold cutE; rw [List.filter_cons]; simp [he]
         have c2:(e :: cutE i L).filter (fun e=>decide (p < e.1))=e :: (cutE i L).filter (fun e=>decide (p < e.1)):=by rw [List.filter_cons]; simp [hlt]
         rw [hc,c2,List.flatMap_cons,ih m _ _ he (by omega) (by omega)]
        ·have hc:cutE i (e :: L)=cutE i L:=by unfold cutE; rw [List.filter_cons]; simp [he]
         rw [hc,cutE_none (fun a ha=>?_)]
         ·rfl
         ·have:=fuF_ge hX lz f (less left) e.1 he0.2 a ha
          omega
       ·have c1:(e :: L).filter (fun e=>decide (p < e.1))=L.filter (fun e=>decide (p < e.1)):=by rw [List.filter_cons]; simp [hlt]
        have he:e.1≤i:=by omega
        have hc:cutE i (e :: L)=e :: cutE i L:=by unfold cutE; rw [List.filter_cons]; simp [he]
        have c2:(e :: cutE i L).filter (fun e=>decide (p < e.1))=(cutE i L).filter (fun e=>decide (p < e.1)):=by rw [List.filter_cons]; simp [hlt]
        rw [c1,hL,hc,c2]
   rw [fuF,fuF]
   have hone:cutE i [(p,eno)] = [(p,eno)]:=by simp [cutE,hp]
   cases lz with
   | true =>
     simp only [if_true]
     rw [show∀L:En,(p,eno) :: L = [(p,eno)] ++ L from fun _=>rfl,cutE_append,hone,hmore]
     rfl
   | false =>
     simp only [Bool.false_eq_true,if_false]
     rw [cutE_append,hone,hmore]
theorem trs_rep {N i:Nat} {X Y:Xs} (h:Rng N X∧TrX i X Y) :∀n,Trs N i (List.replicate n X) (List.replicate n Y):=by
 intro n
 induction n with
 | zero=>exact .nil
 | succ n ih=>exact .cons h ih
theorem tr_rep {N i:Nat} {X Y:Xs} (hi:i≤N) (hX:Rng N X) (h:TrX i X Y) (r:Rp):TrX i (repX N r X) (repX i r Y):=by
 intro p hp
 unfold repX
 have hL :∀e∈thns [(p,eno)] (List.replicate r.least X),e.1≤N:=fun e he=>(rng_thns (N:=N) (l:=List.replicate r.least X) (fun Y hY=>by rw [List.eq_of_mem_replicate hY]; exact hX) (q:=p) (L := [(p,eno)]) (fun e he=>by simp at he; subst he; exact ⟨Nat.le_refl _,by omega⟩) e he).2
 have hZ:Rng N (fun q=>fuF X r.lazy (N + 1 - q) (r.left r.least) q):=fun q hq e he=>fuF_ge hX _ _ _ q hq e he
 have hT:TrX i (fun q=>fuF X r.lazy (N + 1 - q) (r.left r.least) q) (fun q=>fuF Y r.lazy (i + 1 - q) (r.left r.least) q):=fun q hq=>(tr_fuF hi hX h r.lazy _ _ _ q hq (by omega) (by omega)).symm
 rw [cutE_dd _ _ sno (fun _ _=>rfl),tr_bnd hZ hT _ hL,tr_thns _ _ (trs_rep ⟨hX,h⟩ r.least) _ (by simp; omega)]
 simp [cutE,hp]
theorem rng_seq {N:Nat} {l:List Xs} (h :∀X∈l,Rng N X):Rng N (seqX l):=fun p hp e he=>rng_thns h (q:=p) (L := [(p,eno)]) (fun e he=>by simp at he; subst he; exact ⟨Nat.le_refl _,hp⟩) e he
theorem rng_alt {N:Nat} {l:List Xs} (h :∀X∈l,Rng N X):Rng N (altX l):=fun p hp e he=>by
 have h1:=(dd_sub e he).1
 rw [List.mem_flatMap] at h1
 obtain ⟨X,hX,h2⟩:=h1
 exact h X hX p hp e h2
theorem rng_grp {N n:Nat} {X:Xs} (h:Rng N X):Rng N (grpX n X):=fun p hp e he=>by
 unfold grpX at he
 rw [List.mem_map] at he
 obtain ⟨a,ha,rfl⟩:=he
 exact h p hp a ha
theorem rng_rep {N:Nat} {X:Xs} (h:Rng N X) (r:Rp):Rng N (repX N r X):=fun p hp e he=>by
 have h1:=(dd_sub e he).1
 unfold bnd at h1
 rw [List.mem_flatMap] at h1
 obtain ⟨a,ha,h2⟩:=h1
 unfold beh at h2
 rw [List.mem_map] at h2
 obtain ⟨b,hb,rfl⟩:=h2
 have h3:=rng_thns (N:=N) (l:=List.replicate r.least X) (fun Y hY=>by rw [List.eq_of_mem_replicate hY]; exact h) (q:=p) (L := [(p,eno)]) (fun e he=>by simp at he; subst he; exact ⟨Nat.le_refl _,hp⟩) a ha
 have h4:=fuF_ge h _ _ _ _ h3.2 b hb
 simp only
 omega
def TrP (f:Pf):Prop:=Ful f∧∀(u v:ByteArray),v.size≤u.size→(∀p,p < v.size→bt v p=bt u p)→∀pre,Rng u.size (smx u pre f)∧TrX v.size (smx u pre f) (smx v pre f)
theorem trs_smxs {u v:ByteArray} (hv:v.size≤u.size) (hb :∀p,p < v.size→bt v p=bt u p) :∀(fs:List Pf),(∀f∈fs,TrP f)→∀pre,Trs u.size v.size (smxs u pre fs) (smxs v pre fs):=by
 intro fs
 induction fs with
 | nil=>intro _ pre; exact .nil
 | cons f fs ih=>intro h pre; exact .cons ((h f (by simp)).2 u v hv hb pre) (ih (fun g hg=>h g (by simp [hg])) _)
theorem trs_rng {N i:Nat} {l m:List Xs} (h:Trs N i l m) :∀X∈l,Rng N X:=by
 induction h with
 | nil=>intro X hX; simp at hX
 | cons h1 _ ih =>
   intro X hX
   rcases List.mem_cons.1 hX with rfl | hX
   ·exact h1.1
   ·exact ih X hX
theorem vset_ful (S:Bs):Ful (setPf S):=by intro n; simp [setPf]
theorem vseq_ful (fs:List Pf):Ful (seqPf fs):=by intro n; simp [seqPf]
theorem valt_ful (fs:List Pf):Ful (altPf fs):=by intro n; simp [altPf]
theorem vrep_ful (a b:Int) (l:Bool) (f:Pf):Ful (repPf a b l f):=by intro n; simp [repPf]
theorem vgrp_ful (g:Int) (f:Pf):Ful (grpPf g f):=by intro n; simp [grpPf]
theorem trP_cl:ClM TrP:=by
 refine ⟨fun S=>⟨vset_ful S,fun u v hv hb pre=>?_⟩,fun fs h=>⟨vseq_ful fs,fun u v hv hb pre=>?_⟩,fun fs h=>⟨valt_ful fs,fun u v hv hb pre=>?_⟩,fun f a b lz h=>⟨vrep_ful a b lz f,fun u v hv hb pre=>?_⟩,fun n f h=>⟨vgrp_ful n f,fun u v hv hb pre=>?_⟩⟩
 ·rw [smx_set,smx_set]
  refine ⟨fun p hp e he=>?_,fun p hp=>?_⟩
  ·unfold oneX at he
   split at he
   ·rename_i hc
    simp at he hc
    subst he
    simp only
    omega
   ·simp at he
  ·unfold oneX
   by_cases hlt:p < v.size
   ·have h1:p < u.size:=by omega
    simp only [hb p hlt,hlt,h1,decide_true,Bool.true_and]
    split
    ·have h2:p + 1≤v.size:=by omega
     simp [cutE,h2]
    ·rfl
   ·have h2:¬ p + 1≤v.size:=by omega
    simp only [hlt,decide_false,Bool.false_and,Bool.false_eq_true,if_false]
    split
    ·simp [cutE,h2]
    ·rfl
 ·have ht:=trs_smxs hv hb fs h pre
  rw [smx_seq u pre fs (fun f hf=>(h f hf).1),smx_seq v pre fs (fun f hf=>(h f hf).1)]
  exact ⟨rng_seq (trs_rng ht),tr_seq hv ht⟩
 ·have ht:=trs_smxs hv hb fs h pre
  rw [smx_alt u pre fs (fun f hf=>(h f hf).1),smx_alt v pre fs (fun f hf=>(h f hf).1)]
  exact ⟨rng_alt (trs_rng ht),tr_alt ht⟩
 ·obtain ⟨h1,h2⟩:=h.2 u v hv hb pre
  rw [smx_rep u pre a b lz f h.1,smx_rep v pre a b lz f h.1]
  exact ⟨rng_rep h1 _,tr_rep hv h1 h2 _⟩
 ·obtain ⟨h1,h2⟩:=h.2 u v hv hb pre
  rw [smx_grp u pre n f h.1,smx_grp v pre n f h.1]
  exact ⟨rng_grp h1,tr_grp h2⟩
end Go.Proofs.YthkmmeamplmnhaaGreat
namespace Go.Proofs.YthkmmeamplmnhaaGreat
open Go.RowKit
set_option linter.unusedVariables false
set_option maxRecDepth 100000
def AllE (l:List Mt) (w:World) (e:Ending) (w':World):Prop :=
 ∃(ao:Option Addr) (n c:Nat) (L:List Mm),e = .returned (.slice ao n c)∧L.map (·.1)=l∧Mts w' (.slice ao n c) L∧Keeps (fun _=>False) w w'
def InE (N:Nat) (m:Mt):Prop:=m.ok=true∧m.fr=0∧(∃q:Nat,m.up=(q:Int)∧q≤N)∧m.gs.length≤9∧∀g∈m.gs,g=(-1,-1)∨(0≤g.1∧g.1≤g.2∧g.2≤m.up)
def endB (l:List Mt) (i:Nat):Bool:=l.any fun m=>decide (m.up=(i:Int))
set_option maxHeartbeats 1000000 in
theorem law_end {w:World} {ao:Option Addr} {cap n:Nat} (hn:n≤1048576) {A:ByteArray→ByteArray→List Mt} {G:ByteArray→Prop}
  (hdr:Calls Tryz.prog 22 #[.slice ao n cap] w fun e w' =>∃s t:ByteArray,e = .returned (.tuple #[.string s,.string t])∧G s∧t.size≤10∧Keeps (fun _=>False) w w')
  (hiW :∀s t w,G s→t.size≤10→Calls Tryz.prog 20 #[.string s,.string t,.int .i64 0] w (AllE (A s t) w))
  (hsW :∀s t w,G s→t.size≤10→Calls Tryz.prog 21 #[.string s,.string t,.int .i64 0] w (AllE (A s t) w))
  (hAo :∀s t,G s→t.size≤10→(∀m∈A s t,InE t.size m)∧((A s t).map (·.up)).Nodup∧(A s t).length≤100)
  (hiH :∀s t (i:Nat) w,G s→t.size≤10→i≤t.size→Calls Tryz.prog 23 #[.string s,.string (t.extract 0 i)] w (fun e w' =>∃(fr up:Int) (a:Option Addr) (n c:Nat),e = .returned (.agg #[.bool (endB (A s t) i),.int .i64 fr,.int .i64 up,.slice a n c])∧(endB (A s t) i=true→up=(i:Int))∧Keeps (fun _=>False) w w')) :
  Calls Tryz.prog 5 #[.slice ao n cap] w fun e w'=>e = .returned (.bool true)∧Keeps (fun _=>False) w w':=by
 have hnz:(n:Int)≤1048576:=by omega
 have HiW:Hid _:=hiW
 have HsW:Hid _:=hsW
 have HAo:Hid _:=hAo
 have HiH:Hid _:=hiH
 clear hiW hsW hAo hiH
 go_enter Tryz.func5,Tryz.ntmps5
 go_upto_region 5 with (first
  | (go_at_call 22; refine hdr.mono ?_; clear hdr; rintro e w1 ⟨s,t,rfl,hs,ht,hk1⟩; have hiW:=HiW.out s t w1 hs ht)
  | (go_at_call 20; refine hiW.mono ?_; clear hiW; rintro e w2 ⟨a2,n2,c2,L2,rfl,hL2,hM2,hk2⟩))
 have hsW:=HsW.out s t w2 hs ht
 obtain ⟨hI,hND,hl⟩:=HAo.out s t hs ht
 have HiH2:Hid _:=fun i w hi=>HiH.out s t i w hs ht hi
 clear HiW HsW HAo HiH
 generalize A s t=l at *
 have hn2:n2=l.length:=by
  obtain ⟨a',c',hv⟩:=own_form hM2.row
  cases hv
  rw [← hL2,List.length_map]
 have HN2:Hid (n2=l.length):=hn2
 have hn100:(n2:Int)≤100:=by omega
 have HSm:Hid (SmallM L2):=⟨by have:=congrArg List.length hL2; rw [List.length_map] at this; omega,fun x hx=>by have:=(hI x.1 (by rw [← hL2]; exact List.mem_map_of_mem hx)).2.2.2.1; omega⟩
 have HL2:Hid (L2.map (·.1)=l):=hL2
 have HM2:Hid (Mts w2 (.slice a2 n2 c2) L2):=hM2
 have HI:Hid _:=hI
 have HND:Hid _:=hND
 have HK2:Hid (Keeps (fun _=>False) w w2):=hk1.trans hk2
 clear hn2 hl hL2 hM2 hI hND hk1 hk2
 go_upto_region 7 with (first
  | (go_at_call 21; refine hsW.mono ?_; clear hsW; rintro e w3 ⟨a3,n3,c3,L3,rfl,hL3,hM3,hk3⟩)
  | (go_at_call 11; refine (wMatches_same (HM2.out.same hk3) hM3 (HL2.out.trans hL3.symm) HSm.out).mono ?_; rintro e w4 ⟨rfl,hk4⟩))
 obtain ⟨N1,hN1⟩ :∃N1:Nat,t.size + 1=N1:=⟨_,rfl⟩
 have hN1z:(t.size:Int) + 1=(N1:Int):=by omega
 have hmk:=make_flags N1 (by omega)
 have hN11:(N1:Int)≤11:=by omega
 have hK4:=hk3.trans hk4
 have HM4:Hid (Mts w4 (.slice a2 n2 c2) L2):=HM2.out.same hK4
 have HK4:Hid (Keeps (fun _=>False) w w4):=HK2.out.trans hK4
 have HNt:Hid (t.size + 1=N1):=hN1
 clear hL3 hM3 hk3 hk4 hK4 HSm HM2 HK2 hN1
 go_wp2_with fail
 have bE0:Bk (w4.alloc (.cells (flv N1 sno).toArray 4)) w4.heap.size 4 (flv N1 sno):=heap_alloc_new _ _
 have k46:Keeps (fun _=>False) w4 (w4.alloc (.cells (flv N1 sno).toArray 4)):=(Keeps.refl _ _).alloc _
 clear hmk
 obtain ⟨E,hE⟩ :∃E,w4.heap.size=E:=⟨_,rfl⟩
 generalize w4.alloc (.cells (flv N1 sno).toArray 4)=w6 at bE0 k46 ⊢
 rw [hE] at bE0
 have HMr:Hid (∀wx,Keeps (fun b=>b=E) w6 wx→Mts wx (.slice a2 n2 c2) L2):=fun wx hx=>by
  have h1:=HM4.out
  have h2 :∀{e:TypeId} {sz nn:Nat} {v:Value} {xs:List Value},w4.ownsRow 0 e sz v nn xs→wx.ownsRow 0 e sz v nn xs:=fun h=>ownsRow_keeps (ownsRow_keeps h k46 (fun _ _ h=>h)) hx (fun k hk he=>by have:=(h.lt k hk).2; omega)
  exact ⟨h2 h1.row,fun x hx=>h2 (h1.rows x hx)⟩
 have HKx:Hid (∀wx,Keeps (fun b=>b=E) w6 wx→Keeps (fun _=>False) w wx):=fun wx hx=>(HK4.out.trans k46).trans' hx (fun i hi e=>by have:=HK4.out.size; omega)
 have hflag0:(sno:Nat→Bool)=endB (l.take 0):=by funext i; simp [sno,endB]
 rw [hflag0] at bE0
 simp only [hE]
 clear HM4 HK4 k46 hE hflag0
 go_loopg [36] (n2 + 1) (fun gl s36 wr =>∃k:Nat,k + gl=n2 + 1∧k≤n2∧s36 = .int .i64 (k:Int)∧Hid (Bk wr E 4 (flv N1 (endB (l.take k)))∧Keeps (fun b=>b=E) w6 wr))
 case atStart=>exact ⟨0,by omega,by omega,rfl,bE0,Keeps.refl _ _⟩
 case round =>
  clear bE0
  obtain ⟨k,hgl,hk,rfl,HR⟩:=hrel
  have HG:Hid (k + gk=n2 + 1):=hgl
  clear hgl
  by_cases hlt:k < n2
  ·have hz:(k:Int) < (n2:Int):=by omega
   have hkl:k < l.length:=by have:=HN2.out; omega
   have hkL:k < L2.length:=by have:=HL2.out; rw [← this,List.length_map] at hkl; exact hkl
   have hM:=HMr.out wr HR.out.2
   obtain ⟨gm,rfl⟩ :∃gm,a2=some ⟨gm,0,none⟩:=by
    obtain ⟨g,cp,hv,-⟩:=row_at hM.row (by omega)
    cases hv
    exact ⟨g,rfl⟩
   have hlen:L2.length=n2:=by have:=HN2.out; rw [this,← HL2.out,List.length_map]
   have hM':=hM
   rw [← hlen] at hM'
   obtain ⟨m0,m1,m2,m3⟩:=hM'.cells hkL
   have hgr:=hM'.rows _ (List.getElem_mem hkL)
   obtain ⟨ax,cx,hxv⟩:=own_form hgr
   have hmk:l[k]'hkl=(L2[k]'hkL).1:=by
    have h1:l[k]? = (L2.map (·.1))[k]?:=by rw [HL2.out]
    simpa [hkl,hkL] using h1
   obtain ⟨i1,i2,⟨q,i3,i4⟩,i5,i6⟩:=HI.out _ (List.getElem_mem hkl)
   have hnew:endB (l.take k) q=false:=by
    have hnd:(l.map (·.up)).Nodup:=HND.out
    have hnd2:((l.take k).map (·.up) ++ (l.drop k).map (·.up)).Nodup:=by rw [← List.map_append,List.take_append_drop]; exact hnd
    simp only [endB,List.any_eq_false,decide_eq_true_eq]
    intro m hm he
    have hmem:l[k]'hkl∈l.drop k:=List.mem_drop_iff_getElem.2 ⟨0,by omega,by simp⟩
    exact (List.nodup_append.1 hnd2).2.2 m.up (List.mem_map_of_mem hm) (l[k]'hkl).up (List.mem_map_of_mem hmem) (by rw [he,i3])
   have hnext:sad (endB (l.take k)) q=endB (l.take (k + 1)):=by
    funext j
    rw [List.take_succ_eq_append_getElem hkl]
    have hq2:(j == q)=decide ((q:Int)=(j:Int)):=by
     rw [Bool.eq_iff_iff]
     simp only [beq_iff_eq,decide_eq_true_eq]
     omega
    simp only [sad,endB,List.any_append,List.any_cons,List.any_nil,Bool.or_false,i3,hq2]
   rw [hmk] at i1 i2 i3 i5 i6
   rw [hxv] at m3 hgr
   unfold SpR at hgr
   rw [i1] at m0
   rw [i2] at m1
   rw [i3] at m2 i6
   have HGs:Hid _:=i6
   generalize (L2[k]'hkL).1.gs=gs at m3 hgr i5 HGs hxv
   have hgz:(gs.length:Int)≤9:=by omega
   clear hM hM' hmk hxv hlen i1 i2 i3 i6 hkl hkL
   obtain ⟨bE,kE⟩:=HR.out
   have kB:Keeps (fun _=>False) wr (wr.alloc (.cells #[.bool true,.int .i64 0,.int .i64 (q:Int),.slice ax gs.length cx] 29)):=(Keeps.refl _ _).alloc _
   have bB:(wr.alloc (.cells #[.bool true,.int .i64 0,.int .i64 (q:Int),.slice ax gs.length cx] 29)).heap[wr.heap.size]? = some (.cells #[.bool true,.int .i64 0,.int .i64 (q:Int),.slice ax gs.length cx] 29 (0,0)):=heap_alloc_new _ _
   have hEl:=bE.lt
   clear HR
   go_upto_region 11 with fail
   clear m0 m1 m2 m3
   generalize (wr.alloc (.cells #[.bool true,.int .i64 0,.int .i64 (q:Int),.slice ax gs.length cx] 29))=w7 at kB bB ⊢
   have hPE:wr.heap.size≠E:=by omega
   generalize wr.heap.size=P at bB hPE ⊢
   have bE7:Bk w7 E 4 (flv N1 (endB (l.take k))):=(kB.block E hEl (fun h=>h)).trans bE
   have kE7:Keeps (fun b=>b=E) w6 w7:=kE.trans (kB.mono (fun _ _ h=>h.elim))
   have hgr7:=ownsRow_keeps hgr kB (fun _ _ h=>h)
   have d0:w7.cell? ⟨P,0,none⟩=some (.bool true):=by rw [cell_of bB]; rfl
   have d1:w7.cell? ⟨P,1,none⟩=some (.int .i64 0):=by rw [cell_of bB]; rfl
   have d2:w7.cell? ⟨P,2,none⟩=some (.int .i64 (q:Int)):=by rw [cell_of bB]; rfl
   have hqN:q < N1:=by have:=HNt.out; omega
   have hqz:(q:Int) < (N1:Int):=by omega
   have e0:w7.cell? ⟨E,q,none⟩=some (.bool false):=by
    have h1:w7.cell? ⟨E,q,none⟩=(flv N1 (endB (l.take k))).toArray[q]?:=cell_of bE7
    rw [h1,List.getElem?_toArray,flv_get _ _ _ hqN,hnew]
   have ef:w7.frozen? ⟨E,q,none⟩=false:=free_of bE7
   clear bE kE kB hgr hnew
   go_upto_region 14 with fail
   have bE8:Bk (w7.setCell ⟨E,q,none⟩ (.bool true)) E 4 (flv N1 (endB (l.take (k + 1)))):=by
    unfold Bk at bE7 ⊢
    rw [heap_setCell_same _ _ _ _ _ _ bE7,← hnext,← flv_set _ _ _ hqN]
    simp
   have kS:Keeps (fun b=>b=E) w7 (w7.setCell ⟨E,q,none⟩ (.bool true)):=keepsP _ _ _ _
   have bB8:=(kS.block P (lt_of_block bB) hPE).trans bB
   have hgr8:=ownsRow_keeps hgr7 kS (fun i hi he=>by subst he; exact own_not_at hgr7 bE7 (by decide) hi)
   have kE8:=kE7.trans kS
   clear d0 d1 d2 e0 ef bE7 kE7 hgr7 bB kS hnext
   generalize w7.setCell ⟨E,q,none⟩ (.bool true)=w8 at bE8 bB8 hgr8 kE8 ⊢
   have d2:w8.cell? ⟨P,2,none⟩=some (.int .i64 (q:Int)):=by rw [cell_of bB8]; rfl
   have d3:w8.cell? ⟨P,3,none⟩=some (.slice ax gs.length cx):=by rw [cell_of bB8]; rfl
   have HP2:Hid (∀wx,Keeps (fun _=>False) w8 wx→wx.cell? ⟨P,2,none⟩=some (.int .i64 (q:Int))):=fun wx hx=>by
    have h1:=(hx.block P (lt_of_block bB8) (fun h=>h)).trans bB8
    rw [cell_of h1]
    rfl
   have HGr:Hid (∀wx,Keeps (fun _=>False) w8 wx→wx.ownsRow 0 31 2 (.slice ax gs.length cx) gs.length (flatR gs)):=fun wx hx=>ownsRow_keeps hgr8 hx (fun _ _ h=>h)
   have HE8:Hid (∀wx,Keeps (fun _=>False) w8 wx→Bk wx E 4 (flv N1 (endB (l.take (k + 1))))∧Keeps (fun b=>b=E) w6 wx):=fun wx hx=>⟨(hx.block E (lt_of_block bE8) (fun h=>h)).trans bE8,kE8.trans (hx.mono (fun _ _ h=>h.elim))⟩
   clear bE8 bB8 hgr8 kE8 d2
   go_wp2_with fail
   clear d3
   obtain ⟨wo,rfl⟩ :∃wo:World,wo=wr:=⟨_,rfl⟩
   obtain ⟨gq,rfl⟩ :∃gq:Nat,gq=gk:=⟨_,rfl⟩
   go_loopg [62] (gs.length + 1) (fun gl s62 wi =>∃j:Nat,j + gl=gs.length + 1∧j≤gs.length∧s62 = .int .i64 (j:Int)∧Hid (Keeps (fun _=>False) w8 wi))
   case atStart=>exact ⟨0,by omega,by omega,rfl,Keeps.refl _ _⟩
   case round =>
    obtain ⟨j,hgl,hj,rfl,HKj⟩:=hrel
    have HGj:Hid (j + gk=gs.length + 1):=hgl
    clear hgl
    by_cases hjl:j < gs.length
    ·have hjz:(j:Int) < (gs.length:Int):=by omega
     have hrow:=HGr.out _ HKj.out
     obtain ⟨gx,rfl⟩ :∃gx,ax=some ⟨gx,0,none⟩:=by
      obtain ⟨g,cp,hv,-⟩:=row_at hrow (by omega)
      cases hv
      exact ⟨g,rfl⟩
     have y1:=hrow.cellAt (j * 2) (by omega)
     have y2:=hrow.cellAt (j * 2 + 1) (by omega)
     rw [(flatR_at2 gs j hjl).1] at y1
     rw [(flatR_at2 gs j hjl).2] at y2
     have hgj:=HGs.out (gs.getD j (0,0)) (by rw [List.getD_eq_getElem?_getD,List.getElem?_eq_getElem hjl]; exact List.getElem_mem hjl)
     have z2:=HP2.out _ HKj.out
     generalize gs.getD j (0,0)=ab at y1 y2 hgj
     obtain ⟨a,b⟩:=ab
     simp only [Prod.mk.injEq] at y1 y2 hgj
     generalize gs.length=ng at *
     have kC:Keeps (fun _=>False) wr (wr.alloc (.cells #[.int .i64 a,.int .i64 b] 31)):=(Keeps.refl _ _).alloc _
     have bC:(wr.alloc (.cells #[.int .i64 a,.int .i64 b] 31)).heap[wr.heap.size]? = some (.cells #[.int .i64 a,.int .i64 b] 31 (0,0)):=heap_alloc_new _ _
     have z3:=HP2.out _ (HKj.out.trans kC)
     clear hrow
     go_upto_region 17 with fail
     have HKc:Hid (Keeps (fun _=>False) w8 (wr.alloc (.cells #[.int .i64 a,.int .i64 b] 31))):=HKj.out.trans kC
     generalize (wr.alloc (.cells #[.int .i64 a,.int .i64 b] 31))=w9 at bC z3 HKc ⊢
     generalize wr.heap.size=P2 at bC ⊢
     have v0:w9.cell? ⟨P2,0,none⟩=some (.int .i64 a):=by rw [cell_of bC]; rfl
     have v1:w9.cell? ⟨P2,1,none⟩=some (.int .i64 b):=by rw [cell_of bC]; rfl
     clear kC bC y1 y2 z2 HKj
     rcases hgj with ⟨rfl,rfl⟩ | ⟨g1,g2,g3⟩
     ·go_wp2_with fail
      go_roundg (gk - 1)
      case measure=>have:=HGj.out; omega
      case rel=>exact ⟨j + 1,by have:=HGj.out; omega,by omega,congrArg (Value.int .i64) (by omega),HKc⟩
     ·have b1:(a == -1)=false:=by simp; omega
      have b2:¬ a < 0:=by omega
      have b3:¬ b < a:=by omega
      have b4:¬ (q:Int) < b:=by omega
      clear g1 g2 g3
      go_wp2_with fail
      go_roundg (gk - 1)
      case measure=>have:=HGj.out; omega
      case rel=>exact ⟨j + 1,by have:=HGj.out; omega,by omega,congrArg (Value.int .i64) (by omega),HKc⟩
    ·have hjz:¬ (j:Int) < (gs.length:Int):=by omega
     generalize gs.length=ng at *
     go_wp2_with fail
     go_roundg (gq - 1)
     case measure=>have:=HG.out; omega
     case rel=>exact ⟨k + 1,by have:=HG.out; omega,by omega,congrArg (Value.int .i64) (by omega),HE8.out _ HKj.out⟩
  ·obtain rfl:k=n2:=by omega
   have hz:¬ (k:Int) < (k:Int):=by omega
   obtain ⟨bE,kE⟩:=HR.out
   have hall:l.take k=l:=by rw [HN2.out]; exact List.take_length
   rw [hall] at bE
   obtain ⟨w9,rfl⟩ :∃w9:World,w9=wr:=⟨_,rfl⟩
   have HE9:Hid (∀wx,Keeps (fun _=>False) w9 wx→Bk wx E 4 (flv N1 (endB l))∧Keeps (fun b=>b=E) w6 wx):=fun wx hx=>⟨(hx.block E (lt_of_block bE) (fun h=>h)).trans bE,kE.trans (hx.mono (fun _ _ h=>h.elim))⟩
   clear bE kE hall HR HG
   go_wp2_with fail
   go_loopg [95] (N1 + 1) (fun gl s95 wr =>∃i:Nat,i + gl=N1 + 1∧i≤N1∧s95 = .int .i64 (i:Int)∧Hid (Keeps (fun _=>False) w9 wr))
   case atStart=>exact ⟨0,by omega,by omega,rfl,Keeps.refl _ _⟩
   case round =>
    obtain ⟨i,hgl,hi,rfl,HKi⟩:=hrel
    have HG:Hid (i + gk=N1 + 1):=hgl
    clear hgl
    by_cases hlt:i < N1
    ·have hiz:(i:Int) < (N1:Int):=by omega
     have hit:i≤t.size:=by have:=HNt.out; omega
     have hitz:(i:Int)≤(t.size:Int):=by omega
     have hwh:=HiH2.out i wr hit
     go_upto_region 26 with (go_at_call 23; refine hwh.mono ?_; clear hwh; rintro e w10 ⟨fr,up,ar,nr,cr,rfl,hup,hk10⟩)
     have kB:Keeps (fun _=>False) w9 (w10.alloc (.cells #[.bool (endB l i),.int .i64 fr,.int .i64 up,.slice ar nr cr] 29)):=(HKi.out.trans hk10).alloc _
     have bB:(w10.alloc (.cells #[.bool (endB l i),.int .i64 fr,.int .i64 up,.slice ar nr cr] 29)).heap[w10.heap.size]? = some (.cells #[.bool (endB l i),.int .i64 fr,.int .i64 up,.slice ar nr cr] 29 (0,0)):=heap_alloc_new _ _
     generalize (w10.alloc (.cells #[.bool (endB l i),.int .i64 fr,.int .i64 up,.slice ar nr cr] 29))=w11 at kB bB ⊢
     generalize w10.heap.size=P at bB ⊢
     have d0:w11.cell? ⟨P,0,none⟩=some (.bool (endB l i)):=by rw [cell_of bB]; rfl
     have d2:w11.cell? ⟨P,2,none⟩=some (.int .i64 up):=by rw [cell_of bB]; rfl
     have e0:w11.cell? ⟨E,i,none⟩=some (.bool (endB l i)):=by
      have h1:w11.cell? ⟨E,i,none⟩=(flv N1 (endB l)).toArray[i]?:=cell_of (HE9.out _ kB).1
      rw [h1,List.getElem?_toArray,flv_get _ _ _ hlt]
     have HKb:Hid (Keeps (fun _=>False) w9 w11):=kB
     clear kB bB hk10 HKi
     generalize endB l i=bv at d0 e0 hup
     cases bv with
     | true =>
       have hup2:=hup rfl
       subst hup2
       clear hup
       have hne:((i:Int) != (i:Int))=false:=by simp
       go_quiet (fail)
       go_wp2_with fail
       go_roundg (gk - 1)
       case measure=>have:=HG.out; omega
       case rel=>exact ⟨i + 1,by have:=HG.out; omega,by omega,congrArg (Value.int .i64) (by omega),HKb.out.drewN _⟩
     | false =>
       clear hup
       go_quiet (fail)
       go_wp2_with fail
       go_roundg (gk - 1)
       case measure=>have:=HG.out; omega
       case rel=>exact ⟨i + 1,by have:=HG.out; omega,by omega,congrArg (Value.int .i64) (by omega),HKb.out.drewN _⟩
    ·have hiz:¬ (i:Int) < (N1:Int):=by omega
     go_wp2_with fail
     go_ret
     exact ⟨rfl,HKx.out _ (HE9.out _ HKi.out).2⟩
end Go.Proofs.YthkmmeamplmnhaaGreat
namespace Go.Proofs.YthkmmeamplmnhaaGreat
open Go.RowKit
set_option linter.unusedVariables false
theorem pln_tree {s:ByteArray} (h:GoodV true s) :∃g f,treeRef s = .ok (g,f)∧TrP f:=by
 obtain ⟨h1,g',h2⟩:=h
 obtain ⟨f,hf,mf⟩:=dr_readM trP_cl h2 h1
 refine ⟨9 - g',f,?_,mf⟩
 unfold treeRef
 rw [if_neg (by omega),hf]
 simp
theorem pln_ways {s t:ByteArray} {g:Nat} {f:Pf} (hf:treeRef s = .ok (g,f)) (ht:t.size≤10):waysRef s t 0=(smx t [] f 0).map (mtOf g 0):=by
 have hw:wanted s t 0=true:=by
  unfold wanted
  rw [hf]
  simp
  omega
 unfold waysRef
 rw [if_pos hw,hf]
 rfl
theorem ways_e {w:World} {s t:ByteArray}:Calls Tryz.prog 20 #[.string s,.string t,.int .i64 0] w (AllE (waysRef s t 0) w):=by
 refine ways_val.mono ?_
 rintro e w' ⟨ao,n,c,L,rfl,h1,h2,h3,h4⟩
 exact ⟨ao,n,c,L,rfl,h1,⟨ownsRow_base h2 (fun _ _=>Nat.zero_le _),fun x hx=>ownsRow_base (h3.rows x hx).1 (fun _ _=>Nat.zero_le _)⟩,h4⟩
theorem nodup_castE {l:List Nat} (h:l.Nodup):(l.map (fun n:Nat=>(n:Int))).Nodup:=by
 unfold List.Nodup at h ⊢
 rw [List.pairwise_map]
 exact h.imp (fun hab he=>hab (by omega))
theorem ways_in {s t:ByteArray} (h:GoodV true s) (ht:t.size≤10):(∀m∈waysRef s t 0,InE t.size m)∧((waysRef s t 0).map (·.up)).Nodup∧(waysRef s t 0).length≤100:=by
 obtain ⟨g,f,hf,-⟩:=pln_tree h
 obtain ⟨hfg,hg9,-,-⟩:=tree_fg hf
 have hX:OkX t.size 0 g (smx t [] f):=fp_ok t ⟨f,hfg,rfl⟩
 rw [pln_ways hf ht]
 obtain ⟨x1,x2⟩:=hX 0 (Nat.zero_le _)
 refine ⟨fun m hm=>?_,?_,?_⟩
 ·obtain ⟨e,he,rfl⟩:=List.mem_map.1 hm
  obtain ⟨o1,o2,o3⟩:=x2 e he
  refine ⟨rfl,rfl,⟨e.1,rfl,o2⟩,by rw [show (mtOf g 0 e).gs=gsOf g e.2 from rfl,gsOf_len]; omega,fun y hy=>?_⟩
  have hy':y∈gsOf g e.2:=hy
  unfold gsOf at hy'
  obtain ⟨i,hi,rfl⟩:=List.mem_map.1 hy'
  cases hc:e.2 i with
  | none=>exact Or.inl rfl
  | some ab =>
    obtain ⟨a,b⟩:=ab
    have:=o3 i a b hc
    refine Or.inr ⟨?_,?_,?_⟩
    ·show (0:Int)≤(a:Int); omega
    ·show (a:Int)≤(b:Int); omega
    ·show (b:Int)≤(e.1:Int); omega
 ·rw [List.map_map]
  have e:((·.up) ∘ mtOf g 0)=(fun n:Nat=>(n:Int)) ∘ (fun e:Nat×Ef=>e.1):=rfl
  rw [e,← List.map_map]
  exact nodup_castE x1
 ·rw [List.length_map]
  have:=okX_few hX (p:=0) (Nat.zero_le _)
  omega
theorem whole_e {w:World} {s t:ByteArray} {i:Nat} (h:GoodV true s) (ht:t.size≤10) (hi:i≤t.size):Calls Tryz.prog 23 #[.string s,.string (t.extract 0 i)] w (fun e w' =>∃(fr up:Int) (a:Option Addr) (n c:Nat),e = .returned (.agg #[.bool (endB (waysRef s t 0) i),.int .i64 fr,.int .i64 up,.slice a n c])∧(endB (waysRef s t 0) i=true→up=(i:Int))∧Keeps (fun _=>False) w w'):=by
 obtain ⟨g,f,hf,mf⟩:=pln_tree h
 have hsz:(t.extract 0 i).size=i:=by rw [ByteArray.size_extract]; omega
 have hbt :∀p,p < (t.extract 0 i).size→bt (t.extract 0 i) p=bt t p:=fun p hp=>by
  rw [bt_in hp,bt_in (by omega)]
  congr 1
  simp [ByteArray.getElem_extract]
 have htr:=(mf.2 t (t.extract 0 i) (by omega) hbt []).2 0 (Nat.zero_le _)
 have hw1:=pln_ways hf ht
 have hw2:=pln_ways (t:=t.extract 0 i) hf (by omega)
 rw [htr,hsz] at hw2
 have hend:endB (waysRef s t 0) i=true↔∃x∈waysRef s (t.extract 0 i) 0,x.up=(i:Int):=by
  rw [hw1,hw2]
  simp only [endB,List.any_eq_true,decide_eq_true_eq]
  constructor
  ·rintro ⟨m,hm,hu⟩
   obtain ⟨e,he,rfl⟩:=List.mem_map.1 hm
   have he1:e.1=i:=by have h9:((e.1:Nat):Int)=(i:Int):=hu; omega
   refine ⟨_,List.mem_map_of_mem (List.mem_filter.2 ⟨he,?_⟩),hu⟩
   simp [he1]
  ·rintro ⟨m,hm,hu⟩
   obtain ⟨e,he,rfl⟩:=List.mem_map.1 hm
   exact ⟨_,List.mem_map_of_mem (List.mem_filter.1 he).1,hu⟩
 refine whole_all.mono ?_
 unfold OneP wholeRef
 rw [hsz]
 rintro e w' (⟨h1,rfl,k⟩ | ⟨x,a,n,c,h1,rfl,-,k⟩)
 ·have hno:endB (waysRef s t 0) i=false:=by
   rw [← Bool.not_eq_true,hend]
   rintro ⟨x,hx,hu⟩
   have:=List.find?_eq_none.1 h1 x hx
   simp [hu] at this
  rw [hno]
  exact ⟨0,0,none,0,0,rfl,fun h=>by simp at h,k⟩
 ·have hx:=List.mem_of_find?_eq_some h1
  have hu:x.up=(i:Int):=by have:=List.find?_some h1; simpa using this
  have hyes:endB (waysRef s t 0) i=true:=hend.2 ⟨x,hx,hu⟩
  have hok:x.ok=true:=by
   rw [hw2] at hx
   obtain ⟨e,-,rfl⟩:=List.mem_map.1 hx
   rfl
  rw [hyes,hok]
  exact ⟨_,_,a,n,c,rfl,fun _=>hu,k⟩
theorem law_endss {w:World} {ao:Option Addr} {cap:Nat} {cs:List Nat} (hc:Dc w ao cs) (hb :∀a,ao=some a→a.block < w.heap.size) (hn:cs.length≤1048576) :
  Calls Tryz.prog 5 #[.slice ao cs.length cap] w fun e w'=>e = .returned (.bool true)∧Keeps (fun _=>False) w w' :=
 law_end hn (A:=fun s t=>waysRef s t 0) (G:=GoodV true) (vpln_any hn hc hb) (fun s t w hs ht=>ways_e) (fun s t w hs ht=>sways_any (by have:=hs.1; omega) (by omega)) (fun s t hs ht=>ways_in hs ht) (fun s t i w hs ht hi=>whole_e hs ht hi)
end Go.Proofs.YthkmmeamplmnhaaGreat
namespace Go.Proofs.YthkmmeamplmnhaaGreat.fnEnds
open Go.ChangeShapes Go.WideShapes Go.ChangeAt Go.RowKit
set_option linter.unusedVariables false
theorem own:ownKnob Tryz.prog.godebug=none:=by kernel_rfl
theorem laidOut:laidOutB Tryz.prog=true:=by kernel_rfl
theorem cells1:Tryz.prog.cellsOf 5=1:=by kernel_rfl
def Ar (W:World) (v:Value):Prop :=∃(ao:Option Addr) (cap:Nat) (cs:List Nat),v = .slice ao cs.length cap∧cs.length≤9223372036854775807∧Dc W ao cs∧∀a,ao=some a→a.block < W.heap.size
theorem has_lt {W:World} {base:Nat} {a:Addr} {e:TypeId} {n:Nat} (h:W.has Tryz.prog .any base a e n):a.block < W.heap.size:=by
 unfold World.has at h
 apply Decidable.byContradiction
 intro hn
 have:W.heap[a.block]? = none:=Array.getElem?_eq_none (by omega)
 simp [World.shape?,this] at h
set_option maxRecDepth 100000 in
theorem open_arg {H:Type} {enc:TypeId×Value→H} {W:World} {base:Nat} {v:Value} {d:DataW H} {p:List MemPlace} (hv:Value.okWide Tryz.prog W .any base 22 v) (h:DataW.Trod enc Tryz.prog W 0 (fun _=>true) true 22 v d p):Ar W v:=by
 obtain ⟨fuel,hf⟩:=h
 obtain ⟨a0,len,cap,rfl⟩:=okWide_slice Tryz.underlying22 hv
 rcases open_ints Tryz.underlying22 Tryz.underlying5 cells1 hf with ⟨hcs,hx⟩ | ⟨a,len',cap',zs,hcs,_,hl,hm,hz,hx,hcell,hwz⟩
 ·simp [Value.cells] at hcs
  obtain ⟨rfl,rfl,rfl⟩:=hcs
  exact ⟨none,0,[],rfl,by simp,⟨by simp,by simp⟩,fun a h=>by cases h⟩
 ·simp [Value.cells] at hcs
  obtain ⟨rfl,rfl,rfl⟩:=hcs
  simp only [if_true] at hz
  have hw :∀n∈zs,0≤n∧n < 256:=fun n hn=>by
   have:=hwz n hn
   simp only [Lit.wf,Bool.and_eq_true,decide_eq_true_eq] at this
   have h1:IntKind.u8.min=0:=rfl
   have h2:IntKind.u8.max=255:=rfl
   omega
  have hlen:((zs.take len).map Int.toNat).length=len:=by simp; omega
  refine ⟨some a,cap,(zs.take len).map Int.toNat,by rw [hlen],?_,⟨?_,fun _=>⟨a,rfl,fun i c hc=>?_⟩⟩,?_⟩
  ·rw [hlen]; unfold maxLen at hm; omega
  ·intro c hc
   obtain ⟨n,hn,rfl⟩:=List.mem_map.1 hc
   have:=hw n (List.mem_of_mem_take hn)
   omega
  ·obtain ⟨hi,_⟩:=List.getElem?_eq_some_iff.1 hc
   have hi':i < len:=by rw [hlen] at hi; exact hi
   have hiz:i < zs.length:=by omega
   rw [hcell i hiz]
   have hm2:=hw _ (List.getElem_mem hiz)
   simp [hi',hiz] at hc
   subst hc
   simp [hiz]
   omega
  ·intro a' ha
   cases ha
   have h0:Cell.okWide Tryz.prog W .any base 22 (.slice (some a) len cap):=by
    simpa [Value.okWide,Tryz.underlying22] using hv
   have h1:Cell.ok Tryz.prog W .any base 22 (.slice (some a) len cap):=by
    simpa [Cell.okWide,Tryz.underlying22] using h0
   simp only [Cell.ok,Tryz.underlying22] at h1
   exact has_lt h1.2.2
set_option maxHeartbeats 2000000 in
set_option maxRecDepth 100000 in
theorem law_any {W:World} {v:Value} (h:Ar W v) :
  Calls Tryz.prog 5 #[v] W fun e w'=>e = .returned (.bool true)∧Keeps (fun _=>False) W w':=by
 obtain ⟨ao,cap,cs,rfl,hL,hc,hb⟩:=h
 by_cases h1:cs.length≤1048576
 ·exact law_endss hc hb h1
 ·have hz1:(1048576:Int) < (cs.length:Int):=by omega
  have hz3:¬ (cs.length:Int)≤1048576:=by omega
  clear hc hb h1 hL
  go_enter Tryz.func5,Tryz.ntmps5
  go_wp2_with fail
  go_ret
  exact ⟨rfl,Keeps.refl _ _⟩
set_option maxRecDepth 100000 in
theorem lifted (os:Os) (started:os.Started) (H:Type) (enc:TypeId×Value→H) :
  ReturnsInHanded {} Tryz.checked os 5 .any (Rows.fnEndsSpec.pre6 enc Tryz.prog Tryz.f5 Rows.fnEndsRow.domain false) (Rows.fnEndsSpec.post enc Tryz.prog Tryz.f5 false true false false):=by
 refine returnsInHanded_of_change (C:=Tryz.checked) own started (by kernel_rfl) Tryz.func5
  (ChangeSpec.witness6 (enc:=enc) (C:=Tryz.checked) false ⟨#[],#[.slice none 0 0],[]⟩ 8 (by kernel_rfl) (by kernel_rfl) (by kernel_rfl) (by kernel_rfl)) ?_
 intro W base args ds gs before hval0 hW hcnd _
 have hval :∀(j:Nat) t v,Tryz.f5.params[j]? = some t→args[j]? = some v→Value.okWide Tryz.prog W .any base t v:=hval0
 have hW':=hW
 obtain ⟨p,q,hA0,hV,rfl,hfz,hnd⟩:=hW
 have hA:DataW.TrodAll enc Tryz.prog W 0 (fun _=>true) true Tryz.f5.params.toList args.toList ds p:=hA0
 rw [Tryz.params5] at hA hval
 obtain ⟨v0,d0,rfl,rfl,h0⟩:=trodAll_one hA
 obtain ⟨rfl,rfl⟩:=trodVars_none hV
 clear hA0 hval0
 simp only [List.append_nil] at hW'
 have hlt :∀x∈p,x.block < W.heap.size:=fun x hx=>by simpa using hW'.lt x hx
 have a0:=open_arg (hval 0 22 v0 rfl rfl) h0
 refine (law_any a0).mono fun e W' ⟨he,hk⟩=>?_
 subst he
 have hn:Below W.heap.size W W':=hk.below _ (fun _ _ h=>h) (Nat.le_refl _)
 have t0:=Below.trod laidOut (by kernel_rfl) (of_decide_eq_true (by kernel_rfl)) h0 hn hlt
 exact ⟨_,rfl,_,_,_,[],_,[],hW',trodAll_mk1 (shut_bool Tryz.underlying4 _),trodAll_mk1 t0,rfl,hn.frame _,fun h=>by cases h⟩
theorem over:Rows.fnEndsRow.holds Tryz.pinned (OpenSpec.ofChange Rows.fnEndsSpec) :=
 OpenClaim.holds_of_wide 5 Tryz.f5 rfl rfl rfl rfl rfl rfl rfl ⟨rfl,rfl,rfl,rfl,rfl⟩ rfl rfl rfl rfl rfl (by kernel_rfl) Tryz.func5 (by kernel_rfl)
  (of_decide_eq_true (by kernel_rfl)) (by unfold Func.isWrapper; first | (rw [if_pos (by decide +kernel)]; kernel_rfl) | (rw [if_neg (by decide +kernel)]; exact ⟨rfl,rfl⟩))
  (fun os started H enc _=>lifted os started H enc)
theorem proved:Rows.FnEndsSaid :=
 over
end Go.Proofs.YthkmmeamplmnhaaGreat.fnEnds
namespace Go.Proofs.YthkmmeamplmnhaaGreat
theorem ends_law_holds:Rows.FnEndsSaid:=fnEnds.proved
#print axioms ends_law_holds
end Go.Proofs.YthkmmeamplmnhaaGreat
