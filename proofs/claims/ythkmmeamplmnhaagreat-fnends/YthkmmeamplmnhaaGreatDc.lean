import Derived.Test.YthkmmeamplmnhaaGreatDb
import Derived.Test.YthkmmeamplmnhaaGreatEa
import Derived.Deep.DeepCutAuto
import Derived.Deep.CutBlock
import Derived.Deep.DeepMust
namespace Go.Proofs.YthkmmeamplmnhaaGreat
open Go.RowKit
set_option linter.unusedVariables false
def LsV (w:World) (G n m:Nat) (T:List (List Nat)):Prop:=G < w.heap.size∧∀i,i < n→∃s:ByteArray,w.cell? ⟨G,i,none⟩=some (.string s)∧0 < s.size∧s.size≤m∧bl s∈T
theorem LsV.keeps {w w':World} {G n m:Nat} {T:List (List Nat)} {E:Nat→Prop} (h:LsV w G n m T) (k:Keeps E w w') (hE:¬ E G):LsV w' G n m T :=
 ⟨Nat.lt_of_lt_of_le h.1 k.size,fun i hi=>by obtain ⟨s,h1,h2⟩:=h.2 i hi; exact ⟨s,by rw [d_cell_same (k.block G h.1 hE)]; exact h1,h2⟩⟩
theorem ls_newV (w:World) (cs:List ByteArray) (t:TypeId) (m:Nat) (T:List (List Nat)) (h :∀s∈cs,0 < s.size∧s.size≤m∧bl s∈T):LsV (w.alloc (.cells (cs.map Value.string).toArray t)) w.heap.size cs.length m T:=by
 refine ⟨by simp,fun i hi=>⟨cs[i],?_,h _ (List.getElem_mem hi)⟩⟩
 rw [World.cell?_alloc_at _ _ _ _ rfl]
 simp [List.getElem?_eq_getElem hi]
def MidV (cs:List Nat) (K M R:Nat) (ao:Option Addr) (cap p g j o:Nat) (Q:Nat→ByteArray→Prop) (w0:World) (s2 s12:Value) (wc:World):Prop :=
 ∃(g1 p1:Nat) (x:ByteArray),s2 = .int .i64 (g1:Int)∧s12 = .string x∧Iv K M p g j p1 g1∧0 < x.size∧o + x.size + 20 * p≤20 * p1∧Dw wc R ao cs cap p1∧Keeps (fun k=>k=R) w0 wc∧Q g1 x
def Mid2V (cs:List Nat) (R:Nat) (ao:Option Addr) (cap p c:Nat) (w0:World) (s:Value) (wc:World):Prop :=
 ∃(b:Bool) (p4:Nat),s = .bool b∧(b=true→p4=p + 1)∧p≤p4∧p4≤p + 1∧Dw wc R ao cs cap p4∧Keeps (fun k=>k=R) w0 wc∧(b=true→c=42∨c=43∨c=125∨c=63)
theorem vpar_size (y:ByteArray):((⟨#[40]⟩:ByteArray) ++ y ++ ⟨#[41]⟩).size=y.size + 2:=by
 rw [ByteArray.size_append,ByteArray.size_append]
 show 1 + y.size + 1 = _
 omega
theorem vgrp_size {cs:List Nat} {K M p q g j p1 g2 gb pb:Nat} {y:ByteArray} (hN:KnD cs K M) (hI:Iv K M p g j p1 (g2 + 1)) (hpq:p≤q) (hB:g * K + q + 17≤256 * M) (hbb:pb + gb * K + 80≤g2 * K + p1 + M) (hy:y.size + 20 * p1≤20 * pb):y.size + 100≤9223372036854775807:=by
 have h1:=iv_bound hI
 have eK:(g2 + 1) * K=g2 * K + K:=Nat.succ_mul g2 K
 have:=hN.two
 have:=hN.big
 have:=hN.low
 omega
def Qd (pl:Bool) (d g:Nat) (l:List Nat) (g':Nat):Prop:=Dr pl .atom d g l g'∨∃x q,Dr pl .atom d g x g'∧q∈quaT∧l=x ++ q
theorem qd_of {pl:Bool} {d g g':Nat} {x q:ByteArray} (h:Dr pl .atom d g (bl x) g') (hq:bl q∈quaT):Qd pl d g (bl (x ++ q)) g':=Or.inr ⟨bl x,bl q,h,hq,bl_append _ _⟩
theorem vgrp {pl:Bool} {deep:Int} {g gb:Nat} {y:ByteArray} (h:0 < deep) (hy:Dr pl .pat (deep - 1).toNat g (bl y) gb):Dr pl .atom deep.toNat (g + 1) (bl ((⟨#[40]⟩:ByteArray) ++ y ++ ⟨#[41]⟩)) gb:=by
 rw [bl_append,bl_append,show deep.toNat=(deep - 1).toNat + 1 by omega]
 have:=Dr.grp hy
 simpa [bl] using this
theorem vplain {pl:Bool} {d g g1 g2:Nat} {t y:ByteArray} (hs:Dr pl .seq d g (bl t) g1) (hq:Qd pl d g1 (bl y) g2):Dr pl .seq d g (bl (t ++ y)) g2:=by
 rw [bl_append]
 rcases hq with h | ⟨x,q,h,hq,e⟩
 ·exact .bare hs h
 ·rw [e]
  exact .cnt hs h hq
theorem dr_last {pl:Bool} {k:Sh} {d g g' c:Nat} {l:List Nat} (h:Dr pl k d g l g') (hk:k = .atom) (hl:l.getLast? = some c):¬ (c=42∨c=43∨c=125∨c=63):=by
 cases h with
 | fix h =>
   have hd :∀l∈fixT pl,∀c,l.getLast? = some c→¬ (c=42∨c=43∨c=125∨c=63):=by
    have hf :∀l∈fixT pl,¬ (l.getLast? = some 42∨l.getLast? = some 43∨l.getLast? = some 125∨l.getLast? = some 63):=by cases pl <;> decide
    intro l hl c hc hn
    refine hf l hl ?_
    rw [hc]
    rcases hn with rfl | rfl | rfl | rfl <;> simp
   exact hd _ h _ hl
 | grp _ =>
   rw [← List.cons_append,List.getLast?_append] at hl
   simp at hl
   omega
 | nil=>cases hk
 | bare _ _=>cases hk
 | cnt _ _ _=>cases hk
 | lzy _ _ _=>cases hk
 | one _=>cases hk
 | bar _ _=>cases hk
theorem vlazy {pl:Bool} {d g g1 g2 c:Nat} {t y:ByteArray} (hs:Dr pl .seq d g (bl t) g1) (hq:Qd pl d g1 (bl y) g2) (hl:(bl y).getLast? = some c) (hc:c=42∨c=43∨c=125∨c=63):Dr pl .seq d g (bl (t ++ (y ++ ⟨#[63]⟩))) g2:=by
 rw [bl_append,bl_append]
 rcases hq with h | ⟨x,q,h,hq,e⟩
 ·exact absurd hc (dr_last h rfl hl)
 ·rw [e,List.append_assoc]
  exact .lzy hs h hq
theorem vbar {pl:Bool} {d g g1 g2:Nat} {t y:ByteArray} (hs:Dr pl .seq d g (bl t) g1) (hy:Dr pl .pat d g1 (bl y) g2):Dr pl .pat d g (bl (t ++ ((⟨#[124]⟩:ByteArray) ++ y))) g2:=by
 rw [bl_append,bl_append]
 exact .bar hs hy
theorem vlast (y:ByteArray) (h:y.size - 1 < y.size):(bl y).getLast? = some (y[y.size - 1].toNat):=by
 rw [List.getLast?_eq_getElem?,bl_len]
 unfold bl
 rw [List.getElem?_map,Array.getElem?_toList,Array.getElem?_eq_getElem h]
 rfl
set_option maxHeartbeats 20000000 in
set_option maxRecDepth 100000 in
theorem vpattern_step {cs:List Nat} {K M:Nat} (hN:KnD cs K M) {g n:Nat} (ih1 :∀g2,g2 < g→∀n,VPatC cs K M g2 n) (ih2 :∀n2,n2 < n→VPatC cs K M g n2):VPatC cs K M g n:=by
 intro w R cap p q ao deep plain hD hpq hqn hw hB hg9 h0 h3
 have hlen:=hN.len
 have hbig:=hN.big
 go_enter Tryz.func52,Tryz.ntmps52
 go_upto_region 3 with (first
  | (go_at_call 49; refine (dpick hD hlen (by omega) (by omega) (by omega)).mono ?_; rintro e w2 ⟨k0,hk0,hk0l,rfl,hD2,hk2⟩; clear hk0))
 go_loopg [2,10,11] (k0 + 1) (fun gl s2 s10 s11 wr =>∃(k g1 p1:Nat) (t:ByteArray),k + 1=gl∧k≤3∧s2 = .int .i64 (g1:Int)∧s10 = .string t∧s11 = .int .i64 (k:Int)∧Hid (Iv K M p g (5 * k) p1 g1)∧t.size + 20 * p≤20 * p1∧Dw wr R ao cs cap p1∧Keeps (fun k=>k=R) w wr∧Hid (Dr plain .seq deep.toNat g (bl t) g1))
 case atStart=>exact ⟨k0,g,p + 1,ByteArray.empty,rfl,by omega,rfl,rfl,rfl,iv_less (iv_start K M p g) (by omega),by simp; omega,hD2,hk2,.nil⟩
 case round =>
  clear hD hD2 hk2 hk0l
  obtain ⟨k,g1,p1,t,hgl,hk3,rfl,rfl,rfl,hI,ht,hD,hK,HS⟩:=hrel
  cases k with
  | zero =>
    clear hgl
    have hI1:=iv_bound hI.out
    have hq60:p1≤1152921504606846976:=by omega
    by_cases hz:dr cs p1 % 6=0
    ·have hcall:=fun (w3:World) (hD3:Dw w3 R ao cs cap (p1 + 1))=>vpat_tail (deep:=deep) (plain:=plain) hN ih1 ih2 hI.out hpq hqn hw hz hD3 hB hg9 h0 h3
     have HZ:Hid (dr cs p1 % 6=0):=hz
     clear hz
     go_wp2_with (first
      | (go_at_call 49; go_must (refine (dpick hD hlen hq60 (by omega) (by omega)).mono ?_; rintro e w3 ⟨k1,hk1,hk1l,rfl,hD3,hk4⟩; obtain rfl:k1=0:=(by rw [hk1]; exact HZ.out); clear hk1))
      | (go_at_call 52; go_must (refine (hcall _ hD3).mono ?_; rintro e w5 ⟨y,gb,pb,rfl,hgb,hpb,hbb,hy,hD5,hk5,hv5⟩; have HV5:Hid _:=hv5; clear hv5; have z1:¬ 9223372036854775807 < 1 + y.size:=(by omega); have z2:¬ 9223372036854775807 < t.size + (1 + y.size):=(by omega))))
     go_ret2
     exact ⟨_,gb,pb,rfl,hgb,by omega,hbb,by rw [ByteArray.size_append,ByteArray.size_append]; show t.size + (1 + y.size) + 20 * p≤20 * pb; omega,hD5,(hK.trans hk4).trans hk5,vbar HS.out HV5.out⟩
    ·have HZ:Hid (¬ dr cs p1 % 6=0):=hz
     clear hz
     go_wp2_with (first
      | (go_at_call 49; refine (dpick hD hlen hq60 (by omega) (by omega)).mono ?_; rintro e w3 ⟨k1,hk1,hk1l,rfl,hD3,hk4⟩; have hk0:((k1:Int) == 0)=false:=(by have h:=HZ.out; rw [show dr cs p1 % 6=k1 from hk1.symm] at h; simp; omega); clear hk1))
     go_ret2
     exact ⟨t,g1,p1 + 1,rfl,hI.out.1,by omega,by omega,by omega,hD3,hK.trans hk4,.one HS.out⟩
  | succ k =>
    have hkz:(0:Int) < ((k + 1:Nat):Int):=by omega
    have hI1:=iv_bound hI.out
    have hq60:p1≤1152921504606846976:=by omega
    go_upto_block 2 with (first
     | (go_at_call 49; refine (dpick hD hlen hq60 (by omega) (by omega)).mono ?_; rintro e w3 ⟨k1,hk1,hk1l,rfl,hD3,hk4⟩; clear hk1))
    have hK3:=hK.trans hk4
    have hI2:Hid (Iv K M p g (5 * k + 4) (p1 + 1) g1):=iv_pick (hI.out)
    have hG:w3.heap.size≠R:=by have:=hD3.cur.lt; omega
    have hq61:p1 + 1≤1152921504606846976:=by omega
    have hR3 :∀o,Keeps (fun _=>False) w3 (w3.alloc o):=fun o=>(Keeps.refl _ _).alloc o
    clear hI hD hK hk4
    go_cut [2,12,13,14,15,16] (fun s2 s12 _ _ _ _ wc=>MidV cs K M R ao cap p g (5 * k + 3) t.size (fun g' x=>Dr plain .atom deep.toNat g1 (bl x) g') w s2 s12 wc)
    case first =>
     rcases (show k1=0∨k1=1∨k1=2∨k1=3∨4≤k1 from by omega) with rfl | rfl | rfl | rfl | h4
     ·go_wp2_with fail
      go_meet
      exact ⟨g1,p1 + 1,_,rfl,rfl,iv_less hI2.out (by omega),by decide,by show t.size + 1 + 20 * p≤20 * (p1 + 1); omega,hD3,hK3,.fix (by first | decide | (cases plain <;> decide))⟩
     ·skip
      go_upto_region 12 with fail
      have hL:LsV (w3.alloc (.cells #[.string ⟨#[91,97,98,93]⟩,.string ⟨#[91,94,97,93]⟩,.string ⟨#[91,97,45,99,93]⟩,.string ⟨#[91,93,97,93]⟩,.string ⟨#[91,94,93,93]⟩,.string ⟨#[91,97,45,93]⟩,.string ⟨#[91,92,119,45,93]⟩,.string ⟨#[91,92,120,48,48,45,92,120,55,102,93]⟩,.string ⟨#[91,94,92,115,92,100,93]⟩,.string ⟨#[91,98,45,98,93]⟩] 9)) w3.heap.size 10 11 (fixT plain):=ls_newV w3 [⟨#[91,97,98,93]⟩,⟨#[91,94,97,93]⟩,⟨#[91,97,45,99,93]⟩,⟨#[91,93,97,93]⟩,⟨#[91,94,93,93]⟩,⟨#[91,97,45,93]⟩,⟨#[91,92,119,45,93]⟩,⟨#[91,92,120,48,48,45,92,120,55,102,93]⟩,⟨#[91,94,92,115,92,100,93]⟩,⟨#[91,98,45,98,93]⟩] 9 11 (fixT plain) (by cases plain <;> decide)
      have kL:Keeps (fun _=>False) w3 (w3.alloc (.cells #[.string ⟨#[91,97,98,93]⟩,.string ⟨#[91,94,97,93]⟩,.string ⟨#[91,97,45,99,93]⟩,.string ⟨#[91,93,97,93]⟩,.string ⟨#[91,94,93,93]⟩,.string ⟨#[91,97,45,93]⟩,.string ⟨#[91,92,119,45,93]⟩,.string ⟨#[91,92,120,48,48,45,92,120,55,102,93]⟩,.string ⟨#[91,94,92,115,92,100,93]⟩,.string ⟨#[91,98,45,98,93]⟩] 9)):=(Keeps.refl _ _).alloc _
      have hD4:=hD3.same kL
      have hK4:Keeps (fun k=>k=R) w (w3.alloc (.cells #[.string ⟨#[91,97,98,93]⟩,.string ⟨#[91,94,97,93]⟩,.string ⟨#[91,97,45,99,93]⟩,.string ⟨#[91,93,97,93]⟩,.string ⟨#[91,94,93,93]⟩,.string ⟨#[91,97,45,93]⟩,.string ⟨#[91,92,119,45,93]⟩,.string ⟨#[91,92,120,48,48,45,92,120,55,102,93]⟩,.string ⟨#[91,94,92,115,92,100,93]⟩,.string ⟨#[91,98,45,98,93]⟩] 9)):=hK3.alloc _
      generalize (w3.alloc (.cells #[.string ⟨#[91,97,98,93]⟩,.string ⟨#[91,94,97,93]⟩,.string ⟨#[91,97,45,99,93]⟩,.string ⟨#[91,93,97,93]⟩,.string ⟨#[91,94,93,93]⟩,.string ⟨#[91,97,45,93]⟩,.string ⟨#[91,92,119,45,93]⟩,.string ⟨#[91,92,120,48,48,45,92,120,55,102,93]⟩,.string ⟨#[91,94,92,115,92,100,93]⟩,.string ⟨#[91,98,45,98,93]⟩] 9))=w4 at hL hD4 hK4 ⊢
      generalize w3.heap.size=G at hL hG ⊢
      clear kL hD3 hK3
      go_wp2_with (first
       | (go_at_call 49; refine (dpick hD4 hlen hq61 (by omega) (by omega)).mono ?_; rintro e w5 ⟨k2,hk2,hk2l,rfl,hD5,hk5⟩; clear hk2; obtain ⟨x,cx,hx0,hx1,hx2⟩:=(hL.keeps hk5 hG).2 k2 (by omega)))
      go_meet
      exact ⟨g1,p1 + 2,x,rfl,rfl,iv_pick hI2.out,hx0,by omega,hD5,hK4.trans hk5,.fix hx2⟩
     ·skip
      go_upto_region 15 with fail
      have hL:LsV (w3.alloc (.cells #[.string ⟨#[92,100]⟩,.string ⟨#[92,119]⟩,.string ⟨#[92,115]⟩,.string ⟨#[92,110]⟩,.string ⟨#[92,92]⟩,.string ⟨#[92,46]⟩,.string ⟨#[92,120,54,49]⟩,.string ⟨#[92,40]⟩,.string ⟨#[92,45]⟩] 9)) w3.heap.size 9 11 (fixT plain):=ls_newV w3 [⟨#[92,100]⟩,⟨#[92,119]⟩,⟨#[92,115]⟩,⟨#[92,110]⟩,⟨#[92,92]⟩,⟨#[92,46]⟩,⟨#[92,120,54,49]⟩,⟨#[92,40]⟩,⟨#[92,45]⟩] 9 11 (fixT plain) (by cases plain <;> decide)
      have kL:Keeps (fun _=>False) w3 (w3.alloc (.cells #[.string ⟨#[92,100]⟩,.string ⟨#[92,119]⟩,.string ⟨#[92,115]⟩,.string ⟨#[92,110]⟩,.string ⟨#[92,92]⟩,.string ⟨#[92,46]⟩,.string ⟨#[92,120,54,49]⟩,.string ⟨#[92,40]⟩,.string ⟨#[92,45]⟩] 9)):=(Keeps.refl _ _).alloc _
      have hD4:=hD3.same kL
      have hK4:Keeps (fun k=>k=R) w (w3.alloc (.cells #[.string ⟨#[92,100]⟩,.string ⟨#[92,119]⟩,.string ⟨#[92,115]⟩,.string ⟨#[92,110]⟩,.string ⟨#[92,92]⟩,.string ⟨#[92,46]⟩,.string ⟨#[92,120,54,49]⟩,.string ⟨#[92,40]⟩,.string ⟨#[92,45]⟩] 9)):=hK3.alloc _
      generalize (w3.alloc (.cells #[.string ⟨#[92,100]⟩,.string ⟨#[92,119]⟩,.string ⟨#[92,115]⟩,.string ⟨#[92,110]⟩,.string ⟨#[92,92]⟩,.string ⟨#[92,46]⟩,.string ⟨#[92,120,54,49]⟩,.string ⟨#[92,40]⟩,.string ⟨#[92,45]⟩] 9))=w4 at hL hD4 hK4 ⊢
      generalize w3.heap.size=G at hL hG ⊢
      clear kL hD3 hK3
      go_wp2_with (first
       | (go_at_call 49; refine (dpick hD4 hlen hq61 (by omega) (by omega)).mono ?_; rintro e w5 ⟨k2,hk2,hk2l,rfl,hD5,hk5⟩; clear hk2; obtain ⟨x,cx,hx0,hx1,hx2⟩:=(hL.keeps hk5 hG).2 k2 (by omega)))
      go_meet
      exact ⟨g1,p1 + 2,x,rfl,rfl,iv_pick hI2.out,hx0,by omega,hD5,hK4.trans hk5,.fix hx2⟩
     ·cases plain with
      | true =>
        go_wp2_with fail
        go_meet
        exact ⟨g1,p1 + 1,_,rfl,rfl,iv_less hI2.out (by omega),by decide,by show t.size + 1 + 20 * p≤20 * (p1 + 1); omega,hD3,hK3,.fix (by first | decide | (cases plain <;> decide))⟩
      | false =>
        go_upto_region 20 with fail
        have hL:LsV (w3.alloc (.cells #[.string ⟨#[94]⟩,.string ⟨#[36]⟩] 9)) w3.heap.size 2 11 (fixT false):=ls_newV w3 [⟨#[94]⟩,⟨#[36]⟩] 9 11 (fixT false) (by decide)
        have kL:Keeps (fun _=>False) w3 (w3.alloc (.cells #[.string ⟨#[94]⟩,.string ⟨#[36]⟩] 9)):=(Keeps.refl _ _).alloc _
        have hD4:=hD3.same kL
        have hK4:Keeps (fun k=>k=R) w (w3.alloc (.cells #[.string ⟨#[94]⟩,.string ⟨#[36]⟩] 9)):=hK3.alloc _
        generalize (w3.alloc (.cells #[.string ⟨#[94]⟩,.string ⟨#[36]⟩] 9))=w4 at hL hD4 hK4 ⊢
        generalize w3.heap.size=G at hL hG ⊢
        clear kL hD3 hK3
        go_wp2_with (first
         | (go_at_call 49; refine (dpick hD4 hlen hq61 (by omega) (by omega)).mono ?_; rintro e w5 ⟨k2,hk2,hk2l,rfl,hD5,hk5⟩; clear hk2; obtain ⟨x,cx,hx0,hx1,hx2⟩:=(hL.keeps hk5 hG).2 k2 (by omega)))
        go_meet
        exact ⟨g1,p1 + 2,x,rfl,rfl,iv_pick hI2.out,hx0,by omega,hD5,hK4.trans hk5,.fix hx2⟩
     ·have e0:((k1:Int) == 0)=false:=by simp; omega
      have e1:((k1:Int) == 1)=false:=by simp; omega
      have e2:((k1:Int) == 2)=false:=by simp; omega
      have e3:((k1:Int) == 3)=false:=by simp; omega
      go_upto_if 65 with fail
      go_cut [65] (fun b wc=>b = .bool (decide (k1≤6))∧w3=wc)
      case first =>
       rcases (show k1=4∨k1=5∨k1=6∨7≤k1 from by omega) with rfl | rfl | rfl | h7
       ·go_wp2_with fail
        go_meet
        exact ⟨rfl,rfl⟩
       ·go_wp2_with fail
        go_meet
        exact ⟨rfl,rfl⟩
       ·go_wp2_with fail
        go_meet
        exact ⟨rfl,rfl⟩
       ·have e4:((k1:Int) == 4)=false:=by simp; omega
        have e5:((k1:Int) == 5)=false:=by simp; omega
        have e6:((k1:Int) == 6)=false:=by simp; omega
        have e7:decide (k1≤6)=false:=by simp; omega
        go_wp2_with fail
        go_meet
        exact ⟨by rw [e7],rfl⟩
      case rest =>
       obtain ⟨rfl,rfl⟩:=hcut
       by_cases h6:k1≤6
       ·rw [decide_eq_true h6]
        by_cases hg1:0 < g1
        ·obtain ⟨g2,rfl⟩ :∃g2,g1=g2 + 1:=⟨g1 - 1,by omega⟩
         have hgz:(0:Int) < ((g2 + 1:Nat):Int):=by omega
         by_cases hd0:(0:Int) < deep
         ·have hIb:=iv_bound hI2.out
          have eK:(g2 + 1) * K=g2 * K + K:=Nat.succ_mul g2 K
          have hKM:=hN.two
          have hgg:=hI2.out.1
          have hcall:=vpat_group hN (g1:=g2) (ih1 g2 (by omega)) (plain:=plain) (deep:=deep - 1) hD3 (by omega) (by omega) (by omega) (by omega)
          have HKM:Hid (K=M + M):=hKM
          clear hKM hIb eK
          go_wp2_with (go_at_call 52; refine hcall.mono ?_; rintro e w5 ⟨y,gb,pb,rfl,hgb,hpb,hbb,hy,hD5,hk5,hv5⟩; have HV5:Hid _:=hv5; clear hv5; have hys:=vgrp_size hN hI2.out hpq hB hbb hy; have z1:¬ 9223372036854775807 < 1 + y.size:=(by omega); have z2:¬ 9223372036854775807 < 1 + y.size + 1:=(by omega))
          go_meet
          exact ⟨gb,pb,_,rfl,rfl,iv_less (iv_group HKM.out hI2.out hgb hpb hbb) (by omega),by rw [vpar_size]; omega,by rw [vpar_size]; omega,hD5,hK3.trans hk5,vgrp hd0 HV5.out⟩
         ·go_wp2_with fail
          go_meet
          exact ⟨_,p1 + 1,_,rfl,rfl,iv_less hI2.out (by omega),by decide,by show t.size + 1 + 20 * p≤20 * (p1 + 1); omega,hD3,hK3,.fix (by first | decide | (cases plain <;> decide))⟩
        ·obtain rfl:g1=0:=by omega
         go_wp2_with fail
         go_meet
         exact ⟨_,p1 + 1,_,rfl,rfl,iv_less hI2.out (by omega),by decide,by show t.size + 1 + 20 * p≤20 * (p1 + 1); omega,hD3,hK3,.fix (by first | decide | (cases plain <;> decide))⟩
       ·rw [decide_eq_false h6]
        have hcv:=Esc.conv_one
        go_wp2_with (first
         | (go_at_call 49; refine (dpick hD3 hlen hq61 (by omega) (by omega)).mono ?_; rintro e w5 ⟨k2,hk2,hk2l,rfl,hD5,hk5⟩; clear hk2))
        go_meet
        exact ⟨g1,p1 + 2,_,rfl,rfl,iv_pick hI2.out,(by show 0 < 1; decide),(by show t.size + 1 + 20 * p≤20 * (p1 + 2); omega),hD5.same ((Keeps.refl _ _).alloc _),(hK3.trans hk5).alloc _,.fix (by rcases (show k2=0∨k2=1∨k2=2 from by omega) with rfl | rfl | rfl <;> cases plain <;> decide)⟩
    case rest =>
     obtain ⟨g2,p2,x,rfl,rfl,hI3,hx0,hxs,hD4,hK4,hQ4⟩:=hcut
     have HQ:Hid (Dr plain .atom deep.toNat g1 (bl x) g2):=hQ4
     clear hQ4
     clear hD3 hK3 hI2 hR3 hG hq61 hk1l hI1 hq60
     have HI:Hid (Iv K M p g (5 * k + 3) p2 g2):=hI3
     have hI4:=iv_bound hI3
     clear hI3
     have hq6:p2≤1152921504606846976:=by omega
     have hxb:x.size + 1000≤9223372036854775807:=by omega
     go_upto_block 3 with (first
      | (go_at_call 49; refine (dpick hD4 hlen hq6 (by omega) (by omega)).mono ?_; rintro e w5 ⟨k1',hk1,hk1l,rfl,hD5,hk5⟩; clear hk1))
     have hK5:=hK4.trans hk5
     have hI5:Hid (Iv K M p g (5 * k + 2) (p2 + 1) g2):=iv_pick HI.out
     have hG:w5.heap.size≠R:=by have:=hD5.cur.lt; omega
     have hq7:p2 + 1≤1152921504606846976:=by omega
     clear hD4 hK4 HI hk5
     have z1:¬ 9223372036854775807 < x.size + 1:=by omega
     go_cut [12,17] (fun s12 _ wc=>MidV cs K M R ao cap p g (5 * k + 1) t.size (fun g' y=>Qd plain deep.toNat g1 (bl y) g') w (.int .i64 (g2:Int)) s12 wc)
     case first =>
      rcases (show k1'=0∨k1'=1∨k1'=2∨k1'=3∨k1'=4∨5≤k1' from by omega) with rfl | rfl | rfl | rfl | rfl | h7
      rotate_left 4
      ·go_upto_region 39 with fail
       have hL:LsV (w5.alloc (.cells #[.string ⟨#[123,50,125]⟩,.string ⟨#[123,48,125]⟩,.string ⟨#[123,49,44,125]⟩,.string ⟨#[123,48,44,50,125]⟩,.string ⟨#[123,49,44,51,125]⟩,.string ⟨#[123,48,44,48,125]⟩,.string ⟨#[123,50,44,50,125]⟩] 9)) w5.heap.size 7 5 quaT:=ls_newV w5 [⟨#[123,50,125]⟩,⟨#[123,48,125]⟩,⟨#[123,49,44,125]⟩,⟨#[123,48,44,50,125]⟩,⟨#[123,49,44,51,125]⟩,⟨#[123,48,44,48,125]⟩,⟨#[123,50,44,50,125]⟩] 9 5 quaT (by decide)
       have kL:Keeps (fun _=>False) w5 (w5.alloc (.cells #[.string ⟨#[123,50,125]⟩,.string ⟨#[123,48,125]⟩,.string ⟨#[123,49,44,125]⟩,.string ⟨#[123,48,44,50,125]⟩,.string ⟨#[123,49,44,51,125]⟩,.string ⟨#[123,48,44,48,125]⟩,.string ⟨#[123,50,44,50,125]⟩] 9)):=(Keeps.refl _ _).alloc _
       have hD6:=hD5.same kL
       have hK6:Keeps (fun k=>k=R) w (w5.alloc (.cells #[.string ⟨#[123,50,125]⟩,.string ⟨#[123,48,125]⟩,.string ⟨#[123,49,44,125]⟩,.string ⟨#[123,48,44,50,125]⟩,.string ⟨#[123,49,44,51,125]⟩,.string ⟨#[123,48,44,48,125]⟩,.string ⟨#[123,50,44,50,125]⟩] 9)):=hK5.alloc _
       generalize (w5.alloc (.cells #[.string ⟨#[123,50,125]⟩,.string ⟨#[123,48,125]⟩,.string ⟨#[123,49,44,125]⟩,.string ⟨#[123,48,44,50,125]⟩,.string ⟨#[123,49,44,51,125]⟩,.string ⟨#[123,48,44,48,125]⟩,.string ⟨#[123,50,44,50,125]⟩] 9))=w6 at hL hD6 hK6 ⊢
       generalize w5.heap.size=G at hL hG ⊢
       clear kL hD5 hK5
       go_wp2_with (first
        | (go_at_call 49; refine (dpick hD6 hlen hq7 (by omega) (by omega)).mono ?_; rintro e w7 ⟨k2,hk2,hk2l,rfl,hD7,hk7⟩; clear hk2; obtain ⟨y,cy,hy0,hy1,hy2⟩:=(hL.keeps hk7 hG).2 k2 (by omega); have z2:¬ 9223372036854775807 < x.size + y.size:=by omega))
       go_meet
       exact ⟨g2,p2 + 2,_,rfl,rfl,iv_pick hI5.out,by rw [ByteArray.size_append]; omega,by rw [ByteArray.size_append]; omega,hD7,hK6.trans hk7,qd_of HQ.out hy2⟩
      ·have e0:((k1':Int) == 0)=false:=by simp; omega
       have e1:((k1':Int) == 1)=false:=by simp; omega
       have e2:((k1':Int) == 2)=false:=by simp; omega
       have e3:((k1':Int) == 3)=false:=by simp; omega
       have e4:((k1':Int) == 4)=false:=by simp; omega
       go_wp2_with fail
       go_meet
       exact ⟨g2,p2 + 1,x,rfl,rfl,iv_less hI5.out (by omega),hx0,by omega,hD5,hK5,Or.inl HQ.out⟩
      all_goals (go_wp2_with fail; go_meet; exact ⟨g2,p2 + 1,_,rfl,rfl,iv_less hI5.out (by omega),by rw [ByteArray.size_append]; omega,by rw [ByteArray.size_append]; show t.size + (x.size + 1) + 20 * p≤20 * (p2 + 1); omega,hD5,hK5,qd_of HQ.out (by decide)⟩)
     case rest =>
      obtain ⟨g3,p3,y,hg3,rfl,hI6,hy0,hys,hD6,hK6,hQ6⟩:=hcut
      obtain rfl:g3=g2:=by simp at hg3; omega
      have HI6:Hid (Iv K M p g (5 * k + 1) p3 g3):=hI6
      have HQ6:Hid (Qd plain deep.toNat g1 (bl y) g3):=hQ6
      clear hQ6 HQ
      have hI7:=iv_bound hI6
      clear hI6 hg3 hD5 hK5 hG hq7 hk1l hI5 z1 hI4 hq6 hxb hx0 hxs
      have hyb:y.size + 1000≤9223372036854775807:=by omega
      have hq8:p3≤1152921504606846976:=by omega
      go_upto_region 41 with fail
      have HCL:Hid ((bl y).getLast? = some (y[y.size - 1].toNat)):=vlast y (by omega)
      generalize y[y.size - 1].toNat=c at HCL ⊢
      go_cut [18,156] (fun _ s wc=>Mid2V cs R ao cap p3 c w s wc)
      case first=>as_aux_lemma =>
       by_cases hy1:1 < y.size
       ·have hyz:(1:Int) < (y.size:Int):=by omega
        go_wp2_with (first
         | (go_at_call 49; refine (dpick hD6 hlen hq8 (by omega) (by omega)).mono ?_; rintro e w7 ⟨k2,hk2,hk2l,rfl,hD7,hk7⟩; clear hk2))
        all_goals (go_meet; first | exact ⟨false,p3,rfl,(fun h=>nomatch h),by omega,by omega,hD6,hK6,(fun h=>nomatch h)⟩ | exact ⟨_,p3 + 1,rfl,fun _=>rfl,by omega,by omega,hD7,hK6.trans hk7,(fun hb=>by first | omega | (exfalso; simp at hb; done) | (simp_all; done) | (simp_all; omega))⟩)
       ·have hyz:¬ (1:Int) < (y.size:Int):=by omega
        go_wp2_with (first
         | (go_at_call 49; refine (dpick hD6 hlen hq8 (by omega) (by omega)).mono ?_; rintro e w7 ⟨k2,hk2,hk2l,rfl,hD7,hk7⟩; clear hk2))
        all_goals (go_meet; first | exact ⟨false,p3,rfl,(fun h=>nomatch h),by omega,by omega,hD6,hK6,(fun h=>nomatch h)⟩ | exact ⟨_,p3 + 1,rfl,fun _=>rfl,by omega,by omega,hD7,hK6.trans hk7,(fun hb=>by first | omega | (exfalso; simp at hb; done) | (simp_all; done) | (simp_all; omega))⟩)
      case rest =>
       obtain ⟨b,p4,rfl,hb,h1,h2,hD7,hK7,hc4⟩:=hcut
       have HC4:Hid (b=true→c=42∨c=43∨c=125∨c=63):=hc4
       clear hc4
       have HB4:Hid (b=true→p4=p3 + 1):=hb
       have HI8:Hid (Iv K M p g (5 * k) p4 g3):=(by
        show Iv _ _ _ _ _ _ _
        rcases (show p4=p3∨p4=p3 + 1 from by omega) with h | h
        ·rw [h]; exact iv_less HI6.out (by omega)
        ·rw [h]; exact iv_pick HI6.out)
       have HG:Hid (k + 1 + 1=gk):=hgl
       clear hb hD6 hK6 HI6 hgl
       cases b with
       | true =>
         have hp4:=HB4.out rfl
         have z1:¬ 9223372036854775807 < y.size + 1:=by omega
         have z2:¬ 9223372036854775807 < t.size + (y.size + 1):=by omega
         have HP:Hid (p4=p3 + 1):=hp4
         clear hp4 HB4
         go_wp2_with fail
         go_roundg (gk - 1)
         case measure=>have:=HG.out; omega
         case rel=>exact ⟨k,g3,p4,_,by have:=HG.out; omega,by omega,rfl,rfl,congrArg (Value.int .i64) (by omega),HI8,by have:=HP.out; rw [ByteArray.size_append,ByteArray.size_append]; show t.size + (y.size + 1) + 20 * p≤20 * p4; omega,hD7,hK7,vlazy HS.out HQ6.out HCL.out (HC4.out (by trivial))⟩
       | false =>
         have z2:¬ 9223372036854775807 < t.size + y.size:=by omega
         clear HB4
         go_wp2_with fail
         go_roundg (gk - 1)
         case measure=>have:=HG.out; omega
         case rel=>exact ⟨k,g3,p4,_,by have:=HG.out; omega,by omega,rfl,rfl,congrArg (Value.int .i64) (by omega),HI8,by rw [ByteArray.size_append]; omega,hD7,hK7,vplain HS.out HQ6.out⟩
end Go.Proofs.YthkmmeamplmnhaaGreat
