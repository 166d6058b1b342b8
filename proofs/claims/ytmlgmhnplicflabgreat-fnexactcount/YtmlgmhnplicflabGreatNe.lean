import Derived.Test.YtmlgmhnplicflabGreatNb
import Derived.Test.YtmlgmhnplicflabGreatNd
namespace Go.Proofs.YtmlgmhnplicflabGreat
open Go.RowKit
set_option linter.unusedVariables false
def RowQ (l:List Mt) (w:World) (e:Ending) (w':World):Prop :=
 ∃(ao:Option Addr) (n c:Nat) (L:List Mm),e = .returned (.slice ao n c)∧L.map (·.1)=l∧Mts w' (.slice ao n c) L∧Keeps (fun _=>False) w w'
def RowO (l:List Mt) (w:World) (e:Ending) (w':World):Prop :=
 ∃(ao:Option Addr) (n c:Nat) (L:List Mm),e = .returned (.slice ao n c)∧L.map (·.1)=l∧Mts w' (.slice ao n c) L∧SepM L∧(∀j,FootM (.slice ao n c) L j→w.heap.size≤j)∧Keeps (fun _=>False) w w'
theorem sep_of {L:List Mm} (h:(L.filterMap fun x=>x.2.ownBlock).Nodup):SepM L:=by
 unfold SepM
 induction L with
 | nil=>exact List.Pairwise.nil
 | cons x L ih =>
   rw [List.pairwise_cons]
   cases hb:x.2.ownBlock with
   | none =>
     simp only [List.filterMap_cons,hb] at h
     exact ⟨(fun y hy k hk=>by cases hk),ih h⟩
   | some b =>
     simp only [List.filterMap_cons,hb,List.nodup_cons] at h
     refine ⟨fun y hy k hk hy2=>?_,ih h.2⟩
     cases hk
     exact h.1 (List.mem_filterMap.2 ⟨y,hy,hy2⟩)
theorem ways_o {w:World} {s u:ByteArray} {p:Int}:Calls Tryz.prog 10 #[.string s,.string u,.int .i64 p] w (RowO (waysRef s u p) w):=by
 refine ways_val.mono ?_
 rintro e w' ⟨ao,n,c,L,rfl,h1,h2,h3,h4⟩
 have hn:n=L.length:=by obtain ⟨a',c',hv⟩:=own_form h2; cases hv; rfl
 refine ⟨ao,n,c,L,rfl,h1,⟨ownsRow_base h2 (fun _ _=>Nat.zero_le _),fun x hx=>ownsRow_base (h3.rows x hx).1 (fun _ _=>Nat.zero_le _)⟩,sep_of h3.sep,?_,h4⟩
 rintro j (hj | ⟨x,hx,hj⟩)
 ·exact (h2.lt j hj).1
 ·exact ((h3.rows x hx).1.lt j hj).1
set_option maxHeartbeats 2000000 in
set_option maxRecDepth 100000 in
theorem sways_any {w:World} {s u:ByteArray} {p:Int} (hs:s.size≤1048576) (hu:u.size≤1048576):Calls Tryz.prog 9 #[.string s,.string u,.int .i64 p] w (RowQ (waysRef s u p) w):=by
 have hof:=l2of_any (w:=w) hs hu
 unfold OfPost at hof
 cases ha:Ask s u with
 | none =>
   rw [ha] at hof
   simp only at hof
   rw [ask_none ha]
   clear ha
   go_enter Tryz.func9,Tryz.ntmps9
   go_wp2_with (go_at_call 30; refine hof.mono ?_; rintro e w2 ⟨R,rfl,hk⟩)
   go_ret
   exact ⟨none,0,0,[],rfl,rfl,⟨World.ownsRow_nil _ _ _ _,by simp⟩,hk⟩
 | some gp =>
   obtain ⟨g,ps⟩:=gp
   rw [ha] at hof
   simp only at hof
   have hof2:Calls Tryz.prog 30 #[.string s,.string u] w (fun e w2 =>∃Z,e = .returned (.tuple #[.pointer (some ⟨Z.R,0,none⟩),.bool true])∧Hid (Mr w2 Z g ps u∧w.heap.size≤Z.Bd∧w.heap.size≤Z.Bl)∧Keeps (fun _=>False) w w2):=by
    refine hof.mono ?_
    rintro e w2 ⟨Z,rfl,h1,h2,h3⟩
    exact ⟨Z,rfl,⟨h1,h2.1,h2.2⟩,h3⟩
   clear hof
   by_cases hp:p < 0∨(u.size:Int) < p
   ·rw [ask_out hp]
    clear ha
    go_enter Tryz.func9,Tryz.ntmps9
    rcases hp with hp | hp
    ·go_wp2_with (go_at_call 30; refine hof2.mono ?_; rintro e w2 ⟨Z,rfl,HM,hk⟩)
     go_ret
     exact ⟨none,0,0,[],rfl,rfl,⟨World.ownsRow_nil _ _ _ _,by simp⟩,hk⟩
    ·have hp0:¬ p < 0:=by omega
     go_wp2_with (go_at_call 30; refine hof2.mono ?_; rintro e w2 ⟨Z,rfl,HM,hk⟩)
     go_ret
     exact ⟨none,0,0,[],rfl,rfl,⟨World.ownsRow_nil _ _ _ _,by simp⟩,hk⟩
   ·obtain ⟨q,rfl⟩ :∃q:Nat,p=(q:Int):=⟨p.toNat,by omega⟩
    have hq:q≤u.size:=by omega
    have hp0:¬ (q:Int) < 0:=by omega
    have hp1:¬ (u.size:Int) < (q:Int):=by omega
    have HA:Hid (Ask s u=some (g,ps)):=ha
    clear ha hp
    go_enter Tryz.func9,Tryz.ntmps9
    go_wp2_with (first
     | (go_at_call 30; refine hof2.mono ?_; rintro e w2 ⟨Z,rfl,HM,hk1⟩; clear hof2)
     | (go_at_call 31; refine (sways (p:=q) HA.out HM.out.1 hq).mono ?_; rintro e w3 ⟨ao,n,c,L,rfl,HL,hrow,hrows,hM2,hk2⟩))
    go_ret
    refine ⟨ao,n,c,L,rfl,HL.out.2.2,⟨?_,hrows⟩,hk1.trans' hk2 (fun i hi h=>by have h1:=HM.out.2.1; have h2:=HM.out.2.2; rcases h with h | h <;> omega)⟩
    rw [← HL.out.1]; exact hrow
end Go.Proofs.YtmlgmhnplicflabGreat
namespace Go.Proofs.YtmlgmhnplicflabGreat
open Go.RowKit
set_option linter.unusedVariables false
theorem Mts.keepsE {w w':World} {v:Value} {L:List Mm} {E:Nat→Prop} (h:Mts w v L) (k:Keeps E w w') (hE :∀i,FootM v L i→¬ E i):Mts w' v L :=
 ⟨ownsRow_keeps h.row k (fun i hi=>hE i (Or.inl hi)),fun x hx=>ownsRow_keeps (h.rows x hx) k (fun i hi=>hE i (Or.inr ⟨x,hx,hi⟩))⟩
theorem Mts.lt {w:World} {v:Value} {L:List Mm} (h:Mts w v L) (i:Nat) (hi:FootM v L i):i < w.heap.size:=by
 rcases hi with hi | ⟨x,hx,hi⟩
 ·exact (h.row.lt i hi).2
 ·exact ((h.rows x hx).lt i hi).2
set_option maxHeartbeats 2000000 in
set_option maxRecDepth 100000 in
theorem law_ways (s u:ByteArray) (p:Int) (h0:s.size≤maxLen) (h1:u.size≤maxLen) (w:World) :
  Calls Tryz.prog 3 #[.string s,.string u,.int .i64 p] w fun e w'=>e = .returned (.bool true)∧Below w.heap.size w w':=by
 unfold maxLen at h0 h1
 by_cases hs:s.size≤1048576
 ·by_cases hu:u.size≤1048576
  ·have hSpec:=fun w=>sways_any (w:=w) (p:=p) hs hu
   have hImpl:=fun w=>ways_o (w:=w) (s:=s) (u:=u) (p:=p)
   have HSm:Hid (∀L:List Mm,L.map (·.1)=waysRef s u p→SmallM L∧mtN L 1≤1000000000000∧1≤mtN L 1):=by
    intro L hL
    have e1:=waysRef_few s u p
    rw [← hL,List.length_map] at e1
    have e2 :∀x∈L,x.1.gs.length≤9:=fun x hx=>waysRef_gs (by rw [← hL]; exact List.mem_map_of_mem hx)
    have e3:=mtN_le L 1 (fun x hx=>by have:=e2 x hx; omega)
    exact ⟨⟨by omega,fun x hx=>by have:=e2 x hx; omega⟩,by omega,mtN_ge _ _⟩
   generalize waysRef s u p=l at hSpec hImpl HSm
   have hsz:¬ (1048576:Int) < (s.size:Int):=by omega
   have huz:¬ (1048576:Int) < (u.size:Int):=by omega
   go_enter Tryz.func3,Tryz.ntmps3
   go_upto_region 6 with (go_at_call 9; refine (hSpec _).mono ?_; rintro e w2 ⟨aS,nS,cS,LS,rfl,hSm,hS,hk⟩)
   have hK:Keeps (fun k=>w.heap.size≤k) w w2:=hk.none
   have HLS:Hid (LS.map (·.1)=l):=hSm
   have hw2:=hK.size
   clear hk hSm
   go_upto_region 7 with (go_at_call 10; refine (hImpl _).mono ?_; rintro e w3 ⟨aG,nG,cG,LG,rfl,hGm,hG,hGs,hGf,hk⟩)
   have HltS:Hid (∀k,FootM (.slice aS nS cS) LS k→k < w2.heap.size):=hS.lt
   have HgeG:Hid (∀k,FootM (.slice aG nG cG) LG k→w2.heap.size≤k):=hGf
   have HLG:Hid (LG.map (·.1)=l):=hGm
   have HSG:=HSm.out LG hGm
   replace hK:=hK.trans hk.none
   replace hS:=hS.same hk
   obtain ⟨hSmall,hN1,hN0⟩:=HSG
   clear hk hGm hGf
   generalize hM:mtN LG 1=m at hN0 hN1
   have HM:Hid (mtN LG 1=m):=hM
   clear hM
   go_upto_region 17 with (first
    | (go_at_call 11; refine (eqMatchS_same hG hS (by rw [HLG.out,HLS.out]) hSmall).mono ?_; rintro e w5 ⟨rfl,hk⟩; replace hK:=hK.trans hk.none; replace hS:=hS.same hk; replace hG:=hG.same hk; clear hk)
    | (go_at_call 12; refine (markMatchS_any hG hGs hSmall (by omega) (by rw [HM.out]; exact hN1)).mono ?_; rw [HM.out]; rintro e w6 ⟨rfl,hPm,hk⟩; replace hK:=hK.trans' hk (fun i hi h=>by have:=HgeG.out i h; omega); replace hS:=hS.keepsE hk (fun i hi h=>by have h1:=HgeG.out i h; have h2:=HltS.out i hi; omega); clear hk hG)
    | (go_at_call 13; refine (heldMatchS_any hPm hSmall (by omega) (by rw [HM.out]; exact hN1)).mono ?_; rw [HM.out]; rintro e w7 ⟨rfl,hw7⟩; subst hw7))
   go_upto_region 18 with (go_at_call 10; refine (hImpl _).mono ?_; rintro e w8 ⟨aH,nH,cH,LH,rfl,hHm,hH,hHs,hHf,hk⟩)
   replace hK:=hK.trans hk.none
   replace hS:=hS.same hk
   replace hPm:=hPm.same hk
   have HLH:Hid (LH.map (·.1)=l):=hHm
   have hSmH:=(HSm.out LH hHm).1
   clear hHm hHs hHf hk
   go_wp2_with (first
    | (go_at_call 11; refine (eqMatchS_same hH hS (by rw [HLH.out,HLS.out]) hSmH).mono ?_; rintro e wA ⟨rfl,hk⟩; replace hK:=hK.trans hk.none; replace hPm:=hPm.same hk; clear hk)
    | (go_at_call 13; refine (heldMatchS_any hPm hSmall (by omega) (by rw [HM.out]; exact hN1)).mono ?_; rw [HM.out]; rintro e wB ⟨rfl,hwB⟩; subst hwB))
   go_ret
   exact ⟨rfl,hK.below _ (fun k hk h=>by omega) (Nat.le_refl _)⟩
  ·have hsz:¬ (1048576:Int) < (s.size:Int):=by omega
   have huz:(1048576:Int) < (u.size:Int):=by omega
   go_enter Tryz.func3,Tryz.ntmps3
   go_wp2
   go_ret
   exact ⟨rfl,Below.refl _ _⟩
 ·go_enter Tryz.func3,Tryz.ntmps3
  go_wp2
  go_ret
  exact ⟨rfl,Below.refl _ _⟩
end Go.Proofs.YtmlgmhnplicflabGreat
