import Derived.Test.YthkmmeamplmnhaaGreatDc
import Derived.Test.YthkmmeamplmnhaaGreatDb
import Derived.Test.YthkmmeamplmnhaaGreatDa
import Derived.Test.YthkmmeamplmnhaaGreatEa
import Derived.Deep.Cut
import Derived.Deep.CutRange
import Derived.Deep.DeepCutAuto
import Derived.Deep.CutBlock
import Derived.Deep.RegionWith
namespace Go.Proofs.YthkmmeamplmnhaaGreat
open Go.RowKit
set_option linter.unusedVariables false
theorem vpattern_all {cs:List Nat} {K M:Nat} (hN:KnD cs K M) (g:Nat) :∀n,VPatC cs K M g n:=by
 induction g using Nat.strongRecOn with
 | ind g ih1 =>
   intro n
   induction n using Nat.strongRecOn with
   | ind n ih2=>exact vpattern_step hN ih1 ih2
def GoodV (pl:Bool) (s:ByteArray):Prop:=s.size≤120∧∃g',Dr pl .pat 3 9 (bl s) g'
theorem good_const (pl:Bool):GoodV pl ⟨#[40,97,124,97,98,41,42,99,63]⟩:=by
 refine ⟨by decide,8,?_⟩
 have h1:Dr pl .pat 2 8 [97,124,97,98] 8:=by
  have a1:Dr pl .seq 2 8 ([] ++ [97]) 8:=.bare .nil (.fix (by cases pl <;> decide))
  have a2:Dr pl .seq 2 8 (([] ++ [97]) ++ [98]) 8:=.bare a1 (.fix (by cases pl <;> decide))
  exact .bar a1 (.one a2)
 have h2:Dr pl .atom 3 9 (40 :: ([97,124,97,98] ++ [41])) 8:=.grp h1
 have h3:Dr pl .seq 3 9 ([] ++ ((40 :: ([97,124,97,98] ++ [41])) ++ [42])) 8:=.cnt .nil h2 (by decide)
 have h4:Dr pl .seq 3 9 (([] ++ ((40 :: ([97,124,97,98] ++ [41])) ++ [42])) ++ ([99] ++ [63])) 8:=.cnt h3 (.fix (by cases pl <;> decide)) (by decide)
 exact .one h4
set_option maxHeartbeats 1000000 in
set_option maxRecDepth 100000 in
theorem vgood_any {cs:List Nat} {w:World} {R cap:Nat} {ao:Option Addr} {plain:Bool} (hl:cs.length≤1048576) (hD:Dw w R ao cs cap 0) :
  Calls Tryz.prog 29 #[.pointer (some ⟨R,0,none⟩),.bool plain] w fun e w' =>∃(s:ByteArray) (p:Nat),e = .returned (.string s)∧GoodV plain s∧p≤576460752303423488∧Dw w' R ao cs cap p∧Keeps (fun k=>k=R) w w':=by
 obtain ⟨K,M,hN⟩:=kn_is cs hl
 obtain ⟨q,hq0,hq,hw⟩:=hN.win 0
 have h2:=hN.two
 have h3:=hN.big
 have hcall:=vpattern_all hN 9 q w R cap 0 q ao 3 plain hD (by omega) (by omega) hw (by omega) (by omega) (by omega) (by omega)
 unfold VPatPost at hcall
 have HB:Hid (9 * K + q + 17≤576460752303423488):=(by show _≤_; omega)
 clear h2 h3 hq hw hq0
 go_enter Tryz.func29,Tryz.ntmps29
 go_wp2_with (go_at_call 52; refine hcall.mono ?_; rintro e w2 ⟨t,g',p',rfl,hg',hp',hb,ht,hD2,hk,hv⟩; have HV:Hid _:=hv; clear hv)
 all_goals go_ret
 ·exact ⟨_,p',rfl,good_const plain,by have:=HB.out; omega,hD2,hk⟩
 ·exact ⟨t,p',rfl,⟨by omega,g',HV.out⟩,by have:=HB.out; omega,hD2,hk⟩
end Go.Proofs.YthkmmeamplmnhaaGreat
namespace Go.Proofs.YthkmmeamplmnhaaGreat
open Go.RowKit
set_option linter.unusedVariables false
set_option maxRecDepth 100000
def RbD (w:World) (B:Nat) (v:Value) (l:List UInt8):Prop:=w.ownsRow B 5 1 v l.length (Esc.cellsOf l)
theorem rbD_add {w:World} {B:Nat} {v:Value} {l:List UInt8} {b:Nat} (h:RbD w B v l) (hb:B≤w.heap.size) (hl:l.length≤100000) (hb2:b < 256) :
  ∃ao n c w1,Sem.run Tryz.prog (Builtin.append_ #[22,22] 22 #[v,.slice (some ⟨w.heap.size,0,none⟩) 1 1]) (w.alloc (.cells #[.int .u8 (b:Int)] 5)) = .ok (.slice ao n c) w1∧RbD w1 B (.slice ao n c) (l ++ [UInt8.ofNat b])∧Below B w w1:=by
 obtain ⟨v',w1,hrun,ho,hbel⟩:=Esc.app_run w B 22 v l.length (Esc.cellsOf l) [(b:Int)] (by simp; omega) hb h
 have ho2:RbD w1 B v' (l ++ [UInt8.ofNat b]):=by
  unfold RbD
  have e:Esc.cellsOf (l ++ [UInt8.ofNat b])=Esc.cellsOf l ++ [(b:Int)].map (Value.int .u8):=by
   have:(UInt8.ofNat b).toNat=b:=by simp; omega
   simp [Esc.cellsOf,this]
  rw [e,List.length_append]
  exact ho
 obtain ⟨ao,c,hv⟩:=own_form ho2
 subst hv
 exact ⟨ao,_,c,w1,hrun,ho2,hbel⟩
theorem dpickD {w:World} {R cap p z:Nat} {ao:Option Addr} {cs:List Nat} (hD:Dw w R ao cs cap p) (hl:cs.length≤1048576) (hp2:p≤1152921504606846976) (h1:1 < z) (h2:z≤200) :
  Calls Tryz.prog 49 #[.pointer (some ⟨R,0,none⟩),.int .i64 (z:Int)] w fun e w'=>e = .returned (.int .i64 ((dr cs p % z:Nat):Int))∧Dw w' R ao cs cap (p + 1)∧Keeps (fun k=>k=R) w w':=by
 refine (dpick (z:=(z:Int)) hD hl hp2 (by omega) (by omega)).mono ?_
 rintro e w' ⟨k,hk,hkl,rfl,h3,h4⟩
 exact ⟨by rw [hk]; simp,h3,h4⟩
theorem Dw.below {w w':World} {R cap p B:Nat} {ao:Option Addr} {cs:List Nat} (h:Dw w R ao cs cap p) (hR:R < B) (ha :∀a,ao=some a→a.block < B) (hb:Below B w w'):Dw w' R ao cs cap p:=by
 have k5:Keeps (fun k=>B≤k) w w':=Keeps.ofBelow hb (fun k h _=>h)
 refine ⟨h.cur.keeps k5 (by omega),h.code.keeps k5 (fun a hh=>⟨(h.apart a hh).1,by have:=ha a hh; omega⟩),fun a hh=>⟨Nat.lt_of_lt_of_le (h.apart a hh).1 k5.size,(h.apart a hh).2⟩⟩
theorem keeps_belowR {E:Nat→Prop} {w wr w1:World} (h:Keeps E w wr) (b:Below w.heap.size wr w1):Keeps E w w1 :=
 ⟨b.os.trans h.os,b.tape.trans h.tape,b.output.trans h.output,Nat.le_trans h.size b.size,fun k hk he=>(b.block k hk).trans (h.block k hk he)⟩
theorem index_few (a:Nat) (h:a < 6) (w:World) :∃c:Nat,c < 256∧Sem.run Tryz.prog (Instr.index 9 (.string { data:=#[49,95,32,10,92,45] }) (.int .i64 (a:Int))) w = .ok (.int .u8 (c:Int)) w:=by
 rcases (show a=0∨a=1∨a=2∨a=3∨a=4∨a=5 from by omega) with h | h | h | h | h | h <;> subst h
 ·exact ⟨49,by omega,by kernel_rfl⟩
 ·exact ⟨95,by omega,by kernel_rfl⟩
 ·exact ⟨32,by omega,by kernel_rfl⟩
 ·exact ⟨10,by omega,by kernel_rfl⟩
 ·exact ⟨92,by omega,by kernel_rfl⟩
 ·exact ⟨45,by omega,by kernel_rfl⟩
set_option maxHeartbeats 2000000 in
theorem text_any {cs:List Nat} {w:World} {R cap p n:Nat} {ao:Option Addr} (hl:cs.length≤1048576) (hD:Dw w R ao cs cap p) (hp:p≤600000000000000000) (hn:1≤n) (hn2:n≤150) :
  Calls Tryz.prog 30 #[.pointer (some ⟨R,0,none⟩),.int .i64 (n:Int)] w fun e w' =>∃t:ByteArray,e = .returned (.string t)∧t.size≤n∧Keeps (fun k=>k=R) w w':=by
 have hRl:=hD.cur.lt
 have HA0:Hid (∀a,ao=some a→a.block < w.heap.size):=fun a ha=>(hD.apart a ha).1
 obtain ⟨z,hz⟩ :∃z,n + 1=z:=⟨_,rfl⟩
 have hpk:=dpickD (z:=z) hD hl (by omega) (by omega) (by omega)
 have hd0:dr cs p % z < z:=Nat.mod_lt _ (by omega)
 generalize dr cs p % z=k0 at hpk hd0
 have hd0:k0≤n:=by omega
 have en:(n:Int) + 1=(z:Int):=by omega
 clear hz
 go_enter Tryz.func30,Tryz.ntmps30
 go_wp2_with (go_at_call 49; refine hpk.mono ?_; clear hpk; rintro e w2 ⟨rfl,hD2,hk2⟩)
 clear hD en
 go_loopg [5,6] (k0 + 1) (fun gl o s6 wr =>∃(k p1:Nat) (acc:List UInt8),k + 1=gl∧acc.length + k≤n∧p1≤p + 1 + 2 * acc.length∧s6 = .int .i64 (k:Int)∧RbD wr w.heap.size o acc∧Dw wr R ao cs cap p1∧Keeps (fun k=>k=R) w wr)
 case atStart=>exact ⟨k0,p + 1,[],rfl,by simp; omega,by simp,rfl,World.ownsRow_nil _ _ _ _,hD2,hk2⟩
 case round =>
  obtain ⟨k,p1,acc,hgl,hal,hp1,rfl,hO,hDr,hK⟩:=hrel
  clear hD2 hk2
  have HG:Hid (k + 1=gk):=hgl
  clear hgl
  obtain ⟨a1,c1,hof⟩:=own_form hO
  subst hof
  have hws:=hK.size
  cases k with
  | zero =>
    have hp9:=dpickD (z:=9) hDr hl (by omega) (by omega) (by omega)
    have hd9:dr cs p1 % 9 < 9:=Nat.mod_lt _ (by omega)
    generalize dr cs p1 % 9=k9 at hp9 hd9
    have hO2 :∀w3,Keeps (fun k=>k=R) wr w3→RbD w3 w.heap.size (.slice a1 acc.length c1) acc:=fun w3 k3=>ownsRow_keeps hO k3 (fun k hk e=>by have:=(hO.lt k hk).1; omega)
    by_cases c9:k9=0∧acc.length < n
    ·obtain ⟨rfl,hla⟩:=c9
     have HN:Hid (∀w3,Keeps (fun k=>k=R) wr w3→∃a2 n2 c2 w5,Sem.run Tryz.prog (Builtin.append_ #[22,22] 22 #[.slice a1 acc.length c1,.slice (some ⟨w3.heap.size,0,none⟩) 1 1]) (w3.alloc (.cells #[.int .u8 10] 5)) = .ok (.slice a2 n2 c2) w5∧Sem.run Tryz.prog (convert 22 9 (.slice a2 n2 c2)) w5 = .ok (.string (Esc.ba (acc ++ [10]))) w5∧Hid (Keeps (fun k=>k=R) w w5)):=by
      intro w3 k3
      obtain ⟨a2,n2,c2,w5,hrun,ho5,hb5⟩:=rbD_add (b:=10) (hO2 w3 k3) (Nat.le_trans hws k3.size) (by omega) (by omega)
      exact ⟨a2,n2,c2,w5,hrun,Esc.conv_own ho5,keeps_belowR (hK.trans k3) hb5⟩
     have hsz:(Esc.ba (acc ++ [10])).size≤n:=by rw [Esc.ba_size]; simp; omega
     have hlz:(acc.length:Int) < (n:Int):=by omega
     clear hO hO2 hDr hK
     generalize acc ++ [10]=acc2 at *
     generalize acc.length=nA at *
     go_wp2_with (first
      | (go_at_call 49; refine hp9.mono ?_; clear hp9; rintro e w3 ⟨rfl,hD3,hk3⟩; obtain ⟨a2,n2,c2,w5,hrun,hcv,HK⟩:=HN.out _ hk3)
      | (at_builtin; refine wpList_append_run rfl _ _ _ _ rfl rfl _ _ _ _ rfl rfl hrun ?_))
     go_ret
     exact ⟨_,rfl,hsz,HK.out⟩
    ·have HN:Hid (∀w3,Keeps (fun k=>k=R) wr w3→Sem.run Tryz.prog (convert 22 9 (.slice a1 acc.length c1)) w3 = .ok (.string (Esc.ba acc)) w3∧Hid (Keeps (fun k=>k=R) w w3)):=fun w3 k3=>⟨Esc.conv_own (hO2 w3 k3),hK.trans k3⟩
     have hsz:(Esc.ba acc).size≤n:=by rw [Esc.ba_size]; omega
     have z:((k9:Int) == 0)=false∨(((k9:Int) == 0)=true∧¬ (acc.length:Int) < (n:Int)):=by
      by_cases h0:k9=0
      ·exact Or.inr ⟨by rw [beq_iff_eq]; omega,by omega⟩
      ·exact Or.inl (by rw [beq_eq_false_iff_ne]; omega)
     clear hO hO2 hDr hK c9
     generalize acc.length=nA at *
     rcases z with z | ⟨z,z2⟩
     ·go_wp2_with (first
       | (go_at_call 49; refine hp9.mono ?_; clear hp9; rintro e w3 ⟨rfl,hD3,hk3⟩; obtain ⟨hcv,HK⟩:=HN.out _ hk3))
      go_ret
      exact ⟨_,rfl,hsz,HK.out⟩
     ·go_wp2_with (first
       | (go_at_call 49; refine hp9.mono ?_; clear hp9; rintro e w3 ⟨rfl,hD3,hk3⟩; obtain ⟨hcv,HK⟩:=HN.out _ hk3))
      go_ret
      exact ⟨_,rfl,hsz,HK.out⟩
  | succ k =>
    have hkz:(0:Int) < ((k + 1:Nat):Int):=by omega
    have HN:Hid (∀(w3:World) (p3 b:Nat),Keeps (fun k=>k=R) wr w3→Dw w3 R ao cs cap p3→p3≤p1 + 2→b < 256→∃a2 n2 c2 w5,Sem.run Tryz.prog (Builtin.append_ #[22,22] 22 #[.slice a1 acc.length c1,.slice (some ⟨w3.heap.size,0,none⟩) 1 1]) (w3.alloc (.cells #[.int .u8 (b:Int)] 5)) = .ok (.slice a2 n2 c2) w5∧Hid (∃(p4:Nat) (acc2:List UInt8),acc2.length + k≤n∧p4≤p + 1 + 2 * acc2.length∧RbD w5 w.heap.size (.slice a2 n2 c2) acc2∧Dw w5 R ao cs cap p4∧Keeps (fun k=>k=R) w w5)):=by
     intro w3 p3 b k3 hD3 hp3 hb
     have hO3:RbD w3 w.heap.size (.slice a1 acc.length c1) acc:=ownsRow_keeps hO k3 (fun k hk e=>by have:=(hO.lt k hk).1; omega)
     obtain ⟨a2,n2,c2,w5,hrun,ho5,hb5⟩:=rbD_add (b:=b) hO3 (Nat.le_trans hws k3.size) (by omega) hb
     exact ⟨a2,n2,c2,w5,hrun,p3,_,by simp; omega,by simp; omega,ho5,hD3.below hRl HA0.out hb5,keeps_belowR (hK.trans k3) hb5⟩
    have hp12:=dpickD (z:=12) hDr hl (by omega) (by omega) (by omega)
    have hd12:dr cs p1 % 12 < 12:=Nat.mod_lt _ (by omega)
    generalize dr cs p1 % 12=k12 at hp12 hd12
    clear hO hDr hK
    by_cases c12:k12=0
    ·subst c12
     have HP:Hid (∀w3,Dw w3 R ao cs cap (p1 + 1)→Calls Tryz.prog 49 #[.pointer (some ⟨R,0,none⟩),.int .i64 6] w3 fun e w' =>∃k6:Nat,k6 < 6∧e = .returned (.int .i64 (k6:Int))∧Dw w' R ao cs cap (p1 + 1 + 1)∧Keeps (fun k=>k=R) w3 w'):=fun w3 h3=>by
      refine (dpickD (z:=6) h3 hl (by omega) (by omega) (by omega)).mono ?_
      rintro e w' ⟨rfl,h1,h2⟩
      exact ⟨_,Nat.mod_lt _ (by omega),rfl,h1,h2⟩
     generalize acc.length=nA at *
     go_upto_region 6 with (go_at_call 49; refine hp12.mono ?_; clear hp12; rintro e w3 ⟨rfl,hD3,hk3⟩)
     have hp6:=HP.out _ hD3
     go_wp2_with (first
      | (go_at_call 49; refine hp6.mono ?_; clear hp6; rintro e w4 ⟨k6,h6,rfl,hD4,hk4⟩; obtain ⟨cc,hcc,hix⟩:=index_few k6 h6 w4; obtain ⟨a2,n2,c2,w5,hrun,HF⟩:=HN.out w4 _ cc (hk3.trans hk4) hD4 (by omega) hcc)
      | (at_builtin; refine wpList_append_run rfl _ _ _ _ rfl rfl _ _ _ _ rfl rfl hrun ?_))
     obtain ⟨p4,acc2,r1,r2,r3,r4,r5⟩:=HF.out
     go_roundg (gk - 1)
     case measure=>have:=HG.out; omega
     case rel=>exact ⟨k,p4,acc2,by have:=HG.out; omega,r1,r2,congrArg (Value.int .i64) (by omega),r3,r4,r5⟩
    ·have z12:((k12:Int) == 0)=false:=by rw [beq_eq_false_iff_ne]; omega
     have HP:Hid (∀w3,Dw w3 R ao cs cap (p1 + 1)→Calls Tryz.prog 49 #[.pointer (some ⟨R,0,none⟩),.int .i64 3] w3 fun e w' =>∃k6:Nat,k6 < 3∧e = .returned (.int .i64 (k6:Int))∧Dw w' R ao cs cap (p1 + 1 + 1)∧Keeps (fun k=>k=R) w3 w'):=fun w3 h3=>by
      refine (dpickD (z:=3) h3 hl (by omega) (by omega) (by omega)).mono ?_
      rintro e w' ⟨rfl,h1,h2⟩
      exact ⟨_,Nat.mod_lt _ (by omega),rfl,h1,h2⟩
     generalize acc.length=nA at *
     go_upto_region 7 with (go_at_call 49; refine hp12.mono ?_; clear hp12; rintro e w3 ⟨rfl,hD3,hk3⟩)
     have hp6:=HP.out _ hD3
     go_wp2_with (first
      | (go_at_call 49; refine hp6.mono ?_; clear hp6; rintro e w4 ⟨k6,h6,rfl,hD4,hk4⟩; obtain ⟨cc,hcc⟩ :∃cc:Nat,97 + k6=cc:=⟨_,rfl⟩; have ecc:(97:Int) + (k6:Int)=(cc:Int):=(by omega); have hwc:IntKind.u8.wrap (cc:Int)=(cc:Int):=IntWalk.u8_in _ (by omega); obtain ⟨a2,n2,c2,w5,hrun,HF⟩:=HN.out w4 _ cc (hk3.trans hk4) hD4 (by omega) (by omega); clear hcc)
      | (at_builtin; refine wpList_append_run rfl _ _ _ _ rfl rfl _ _ _ _ rfl rfl hrun ?_))
     obtain ⟨p4,acc2,r1,r2,r3,r4,r5⟩:=HF.out
     go_roundg (gk - 1)
     case measure=>have:=HG.out; omega
     case rel=>exact ⟨k,p4,acc2,by have:=HG.out; omega,r1,r2,congrArg (Value.int .i64) (by omega),r3,r4,r5⟩
set_option maxHeartbeats 1000000 in
theorem vpln_any {cs:List Nat} {w:World} {cap:Nat} {ao:Option Addr} (hl:cs.length≤1048576) (hc:Dc w ao cs) (ha :∀a,ao=some a→a.block < w.heap.size) :
  Calls Tryz.prog 22 #[.slice ao cs.length cap] w fun e w' =>∃s t:ByteArray,e = .returned (.tuple #[.string s,.string t])∧GoodV true s∧t.size≤10∧Keeps (fun _=>False) w w':=by
 have kA:Keeps (fun _=>False) w (w.alloc (.cells #[.slice ao cs.length cap,.int .i64 0,.int .u64 0] 54)):=(Keeps.refl _ w).alloc _
 have hD:Dw (w.alloc (.cells #[.slice ao cs.length cap,.int .i64 0,.int .u64 0] 54)) w.heap.size ao cs cap 0 :=
  ⟨heap_alloc_new w _,hc.keeps kA (fun a h=>⟨ha a h,fun h=>h⟩),fun a h=>⟨Nat.lt_of_lt_of_le (ha a h) kA.size,by have:=ha a h; omega⟩⟩
 have hgo:=vgood_any (plain:=true) hl hD
 have HT:Hid (∀w2 p,Dw w2 w.heap.size ao cs cap p→p≤600000000000000000→Calls Tryz.prog 30 #[.pointer (some ⟨w.heap.size,0,none⟩),.int .i64 10] w2 fun e w' =>∃t:ByteArray,e = .returned (.string t)∧t.size≤10∧Keeps (fun k=>k=w.heap.size) w2 w'):=fun w2 p h2 hp=>text_any (n:=10) hl h2 hp (by omega) (by omega)
 clear hD
 go_enter Tryz.func22,Tryz.ntmps22
 go_wp2_with (first
  | (go_at_call 29; refine hgo.mono ?_; clear hgo; rintro e w2 ⟨s,p,rfl,hs,hp,hD2,hk2⟩; have htx:=HT.out _ _ hD2 (by omega))
  | (go_at_call 30; refine htx.mono ?_; clear htx; rintro e w3 ⟨t,rfl,ht,hk3⟩))
 go_ret2
 exact ⟨s,t,rfl,hs,ht,kA.trans' (hk2.trans hk3) (fun i hi h=>by omega)⟩
end Go.Proofs.YthkmmeamplmnhaaGreat
