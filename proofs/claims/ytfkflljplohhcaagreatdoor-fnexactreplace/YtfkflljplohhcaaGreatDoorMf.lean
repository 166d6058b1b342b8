import Derived.Test.YtfkflljplohhcaaGreatDoorMe
import Derived.Deep.RegionHeld3
import Derived.Test.YtfkflljplohhcaaGreatDoorC
set_option maxHeartbeats 8000000
set_option maxRecDepth 100000
namespace Go.Proofs.YtfkflljplohhcaaGreatDoor
open Go.RowKit
set_option linter.unusedVariables false
theorem Tryz.infoEnds2:(Tryz.prog.info? 158).map (fun i=>(i.zero,i.size,i.bytes))=some (some (.slice none 0 0),1,24):=by kernel_rfl
theorem Zjf (n:Nat) (hn:n<=1000000) (w:World):(Instr.makeSlice 75 (.int .i64 (n:Int)) (.int .i64 (n:Int))).run Tryz.prog w = .ok (.slice (some ⟨w.heap.size,0,none⟩) n n) (w.alloc (.cells ((List.range n).map (fun _=>Value.slice none 0 0)).toArray 158)):=by
 have h:=run_make_row' (P:=Tryz.prog) 75 158 (.slice none 0 0) 24 Tryz.underlying75 Tryz.infoEnds2 rfl .i64 .i64 n (by omega) (by omega) w;have e:madeCells #[Value.slice none 0 0] n=((List.range n).map (fun _=>Value.slice none 0 0)).toArray:=by
  apply Array.ext';rw [toList_madeCells_one];simp [List.map_const']
 rw [h,e]
theorem Zg1 (n:Nat) (hn:n<=1000000) (w:World):(Instr.makeSlice 74 (.int .i64 (n:Int)) (.int .i64 (n:Int))).run Tryz.prog w = .ok (.slice (some ⟨w.heap.size,0,none⟩) n n) (w.alloc (.cells (flv n sno).toArray 4)):=by
 have h:=run_make_row' (P:=Tryz.prog) 74 4 (.bool false) 1 Tryz.underlying74 Tryz.infoBool2 rfl .i64 .i64 n (by omega) (by omega) w;have e:madeCells #[Value.bool false] n=(flv n sno).toArray:=by
  apply Array.ext';rw [toList_madeCells_one];simp [flv,sno,List.map_const']
 rw [h,e]
def Ztu (at_:Int) (G:Nat) (pv:Value) (u:ByteArray) (ps:List Pc) (L:List Pm) (w:World) (e:Ending) (w':World):Prop :=
 ∃R Bd Bl:Nat,e = .returned (.pointer (some ⟨R,0,none⟩))/\MI w' ⟨R,Bd,Bl,at_,G,pv,u,ps,L⟩ N0_ N0_/\(w.heap.size<=Bd/\w.heap.size<=Bl)/\Za N0_ w w'
theorem ZrZ {w:World} {R Bd Bl G:Nat} {at_:Int} {pv:Value} {u:ByteArray} {ps:List Pc} {L:List Pm} (hp:Pcs w pv L) (n:Nat) (hn:n=ps.length * (u.size + 1))
  (h1:Bk w Bd 4 (flv n sno)) (h2:Bk w Bl 158 ((List.range n).map (fun _=>Value.slice none 0 0))) (h3:w.heap[R]? = some (.cells #[.bool true,.int .i64 at_,.int .i64 (G:Int),pv,.string u,.slice (some ⟨Bd,0,none⟩) n n,.slice (some ⟨Bl,0,none⟩) n n] 77 (0,0))) :
  MI w ⟨R,Bd,Bl,at_,G,pv,u,ps,L⟩ N0_ N0_:=by
 subst hn;exact ⟨h3,hp,sno,fun _ => .slice none 0 0,h1,h2,fun i p _ _ h=>by simp [sno] at h⟩
theorem ZjO (w:World) (x y z:Obj):(((w.alloc x).alloc y).alloc z).heap[w.heap.size]? = some x/\(((w.alloc x).alloc y).alloc z).heap[w.heap.size + 1]? = some y/\(((w.alloc x).alloc y).alloc z).heap[w.heap.size + 1 + 1]? = some z:=by
 refine ⟨?_,?_,?_⟩
 ·rw [Below.heap_alloc _ _ _ (by simp; omega)]; exact Zbc w x y
 ·rw [Below.heap_alloc _ _ _ (by simp)]; exact Zbi w x y
 ·have:=heap_alloc_new ((w.alloc x).alloc y) z
  simpa using this
theorem Zid {w w1:World} {x y:Obj} {R Bd Bl G:Nat} {at_:Int} {pv:Value} {u:ByteArray} {ps:List Pc} {L:List Pm} (hp:Pcs w1 pv L) (kA:Za N0_ w w1) (n:Nat) (hn:n=ps.length * (u.size + 1)) {z:Obj}
  (h1:(((w1.alloc x).alloc y).alloc z).heap[Bd]? = some (.cells (flv n sno).toArray 4 (0,0))) (h2:(((w1.alloc x).alloc y).alloc z).heap[Bl]? = some (.cells ((List.range n).map (fun _=>Value.slice none 0 0)).toArray 158 (0,0)))
  (h3:(((w1.alloc x).alloc y).alloc z).heap[R]? = some (.cells #[.bool true,.int .i64 at_,.int .i64 (G:Int),pv,.string u,.slice (some ⟨Bd,0,none⟩) n n,.slice (some ⟨Bl,0,none⟩) n n] 77 (0,0))) (hB1:w1.heap.size<=Bd) (hB2:w1.heap.size<=Bl):Ztu at_ G pv u ps L w (.returned (.pointer (some ⟨R,0,none⟩))) (((w1.alloc x).alloc y).alloc z).drew:=by
 have k:Za N0_ w1 (((w1.alloc x).alloc y).alloc z):=(((Za.refl _ _).alloc _).alloc _).alloc _;exact ⟨R,Bd,Bl,rfl,(ZrZ (hp.same k) n hn h1 h2 h3).same (Za.refl _ _).drew,⟨Nat.le_trans kA.size hB1,Nat.le_trans kA.size hB2⟩,(kA.trans k).drew⟩
theorem Zg2 {w:World} {at_:Int} {G:Nat} {pv:Value} {u:ByteArray} {ps:List Pc} {L:List Pm} (hp:Pcs w pv L) (hL:L.map (·.1)=ps) (hl:ps.length<=1000) (hu:u.size<=200) :
  Calls Tryz.prog 33 #[.agg #[.bool true,.int .i64 at_,.int .i64 (G:Int),pv],.string u] w (Ztu at_ G pv u ps L w):=by
 obtain ⟨ao,cap,rfl⟩:=Zd hp.row;have hLl:L.length=ps.length:=by rw [<- hL,List.length_map]
 obtain ⟨n,hn⟩ :∃n,L.length * (u.size + 1)=n:=⟨_,rfl⟩;have hm:(L.length:Int) * ((u.size:Int) + 1)=(n:Int):=by rw [<- hn]; push_cast; rfl
 have hnb:n<=1000 * 201:=by rw [<- hn]; exact Nat.mul_le_mul (by omega) (by omega)
 have HN:Hid (n=ps.length * (u.size + 1)):=(by show _ = _; rw [<- hn,hLl]);have hk1:=Zg1 n (by omega);have hk2:=Zjf n (by omega);have hLb:L.length<=1000:=by omega
 clear hn hLl;have kA:Za N0_ w (w.alloc (.cells #[.bool true,.int .i64 at_,.int .i64 (G:Int),.slice ao L.length cap] 33)):=(Za.refl _ _).alloc _;have hO:(w.alloc (.cells #[.bool true,.int .i64 at_,.int .i64 (G:Int),.slice ao L.length cap] 33)).heap[w.heap.size]? = some (.cells #[.bool true,.int .i64 at_,.int .i64 (G:Int),.slice ao L.length cap] 33 (0,0)):=heap_alloc_new w _;have hP1:=hp.same kA;go_enter Tryz.func33,Tryz.ntmps33;go_upto_region 1 with fail;generalize w.alloc (.cells #[.bool true,.int .i64 at_,.int .i64 (G:Int),.slice ao L.length cap] 33)=w1 at kA hO hP1 ⊢;generalize w.heap.size=P at hO ⊢;clear hp;have hC :∀w',Za N0_ w1 w'->w'.cell? ⟨P,0,none⟩=some (.bool true)/\w'.cell? ⟨P,1,none⟩=some (.int .i64 at_)/\w'.cell? ⟨P,2,none⟩=some (.int .i64 (G:Int))/\w'.cell? ⟨P,3,none⟩=some (.slice ao L.length cap):=fun w' k=>by
  have h:w'.heap[P]? = some (.cells #[.bool true,.int .i64 at_,.int .i64 (G:Int),.slice ao L.length cap] 33 (0,0)):=by rw [k.block P (lt_of_block hO) id]; exact hO
  refine ⟨?_,?_,?_,?_⟩ <;> rw [Zc h] <;> rfl
 have d3:=(hC w1 (Za.refl _ _)).2.2.2;go_upto_region 2 with fail;have HC:Hid (∀w',Za N0_ w1 w'->w'.cell? ⟨P,0,none⟩=some (.bool true)/\w'.cell? ⟨P,1,none⟩=some (.int .i64 at_)/\w'.cell? ⟨P,2,none⟩=some (.int .i64 (G:Int))/\w'.cell? ⟨P,3,none⟩=some (.slice ao L.length cap)):=hC;clear hC d3;have s0:=HC.out w1.drew (Za.refl _ _).drew;have s1:=fun o=>HC.out (w1.drew.alloc o) ((Za.refl _ _).drew.alloc o);have s2:=fun o o2=>HC.out ((w1.drew.alloc o).alloc o2) (((Za.refl _ _).drew.alloc o).alloc o2);have s3:=fun o o2 o3=>HC.out (((w1.drew.alloc o).alloc o2).alloc o3) ((((Za.refl _ _).drew.alloc o).alloc o2).alloc o3);go_region_held3 (fun w'=>w'.cell? ⟨P,0,none⟩=some (.bool true)/\w'.cell? ⟨P,1,none⟩=some (.int .i64 at_)/\w'.cell? ⟨P,2,none⟩=some (.int .i64 (G:Int))/\w'.cell? ⟨P,3,none⟩=some (.slice ao L.length cap)) (first | assumption | exact s1 _ | exact s2 _ _ | exact s3 _ _ _ | go_keep) (fail)
 all_goals (try go_wp2_with fail)
 all_goals go_ret
 ·exact Zid hP1 kA n HN.out (ZjO w1 _ _ _).1 (ZjO w1 _ _ _).2.1 (ZjO w1 _ _ _).2.2 (Nat.le_refl _) (Nat.le_succ _)
 ·exact Zid hP1 kA n HN.out (ZjO w1 _ _ _).2.1 (ZjO w1 _ _ _).1 (ZjO w1 _ _ _).2.2 (Nat.le_succ _) (Nat.le_refl _)
def Sml (ps:List Pc):Prop :=∀c∈ps,c.set.length<=1000/\c.kids.length<=1000
theorem Zai {a b:List Pc} (ha:Sml a) (hb:Sml b):Sml (a ++ b):=fun c hc=>(List.mem_append.1 hc).elim (ha c) (hb c)
theorem Zkw {fs:List Pf} (h :∀f∈fs,∀n,Sml (f n)) :∀n,Sml (cat fs n):=by
 induction fs with
 | nil=>intro n c h; simp [cat] at h
 | cons f fs ih =>
   intro n;simp only [cat];exact Zai (h f (by simp) n) (ih (fun g hg=>h g (by simp [hg])) _)
theorem Zbr {c:Pc} (h1:c.set.length<=1000) (h2:c.kids.length<=1000):Sml [c]:=fun d hd=>by simp at hd; subst hd; exact ⟨h1,h2⟩
theorem Zf8 (fs:List Pf) :∀n,(ends fs n).length=fs.length:=by
 induction fs with
 | nil=>intro n; rfl
 | cons f fs ih=>intro n; simp [ends,ih]
theorem Zsc {lo hi:Nat} {f:Pf} (h:Fg lo hi f) :∀n,Sml (f n) :=
 h (fun _ _ f =>∀n,Sml (f n))
   ⟨fun _ _ S n=>Zbr (by have:=Zc4 S 256; simp only [Zau,Q2]; omega) (by simp [Zau]),fun _ _ n=>Zbr (by simp) (by simp),fun _ _ n=>Zbr (by simp) (by simp),
    fun _ _ fs hl ih n=>Zai (Zkw ih n) (Zbr (by simp [ZI]) (by simp only [ZI,Zf8]; omega)),fun _ _ fs hl ih n=>Zai (Zkw ih n) (Zbr (by simp [ZI]) (by simp only [ZI,Zf8]; omega)),
    fun _ _ f a b lz _ _ _ _ ih n=>Zai (ih n) (Zbr (by simp) (by simp)),fun _ _ f _ ih n=>Zai (ih n) (Zbr (by simp) (by simp)),fun _ _ _ _ f _ _ ih=>ih⟩
theorem Zqv {s:ByteArray} {g:Nat} {ps:List Pc} (h:QO s = .ok (g,ps)) :∃f,Fg 0 g f/\ps=f 0/\1<=ps.length/\ps.length<=1000/\g<=9:=by
 unfold QO at h
 split at h
 ·simp at h
 ·rename_i hs
  split at h
  ·simp at h
  ·rename_i f q g' ha;have h1:=QD s 6 _ _ _ _ _ (Nat.zero_le _) (by omega) ha;have h2:=Zcy s 6 _ _ _ _ _ (Nat.zero_le _) (by omega) (by omega) ha
   split at h
   ·simp at h
   ·simp only [Except.ok.injEq,Prod.mk.injEq] at h;obtain ⟨e1,e2⟩:=h;subst e1 e2
    have:=h1.2.2.2 0
    exact ⟨f,h2.2,rfl,by omega,by omega,h1.2.2.1⟩
structure Mr (w:World) (Z:Mz) (g:Nat) (ps:List Pc) (u:ByteArray):Prop where
 ms:Ms Z
 knd:Knd Z.ps
 mi:MI w Z N0_ N0_
 eg:Z.G=g
 eps:Z.ps=ps
 eu:Z.u=u
 len:1<=Z.ps.length
def Ztm (g:Nat) (ps:List Pc) (u:ByteArray) (w:World) (e:Ending) (w':World):Prop :=∃Z,e = .returned (.tuple #[.pointer (some ⟨Z.R,0,none⟩),.bool true])/\Mr w' Z g ps u/\(w.heap.size<=Z.Bd/\w.heap.size<=Z.Bl)/\Za N0_ w w'
def Ztz (w:World) (e:Ending) (w':World):Prop :=∃R,e = .returned (.tuple #[.pointer (some ⟨R,0,none⟩),.bool false])/\Za N0_ w w'
def Ask (s u:ByteArray):Option (Nat×List Pc):=match QO s with
 | .ok v=>if u.size<=200 then some v else none
 | .error _=>none
def Zm1 (s u:ByteArray) (w:World) (e:Ending) (w':World):Prop:=match Ask s u with
 | some (g,ps)=>Ztm g ps u w e w'
 | none=>Ztz w e w'
theorem Zn7 {w:World} {s u:ByteArray} (hs:s.size<=1048576) (hu63:u.size<=1048576):Calls Tryz.prog 16 #[.string s,.string u] w (Zm1 s u w):=by
 have hrd:=Zfw s w hs;unfold Js at hrd;unfold Zm1 Ask
 cases hr:QO s with
 | error x =>
   rw [hr] at hrd;simp only at hrd ⊢;clear hr;go_enter Tryz.func16,Tryz.ntmps16;go_wp2_with (first
    | (go_at_call 9; refine hrd.mono ?_; rintro e w2 ⟨rfl,hk⟩))
   go_ret2;exact ⟨_,rfl,(hk.alloc _).alloc _⟩
 | ok v =>
   obtain ⟨g,ps⟩:=v;rw [hr] at hrd;simp only at hrd ⊢;obtain ⟨f,hf,hps,hl1,hl2,hg9⟩:=Zqv hr;have HV:Hid (VPs g 0 ps):=(by show VPs _ _ _; rw [hps]; exact Zsb hf (Nat.le_refl _) 0);have HK:Hid (Knd ps):=(by show Knd _; rw [hps]; exact Zsd hf 0);have HS:Hid (Sml ps):=(by show Sml _; rw [hps]; exact Zsc hf 0);clear hr hf hps
   by_cases hu:u.size<=200
   ·simp only [if_pos hu];have hz:¬ (200:Int) < (u.size:Int):=by omega
    go_enter Tryz.func16,Tryz.ntmps16;go_upto_region 2 with (first
     | (go_at_call 9; refine hrd.mono ?_; rintro e w2 ⟨v,L,rfl,hP,hL,hLl,hk⟩; obtain ⟨ao,cap,rfl⟩:=Zd hP.row))
    have kA:Za N0_ w2 (w2.alloc (.cells #[.bool true,.int .i64 0,.int .i64 (g:Int),.slice ao L.length cap] 33)):=(Za.refl _ _).alloc _;have hO:(w2.alloc (.cells #[.bool true,.int .i64 0,.int .i64 (g:Int),.slice ao L.length cap] 33)).heap[w2.heap.size]? = some (.cells #[.bool true,.int .i64 0,.int .i64 (g:Int),.slice ao L.length cap] 33 (0,0)):=heap_alloc_new w2 _;have hP2:=hP.same kA;generalize w2.alloc (.cells #[.bool true,.int .i64 0,.int .i64 (g:Int),.slice ao L.length cap] 33)=w3 at kA hO hP2 ⊢;generalize w2.heap.size=P at hO ⊢;have d0:w3.cell? ⟨P,0,none⟩=some (.bool true):=by rw [Zc hO]; rfl
    have d1:w3.cell? ⟨P,1,none⟩=some (.int .i64 0):=by rw [Zc hO]; rfl
    have d2:w3.cell? ⟨P,2,none⟩=some (.int .i64 (g:Int)):=by rw [Zc hO]; rfl
    have d3:w3.cell? ⟨P,3,none⟩=some (.slice ao L.length cap):=by rw [Zc hO]; rfl
    have hcall:=Zg2 (at_:=0) (G:=g) (u:=u) hP2 hL hl2 hu;have HL:Hid (L.map (·.1)=ps):=hL;clear hL hrd hP;go_wp2_with (first
     | (go_at_call 33; refine hcall.mono ?_; rintro e w5 ⟨R,Bd,Bl,rfl,hM,hB,hk5⟩; have HB:Hid (w.heap.size<=Bd/\w.heap.size<=Bl):=(by show _/\_; have h1:=hk.size; have h2:=kA.size; exact ⟨by omega,by omega⟩); clear hB))
    go_ret2;exact ⟨⟨R,Bd,Bl,0,g,_,u,ps,L⟩,rfl,⟨⟨hu,hg9,hl2,HV.out,HL.out,HS.out⟩,HK.out,hM,rfl,rfl,rfl,hl1⟩,HB.out,(hk.trans kA).trans hk5⟩
   ·simp only [if_neg hu];have hz:(200:Int) < (u.size:Int):=by omega
    go_enter Tryz.func16,Tryz.ntmps16;go_wp2_with (first
     | (go_at_call 9; refine hrd.mono ?_; rintro e w2 ⟨v,L,rfl,hP,hL,hLl,hk⟩; obtain ⟨ao,cap,rfl⟩:=Zd hP.row; clear hL))
    go_ret2;exact ⟨_,rfl,(hk.alloc _).alloc _⟩
def Zth (Z:Mz) (p:Nat) (w:World) (e:Ending) (w':World):Prop :=
 ∃v L,e = .returned v/\Mts w' v L/\L.map (·.1)=(Z.X (Z.ps.length - 1) p).map (QX Z.G p)/\MI w' Z N0_ N0_/\Za (ExM Z) w w'
theorem Zic {w w':World} {ov v':Value} {L:List Mm} {x:Mm} (h:Mts w ov L) (hx:SpR w x.2 x.1.gs) (k:Za (fun b=>ov.ownBlock=some b) w w') (ho:w'.ownsRow 0 38 4 v' (L ++ [x]).length ((L ++ [x]).flatMap Za0)):Mts w' v' (L ++ [x]):=by
 have hk :∀{v:Value} {gs:List (Int×Int)},SpR w v gs->SpR w' v gs:=fun h2=>Zb h2 k (fun b hb hb'=>Q6 h2 h.row (by decide) hb hb');refine ⟨ho,fun y hy=>?_⟩
 rcases List.mem_append.1 hy with hy | hy
 ·exact hk (h.rows y hy)
 ·simp at hy; subst hy; exact hk hx
theorem Zkg {w:World} {Z:Mz} {g p:Nat} {ps:List Pc} {u:ByteArray} (hr:Mr w Z g ps u) (hp:p<=Z.u.size) :
  Calls Tryz.prog 51 #[.pointer (some ⟨Z.R,0,none⟩),.int .i64 (p:Int)] w (Zth Z p w):=by
 have hg9:=hr.ms.g9;have hu:=hr.ms.u200;have hfew:=hr.ms.few;have hLl:Z.L.length=Z.ps.length:=by rw [<- hr.ms.lps,List.length_map]
 obtain ⟨la,hla⟩ :∃la,Z.ps.length=la + 1:=⟨Z.ps.length - 1,by have:=hr.len; omega⟩;have hE:=ZoK hr.ms hr.knd la (by omega);have hcall:=hE w N0_ N0_ p hr.mi (fun _ _ _ _ h=>h) (fun _ h=>h.elim) hp;have hOk:=Zfp (u:=Z.u) hr.ms.vps la (by omega);unfold Zbe at hcall;obtain ⟨gp,cp,hpv,hgp⟩:=ZT hr.mi.pcs.row (by omega);have m3:=hr.mi.mc.c3;rw [hpv,show Z.L.length=la + 1 by omega] at m3;obtain ⟨F,hFe⟩ :∃F,Z.X la p=F:=⟨_,rfl⟩;have HFE:Hid (Z.X (Z.ps.length - 1) p=F):=(by show _ = _; rw [hla]; exact hFe);have hFl:F.length<=201:=by
  have:=Zcs (hOk p hp).1 (fun y hy=>((hOk p hp).2 y hy).2.1)
  have e:Z.X la p=F:=hFe;unfold Mz.X at e;rw [e] at this;omega
 rw [hFe] at hcall;have hlab:la<=1000:=by omega
 clear hFe hOk hE hLl hpv hgp hla;go_enter Tryz.func51,Tryz.ntmps51;go_upto_region 3 with (first
  | (go_at_call 74; refine hcall.mono ?_; rintro e w1 ⟨fv,rfl,hf,-,hM1,hk1⟩; obtain ⟨af,cf,rfl⟩:=hf.form))
 clear hcall m3;go_wp2;go_loopg [5,7,8,10,22] (F.length + 1) (fun gl s5 _ _ _ s22 wr =>∃(a:Nat) (ov:Value) (L:List Mm),a + gl=F.length + 1/\a<=F.length/\s5=ov/\s22 = .int .i64 (a:Int)/\Hid (L.map (·.1)=(F.take a).map (QX Z.G p))/\Mts wr ov L/\(∀b,ov.ownBlock=some b->w1.heap.size<=b)/\Za N0_ w1 wr)
 case atStart=>exact ⟨0,_,[],by omega,by omega,rfl,rfl,(by show _ = _; simp),⟨World.ownsRow_nil _ _ _ _,by simp⟩,fun b h=>by simp [Value.ownBlock] at h,Za.refl _ _⟩
 case round =>
  obtain ⟨a,ov,L,hgl,ha,rfl,rfl,HL,hO,hov,hK⟩:=hrel;have HG:Hid (a + gk=F.length + 1):=hgl;clear hgl;obtain ⟨ao,co,hovf⟩:=Zd hO.row;subst hovf;have HLl:Hid (L.length=a):=(by show _ = _; have:=congrArg List.length HL.out; simp at this; omega)
  by_cases hlt:a < F.length
  ·have hz:(a:Int) < (F.length:Int):=by omega
   obtain ⟨g3,cap3,ah,ch,hv3,hg3,a0,a1,hgr⟩:=(hf.same hK).at hlt;simp only [Value.slice.injEq] at hv3;obtain ⟨rfl,_,rfl⟩:=hv3;have HTk:Hid ((F.take (a + 1)).map (QX Z.G p)=(F.take a).map (QX Z.G p) ++ [QX Z.G p F[a]]):=(by show _ = _; rw [QY F a hlt,List.map_append,List.map_singleton]);generalize F[a]=f at a0 a1 hgr HTk;obtain ⟨q,ef⟩:=f;simp only at a0 a1 hgr;go_upto_region 6 with fail;have kA:Za N0_ wr ((wr.alloc (.cells #[.int .i64 (q:Int),.slice ah Z.G ch] 161)).alloc (.cells #[.bool true,.int .i64 (p:Int),.int .i64 (q:Int),.slice none 0 0] 38)):=((Za.refl _ _).alloc _).alloc _;have hB1:Bk ((wr.alloc (.cells #[.int .i64 (q:Int),.slice ah Z.G ch] 161)).alloc (.cells #[.bool true,.int .i64 (p:Int),.int .i64 (q:Int),.slice none 0 0] 38)) wr.heap.size 161 [.int .i64 (q:Int),.slice ah Z.G ch]:=Zbc wr _ _;have hB2:Bk ((wr.alloc (.cells #[.int .i64 (q:Int),.slice ah Z.G ch] 161)).alloc (.cells #[.bool true,.int .i64 (p:Int),.int .i64 (q:Int),.slice none 0 0] 38)) (wr.heap.size + 1) 38 [.bool true,.int .i64 (p:Int),.int .i64 (q:Int),.slice none 0 0]:=Zbi wr _ _;have hP8:wr.heap.size<=wr.heap.size + 1:=by omega
   generalize ((wr.alloc (.cells #[.int .i64 (q:Int),.slice ah Z.G ch] 161)).alloc (.cells #[.bool true,.int .i64 (p:Int),.int .i64 (q:Int),.slice none 0 0] 38))=w4 at kA hB1 hB2 ⊢;generalize wr.heap.size + 1=P8 at hB2 hP8 ⊢;have b1:w4.cell? ⟨wr.heap.size,1,none⟩=some (.slice ah Z.G ch):=by rw [hB1.cell]; rfl
   clear hB1;obtain ⟨wo,rfl⟩ :∃wo:World,wo=wr:=⟨_,rfl⟩;obtain ⟨gq,rfl⟩ :∃gq:Nat,gq=gk:=⟨_,rfl⟩;go_wp2;go_loopg [10,33] (Z.G + 1) (fun gl _ s33 wi =>∃(b:Nat) (gsv:Value),b + gl=Z.G + 1/\b<=Z.G/\s33 = .int .i64 (b:Int)/\Bk wi P8 38 [.bool true,.int .i64 (p:Int),.int .i64 (q:Int),gsv]/\wi.ownsRow wo.heap.size 118 2 gsv b (ZB ((Zbx Z.G ef).take b))/\Za N0_ wo wi)
   case atStart=>exact ⟨0,_,by omega,by omega,rfl,hB2,by simpa [ZB] using World.ownsRow_nil w4 wo.heap.size 118 2,kA⟩
   case round =>
    clear hB2 kA b1;obtain ⟨b,gsv,hgl2,hb,rfl,hB,hgs,hki⟩:=hrel;have HG2:Hid (b + gk=Z.G + 1):=hgl2;clear hgl2;have HLb:Hid (((Zbx Z.G ef).take b).length=b):=(by show _ = _; rw [List.length_take,Jq]; omega)
    by_cases hlt2:b < Z.G
    ·have HLb1:Hid (((Zbx Z.G ef).take (b + 1)).length=b + 1):=(by show _ = _; rw [List.length_take,Jq]; omega);have hbz:(b:Int) < (Z.G:Int):=by omega
     obtain ⟨gh,ch',hvh,hgh⟩:=ZT hgr (by omega);simp only [Value.slice.injEq] at hvh;obtain ⟨rfl,_,rfl⟩:=hvh;have r0:=(hgr.same hki).cellAt (b * 2) (by omega);have r1:=(hgr.same hki).cellAt (b * 2 + 1) (by omega);rw [(Jy Z.G _ b hlt2).1] at r0;rw [(Jy Z.G _ b hlt2).2] at r1;have HTk2:Hid ((Zbx Z.G ef).take (b + 1)=(Zbx Z.G ef).take b ++ [(Zbx Z.G ef)[b]'(by rw [Jq]; exact hlt2)]):=QY _ b _
     cases he:ef b with
     | none =>
       have HTb:Hid ((Zbx Z.G ef).take (b + 1)=(Zbx Z.G ef).take b ++ [(-1,-1)]):=(by show _ = _; rw [HTk2.out,ZlS hlt2 he]);simp only [spv,he] at r0 r1;clear he HTk2;have kB:Za N0_ wr (wr.alloc (.cells #[.int .i64 (-1),.int .i64 (-1)] 118)):=(Za.refl _ _).alloc _;have hB3:=hB.keeps kB id;have hgs3:=Zb hgs kB (fun _ _ h=>h);obtain ⟨v',w9,hrun,ho,hk9⟩:=ZiG (gs:=(Zbx Z.G ef).take b) (by rw [HLb.out]; exact hgs3) (Nat.le_trans hki.size kB.size) (by rw [HLb.out]; omega) (-1) (-1);rw [<- HTb.out,HLb1.out] at ho;have hne :∀k,gsv.ownBlock=some k->k≠P8:=by
        rintro k hk rfl;obtain ⟨c2,h2⟩:=Zu hgs hk;unfold Bk at hB;rw [hB] at h2; simp at h2
       have hB9:=hB3.keeps hk9 (fun h=>hne _ h rfl);have hne9 :∀k,v'.ownBlock=some k->¬ k=P8:=by
        rintro k hk rfl;obtain ⟨c2,h2⟩:=Zu ho hk;have hB9':=hB9;unfold Bk at hB9';rw [hB9'] at h2; simp at h2
       have e3:w9.cell? ⟨P8,3,none⟩=some gsv:=by rw [hB9.cell]; rfl
       have f3:=hB9.fz 3;have d3:(wr.alloc (.cells #[.int .i64 (-1),.int .i64 (-1)] 118)).cell? ⟨P8,3,none⟩=some gsv:=by rw [hB3.cell]; rfl
       have hBf:=hB9.set 3 v';have hof:=Zb ho (ZL w9 P8 3 v') (fun k hk=>hne9 k hk);have hKf:Za N0_ wo (w9.setCell ⟨P8,3,none⟩ v'):=((hki.trans kB).trans' hk9 (fun k hk h=>by have:=(hgs.lt k h).1; omega)).setCell (fun h=>by simp at h; omega) _;obtain ⟨a7,c7,hg7⟩:=Zd hgs;obtain ⟨a8,c8,hg8⟩:=Zd ho;subst hg7 hg8;clear hB hB3 hgs hgs3 hB9 ho hk9 hne hne9 kB hki;have z0:(wr.alloc (.cells #[.int .i64 (-1),.int .i64 (-1)] 118)).cell? ⟨wr.heap.size,0,none⟩=some (.int .i64 (-1)):=by rw [(Qz wr [.int .i64 (-1),.int .i64 (-1)] 118).cell]; rfl
       have z1:(wr.alloc (.cells #[.int .i64 (-1),.int .i64 (-1)] 118)).cell? ⟨wr.heap.size,1,none⟩=some (.int .i64 (-1)):=by rw [(Qz wr [.int .i64 (-1),.int .i64 (-1)] 118).cell]; rfl
       go_upto_region 11 with fail
       generalize wr.alloc (.cells #[.int .i64 (-1),.int .i64 (-1)] 118)=wx at hrun d3 z0 z1 ⊢;go_wp2_with (refine Zk rfl _ _ _ _ rfl rfl _ _ _ _ rfl rfl hrun ?_);go_roundg (gk - 1)
       case measure=>have:=HG2.out; omega
       case rel=>exact ⟨b + 1,_,by have:=HG2.out; omega,by omega,congrArg (Value.int .i64) (by omega),hBf,hof,hKf⟩
     | some v =>
       obtain ⟨x,y⟩:=v;have HTb:Hid ((Zbx Z.G ef).take (b + 1)=(Zbx Z.G ef).take b ++ [((x:Int),(y:Int))]):=(by show _ = _; rw [HTk2.out,ZlR hlt2 he]);simp only [spv,he] at r0 r1;have hx2:((x:Int) == -2)=false:=by simp
       clear he HTk2;have kB:Za N0_ wr (wr.alloc (.cells #[.int .i64 (x:Int),.int .i64 (y:Int)] 118)):=(Za.refl _ _).alloc _;have hB3:=hB.keeps kB id;have hgs3:=Zb hgs kB (fun _ _ h=>h);obtain ⟨v',w9,hrun,ho,hk9⟩:=ZiG (gs:=(Zbx Z.G ef).take b) (by rw [HLb.out]; exact hgs3) (Nat.le_trans hki.size kB.size) (by rw [HLb.out]; omega) (x:Int) (y:Int);rw [<- HTb.out,HLb1.out] at ho;have hne :∀k,gsv.ownBlock=some k->k≠P8:=by
        rintro k hk rfl;obtain ⟨c2,h2⟩:=Zu hgs hk;unfold Bk at hB;rw [hB] at h2; simp at h2
       have hB9:=hB3.keeps hk9 (fun h=>hne _ h rfl);have hne9 :∀k,v'.ownBlock=some k->¬ k=P8:=by
        rintro k hk rfl;obtain ⟨c2,h2⟩:=Zu ho hk;have hB9':=hB9;unfold Bk at hB9';rw [hB9'] at h2; simp at h2
       have e3:w9.cell? ⟨P8,3,none⟩=some gsv:=by rw [hB9.cell]; rfl
       have f3:=hB9.fz 3;have d3:(wr.alloc (.cells #[.int .i64 (x:Int),.int .i64 (y:Int)] 118)).cell? ⟨P8,3,none⟩=some gsv:=by rw [hB3.cell]; rfl
       have hBf:=hB9.set 3 v';have hof:=Zb ho (ZL w9 P8 3 v') (fun k hk=>hne9 k hk);have hKf:Za N0_ wo (w9.setCell ⟨P8,3,none⟩ v'):=((hki.trans kB).trans' hk9 (fun k hk h=>by have:=(hgs.lt k h).1; omega)).setCell (fun h=>by simp at h; omega) _;obtain ⟨a7,c7,hg7⟩:=Zd hgs;obtain ⟨a8,c8,hg8⟩:=Zd ho;subst hg7 hg8;clear hB hB3 hgs hgs3 hB9 ho hk9 hne hne9 kB hki;have z0:(wr.alloc (.cells #[.int .i64 (x:Int),.int .i64 (y:Int)] 118)).cell? ⟨wr.heap.size,0,none⟩=some (.int .i64 (x:Int)):=by rw [(Qz wr [.int .i64 (x:Int),.int .i64 (y:Int)] 118).cell]; rfl
       have z1:(wr.alloc (.cells #[.int .i64 (x:Int),.int .i64 (y:Int)] 118)).cell? ⟨wr.heap.size,1,none⟩=some (.int .i64 (y:Int)):=by rw [(Qz wr [.int .i64 (x:Int),.int .i64 (y:Int)] 118).cell]; rfl
       go_upto_region 11 with fail
       generalize wr.alloc (.cells #[.int .i64 (x:Int),.int .i64 (y:Int)] 118)=wx at hrun d3 z0 z1 ⊢;go_wp2_with (refine Zk rfl _ _ _ _ rfl rfl _ _ _ _ rfl rfl hrun ?_);go_roundg (gk - 1)
       case measure=>have:=HG2.out; omega
       case rel=>exact ⟨b + 1,_,by have:=HG2.out; omega,by omega,congrArg (Value.int .i64) (by omega),hBf,hof,hKf⟩
    ·have HbG:Hid (b=Z.G):=(by show _ = _; omega);have hbz:¬ (b:Int) < (Z.G:Int):=by omega
     have hgs2:SpR wr gsv (Zbx Z.G ef):=by
      have e:(Zbx Z.G ef).take b=Zbx Z.G ef:=by rw [HbG.out]; exact List.take_of_length_le (by rw [Jq]; exact Nat.le_refl _)
      rw [e] at hgs;have h5:=Zr (base':=0) hgs (fun _ _=>Nat.zero_le _);rw [HbG.out] at h5;unfold SpR;rw [Jq];exact h5
     obtain ⟨a9,c9,hgsf⟩:=Zd hgs2;have hOi:=hO.same hki;obtain ⟨v',w9,hrun0,ho,hk9⟩:=Zgi (base:=w1.heap.size) (Zr hOi.row hov) (Nat.le_trans hK.size hki.size) (by have:=HLl.out; omega) (QX Z.G p (q,ef),gsv) hgsf;have hMt:=Zic (x:=(QX Z.G p (q,ef),gsv)) hOi hgs2 hk9 (Zr ho (fun _ _=>Nat.zero_le _));have hov2 :∀k,v'.ownBlock=some k->w1.heap.size<=k:=fun k hk=>(ho.lt k hk).1;have hKn:Za N0_ w1 w9:=(hK.trans hki).trans' hk9 (fun k hk h=>by have:=hov k h; omega);subst hgsf;have hrun:Sem.run Tryz.prog (Builtin.append_ #[25,25] 25 #[.slice ao L.length co,.slice (some ⟨wr.heap.size,0,none⟩) 1 1]) (wr.alloc (.cells #[.bool true,.int .i64 (p:Int),.int .i64 (q:Int),.slice a9 (Zbx Z.G ef).length c9] 38)) = .ok v' w9:=hrun0;have HLn:Hid ((L ++ [((QX Z.G p (q,ef),Value.slice a9 (Zbx Z.G ef).length c9):Mm)]).map (·.1)=(F.take (a + 1)).map (QX Z.G p)):=(by show _ = _; rw [HTk.out,List.map_append,HL.out]; rfl);obtain ⟨av,cv,hvf⟩:=Zd ho;subst hvf;simp only [List.length_append,List.length_singleton] at hMt hov2;have y0:wr.cell? ⟨P8,0,none⟩=some (.bool true):=by rw [hB.cell]; rfl
     have y1:wr.cell? ⟨P8,1,none⟩=some (.int .i64 (p:Int)):=by rw [hB.cell]; rfl
     have y2:wr.cell? ⟨P8,2,none⟩=some (.int .i64 (q:Int)):=by rw [hB.cell]; rfl
     have y3:wr.cell? ⟨P8,3,none⟩=some (.slice a9 (Zbx Z.G ef).length c9):=by rw [hB.cell]; rfl
     clear hrun0 ho hk9 hgs hgs2 hOi hO;go_wp2_with (refine Zk rfl _ _ _ _ rfl rfl _ _ _ _ rfl rfl hrun ?_);go_roundg (gq - 1)
     case measure=>have:=HG.out; omega
     case rel=>exact ⟨a + 1,_,_,by have:=HG.out; omega,by omega,rfl,congrArg (Value.int .i64) (by omega),HLn,hMt,hov2,hKn⟩
  ·obtain rfl:a=F.length:=by omega
   go_wp2;go_ret;refine ⟨_,L,rfl,hO,?_,hM1.same hK,hk1.trans (hK.mono (fun _ _ h=>h.elim))⟩;rw [HL.out,HFE.out,List.take_length]
end Go.Proofs.YtfkflljplohhcaaGreatDoor
