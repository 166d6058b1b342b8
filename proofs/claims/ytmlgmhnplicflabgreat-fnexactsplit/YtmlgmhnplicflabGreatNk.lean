import Derived.Test.YtmlgmhnplicflabGreatYu
import Derived.Test.YtmlgmhnplicflabGreatNa
import Derived.Deep.RegionWith
import Derived.Test.YtmlgmhnplicflabGreatNm
import Derived.Test.YtmlgmhnplicflabGreatYv
namespace Go.Proofs.YtmlgmhnplicflabGreat
open Go.RowKit
set_option linter.unusedVariables false
theorem Sr.same {w w':World} {B:Nat} {v:Value} {L:List ByteArray} (h:Sr w B v L) (k:Keeps (fun _=>False) w w'):Sr w' B v L:=ownsRow_keeps h k (fun _ _ h=>h)
theorem sr_at {w:World} {B:Nat} {v:Value} {L:List ByteArray} (h:Sr w B v L) (hn:0 < L.length) :∃g cap,v = .slice (some ⟨g,0,none⟩) L.length cap∧B≤g:=by
 unfold Sr at h
 obtain ⟨_,⟨_,h0⟩ | ⟨g,cap,cur,rfl,hb,_⟩⟩:=h
 ·omega
 ·exact ⟨g,cap,rfl,hb⟩
theorem Sr.cellAt {w:World} {B g cap k:Nat} {L:List ByteArray} (h:Sr w B (.slice (some ⟨g,0,none⟩) L.length cap) L) (hk:k < L.length):w.cell? ⟨g,k,none⟩=some (.string L[k]):=by
 have h':w.ownsRow B 9 1 (.slice (some ⟨g,0,none⟩) L.length cap) L.length (L.map Value.string):=h
 rw [World.ownsRow.cellAt h' k (by omega)]
 simp [hk]
set_option maxHeartbeats 400000 in
theorem eqStringS_same {w:World} {b1 b2:Nat} {v1 v2:Value} {L:List ByteArray} (h1:Sr w b1 v1 L) (h2:Sr w b2 v2 L) (hl:L.length≤10000000) :
  Calls Tryz.prog 25 #[v1,v2] w fun e w'=>e = .returned (.bool true)∧Keeps (fun _=>False) w w':=by
 by_cases hn:0 < L.length
 ·obtain ⟨g1,c1,rfl,-⟩:=sr_at h1 hn
  obtain ⟨g2,c2,rfl,-⟩:=sr_at h2 hn
  go_enter Tryz.func25,Tryz.ntmps25
  go_wp2
  go_loopw [5] (fun i wr =>∃k:Nat,k≤L.length∧i = .int .i64 k∧Keeps (fun _=>False) w wr) (fun i _=>L.length - (intOf i).toNat)
  case atStart=>exact ⟨0,by omega,rfl,Keeps.refl _ _⟩
  case round =>
   obtain ⟨k,hk,rfl,hkp⟩:=hrel
   by_cases hlt:k < L.length
   ·have a1:=(h1.same hkp).cellAt hlt
    have a3:=(h2.same hkp).cellAt hlt
    have hkz:(k:Int) < (L.length:Int):=by omega
    generalize L[k]=x at a1 a3
    clear h1 h2
    go_wp2
    go_quiet (fail)
    go_wp2
    go_roundw
    case rel=>exact ⟨k + 1,by omega,by go_num,hkp.drewN _⟩
    case measure=>simp [intOf]; omega
   ·go_wp2
    go_ret
    exact ⟨rfl,hkp⟩
 ·have hl0:L = []:=List.eq_nil_of_length_eq_zero (by omega)
  subst hl0
  obtain ⟨a1,c1,rfl⟩:=own_form h1
  obtain ⟨a2,c2,rfl⟩:=own_form h2
  clear h1 h2
  go_enter Tryz.func25,Tryz.ntmps25
  go_wp2
  refine wp_loop_rounds 1 ?_
  rw [rounds_succ]
  go_wp2
  go_ret
  exact ⟨rfl,Keeps.refl _ _⟩
def dgs:Nat→Nat→ByteArray→ByteArray
 | 0,_,out=>out
 | f + 1,k,out=>if k=0 then out else dgs f (k / 10) (⟨#[48 + UInt8.ofNat (k % 10)]⟩ ++ out)
def mtx (k:Nat):ByteArray:=⟨#[109]⟩ ++ dgs 5 k ⟨#[]⟩
theorem conv_one2 (n:Int) (w:World):Sem.run Tryz.prog (convert 96 9 (Value.slice (some { block:=w.heap.size,off:=0 }) 1 1)) (w.alloc (Obj.cells #[Value.int IntKind.u8 n] 5)) = .ok (.string ⟨#[UInt8.ofNat n.toNat]⟩) (w.alloc (Obj.cells #[Value.int IntKind.u8 n] 5)):=by
 rw [run_convert_bytes_string _ 96 9 5 _ _ _ Tryz.underlying96 Tryz.underlying5 Tryz.underlying9]
 rw [run_bytesToString _ _ _ _ [n]]
 ·rfl
 ·exact run_loadCells_list _ _ [Value.int IntKind.u8 n] (by
   intro j v hj
   match j,hj with
   | 0,hj=>simp at hj; subst hj; simp [Addr.add])
set_option maxHeartbeats 1000000 in
set_option maxRecDepth 100000 in
theorem markText_any {w:World} {k:Nat} (h1:1≤k) (h2:k < 100000):Calls Tryz.prog 44 #[.int .i64 (k:Int)] w fun e w'=>e = .returned (.string (mtx k))∧Keeps (fun _=>False) w w':=by
 have hz:¬ (k:Int)≤0:=by omega
 go_enter Tryz.func44,Tryz.ntmps44
 go_wp2
 go_loopg [0,3] 5 (fun gl s0 s3 wr =>∃(j:Nat) (out:ByteArray),j < 10 ^ gl∧gl≤5∧out.size + gl≤5∧s0 = .int .i64 (j:Int)∧s3 = .string out∧Hid (dgs gl j out=dgs 5 k ⟨#[]⟩)∧Keeps (fun _=>False) w wr)
 case atStart=>exact ⟨k,⟨#[]⟩,by omega,by omega,Nat.le_refl 5,rfl,rfl,rfl,Keeps.refl _ _⟩
 case round =>
  obtain ⟨j,out,hj,hg5,ho,rfl,rfl,HD,hK⟩:=hrel
  by_cases hj0:j=0
  ·subst hj0
   have HX:Hid (out=dgs 5 k ⟨#[]⟩):=(by
    show _ = _
    rw [← HD.out]
    cases gk with
    | zero=>rfl
    | succ f=>simp [dgs])
   have hsz:¬ 9223372036854775807 < 1 + out.size:=by omega
   go_wp2_with fail
   go_ret
   exact ⟨by rw [mtx,← HX.out]; rfl,hK⟩
  ·obtain ⟨f,rfl⟩ :∃f,gk=f + 1:=⟨gk - 1,by
    cases gk with
    | zero=>simp at hj; omega
    | succ f=>rfl⟩
   have hjz:(0:Int) < (j:Int):=by omega
   have HX:Hid (dgs f (j / 10) (⟨#[48 + UInt8.ofNat (j % 10)]⟩ ++ out)=dgs 5 k ⟨#[]⟩):=(by show _ = _; rw [← HD.out,dgs,if_neg hj0])
   have hjl:j < 100000:=by
    have:(10:Nat) ^ (f + 1)≤10 ^ 5:=Nat.pow_le_pow_right (by omega) (by omega)
    omega
   have HJ:Hid (j / 10 < 10 ^ f):=(by show _ < _; rw [Nat.div_lt_iff_lt_mul (by omega)]; rw [Nat.pow_succ] at hj; exact hj)
   have hr:((j:Int)).tmod 10=((j % 10:Nat):Int):=by rw [Int.tmod_eq_emod_of_nonneg (by omega)]; omega
   have hq:((j:Int)).tdiv 10=((j / 10:Nat):Int):=by rw [Int.tdiv_eq_ediv_of_nonneg (by omega)]; omega
   have hml:j % 10 < 10:=Nat.mod_lt _ (by omega)
   have hdl:j / 10 < 100000:=by omega
   generalize hme:j % 10=m at hr hml HX
   generalize hde:j / 10=d at hq HX HJ hdl
   clear hme hde
   have hw:IntKind.u8.wrap (48 + (m:Int))=48 + (m:Int):=by unfold IntKind.wrap; simp [IntKind.bits,IntKind.signed]; omega
   have hcv:=conv_one2 (48 + (m:Int))
   have htn:(48 + (m:Int)).toNat=48 + m:=by omega
   rw [htn] at hcv
   have hsz:¬ 9223372036854775807 < 1 + out.size:=by omega
   clear hj
   go_wp2_with fail
   go_roundg (f + 1 - 1)
   case measure=>omega
   case rel=>exact ⟨d,_,HJ.out,by omega,by rw [ByteArray.size_append]; show 1 + out.size + f≤5; omega,rfl,rfl,HX,hK.alloc _⟩
def mkS (k:Nat) (n:Nat):List ByteArray:=(List.range n).map fun (j:Nat)=>mtx (k + j)
theorem mkS_len (k n:Nat):(mkS k n).length=n:=by simp [mkS]
theorem mkS_succ (k n:Nat):mkS k (n + 1)=mkS k n ++ [mtx (k + n)]:=by simp [mkS,List.range_succ]
theorem setS (L:List ByteArray) (k i:Nat) (h:i < L.length):((mkS k i ++ L.drop i).map Value.string).set i (.string (mtx (k + i)))=(mkS k (i + 1) ++ L.drop (i + 1)).map Value.string:=by
 rw [List.drop_eq_getElem_cons h,mkS_succ]
 have hl:((mkS k i).map Value.string).length=i:=by rw [List.length_map,mkS_len]
 rw [List.map_append,List.map_append,List.set_append_right _ _ (by omega),hl]
 simp only [List.map_cons,Nat.sub_self,List.set_cons_zero,List.map_append,List.map_nil,List.append_assoc,List.cons_append,List.nil_append]
set_option maxHeartbeats 1000000 in
theorem markStringS_any {w:World} {b:Nat} {v:Value} {L:List ByteArray} {k:Nat} (h:Sr w b v L) (hl:L.length≤1000) (hk0:1≤k) (hk:k≤1000) :
  Calls Tryz.prog 26 #[v,.int .i64 (k:Int)] w fun e w'=>e = .returned (.int .i64 ((k + L.length:Nat):Int))∧Sr w' b v (mkS k L.length)∧Keeps (fun j=>v.ownBlock=some j) w w':=by
 by_cases hn:0 < L.length
 ·obtain ⟨g,cap,rfl,-⟩:=sr_at h hn
  go_enter Tryz.func26,Tryz.ntmps26
  go_wp2
  go_loopw [1,5] (fun x i wr =>∃j:Nat,j≤L.length∧i = .int .i64 j∧x = .int .i64 ((k + j:Nat):Int)∧wr.ownsRow b 9 1 (.slice (some ⟨g,0,none⟩) L.length cap) L.length ((mkS k j ++ L.drop j).map Value.string)∧Keeps (fun j=>j=g) w wr) (fun _ i _=>L.length - (intOf i).toNat)
  case atStart=>exact ⟨0,by omega,rfl,rfl,by unfold Sr at h; simpa [mkS] using h,Keeps.refl _ _⟩
  case round =>
   obtain ⟨j,hj,rfl,rfl,hrow,hkp⟩:=hrel
   by_cases hlt:j < L.length
   ·have hlen:((mkS k j ++ L.drop j).map Value.string).length=L.length:=by simp [mkS_len]; omega
    have hjz:(j:Int) < (L.length:Int):=by omega
    have HS:Hid (((mkS k j ++ L.drop j).map Value.string).set j (.string (mtx (k + j)))=(mkS k (j + 1) ++ L.drop (j + 1)).map Value.string):=setS L k j hlt
    generalize ((mkS k j ++ L.drop j).map Value.string)=xs at hrow HS hlen
    have hkb:k + j≤3000:=by omega
    generalize hke:k + j=kj at *
    have HC:Hid (∀w2,Keeps (fun _=>False) wr w2→∃u,w2.cell? ⟨g,j,none⟩=some u∧w2.frozen? ⟨g,j,none⟩=false∧Hid ((w2.setCell ⟨g,j,none⟩ (.string (mtx kj))).ownsRow b 9 1 (.slice (some ⟨g,0,none⟩) L.length cap) L.length (xs.set j (.string (mtx kj)))∧Keeps (fun j=>j=g) w (w2.setCell ⟨g,j,none⟩ (.string (mtx kj))))):=by
     intro w2 hk2
     have hr2:=ownsRow_keeps hrow hk2 (fun _ _ h=>h)
     refine ⟨xs[j]'(by omega),?_,?_,(hr2.stored j (.string (mtx kj))).1,(hkp.trans (hk2.mono (fun _ _ h=>h.elim))).setCell (fun _=>rfl) _⟩
     ·rw [World.ownsRow.cellAt hr2 j (by omega)]; exact List.getElem?_eq_getElem (by omega)
     ·exact hr2.frozenAt j
    have hcall:=fun w1=>markText_any (w:=w1) (k:=kj) (by omega) (by omega)
    clear hrow hlen
    go_wp2_with (go_at_call 44; refine (hcall _).mono ?_; rintro e w2 ⟨rfl,hk2⟩; obtain ⟨u0,c3,f3,HF⟩:=HC.out _ hk2)
    go_roundw
    case rel=>exact ⟨j + 1,by omega,by go_num,congrArg (Value.int .i64) (by omega),by rw [← HS.out]; exact HF.out.1,HF.out.2⟩
    case measure=>simp [intOf]; omega
   ·obtain rfl:j=L.length:=by omega
    go_wp2
    go_ret
    refine ⟨rfl,by simpa [Sr,mkS_len] using hrow,hkp.mono fun i _ h=>by simp [Value.ownBlock,h]⟩
 ·have hl0:L = []:=List.eq_nil_of_length_eq_zero (by omega)
  subst hl0
  have h':=h
  obtain ⟨a1,c1,rfl⟩:=own_form h
  clear h
  go_enter Tryz.func26,Tryz.ntmps26
  go_wp2
  refine wp_loop_rounds 1 ?_
  rw [rounds_succ]
  go_wp2
  go_ret
  exact ⟨by simp,by simpa [mkS] using h',Keeps.refl _ _⟩
set_option maxHeartbeats 1000000 in
theorem heldStringS_any {w:World} {b:Nat} {v:Value} {n k:Nat} (h:Sr w b v (mkS k n)) (hn1:n≤1000) (hk0:1≤k) (hk:k≤1000) :
  Calls Tryz.prog 27 #[v,.int .i64 (k:Int)] w fun e w'=>e = .returned (.int .i64 ((k + n:Nat):Int))∧Keeps (fun _=>False) w w':=by
 by_cases hn:0 < n
 ·obtain ⟨g,cap,rfl,-⟩:=sr_at h (by rw [mkS_len]; exact hn)
  have k1 :∀wr,Keeps (fun _=>False) w wr→∀j,j < n→wr.cell? ⟨g,j,none⟩=some (.string (mtx (k + j))):=fun wr hkp j hj=>by
   have h2:=(h.same hkp).cellAt (k:=j) (by rw [mkS_len]; exact hj)
   rw [h2]
   simp [mkS]
  rw [mkS_len]
  clear h
  go_enter Tryz.func27,Tryz.ntmps27
  go_wp2
  go_loopw [1,5] (fun x i wr =>∃j:Nat,j≤n∧i = .int .i64 j∧x = .int .i64 ((k + j:Nat):Int)∧Keeps (fun _=>False) w wr) (fun _ i _=>n - (intOf i).toNat)
  case atStart=>exact ⟨0,by omega,rfl,rfl,Keeps.refl _ _⟩
  case round =>
   obtain ⟨j,hj,rfl,rfl,hkp⟩:=hrel
   by_cases hlt:j < n
   ·have a1:=k1 wr hkp j hlt
    have hjz:(j:Int) < (n:Int):=by omega
    have hkb:k + j≤3000:=by omega
    have HK:Hid (∀wr',Keeps (fun _=>False) w wr'→wr'.cell? ⟨g,j,none⟩=some (.string (mtx (k + j)))):=(by show∀_,_; exact fun wr' h=>k1 wr' h j hlt)
    generalize hke:k + j=kj at *
    clear k1
    go_wp2
    have hcall:=markText_any (w:=wr.drew) (k:=kj) (by omega) (by omega)
    go_region_with (go_at_call 44; refine hcall.mono ?_; rintro e w2 ⟨rfl,hk2⟩; have a3:w2.cell? ⟨g,j,none⟩=some (.string (mtx kj)):=HK.out w2 ((hkp.drew).trans hk2))
    all_goals go_wp2
    all_goals go_roundw
    all_goals (first
     | exact ⟨j + 1,by omega,by go_num,congrArg (Value.int .i64) (by omega),(hkp.drew).trans hk2⟩
     | (simp [intOf]; omega))
   ·obtain rfl:j=n:=by omega
    go_wp2
    go_ret
    exact ⟨rfl,hkp⟩
 ·obtain rfl:n=0:=by omega
  obtain ⟨a1,c1,rfl⟩:=own_form h
  rw [mkS_len]
  clear h hn
  go_enter Tryz.func27,Tryz.ntmps27
  go_wp2
  refine wp_loop_rounds 1 ?_
  rw [rounds_succ]
  go_wp2
  go_ret
  exact ⟨by simp,Keeps.refl _ _⟩
end Go.Proofs.YtmlgmhnplicflabGreat
namespace Go.Proofs.YtmlgmhnplicflabGreat
open Go.RowKit
set_option linter.unusedVariables false
theorem split_none_ref {s u:ByteArray} (h:Ask s u=none):splitRef s u = []:=by
 unfold splitRef
 rw [if_neg]
 rw [ask_wanted,h]
 simp
theorem split_some_ref {s u:ByteArray} {gp:Nat×List Pc} (h:Ask s u=some gp):splitRef s u=(spA u (allRef s u)).1 ++ [u.extract (spA u (allRef s u)).2 u.size]∧Ord u.size 0 (allRef s u)∧(allRef s u).length≤201:=by
 have hw:wanted s u 0=true:=by
  rw [ask_wanted,h]
  simp
 have hu:=ask_small h
 cases ht:treeRef s with
 | error x=>simp [wanted,ht] at hw
 | ok gf =>
   obtain ⟨g,f⟩:=gf
   obtain ⟨hfg,-,-,-⟩:=tree_fg ht
   have hX:OkX u.size 0 g (smx u [] f):=fp_ok u ⟨f,hfg,rfl⟩
   rw [allRef_eq hw ht]
   refine ⟨?_,allX_ord hX _ _ (Nat.zero_le _),?_⟩
   ·unfold splitRef
    rw [if_pos hw,allRef_eq hw ht]
   ·have:=allX_len hX (u.size + 2) 0 (Nat.zero_le _)
    omega
theorem spA_take {u:ByteArray} {l:List Mt} {k:Nat} (h:k < l.length):spA u (l.take (k + 1))=spS u (spA u (l.take k)) l[k]:=by
 rw [List.take_succ_eq_append_getElem h,spA_snoc]
set_option maxHeartbeats 2000000 in
set_option maxRecDepth 100000 in
theorem ssplit_any {w:World} {s u:ByteArray} (hs:s.size≤1048576) (hu:u.size≤1048576):Calls Tryz.prog 23 #[.string s,.string u] w (SplitP s u w):=by
 have hof:=l2of_any (w:=w) hs hu
 unfold OfPost at hof
 cases ha:Ask s u with
 | none =>
   rw [ha] at hof
   simp only at hof
   have HR:Hid (splitRef s u = []):=split_none_ref ha
   clear ha
   go_enter Tryz.func23,Tryz.ntmps23
   go_wp2_with (go_at_call 30; refine hof.mono ?_; rintro e w2 ⟨R,rfl,hk⟩)
   go_ret
   exact ⟨none,0,0,rfl,(by rw [HR.out]; exact World.ownsRow_nil _ _ _ _),hk⟩
 | some gp =>
   obtain ⟨g,ps⟩:=gp
   rw [ha] at hof
   simp only at hof
   have hof2:Calls Tryz.prog 30 #[.string s,.string u] w (fun e w2 =>∃Z,e = .returned (.tuple #[.pointer (some ⟨Z.R,0,none⟩),.bool true])∧Hid (Mr w2 Z g ps u∧w.heap.size≤Z.Bd∧w.heap.size≤Z.Bl)∧Keeps (fun _=>False) w w2):=by
    refine hof.mono ?_
    rintro e w2 ⟨Z,rfl,h1,h2,h3⟩
    exact ⟨Z,rfl,⟨h1,h2.1,h2.2⟩,h3⟩
   have HA:Hid (Ask s u=some (g,ps)):=ha
   clear ha hof
   go_enter Tryz.func23,Tryz.ntmps23
   go_wp2_with (first
    | (go_at_call 30; refine hof2.mono ?_; rintro e w2 ⟨Z,rfl,HM,hk1⟩; clear hof2)
    | (go_at_call 40; refine (sall HA.out HM.out.1).mono ?_; rintro e w3 ⟨ao,n,c,L,rfl,HL,hO,hM2,hk2⟩))
   obtain ⟨hRef,hOrd,hFew⟩:=split_some_ref HA.out
   have HRef:Hid (splitRef s u=(spA u (allRef s u)).1 ++ [u.extract (spA u (allRef s u)).2 u.size]):=hRef
   have hu200:=ask_small HA.out
   have hk13:Keeps (fun _=>False) w w3:=hk1.trans' hk2 (fun i hi h=>by have h1:=HM.out.2.1; have h2:=HM.out.2.2; rcases h with h | h <;> omega)
   have hn:n=L.length:=by obtain ⟨a',c',hv⟩:=own_form hO.row; cases hv; rfl
   have hrow:=hO.row
   have HLn:Hid (L.length=n):=hn.symm
   have HRows:Hid (∀x∈L,∃ax nx cx,x.2 = .slice ax nx cx):=fun x hx=>(by obtain ⟨ax,cx,h⟩:=own_form (hO.rows x hx); exact ⟨_,_,_,h⟩)
   have hnf:n≤201:=by rw [hn,← List.length_map (f:=fun x=>x.1),HL]; exact hFew
   have HO:Hid (Ord u.size 0 (L.map (·.1))):=(by show Ord _ _ _; rw [HL]; exact hOrd)
   have HLm:Hid (L.map (·.1)=allRef s u):=HL
   have hs13:=hk13.size
   rw [← hn] at hrow
   clear hO HL hRef hOrd hFew hn hM2 hk2 hk1 HM HA
   go_loopw [7,8,22] (fun o at_ i wr =>∃k:Nat,k≤n∧i = .int .i64 k∧at_ = .int .i64 ((spA u ((L.map (·.1)).take k)).2:Int)∧Sr wr w3.heap.size o (spA u ((L.map (·.1)).take k)).1∧Keeps (fun j=>w3.heap.size≤j) w3 wr) (fun _ _ i _=>n - (intOf i).toNat)
   case atStart=>exact ⟨0,by omega,rfl,rfl,World.ownsRow_nil _ _ _ _,Keeps.refl _ _⟩
   case round =>
    obtain ⟨k,hk,rfl,rfl,hSr,hK⟩:=hrel
    obtain ⟨a,ha⟩ :∃a,(spA u ((L.map (·.1)).take k)).2=a:=⟨_,rfl⟩
    have hfew:(spA u ((L.map (·.1)).take k)).1.length≤201:=by
     have h1:=sp_few (u:=u) ((L.map (·.1)).take k)
     rw [List.length_take] at h1
     omega
    have hwr:=hK.size
    obtain ⟨aS,nS,cS,hvf⟩ :∃aS nS cS,_=Value.slice aS nS cS:=by obtain ⟨ao,cap,h⟩:=own_form hSr; exact ⟨_,_,_,h⟩
    subst hvf
    rw [ha]
    by_cases hlt:k < n
    ·have hz:(k:Int) < (n:Int):=by omega
     have hkL:k < L.length:=by have:=HLn.out; omega
     have hkM:k < (L.map (·.1)).length:=by rw [List.length_map]; exact hkL
     have hmk:(L.map (·.1))[k]=L[k].1:=by simp
     have hr:=ownsRow_keeps hrow hK (fun j hj h=>by have:=(hrow.lt j hj).2; omega)
     obtain ⟨gm,rfl⟩ :∃gm,ao=some ⟨gm,0,none⟩:=by
      obtain ⟨m,rfl⟩ :∃m,n=m + 1:=⟨n - 1,by omega⟩
      obtain ⟨g,c',hv,-⟩:=own_some hr
      cases hv
      exact ⟨g,rfl⟩
     have m0:=hr.cellAt (k * 4) (by omega)
     have m1:=hr.cellAt (k * 4 + 1) (by omega)
     have m2:=hr.cellAt (k * 4 + 2) (by omega)
     have m3:=hr.cellAt (k * 4 + 3) (by omega)
     have e0:=cell4_get hkL 0 (by omega)
     rw [Nat.add_zero] at e0
     rw [e0] at m0
     clear e0
     rw [cell4_get hkL 1 (by omega)] at m1
     rw [cell4_get hkL 2 (by omega)] at m2
     rw [cell4_get hkL 3 (by omega)] at m3
     rw [show (cell4 L[k])[0]? = some (.bool L[k].1.ok) from rfl] at m0
     rw [show (cell4 L[k])[1]? = some (.int .i64 L[k].1.fr) from rfl] at m1
     rw [show (cell4 L[k])[2]? = some (.int .i64 L[k].1.up) from rfl] at m2
     rw [show (cell4 L[k])[3]? = some L[k].2 from rfl] at m3
     have HS:Hid (spA u ((L.map (·.1)).take (k + 1))=spS u (spA u ((L.map (·.1)).take k)) L[k].1):=(by show _ = _; rw [spA_take hkM,hmk])
     have hdrop:(L.map (·.1)).take k ++ L[k].1 :: (L.map (·.1)).drop (k + 1)=L.map (·.1):=by
      rw [← hmk,← List.drop_eq_getElem_cons hkM,List.take_append_drop]
     have hle:=sp_le ((L.map (·.1)).take k) L[k].1 ((L.map (·.1)).drop (k + 1)) 0 ([],0) (by rw [hdrop]; exact HO.out) (Nat.le_refl _)
     change ((spA u ((L.map (·.1)).take k)).2:Int)≤L[k].1.fr at hle
     rw [ha] at hle
     have hord2 :∀(l1:List Mt) (m:Mt) (l2:List Mt) (p:Nat),Ord u.size p (l1 ++ m :: l2)→m.fr≤m.up∧m.up≤(u.size:Int):=by
      intro l1
      induction l1 with
      | nil=>intro m l2 p h; exact ⟨h.2.1,h.2.2.1⟩
      | cons x l1 ih=>intro m l2 p h; exact ih m l2 _ h.2.2.2.1
     obtain ⟨hfu,hun⟩:=hord2 _ _ _ 0 (by rw [hdrop]; exact HO.out)
     obtain ⟨ax,nx,cx,hxv⟩:=HRows.out L[k] (List.getElem_mem hkL)
     rw [hxv] at m3
     clear hxv
     generalize L[k].1=x at m0 m1 m2 HS hle hfu hun
     obtain ⟨fN,hfN⟩ :∃fN:Nat,x.fr=(fN:Int):=⟨x.fr.toNat,by omega⟩
     obtain ⟨tN,htN⟩ :∃tN:Nat,x.up=(tN:Int):=⟨x.up.toNat,by omega⟩
     rw [hfN] at m1 hle hfu
     rw [htN] at m2 hfu hun
     have kB:Keeps (fun _=>False) wr (wr.alloc (.cells #[.bool x.ok,.int .i64 (fN:Int),.int .i64 (tN:Int),.slice ax nx cx] 29)):=(Keeps.refl _ _).alloc _
     have bB:(wr.alloc (.cells #[.bool x.ok,.int .i64 (fN:Int),.int .i64 (tN:Int),.slice ax nx cx] 29)).heap[wr.heap.size]? = some (.cells #[.bool x.ok,.int .i64 (fN:Int),.int .i64 (tN:Int),.slice ax nx cx] 29 (0,0)):=heap_alloc_new _ _
     go_upto_region 9 with fail
     clear m0 m1 m2 m3 HRows
     generalize (wr.alloc (.cells #[.bool x.ok,.int .i64 (fN:Int),.int .i64 (tN:Int),.slice ax nx cx] 29))=w4 at kB bB ⊢
     have d1:w4.cell? ⟨wr.heap.size,1,none⟩=some (.int .i64 (fN:Int)):=by rw [cell_of bB]; rfl
     have d2:w4.cell? ⟨wr.heap.size,2,none⟩=some (.int .i64 (tN:Int)):=by rw [cell_of bB]; rfl
     have hSr4:Sr w4 w3.heap.size (.slice aS nS cS) (spA u ((L.map (·.1)).take k)).1:=ownsRow_keeps hSr kB (fun _ _ h=>h)
     have hK4:Keeps (fun j=>w3.heap.size≤j) w3 w4:=hK.trans (kB.mono (fun _ _ h=>h.elim))
     have hw4:=kB.size
     by_cases cSk:tN=fN∧(fN=0∨fN=u.size)
     ·have hsk:spA u ((L.map (·.1)).take (k + 1))=spA u ((L.map (·.1)).take k):=by
       rw [HS.out,spS,if_pos (by rw [hfN,htN]; omega)]
      have HP:Hid (Sr w4 w3.heap.size (.slice aS nS cS) (spA u ((L.map (·.1)).take (k + 1))).1∧Value.int .i64 (a:Int) = .int .i64 ((spA u ((L.map (·.1)).take (k + 1))).2:Int)):=⟨by rw [hsk]; exact hSr4,by rw [hsk,ha]⟩
      have z1:((tN:Int) == (fN:Int))=true:=by simp; omega
      by_cases c0:fN=0
      ·have z2:((fN:Int) == 0)=true:=by simp; omega
       clear hSr4 hSr hsk cSk c0 hfN htN hle hfu hun HS hdrop hord2 hr hrow hmk ha hfew
       go_wp2
       go_roundw
       case rel=>exact ⟨k + 1,by omega,by go_num,HP.out.2,HP.out.1,hK4⟩
       case measure=>simp [intOf]; omega
      ·have z2:((fN:Int) == 0)=false:=by simp; omega
       have z3:((fN:Int) == (u.size:Int))=true:=by simp; omega
       clear hSr4 hSr hsk cSk c0 hfN htN hle hfu hun HS hdrop hord2 hr hrow hmk ha hfew
       go_wp2
       go_roundw
       case rel=>exact ⟨k + 1,by omega,by go_num,HP.out.2,HP.out.1,hK4⟩
       case measure=>simp [intOf]; omega
     ·have hns:spA u ((L.map (·.1)).take (k + 1))=((spA u ((L.map (·.1)).take k)).1 ++ [u.extract a fN],tN):=by
       rw [HS.out,spS,if_neg (by rw [hfN,htN]; omega),ha,hfN,htN]
       rfl
      obtain ⟨v2,w5,hrun,ho2,hk5,hbk⟩:=app_str hSr4 (by omega) (by omega) (u.extract a fN)
      obtain ⟨ao2,cp2,hv2⟩:=own_form ho2
      have HP:Hid (Sr w5 w3.heap.size v2 (spA u ((L.map (·.1)).take (k + 1))).1∧Value.int .i64 (tN:Int) = .int .i64 ((spA u ((L.map (·.1)).take (k + 1))).2:Int)∧Keeps (fun j=>w3.heap.size≤j) w3 w5):=⟨by rw [hns]; exact ho2,by rw [hns],hK4.trans (hk5.mono (fun j _ h=>(hSr4.lt j h).1))⟩
      have hsl:=fun w=>slice_str (u:=u) (a:=a) (b:=fN) (by omega) (by omega) w
      have d2':w5.cell? ⟨wr.heap.size,2,none⟩=some (.int .i64 (tN:Int)):=by
       have hb5:w5.heap[wr.heap.size]? = some (.cells #[.bool x.ok,.int .i64 (fN:Int),.int .i64 (tN:Int),.slice ax nx cx] 29 (0,0)):=by
        rw [hk5.block _ (lt_of_block bB) (fun h=>by have:=(hSr.lt _ h).2; omega)]
        exact bB
       rw [cell_of hb5]; rfl
      have z:(((tN:Int) == (fN:Int))=false)∨(((tN:Int) == (fN:Int))=true∧((fN:Int) == 0)=false∧((fN:Int) == (u.size:Int))=false):=by
       by_cases c:tN=fN
       ·exact Or.inr ⟨by simp; omega,by simp; omega,by simp; omega⟩
       ·exact Or.inl (by simp; omega)
      subst hv2
      clear hSr4 hSr hns cSk hfN htN hle hfu hun HS hdrop hord2 hr hrow hmk ha ho2 hk5 hbk
      generalize ((spA u ((L.map (·.1)).take k)).1 ++ [u.extract a fN]).length=nV at *
      rcases z with z1 | ⟨z1,z2,z3⟩
      ·go_wp2_with (at_builtin; refine wpList_append_run rfl _ _ _ _ rfl rfl _ _ _ _ rfl rfl hrun ?_)
       go_roundw
       case rel=>exact ⟨k + 1,by omega,by go_num,HP.out.2.1,HP.out.1,HP.out.2.2⟩
       case measure=>simp [intOf]; omega
      ·go_wp2_with (at_builtin; refine wpList_append_run rfl _ _ _ _ rfl rfl _ _ _ _ rfl rfl hrun ?_)
       go_roundw
       case rel=>exact ⟨k + 1,by omega,by go_num,HP.out.2.1,HP.out.1,HP.out.2.2⟩
       case measure=>simp [intOf]; omega
    ·have hz:¬ (k:Int) < (n:Int):=by omega
     have hT:(L.map (·.1)).take k=allRef s u:=by rw [← HLm.out]; exact List.take_of_length_le (by rw [List.length_map,HLn.out]; omega)
     rw [hT] at hSr ha hfew
     have hin:a≤u.size:=by
      have h1:=sp_in (allRef s u) 0 ([],0) (by rw [← HLm.out]; exact HO.out) (Nat.le_refl _) (Nat.zero_le _)
      change (spA u (allRef s u)).2≤u.size at h1
      omega
     obtain ⟨v2,w5,hrun,ho2,hk5,hbk⟩:=app_str hSr (by omega) (by omega) (u.extract a u.size)
     obtain ⟨ao2,cp2,hv2⟩:=own_form ho2
     have hsl :∀w:World,(Instr.slice 9 (.string u) (some (.int .i64 (a:Int))) none none).run Tryz.prog w = .ok (.string (u.extract a u.size)) w:=fun w=>by
      rw [run_slice_string_l (P:=Tryz.prog) (w:=w) (t:=9) (s:=u) Tryz.underlying9 .i64 (a:Int) (by omega) (by omega)]
      rfl
     have HF:Hid (SplitP s u w (.returned v2) w5):=by
      refine ⟨ao2,_,cp2,by rw [hv2],?_,?_⟩
      ·rw [HRef.out,ha,← hv2]
       exact ownsRow_base ho2 (fun j hj=>by have:=(ho2.lt j hj).1; omega)
      ·refine (hk13.trans' hK (fun i hi h=>by omega)).trans' hk5 (fun i hi h=>by have:=(hSr.lt i h).1; omega)
     subst hv2
     clear hSr ha hT ho2 hk5 hbk hrow
     generalize ((spA u (allRef s u)).1 ++ [u.extract a u.size]).length=nV at *
     go_wp2_with (at_builtin; refine wpList_append_run rfl _ _ _ _ rfl rfl _ _ _ _ rfl rfl hrun ?_)
     go_ret
     exact HF.out
end Go.Proofs.YtmlgmhnplicflabGreat
