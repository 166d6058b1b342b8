import Derived.Test.YtmlgmhnplicflabGreatNb
import Derived.ProofKit
import Derived.OpenShut
import Derived.ShutString
namespace Go.Proofs.YtmlgmhnplicflabGreat
open Go.RowKit
set_option linter.unusedVariables false
set_option maxHeartbeats 2000000 in
set_option maxRecDepth 100000 in
theorem swhole_any {w:World} {s u:ByteArray} (hs:s.size≤1048576) (hu:u.size≤1048576):Calls Tryz.prog 19 #[.string s,.string u] w (OneQ (mtD (wholeRef s u)) 0 w):=by
 have k1:Keeps (fun _=>False) w (w.alloc (.cells #[.bool false,.int .i64 0,.int .i64 0,.slice none 0 0] 29)):=(Keeps.refl _ w).alloc _
 have b1:(w.alloc (.cells #[.bool false,.int .i64 0,.int .i64 0,.slice none 0 0] 29)).heap[w.heap.size]? = some (.cells #[.bool false,.int .i64 0,.int .i64 0,.slice none 0 0] 29 (0,0)):=heap_alloc_new w _
 have hs1:=lt_of_block b1
 have hof:=l2of_any (w:=w.alloc (.cells #[.bool false,.int .i64 0,.int .i64 0,.slice none 0 0] 29)) hs hu
 unfold OfPost at hof
 cases ha:Ask s u with
 | none =>
   rw [ha] at hof
   simp only at hof
   have hR:wholeRef s u=none:=by simp [wholeRef,ask_none ha]
   rw [hR]
   clear ha hR
   go_enter Tryz.func19,Tryz.ntmps19
   go_upto_region 2 with (go_at_call 30; refine hof.mono ?_; rintro e w2 ⟨R,rfl,hk⟩)
   clear hof
   have b2:w2.heap[w.heap.size]? = some (.cells #[.bool false,.int .i64 0,.int .i64 0,.slice none 0 0] 29 (0,0)):=(hk.block _ hs1 (fun h=>h)).trans b1
   generalize (w.alloc (.cells #[.bool false,.int .i64 0,.int .i64 0,.slice none 0 0] 29))=w1 at *
   have c0:w2.cell? ⟨w.heap.size,0,none⟩=some (.bool false):=by rw [cell_of b2]; rfl
   have c1:w2.cell? ⟨w.heap.size,1,none⟩=some (.int .i64 0):=by rw [cell_of b2]; rfl
   have c2:w2.cell? ⟨w.heap.size,2,none⟩=some (.int .i64 0):=by rw [cell_of b2]; rfl
   have c3:w2.cell? ⟨w.heap.size,3,none⟩=some (.slice none 0 0):=by rw [cell_of b2]; rfl
   have ef :∀i,w2.frozen? ⟨w.heap.size,i,none⟩=false:=fun i=>free_of b2
   clear b1 b2
   go_wp2_with fail
   refine bodyPost_ret (v:=.agg #[.bool false,.int .i64 0,.int .i64 0,.slice none 0 0]) (by simp [results,Tryz.results19,go_sem,c0,c1,c2,c3]) rfl ?_
   refine ⟨none,0,0,rfl,World.ownsRow_nil _ _ _ _,(k1.trans hk).trans' (E':=fun i=>i=w.heap.size) ?_ (fun i hi e=>by omega)⟩
   exact (((keeps_setCell _ _ _ _).trans (keeps_setCell _ _ _ _)).trans (keeps_setCell _ _ _ _)).trans (keeps_setCell _ _ _ _)
 | some gp =>
   obtain ⟨g,ps⟩:=gp
   rw [ha] at hof
   simp only at hof
   have hu200:=ask_small ha
   have hof2:Calls Tryz.prog 30 #[.string s,.string u] (w.alloc (.cells #[.bool false,.int .i64 0,.int .i64 0,.slice none 0 0] 29)) (fun e w2 =>∃Z,e = .returned (.tuple #[.pointer (some ⟨Z.R,0,none⟩),.bool true])∧Hid (Mr w2 Z g ps u∧w.heap.size + 1≤Z.Bd∧w.heap.size + 1≤Z.Bl)∧Keeps (fun _=>False) (w.alloc (.cells #[.bool false,.int .i64 0,.int .i64 0,.slice none 0 0] 29)) w2):=by
    refine hof.mono ?_
    rintro e w2 ⟨Z,rfl,h1,h2,h3⟩
    simp only [World.size_alloc] at h2
    exact ⟨Z,rfl,⟨h1,h2.1,h2.2⟩,h3⟩
   have HA:Hid (Ask s u=some (g,ps)):=ha
   clear ha hof
   go_enter Tryz.func19,Tryz.ntmps19
   go_wp2_with (first
    | (go_at_call 30; refine hof2.mono ?_; rintro e w2 ⟨Z,rfl,HM,hk1⟩; clear hof2)
    | (go_at_call 31; refine (sways (p:=0) HA.out HM.out.1 (Nat.zero_le _)).mono ?_; rintro e w3 ⟨ao,n,c,L,rfl,HL,hrow,hrows,hM2,hk2⟩))
   have HSZ:Hid ((w.alloc (.cells #[.bool false,.int .i64 0,.int .i64 0,.slice none 0 0] 29)).heap.size=w.heap.size + 1):=World.size_alloc _ _
   generalize (w.alloc (.cells #[.bool false,.int .i64 0,.int .i64 0,.slice none 0 0] 29))=w1 at *
   have hk13:Keeps (fun _=>False) w1 w3:=hk1.trans' hk2 (fun i hi h=>by have h1:=HM.out.2.1; have h2:=HM.out.2.2; have h3:=HSZ.out; rcases h with h | h <;> omega)
   have HRows:Hid (∀x∈L,SpR w3 x.2 x.1.gs∧∀i,x.2.ownBlock=some i→i≠w.heap.size):=fun x hx=>⟨hrows x hx,fun i hi e=>own_not_at (hrows x hx) ((hk13.block _ hs1 (fun h=>h)).trans b1) (by decide) (by rw [← e]; exact hi)⟩
   clear hrows hM2 HM hk1 hk2 HA
   have hn201:=HL.out.2.1
   go_loopg [8,21] (n + 1) (fun gl _ s11 wr =>∃k:Nat,k + gl=n + 1∧k≤n∧s11 = .int .i64 (k:Int)∧Hid (∀j (h:j < L.length),j < k→L[j].1.up≠(u.size:Int))∧Keeps (fun _=>False) w3 wr)
   case atStart=>exact ⟨0,by omega,by omega,rfl,fun j h hj=>by omega,Keeps.refl _ _⟩
   case round =>
    obtain ⟨k,hgl,hk,rfl,HN,hK⟩:=hrel
    have HG:Hid (k + gk=n + 1):=hgl
    clear hgl
    have b2:wr.heap[w.heap.size]? = some (.cells #[.bool false,.int .i64 0,.int .i64 0,.slice none 0 0] 29 (0,0)):=((hk13.trans hK).block _ hs1 (fun h=>h)).trans b1
    by_cases hlt:k < n
    ·have hz:(k:Int) < (n:Int):=by omega
     have hkL:k < L.length:=by have:=HL.out.1; omega
     have hr:=ownsRow_keeps hrow hK (fun _ _ h=>h)
     obtain ⟨gm,rfl⟩ :∃gm,ao=some ⟨gm,0,none⟩:=by
      obtain ⟨m,rfl⟩ :∃m,n=m + 1:=⟨n - 1,by omega⟩
      obtain ⟨g,c',hv,-⟩:=own_some hr
      cases hv
      exact ⟨g,rfl⟩
     have m0:=hr.cellAt (k * 4) (by omega)
     have m1:=hr.cellAt (k * 4 + 1) (by omega)
     have m2:=hr.cellAt (k * 4 + 2) (by omega)
     have m3:=hr.cellAt (k * 4 + 3) (by omega)
     have e0:=cell4_get hkL 0 (by omega)
     rw [Nat.add_zero] at e0
     rw [e0] at m0
     clear e0
     rw [cell4_get hkL 1 (by omega)] at m1
     rw [cell4_get hkL 2 (by omega)] at m2
     rw [cell4_get hkL 3 (by omega)] at m3
     have hx:=HRows.out L[k] (List.getElem_mem hkL)
     obtain ⟨ax,cx,hxv⟩:=own_form hx.1
     have HX:Hid (SpR wr L[k].2 L[k].1.gs):=ownsRow_keeps hx.1 hK (fun _ _ h=>h)
     have HX2:Hid (∀i,L[k].2.ownBlock=some i→i≠w.heap.size):=hx.2
     rw [show (cell4 L[k])[0]? = some (.bool L[k].1.ok) from rfl] at m0
     rw [show (cell4 L[k])[1]? = some (.int .i64 L[k].1.fr) from rfl] at m1
     rw [show (cell4 L[k])[2]? = some (.int .i64 L[k].1.up) from rfl] at m2
     rw [show (cell4 L[k])[3]? = some L[k].2 from rfl,hxv] at m3
     have HF:Hid (∀(wF:World),Keeps (fun i=>i=w.heap.size) wr wF→L[k].1.up=(u.size:Int)→OneQ (mtD (wholeRef s u)) 0 w (.returned (.agg #[.bool L[k].1.ok,.int .i64 L[k].1.fr,.int .i64 L[k].1.up,.slice ax L[k].1.gs.length cx])) wF):=by
      intro wF kF hup
      have hr2:SpR wF L[k].2 L[k].1.gs:=ownsRow_keeps HX.out kF (fun i hi e=>HX2.out i hi e)
      have hW:wholeRef s u=some L[k].1:=by
       unfold wholeRef
       have e3:=HL.out.2.2
       rw [show ((0:Nat):Int)=0 from rfl] at e3
       rw [← e3,List.find?_map]
       rw [List.find?_eq_some_iff_getElem.2 ⟨by simp [hup],k,hkL,rfl,fun j hj=>by have:=HN.out j (by omega) hj; simpa using this⟩]
       rfl
      rw [hW]
      exact ⟨ax,L[k].1.gs.length,cx,rfl,by rw [← hxv]; exact hr2,(k1.trans (hk13.trans hK)).trans' kF (fun i hi e=>by omega)⟩
     have HNX:Hid (L[k].1.up≠(u.size:Int)→∀j (h:j < L.length),j < k + 1→L[j].1.up≠(u.size:Int)):=by
      intro hne j h hj
      by_cases e:j=k
      ·subst e; exact hne
      ·exact HN.out j h (by omega)
     generalize L[k].1.gs.length=ng at m3 HF
     generalize L[k].1=x at m0 m1 m2 HF HNX
     clear hx hxv HX HX2 hr HN
     have kB:Keeps (fun _=>False) wr (wr.alloc (.cells #[.bool x.ok,.int .i64 x.fr,.int .i64 x.up,.slice ax ng cx] 29)):=(Keeps.refl _ _).alloc _
     have bB:(wr.alloc (.cells #[.bool x.ok,.int .i64 x.fr,.int .i64 x.up,.slice ax ng cx] 29)).heap[wr.heap.size]? = some (.cells #[.bool x.ok,.int .i64 x.fr,.int .i64 x.up,.slice ax ng cx] 29 (0,0)):=heap_alloc_new _ _
     have hne0:wr.heap.size≠w.heap.size:=by have:=lt_of_block b2; omega
     go_upto_region 7 with fail
     clear m0 m1 m2 m3
     generalize (wr.alloc (.cells #[.bool x.ok,.int .i64 x.fr,.int .i64 x.up,.slice ax ng cx] 29))=w4 at kB bB ⊢
     have b3:w4.heap[w.heap.size]? = some (.cells #[.bool false,.int .i64 0,.int .i64 0,.slice none 0 0] 29 (0,0)):=(kB.block _ (lt_of_block b2) (fun h=>h)).trans b2
     have c0:w4.cell? ⟨w.heap.size,0,none⟩=some (.bool false):=by rw [cell_of b3]; rfl
     have c1:w4.cell? ⟨w.heap.size,1,none⟩=some (.int .i64 0):=by rw [cell_of b3]; rfl
     have c2:w4.cell? ⟨w.heap.size,2,none⟩=some (.int .i64 0):=by rw [cell_of b3]; rfl
     have c3:w4.cell? ⟨w.heap.size,3,none⟩=some (.slice none 0 0):=by rw [cell_of b3]; rfl
     have ef :∀i,w4.frozen? ⟨w.heap.size,i,none⟩=false:=fun i=>free_of b3
     have d0:w4.cell? ⟨wr.heap.size,0,none⟩=some (.bool x.ok):=by rw [cell_of bB]; rfl
     have d1:w4.cell? ⟨wr.heap.size,1,none⟩=some (.int .i64 x.fr):=by rw [cell_of bB]; rfl
     have d2:w4.cell? ⟨wr.heap.size,2,none⟩=some (.int .i64 x.up):=by rw [cell_of bB]; rfl
     have d3:w4.cell? ⟨wr.heap.size,3,none⟩=some (.slice ax ng cx):=by rw [cell_of bB]; rfl
     clear b1 b2 b3 bB hrow
     by_cases hup:x.up=(u.size:Int)
     ·have HU:Hid (x.up=(u.size:Int)):=hup
      have hz2:(x.up == (u.size:Int))=true:=by simp [hup]
      clear hup
      go_wp2_with fail
      refine bodyPost_ret (v:=.agg #[.bool x.ok,.int .i64 x.fr,.int .i64 x.up,.slice ax ng cx]) (by simp [results,Tryz.results19,go_sem,c0,c1,c2,c3]) rfl ?_
      exact HF.out _ ((((((kB.mono (fun _ _ h=>h.elim)).trans (keeps_setCell _ _ _ _)).trans (keeps_setCell _ _ _ _)).trans (keeps_setCell _ _ _ _)).trans (keeps_setCell _ _ _ _))) HU.out
     ·have hz2:(x.up == (u.size:Int))=false:=by simpa using hup
      have HN2:=HNX.out hup
      have HN3:Hid (∀j (h:j < L.length),j < k + 1→L[j].1.up≠(u.size:Int)):=HN2
      clear hup HN2 HNX HF c0 c1 c2 c3 d0 d1 d3
      go_wp2_with fail
      go_roundg (gk - 1)
      case measure=>have:=HG.out; omega
      case rel=>exact ⟨k + 1,by have:=HG.out; omega,by omega,congrArg (Value.int .i64) (by omega),HN3,hK.trans kB⟩
    ·obtain rfl:k=n:=by omega
     have hz:¬ (k:Int) < (k:Int):=by omega
     have HF:Hid (wholeRef s u=none):=by
      show wholeRef s u=none
      unfold wholeRef
      have e3:=HL.out.2.2
      rw [show ((0:Nat):Int)=0 from rfl] at e3
      rw [← e3,List.find?_eq_none]
      intro m hm
      obtain ⟨y,hy,rfl⟩:=List.mem_map.1 hm
      obtain ⟨j,hj,rfl⟩:=List.getElem_of_mem hy
      have:=HN.out j hj (by have:=HL.out.1; omega)
      simpa using this
     have c0:wr.cell? ⟨w.heap.size,0,none⟩=some (.bool false):=by rw [cell_of b2]; rfl
     have c1:wr.cell? ⟨w.heap.size,1,none⟩=some (.int .i64 0):=by rw [cell_of b2]; rfl
     have c2:wr.cell? ⟨w.heap.size,2,none⟩=some (.int .i64 0):=by rw [cell_of b2]; rfl
     have c3:wr.cell? ⟨w.heap.size,3,none⟩=some (.slice none 0 0):=by rw [cell_of b2]; rfl
     have ef :∀i,wr.frozen? ⟨w.heap.size,i,none⟩=false:=fun i=>free_of b2
     clear HN hrow b1 b2
     go_wp2_with fail
     refine bodyPost_ret (v:=.agg #[.bool false,.int .i64 0,.int .i64 0,.slice none 0 0]) (by simp [results,Tryz.results19,go_sem,c0,c1,c2,c3]) rfl ?_
     rw [HF.out]
     refine ⟨none,0,0,rfl,World.ownsRow_nil _ _ _ _,(k1.trans (hk13.trans hK)).trans' (E':=fun i=>i=w.heap.size) ?_ (fun i hi e=>by omega)⟩
     exact (((keeps_setCell _ _ _ _).trans (keeps_setCell _ _ _ _)).trans (keeps_setCell _ _ _ _)).trans (keeps_setCell _ _ _ _)
end Go.Proofs.YtmlgmhnplicflabGreat
namespace Go.Proofs.YtmlgmhnplicflabGreat
open Go.RowKit
set_option linter.unusedVariables false
def MB (w:World) (P:Nat) (ok:Bool) (fr up:Int) (v:Value):Prop:=w.heap[P]? = some (.cells #[.bool ok,.int .i64 fr,.int .i64 up,v] 29 (0,0))
namespace MB
variable {w w':World} {P:Nat} {ok:Bool} {fr up:Int} {v:Value}
theorem lt (h:MB w P ok fr up v):P < w.heap.size:=lt_of_block h
theorem c0 (h:MB w P ok fr up v):w.cell? ⟨P,0,none⟩=some (.bool ok):=by rw [cell_of h]; rfl
theorem c1 (h:MB w P ok fr up v):w.cell? ⟨P,1,none⟩=some (.int .i64 fr):=by rw [cell_of h]; rfl
theorem c2 (h:MB w P ok fr up v):w.cell? ⟨P,2,none⟩=some (.int .i64 up):=by rw [cell_of h]; rfl
theorem c3 (h:MB w P ok fr up v):w.cell? ⟨P,3,none⟩=some v:=by rw [cell_of h]; rfl
theorem keeps {E:Nat→Prop} (h:MB w P ok fr up v) (k:Keeps E w w') (hE:¬ E P):MB w' P ok fr up v:=by
 unfold MB at h ⊢; rw [k.block P (lt_of_block h) hE]; exact h
theorem notOwn {b:Nat} {u:Value} {n:Nat} {xs:List Value} (h:MB w P ok fr up v) (hp:w.ownsRow b 77 2 u n xs):¬ u.ownBlock=some P:=own_not_at hp h (by decide)
end MB
abbrev Sr (w:World) (b:Nat) (v:Value) (gs:List (Int×Int)):Prop:=w.ownsRow b 77 2 v gs.length (flatR gs)
set_option maxHeartbeats 2000000 in
set_option maxRecDepth 100000 in
theorem law_whole (s u:ByteArray) (h0:s.size≤maxLen) (h1:u.size≤maxLen) (w:World) :
  Calls Tryz.prog 5 #[.string s,.string u] w fun e w'=>e = .returned (.bool true)∧Below w.heap.size w w':=by
 unfold maxLen at h0 h1
 by_cases hs:s.size≤1048576
 ·by_cases hu:u.size≤1048576
  ·have hSpec:=fun w=>swhole_any (w:=w) hs hu
   have hImpl:=fun w=>whole_q (w:=w) (s:=s) (u:=u)
   have hgs:=wholeRef_gs s u
   generalize mtD (wholeRef s u)=m at hSpec hImpl hgs
   obtain ⟨ok,fr,up,gs⟩:=m
   unfold OneQ at hSpec hImpl
   simp only at hSpec hImpl hgs
   have hl7:gs.length≤10000000:=by omega
   have hsz:¬ (1048576:Int) < (s.size:Int):=by omega
   have huz:¬ (1048576:Int) < (u.size:Int):=by omega
   go_enter Tryz.func5,Tryz.ntmps5
   go_upto_region 6 with (go_at_call 19; refine (hSpec _).mono ?_; rintro e w1 ⟨aS,nS,cS,rfl,hS,hk⟩; obtain ⟨aS',cS',hv⟩:=own_form hS; cases hv)
   have hK:Keeps (fun k=>w.heap.size≤k) w (w1.alloc (.cells #[.bool ok,.int .i64 fr,.int .i64 up,.slice aS gs.length cS] 29)):=hk.none.alloc _
   have hS2:Sr (w1.alloc (.cells #[.bool ok,.int .i64 fr,.int .i64 up,.slice aS gs.length cS] 29)) 0 (.slice aS gs.length cS) gs:=hS.alloc _
   have bS:MB (w1.alloc (.cells #[.bool ok,.int .i64 fr,.int .i64 up,.slice aS gs.length cS] 29)) w1.heap.size ok fr up (.slice aS gs.length cS):=heap_alloc_new w1 _
   clear hS hk
   generalize w1.alloc (.cells #[.bool ok,.int .i64 fr,.int .i64 up,.slice aS gs.length cS] 29)=w2 at hK hS2 bS ⊢
   generalize w1.heap.size=PS at bS ⊢
   have hw2:=hK.size
   go_upto_region 7 with (go_at_call 20; refine (hImpl _).mono ?_; rintro e w3 ⟨aG,nG,cG,rfl,hG,hk⟩; obtain ⟨aG',cG',hv⟩:=own_form hG; cases hv)
   have HltS:Hid (∀k,(Value.slice aS gs.length cS).ownBlock=some k→k < w2.heap.size):=fun k hk=>(hS2.lt k hk).2
   have HgeG:Hid (∀k,(Value.slice aG gs.length cG).ownBlock=some k→w2.heap.size≤k):=fun k hk=>(hG.lt k hk).1
   have kA:=hk.trans ((Keeps.refl (fun _=>False) w3).alloc (.cells #[.bool ok,.int .i64 fr,.int .i64 up,.slice aG gs.length cG] 29))
   replace hK:=hK.trans kA.none
   replace bS:=bS.keeps kA (fun h=>h)
   replace hS2:Sr _ _ _ _:=ownsRow_keeps hS2 kA (fun _ _ h=>h)
   have hG2:Sr (w3.alloc (.cells #[.bool ok,.int .i64 fr,.int .i64 up,.slice aG gs.length cG] 29)) w2.heap.size (.slice aG gs.length cG) gs:=hG.alloc _
   have bG:MB (w3.alloc (.cells #[.bool ok,.int .i64 fr,.int .i64 up,.slice aG gs.length cG] 29)) w3.heap.size ok fr up (.slice aG gs.length cG):=heap_alloc_new w3 _
   clear kA hk hG
   generalize w3.alloc (.cells #[.bool ok,.int .i64 fr,.int .i64 up,.slice aG gs.length cG] 29)=w4 at hK hS2 hG2 bS bG ⊢
   generalize w3.heap.size=PG at bG ⊢
   have c0:=bS.c0; have c1:=bS.c1; have c2:=bS.c2; have c3:=bS.c3
   have d0:=bG.c0; have d1:=bG.c1; have d2:=bG.c2; have d3:=bG.c3
   go_upto_region 17 with (first
    | (go_at_call 16; refine (eqMatch_same hG2 hS2 hl7).mono ?_; rintro e w5 ⟨rfl,hk⟩; replace hK:=hK.trans hk.none; replace hS2:Sr _ _ _ _:=ownsRow_keeps hS2 hk (fun _ _ h=>h); replace hG2:Sr _ _ _ _:=ownsRow_keeps hG2 hk (fun _ _ h=>h); replace bS:=bS.keeps hk (fun h=>h); replace bG:=bG.keeps hk (fun h=>h); clear hk; have d0:=bG.c0; have d1:=bG.c1; have d2:=bG.c2; have d3:=bG.c3)
    | (go_at_call 17; refine (markMatch_any hG2 hl7 (by omega) (by omega)).mono ?_; rintro e w6 ⟨rfl,hPm,hk⟩; replace hK:=hK.trans' hk (fun i hi h=>by have:=HgeG.out i h; omega); replace hS2:Sr _ _ _ _:=ownsRow_keeps hS2 hk (fun i hi h=>by have h1:=HgeG.out i h; have h2:=HltS.out i hi; omega); replace bS:=bS.keeps hk (bS.notOwn hG2); replace bG:=bG.keeps hk (bG.notOwn hG2); clear hk hG2; have d0:=bG.c0; have d1:=bG.c1; have d2:=bG.c2; have d3:=bG.c3)
    | (go_at_call 18; refine (heldMatch_any hPm hl7 (by omega) (by omega)).mono ?_; rintro e w7 ⟨rfl,hk⟩; replace hK:=hK.trans hk.none; replace hS2:Sr _ _ _ _:=ownsRow_keeps hS2 hk (fun _ _ h=>h); replace hPm:=ownsRow_keeps hPm hk (fun _ _ h=>h); replace bS:=bS.keeps hk (fun h=>h); replace bG:=bG.keeps hk (fun h=>h); clear hk))
   clear c0 c1 c2 c3 d0 d1 d2 d3
   go_upto_region 18 with (go_at_call 20; refine (hImpl _).mono ?_; rintro e w8 ⟨aH,nH,cH,rfl,hH,hk⟩; obtain ⟨aH',cH',hv⟩:=own_form hH; cases hv)
   have kA:=hk.trans ((Keeps.refl (fun _=>False) w8).alloc (.cells #[.bool ok,.int .i64 fr,.int .i64 up,.slice aH gs.length cH] 29))
   replace hK:=hK.trans kA.none
   replace hS2:Sr _ _ _ _:=ownsRow_keeps hS2 kA (fun _ _ h=>h)
   replace hPm:=ownsRow_keeps hPm kA (fun _ _ h=>h)
   replace bS:=bS.keeps kA (fun h=>h)
   replace bG:=bG.keeps kA (fun h=>h)
   have hH2:Sr (w8.alloc (.cells #[.bool ok,.int .i64 fr,.int .i64 up,.slice aH gs.length cH] 29)) _ (.slice aH gs.length cH) gs:=hH.alloc _
   have bH:MB (w8.alloc (.cells #[.bool ok,.int .i64 fr,.int .i64 up,.slice aH gs.length cH] 29)) w8.heap.size ok fr up (.slice aH gs.length cH):=heap_alloc_new w8 _
   clear hH kA hk
   generalize w8.alloc (.cells #[.bool ok,.int .i64 fr,.int .i64 up,.slice aH gs.length cH] 29)=w9 at hK hS2 hPm hH2 bS bG bH ⊢
   generalize w8.heap.size=PH at bH ⊢
   have c0:=bS.c0; have c1:=bS.c1; have c2:=bS.c2; have c3:=bS.c3
   have d0:=bH.c0; have d1:=bH.c1; have d2:=bH.c2; have d3:=bH.c3
   go_wp2_with (first
    | (go_at_call 16; refine (eqMatch_same hH2 hS2 hl7).mono ?_; rintro e wA ⟨rfl,hk⟩; replace hK:=hK.trans hk.none; replace hPm:=ownsRow_keeps hPm hk (fun _ _ h=>h); replace bG:=bG.keeps hk (fun h=>h); clear hk; have e0:=bG.c0; have e1:=bG.c1; have e2:=bG.c2; have e3:=bG.c3)
    | (go_at_call 18; refine (heldMatch_any hPm hl7 (by omega) (by omega)).mono ?_; rintro e wB ⟨rfl,hk⟩; replace hK:=hK.trans hk.none; clear hk))
   go_ret
   exact ⟨rfl,hK.below _ (fun k hk h=>by omega) (Nat.le_refl _)⟩
  ·have hsz:¬ (1048576:Int) < (s.size:Int):=by omega
   have huz:(1048576:Int) < (u.size:Int):=by omega
   go_enter Tryz.func5,Tryz.ntmps5
   go_wp2
   go_ret
   exact ⟨rfl,Below.refl _ _⟩
 ·go_enter Tryz.func5,Tryz.ntmps5
  go_wp2
  go_ret
  exact ⟨rfl,Below.refl _ _⟩
end Go.Proofs.YtmlgmhnplicflabGreat
namespace Go.Proofs.YtmlgmhnplicflabGreat.fnExactWhole
open Go.ChangeShapes Go.WideShapes Go.ChangeAt Go.RowKit
open Go.ChangeMaps (open_string shut_string)
set_option linter.unusedVariables false
theorem own:ownKnob Tryz.prog.godebug=none:=by kernel_rfl
set_option maxRecDepth 100000 in
theorem lifted (os:Os) (started:os.Started) (H:Type) (enc:TypeId×Value→H) :
  ReturnsInHanded {} Tryz.checked os 5 .any (Rows.fnExactWholeSpec.pre6 enc Tryz.prog Tryz.f5 Rows.fnExactWholeRow.domain false) (Rows.fnExactWholeSpec.post enc Tryz.prog Tryz.f5 false true false false):=by
 refine returnsInHanded_of_change (C:=Tryz.checked) own started (by kernel_rfl) Tryz.func5
  (ChangeSpec.witness6 (enc:=enc) (C:=Tryz.checked) false ⟨#[],#[.string ByteArray.empty,.string ByteArray.empty],[]⟩ 8 (by kernel_rfl) (by kernel_rfl) (by kernel_rfl) (by kernel_rfl)) ?_
 intro W base args ds gs before hval0 hW hcnd _
 have hval :∀(j:Nat) t v,Tryz.f5.params[j]? = some t→args[j]? = some v→Value.okWide Tryz.prog W .any base t v:=hval0
 have hW':=hW
 obtain ⟨p,q,hA0,hV,rfl,hfz,hnd⟩:=hW
 have hA:DataW.TrodAll enc Tryz.prog W 0 (fun _=>true) true Tryz.f5.params.toList args.toList ds p:=hA0
 rw [Tryz.params5] at hA hval
 obtain ⟨v0,vs0,d0,ds0,p0,q0,hargs,rfl,rfl,h0,r0⟩:=trodAll_cons hA
 obtain ⟨v1,vs1,d1,ds1,p1,q1,rfl,rfl,rfl,h1,r1⟩:=trodAll_cons r0
 obtain ⟨rfl,rfl,rfl⟩:=trodAll_nil r1
 obtain rfl:args = #[v0,v1]:=by cases args; simp_all
 obtain ⟨rfl,rfl⟩:=trodVars_none hV
 obtain ⟨a0,rfl,rfl,rfl,w0⟩:=open_string Tryz.underlying9 (hval 0 9 v0 rfl rfl) h0
 obtain ⟨a1,rfl,rfl,rfl,w1⟩:=open_string Tryz.underlying9 (hval 1 9 v1 rfl rfl) h1
 clear hA0 hval0
 simp only [List.append_nil] at hW'
 refine (law_whole a0 a1 w0 w1 W).mono fun e W' ⟨he,hg⟩=>?_
 subst he
 exact ⟨_,rfl,_,_,_,[],[],[],hW',trodAll_mk1 (shut_bool Tryz.underlying4 _),trodAll_cons_mk (shut_string Tryz.underlying9 w0) (trodAll_cons_mk (shut_string Tryz.underlying9 w1) trodAll_mk0),rfl,hg.frame _,fun h=>by cases h⟩
theorem over:Rows.fnExactWholeRow.holds Tryz.pinned (OpenSpec.ofChange Rows.fnExactWholeSpec) :=
 OpenClaim.holds_of_wide 5 Tryz.f5 rfl rfl rfl rfl rfl rfl rfl ⟨rfl,rfl,rfl,rfl,rfl⟩ rfl rfl rfl rfl rfl (by kernel_rfl) Tryz.func5 (by kernel_rfl)
  (of_decide_eq_true (by kernel_rfl)) (by unfold Func.isWrapper; first | (rw [if_pos (by decide +kernel)]; kernel_rfl) | (rw [if_neg (by decide +kernel)]; exact ⟨rfl,rfl⟩))
  (fun os started H enc _=>lifted os started H enc)
theorem proved:Rows.FnExactWholeSaid :=
 over
end Go.Proofs.YtmlgmhnplicflabGreat.fnExactWhole
namespace Go.Proofs.YtmlgmhnplicflabGreat
theorem whole_holds:Rows.FnExactWholeSaid:=fnExactWhole.proved
#print axioms whole_holds
end Go.Proofs.YtmlgmhnplicflabGreat
