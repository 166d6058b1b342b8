import Derived.Test.YthkmmeamplmnhaaGreatN
import Derived.Test.YthkmmeamplmnhaaGreatX
import Derived.Test.YthkmmeamplmnhaaGreatK
namespace Go.Proofs.YthkmmeamplmnhaaGreat
open Go.RowKit
set_option linter.unusedVariables false
set_option maxHeartbeats 1000000 in
theorem ranges_any {w:World} {S:Bs} {f:Nat→Nat} (h:Bv S f) :
  Calls Tryz.prog 178 #[.agg #[.int .u64 (f 0),.int .u64 (f 1),.int .u64 (f 2),.int .u64 (f 3)]] w fun e w' =>∃v,e = .returned v∧w'.ownsRow w.heap.size 102 2 v (ranges S).length (flatR (ranges S))∧Keeps (fun _=>False) w w':=by
 obtain ⟨i0,hi,hz0,hz1,hz2⟩:=info_parts Tryz.infoRange
 go_enter Tryz.func178,Tryz.ntmps178
 go_wp2
 go_loopw [3,6] (fun o i wr =>∃k:Nat,k≤256∧i = .int .i64 k∧wr.ownsRow (w.heap.size + 1) 102 2 o (rangesTo S k).length (flatR (rangesTo S k))∧Sb wr w.heap.size f∧Keeps (fun _=>False) w wr) (fun _ i _=>256 - (intOf i).toNat)
 case atStart=>exact ⟨0,Nat.zero_le _,rfl,World.ownsRow_nil _ _ _ _,heap_alloc_new w _,(Keeps.refl _ _).alloc _⟩
 case round =>
  obtain ⟨k,hk,rfl,hown,hs,hkp⟩:=hrel
  have hle:=rangesTo_le S k
  by_cases hlt:k < 256
  ·have d0:=hs.cell (q:=0) (by omega)
   have d1:=hs.cell (q:=1) (by omega)
   have d2:=hs.cell (q:=2) (by omega)
   have d3:=hs.cell (q:=3) (by omega)
   have hkz:(k:Int) < 256:=by omega
   cases hS:S k
   ·have HS:Hid (S k=false):=hS
    have he:Hid (rangesTo S (k + 1)=rangesTo S k):=by show _ = _; rw [rangesTo]; simp [hS]
    clear hS
    go_wp2_with (first
     | (go_at_call 105; refine (has_any h k hlt).mono ?_; rintro e w2 ⟨rfl,hk2⟩; rw [HS.out]; replace hown:=ownsRow_keeps hown hk2 (fun _ _ h=>h); replace hs:=hs.keeps hk2 (fun h=>h); replace hkp:=hkp.trans hk2))
    go_roundw
    case rel=>exact ⟨k + 1,by omega,by go_num,by rw [he.out]; exact hown,hs,hkp⟩
    case measure=>simp [intOf]; omega
   ·obtain ⟨L,hL⟩ :∃L,rangesTo S k=L:=⟨_,rfl⟩
    rw [hL] at hown hle
    have HS:Hid (S k=true):=hS
    have HL:Hid (rangesTo S k=L):=hL
    clear hS hL
    rcases List.eq_nil_or_concat L with rfl | ⟨a,r,rfl⟩
    ·have HE:Hid (rangesTo S (k + 1) = [((k:Int),(k:Int))]):=by
      have h1:=HS.out; have h2:=HL.out
      show _ = _; rw [rangesTo]; simp [h1,h2]
     obtain ⟨ao,cap,rfl⟩:=own_form hown
     go_wp2_with (first
      | (go_at_call 105; refine (has_any h k hlt).mono ?_; rintro e w2 ⟨rfl,hk2⟩; rw [HS.out]; replace hown:=ownsRow_keeps hown hk2 (fun _ _ h=>h); replace hs:=hs.keeps hk2 (fun h=>h); replace hkp:=hkp.trans hk2)
      | (at_builtin; refine wpList_append_own _ rfl _ _ 97 rfl (w.heap.size + 1) 102 i0 (.agg #[.int .i64 0,.int .i64 0]) 2 16 Tryz.underlying97 hi hz0 hz1 hz2 rfl (by decide) _ _ _ rfl (hown.alloc _) ⟨w2.heap.size,0,none⟩ 1 1 [.int .i64 k,.int .i64 k] rfl rfl (cells_new w2 _ _) (ints_oneCell .i64 [_,_]) (by unfold maxLen; simp) (by simp) (by have:=lt_of_block hs; simp; omega) ?_))
     intro v' w1 ho hg _
     have hk1:Keeps (fun _=>False) w w1:=(hkp.alloc _).grown hg (fun q hq hw=>by have:=(hown.lt q hq).1; omega)
     have hs1:Sb w1 w.heap.size f:=hs.keeps (((Keeps.refl (fun q=>q≠w.heap.size) w2).alloc _).grown hg (fun q hq hw=>by have:=(hown.lt q hq).1; omega)) (by simp)
     clear hg
     go_wp2
     go_roundw
     case rel=>exact ⟨k + 1,by omega,by go_num,by rw [HE.out]; exact ho,hs1,hk1⟩
     case measure=>simp [intOf]; omega
    ·obtain ⟨g,cap,rfl,hg1,hg2⟩:=own_some (n:=a.length) (by simpa using hown)
     simp only [List.concat_eq_append,List.length_append,List.length_cons,List.length_nil,Nat.zero_add] at hown hle ⊢
     have hlast:(rangesTo S k).getLast? = some r:=by rw [HL.out]; simp
     have hdrop:(rangesTo S k).dropLast=a:=by rw [HL.out]; simp
     by_cases hr:r.2=(k:Int) - 1
     ·have HE:Hid (rangesTo S (k + 1)=a ++ [(r.1,(k:Int))]):=by
       have h1:=HS.out
       show _ = _; rw [rangesTo,if_pos h1,hlast]; simp only; rw [if_pos hr,hdrop]
      have HR:Hid (r.2=(k:Int) - 1):=hr
      clear hr hlast hdrop
      go_wp2_with (first
       | (go_at_call 105; refine (has_any h k hlt).mono ?_; rintro e w2 ⟨rfl,hk2⟩; rw [HS.out]; replace hown:=ownsRow_keeps hown hk2 (fun _ _ h=>h); replace hs:=hs.keeps hk2 (fun h=>h); replace hkp:=hkp.trans hk2; have c2:w2.cell? ⟨g,a.length * 2 + 1,none⟩=some (.int .i64 ((k:Int) - 1)):=(by rw [hown.cellAt _ (by omega),← HR.out]; exact flatR_last a r); have f2:=hown.frozenAt (a.length * 2 + 1)))
      go_roundw
      case rel =>
       have hst:=hown.stored (a.length * 2 + 1) (.int .i64 k)
       rw [flatR_set] at hst
       exact ⟨k + 1,by omega,by go_num,by rw [HE.out]; simpa using hst.1,hs.keeps ((Keeps.refl (fun q=>q≠w.heap.size) w2).setCell (fun hx=>by simp; omega) _) (by simp),hkp.setCell (fun hx=>absurd hx (by simp; omega)) _⟩
      case measure=>simp [intOf]; omega
     ·have HE:Hid (rangesTo S (k + 1)=(a ++ [r]) ++ [((k:Int),(k:Int))]):=by
       have h1:=HS.out
       show _ = _; rw [rangesTo,if_pos h1,hlast]; simp only; rw [if_neg hr,HL.out]; simp
      have hrb:(r.2 == (k:Int) - 1)=false:=by simpa using hr
      clear hr hlast hdrop
      go_wp2_with (first
       | (go_at_call 105; refine (has_any h k hlt).mono ?_; rintro e w2 ⟨rfl,hk2⟩; rw [HS.out]; replace hown:=ownsRow_keeps hown hk2 (fun _ _ h=>h); replace hs:=hs.keeps hk2 (fun h=>h); replace hkp:=hkp.trans hk2; have c2:w2.cell? ⟨g,a.length * 2 + 1,none⟩=some (.int .i64 r.2):=(by rw [hown.cellAt _ (by omega)]; exact flatR_last a r); have f2:=hown.frozenAt (a.length * 2 + 1))
       | (at_builtin; refine wpList_append_own _ rfl _ _ 97 rfl (w.heap.size + 1) 102 i0 (.agg #[.int .i64 0,.int .i64 0]) 2 16 Tryz.underlying97 hi hz0 hz1 hz2 rfl (by decide) _ _ _ rfl (hown.alloc _) ⟨w2.heap.size,0,none⟩ 1 1 [.int .i64 k,.int .i64 k] rfl rfl (cells_new w2 _ _) (ints_oneCell .i64 [_,_]) (by unfold maxLen; omega) (by omega) (by have:=lt_of_block hs; simp; omega) ?_))
      intro v' w1 ho hg _
      have hk1:Keeps (fun _=>False) w w1:=(hkp.alloc _).grown hg (fun q hq hw=>by have:=(hown.lt q hq).1; omega)
      have hs1:Sb w1 w.heap.size f:=hs.keeps (((Keeps.refl (fun q=>q≠w.heap.size) w2).alloc _).grown hg (fun q hq hw=>by have:=(hown.lt q hq).1; omega)) (by simp)
      clear hg
      go_wp2
      go_roundw
      case rel=>exact ⟨k + 1,by omega,by go_num,by rw [HE.out,flatR_append]; simpa [flatR] using ho,hs1,hk1⟩
      case measure=>simp [intOf]; omega
  ·obtain rfl:k=256:=by omega
   go_wp2
   go_ret
   exact ⟨_,rfl,ownsRow_base hown (fun q hq=>by have:=(hown.lt q hq).1; omega),hkp⟩
theorem Tryz.iinfoInt:(Tryz.prog.info? 3).map (fun i=>(i.zero,i.size,i.bytes))=some (some (.int .i64 0),1,8):=by kernel_rfl
def ISep (L:List Pm):Prop:=L.Pairwise fun x y=>(∀k,x.2.1.ownBlock=some k→¬ y.2.1.ownBlock=some k)∧(∀k,x.2.2.ownBlock=some k→¬ y.2.2.ownBlock=some k)
structure Out (w:World) (B:Nat) (x:Value) (L:List Pm):Prop where
 row:w.ownsRow B 100 7 x L.length (L.flatMap cell7)
 rows :∀y∈L,Owned w y
 lo :∀y∈L,(∀k,y.2.1.ownBlock=some k→B≤k)∧(∀k,y.2.2.ownBlock=some k→B≤k)
 sep:ISep L
theorem Out.nil (w:World) (B:Nat):Out w B (.slice none 0 0) []:=⟨World.ownsRow_nil _ _ _ _,by simp,by simp,List.Pairwise.nil⟩
theorem Out.keeps {w w':World} {B:Nat} {x:Value} {L:List Pm} {E:Nat→Prop} (h:Out w B x L) (k:Keeps E w w') (hx :∀i,x.ownBlock=some i→¬ E i) (hE :∀y∈L,(∀i,y.2.1.ownBlock=some i→¬ E i)∧(∀i,y.2.2.ownBlock=some i→¬ E i)):Out w' B x L :=
 ⟨ownsRow_keeps h.row k hx,fun y hy=>⟨ownsRow_keeps (h.rows y hy).1 k (hE y hy).1,ownsRow_keeps (h.rows y hy).2 k (hE y hy).2⟩,h.lo,h.sep⟩
theorem Out.same {w w':World} {B:Nat} {x:Value} {L:List Pm} (h:Out w B x L) (k:Keeps (fun _=>False) w w'):Out w' B x L:=h.keeps k (fun _ _ h=>h) (fun _ _=>⟨fun _ _ h=>h,fun _ _ h=>h⟩)
theorem blk_refl (w:World) (x:Value):Blk w x x:=fun _ h _=>h
theorem Blk.trans {w w1:World} {x y z:Value} (h:Blk w x y) (h2:Blk w1 y z) (hs:w.heap.size≤w1.heap.size):Blk w x z:=fun k hk hlt=>h k (h2 k hk (by omega)) hlt
theorem Out.snoc {w:World} {B:Nat} {x:Value} {L:List Pm} (h:Out w B x L) (hB:B≤w.heap.size) (hlen:L.length≤2000) {p:Pm} (hp:Owned w p)
  (hlo:(∀k,p.2.1.ownBlock=some k→B≤k)∧(∀k,p.2.2.ownBlock=some k→B≤k))
  (hsep :∀y∈L,(∀k,y.2.1.ownBlock=some k→¬ p.2.1.ownBlock=some k)∧(∀k,y.2.2.ownBlock=some k→¬ p.2.2.ownBlock=some k)) :
  ∃x' w',Sem.run Tryz.prog (Builtin.append_ #[35,35] 35 #[x,.slice (some ⟨w.heap.size,0,none⟩) 1 1]) (w.alloc (.cells (cell7 p).toArray 100)) = .ok x' w'∧Out w' B x' (L ++ [p])∧(∃ao cap,x' = .slice ao (L.length + 1) cap)∧Keeps (fun k=>x.ownBlock=some k) w w'∧Blk w x x':=by
 obtain ⟨i0,hi,hz0,hz1,hz2⟩:=info_parts Tryz.infoPiece
 obtain ⟨x',w',hrun,ho,hg,hblk⟩:=app_any (P:=Tryz.prog) (w.alloc (.cells (cell7 p).toArray 100)) B 35 35 100 i0 _ 7 88 Tryz.underlying35 hi hz0 hz1 hz2 rfl (by decide) x L.length (L.flatMap cell7) (h.row.alloc _) ⟨w.heap.size,0,none⟩ 1 1 (cell7 p) rfl (cells_new w _ (cell7 p)) (own_one hp) (by unfold maxLen; omega) (by omega) (by simp; omega)
 have hK:Keeps (fun k=>x.ownBlock=some k) w w':=((Keeps.refl _ w).alloc _).grown hg (fun k hk _=>hk)
 have hrow:=h.row
 have hstep :∀y,Owned w y→Owned w' y:=fun y hy =>
  ⟨ownsRow_keeps hy.1 hK (fun i hi hx=>own_apart hy.1 hrow (by decide) hi hx),ownsRow_keeps hy.2 hK (fun i hi hx=>own_apart hy.2 hrow (by decide) hi hx)⟩
 refine ⟨x',w',hrun,⟨by simpa using ho,?_,?_,?_⟩,own_form ho,hK,fun k hk hlt=>hblk k hk (by simp; omega)⟩
 ·intro y hy
  rcases List.mem_append.1 hy with hy | hy
  ·exact hstep y (h.rows y hy)
  ·simp at hy; subst hy; exact hstep _ hp
 ·intro y hy
  rcases List.mem_append.1 hy with hy | hy
  ·exact h.lo y hy
  ·simp at hy; subst hy; exact hlo
 ·unfold ISep
  rw [List.pairwise_append]
  refine ⟨h.sep,List.pairwise_singleton _ _,?_⟩
  intro y hy z hz
  simp at hz; subst hz
  exact hsep y hy
theorem num_snoc {w:World} {B:Nat} {x:Value} {ks:List Int} (h:w.ownsRow B 3 1 x ks.length (ints ks)) (hB:B≤w.heap.size) (hlen:ks.length≤2000) (k:Int) :
  ∃x' w',Sem.run Tryz.prog (Builtin.append_ #[98,98] 98 #[x,.slice (some ⟨w.heap.size,0,none⟩) 1 1]) (w.alloc (.cells #[.int .i64 k] 3)) = .ok x' w'∧w'.ownsRow B 3 1 x' (ks ++ [k]).length (ints (ks ++ [k]))∧(∃ao cap,x' = .slice ao (ks ++ [k]).length cap)∧Keeps (fun k=>x.ownBlock=some k) w w'∧Blk w x x':=by
 obtain ⟨i0,hi,hz0,hz1,hz2⟩:=info_parts Tryz.iinfoInt
 obtain ⟨x',w',hrun,ho,hg,hblk⟩:=app_any (P:=Tryz.prog) (w.alloc (.cells #[.int .i64 k] 3)) B 98 98 3 i0 _ 1 8 Tryz.underlying98 hi hz0 hz1 hz2 rfl (by decide) x ks.length (ints ks) (h.alloc _) ⟨w.heap.size,0,none⟩ 1 1 [.int .i64 k] rfl (cells_new w _ [_]) (by simp; rfl) (by unfold maxLen; omega) (by omega) (by simp; omega)
 have e1:ints (ks ++ [k])=ints ks ++ [.int .i64 k]:=by simp [ints]
 have e2:(ks ++ [k]).length=ks.length + 1:=by simp
 rw [e1,e2]
 exact ⟨x',w',hrun,ho,own_form ho,((Keeps.refl _ w).alloc _).grown hg (fun k hk _=>hk),fun k hk hlt=>hblk k hk (by simp; omega)⟩
def AppPost (B:Nat) (x:Value) (L:List Pm) (ps:List Pc) (w:World) (e:Ending) (w':World):Prop :=
 ∃x' M,e = .returned x'∧Out w' B x' (L ++ M)∧M.map (·.1)=ps∧Keeps (fun k=>x.ownBlock=some k) w w'∧Blk w x x'∧(∀y∈M,(∀k,y.2.1.ownBlock=some k→w.heap.size≤k)∧(∀k,y.2.2.ownBlock=some k→w.heap.size≤k))∧∃ao cap,x' = .slice ao (L ++ M).length cap
def AppC (w0:World) (D:Nat→Prop) (v:Value) (f:Pf):Prop :=
 ∀ (w:World),Keeps (fun k => ¬ D k) w0 w→∀(B:Nat) (x:Value) (L:List Pm),(∀k,D k→k < B)→B≤w.heap.size→Out w B x L→L.length + (f L.length).length≤1000→(∃ao cap,x = .slice ao L.length cap)→
   Calls Tryz.prog 38 #[x,v] w (AppPost B x L (f L.length) w)
theorem cat_take {fs:List Pf} {i:Nat} {f:Pf} (h:fs[i]? = some f) (n:Nat):cat (fs.take (i + 1)) n=cat (fs.take i) n ++ f (n + (cat (fs.take i) n).length):=by
 have hi:i < fs.length:=by
  apply Decidable.byContradiction; intro hn; rw [List.getElem?_eq_none (by omega)] at h; simp at h
 have e:fs.take (i + 1)=fs.take i ++ [f]:=by rw [List.take_add_one,h]; rfl
 rw [e,cat_snoc]
theorem ends_take {fs:List Pf} {i:Nat} {f:Pf} (h:fs[i]? = some f) (n:Nat):ends (fs.take (i + 1)) n=ends (fs.take i) n ++ [((n:Int) + (cat (fs.take i) n).length + (f (n + (cat (fs.take i) n).length)).length - 1)]:=by
 have e:fs.take (i + 1)=fs.take i ++ [f]:=by rw [List.take_add_one,h]; rfl
 rw [e,ends_snoc]
theorem iends_len (fs:List Pf) (n:Nat):(ends fs n).length=fs.length:=by
 induction fs generalizing n with
 | nil=>rfl
 | cons f fs ih=>simp [ends,ih]
theorem cat_take_leI (fs:List Pf) (i n:Nat):(cat (fs.take i) n).length≤(cat fs n).length:=by
 induction fs generalizing i n with
 | nil=>simp [cat]
 | cons f fs ih =>
   cases i with
   | zero=>simp [cat]
   | succ i=>simp [cat]; exact ih i _
def KidsC (w:World) (K:Nat) (y:Value) (vs:List Value):Prop :=
 Calls Tryz.prog K #[y] w fun e w' =>∃ao cap,e = .returned (.slice ao vs.length cap)∧w'.ownsRow 0 69 1 (.slice ao vs.length cap) vs.length vs∧Keeps (fun _=>False) w w'
def PieceC1 (K:Nat) (y:Value) (n:Nat) (c:List Int→Pc):Prop :=
 ∀ (w:World) (ao:Option Addr) (cap:Nat) (ks:List Int),ks.length=n→w.ownsRow 0 3 1 (.slice ao ks.length cap) ks.length (ints ks)→
   Calls Tryz.prog K #[y,.slice ao ks.length cap] w fun e w' =>∃sv kv,e = .returned (.agg #[.int .i64 (c ks).kind,sv,.int .i64 (c ks).min,.int .i64 (c ks).max,.bool (c ks).lazy,.int .i64 (c ks).num,kv])∧Owned w' (c ks,sv,kv)∧
    (∀k,sv.ownBlock=some k→w.heap.size≤k)∧(∀k,kv.ownBlock=some k→(Value.slice ao ks.length cap).ownBlock=some k)∧Keeps (fun _=>False) w w'
def AppAt (w0:World) (D:Nat→Prop) (B:Nat) (x:Value) (L:List Pm) (fs:List Pf) (vs:List Value) (sl:Value) (w:World) (gl:Nat) (x' nv iv:Value) (wr:World):Prop :=
 ∃ (i:Nat) (M:List Pm),i≤vs.length∧i + gl=vs.length + 1∧iv = .int .i64 i∧Out wr B x' (L ++ M)∧M.map (·.1)=cat (fs.take i) L.length∧wr.ownsRow w.heap.size 3 1 nv (ends (fs.take i) L.length).length (ints (ends (fs.take i) L.length))∧
   (∀y∈L ++ M,∀k,y.2.2.ownBlock=some k→¬ nv.ownBlock=some k)∧(∀y∈M,(∀k,y.2.1.ownBlock=some k→w.heap.size≤k)∧(∀k,y.2.2.ownBlock=some k→w.heap.size≤k))∧
   Keeps (fun k=>x.ownBlock=some k) w wr∧Blk w x x'∧wr.ownsRow 0 69 1 sl vs.length vs∧Keeps (fun k => ¬ D k) w0 wr∧(∃ao cap,x' = .slice ao (L ++ M).length cap)∧(∃ao cap,nv = .slice ao (ends (fs.take i) L.length).length cap)
theorem row_form {w:World} {base:Nat} {e:TypeId} {size n cap:Nat} {ao:Option Addr} {xs:List Value} (h:w.ownsRow base e size (.slice ao n cap) n xs) (hn:0 < n) :∃g,ao=some ⟨g,0,none⟩:=by
 obtain ⟨_,⟨_,h0⟩ | ⟨g,cap',cur,h1,_⟩⟩:=h
 ·omega
 ·simp only [Value.slice.injEq] at h1
  exact ⟨g,h1.1⟩
set_option maxHeartbeats 2000000 in
set_option maxRecDepth 100000 in
theorem app_core {w0:World} {D:Nat→Prop} {t:TypeId} {y:Value} {K1 K2:Nat} {vs:List Value} {fs:List Pf} {c:List Int→Pc}
  (hm1 : ∀ w : World, (method 330 t y "loop.example/twist/impl.kids").run Tryz.prog w = .ok (K1, y) w) (hm2 : ∀ w : World, (method 330 t y "loop.example/twist/impl.piece").run Tryz.prog w = .ok (K2, y) w)
  (hc1 :∀(args:Array Value) (w:World),(callFunc K1 args).run Tryz.prog w = .ok (.enter K1 args) w) (hc2 :∀(args:Array Value) (w:World),(callFunc K2 args).run Tryz.prog w = .ok (.enter K2 args) w)
  (hl:fs.length=vs.length) (hvs:vs.length≤1000) (hkids :∀w,Keeps (fun k => ¬ D k) w0 w→KidsC w K1 y vs) (hpc:PieceC1 K2 y vs.length c)
  (ih :∀(i:Nat) (v:Value) (f:Pf),vs[i]? = some v→fs[i]? = some f→AppC w0 D v f):AppC w0 D (.iface t y) (fun n=>cat fs n ++ [c (ends fs n)]):=by
 intro w hw0 B x L hDB hB hO hlen hform
 obtain ⟨ao,cap,rfl⟩:=hform
 have hlen':L.length + (cat fs L.length).length + 1≤1000:=by simpa [Nat.add_assoc] using hlen
 have hk1:=hkids w hw0
 unfold KidsC at hk1
 go_enter Tryz.func38,Tryz.ntmps38
 go_wp2_with ((with_reducible (refine hk1.mono ?_)); rintro e w1 ⟨ao9,cap9,rfl,hrow,hk⟩)
 have hO1:=hO.same hk
 have hw1:=hw0.trans hk.none
 have hB1:B≤w1.heap.size:=Nat.le_trans hB hk.size
 go_loopg [0,5,11] (vs.length + 1) (fun gl x' nv iv wr=>AppAt w0 D B (.slice ao L.length cap) L fs vs (.slice ao9 vs.length cap9) w gl x' nv iv wr)
 case atStart=>exact ⟨0,[],Nat.zero_le _,by omega,rfl,by simpa using hO1,by simp [cat],by simpa [ends,ints] using World.ownsRow_nil _ _ _ _,by intro y _ k _ h; simp [Value.ownBlock] at h,by simp,hk.none,blk_refl _ _,hrow,hw1,⟨_,_,by simp; exact ⟨rfl,rfl⟩⟩,⟨_,_,by simp [ends]; exact ⟨rfl,rfl⟩⟩⟩
 case round =>
  clear hO1 hw1 hrow hk hk1 hB1
  obtain ⟨i,M,hi,hgl,rfl,hOut,hM,hnum,hap,hnew,hK,hblk,hsl,hK0,⟨ao',cap',rfl⟩,⟨ao2,cap2,rfl⟩⟩:=hrel
  have hML:M.length=(cat (fs.take i) L.length).length:=by rw [← hM,List.length_map]
  have hEL:(ends (fs.take i) L.length).length=i:=by rw [iends_len,List.length_take]; omega
  have hO1:=hOut.row
  have hsz:=hK.size
  by_cases hlt:i < vs.length
  ·have hv:vs[i]? = some vs[i]:=List.getElem?_eq_getElem hlt
   have hf:fs[i]? = some fs[i]:=List.getElem?_eq_getElem (by omega)
   generalize vs[i]=v at hv
   generalize fs[i]=f at hf
   obtain ⟨g9,rfl⟩:=row_form hsl (by omega)
   have cv:wr.cell? ⟨g9,i,none⟩=some v:=by
    have:=hsl.cells rfl i v hv
    have e:Addr.add ⟨g9,0,none⟩ i = ⟨g9,i,none⟩:=by by_cases h:i=0 <;> simp [Addr.add,h]
    rw [e] at this; exact this
   have hiz:(i:Int) < (vs.length:Int):=by omega
   have hct:=cat_take hf L.length
   have hcl:=cat_take_leI fs (i + 1) L.length
   rw [hct,List.length_append,← hML] at hcl
   have hLM:(L ++ M).length=L.length + M.length:=List.length_append
   have hcall:=ih i v f hv hf wr hK0 B _ (L ++ M) hDB (Nat.le_trans hB hsz) hOut (by rw [hLM]; omega) ⟨ao',cap',rfl⟩
   have HN:Hid ((L ++ M).length=L.length + M.length):=hLM
   have HF:Hid (f (L ++ M).length=f (L.length + M.length)):=(by show _ = _; rw [hLM])
   have hlen2:L.length + M.length + (f (L.length + M.length)).length≤1000:=by omega
   have HC:Hid (cat (fs.take (i + 1)) L.length=cat (fs.take i) L.length ++ f (L.length + M.length)):=(by show _ = _; rw [hct,← hML])
   have HE:Hid (ends (fs.take (i + 1)) L.length=ends (fs.take i) L.length ++ [((L.length:Int) + M.length + (f (L.length + M.length)).length - 1)]):=(by show _ = _; rw [ends_take hf,← hML])
   clear hct hcl hlen hlen'
   have hOn:Out wr B (.slice ao' (L ++ M).length cap') (L ++ M):=hOut
   clear hOut hO1
   generalize hnO:(L ++ M).length=nO at hcall hOn hblk hLM ⊢
   have HnO:Hid ((L ++ M).length=nO):=hnO
   clear hnO
   obtain ⟨ks,hks⟩ :∃ks,ends (fs.take i) L.length=ks:=⟨_,rfl⟩
   rw [hks] at hnum hEL hap ⊢
   have HKS:Hid (ends (fs.take i) L.length=ks):=hks
   clear hks
   have HLM:Hid (nO=L.length + M.length):=hLM
   have HML:Hid (M.length=(cat (fs.take i) L.length).length):=hML
   have HEL:Hid (ks.length=i):=hEL
   have HGL:Hid (i + gk=vs.length + 1):=hgl
   have HL:Hid (fs.length=vs.length):=hl
   have HM:Hid (M.map (·.1)=cat (fs.take i) L.length):=hM
   have hksl:ks.length≤1000:=by omega
   clear hLM hML hEL hgl hl hM
   go_wp2_with (first
    | (go_at_call 38; refine hcall.mono ?_; rintro e w2 ⟨x2,M2,rfl,hO2,hM2,hk2,hb2,hnew2,ao3,cap3,hx2⟩; have hml2:M2.length=(f nO).length:=(by rw [← hM2,List.length_map]); generalize hn2:((L ++ M) ++ M2).length=n2 at hx2; subst hx2; have hn2b:n2=nO + M2.length:=(by rw [← hn2,List.length_append,HnO.out]); have Hn2:Hid (((L ++ M) ++ M2).length=n2):=hn2; clear hn2; have hn2c:n2≤1000:=(by rw [hn2b,hml2,HLM.out]; exact hlen2); have hs2:=hk2.size; have hnum2:=ownsRow_keeps hnum hk2 (fun j hj h=>own_apart hnum hOn.row (by decide) hj h); obtain ⟨nv',w3,hrun,hnum3,⟨ao5,cap5,hnv⟩,hk3,hb3⟩:=num_snoc hnum2 (by omega) (by omega) ((n2:Int) - 1); generalize hn5:(ks ++ [(n2:Int) - 1]).length=n5 at hnv hnum3; subst hnv; have Hn5:Hid ((ks ++ [(n2:Int) - 1]).length=n5):=hn5; have Hn2b:Hid (n2=nO + M2.length):=hn2b; have Hml2:Hid (M2.length=(f nO).length):=hml2; clear hn5 hn2b hml2)
    | (at_builtin; refine wpList_append_run rfl _ _ _ _ rfl rfl _ _ _ _ rfl rfl hrun ?_))
   go_roundg (gk - 1)
   case measure=>have:=HGL.out; omega
   case rel =>
    have hnO:=HLM.out
    have hn2:n2=L.length + M.length + (f (L.length + M.length)).length:=by rw [Hn2b.out,Hml2.out,hnO]
    have hends:ends (fs.take (i + 1)) L.length=ks ++ [(n2:Int) - 1]:=by rw [HE.out,HKS.out,hn2]; simp
    have hsep :∀y∈(L ++ M) ++ M2,∀k,y.2.2.ownBlock=some k→¬ (Value.slice ao2 ks.length cap2).ownBlock=some k:=by
     intro y hy k hk h
     rcases List.mem_append.1 hy with hy | hy
     ·exact hap y hy k hk h
     ·have h1:=(hnew2 y hy).2 k hk
      have h2:=(hnum.lt k h).2
      omega
    refine ⟨i + 1,M ++ M2,hlt,by have:=HGL.out; omega,congrArg (Value.int .i64) (by omega),?_,?_,?_,?_,?_,?_,hblk.trans hb2 hsz,?_,?_,⟨ao3,cap3,by rw [← List.append_assoc,Hn2.out]⟩,⟨ao5,cap5,by rw [hends,Hn5.out]⟩⟩
    ·rw [← List.append_assoc]
     refine hO2.keeps hk3 (fun j hj h=>own_apart hO2.row hnum2 (by decide) hj h) (fun y hy=>⟨fun j hj h=>own_apart (hO2.rows y hy).1 hnum2 (by decide) hj h,fun j hj h=>hsep y hy j hj h⟩)
    ·rw [List.map_append,HM.out,hM2,HC.out,hnO]
    ·rw [hends,Hn5.out]
     exact hnum3
    ·rw [← List.append_assoc]
     intro y hy k hk h
     exact hsep y hy k hk (hb3 k h ((hO2.rows y hy).2.lt k hk).2)
    ·intro y hy
     rcases List.mem_append.1 hy with hy | hy
     ·exact hnew y hy
     ·exact ⟨fun k hk=>Nat.le_trans hsz ((hnew2 y hy).1 k hk),fun k hk=>Nat.le_trans hsz ((hnew2 y hy).2 k hk)⟩
    ·exact (hK.trans' hk2 (fun j hj h=>hblk j h hj)).trans' hk3 (fun j hj h=>absurd (hnum.lt j h).1 (by omega))
    ·exact ownsRow_keeps (ownsRow_keeps hsl hk2 (fun j hj h=>own_apart hsl hOn.row (by decide) hj h)) hk3 (fun j hj h=>own_apart (ownsRow_keeps hsl hk2 (fun j hj h=>own_apart hsl hOn.row (by decide) hj h)) hnum2 (by decide) hj h)
    ·refine (hK0.trans' hk2 (fun j hj h hD=>?_)).trans' hk3 (fun j hj h hD=>?_)
     ·have h1:=(hOn.row.lt j h).1
      have h2:=hDB j hD
      omega
     ·have h1:=(hnum.lt j h).1
      have h2:=hDB j hD
      omega
  ·obtain rfl:i=vs.length:=by omega
   have htk:fs.take vs.length=fs:=List.take_of_length_le (by omega)
   rw [htk] at hM hnum hML hEL hap ⊢
   have hiz:¬ (vs.length:Int) < (vs.length:Int):=by omega
   have hOn:Out wr B (.slice ao' (L ++ M).length cap') (L ++ M):=hOut
   have hLM:(L ++ M).length≤2000:=by rw [List.length_append]; omega
   clear hOut hO1
   generalize hnO:(L ++ M).length=nO at hOn hblk hLM ⊢
   have HnO:Hid ((L ++ M).length=nO):=hnO
   obtain ⟨ks,hks⟩ :∃ks,ends fs L.length=ks:=⟨_,rfl⟩
   rw [hks] at hnum hEL hap ⊢
   have HKS:Hid (ends fs L.length=ks):=hks
   have hpcall:=hpc wr ao2 cap2 ks hEL (ownsRow_base hnum (fun _ _=>Nat.zero_le _))
   have HM:Hid (M.map (·.1)=cat fs L.length):=hM
   clear hnO hks hM hML hEL hgl hl hlen hlen' htk
   go_wp2_with (first
    | ((with_reducible (refine hpcall.mono ?_)); rintro e w2 ⟨sv,kv,rfl,hOw,hsv,hkv,hk2⟩; obtain ⟨a1,c1,e1⟩:=own_form hOw.1; obtain ⟨a2,c2,e2⟩:=own_form hOw.2; replace e1:sv = .slice a1 (c ks).set.length c1:=e1; replace e2:kv = .slice a2 (c ks).kids.length c2:=e2; subst e1 e2; have hs2:=hk2.size; obtain ⟨x2,w3,hrun,hO3,⟨ao3,cap3,hx2⟩,hk3,hb3⟩:=(hOn.same hk2).snoc (by omega) (by rw [HnO.out]; exact hLM) hOw ⟨fun k hk=>by have:=hsv k hk; omega,fun k hk=>by have:=(hnum.lt k (hkv k hk)).1; omega⟩ (fun y hy=>⟨fun k hk h=>by have h1:=hsv k h; have h2:=((hOn.rows y hy).1.lt k hk).2; omega,fun k hk h=>hap y hy k hk (hkv k h)⟩); generalize hn3:(L ++ M).length + 1=n3 at hx2; subst hx2; have Hn3:Hid ((L ++ M).length + 1=n3):=hn3; clear hn3)
    | (at_builtin; refine wpList_append_run rfl _ _ _ _ rfl rfl _ _ _ _ rfl rfl hrun ?_))
   go_ret
   refine ⟨_,M ++ [(c ks,.slice a1 (c ks).set.length c1,.slice a2 (c ks).kids.length c2)],rfl,?_,?_,?_,?_,?_,ao3,cap3,?_⟩
   ·rw [← List.append_assoc]; exact hO3
   ·rw [List.map_append,HM.out,HKS.out]; rfl
   ·exact (hK.trans hk2.none).trans' hk3 (fun j hj h=>hblk j h hj)
   ·exact hblk.trans hb3 (Nat.le_trans hsz hs2)
   ·intro y hy
    rcases List.mem_append.1 hy with hy | hy
    ·exact hnew y hy
    ·simp only [List.mem_singleton] at hy
     subst hy
     exact ⟨fun k hk=>Nat.le_trans hsz (hsv k hk),fun k hk=>(hnum.lt k (hkv k hk)).1⟩
   ·rw [← List.append_assoc,List.length_append]
    exact congrArg (fun n=>Value.slice ao3 n cap3) Hn3.out.symm
theorem kids_set {w:World} {f:Nat→Nat}:KidsC w 176 (.agg #[.int .u64 (f 0),.int .u64 (f 1),.int .u64 (f 2),.int .u64 (f 3)]) []:=by
 unfold KidsC
 go_enter Tryz.func176,Tryz.ntmps176
 go_wp2
 go_ret
 exact ⟨none,0,rfl,World.ownsRow_nil _ _ _ _,by first | exact (Keeps.refl _ _).alloc _ | exact Keeps.refl _ _⟩
theorem kids_start {w:World}:KidsC w 185 (.agg #[]) []:=by
 unfold KidsC
 go_enter Tryz.func185,Tryz.ntmps185
 go_wp2
 go_ret
 exact ⟨none,0,rfl,World.ownsRow_nil _ _ _ _,by first | exact (Keeps.refl _ _).alloc _ | exact Keeps.refl _ _⟩
theorem kids_end {w:World}:KidsC w 187 (.agg #[]) []:=by
 unfold KidsC
 go_enter Tryz.func187,Tryz.ntmps187
 go_wp2
 go_ret
 exact ⟨none,0,rfl,World.ownsRow_nil _ _ _ _,by first | exact (Keeps.refl _ _).alloc _ | exact Keeps.refl _ _⟩
theorem kids_seq {w:World} {v:Value} {vs:List Value} (h:w.ownsRow 0 69 1 v vs.length vs):KidsC w 179 (.agg #[v]) vs:=by
 unfold KidsC
 obtain ⟨ao,cap,rfl⟩:=own_form h
 go_enter Tryz.func179,Tryz.ntmps179
 go_wp2
 go_ret
 exact ⟨ao,cap,rfl,ownsRow_keeps h ((Keeps.refl (fun _=>False) _).alloc _) (fun _ _ h=>h),(Keeps.refl _ _).alloc _⟩
theorem kids_alt {w:World} {v:Value} {vs:List Value} (h:w.ownsRow 0 69 1 v vs.length vs):KidsC w 174 (.agg #[v]) vs:=by
 unfold KidsC
 obtain ⟨ao,cap,rfl⟩:=own_form h
 go_enter Tryz.func174,Tryz.ntmps174
 go_wp2
 go_ret
 exact ⟨ao,cap,rfl,ownsRow_keeps h ((Keeps.refl (fun _=>False) _).alloc _) (fun _ _ h=>h),(Keeps.refl _ _).alloc _⟩
theorem row_one (w:World) (v:Value):(w.alloc (.cells #[v] 69)).ownsRow 0 69 1 (.slice (some ⟨w.heap.size,0,none⟩) 1 1) 1 [v] :=
 ⟨rfl,Or.inr ⟨w.heap.size,1,#[v],rfl,Nat.zero_le _,heap_alloc_new w _,Nat.le_refl _,by decide,rfl,rfl⟩⟩
theorem kids_rep {w:World} {t:TypeId} {y:Value} {lo hi:Int} {lz:Bool}:KidsC w 181 (.agg #[.int .i64 lo,.int .i64 hi,.bool lz,.iface t y]) [.iface t y]:=by
 unfold KidsC
 go_enter Tryz.func181,Tryz.ntmps181
 go_wp2
 go_ret
 exact ⟨_,_,rfl,by simpa using row_one (w.alloc (.cells #[.int .i64 lo,.int .i64 hi,.bool lz,.iface t y] 153)) (.iface t y),((Keeps.refl _ _).alloc _).alloc _⟩
theorem kids_grp {w:World} {t:TypeId} {y:Value} {num:Int}:KidsC w 183 (.agg #[.int .i64 num,.iface t y]) [.iface t y]:=by
 unfold KidsC
 go_enter Tryz.func183,Tryz.ntmps183
 go_wp2
 go_ret
 exact ⟨_,_,rfl,by simpa using row_one (w.alloc (.cells #[.int .i64 num,.iface t y] 156)) (.iface t y),((Keeps.refl _ _).alloc _).alloc _⟩
theorem piece_seq {n:Nat} {w9:World} {v:Value} {m:Nat} {xs:List Value} (hv:w9.ownsRow 0 69 1 v m xs):PieceC1 180 (.agg #[v]) n (kidsPc 2):=by
 intro w ao cap ks hn hrow
 have HN:Hid (ks.length=n):=hn
 clear hn
 obtain ⟨a9,c9,rfl⟩:=own_form hv
 go_enter Tryz.func180,Tryz.ntmps180
 go_wp2
 refine bodyPost_ret (v:=.agg #[.int .i64 2,.slice none 0 0,.int .i64 0,.int .i64 0,.bool false,.int .i64 0,.slice ao ks.length cap]) (by simp [results,Tryz.results180,go_sem]) rfl ?_
 exact ⟨.slice none 0 0,.slice ao ks.length cap,rfl,⟨World.ownsRow_nil _ _ _ _,ownsRow_keeps hrow (((Keeps.refl (fun _=>False) _).alloc _).alloc _) (fun _ _ h=>h)⟩,by intro k h; simp [Value.ownBlock] at h,fun k h=>h,((Keeps.refl _ _).alloc _).alloc _⟩
theorem piece_alt {n:Nat} {w9:World} {v:Value} {m:Nat} {xs:List Value} (hv:w9.ownsRow 0 69 1 v m xs):PieceC1 175 (.agg #[v]) n (kidsPc 3):=by
 intro w ao cap ks hn hrow
 have HN:Hid (ks.length=n):=hn
 clear hn
 obtain ⟨a9,c9,rfl⟩:=own_form hv
 go_enter Tryz.func175,Tryz.ntmps175
 go_wp2
 refine bodyPost_ret (v:=.agg #[.int .i64 3,.slice none 0 0,.int .i64 0,.int .i64 0,.bool false,.int .i64 0,.slice ao ks.length cap]) (by simp [results,Tryz.results175,go_sem]) rfl ?_
 exact ⟨.slice none 0 0,.slice ao ks.length cap,rfl,⟨World.ownsRow_nil _ _ _ _,ownsRow_keeps hrow (((Keeps.refl (fun _=>False) _).alloc _).alloc _) (fun _ _ h=>h)⟩,by intro k h; simp [Value.ownBlock] at h,fun k h=>h,((Keeps.refl _ _).alloc _).alloc _⟩
def irepPc (lo hi:Int) (lz:Bool) (ks:List Int):Pc := { kind:=4,set := [],min:=lo,max:=hi,lazy:=lz,num:=0,kids:=ks }
def igrpPc (num:Int) (ks:List Int):Pc := { kind:=5,set := [],min:=0,max:=0,lazy:=false,num:=num,kids:=ks }
theorem piece_rep {n:Nat} {t:TypeId} {y:Value} {lo hi:Int} {lz:Bool}:PieceC1 182 (.agg #[.int .i64 lo,.int .i64 hi,.bool lz,.iface t y]) n (irepPc lo hi lz):=by
 intro w ao cap ks hn hrow
 have HN:Hid (ks.length=n):=hn
 clear hn
 go_enter Tryz.func182,Tryz.ntmps182
 go_wp2
 refine bodyPost_ret (v:=.agg #[.int .i64 4,.slice none 0 0,.int .i64 lo,.int .i64 hi,.bool lz,.int .i64 0,.slice ao ks.length cap]) (by simp [results,Tryz.results182,go_sem]) rfl ?_
 exact ⟨.slice none 0 0,.slice ao ks.length cap,rfl,⟨World.ownsRow_nil _ _ _ _,ownsRow_keeps hrow (((Keeps.refl (fun _=>False) _).alloc _).alloc _) (fun _ _ h=>h)⟩,by intro k h; simp [Value.ownBlock] at h,fun k h=>h,((Keeps.refl _ _).alloc _).alloc _⟩
theorem piece_grp {n:Nat} {t:TypeId} {y:Value} {num:Int}:PieceC1 184 (.agg #[.int .i64 num,.iface t y]) n (igrpPc num):=by
 intro w ao cap ks hn hrow
 have HN:Hid (ks.length=n):=hn
 clear hn
 go_enter Tryz.func184,Tryz.ntmps184
 go_wp2
 refine bodyPost_ret (v:=.agg #[.int .i64 5,.slice none 0 0,.int .i64 0,.int .i64 0,.bool false,.int .i64 num,.slice ao ks.length cap]) (by simp [results,Tryz.results184,go_sem]) rfl ?_
 exact ⟨.slice none 0 0,.slice ao ks.length cap,rfl,⟨World.ownsRow_nil _ _ _ _,ownsRow_keeps hrow (((Keeps.refl (fun _=>False) _).alloc _).alloc _) (fun _ _ h=>h)⟩,by intro k h; simp [Value.ownBlock] at h,fun k h=>h,((Keeps.refl _ _).alloc _).alloc _⟩
theorem piece_start:PieceC1 186 (.agg #[]) 0 (fun _ => { kind:=6,set := [],min:=0,max:=0,lazy:=false,num:=0,kids := [] }):=by
 intro w ao cap ks hn hrow
 have HN:Hid (ks.length=0):=hn
 clear hn
 go_enter Tryz.func186,Tryz.ntmps186
 go_wp2
 refine bodyPost_ret (v:=.agg #[.int .i64 6,.slice none 0 0,.int .i64 0,.int .i64 0,.bool false,.int .i64 0,.slice none 0 0]) (by simp [results,Tryz.results186,go_sem]) rfl ?_
 exact ⟨.slice none 0 0,.slice none 0 0,rfl,⟨World.ownsRow_nil _ _ _ _,World.ownsRow_nil _ _ _ _⟩,by intro k h; simp [Value.ownBlock] at h,by intro k h; simp [Value.ownBlock] at h,((Keeps.refl _ _).alloc _).alloc _⟩
theorem piece_end:PieceC1 188 (.agg #[]) 0 (fun _ => { kind:=7,set := [],min:=0,max:=0,lazy:=false,num:=0,kids := [] }):=by
 intro w ao cap ks hn hrow
 have HN:Hid (ks.length=0):=hn
 clear hn
 go_enter Tryz.func188,Tryz.ntmps188
 go_wp2
 refine bodyPost_ret (v:=.agg #[.int .i64 7,.slice none 0 0,.int .i64 0,.int .i64 0,.bool false,.int .i64 0,.slice none 0 0]) (by simp [results,Tryz.results188,go_sem]) rfl ?_
 exact ⟨.slice none 0 0,.slice none 0 0,rfl,⟨World.ownsRow_nil _ _ _ _,World.ownsRow_nil _ _ _ _⟩,by intro k h; simp [Value.ownBlock] at h,by intro k h; simp [Value.ownBlock] at h,((Keeps.refl _ _).alloc _).alloc _⟩
def At7 (w:World) (P:Nat):Prop:=w.heap[P]? = some (.cells #[.int .i64 0,.slice none 0 0,.int .i64 0,.int .i64 0,.bool false,.int .i64 0,.slice none 0 0] 100 (0,0))
theorem At7.keeps {w w':World} {P:Nat} {E:Nat→Prop} (h:At7 w P) (k:Keeps E w w') (hE:¬ E P):At7 w' P:=by
 unfold At7 at h ⊢; rw [k.block P (lt_of_block h) hE]; exact h
set_option maxHeartbeats 1000000 in
set_option maxRecDepth 100000 in
theorem piece_set {S:Bs} {f:Nat→Nat} (hf:Bv S f):PieceC1 177 (.agg #[.int .u64 (f 0),.int .u64 (f 1),.int .u64 (f 2),.int .u64 (f 3)]) 0 (fun _=>setPc S):=by
 intro w ao cap ks hn hrow
 clear hn hrow
 go_enter Tryz.func177,Tryz.ntmps177
 go_wp2_with (first
  | (go_at_call 178; refine (ranges_any hf).mono ?_; rintro e w2 ⟨v,rfl,hv,hk⟩; obtain ⟨a9,c9,rfl⟩:=own_form hv; have h7:At7 w2 (w.heap.size + 1):=At7.keeps (box2 w _ _) hk (fun h=>h); unfold At7 at h7; have c0:w2.cell? ⟨w.heap.size + 1,0,none⟩=some (.int .i64 0):=(by rw [cell_of h7]; rfl); have c1:w2.cell? ⟨w.heap.size + 1,1,none⟩=some (.slice none 0 0):=(by rw [cell_of h7]; rfl); have c2:w2.cell? ⟨w.heap.size + 1,2,none⟩=some (.int .i64 0):=(by rw [cell_of h7]; rfl); have c3:w2.cell? ⟨w.heap.size + 1,3,none⟩=some (.int .i64 0):=(by rw [cell_of h7]; rfl); have c4:w2.cell? ⟨w.heap.size + 1,4,none⟩=some (.bool false):=(by rw [cell_of h7]; rfl); have c5:w2.cell? ⟨w.heap.size + 1,5,none⟩=some (.int .i64 0):=(by rw [cell_of h7]; rfl); have c6:w2.cell? ⟨w.heap.size + 1,6,none⟩=some (.slice none 0 0):=(by rw [cell_of h7]; rfl); have ef:=fun i=>free_of (i:=i) h7))
 have hb :∀k,(Value.slice a9 (ranges S).length c9).ownBlock=some k→w.heap.size + 2≤k:=by
  intro k hk'
  have:=(hv.lt k hk').1
  simp at this
  omega
 have hk0:Keeps (fun _=>False) w w2:=(((Keeps.refl _ w).alloc _).alloc _).trans hk
 clear hk h7
 refine bodyPost_ret (v:=.agg #[.int .i64 1,.slice a9 (ranges S).length c9,.int .i64 0,.int .i64 0,.bool false,.int .i64 0,.slice none 0 0]) (by simp [results,Tryz.results177,go_sem,c0,c1,c2,c3,c4,c5,c6]) rfl ?_
 refine ⟨.slice a9 (ranges S).length c9,.slice none 0 0,rfl,⟨?_,World.ownsRow_nil _ _ _ _⟩,fun k hk=>by have:=hb k hk; omega,by intro k h; simp [Value.ownBlock] at h,?_⟩
 ·refine ownsRow_base (ownsRow_keeps hv (E:=fun k=>k=w.heap.size + 1) ?_ (fun k hk h=>by have:=hb k hk; omega)) (fun _ _=>Nat.zero_le _)
  exact (((((((Keeps.refl (fun k=>k=w.heap.size + 1) w2).setCell (fun _=>rfl) _).setCell (fun _=>rfl) _).setCell (fun _=>rfl) _).setCell (fun _=>rfl) _).setCell (fun _=>rfl) _).setCell (fun _=>rfl) _).setCell (fun _=>rfl) _
 ·exact ((((((hk0.setCell (fun h=>absurd h (by simp)) _).setCell (fun h=>absurd h (by simp)) _).setCell (fun h=>absurd h (by simp)) _).setCell (fun h=>absurd h (by simp)) _).setCell (fun h=>absurd h (by simp)) _).setCell (fun h=>absurd h (by simp)) _).setCell (fun h=>absurd h (by simp)) _
theorem AppC.congr {w0:World} {D:Nat→Prop} {v:Value} {f f':Pf} (h:AppC w0 D v f) (e :∀n,f n=f' n):AppC w0 D v f':=by
 have:f=f':=funext e
 subst this; exact h
theorem app_node {w0:World} {D:Nat→Prop} {v:Value} {f:Pf} (h:Nd w0 D v f):AppC w0 D v f:=by
 refine h.ind (M:=fun v f=>AppC w0 D v f) ?_ ?_ ?_ ?_ ?_ ?_ ?_
 ·intro S f h
  exact (app_core (vs := []) (fs := []) (fun _=>by kernel_rfl) (fun _=>by kernel_rfl) (fun _ _=>by kernel_rfl) (fun _ _=>by kernel_rfl) rfl (by simp) (fun w _=>kids_set) (piece_set h) (by simp)).congr (fun n=>by simp [cat,setPf])
 ·exact (app_core (vs := []) (fs := []) (fun _=>by kernel_rfl) (fun _=>by kernel_rfl) (fun _ _=>by kernel_rfl) (fun _ _=>by kernel_rfl) rfl (by simp) (fun w _=>kids_start) piece_start (by simp)).congr (fun n=>by simp [cat,startPf])
 ·exact (app_core (vs := []) (fs := []) (fun _=>by kernel_rfl) (fun _=>by kernel_rfl) (fun _ _=>by kernel_rfl) (fun _ _=>by kernel_rfl) rfl (by simp) (fun w _=>kids_end) piece_end (by simp)).congr (fun n=>by simp [cat,endPf])
 ·intro v vs fs ho hD hl hn ih
  exact (app_core (fun _=>by kernel_rfl) (fun _=>by kernel_rfl) (fun _ _=>by kernel_rfl) (fun _ _=>by kernel_rfl) hl hn (fun w hw=>kids_seq (ownsRow_keeps ho hw (fun k hk h=>h (hD k hk)))) (piece_seq ho) ih).congr (fun n=>rfl)
 ·intro v vs fs ho hD hl hn ih
  exact (app_core (fun _=>by kernel_rfl) (fun _=>by kernel_rfl) (fun _ _=>by kernel_rfl) (fun _ _=>by kernel_rfl) hl hn (fun w hw=>kids_alt (ownsRow_keeps ho hw (fun k hk h=>h (hD k hk)))) (piece_alt ho) ih).congr (fun n=>rfl)
 ·intro a f lo hi lz h ih
  obtain ⟨t,y,rfl⟩:=h.iface
  exact (app_core (vs := [.iface t y]) (fs := [f]) (fun _=>by kernel_rfl) (fun _=>by kernel_rfl) (fun _ _=>by kernel_rfl) (fun _ _=>by kernel_rfl) rfl (by simp) (fun w _=>kids_rep) piece_rep (fun i v g hv hg=>by
   cases i with
   | zero=>simp at hv hg; subst hv hg; exact ih
   | succ i=>simp at hv)).congr (fun n=>by simp [cat,ends,repPf,irepPc])
 ·intro a f num h ih
  obtain ⟨t,y,rfl⟩:=h.iface
  exact (app_core (vs := [.iface t y]) (fs := [f]) (fun _=>by kernel_rfl) (fun _=>by kernel_rfl) (fun _ _=>by kernel_rfl) (fun _ _=>by kernel_rfl) rfl (by simp) (fun w _=>kids_grp) piece_grp (fun i v g hv hg=>by
   cases i with
   | zero=>simp at hv hg; subst hv hg; exact ih
   | succ i=>simp at hv)).congr (fun n=>by simp [cat,ends,grpPf,igrpPc])
theorem readRef_err {s:ByteArray} {x:Nat} (h:treeRef s = .error x):readRef s = .error x:=by
 unfold treeRef at h
 unfold readRef
 by_cases hs:120 < s.size
 ·rw [if_pos hs] at h ⊢; simp at h; rw [h]
 ·rw [if_neg hs] at h ⊢
  cases ha:altRef s 6 0 0 with
  | error e=>rw [ha] at h; simp at h; rw [h]
  | ok r =>
    obtain ⟨f,q,g⟩:=r
    rw [ha] at h
    dsimp only at h ⊢
    by_cases hq:q < s.size
    ·rw [if_pos hq] at h ⊢; simp at h; rw [h]
    ·rw [if_neg hq] at h; simp at h
theorem readRef_ok {s:ByteArray} {g:Nat} {f:Pf} (h:treeRef s = .ok (g,f)):readRef s = .ok (g,f 0)∧(f 0).length≤1000:=by
 unfold treeRef at h
 unfold readRef
 by_cases hs:120 < s.size
 ·rw [if_pos hs] at h; simp at h
 ·rw [if_neg hs] at h ⊢
  cases ha:altRef s 6 0 0 with
  | error e=>rw [ha] at h; simp at h
  | ok r =>
    obtain ⟨f',q,g'⟩:=r
    rw [ha] at h
    dsimp only at h ⊢
    by_cases hq:q < s.size
    ·rw [if_pos hq] at h; simp at h
    ·rw [if_neg hq] at h ⊢
     simp at h
     obtain ⟨rfl,rfl⟩:=h
     have hp:=altRef_good s 6 _ _ _ _ _ (Nat.zero_le _) (by omega) ha
     have:=(hp.2.2.2 0).1
     exact ⟨rfl,by omega⟩
theorem Out.base {w:World} {B B':Nat} {x:Value} {L:List Pm} (h:Out w B x L) (hB:B'≤B):Out w B' x L :=
 ⟨ownsRow_base h.row (fun k hk=>Nat.le_trans hB (h.row.lt k hk).1),h.rows,fun y hy=>⟨fun k hk=>Nat.le_trans hB ((h.lo y hy).1 k hk),fun k hk=>Nat.le_trans hB ((h.lo y hy).2 k hk)⟩,h.sep⟩
theorem mem_cat {fs:List Pf} {n:Nat} {c:Pc} (h:c∈cat fs n) :∃(i:Nat) (f:Pf) (m:Nat),fs[i]? = some f∧c∈f m:=by
 induction fs generalizing n with
 | nil=>simp [cat] at h
 | cons f fs ih =>
   simp only [cat,List.mem_append] at h
   rcases h with h | h
   ·exact ⟨0,f,n,rfl,h⟩
   ·obtain ⟨i,f',m,h1,h2⟩:=ih h
    exact ⟨i + 1,f',m,by simpa using h1,h2⟩
theorem Nd.small {w:World} {D:Nat→Prop} {v:Value} {f:Pf} (h:Nd w D v f) :∀n,∀c∈f n,c.set.length≤1000∧c.kids.length≤1000:=by
 refine h.ind (M:=fun v f =>∀n,∀c∈f n,c.set.length≤1000∧c.kids.length≤1000) ?_ ?_ ?_ ?_ ?_ ?_ ?_
 ·intro S f h n c hc
  simp only [setPf,List.mem_singleton] at hc
  subst hc
  have:=rangesTo_le S 256
  exact ⟨by simp only [setPc,ranges]; omega,by simp [setPc]⟩
 ·intro n c hc; simp only [startPf,List.mem_singleton] at hc; subst hc; simp
 ·intro n c hc; simp only [endPf,List.mem_singleton] at hc; subst hc; simp
 ·intro v vs fs ho hD hl hn ih n c hc
  simp only [seqPf,List.mem_append,List.mem_singleton] at hc
  rcases hc with hc | hc
  ·obtain ⟨i,f,m,h1,h2⟩:=mem_cat hc
   have hi:i < vs.length:=by
    rw [← hl]; apply Decidable.byContradiction; intro hn'; rw [List.getElem?_eq_none (by omega)] at h1; simp at h1
   exact ih i _ f (List.getElem?_eq_getElem hi) h1 m c h2
  ·subst hc; simp only [kidsPc,iends_len]; simp; omega
 ·intro v vs fs ho hD hl hn ih n c hc
  simp only [altPf,List.mem_append,List.mem_singleton] at hc
  rcases hc with hc | hc
  ·obtain ⟨i,f,m,h1,h2⟩:=mem_cat hc
   have hi:i < vs.length:=by
    rw [← hl]; apply Decidable.byContradiction; intro hn'; rw [List.getElem?_eq_none (by omega)] at h1; simp at h1
   exact ih i _ f (List.getElem?_eq_getElem hi) h1 m c h2
  ·subst hc; simp only [kidsPc,iends_len]; simp; omega
 ·intro a f lo hi lz h ih n c hc
  simp only [repPf,List.mem_append,List.mem_singleton] at hc
  rcases hc with hc | hc
  ·exact ih n c hc
  ·subst hc; simp
 ·intro a f num h ih n c hc
  simp only [grpPf,List.mem_append,List.mem_singleton] at hc
  rcases hc with hc | hc
  ·exact ih n c hc
  ·subst hc; simp
def IRead (s:ByteArray) (w:World) (e:Ending) (w':World):Prop :=
 match readRef s with
 | .ok (g,ps) =>∃v L,e = .returned (.agg #[.bool true,.int .i64 0,.int .i64 ((g:Nat):Int),v])∧Out w' w.heap.size v L∧L.map (·.1)=ps∧L.length≤1000∧(∀c∈ps,c.set.length≤1000∧c.kids.length≤1000)∧Keeps (fun _=>False) w w'
 | .error x=>e = .returned (.agg #[.bool false,.int .i64 ((x:Nat):Int),.int .i64 0,.slice none 0 0])∧Keeps (fun _=>False) w w'
def PtQ4 (w:World) (P:Nat):Prop:=w.heap[P]? = some (.cells #[.bool false,.int .i64 0,.int .i64 0,.slice none 0 0] 37 (0,0))
theorem PtQ4.keeps {w w':World} {P:Nat} {E:Nat→Prop} (h:PtQ4 w P) (k:Keeps E w w') (hE:¬ E P):PtQ4 w' P:=by
 unfold PtQ4 at h ⊢; rw [k.block P (lt_of_block h) hE]; exact h
theorem PtQ4.cells {w:World} {P:Nat} (h:PtQ4 w P):w.cell? ⟨P,0,none⟩=some (.bool false)∧w.cell? ⟨P,1,none⟩=some (.int .i64 0)∧w.cell? ⟨P,2,none⟩=some (.int .i64 0)∧w.cell? ⟨P,3,none⟩=some (.slice none 0 0)∧∀i,w.frozen? ⟨P,i,none⟩=false:=by
 unfold PtQ4 at h
 refine ⟨?_,?_,?_,?_,fun i=>free_of h⟩ <;> rw [cell_of h] <;> rfl
set_option maxHeartbeats 1000000 in
set_option maxRecDepth 100000 in
theorem iread_any (s:ByteArray) (w:World):Calls Tryz.prog 14 #[.string s] w (IRead s w):=by
 have hnil :∀w:World,(binOp BinOp.eql 69 .nilIface .nilIface).run Tryz.prog w = .ok (.bool true) w:=fun _=>by kernel_rfl
 have hnn :∀(t:TypeId) (y:Value) (w:World),(binOp BinOp.eql 69 (.iface t y) .nilIface).run Tryz.prog w = .ok (.bool false) w:=fun _ _ _=>by kernel_rfl
 have hK1:Keeps (fun _=>False) w (w.alloc (.cells #[.bool false,.int .i64 0,.int .i64 0,.slice none 0 0] 37)):=(Keeps.refl _ w).alloc _
 have h4:PtQ4 (w.alloc (.cells #[.bool false,.int .i64 0,.int .i64 0,.slice none 0 0] 37)) w.heap.size:=heap_alloc_new w _
 have hsz:(w.alloc (.cells #[.bool false,.int .i64 0,.int .i64 0,.slice none 0 0] 37)).heap.size=w.heap.size + 1:=by simp
 have hcall:=tree_any (w:=w.alloc (.cells #[.bool false,.int .i64 0,.int .i64 0,.slice none 0 0] 37)) s
 unfold TreePost at hcall
 cases ht:treeRef s with
 | error x =>
   rw [ht] at hcall
   have HR:Hid (readRef s = .error x):=readRef_err ht
   clear ht
   go_enter Tryz.func14,Tryz.ntmps14
   go_wp2_with (first
    | (go_at_call 37; refine hcall.mono ?_; rintro e w2 ⟨rfl,hk⟩; replace h4:=h4.keeps hk (fun h=>h); replace hK1:=hK1.trans hk; obtain ⟨c0,c1,c2,c3,ef⟩:=h4.cells))
   refine bodyPost_ret (v:=.agg #[.bool false,.int .i64 x,.int .i64 0,.slice none 0 0]) (by simp [results,Tryz.results14,go_sem,c0,c1,c2,c3]) rfl ?_
   unfold IRead; rw [HR.out]
   exact ⟨rfl,(((hK1.setCell (fun h=>absurd h (by simp)) _).setCell (fun h=>absurd h (by simp)) _).setCell (fun h=>absurd h (by simp)) _).setCell (fun h=>absurd h (by simp)) _⟩
 | ok r =>
   obtain ⟨g,f⟩:=r
   rw [ht] at hcall
   obtain ⟨hr,hfl⟩:=readRef_ok ht
   have HR:Hid (readRef s = .ok (g,f 0)):=hr
   clear ht hr
   go_enter Tryz.func14,Tryz.ntmps14
   go_wp2_with (first
    | (go_at_call 37; refine hcall.mono ?_; rintro e w2 ⟨v,rfl,hN,hk⟩; obtain ⟨t,y,rfl⟩:=hN.iface; replace h4:=h4.keeps hk (fun h=>h); replace hK1:=hK1.trans hk; clear hk; have happ:=app_node (hN.mono (D':=fun k=>k < w2.heap.size) (fun k _ h=>h)) w2 (Keeps.refl _ _) w2.heap.size (.slice none 0 0) [] (fun k h=>h) (Nat.le_refl _) (Out.nil _ _) (by simpa using hfl) ⟨none,0,rfl⟩)
    | (go_at_call 38; refine happ.mono ?_; rintro e w3 ⟨x',M,rfl,hO,hM,hk,-,-,ao,cap,rfl⟩; replace hk:Keeps (fun _=>False) w2 w3:=hk.mono (fun k _ h=>by simp [Value.ownBlock] at h); have hP2:=lt_of_block h4; replace h4:=h4.keeps hk (fun h=>h); replace hK1:=hK1.trans hk; obtain ⟨c0,c1,c2,c3,ef⟩:=h4.cells))
   refine bodyPost_ret (v:=.agg #[.bool true,.int .i64 0,.int .i64 g,.slice ao M.length cap]) (by simp [results,Tryz.results14,go_sem,c0,c1,c2,c3]) rfl ?_
   unfold IRead; rw [HR.out]
   have hO1:Out w3 w2.heap.size (.slice ao M.length cap) M:=hO
   have hO2:=hO1.keeps (keeps_put4 w3 w.heap.size (a:=.bool true) (b:=.int .i64 0) (c:=.int .i64 g) (d:=.slice ao M.length cap)) (fun i hi h=>by have:=(hO1.row.lt i hi).1; omega) (fun z hz=>⟨fun i hi h=>by have:=(hO1.lo z hz).1 i hi; omega,fun i hi h=>by have:=(hO1.lo z hz).2 i hi; omega⟩)
   have hM0:M.map (·.1)=f 0:=hM
   exact ⟨_,M,rfl,hO2.base (by omega),hM0,by have:=congrArg List.length hM0; simp at this; omega,hN.small 0,(((hK1.setCell (fun h=>absurd h (by simp)) _).setCell (fun h=>absurd h (by simp)) _).setCell (fun h=>absurd h (by simp)) _).setCell (fun h=>absurd h (by simp)) _⟩
abbrev Rres:=Except Nat (Nat×List Pc)
def rOk:Rres→Bool
 | .ok _=>true
 | .error _=>false
def rAt:Rres→Int
 | .ok _=>0
 | .error x=>x
def rGr:Rres→Int
 | .ok (g,_)=>g
 | .error _=>0
def rPs:Rres→List Pc
 | .ok (_,ps)=>ps
 | .error _ => []
theorem spec_all {s:ByteArray} {w:World} {r:Rres} (hr:readRef s=r) (hs:s.size≤1048576):Calls Tryz.prog 15 #[.string s] w fun e w' =>∃v L,e = .returned (.agg #[.bool (rOk r),.int .i64 (rAt r),.int .i64 (rGr r),v])∧Pcs w' v L∧L.map (·.1)=rPs r∧Keeps (fun _=>False) w w' :=
 (specRead_any s w hs).mono fun e w' h=>by
  unfold ReadPost at h
  rw [hr] at h
  cases r with
  | error x=>exact ⟨_,[],h.1,⟨World.ownsRow_nil _ _ _ _,by simp⟩,rfl,h.2⟩
  | ok v =>
    obtain ⟨g,ps⟩:=v
    obtain ⟨v,L,h1,h2,h3,_,h5⟩:=h
    exact ⟨v,L,h1,h2,h3,h5⟩
theorem impl_all {s:ByteArray} {w:World} {r:Rres} (hr:readRef s=r):Calls Tryz.prog 14 #[.string s] w fun e w' =>∃v L,e = .returned (.agg #[.bool (rOk r),.int .i64 (rAt r),.int .i64 (rGr r),v])∧Out w' w.heap.size v L∧L.map (·.1)=rPs r∧(L.length≤1000∧∀c∈L,c.1.set.length≤1000∧c.1.kids.length≤1000)∧Keeps (fun _=>False) w w' :=
 (iread_any s w).mono fun e w' h=>by
  unfold IRead at h
  rw [hr] at h
  cases r with
  | error x=>exact ⟨_,[],h.1,Out.nil _ _,rfl,⟨by simp,by simp⟩,h.2⟩
  | ok v =>
    obtain ⟨g,ps⟩:=v
    obtain ⟨v,L,h1,h2,h3,h4,h5,h6⟩:=h
    refine ⟨v,L,h1,h2,h3,⟨h4,fun c hc=>h5 c.1 ?_⟩,h6⟩
    rw [← h3]
    exact List.mem_map_of_mem hc
theorem Out.pcs {w:World} {B:Nat} {x:Value} {L:List Pm} (h:Out w B x L):Pcs w x L:=⟨ownsRow_base h.row (fun _ _=>Nat.zero_le _),h.rows⟩
end Go.Proofs.YthkmmeamplmnhaaGreat
