import Derived.Test.YthkmmeamplmnhaaGreatRows
import Derived.WalkKit
import Derived.Deep.QuietTactic
import Derived.BigQuiet
import Derived.RegionTactic
import Derived.WalkSmall
import Derived.Deep.RegionLaw
namespace Go.Proofs.YthkmmeamplmnhaaGreat.Esc
open Go.RowKit
set_option maxRecDepth 100000
theorem ret_bool {a b:Bool} (h:a=b):Ending.returned (.bool a) = .returned (.bool b):=by rw [h]
theorem conv_one (n:Int) (w:World):Sem.run Tryz.prog (convert 22 9 (Value.slice (some { block:=w.heap.size,off:=0 }) 1 1)) (w.alloc (Obj.cells #[Value.int IntKind.u8 n] 5)) = .ok (.string ⟨#[UInt8.ofNat n.toNat]⟩) (w.alloc (Obj.cells #[Value.int IntKind.u8 n] 5)):=by
 rw [run_convert_bytes_string _ 22 9 5 _ _ _ Tryz.underlying22 Tryz.underlying5 Tryz.underlying9]
 rw [run_bytesToString _ _ _ _ [n]]
 ·rfl
 ·exact run_loadCells_list _ _ [Value.int IntKind.u8 n] (by
   intro j v hj
   match j,hj with
   | 0,hj=>simp at hj; subst hj; simp [Addr.add])
theorem Tryz.info5:(Tryz.prog.info? 5).map (fun i=>(i.zero,i.size,i.bytes))=some (some (.int .u8 0),1,1):=by kernel_rfl
theorem cells_new (w:World) (cs:List Value) (j:Nat) (u:Value) (hj:cs[j]? = some u):(w.alloc (.cells cs.toArray 5)).cell? (Addr.add ⟨w.heap.size,0,none⟩ j)=some u:=by
 have e:Addr.add ⟨w.heap.size,0,none⟩ j = ⟨w.heap.size,j,none⟩:=by by_cases h:j=0 <;> simp [Addr.add,h]
 rw [e,World.cell?_alloc_at _ _ _ _ rfl]
 simpa using hj
theorem step_append_run {P:Program} {ops:Array Oper} {o:Oper} {a:Act} {w:World} {K:Act→World→Prop} {Q:Exit→Act→World→Prop} {E:Prop}
  (hg:o.guard=none) (s x:Operand) (t ty:TypeId) (hop:o.op=Op.call { callee:=Callee.builtin Builtin.append,args:=#[s,x],argTypes:=#[t,t] }) (hty:o.type=ty)
  (v y v':Value) (w':World) (hs:a.eval s=v) (hx:a.eval x=y) (hrun:Sem.run P (Builtin.append_ #[t,t] ty #[v,y]) w = .ok v' w')
  (hK:K (a.put o.dst v') w') :
  if Region.wanted o (yielded ops a.tmps)=true then Oper.wp P o a w K Q else E:=by
 have hw:Region.wanted o (yielded ops a.tmps)=true:=by simp [Region.wanted,hg]
 rw [if_pos hw]
 unfold Oper.wp
 simp [execOp,hop,resolve,invoke,builtin,hs,hx,hty,hrun,Result.andThen]
 exact hK
theorem app_run (w:World) (base:Nat) (ty:TypeId) (v:Value) (m:Nat) (xs:List Value) (ns:List Int) (hm:m + ns.length≤2000000) (hb:base≤w.heap.size) (hown:w.ownsRow base 5 1 v m xs) :
  ∃ v' w1,Sem.run Tryz.prog (Builtin.append_ #[22,22] ty #[v,.slice (some ⟨w.heap.size,0,none⟩) ns.length ns.length]) (w.alloc (.cells (ns.map (Value.int .u8)).toArray 5)) = .ok v' w1∧
    w1.ownsRow base 5 1 v' (m + ns.length) (xs ++ ns.map (Value.int .u8))∧Below base w w1:=by
 obtain ⟨i0,hi,hz0,hz1,hz2⟩:=info_parts Tryz.info5
 obtain ⟨v',w1,hrun,ho,hg,_⟩:=run_append_own (P:=Tryz.prog) (w.alloc (.cells (ns.map (Value.int .u8)).toArray 5)) base 22 ty 5 i0 (.int .u8 0) 1 1 Tryz.underlying22 hi hz0 hz1 hz2 rfl (by decide) v m xs (hown.alloc _)
  ⟨w.heap.size,0,none⟩ ns.length ns.length (ns.map (Value.int .u8)) (by simp) (cells_new w _) (ints_oneCell _ _) (by unfold maxLen; omega) (by omega) (by simp; omega)
 refine ⟨v',w1,hrun,ho,?_⟩
 exact ((Below.refl _ _).alloc hb _).grown hg (by simp; omega) (fun k hk=>(hown.lt k hk).1)
def cellsOf (l:List UInt8):List Value:=l.map fun c=>Value.int .u8 c.toNat
def ba (l:List UInt8):ByteArray:=⟨l.toArray⟩
theorem take_snoc (s:ByteArray) (k:Nat) (h:k < s.size):s.data.toList.take (k + 1)=s.data.toList.take k ++ [s[k]]:=by
 rw [List.take_succ_eq_append_getElem (by simpa using h)]; rfl
theorem ba_size (a:List UInt8):(ba a).size=a.length:=by simp [ba,ByteArray.size]
theorem own_form {w:World} {base:Nat} {v:Value} {n:Nat} {xs:List Value} (h:w.ownsRow base 5 1 v n xs) :∃ao cap,v = .slice ao n cap:=by
 obtain ⟨_,⟨rfl,rfl⟩ | ⟨g,cap,cur,rfl,_⟩⟩:=h
 ·exact ⟨_,_,rfl⟩
 ·exact ⟨_,_,rfl⟩
theorem fold_ba (l:List UInt8) (r:ByteArray):(l.map fun c=>(c.toNat:Int)).foldl (fun r n=>r.push (UInt8.ofNat n.toNat)) r=r ++ ba l:=by
 induction l generalizing r with
 | nil=>apply ByteArray.ext; simp [ba]
 | cons c l ih =>
   rw [List.map_cons,List.foldl_cons,ih]
   apply ByteArray.ext
   simp [ba]
theorem conv_own {w:World} {base:Nat} {v:Value} {l:List UInt8} (h:w.ownsRow base 5 1 v l.length (cellsOf l)):Sem.run Tryz.prog (convert 22 9 v) w = .ok (.string (ba l)) w:=by
 have h':=h
 obtain ⟨_,⟨rfl,hl⟩ | ⟨g,cap,cur,rfl,_⟩⟩:=h
 ·obtain rfl:=List.eq_nil_of_length_eq_zero hl
  rw [run_convert_bytes_string _ 22 9 5 _ _ _ Tryz.underlying22 Tryz.underlying5 Tryz.underlying9]
  rfl
 ·rw [run_convert_bytes_string _ 22 9 5 _ _ _ Tryz.underlying22 Tryz.underlying5 Tryz.underlying9]
  have hc:cellsOf l=(l.map fun c=>(c.toNat:Int)).map (Value.int .u8):=by simp [cellsOf]
  rw [run_bytesToString _ _ _ _ (l.map fun c=>(c.toNat:Int))]
  ·rw [fold_ba]; congr 2
  ·rw [← hc]
   have:=run_loadCells_list (P:=Tryz.prog) w ⟨g,0,none⟩ (cellsOf l) (h'.cells rfl)
   simpa [cellsOf] using this
end Go.Proofs.YthkmmeamplmnhaaGreat.Esc
