import Derived.Test.YtfkflljplohhcaaGreatDoorYk
set_option linter.unusedVariables false
set_option maxHeartbeats 1000000
set_option maxRecDepth 100000
namespace Go.Proofs.YtfkflljplohhcaaGreatDoor
open Go.RowKit
theorem IL{P:Program}(w:World)(u v:Value)(t:TypeId)(hv:v.oneCell'=true):(store (ak w.heap.size) v).run P (w.alloc (.cells #[u] t))=.ok () (w.alloc (.cells #[v] t)):=by
 have h:(w.alloc (.cells #[u] t)).heap[w.heap.size]?=some (.cells #[u] t (0,0)):=heap_alloc_new _ _;rw[run_store _ _ _ _ _ hv];simp[Zc h,Zv h,go_sem]
variable {w:World}{c fn G:Nat}{cap:Array Value}{Q:Ending->World->Prop}{ty:TypeId}{y:Value}
theorem ZoI{X:Nat}{ao:Option Addr}(hQ:Q (.returned (.func (.func fn) #[] cap)) w):
  au 79 #[ae X,.slice ao 0 c,.func (.func fn) #[] cap] w Q:=by
 go_enter Tryz.func79,Tryz.ntmps79;go_wp2;go_loopg [2,7] 1 (fun gl s2 s7 wr=>s2=.func (.func fn) #[] cap/\s7=.int .i64 (-1)/\wr=w)
 case atStart=>exact⟨rfl,rfl,rfl⟩
 case round =>
  obtain⟨rfl,rfl,rfl⟩:=hrel;go_wp2;exact hQ
theorem Ztr{X n g:Nat}{I:Nat->Nat->Array Value->World->Prop}(hn:n<=1000)(h0:I n fn cap w)
  (hstep:∀i fn cap wi,I (i+1) fn cap wi->i<n->∃ty y,wi.cell? ⟨g,i,none⟩=some (.iface ty y)/\au 58 #[ae X,.iface ty y,.func (.func fn) #[] cap] wi (fun e w2 =>∃bU cap2,e=.returned (.func (.func bU) #[] cap2)/\Hid (I i bU cap2 w2)))
  (hQ:∀fn cap wi,I 0 fn cap wi->Q (.returned (.func (.func fn) #[] cap)) wi) :
  au 79 #[ae X,.slice (some ⟨g,0,none⟩) n c,.func (.func fn) #[] cap] w Q:=by
 have HI:Hid (∀i fn cap wi,I (i+1) fn cap wi->i<n->∃ty y,wi.cell? ⟨g,i,none⟩=some (.iface ty y)/\au 58 #[ae X,.iface ty y,.func (.func fn) #[] cap] wi (fun e w2 =>∃bU cap2,e=.returned (.func (.func bU) #[] cap2)/\Hid (I i bU cap2 w2))):=hstep;have HQ:Hid (∀fn cap wi,I 0 fn cap wi->Q (.returned (.func (.func fn) #[] cap)) wi):=hQ;have H0:Hid (I n fn cap w):=h0;clear hstep hQ h0;go_enter Tryz.func79,Tryz.ntmps79;go_wp2;go_loopg [2,7] (n+1) (fun gl s2 s7 wr =>∃(k fn:Nat) (cap:Array Value),gl=k+1/\k<=n/\s7=.int .i64 ((k:Int)-1)/\s2=.func (.func fn) #[] cap/\Hid (I k fn cap wr))
 case atStart=>exact⟨n,fn,cap,rfl,Nat.le_refl _,rfl,rfl,H0⟩
 case round =>
  clear H0;obtain⟨k,fn,cap,hgl,hk,rfl,rfl,Cm⟩:=hrel;have HG:Hid (gk=k+1):=hgl;clear hgl
  cases k with
  | zero =>
    have hz:¬(0:Int)<=((0:Nat):Int)-1:=by omega
    have hq:=HQ.out fn cap wr Cm.out;go_wp2;exact hq
  | succ k =>
    obtain⟨ty,y,hc,hcall⟩:=HI.out k fn cap wr Cm.out (by omega);have hz:(0:Int)<=((k+1:Nat):Int)-1:=by omega
    have e1:((k+1:Nat):Int)-1=(k:Int):=by omega
    rw[e1] at hz ⊢;have hlt:(k:Int)<(n:Int):=by omega
    go_wp2_with(go_at_call 58;refine hcall.mono ?_;rintro e w2 ⟨bU,cap2,rfl,HI2⟩);go_roundg (gk-1)
    case measure=>have:=HG.out;omega
    case rel=>exact⟨k,bU,cap2,by have:=HG.out;omega,by omega,congrArg (Value.int .i64) (by omega),rfl,HI2⟩
theorem ZpG{X:Nat}{num:Int}
  (hcall:∀w1,Za ai w w1->w1.heap[w.heap.size]?=some (.cells #[.int .i64 num,.iface ty y] 182 (0,0))->aP w1 (w.heap.size+1) 102 (.func (.func fn) #[] cap)->au 58 #[ae X,.iface ty y,.func (.func 117) #[] #[ae w.heap.size,.pointer (some ⟨w.heap.size+1,0,none⟩)]] w1
   (fun e w2 =>∃bU cap2,e=.returned (.func (.func bU) #[] cap2)/\Hid (Q (.returned (.func (.func 118) #[] #[ae w.heap.size,ae w2.heap.size])) (w2.alloc (.cells #[.func (.func bU) #[] cap2] 102))))) :
  au 83 #[ae X,.agg #[.int .i64 num,.iface ty y],.func (.func fn) #[] cap] w Q:=by
 have mR:∀(fn:Fn) (first cap:Array Value) (w:World),(Instr.makeFunc fn first cap).run Tryz.prog w=.ok (.func fn first cap) w:=fun _ _ _ _=>rfl;have b1:((w.alloc (.cells #[.int .i64 num,.iface ty y] 182)).alloc (.cells #[.func (.func fn) #[] cap] 102)).heap[w.heap.size]?=some (.cells #[.int .i64 num,.iface ty y] 182 (0,0)):=fU w _ _;have b2:aP ((w.alloc (.cells #[.int .i64 num,.iface ty y] 182)).alloc (.cells #[.func (.func fn) #[] cap] 102)) (w.heap.size+1) 102 (.func (.func fn) #[] cap):=gH w _ _;have hc:=hcall _ (((Za.refl _ w).alloc _).alloc _) b1 b2;have c1:((w.alloc (.cells #[.int .i64 num,.iface ty y] 182)).alloc (.cells #[.func (.func fn) #[] cap] 102)).cell? ⟨w.heap.size,1,none⟩=some (.iface ty y):=by rw[Zc b1];rfl
 clear hcall b1 b2;go_enter Tryz.func83,Tryz.ntmps83;go_upto_region 1 with fail;generalize ((w.alloc (.cells #[.int .i64 num,.iface ty y] 182)).alloc (.cells #[.func (.func fn) #[] cap] 102))=w1 at hc c1 ⊢;go_wp2_with(go_at_call 58;refine hc.mono ?_;rintro e w2 ⟨bU,cap2,rfl,hQ⟩;have hst:=IL (P:=Tryz.prog) w2 .nilFunc (.func (.func bU) #[] cap2) 102 rfl);exact hQ.out
theorem ZuL{M:Nat->Prop}(h0:M 0)(h1:M 1)(h2:M 2)(h3:M 3)(h4:M 4)(h5:M 5)(h6:M 6)(h7:M 7)(h8:M 8)(h9:M 9)(n:Nat)(h:n<=9):M n:=by
 rcases(show n=0\/n=1\/n=2\/n=3\/n=4\/n=5\/n=6\/n=7\/n=8\/n=9 from by omega) with h | h | h | h | h | h | h | h | h | h <;> subst h <;> assumption
theorem Zmc(G:Nat)(hG:G<=9):au 99 #[.int .u64 1,.int .u64 (G:Int)] w fun e w'=>e=.returned (.tuple #[.int .u64 0,.int .u64 (G:Int)])/\w'=w:=by
 have hb1:bits BinOp.and IntKind.u64 1 4294967295=1:=by decide +kernel
 have hb0:bits BinOp.and IntKind.u64 0 4294967295=0:=by decide +kernel
 obtain⟨g,hg,hbg,hsg,hg0,dH⟩:∃g:Int,g=(G:Int)/\bits BinOp.and IntKind.u64 g 4294967295=g/\g / 4294967296=0/\0<=g/\g<=9:=⟨G,rfl,ZuL (M:=fun G=>bits BinOp.and IntKind.u64 (G:Int) 4294967295=(G:Int)) (by decide +kernel) (by decide +kernel) (by decide +kernel) (by decide +kernel) (by decide +kernel) (by decide +kernel) (by decide +kernel) (by decide +kernel) (by decide +kernel) (by decide +kernel) G hG,by omega,by omega,by omega⟩;rw[<- hg];have hw:IntKind.u64.wrap g=g:=IntWalk.u64_in _ ⟨by omega,by omega⟩;clear hg hG;go_enter Tryz.func99,Tryz.ntmps99;go_wp2;refine bodyPost_ret (v:=.tuple #[.int .u64 0,.int .u64 g]) (by simp[results,Tryz.results99]) rfl ?_;exact⟨rfl,rfl⟩
theorem mul_one(G:Nat)(hG:G<=9):au 77 #[.int .u64 1,.int .u64 (G:Int)] w fun e w'=>e=.returned (.tuple #[.int .u64 0,.int .u64 (G:Int)])/\w'=w:=by
 have hc:=Zmc (w:=w) G hG;go_enter Tryz.func77,Tryz.ntmps77;go_wp2_with(go_at_call 99;refine hc.mono ?_;rintro e w2 ⟨rfl,rfl⟩);refine bodyPost_ret (v:=.tuple #[.int .u64 0,.int .u64 (G:Int)]) (by simp[results,Tryz.results77]) rfl ?_;exact⟨rfl,rfl⟩
theorem Iq(n:Nat)(h:n<=9):n=0\/n=1\/n=2\/n=3\/n=4\/n=5\/n=6\/n=7\/n=8\/n=9:=by omega
theorem ZjM(g G n:Nat)(hG:G<=9)(hn:n<G)(w:World):(Instr.slice 36 (.slice (some ⟨g,0,none⟩) G G) (some (.int .i64 (n:Int))) none none).run Tryz.prog w=.ok (.slice (some ⟨g,2*n,none⟩) (G-n) (G-n)) w:=by
 rcases Iq G hG with h | h | h | h | h | h | h | h | h | h <;> subst h <;> rcases Iq n (by omega) with h | h | h | h | h | h | h | h | h | h <;> subst h <;> first |(exfalso;omega) | kernel_rfl
theorem ZjK(g G n:Nat)(hG:G<=9)(hn:n<=G)(w:World):(Instr.slice 36 (.slice (some ⟨g,0,none⟩) G G) none (some (.int .i64 (n:Int))) none).run Tryz.prog w=.ok (.slice (some ⟨g,0,none⟩) n G) w:=by
 rcases Iq G hG with h | h | h | h | h | h | h | h | h | h <;> subst h <;> rcases Iq n (by omega) with h | h | h | h | h | h | h | h | h | h <;> subst h <;> first |(exfalso;omega) | kernel_rfl
theorem ZeA(w:World)(g o dLen dCap:Nat)(a:Addr)(sLen sCap:Nat)(cur:Array Value)(t:TypeId)(cs:List Value)(hg:w.heap[g]?=some (.cells cur t (0,0)))(hn:cs.length=Nat.min sLen dLen*2)
  (hsrc:∀j v,cs[j]?=some v->w.cell? (a.add j)=some v) (hfit:o+cs.length<=cur.size) (h1:∀v∈cs,v.oneCell'=true) :
  (Builtin.copy_ #[36,36] 3 #[.slice (some ⟨g,o,none⟩) dLen dCap,.slice (some a) sLen sCap]).run Tryz.prog w =
   .ok (goInt (Nat.min sLen dLen)) (w.setRow g (cur.toList.take o++cs++cur.toList.drop (o+cs.length)).toArray):=by
 obtain⟨i,hq,hz0,hi,hz2⟩:=info_parts Tryz.jR;have hl:=run_loadCells_list (P:=Tryz.prog) w a cs hsrc;have hst:=run_storeCells_at Tryz.prog g o t cs 0 cur w hg (by simpa using hfit) h1;simp[Builtin.copy_,run_underlying Tryz.underlying36,Builtin.lenOf,Builtin.firstCells,sizeOf,typeInfo,hq,hi,<- hn,hl,hst]
def fD (G k:Nat):List Value:=List.replicate (2*k) (.int .i64 (-1))++List.replicate (2*(G-k)) (.int .i64 0)
theorem Io{k:Nat}(h:k<=G):(fD G k).length=2*G:=by simp[fD];omega
theorem Zix{k m:Nat}(hk:k<=G)(hm:m<=G-k):((fD G k).take (2*k)++List.replicate (m*2) (.int .i64 (-1))++(fD G k).drop (2*k+(List.replicate (m*2) (Value.int .i64 (-1))).length))=fD G (k+m):=by
 unfold fD;rw[List.take_append_of_le_length (by simp),List.length_replicate];rw[List.take_of_length_le (by simp)];rw[List.drop_append];simp only[List.length_replicate,List.drop_replicate,List.replicate_append_replicate];have e1:2*k-(2*k+m*2)=0:=by omega
 have e2:2*(G-k)-(2*k+m*2-2*k)=2*(G-(k+m)):=by omega
 rw[e1,e2,List.replicate_zero,List.nil_append]
 congr 2
 omega
theorem YI{k j:Nat}{v:Value}(h:(List.replicate (j*2) (Value.int .i64 (-1)))[k]?=some v):v=.int .i64 (-1)/\k<j*2:=by
 rw[List.getElem?_replicate] at h
 split at h
 ·simp at h;exact⟨h.symm,by assumption⟩
 ·simp at h
theorem ZcJ(w:World)(g:Nat)(cs:Array Value):Za (·=g) w (w.setRow g cs) :=
 ⟨rfl,rfl,rfl,by simp[World.setRow],fun k _ h=>setRow_other w g k cs h⟩
theorem Zpg(G:Nat)(hG:G<=9)(w:World):(Instr.makeSlice 36 (.int .i64 (G:Int)) (.int .i64 (G:Int))).run Tryz.prog w=.ok (.slice (some ⟨w.heap.size,0,none⟩) G G) (w.alloc (.cells (fD G 0).toArray 118)):=by
 rcases Iq G hG with h | h | h | h | h | h | h | h | h | h <;> subst h <;> kernel_rfl
theorem Zgd{a:Nat}(hG:G<=9)(c0:w.cell? (ak a)=some (.int .i64 (-1)))(c1:w.cell? ⟨a,1,none⟩=some (.int .i64 (-1)))(ha:a<w.heap.size):
  au 55 #[.slice (some ⟨a,0,none⟩) 1 1,.int .i64 (G:Int)] w fun e w'=>e=.returned (.slice (some ⟨w.heap.size,0,none⟩) G G)/\w'.heap[w.heap.size]?=some (.cells (fD G G).toArray 118 (0,0))/\Za ai w w':=by
 have hms:=Zpg G hG;have hmul:=mul_one (w:=w) G hG;have hwr:IntKind.u64.wrap (G:Int)=(G:Int):=IntWalk.u64_in _ ⟨by omega,by omega⟩;have CF:IntKind.i64.wrap (G:Int)=(G:Int):=IntWalk.i64_in _ ⟨by omega,by omega⟩;have kA:Za ai w (w.alloc (.cells (fD G 0).toArray 118)):=QT;have bA:(w.alloc (.cells (fD G 0).toArray 118)).heap[w.heap.size]?=some (.cells (fD G 0).toArray 118 (0,0)):=heap_alloc_new _ _;have uu:=ZeA (w.alloc (.cells (fD G 0).toArray 118)) w.heap.size 0 G G (ak a) 1 1 _ _ (List.replicate (Nat.min 1 G*2) (.int .i64 (-1))) bA (by simp) (fun j v h=>by
   obtain⟨rfl,hj⟩:=YI h;have hj2:j<2:=by have:Nat.min 1 G<=1:=Nat.min_le_left _ _;omega
   rcases(show j=0\/j=1 from by omega) with h | h <;> subst h
   ·exact Zf c0 kA
   ·exact Zf c1 kA) (by have:=Nat.min_le_right 1 G;have h2:Nat.min 1 G<=G:=this;rw[List.length_replicate,List.size_toArray,Io (Nat.zero_le G)];omega) (fun v hv=>by rw[List.eq_of_mem_replicate hv];rfl)
 have e0:=Zix (G:=G) (k:=0) (m:=Nat.min 1 G) (Nat.zero_le _) (Nat.min_le_right _ _);simp only[Nat.mul_zero] at e0;rw[show (fD G 0).toArray.toList=fD G 0 from rfl,e0,Nat.zero_add] at uu;have hr1:((w.alloc (.cells (fD G 0).toArray 118)).setRow w.heap.size (fD G (Nat.min 1 G)).toArray).heap[w.heap.size]?=some (.cells (fD G (Nat.min 1 G)).toArray 118 (0,0)):=setRow_heap _ _ _ _ _ _ bA;have hg:goInt (Nat.min 1 G)=.int .i64 ((Nat.min 1 G:Nat):Int):=rfl;rw[hg] at uu;have hm1:Nat.min 1 G<=G:=Nat.min_le_right _ _;have hm2:1<=G->Nat.min 1 G=1:=fun h=>Nat.min_eq_left h;have hk1:Za ai w ((w.alloc (.cells (fD G 0).toArray 118)).setRow w.heap.size (fD G (Nat.min 1 G)).toArray):=kA.trans' (E':=fun k=>k=w.heap.size) (ZcJ _ _ _) (fun i hi e=>by omega);generalize ((w.alloc (.cells (fD G 0).toArray 118)).setRow w.heap.size (fD G (Nat.min 1 G)).toArray)=w1 at uu hr1 hk1;generalize Nat.min 1 G=m1 at uu hr1 hm1 hm2;have HM:Hid (1<=G->m1=1):=hm2;clear kA bA e0 hg c0 c1 hm2;go_enter Tryz.func55,Tryz.ntmps55;go_wp2_with(go_at_call 77;refine hmul.mono ?_;rintro e w2 ⟨rfl,rfl⟩);go_loopg [8] (G+1) (fun gl s8 wr =>∃k:Nat,k<=G/\(1<=G->1<=k)/\G-k<gl/\s8=.int .i64 (k:Int)/\wr.heap[w2.heap.size]?=some (.cells (fD G k).toArray 118 (0,0))/\Za ai w2 wr)
 case atStart=>exact⟨m1,hm1,fun h=>by have:=HM.out h;omega,by omega,rfl,hr1,hk1⟩
 case round =>
  clear hr1 hk1 uu HM hm1;obtain⟨k,hk,hk0,hgl,rfl,hrow,hK⟩:=hrel;have HG:Hid (G-k<gk):=hgl;have HK0:Hid (1<=G->1<=k):=hk0;clear hgl hk0
  by_cases hlt:k<G
  ·have hz:(k:Int)<(G:Int):=by omega
   have s1:=ZjM w2.heap.size G k hG hlt;have s2:=ZjK w2.heap.size G k hG (by omega);have hcp:=ZeA wr.drew w2.heap.size (2*k) (G-k) (G-k) (ak w2.heap.size) k G _ _ (List.replicate (Nat.min k (G-k)*2) (.int .i64 (-1))) hrow (by simp) (fun j v h=>by
     obtain⟨rfl,hj⟩:=YI h;have h2:Nat.min k (G-k)<=k:=Nat.min_le_left _ _;rw[show (((ak w2.heap.size):Addr).add j)=⟨w2.heap.size,j,none⟩ from by simp[Addr.add];exact fun h=>h.symm,Zc (w:=wr.drew) hrow];simp only[List.getElem?_toArray];unfold fD;rw[List.getElem?_append_left (by simp;omega),List.getElem?_replicate,if_pos (by omega)]) (by have h2:Nat.min k (G-k)<=G-k:=Nat.min_le_right _ _;rw[List.length_replicate,List.size_toArray,Io hk];omega) (fun v hv=>by rw[List.eq_of_mem_replicate hv];rfl)
   have e0:=Zix (G:=G) (k:=k) (m:=Nat.min k (G-k)) hk (Nat.min_le_right _ _);rw[show (fD G k).toArray.toList=fD G k from rfl,e0] at hcp;have hr2:(wr.drew.setRow w2.heap.size (fD G (k+Nat.min k (G-k))).toArray).heap[w2.heap.size]?=some (.cells (fD G (k+Nat.min k (G-k))).toArray 118 (0,0)):=setRow_heap _ _ _ _ _ _ hrow;have hK2:Za ai w2 (wr.drew.setRow w2.heap.size (fD G (k+Nat.min k (G-k))).toArray):=hK.drew.trans' (E':=fun k=>k=w2.heap.size) (ZcJ _ _ _) (fun i hi e=>by omega);have KF:Nat.min k (G-k)<=G-k:=Nat.min_le_right _ _;have cO:1<=Nat.min k (G-k):=Nat.le_min.2 ⟨HK0.out (by omega),by omega⟩;rw[show goInt (Nat.min k (G-k))=.int .i64 ((Nat.min k (G-k):Nat):Int) from rfl] at hcp;generalize Nat.min k (G-k)=m at hcp hr2 hK2 KF cO;generalize (wr.drew.setRow w2.heap.size (fD G (k+m)).toArray)=w5 at hcp hr2 hK2;have hwk:IntKind.i64.wrap ((k:Int)+(m:Int))=((k+m:Nat):Int):=by rw[IntWalk.i64_in _ ⟨by omega,by omega⟩];push_cast;rfl
   clear hrow hK e0;go_wp2;go_region
   all_goals (try go_wp2)
   all_goals go_roundg (gk-1)
   all_goals first
    |(case measure=>have:=HG.out;omega)
    | skip
   all_goals exact⟨k+m,by omega,fun _=>by omega,by have:=HG.out;omega,by first | rfl | exact congrArg (Value.int .i64) (by first | exact hwk |(push_cast;rfl)),hr2,hK2⟩
  ·obtain rfl:k=G:=by omega
   go_wp2;go_ret;exact⟨rfl,hrow,hK⟩
theorem Zgg:au 57 #[] w fun e w' =>∃m,e=.returned (.agg #[.map (some m)])/\w.heap.size<=m/\w'.heap[m]?=some (.map #[] 0)/\Za ai w w':=by
 have b2:((w.alloc (.cells #[.map (some (w.heap.size+1))] 100)).alloc (.map #[] 0)).heap[w.heap.size+1]?=some (.map #[] 0):=gH w _ _;have hK:Za ai w ((w.alloc (.cells #[.map (some (w.heap.size+1))] 100)).alloc (.map #[] 0)):=((Za.refl _ w).alloc _).alloc _;have hmm:∀w:World,(Instr.makeMap 98 none).run Tryz.prog w=.ok (.map (some w.heap.size)) (w.alloc (.map #[] 0)):=fun _=>by kernel_rfl
 go_enter Tryz.func57,Tryz.ntmps57;go_wp2_with fail;refine bodyPost_ret (v:=.agg #[.map (some (w.heap.size+1))]) (by simp[results,Tryz.results57,go_sem]) rfl ?_;exact⟨_,rfl,by omega,b2,hK⟩
structure R8 (w w5:World) (X m g:Nat) (u:ByteArray) (G:Nat):Prop where
 se:Se w5 ⟨X,m,u,.slice (some ⟨g,0,none⟩) G G,G⟩ 0 .nilFunc .nilFunc
 vb:aP w5 (X+1) 52 ((ae X))
 mp:w5.heap[m]?=some (.map #[] 0)
 sp:w5.heap[g]?=some (.cells (fD G G).toArray 118 (0,0))
 k:Za ai w w5
 lt:w.heap.size<=g/\g<m/\m<X
theorem Zgr{u:ByteArray}(hG:G<=9)
  (hstep:∀(X m g:Nat) (w5:World),R8 w w5 X m g u G->au 58 #[ae X,.iface ty y,.func (.func 59) #[] #[.pointer (some ⟨X+1,0,none⟩)]] w5
   (fun e w6 =>∃fn cap k,e=.returned (.func (.func fn) #[] cap)/\aP w6 (X+1) 52 ((ae X))/\Se w6 ⟨X,m,u,.slice (some ⟨g,0,none⟩) G G,G⟩ k .nilFunc .nilFunc/\Hid (Q (.returned ((ae X))) (w6.setCell ⟨X,4,none⟩ (.func (.func fn) #[] cap))))) :
  au 36 #[.string u,.int .i64 (G:Int),.iface ty y] w Q:=by
 have mR:∀(fn:Fn) (first cap:Array Value) (w:World),(Instr.makeFunc fn first cap).run Tryz.prog w=.ok (.func fn first cap) w:=fun _ _ _ _=>rfl;have HS:Hid (∀(X m g:Nat) (w5:World),R8 w w5 X m g u G->au 58 #[ae X,.iface ty y,.func (.func 59) #[] #[.pointer (some ⟨X+1,0,none⟩)]] w5
   (fun e w6 =>∃fn cap k,e=.returned (.func (.func fn) #[] cap)/\aP w6 (X+1) 52 ((ae X))/\Se w6 ⟨X,m,u,.slice (some ⟨g,0,none⟩) G G,G⟩ k .nilFunc .nilFunc/\Hid (Q (.returned ((ae X))) (w6.setCell ⟨X,4,none⟩ (.func (.func fn) #[] cap))))):=hstep
 clear hstep;go_enter Tryz.func36,Tryz.ntmps36;go_upto_region 2 with(first|(go_at_call 56;refine ZbW.mono ?_;rintro e w2 ⟨rfl,hk1⟩)|(go_at_call 55;refine(Zgd (w:=w2.alloc (.cells #[.int .i64 (-1),.int .i64 (-1)] 118)) hG (by rw[Zc (heap_alloc_new w2 _)];rfl) (by rw[Zc (heap_alloc_new w2 _)];rfl) (by simp)).mono ?_;rintro e w3 ⟨rfl,hsp,hk2⟩)|(go_at_call 57;refine Zgg.mono ?_;rintro e w4 ⟨m,rfl,hm,hmp,hk3⟩))
 have iH:Za ai w2 (w2.alloc (.cells #[.int .i64 (-1),.int .i64 (-1)] 118)):=(Za.refl _ w2).alloc _;have hs1:=hk1.size;have hs2:=iH.size;have hs3:=lt_of_block hsp;have hs4:m<w4.heap.size:=(Array.getElem?_eq_some_iff.1 hmp).1;simp only[World.size_alloc] at hsp hs2 hs3;have hs5:w.heap.size<=w2.heap.size+1:=by omega
 generalize w2.heap.size+1=g at hsp hs2 hs3 hs5 ⊢;have hk4:Za ai w w4:=((hk1.trans iH).trans hk2).trans hk3;have hk5:Za ai w4 ((w4.alloc (.cells #[.string u,.slice (some ⟨g,0,none⟩) G G,.int .i64 0,.map (some m),.nilFunc,.nilFunc] 105)).alloc (.cells #[ae w4.heap.size] 52)):=((Za.refl _ w4).alloc _).alloc _;have iD:Se ((w4.alloc (.cells #[.string u,.slice (some ⟨g,0,none⟩) G G,.int .i64 0,.map (some m),.nilFunc,.nilFunc] 105)).alloc (.cells #[ae w4.heap.size] 52)) ⟨w4.heap.size,m,u,.slice (some ⟨g,0,none⟩) G G,G⟩ 0 .nilFunc .nilFunc:=fU w4 _ _;have hV:aP ((w4.alloc (.cells #[.string u,.slice (some ⟨g,0,none⟩) G G,.int .i64 0,.map (some m),.nilFunc,.nilFunc] 105)).alloc (.cells #[ae w4.heap.size] 52)) (w4.heap.size+1) 52 ((ae w4.heap.size)):=gH w4 _ _;have hN:R8 w ((w4.alloc (.cells #[.string u,.slice (some ⟨g,0,none⟩) G G,.int .i64 0,.map (some m),.nilFunc,.nilFunc] 105)).alloc (.cells #[ae w4.heap.size] 52)).drew w4.heap.size m g u G :=
  ⟨iD,hV,(hk5.block m hs4 id).trans hmp,(hk5.block g (by have:=hk3.size;omega) id).trans ((hk3.block g hs3 id).trans hsp),(hk4.trans hk5).drew,by omega,by omega,hs4⟩
 have hcall:=HS.out _ _ _ _ hN;have qd:∀(a:Addr) (fn:Fn) (f c:Array Value) (w:World),(store a (.func fn f c)).run Tryz.prog w=stored Tryz.prog w a (.func fn f c) .plain:=fun _ _ _ _ _=>run_store _ _ _ _ _ rfl;clear hk1 hk2 hk3 hk4 hk5 iH HS hN iD hsp hmp;generalize ((w4.alloc (.cells #[.string u,.slice (some ⟨g,0,none⟩) G G,.int .i64 0,.map (some m),.nilFunc,.nilFunc] 105)).alloc (.cells #[ae w4.heap.size] 52))=w5 at hV hcall ⊢;generalize w4.heap.size=X at hV hcall ⊢;have hS0:w5.drew.cell? ⟨X+1,0,none⟩=some ((ae X)):=hV.cell;clear hV;go_region_held3 (fun w'=>w'.cell? ⟨X+1,0,none⟩=some ((ae X))) (first | assumption | go_keep) (first|(go_at_call 58;refine hcall.mono ?_;rintro e w6 ⟨fn,cap,k,rfl,KM,lG,hQ⟩;have cv6:=KM.cell;have c4:=lG.c4;have f4:=lG.fz 4;have cv7:(w6.setCell ⟨X,4,none⟩ (.func (.func fn) #[] cap)).cell? ⟨X+1,0,none⟩=some ((ae X)):=(by rw[Zc (by rw[Below.heap_setCell _ _ _ _ (by simp)];exact KM)];rfl)))
 all_goals (try go_wp2_with fail)
 all_goals exact hQ.out
end Go.Proofs.YtfkflljplohhcaaGreatDoor
