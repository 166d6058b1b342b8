import Derived.Test.YtfkflljplohhcaaGreatDoorN
set_option linter.unusedVariables false
set_option maxHeartbeats 1000000
set_option maxRecDepth 100000
namespace Go.Proofs.YtfkflljplohhcaaGreatDoor.nN
open Go.RowKit
theorem fI(n:Int)(w:World):Sem.run Tryz.prog (convert 22 9 (Value.slice (some { block:=w.heap.size,off:=0 }) 1 1)) (w.alloc (Obj.cells #[Value.int IntKind.u8 n] 5))=.ok (.string ⟨#[UInt8.ofNat n.toNat]⟩) (w.alloc (Obj.cells #[Value.int IntKind.u8 n] 5)):=by
 rw[run_convert_bytes_string _ 22 9 5 _ _ _ Tryz.underlying22 Tryz.underlying5 Tryz.underlying9];rw[run_bytesToString _ _ _ _ [n]]
 ·rfl
 ·exact run_loadCells_list _ _ [Value.int IntKind.u8 n] (by
   intro j v hj
   match j,hj with
   | 0,hj=>simp at hj;subst hj;simp[Addr.add])
theorem Tryz.info5:(Tryz.prog.info? 5).map (fun i=>(i.zero,i.size,i.bytes))=some (some (.int .u8 0),1,1):=by kernel_rfl
theorem aV(w:World)(cs:List Value)(j:Nat)(u:Value)(hj:cs[j]?=some u):(w.alloc (.cells cs.toArray 5)).cell? (Addr.add (ak w.heap.size) j)=some u:=by
 have e:Addr.add (ak w.heap.size) j=⟨w.heap.size,j,none⟩:=by by_cases h:j=0 <;> simp[Addr.add,h]
 rw[e,World.cell?_alloc_at _ _ _ _ rfl];simpa using hj
theorem xQ(w:World)(base:Nat)(ty:TypeId)(v:Value)(m:Nat)(xs:List Value)(ns:List Int)(hm:m+ns.length<=2000000)(hb:base<=w.heap.size)(hown:w.ownsRow base 5 1 v m xs):
  ∃ v' w1,Sem.run Tryz.prog (Builtin.append_ #[22,22] ty #[v,.slice (some ⟨w.heap.size,0,none⟩) ns.length ns.length]) (w.alloc (.cells (ns.map (Value.int .u8)).toArray 5))=.ok v' w1/\
    w1.ownsRow base 5 1 v' (m+ns.length) (xs++ns.map (Value.int .u8))/\Below base w w1:=by
 obtain⟨i0,hi,hz0,hz1,hz2⟩:=info_parts Tryz.info5;obtain⟨v',w1,hrun,ho,hg,_⟩:=run_append_own (P:=Tryz.prog) (w.alloc (.cells (ns.map (Value.int .u8)).toArray 5)) base 22 ty 5 i0 (.int .u8 0) 1 1 Tryz.underlying22 hi hz0 hz1 hz2 rfl (by decide) v m xs (hown.alloc _)
  (ak w.heap.size) ns.length ns.length (ns.map (Value.int .u8)) (by simp) (aV w _) (ints_oneCell _ _) (by unfold maxLen;omega) (by omega) (by simp;omega)
 refine⟨v',w1,hrun,ho,?_⟩;exact((Below.refl _ _).alloc hb _).grown hg (by simp;omega) (fun k hk=>(hown.lt k hk).1)
def cellsOf (l:List UInt8):List Value:=l.map fun c=>Value.int .u8 c.toNat
def ba (l:List UInt8):ByteArray:=⟨l.toArray⟩
theorem ql(a:List UInt8):(ba a).size=a.length:=by simp[ba,ByteArray.size]
variable {w w':World}{base R cap p K M g j p1 g1 c d g':Nat}{v:Value}{cs a b l:List Nat}{ao:Option Addr}{s:ByteArray}{pl plain:Bool}{deep:Int}
theorem aj{n:Nat}{xs:List Value}(h:w.ownsRow base 5 1 v n xs):∃ao cap,v=.slice ao n cap:=by
 obtain⟨_,⟨rfl,rfl⟩ | ⟨g,cap,cur,rfl,_⟩⟩:=h
 ·exact⟨_,_,rfl⟩
 ·exact⟨_,_,rfl⟩
theorem xM(l:List UInt8)(r:ByteArray):(l.map fun c=>(c.toNat:Int)).foldl (fun r n=>r.push (UInt8.ofNat n.toNat)) r=r++ba l:=by
 induction l generalizing r with
 | nil=>apply ByteArray.ext;simp[ba]
 | cons c l ih =>
   rw[List.map_cons,List.foldl_cons,ih];apply ByteArray.ext;simp[ba]
theorem ni{l:List UInt8}(h:w.ownsRow base 5 1 v l.length (cellsOf l)):Sem.run Tryz.prog (convert 22 9 v) w=.ok (.string (ba l)) w:=by
 have h':=h;obtain⟨_,⟨rfl,hl⟩ | ⟨g,cap,cur,rfl,_⟩⟩:=h
 ·obtain rfl:=List.eq_nil_of_length_eq_zero hl;rw[run_convert_bytes_string _ 22 9 5 _ _ _ Tryz.underlying22 Tryz.underlying5 Tryz.underlying9];rfl
 ·rw[run_convert_bytes_string _ 22 9 5 _ _ _ Tryz.underlying22 Tryz.underlying5 Tryz.underlying9];have hc:cellsOf l=(l.map fun c=>(c.toNat:Int)).map (Value.int .u8):=by simp[cellsOf]
  rw[run_bytesToString _ _ _ _ (l.map fun c=>(c.toNat:Int))]
  ·rw[xM];congr 2
  ·rw[<- hc]
   have:=run_loadCells_list (P:=Tryz.prog) w (ak g) (cellsOf l) (h'.cells rfl)
   simpa [cellsOf] using this
end Go.Proofs.YtfkflljplohhcaaGreatDoor.nN
namespace Go.Proofs.YtfkflljplohhcaaGreatDoor
theorem Zpe(P z y:Nat)(h:z % P=y % P)(hP:0<P):z % (2*P)=y % (2*P)\/(z+P) % (2*P)=y % (2*P):=by
 have hz:=Nat.div_add_mod z P;have hy:=Nat.div_add_mod y P;have hz2:z % (2*P)=z % P+P*(z / P % 2):=by rw[Nat.mul_comm 2 P,Nat.mod_mul]
 have hy2:y % (2*P)=y % P+P*(y / P % 2):=by rw[Nat.mul_comm 2 P,Nat.mod_mul]
 have hw2:(z+P) % (2*P)=(z+P) % P+P*((z+P) / P % 2):=by rw[Nat.mul_comm 2 P,Nat.mod_mul]
 have e1:(z+P) % P=z % P:=by simp
 have e2:(z+P) / P=z / P+1:=by rw[Nat.add_div_right _ hP]
 rw[hz2,hy2,hw2,e1,e2,h]
 rcases Nat.mod_two_eq_zero_or_one (z / P) with a | a <;> rcases Nat.mod_two_eq_zero_or_one (y / P) with b | b
 ·left;rw[a,b]
 ·right;have:(z / P+1) % 2=1:=by omega
  rw[this,b]
 ·right;have:(z / P+1) % 2=0:=by omega
  rw[this,b]
 ·left;rw[a,b]
def lit:Nat->Nat->Nat
 | 0,x=>x
 | k+1,x=>lit k (x*6364136223846793005+1442695040888963407)
theorem LG(j k x:Nat):lit (k+j) x=lit j (lit k x):=by
 induction k generalizing x with
 | zero=>simp[lit]
 | succ k ih=>rw[Nat.add_right_comm];simp only[lit];exact ih _
theorem Zse(n:Nat):∃t u:Nat,∀x,lit (2 ^ n) x=(1+2 ^ (n+2)*t)*x+2 ^ n*(2*u+1):=by
 induction n with
 | zero=>exact⟨1591034055961698251,721347520444481703,fun x=>by simp[lit];omega⟩
 | succ n ih =>
   obtain⟨t,u,h⟩:=ih;refine⟨t+2 ^ (n+1)*t*t,u+2 ^ n*t*(2*u+1),fun x=>?_⟩;have e:2 ^ (n+1)=2 ^ n+2 ^ n:=by rw[Nat.pow_succ];omega
   rw[e,LG,h,h];have e2:2 ^ (n+2)=4*2 ^ n:=by rw[Nat.pow_add];omega
   have e3:2 ^ (n+1+2)=8*2 ^ n:=by rw[Nat.pow_add,Nat.pow_add];omega
   rw[e2,e3];generalize 2 ^ n=P;clear h e e2 e3
   grind
theorem Zmk(n x y:Nat):∃k,k<2 ^ n/\lit k x % 2 ^ n=y % 2 ^ n:=by
 induction n with
 | zero=>exact⟨0,by simp,by simp[Nat.mod_one]⟩
 | succ n ih =>
   obtain⟨k,hk,h⟩:=ih;have hP:0<2 ^ n:=Nat.pow_pos (by omega);have e:2 ^ (n+1)=2*2 ^ n:=by rw[Nat.pow_succ];omega
   rcases Zpe _ _ _ h hP with h1 | h1
   ·exact⟨k,by omega,by rw[e];exact h1⟩
   ·refine⟨k+2 ^ n,by omega,?_⟩;obtain⟨t,u,hp⟩:=Zse n;rw[LG,hp,e,<- h1];have e2:2 ^ (n+2)=4*2 ^ n:=by rw[Nat.pow_add];omega
    rw[e2];generalize lit k x=z;generalize 2 ^ n=P
    have:(1+4*P*t)*z+P*(2*u+1)=z+P+2*P*(2*t*z+u):=by
     clear hp h h1 hk hP e e2
     grind
    rw[this,Nat.add_mul_mod_self_left]
def vw (s b:Nat):Nat:=(s*6364136223846793005+b+1442695040888963407) % 2 ^ 64
theorem Xu(s:Nat):vw s 0=(s*6364136223846793005+1442695040888963407) % 2 ^ 64:=by unfold vw;omega
def sd (cs:List Nat):Nat->Nat
 | 0=>0
 | p+1=>vw (sd cs p) (cs.getD p 0)
def dr (cs:List Nat) (p:Nat):Nat:=if p<cs.length then cs.getD p 0 else sd cs (p+1) / 2 ^ 40 % 256
def win (cs:List Nat) (q:Nat):Prop :=∀i,i<17->dr cs (q+i) % 6≠0
variable {cs a b l:List Nat}{w w':World}{base R cap p K M g j p1 g1 c d g':Nat}{v:Value}{ao:Option Addr}{s:ByteArray}{pl plain:Bool}{deep:Int}
theorem Zu8(h:∀c∈cs,c<256)(p:Nat):dr cs p<256:=by
 unfold dr
 split
 ·rename_i hp;rw[List.getD_eq_getElem?_getD,List.getElem?_eq_getElem hp];exact h _ (List.getElem_mem hp)
 ·exact Nat.mod_lt _ (by omega)
theorem Tk(k x:Nat):lit (k+1) x=lit k x*6364136223846793005+1442695040888963407:=by rw[LG];rfl
theorem Ziw(M a b A C:Nat)(h:a % M=b % M):(a*A+C) % M=(b*A+C) % M:=by
 rw[Nat.add_mod,Nat.mul_mod,h,<- Nat.mul_mod,<- Nat.add_mod]
theorem Ztt(cs:List Nat)(p:Nat)(hp:cs.length<=p):sd cs (p+1)=(sd cs p*6364136223846793005+1442695040888963407) % 2 ^ 64:=by
 have hd:cs.getD p 0=0:=by rw[List.getD_eq_getElem?_getD,List.getElem?_eq_none (by omega)];rfl
 rw[sd,hd,Xu]
theorem Zts(M:Nat)(hM:M ∣ 2 ^ 64)(cs:List Nat)(p:Nat)(hp:cs.length<=p)(k:Nat):sd cs (p+k) % M=lit k (sd cs p) % M:=by
 induction k with
 | zero=>rw[Nat.add_zero,lit]
 | succ k ih =>
   rw[<- Nat.add_assoc,Ztt cs _ (by omega),Nat.mod_mod_of_dvd _ hM,Tk];exact Ziw _ _ _ _ _ ih
theorem Zsf(M k x:Nat):lit k x % M=lit k (x % M) % M:=by
 induction k with
 | zero=>simp[lit]
 | succ k ih=>rw[Tk,Tk];exact Ziw _ _ _ _ _ ih
theorem ZtS(s:Nat):s / 2 ^ 40 % 256=s % 2 ^ 48 / 2 ^ 40:=by omega
theorem Zsd:∀i,i<17->lit (i+1) 1 % 2 ^ 48 / 2 ^ 40 % 6≠0:=by decide
theorem Zk4(cs:List Nat)(p:Nat):∃q,p<=q/\q<=p+cs.length+2 ^ 48/\win cs q:=by
 obtain⟨k,hk,h⟩:=Zmk 48 (sd cs (p+cs.length)) 1;refine⟨p+cs.length+k,by omega,by omega,fun i hi=>?_⟩;unfold dr;rw[if_neg (by omega),ZtS,Nat.add_assoc,Nat.add_assoc,Zts (2 ^ 48) ⟨2 ^ 16,by decide⟩ cs _ (by omega),LG,Zsf,h];exact Zsd i hi
theorem Zon(cs:List Nat)(h:cs.length<=1048576)(p:Nat):∃q,p<=q/\q+100<=p+562949953421312/\win cs q:=by
 obtain⟨q,h1,h2,h3⟩:=Zk4 cs p;exact⟨q,h1,by omega,h3⟩
open Go.RowKit
def Dc (w:World) (ao:Option Addr) (cs:List Nat):Prop:=(∀c∈cs,c<256)/\(0<cs.length->∃a,ao=some a/\∀(i c:Nat),cs[i]?=some c->w.cell? (a.add i)=some (.int .u8 (c:Int)))
def Du (w:World) (R:Nat) (ao:Option Addr) (n cap:Nat) (p s:Int):Prop:=w.heap[R]?=some (.cells #[.slice ao n cap,.int .i64 p,.int .u64 s] 45 (0,0))
namespace Du
variable {w w':World}{R n cap:Nat}{ao:Option Addr}{p s:Int}
theorem lt(h:Du w R ao n cap p s):R<w.heap.size:=lt_of_block h
theorem c0(h:Du w R ao n cap p s):w.cell? (ak R)=some (.slice ao n cap):=by rw[Zc h];rfl
theorem c1(h:Du w R ao n cap p s):w.cell? ⟨R,1,none⟩=some (.int .i64 p):=by rw[Zc h];rfl
theorem c2(h:Du w R ao n cap p s):w.cell? ⟨R,2,none⟩=some (.int .u64 s):=by rw[Zc h];rfl
theorem fz(h:Du w R ao n cap p s)(i:Nat):w.frozen? ⟨R,i,none⟩=false:=Zv h
variable {E:Nat->Prop}
theorem keeps(h:Du w R ao n cap p s)(k:Za E w w')(hE:¬E R):Du w' R ao n cap p s:=by
 unfold Du at h ⊢;rw[k.block R (lt_of_block h) hE];exact h
theorem set1(h:Du w R ao n cap p s)(x:Int):Du (w.setCell ⟨R,1,none⟩ (.int .i64 x)) R ao n cap x s:=by unfold Du;rw[heap_setCell_same _ _ _ _ _ _ h];rfl
theorem set2(h:Du w R ao n cap p s)(x:Int):Du (w.setCell ⟨R,2,none⟩ (.int .u64 x)) R ao n cap p x:=by unfold Du;rw[heap_setCell_same _ _ _ _ _ _ h];rfl
end Du
theorem ZdO{a:Addr}(h:w'.heap[a.block]?=w.heap[a.block]?):w'.cell? a=w.cell? a:=by
 simp[World.cell?,h]
theorem ZdP(a:Addr)(i:Nat):(a.add i).block=a.block:=by
 by_cases h:i=0 <;> simp[Addr.add,h]
variable {E:Nat->Prop}
theorem Dc.keeps(h:Dc w ao cs)(k:Za E w w')(hb:∀a,ao=some a->a.block<w.heap.size/\¬E a.block):Dc w' ao cs:=by
 obtain⟨h1,h2⟩:=h;refine⟨h1,fun hl=>?_⟩;obtain⟨a,ha,h3⟩:=h2 hl;refine⟨a,ha,fun i c hc=>?_⟩;rw[ZdO (k.block (a.add i).block (by rw[ZdP];exact(hb a ha).1) (by rw[ZdP];exact(hb a ha).2))];exact h3 i c hc
structure Dw (w:World) (R:Nat) (ao:Option Addr) (cs:List Nat) (cap p:Nat):Prop where
 cur:Du w R ao cs.length cap ((p:Nat):Int) ((sd cs p:Nat):Int)
 code:Dc w ao cs
 apart:∀a,ao=some a->a.block<w.heap.size/\a.block≠R
namespace Dw
variable {w w':World}{R cap p p':Nat}{ao:Option Addr}{cs:List Nat}
theorem same(h:Dw w R ao cs cap p)(k:Za ai w w'):Dw w' R ao cs cap p :=
 ⟨h.cur.keeps k id,h.code.keeps k (fun a ha=>⟨(h.apart a ha).1,fun h=>h⟩),fun a ha=>⟨Nat.lt_of_lt_of_le (h.apart a ha).1 k.size,(h.apart a ha).2⟩⟩
theorem moved(h:Dw w R ao cs cap p)(k:Za (·=R) w w')(c:Du w' R ao cs.length cap ((p':Nat):Int) ((sd cs p':Nat):Int)):Dw w' R ao cs cap p' :=
 ⟨c,h.code.keeps k (fun a ha=>⟨(h.apart a ha).1,(h.apart a ha).2⟩),fun a ha=>⟨Nat.lt_of_lt_of_le (h.apart a ha).1 k.size,(h.apart a ha).2⟩⟩
end Dw
theorem ZuQ(cs:List Nat)(p:Nat):sd cs p<2 ^ 64:=by
 cases p with
 | zero=>simp[sd]
 | succ p=>simp only[sd,vw];exact Nat.mod_lt _ (by omega)
theorem Zoe(s b:Nat):IntKind.u64.wrap (IntKind.u64.wrap (IntKind.u64.wrap ((s:Int)*6364136223846793005)+(b:Int))+1442695040888963407)=((vw s b:Nat):Int):=by
 unfold IntKind.wrap vw;simp[IntKind.bits,IntKind.signed]
theorem Zk3(s:Nat):IntKind.u64.wrap (IntKind.u64.wrap ((s:Int)*6364136223846793005)+1442695040888963407)=((vw s 0:Nat):Int):=by
 rw[Xu];unfold IntKind.wrap;simp[IntKind.bits,IntKind.signed]
def LX (cs:List Nat) (R:Nat) (ao:Option Addr) (cap p k:Nat) (w:World) (e:Ending) (w':World):Prop :=
 e=.returned (.int .i64 (k:Int))/\Dw w' R ao cs cap (p+1)/\Za (·=R) w w'
theorem Zp4(hD:Dw w R ao cs cap p)(hp:p<cs.length)(hp2:p<=1048576):
  au 46 #[ae R] w (LX cs R ao cap p (dr cs p) w):=by
 obtain⟨hlt,hrd⟩:=hD.code;obtain⟨a,rfl,hcell⟩:=hrd (by omega);have hx:cs[p]?=some cs[p]:=List.getElem?_eq_getElem hp;have hxl:=hlt cs[p] (List.getElem_mem hp);have hg:cs.getD p 0=cs[p]:=by rw[List.getD_eq_getElem?_getD,hx];rfl
 have HD:Hid (dr cs p=cs[p]):=(by show _ = _;unfold dr;rw[if_pos hp,hg]);have HS:Hid (sd cs (p+1)=vw (sd cs p) cs[p]):=(by show _ = _;rw[sd,hg]);generalize cs[p]=x at hx hxl HD HS;have cx:=hcell p x hx;have hpz:(p:Int)<(cs.length:Int):=by omega
 have h:=hD.cur;have c0:=h.c0;have c1:=h.c1;have c2:=h.c2;have f1:=h.fz 1;have f2:=h.fz 2;have hw:IntKind.i64.wrap (x:Int)=(x:Int):=IntWalk.i64_in _ ⟨by omega,by omega⟩;have hst:=Zoe (sd cs p) x;generalize vw (sd cs p) x=s2 at hst HS;generalize sd cs p=s0 at h c2 hst;clear hrd hcell hlt hx hg;go_enter Tryz.func46,Tryz.ntmps46;go_wp2_with fail;go_quiet (fail);go_wp2_with fail;have k1:Za ai w (w.drewN nq):=(Za.refl _ w).drewN _;have h1:=h.keeps k1 id;have W9:(w.drewN nq).cell? (a.add p)=some (.int .u8 (x:Int)):=cx;clear h cx c0 c1 c2 f1 f2;generalize w.drewN nq=w1 at k1 h1 W9 ⊢;have c0:=h1.c0;have c1:=h1.c1;go_quiet (fail);have k2:Za ai w1 (w1.drewN nq):=(Za.refl _ w1).drewN _;have h2:=h1.keeps k2 id;replace k1:=k1.trans k2;clear c0 c1 h1 W9 k2;generalize w1.drewN nq=w2 at k1 h2 ⊢;have c1:=h2.c1;have f1:=h2.fz 1;have h3:=h2.set1 ((p:Int)+1);have d2:=h3.c2;have g2:=h3.fz 2;have h4:=h3.set2 (s2:Int);go_wp2_with fail;go_ret;have kk:Za (·=R) w _:=((k1.mono (E':=fun k=>k=R) (fun _ _ h=>h.elim)).trans (Qr w2 R 1 (.int .i64 ((p:Int)+1)))).trans (Qr _ R 2 (.int .u64 (s2:Int)));exact⟨by rw[HD.out];rfl,hD.moved kk (by rw[HS.out];exact h4),kk⟩
theorem Zne(N:Nat)(hN:N<2 ^ 64):bits .and .u64 ((N:Int) / 1099511627776) 255=((N / 2 ^ 40 % 256:Nat):Int):=by
 have e:((N:Int) / 1099511627776)=((N / 1099511627776:Nat):Int):=by simp
 have h1:N / 1099511627776<2 ^ 64:=Nat.lt_of_le_of_lt (Nat.div_le_self _ _) hN
 have:=(Mf (N / 1099511627776) 255 h1 (by decide)).1
 have e2:((255:Nat):Int)=255:=rfl;rw[e2] at this;rw[e,this];have e3:N / 1099511627776 &&& 255=N / 1099511627776 % 256:=Nat.and_two_pow_sub_one_eq_mod _ 8;rw[e3]
theorem Znc(hD:Dw w R ao cs cap p)(hp:¬p<cs.length)(hp2:p<=1152921504606846976):
  au 46 #[ae R] w (LX cs R ao cap p (dr cs p) w):=by
 have HD:Hid (dr cs p=sd cs (p+1) / 2 ^ 40 % 256):=(by show _ = _;unfold dr;rw[if_neg hp]);have hg:cs.getD p 0=0:=by rw[List.getD_eq_getElem?_getD,List.getElem?_eq_none (by omega)];rfl
 have hst:=Zk3 (sd cs p);have hS:sd cs (p+1)=vw (sd cs p) 0:=by rw[sd,hg]
 rw[<- hS] at hst;have De:=ZuQ cs (p+1);have hx:=Zne _ De;have hxl:sd cs (p+1) / 2 ^ 40 % 256<256:=Nat.mod_lt _ (by omega);generalize sd cs (p+1) / 2 ^ 40 % 256=x at HD hx hxl;have hpz:(cs.length:Int)<=(p:Int):=by omega
 have h:=hD.cur;have c0:=h.c0;have c1:=h.c1;have HN:Hid (∀w',Za (·=R) w w'->Du w' R ao cs.length cap ((p+1:Nat):Int) ((sd cs (p+1):Nat):Int)->Dw w' R ao cs cap (p+1)):=(by show∀_,_;intro w' k c;exact hD.moved k c);generalize sd cs (p+1)=N at hst hx De HN;generalize sd cs p=s0 at h hst;clear hp hg hS;go_enter Tryz.func46,Tryz.ntmps46;go_wp2_with fail;go_quiet (fail);have k1:Za ai w (w.drewN nq):=(Za.refl _ w).drewN _;have h1:=h.keeps k1 id;clear h c0 c1;generalize w.drewN nq=w1 at k1 h1 ⊢;have hwx:IntKind.i64.wrap (x:Int)=(x:Int):=IntWalk.i64_in _ ⟨by omega,by omega⟩;have c2:=h1.c2;have f2:=h1.fz 2;have h2:=h1.set2 (N:Int);have d1:=h2.c1;have g1:=h2.fz 1;have d2:=h2.c2;have h3:=h2.set1 ((p:Int)+1);have e2:=h3.c2;go_wp2_with fail;go_ret;have kk:Za (·=R) w _:=((k1.mono (E':=fun k=>k=R) (fun _ _ h=>h.elim)).trans (Qr w1 R 2 (.int .u64 (N:Int)))).trans (Qr _ R 1 (.int .i64 ((p:Int)+1)));exact⟨by rw[HD.out];rfl,HN.out _ kk h3,kk⟩
theorem Zu9(hD:Dw w R ao cs cap p)(hl:cs.length<=1048576)(hp2:p<=1152921504606846976):
  au 46 #[ae R] w (LX cs R ao cap p (dr cs p) w):=by
 by_cases hp:p<cs.length
 ·exact Zp4 hD hp (by omega)
 ·exact Znc hD hp hp2
theorem qy{z:Int}(hD:Dw w R ao cs cap p)(hl:cs.length<=1048576)(hp2:p<=1152921504606846976)(h1:1<z)(h2:z<=200):
  au 24 #[ae R,.int .i64 z] w fun e w' =>∃k:Nat,k=dr cs p % z.toNat/\(k:Int)<z/\e=.returned (.int .i64 (k:Int))/\Dw w' R ao cs cap (p+1)/\Za (·=R) w w':=by
 have hn:=Zu9 hD hl hp2;unfold LX at hn;have hx:dr cs p<256:=Zu8 hD.code.1 p;have hz1:¬z<=1:=by omega
 have hz2:¬200<z:=by omega
 have hz0:z≠0:=by omega
 have hzb:(z == 0)=false:=by simp[hz0]
 have hm:((dr cs p:Nat):Int).tmod z=((dr cs p % z.toNat:Nat):Int):=by
  rw[Int.tmod_eq_emod_of_nonneg (by omega)];rw[Int.natCast_emod,Int.toNat_of_nonneg (by omega)]
 have V6:((dr cs p % z.toNat:Nat):Int)<z:=by
  rw[Int.natCast_emod,Int.toNat_of_nonneg (by omega)];exact Int.emod_lt_of_pos _ (by omega)
 have HK:Hid (∃k:Nat,k=dr cs p % z.toNat):=⟨_,rfl⟩;generalize hk:dr cs p % z.toNat=k at hm V6;have HK:Hid (k=dr cs p % z.toNat):=hk.symm;clear hk;generalize hd:dr cs p=x at hn hx hm;have HD:Hid (dr cs p=x):=hd;clear hd;go_enter Tryz.func24,Tryz.ntmps24;go_wp2_with(first|(go_at_call 46;refine hn.mono ?_;rintro e w2 ⟨rfl,hC,hk⟩))
 go_ret;exact⟨k,rfl,V6,rfl,hC,hk⟩
structure Eo (cs:List Nat) (K M:Nat):Prop where
 len:cs.length<=1048576
 two:K=M+M
 win:∀p,∃q,p<=q/\q+100<=p+M/\win cs q
 big:16000*M<=9223372036854775807
 low:1000<=M
theorem ZuW(cs:List Nat)(h:cs.length<=1048576):∃K M,Eo cs K M :=
 ⟨1125899906842624,562949953421312,h,by decide,fun p=>Zon cs h p,by decide,by decide⟩
def Iv (K M p g j p1 g1:Nat):Prop:=g1<=g/\p<p1/\((g1=g/\p1+j<=p+16)\/(g1<g/\p1+j+g1*K+M<=p+16+g*K))
theorem Zpm(K M p g:Nat):Iv K M p g 15 (p+1) g:=by unfold Iv;omega
theorem zA(h:Iv K M p g (j+1) p1 g1):Iv K M p g j (p1+1) g1:=by unfold Iv at *;omega
theorem yh{j':Nat}(h:Iv K M p g j p1 g1)(hj:j'<=j):Iv K M p g j' p1 g1:=by unfold Iv at *;omega
theorem Zpn{pb gb:Nat}(hK:K=M+M)(h:Iv K M p g j p1 (g1+1))(hg:gb<=g1)(hp:p1<=pb)(hb:pb+gb*K+80<=g1*K+p1+M):Iv K M p g j pb gb:=by
 have e:(g1+1)*K=g1*K+K:=Nat.succ_mul g1 K;unfold Iv at *;obtain⟨h1,h2,h3⟩:=h;refine⟨by omega,by omega,Or.inr ⟨by omega,?_⟩⟩
 rcases h3 with⟨h3,h4⟩ | ⟨h3,h4⟩
 ·subst h3;omega
 ·omega
theorem D8(h:Iv K M p g j p1 g1):p1+j+g1*K<=p+16+g*K:=by
 obtain⟨h1,h2,h3⟩:=h
 rcases h3 with⟨h3,h4⟩ | ⟨h3,h4⟩
 ·subst h3;omega
 ·omega
end Go.Proofs.YtfkflljplohhcaaGreatDoor
namespace Go.Proofs.YtfkflljplohhcaaGreatDoor
def bl (s:ByteArray):List Nat:=s.data.toList.map UInt8.toNat
theorem Qp(a b:ByteArray):bl (a++b)=bl a++bl b:=by
 unfold bl;rw[ByteArray.data_append];simp
theorem BK(s:ByteArray):(bl s).length=s.size:=by
 unfold bl;rw[List.length_map,Array.length_toList];rfl
def p9 (s:ByteArray) (p:Nat) (l:List Nat):Prop :=∀i b,l[i]?=some b->bt s (p+i)=b
variable {s:ByteArray}{p base R cap K M g j p1 g1 c d g':Nat}{a b cs l:List Nat}{w w':World}{v:Value}{ao:Option Addr}{pl plain:Bool}{deep:Int}
theorem p9.left(h:p9 s p (a++b)):p9 s p a:=fun i c hc=>by
 obtain⟨hi,-⟩:=List.getElem?_eq_some_iff.1 hc;exact h i c (by rw[List.getElem?_append_left hi];exact hc)
theorem p9.right(h:p9 s p (a++b)):p9 s (p+a.length) b:=fun i c hc=>by
 rw[Nat.add_assoc];exact h _ c (by rw[List.getElem?_append_right (by omega)];simpa using hc)
theorem p9.head(h:p9 s p (c::l)):bt s p=c:=h 0 c rfl
theorem p9.tail(h:p9 s p (c::l)):p9 s (p+1) l:=fun i b hb=>by
 rw[Nat.add_assoc,Nat.add_comm 1 i];exact h (i+1) b (by simpa using hb)
theorem Zqw(s:ByteArray):p9 s 0 (bl s):=fun i b hb=>by
 unfold bl at hb;rw[List.getElem?_map] at hb;rw[Nat.zero_add]
 cases h:s.data.toList[i]? with
 | none=>rw[h] at hb;simp at hb
 | some c =>
   rw[h] at hb;simp at hb;obtain⟨hi,hc⟩:=List.getElem?_eq_some_iff.1 h;have hi':i<s.size:=by rw[Array.length_toList] at hi;exact hi
   rw[ZX hi',<- hb,<- hc];rfl
def pI (pl:Bool):List (List Nat) := [[46],[91,97,98,93],[91,94,97,93],[91,97,45,99,93],[91,93,97,93],[91,94,93,93],[91,97,45,93],[91,92,119,45,93],[91,92,120,48,48,45,92,120,55,102,93],[91,94,92,115,92,100,93],[91,98,45,98,93],
 [92,100],[92,119],[92,115],[92,110],[92,92],[92,46],[92,120,54,49],[92,40],[92,45],[97],[98],[99]]++(if pl then [] else [[94],[36]])
def ze:List (List Nat) := [[42],[43],[63],[123,50,125],[123,48,125],[123,49,44,125],[123,48,44,50,125],[123,49,44,51,125],[123,48,44,48,125],[123,50,44,50,125]]
inductive Sh where
 | atom
 | seq
 | pat
inductive Dr (pl:Bool):Sh->Nat->Nat->List Nat->Nat->Prop where
 | fix {d g:Nat} {l:List Nat}:l∈pI pl->Dr pl .atom d g l g
 | iZ {d g g':Nat} {y:List Nat}:Dr pl .pat d g y g'->Dr pl .atom (d+1) (g+1) (40::(y++[41])) g'
 | nil {d g:Nat}:Dr pl .seq d g [] g
 | bare {d g g1 g2:Nat} {t x:List Nat}:Dr pl .seq d g t g1->Dr pl .atom d g1 x g2->Dr pl .seq d g (t++x) g2
 | cnt {d g g1 g2:Nat} {t x q:List Nat}:Dr pl .seq d g t g1->Dr pl .atom d g1 x g2->q∈ze->Dr pl .seq d g (t++(x++q)) g2
 | ER {d g g1 g2:Nat} {t x q:List Nat}:Dr pl .seq d g t g1->Dr pl .atom d g1 x g2->q∈ze->Dr pl .seq d g (t++(x++(q++[63]))) g2
 | one {d g g':Nat} {t:List Nat}:Dr pl .seq d g t g'->Dr pl .pat d g t g'
 | bar {d g g1 g2:Nat} {t y:List Nat}:Dr pl .seq d g t g1->Dr pl .pat d g1 y g2->Dr pl .pat d g (t++(124::y)) g2
def xZ (b:Nat):Prop:=b=256\/b=124\/b=41
def zk (b:Nat):Prop:=b≠42/\b≠43/\b≠63/\b≠123
theorem Lp{k:Sh}(h:Dr pl k d g l g'):g'<=g:=by
 induction h with
 | fix _=>exact Nat.le_refl _
 | iZ _ ih=>omega
 | nil=>exact Nat.le_refl _
 | bare _ _ a b=>omega
 | cnt _ _ _ a b=>omega
 | ER _ _ _ a b=>omega
 | one _ ih=>exact ih
 | bar _ _ a b=>omega
theorem Tg{k:Sh}(h:Dr pl k d g l g'):(∃(e:k=.atom),∃c r,l=c::r/\c<256/\c≠124/\c≠41/\zk c)\/k≠.atom:=by
 cases h with
 | fix h =>
   refine Or.inl ⟨rfl,?_⟩;have hd:∀l∈pI false,∃c r,l=c::r/\c<256/\c≠124/\c≠41/\zk c:=by
    intro l hl;simp only[pI,List.mem_append,List.mem_cons,List.not_mem_nil,or_false,Bool.false_eq_true,if_false] at hl
    rcases hl with(rfl | rfl | rfl | rfl | rfl | rfl | rfl | rfl | rfl | rfl | rfl | rfl | rfl | rfl | rfl | rfl | rfl | rfl | rfl | rfl | rfl | rfl | rfl) |(rfl | rfl) <;> exact⟨_,_,rfl,by decide,by decide,by decide,by unfold zk;decide⟩
   apply hd;unfold pI at h ⊢
   cases pl
   ·exact h
   ·simp only[if_true,List.append_nil] at h;exact List.mem_append_left _ h
 | iZ _=>exact Or.inl ⟨rfl,_,_,rfl,by decide,by decide,by decide,by unfold zk;decide⟩
 | nil=>exact Or.inr (by simp)
 | bare _ _=>exact Or.inr (by simp)
 | cnt _ _ _=>exact Or.inr (by simp)
 | ER _ _ _=>exact Or.inr (by simp)
 | one _=>exact Or.inr (by simp)
 | bar _ _=>exact Or.inr (by simp)
theorem Zqs{alt:Nat->Nat->aS}{room:Bool}(hl:l∈pI false)(h:p9 s p l):∃f,Zd alt room s p g=.ok (f,p+l.length,g):=by
 simp only[pI,List.mem_append,List.mem_cons,List.not_mem_nil,or_false,Bool.false_eq_true,if_false] at hl
 rcases hl with(rfl | rfl | rfl | rfl | rfl | rfl | rfl | rfl | rfl | rfl | rfl | rfl | rfl | rfl | rfl | rfl | rfl | rfl | rfl | rfl | rfl | rfl | rfl) |(rfl | rfl)
 ·have e0:bt s (p)=46:=h 0 _ rfl;simp[Zd,e0]
 ·have e0:bt s (p)=91:=h 0 _ rfl;have e1:bt s (p+1)=97:=h 1 _ rfl;have e2:bt s (p+2)=98:=h 2 _ rfl;have e3:bt s (p+3)=93:=h 3 _ rfl;have hz:p+3<s.size:=Zn e3 (by decide);obtain⟨m,hm⟩:∃m,s.size=m+2:=⟨s.size-2,by omega⟩;simp[Zd,Zq,Zk,ZC,Zl,Nat.add_assoc,e0,e1,e2,e3,hm]
 ·have e0:bt s (p)=91:=h 0 _ rfl;have e1:bt s (p+1)=94:=h 1 _ rfl;have e2:bt s (p+2)=97:=h 2 _ rfl;have e3:bt s (p+3)=93:=h 3 _ rfl;have hz:p+3<s.size:=Zn e3 (by decide);obtain⟨m,hm⟩:∃m,s.size=m+2:=⟨s.size-2,by omega⟩;simp[Zd,Zq,Zk,ZC,Zl,Nat.add_assoc,e0,e1,e2,e3,hm]
 ·have e0:bt s (p)=91:=h 0 _ rfl;have e1:bt s (p+1)=97:=h 1 _ rfl;have e2:bt s (p+2)=45:=h 2 _ rfl;have e3:bt s (p+3)=99:=h 3 _ rfl;have e4:bt s (p+4)=93:=h 4 _ rfl;have hz:p+4<s.size:=Zn e4 (by decide);obtain⟨m,hm⟩:∃m,s.size=m+3:=⟨s.size-3,by omega⟩;simp[Zd,Zq,Zk,ZC,Zl,Nat.add_assoc,e0,e1,e2,e3,e4,hm]
 ·have e0:bt s (p)=91:=h 0 _ rfl;have e1:bt s (p+1)=93:=h 1 _ rfl;have e2:bt s (p+2)=97:=h 2 _ rfl;have e3:bt s (p+3)=93:=h 3 _ rfl;have hz:p+3<s.size:=Zn e3 (by decide);obtain⟨m,hm⟩:∃m,s.size=m+2:=⟨s.size-2,by omega⟩;simp[Zd,Zq,Zk,ZC,Zl,Nat.add_assoc,e0,e1,e2,e3,hm]
 ·have e0:bt s (p)=91:=h 0 _ rfl;have e1:bt s (p+1)=94:=h 1 _ rfl;have e2:bt s (p+2)=93:=h 2 _ rfl;have e3:bt s (p+3)=93:=h 3 _ rfl;have hz:p+3<s.size:=Zn e3 (by decide);obtain⟨m,hm⟩:∃m,s.size=m+2:=⟨s.size-2,by omega⟩;simp[Zd,Zq,Zk,ZC,Zl,Nat.add_assoc,e0,e1,e2,e3,hm]
 ·have e0:bt s (p)=91:=h 0 _ rfl;have e1:bt s (p+1)=97:=h 1 _ rfl;have e2:bt s (p+2)=45:=h 2 _ rfl;have e3:bt s (p+3)=93:=h 3 _ rfl;have hz:p+3<s.size:=Zn e3 (by decide);obtain⟨m,hm⟩:∃m,s.size=m+2:=⟨s.size-2,by omega⟩;simp[Zd,Zq,Zk,ZC,Zl,Nat.add_assoc,e0,e1,e2,e3,hm]
 ·have e0:bt s (p)=91:=h 0 _ rfl;have e1:bt s (p+1)=92:=h 1 _ rfl;have e2:bt s (p+2)=119:=h 2 _ rfl;have e3:bt s (p+3)=45:=h 3 _ rfl;have e4:bt s (p+4)=93:=h 4 _ rfl;have hz:p+4<s.size:=Zn e4 (by decide);obtain⟨m,hm⟩:∃m,s.size=m+3:=⟨s.size-3,by omega⟩;simp[Zd,Zq,Zk,ZC,Zl,Zt,Nat.add_assoc,e0,e1,e2,e3,e4,hm]
 ·have e0:bt s (p)=91:=h 0 _ rfl;have e1:bt s (p+1)=92:=h 1 _ rfl;have e2:bt s (p+2)=120:=h 2 _ rfl;have e3:bt s (p+3)=48:=h 3 _ rfl;have e4:bt s (p+4)=48:=h 4 _ rfl;have e5:bt s (p+5)=45:=h 5 _ rfl;have e6:bt s (p+6)=92:=h 6 _ rfl;have e7:bt s (p+7)=120:=h 7 _ rfl;have e8:bt s (p+8)=55:=h 8 _ rfl;have e9:bt s (p+9)=102:=h 9 _ rfl;have e10:bt s (p+10)=93:=h 10 _ rfl;have hz:p+10<s.size:=Zn e10 (by decide);obtain⟨m,hm⟩:∃m,s.size=m+7:=⟨s.size-7,by omega⟩;simp[Zd,Zq,Zk,ZC,Zl,Zt,Jm,Nat.add_assoc,e0,e1,e2,e3,e4,e5,e6,e7,e8,e9,e10,hm]
 ·have e0:bt s (p)=91:=h 0 _ rfl;have e1:bt s (p+1)=94:=h 1 _ rfl;have e2:bt s (p+2)=92:=h 2 _ rfl;have e3:bt s (p+3)=115:=h 3 _ rfl;have e4:bt s (p+4)=92:=h 4 _ rfl;have e5:bt s (p+5)=100:=h 5 _ rfl;have e6:bt s (p+6)=93:=h 6 _ rfl;have hz:p+6<s.size:=Zn e6 (by decide);obtain⟨m,hm⟩:∃m,s.size=m+7:=⟨s.size-7,by omega⟩;simp[Zd,Zq,Zk,ZC,Zl,Zt,Nat.add_assoc,e0,e1,e2,e3,e4,e5,e6,hm]
 ·have e0:bt s (p)=91:=h 0 _ rfl;have e1:bt s (p+1)=98:=h 1 _ rfl;have e2:bt s (p+2)=45:=h 2 _ rfl;have e3:bt s (p+3)=98:=h 3 _ rfl;have e4:bt s (p+4)=93:=h 4 _ rfl;have hz:p+4<s.size:=Zn e4 (by decide);obtain⟨m,hm⟩:∃m,s.size=m+3:=⟨s.size-3,by omega⟩;simp[Zd,Zq,Zk,ZC,Zl,Nat.add_assoc,e0,e1,e2,e3,e4,hm]
 ·have e0:bt s (p)=92:=h 0 _ rfl;have e1:bt s (p+1)=100:=h 1 _ rfl;simp[Zd,Zt,Nat.add_assoc,e0,e1]
 ·have e0:bt s (p)=92:=h 0 _ rfl;have e1:bt s (p+1)=119:=h 1 _ rfl;simp[Zd,Zt,Nat.add_assoc,e0,e1]
 ·have e0:bt s (p)=92:=h 0 _ rfl;have e1:bt s (p+1)=115:=h 1 _ rfl;simp[Zd,Zt,Nat.add_assoc,e0,e1]
 ·have e0:bt s (p)=92:=h 0 _ rfl;have e1:bt s (p+1)=110:=h 1 _ rfl;simp[Zd,Zt,Nat.add_assoc,e0,e1]
 ·have e0:bt s (p)=92:=h 0 _ rfl;have e1:bt s (p+1)=92:=h 1 _ rfl;simp[Zd,Zt,JH,ZI,printed,Nat.add_assoc,e0,e1]
 ·have e0:bt s (p)=92:=h 0 _ rfl;have e1:bt s (p+1)=46:=h 1 _ rfl;simp[Zd,Zt,JH,ZI,printed,Nat.add_assoc,e0,e1]
 ·have e0:bt s (p)=92:=h 0 _ rfl;have e1:bt s (p+1)=120:=h 1 _ rfl;have e2:bt s (p+2)=54:=h 2 _ rfl;have e3:bt s (p+3)=49:=h 3 _ rfl;simp[Zd,Zt,Jm,Nat.add_assoc,e0,e1,e2,e3]
 ·have e0:bt s (p)=92:=h 0 _ rfl;have e1:bt s (p+1)=40:=h 1 _ rfl;simp[Zd,Zt,JH,ZI,printed,Nat.add_assoc,e0,e1]
 ·have e0:bt s (p)=92:=h 0 _ rfl;have e1:bt s (p+1)=45:=h 1 _ rfl;simp[Zd,Zt,JH,ZI,printed,Nat.add_assoc,e0,e1]
 ·have e0:bt s (p)=97:=h 0 _ rfl;simp[Zd,e0]
 ·have e0:bt s (p)=98:=h 0 _ rfl;simp[Zd,e0]
 ·have e0:bt s (p)=99:=h 0 _ rfl;simp[Zd,e0]
 ·have e0:bt s (p)=94:=h 0 _ rfl;simp[Zd,e0]
 ·have e0:bt s (p)=36:=h 0 _ rfl;simp[Zd,e0]
theorem Yb{q:List Nat}(hq:q∈ze)(h:p9 s p q):∃lo hi,ZG s p=.ok (some (lo,hi),p+q.length):=by
 simp only[ze,List.mem_cons,List.not_mem_nil,or_false] at hq
 rcases hq with rfl | rfl | rfl | rfl | rfl | rfl | rfl | rfl | rfl | rfl
 ·have e0:bt s (p)=42:=h 0 _ rfl;simp[ZG,e0]
 ·have e0:bt s (p)=43:=h 0 _ rfl;simp[ZG,e0]
 ·have e0:bt s (p)=63:=h 0 _ rfl;simp[ZG,e0]
 ·have e0:bt s (p)=123:=h 0 _ rfl;have e1:bt s (p+1)=50:=h 1 _ rfl;have e2:bt s (p+2)=125:=h 2 _ rfl;have hz:p+2<s.size:=Zn e2 (by decide);obtain⟨m,hm⟩:∃m,s.size=m+2:=⟨s.size-2,by omega⟩;simp[ZG,Zg,Zu,ZV,ZI,Nat.add_assoc,e0,e1,e2,hm]
 ·have e0:bt s (p)=123:=h 0 _ rfl;have e1:bt s (p+1)=48:=h 1 _ rfl;have e2:bt s (p+2)=125:=h 2 _ rfl;have hz:p+2<s.size:=Zn e2 (by decide);obtain⟨m,hm⟩:∃m,s.size=m+2:=⟨s.size-2,by omega⟩;simp[ZG,Zg,Zu,ZV,ZI,Nat.add_assoc,e0,e1,e2,hm]
 ·have e0:bt s (p)=123:=h 0 _ rfl;have e1:bt s (p+1)=49:=h 1 _ rfl;have e2:bt s (p+2)=44:=h 2 _ rfl;have e3:bt s (p+3)=125:=h 3 _ rfl;have hz:p+3<s.size:=Zn e3 (by decide);obtain⟨m,hm⟩:∃m,s.size=m+2:=⟨s.size-2,by omega⟩;simp[ZG,Zg,Zu,ZV,ZI,Nat.add_assoc,e0,e1,e2,e3,hm]
 ·have e0:bt s (p)=123:=h 0 _ rfl;have e1:bt s (p+1)=48:=h 1 _ rfl;have e2:bt s (p+2)=44:=h 2 _ rfl;have e3:bt s (p+3)=50:=h 3 _ rfl;have e4:bt s (p+4)=125:=h 4 _ rfl;have hz:p+4<s.size:=Zn e4 (by decide);obtain⟨m,hm⟩:∃m,s.size=m+2:=⟨s.size-2,by omega⟩;simp[ZG,Zg,Zu,ZV,ZI,Nat.add_assoc,e0,e1,e2,e3,e4,hm]
 ·have e0:bt s (p)=123:=h 0 _ rfl;have e1:bt s (p+1)=49:=h 1 _ rfl;have e2:bt s (p+2)=44:=h 2 _ rfl;have e3:bt s (p+3)=51:=h 3 _ rfl;have e4:bt s (p+4)=125:=h 4 _ rfl;have hz:p+4<s.size:=Zn e4 (by decide);obtain⟨m,hm⟩:∃m,s.size=m+2:=⟨s.size-2,by omega⟩;simp[ZG,Zg,Zu,ZV,ZI,Nat.add_assoc,e0,e1,e2,e3,e4,hm]
 ·have e0:bt s (p)=123:=h 0 _ rfl;have e1:bt s (p+1)=48:=h 1 _ rfl;have e2:bt s (p+2)=44:=h 2 _ rfl;have e3:bt s (p+3)=48:=h 3 _ rfl;have e4:bt s (p+4)=125:=h 4 _ rfl;have hz:p+4<s.size:=Zn e4 (by decide);obtain⟨m,hm⟩:∃m,s.size=m+2:=⟨s.size-2,by omega⟩;simp[ZG,Zg,Zu,ZV,ZI,Nat.add_assoc,e0,e1,e2,e3,e4,hm]
 ·have e0:bt s (p)=123:=h 0 _ rfl;have e1:bt s (p+1)=50:=h 1 _ rfl;have e2:bt s (p+2)=44:=h 2 _ rfl;have e3:bt s (p+3)=50:=h 3 _ rfl;have e4:bt s (p+4)=125:=h 4 _ rfl;have hz:p+4<s.size:=Zn e4 (by decide);obtain⟨m,hm⟩:∃m,s.size=m+2:=⟨s.size-2,by omega⟩;simp[ZG,Zg,Zu,ZV,ZI,Nat.add_assoc,e0,e1,e2,e3,e4,hm]
theorem Zqi(h:zk (bt s p)):ZG s p=.ok (none,p):=by
 unfold ZG;rw[if_neg h.1,if_neg h.2.1,if_neg h.2.2.1,if_neg h.2.2.2]
def BF (s:ByteArray):Nat->Nat->Nat->aS
 | 0=>fun _ _ => .error 0
 | d+1=>Qt s d
def BH:Nat->Bool
 | 0=>false
 | _+1=>true
theorem Y7(s:ByteArray)(d p g:Nat):Qt s d p g=QY (BF s d) (BH d) s p g:=by cases d <;> rfl
theorem ZfZ{b:Nat}(h:xZ b):zk b:=by unfold xZ at h;unfold zk;omega
variable {fs:List Pf}
theorem ZoH{alt:Nat->Nat->aS}{room:Bool}{fu:Nat}(h:xZ (bt s p)):Zz alt room s (fu+1) p g fs=.ok (fs,p,g):=by
 unfold xZ at h;simp only[Zz];rw[if_neg (by omega)]
theorem TA{alt:Nat->Nat->aS}{room:Bool}{fu q:Nat}{f:Pf}(h1:bt s p<256)(h2:bt s p≠124)(h3:bt s p≠41)(h:Zm alt room s p g=.ok (f,q,g')):Zz alt room s (fu+1) p g fs=Zz alt room s fu q g' (fs++[f]):=by
 simp only[Zz];rw[if_pos (by omega),h]
def ZvC (pl:Bool) (k:Sh) (d g:Nat) (l:List Nat) (g':Nat):Prop :=∀(s:ByteArray) (p D:Nat),p9 s p l->d<=D->g<=9->p+l.length<=s.size->
 match k with
 | .atom =>∃f,Zd (BF s D) (BH D) s p (9-g)=.ok (f,p+l.length,9-g')
 | .seq=>zk (bt s (p+l.length))->∃(fs':List Pf) (n:Nat),n<=l.length/\∀fu fs,Zz (BF s D) (BH D) s (fu+n) p (9-g) fs=Zz (BF s D) (BH D) s fu (p+l.length) (9-g') (fs++fs')
 | .pat=>(bt s (p+l.length)=256\/bt s (p+l.length)=41)->(∃f,QY (BF s D) (BH D) s p (9-g)=.ok (f,p+l.length,9-g'))/\
   ∀fu fs r,p=r+1->bt s r=124->l.length+2<=fu->∃fs',ZY (BF s D) (BH D) s fu r (9-g) fs=.ok (fs',p+l.length,9-g')
theorem Yy{alt:Nat->Nat->aS}{room:Bool}{n:Nat}{fs':List Pf}(hp:p+l.length<=s.size)(hn:n<=l.length)(hs:xZ (bt s (p+l.length)))(h:∀fu fs,Zz alt room s (fu+n) p g fs=Zz alt room s fu (p+l.length) g' (fs++fs')):ZJ alt room s p g=.ok (QV fs',p+l.length,g'):=by
 unfold ZJ;obtain⟨m,hm⟩:∃m,s.size+1=(m+1)+n:=⟨s.size-n,by omega⟩;rw[hm,h,ZoH hs];simp
theorem ZrK{k:Sh}(h:Dr pl k d g l g'):ZvC pl k d g l g':=by
 induction h with
 | @fix d g l hl =>
   intro s p D hA hD hg hp;simp only;refine Zqs ?_ hA;unfold pI at hl ⊢
   cases pl
   ·exact hl
   ·simp only[if_true,List.append_nil] at hl;exact List.mem_append_left _ hl
 | @iZ d g g' y hy ih =>
   intro s p D hA hD hg hp;simp only;obtain⟨D',rfl⟩:∃D',D=D'+1:=⟨D-1,by omega⟩;have hl:(40::(y++[41])).length=y.length+2:=by simp
   rw[hl] at hp ⊢;have h1:=hA.head;have h2:=hA.tail;have h3:=h2.right.head;obtain⟨⟨f,hf⟩,-⟩:=ih s (p+1) D' h2.left (by omega) (by omega) (by omega) (Or.inr h3);refine⟨JN (((9-(g+1):Nat):Int)+1) f,?_⟩;unfold Zd;rw[if_pos h1,if_neg (by simp[BH];omega)];have e:BF s (D'+1) (p+1) (9-(g+1)+1)=.ok (f,p+1+y.length,9-g'):=by
    show Qt s D' (p+1) (9-(g+1)+1) = _;rw[Y7,show 9-(g+1)+1=9-g by omega];exact hf
   rw[e];simp only;rw[if_pos h3,show p+1+y.length+1=p+(y.length+2) by omega]
 | nil =>
   intro s p D hA hD hg hp;exact fun _=>⟨[],0,by simp,fun fu fs=>by simp⟩
 | @bare d g g1 g2 t x ht hx wU E8 =>
   intro s p D hA hD hg hp hfr;rw[List.length_append] at hp hfr ⊢;have hg1:=Lp ht
   rcases Tg hx with⟨_,c,r,yM,c1,c2,c3,c4⟩ | hno
   ·have hc:bt s (p+t.length)=c:=by have:=hA.right;rw[yM] at this;exact this.head
    obtain⟨fs',n,hn,hs⟩:=wU s p D hA.left hD hg (by omega) (by rw[hc];exact c4);obtain⟨f,hf⟩:=E8 s (p+t.length) D hA.right hD (by omega) (by omega);have hxl:0<x.length:=by rw[yM];simp
    refine⟨fs'++[f],n+1,by omega,fun fu fs=>?_⟩;rw[show fu+(n+1)=(fu+1)+n by omega,hs,TA (f:=f) (q:=p+(t.length+x.length)) (g':=9-g2) (by omega) (by omega) (by omega) ?_,List.append_assoc];unfold Zm;rw[hf];simp only;rw[Zqi (by rw[Nat.add_assoc];exact hfr),Nat.add_assoc]
   ·exact absurd rfl hno
 | @cnt d g g1 g2 t x q ht hx hq wU E8 =>
   intro s p D hA hD hg hp hfr;rw[List.length_append,List.length_append] at hp hfr ⊢;have hg1:=Lp ht
   rcases Tg hx with⟨_,c,r,yM,c1,c2,c3,c4⟩ | hno
   ·have hc:bt s (p+t.length)=c:=by have:=hA.right.left;rw[yM] at this;exact this.head
    obtain⟨fs',n,hn,hs⟩:=wU s p D hA.left hD hg (by omega) (by rw[hc];exact c4);obtain⟨f,hf⟩:=E8 s (p+t.length) D hA.right.left hD (by omega) (by omega);obtain⟨lo,hi,hcn⟩:=Yb hq hA.right.right;have hxl:0<x.length:=by rw[yM];simp
    refine⟨fs'++[Z5 lo hi false f],n+1,by omega,fun fu fs=>?_⟩;rw[show fu+(n+1)=(fu+1)+n by omega,hs,TA (f:=Z5 lo hi false f) (q:=p+(t.length+(x.length+q.length))) (g':=9-g2) (by omega) (by omega) (by omega) ?_,List.append_assoc];unfold Zm;rw[hf];simp only;rw[hcn];simp only;have e:p+t.length+x.length+q.length=p+(t.length+(x.length+q.length)):=by omega
    rw[e,if_neg hfr.2.2.1]
   ·exact absurd rfl hno
 | @ER d g g1 g2 t x q ht hx hq wU E8 =>
   intro s p D hA hD hg hp hfr;rw[List.length_append,List.length_append,List.length_append] at hp hfr ⊢;simp only[List.length_cons,List.length_nil] at hp hfr ⊢;have hg1:=Lp ht
   rcases Tg hx with⟨_,c,r,yM,c1,c2,c3,c4⟩ | hno
   ·have hc:bt s (p+t.length)=c:=by have:=hA.right.left;rw[yM] at this;exact this.head
    obtain⟨fs',n,hn,hs⟩:=wU s p D hA.left hD hg (by omega) (by rw[hc];exact c4);obtain⟨f,hf⟩:=E8 s (p+t.length) D hA.right.left hD (by omega) (by omega);obtain⟨lo,hi,hcn⟩:=Yb hq hA.right.right.left;have h63:=hA.right.right.right.head;have hxl:0<x.length:=by rw[yM];simp
    refine⟨fs'++[Z5 lo hi true f],n+1,by omega,fun fu fs=>?_⟩;rw[show fu+(n+1)=(fu+1)+n by omega,hs,TA (f:=Z5 lo hi true f) (q:=p+(t.length+(x.length+(q.length+(0+1))))) (g':=9-g2) (by omega) (by omega) (by omega) ?_,List.append_assoc];unfold Zm;rw[hf];simp only;rw[hcn];simp only;rw[if_pos h63]
    congr 3
    omega
   ·exact absurd rfl hno
 | @one d g g' t ht wU =>
   intro s p D hA hD hg hp hst;have tC:xZ (bt s (p+t.length)):=by unfold xZ;omega
   obtain⟨fs',n,hn,hs⟩:=wU s p D hA hD hg hp (ZfZ tC);have hr:=Yy hp hn tC hs;refine⟨⟨QV fs',?_⟩,fun fu fs r hpr hb hfu=>?_⟩
   ·unfold QY;rw[hr];simp only;rw[if_neg (by omega)]
   ·obtain⟨m,rfl⟩:∃m,fu=m+2:=⟨fu-2,by omega⟩;subst hpr;refine⟨fs++[QV fs'],?_⟩;simp only[ZY];rw[if_pos hb,hr];simp only;rw[if_neg (by omega)]
 | @bar d g g1 g2 t y ht hy wU ihy =>
   intro s p D hA hD hg hp hst;rw[List.length_append,List.length_cons] at hp hst ⊢;have hg1:=Lp ht;have lL:=hA.right.head;have tC:xZ (bt s (p+t.length)):=by unfold xZ;omega
   obtain⟨fs',n,hn,hs⟩:=wU s p D hA.left hD hg (by omega) (ZfZ tC);have hr:=Yy (by omega) hn tC hs;have e:p+t.length+1+y.length=p+(t.length+(y.length+1)):=by omega
   obtain⟨-,hB⟩:=ihy s (p+t.length+1) D hA.right.tail hD (by omega) (by omega) (by rw[e];exact hst);refine⟨?_,fun fu fs r hpr hb hfu=>?_⟩
   ·obtain⟨RG,h2⟩:=hB (s.size+1) [QV fs'] (p+t.length) rfl lL (by omega);refine⟨JQ RG,?_⟩;unfold QY;rw[hr];simp only;rw[if_pos lL,h2];simp only;rw[e]
   ·obtain⟨m,rfl⟩:∃m,fu=m+1:=⟨fu-1,by omega⟩;subst hpr;obtain⟨RG,h2⟩:=hB m (fs++[QV fs']) (r+1+t.length) rfl lL (by omega);refine⟨RG,?_⟩;simp only[ZY];rw[if_pos hb,hr];simp only;rw[h2,e]
theorem Zsw(h:Dr pl .pat 3 9 (bl s) g')(hs:s.size<=120):∃f,Qt s 6 0 0=.ok (f,s.size,9-g'):=by
 obtain⟨⟨f,hf⟩,-⟩:=ZrK h s 0 6 (Zqw s) (by decide) (Nat.le_refl _) (by rw[BK];omega) (Or.inl (by rw[BK];exact Z7 (by omega)));refine⟨f,?_⟩;rw[Y7,hf,BK,Nat.zero_add]
open Go.RowKit
def Y2 (cs:List Nat) (K:Nat) (R:Nat) (ao:Option Addr) (cap p g B:Nat) (pl:Bool) (dp:Int) (w:World) (e:Ending) (w':World):Prop :=
 ∃(t:ByteArray) (g' p':Nat),e=.returned (.tuple #[.string t,.int .i64 (g':Int)])/\g'<=g/\p<=p'/\p'+g'*K<=B/\t.size+20*p<=20*p'/\Dw w' R ao cs cap p'/\Za (·=R) w w'/\Dr pl .pat dp.toNat g (bl t) g'
def BG (cs:List Nat) (K M g n:Nat):Prop :=
 ∀ (w:World) (R cap p q:Nat) (ao:Option Addr) (deep:Int) (plain:Bool),Dw w R ao cs cap p->p<=q->q<=p+n->win cs q->g*K+q+17<=256*M->g<=9->0<=deep->deep<=3->
   au 32 #[ae R,.int .i64 deep,.int .i64 (g:Int),.bool plain] w (Y2 cs K R ao cap p g (g*K+q+17) plain deep w)
theorem Zd7(hN:Eo cs K M)(ih:∀n,BG cs K M g1 n)(hD:Dw w R ao cs cap p1)(hB:g1*K+p1+M<=256*M)(hg:g1<=9)(h0:0<=deep)(h3:deep<=3):
  au 32 #[ae R,.int .i64 deep,.int .i64 (g1:Int),.bool plain] w fun e w' =>∃(t:ByteArray) (gb pb:Nat),e=.returned (.tuple #[.string t,.int .i64 (gb:Int)])/\gb<=g1/\p1<=pb/\pb+gb*K+80<=g1*K+p1+M/\t.size+20*p1<=20*pb/\Dw w' R ao cs cap pb/\Za (·=R) w w'/\Dr plain .pat deep.toNat g1 (bl t) gb:=by
 obtain⟨q,h1,h2,hw⟩:=hN.win p1;refine(ih (q-p1) w R cap p1 q ao deep plain hD h1 (by omega) hw (by omega) hg h0 h3).mono ?_;rintro e w' ⟨t,g',p',he,a,b,c,d,f,k,v⟩;exact⟨t,g',p',he,a,b,by omega,d,f,k,v⟩
theorem Zk7(hN:Eo cs K M){n q:Nat}(ih1:∀g2,g2<g->∀n,BG cs K M g2 n)(ih2:∀n2,n2<n->BG cs K M g n2)(hI:Iv K M p g 0 p1 g1)(hpq:p<=q)(VS:q<=p+n)(hw:win cs q)(hd:dr cs p1 % 6=0)(hD:Dw w R ao cs cap (p1+1))(hB:g*K+q+17<=256*M)(dH:g<=9)(h0:0<=deep)(h3:deep<=3):
  au 32 #[ae R,.int .i64 deep,.int .i64 (g1:Int),.bool plain] w fun e w' =>∃(t:ByteArray) (gb pb:Nat),e=.returned (.tuple #[.string t,.int .i64 (gb:Int)])/\gb<=g/\p1+1<=pb/\pb+gb*K<=g*K+q+17/\t.size+20*(p1+1)<=20*pb/\Dw w' R ao cs cap pb/\Za (·=R) w w'/\Dr plain .pat deep.toNat g1 (bl t) gb:=by
 have hlow:=hN.low;obtain⟨hg,hp,h | h⟩:=hI
 ·obtain⟨rfl,h⟩:=h;have hlt:p1<q:=by
   apply Decidable.byContradiction;intro hn
   have:=hw (p1-q) (by omega)
   rw[show q+(p1-q)=p1 by omega] at this;exact this hd
  refine(ih2 (n-1) (by omega) w R cap (p1+1) q ao deep plain hD (by omega) (by omega) hw hB dH h0 h3).mono ?_;rintro e w' ⟨t,g',p',he,a,b,c,d,f,k,v⟩;exact⟨t,g',p',he,a,b,c,d,f,k,v⟩
 ·refine(Zd7 hN (ih1 g1 h.1) hD (by omega) (by omega) h0 h3).mono ?_;rintro e w' ⟨t,gb,pb,he,a,b,c,d,f,k,v⟩;exact⟨t,gb,pb,he,by omega,b,by omega,d,f,k,v⟩
end Go.Proofs.YtfkflljplohhcaaGreatDoor
