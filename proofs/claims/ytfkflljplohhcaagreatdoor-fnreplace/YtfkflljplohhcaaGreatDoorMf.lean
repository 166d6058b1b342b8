import Derived.Test.YtfkflljplohhcaaGreatDoorMd
set_option linter.unusedVariables false
set_option maxHeartbeats 8000000
set_option maxRecDepth 100000
namespace Go.Proofs.YtfkflljplohhcaaGreatDoor
open Go.RowKit
theorem Tryz.qH:(Tryz.prog.info? 158).map (fun i=>(i.zero,i.size,i.bytes))=some (some (.slice none 0 0),1,24):=by kernel_rfl
theorem Zj0(n:Nat)(hn:n<=1000000)(w:World):(Instr.makeSlice 75 (.int .i64 (n:Int)) (.int .i64 (n:Int))).run Tryz.prog w=.ok (.slice (some ⟨w.heap.size,0,none⟩) n n) (w.alloc (.cells ((List.range n).map (fun _=>Value.slice none 0 0)).toArray 158)):=by
 have h:=run_make_row' (P:=Tryz.prog) 75 158 (.slice none 0 0) 24 Tryz.underlying75 Tryz.qH rfl .i64 .i64 n (by omega) (by omega) w;have e:madeCells #[Value.slice none 0 0] n=((List.range n).map (fun _=>Value.slice none 0 0)).toArray:=by
  apply Array.ext';rw[toList_madeCells_one];simp[List.map_const']
 rw[h,e]
theorem ZhC(n:Nat)(hn:n<=1000000)(w:World):(Instr.makeSlice 74 (.int .i64 (n:Int)) (.int .i64 (n:Int))).run Tryz.prog w=.ok (.slice (some ⟨w.heap.size,0,none⟩) n n) (w.alloc (.cells (iV n bq).toArray 4)):=by
 have h:=run_make_row' (P:=Tryz.prog) 74 4 (.bool false) 1 Tryz.underlying74 Tryz.jT rfl .i64 .i64 n (by omega) (by omega) w;have e:madeCells #[Value.bool false] n=(iV n bq).toArray:=by
  apply Array.ext';rw[toList_madeCells_one];simp[iV,bq,List.map_const']
 rw[h,e]
def Xp (at_:Int) (G:Nat) (pv:Value) (u:ByteArray) (ps:List Pc) (L:List Pm) (w:World) (e:Ending) (w':World):Prop :=
 ∃R Bd Bl:Nat,e=.returned ((ae R))/\MI w' ⟨R,Bd,Bl,at_,G,pv,u,ps,L⟩ ai ai/\(w.heap.size<=Bd/\w.heap.size<=Bl)/\Za ai w w'
variable {w:World}{R Bd Bl G g:Nat}{at_:Int}{pv:Value}{u s:ByteArray}{ps:List Pc}{L:List Pm}
theorem ZtK(hp:nH w pv L)(n:Nat)(hn:n=ps.length*(u.size+1))
  (h1:Bk w Bd 4 (iV n bq)) (h2:Bk w Bl 158 ((List.range n).map (fun _=>Value.slice none 0 0))) (h3:w.heap[R]?=some (.cells #[.bool true,.int .i64 at_,.int .i64 (G:Int),pv,.string u,.slice (some ⟨Bd,0,none⟩) n n,.slice (some ⟨Bl,0,none⟩) n n] 77 (0,0))) :
  MI w ⟨R,Bd,Bl,at_,G,pv,u,ps,L⟩ ai ai:=by
 subst hn;exact⟨h3,hp,bq,fun _ => .slice none 0 0,h1,h2,fun i p _ _ h=>by simp[bq] at h⟩
theorem Dx(w:World)(x y z:Obj):(((w.alloc x).alloc y).alloc z).heap[w.heap.size]?=some x/\(((w.alloc x).alloc y).alloc z).heap[w.heap.size+1]?=some y/\(((w.alloc x).alloc y).alloc z).heap[w.heap.size+1+1]?=some z:=by
 refine⟨?_,?_,?_⟩
 ·rw[Below.heap_alloc _ _ _ (by simp;omega)];exact fU w x y
 ·rw[Below.heap_alloc _ _ _ (by simp)];exact gH w x y
 ·have:=heap_alloc_new ((w.alloc x).alloc y) z
  simpa using this
theorem ZiR{w1:World}{x y:Obj}(hp:nH w1 pv L)(kA:Za ai w w1)(n:Nat)(hn:n=ps.length*(u.size+1)){z:Obj}
  (h1:(((w1.alloc x).alloc y).alloc z).heap[Bd]?=some (.cells (iV n bq).toArray 4 (0,0))) (h2:(((w1.alloc x).alloc y).alloc z).heap[Bl]?=some (.cells ((List.range n).map (fun _=>Value.slice none 0 0)).toArray 158 (0,0)))
  (h3:(((w1.alloc x).alloc y).alloc z).heap[R]?=some (.cells #[.bool true,.int .i64 at_,.int .i64 (G:Int),pv,.string u,.slice (some ⟨Bd,0,none⟩) n n,.slice (some ⟨Bl,0,none⟩) n n] 77 (0,0))) (hB1:w1.heap.size<=Bd) (hB2:w1.heap.size<=Bl):Xp at_ G pv u ps L w (.returned ((ae R))) (((w1.alloc x).alloc y).alloc z).drew:=by
 have k:Za ai w1 (((w1.alloc x).alloc y).alloc z):=(((Za.refl _ _).alloc _).alloc _).alloc _;exact⟨R,Bd,Bl,rfl,(ZtK (hp.same k) n hn h1 h2 h3).same (Za.refl _ _).drew,⟨Nat.le_trans kA.size hB1,Nat.le_trans kA.size hB2⟩,(kA.trans k).drew⟩
theorem ZhD(hp:nH w pv L)(hL:L.map (·.1)=ps)(hl:ps.length<=1000)(hu:u.size<=200):
  au 33 #[.agg #[.bool true,.int .i64 at_,.int .i64 (G:Int),pv],.string u] w (Xp at_ G pv u ps L w):=by
 obtain⟨ao,cap,rfl⟩:=aj hp.row;have jm:L.length=ps.length:=by rw[<- hL,List.length_map]
 obtain⟨n,hn⟩:∃n,L.length*(u.size+1)=n:=⟨_,rfl⟩;have hm:(L.length:Int)*((u.size:Int)+1)=(n:Int):=by rw[<- hn];push_cast;rfl
 have hnb:n<=1000*201:=by rw[<- hn];exact Nat.mul_le_mul (by omega) (by omega)
 have HN:Hid (n=ps.length*(u.size+1)):=(by show _ = _;rw[<- hn,jm]);have hk1:=ZhC n (by omega);have hk2:=Zj0 n (by omega);have WJ:L.length<=1000:=by omega
 clear hn jm;have kA:Za ai w (w.alloc (.cells #[.bool true,.int .i64 at_,.int .i64 (G:Int),.slice ao L.length cap] 33)):=QT;have hO:(w.alloc (.cells #[.bool true,.int .i64 at_,.int .i64 (G:Int),.slice ao L.length cap] 33)).heap[w.heap.size]?=some (.cells #[.bool true,.int .i64 at_,.int .i64 (G:Int),.slice ao L.length cap] 33 (0,0)):=heap_alloc_new w _;have hP1:=hp.same kA;go_enter Tryz.func33,Tryz.ntmps33;go_upto_region 1 with fail;generalize w.alloc (.cells #[.bool true,.int .i64 at_,.int .i64 (G:Int),.slice ao L.length cap] 33)=w1 at kA hO hP1 ⊢;generalize w.heap.size=P at hO ⊢;clear hp;have hC:∀w',Za ai w1 w'->w'.cell? (ak P)=some (.bool true)/\w'.cell? ⟨P,1,none⟩=some (.int .i64 at_)/\w'.cell? ⟨P,2,none⟩=some (.int .i64 (G:Int))/\w'.cell? ⟨P,3,none⟩=some (.slice ao L.length cap):=fun w' k=>by
  have h:w'.heap[P]?=some (.cells #[.bool true,.int .i64 at_,.int .i64 (G:Int),.slice ao L.length cap] 33 (0,0)):=by rw[k.block P (lt_of_block hO) id];exact hO
  refine⟨?_,?_,?_,?_⟩ <;> rw[Zc h] <;> rfl
 have d3:=(hC w1 (Za.refl _ _)).2.2.2;go_upto_region 2 with fail;have HC:Hid (∀w',Za ai w1 w'->w'.cell? (ak P)=some (.bool true)/\w'.cell? ⟨P,1,none⟩=some (.int .i64 at_)/\w'.cell? ⟨P,2,none⟩=some (.int .i64 (G:Int))/\w'.cell? ⟨P,3,none⟩=some (.slice ao L.length cap)):=hC;clear hC d3;have s0:=HC.out w1.drew (Za.refl _ _).drew;have s1:=fun o=>HC.out (w1.drew.alloc o) ((Za.refl _ _).drew.alloc o);have s2:=fun o o2=>HC.out ((w1.drew.alloc o).alloc o2) (((Za.refl _ _).drew.alloc o).alloc o2);have s3:=fun o o2 o3=>HC.out (((w1.drew.alloc o).alloc o2).alloc o3) ((((Za.refl _ _).drew.alloc o).alloc o2).alloc o3);go_region_held3 (fun w'=>w'.cell? (ak P)=some (.bool true)/\w'.cell? ⟨P,1,none⟩=some (.int .i64 at_)/\w'.cell? ⟨P,2,none⟩=some (.int .i64 (G:Int))/\w'.cell? ⟨P,3,none⟩=some (.slice ao L.length cap)) (first | assumption | exact s1 _ | exact s2 _ _ | exact s3 _ _ _ | go_keep) (fail)
 all_goals (try go_wp2_with fail)
 all_goals go_ret
 ·exact ZiR hP1 kA n HN.out (Dx w1 _ _ _).1 (Dx w1 _ _ _).2.1 (Dx w1 _ _ _).2.2 (Nat.le_refl _) (Nat.le_succ _)
 ·exact ZiR hP1 kA n HN.out (Dx w1 _ _ _).2.1 (Dx w1 _ _ _).1 (Dx w1 _ _ _).2.2 (Nat.le_succ _) (Nat.le_refl _)
def vV (ps:List Pc):Prop :=∀c∈ps,c.set.length<=1000/\c.kids.length<=1000
theorem II{a b:List Pc}(ha:vV a)(hb:vV b):vV (a++b):=fun c hc=>(List.mem_append.1 hc).elim (ha c) (hb c)
theorem YB{fs:List Pf}(h:∀f∈fs,∀n,vV (f n)):∀n,vV (cat fs n):=by
 induction fs with
 | nil=>intro n c h;simp[cat] at h
 | cons f fs ih =>
   intro n;simp only[cat];exact II (h f (by simp) n) (ih (fun g hg=>h g (by simp[hg])) _)
theorem BN{c:Pc}(h1:c.set.length<=1000)(h2:c.kids.length<=1000):vV [c]:=fun d hd=>by simp at hd;subst hd;exact⟨h1,h2⟩
theorem ZgH(fs:List Pf):∀n,(ends fs n).length=fs.length:=by
 induction fs with
 | nil=>intro n;rfl
 | cons f fs ih=>intro n;simp[ends,ih]
theorem Zt2{lo hi:Nat}{f:Pf}(h:Fg lo hi f):∀n,vV (f n) :=
 h (fun _ _ f =>∀n,vV (f n))
   ⟨fun _ _ S n=>BN (by have:=Zdm S 256;simp only[lQ,Ja];omega) (by simp[lQ]),fun _ _ n=>BN (by simp) (by simp),fun _ _ n=>BN (by simp) (by simp),
    fun _ _ fs hl ih n=>II (YB ih n) (BN (by simp[ZL]) (by simp only[ZL,ZgH];omega)),fun _ _ fs hl ih n=>II (YB ih n) (BN (by simp[ZL]) (by simp only[ZL,ZgH];omega)),
    fun _ _ f a b lz _ _ _ _ ih n=>II (ih n) (BN (by simp) (by simp)),fun _ _ f _ ih n=>II (ih n) (BN (by simp) (by simp)),fun _ _ _ _ f _ _ ih=>ih⟩
theorem ZrX(h:QR s=.ok (g,ps)):∃f,Fg 0 g f/\ps=f 0/\1<=ps.length/\ps.length<=1000/\g<=9:=by
 unfold QR at h
 split at h
 ·simp at h
 ·rename_i hs
  split at h
  ·simp at h
  ·rename_i f q g' ha;have h1:=QG s 6 _ _ _ _ _ (Nat.zero_le _) (by omega) ha;have h2:=ZcQ s 6 _ _ _ _ _ (Nat.zero_le _) (by omega) (by omega) ha
   split at h
   ·simp at h
   ·simp only[Except.ok.injEq,Prod.mk.injEq] at h;obtain⟨e1,e2⟩:=h;subst e1 e2
    have:=h1.2.2.2 0
    exact⟨f,h2.2,rfl,by omega,by omega,h1.2.2.1⟩
structure Mr (w:World) (Z:Mz) (g:Nat) (ps:List Pc) (u:ByteArray):Prop where
 ms:Ms Z
 Kz:r9 Z.ps
 mi:MI w Z ai ai
 eg:Z.G=g
 KX:Z.ps=ps
 eu:Z.u=u
 len:1<=Z.ps.length
def Zvk (g:Nat) (ps:List Pc) (u:ByteArray) (w:World) (e:Ending) (w':World):Prop :=∃Z,e=.returned (.tuple #[.pointer (some ⟨Z.R,0,none⟩),.bool true])/\Mr w' Z g ps u/\(w.heap.size<=Z.Bd/\w.heap.size<=Z.Bl)/\Za ai w w'
def ZvE (w:World) (e:Ending) (w':World):Prop :=∃R,e=.returned (.tuple #[ae R,.bool false])/\Za ai w w'
def Ask (s u:ByteArray):Option (Nat×List Pc):=match QR s with
 | .ok v=>if u.size<=200 then some v else none
 | .error _=>none
def Lr (s u:ByteArray) (w:World) (e:Ending) (w':World):Prop:=match Ask s u with
 | some (g,ps)=>Zvk g ps u w e w'
 | none=>ZvE w e w'
theorem ZiU(hs:s.size<=1048576)(xag:u.size<=1048576):au 16 #[.string s,.string u] w (Lr s u w):=by
 have hrd:=ZcF s w hs;unfold Jk at hrd;unfold Lr Ask
 cases hr:QR s with
 | error x =>
   rw[hr] at hrd;simp only at hrd ⊢;clear hr;go_enter Tryz.func16,Tryz.ntmps16;go_wp2_with(first|(go_at_call 9;refine hrd.mono ?_;rintro e w2 ⟨rfl,hk⟩))
   go_ret2;exact⟨_,rfl,(hk.alloc _).alloc _⟩
 | ok v =>
   obtain⟨g,ps⟩:=v;rw[hr] at hrd;simp only at hrd ⊢;obtain⟨f,hf,hps,hl1,hl2,dH⟩:=ZrX hr;have HV:Hid (nG g 0 ps):=(by show nG _ _ _;rw[hps];exact Zt1 hf (Nat.le_refl _) 0);have HK:Hid (r9 ps):=(by show r9 _;rw[hps];exact Zt3 hf 0);have HS:Hid (vV ps):=(by show vV _;rw[hps];exact Zt2 hf 0);clear hr hf hps
   by_cases hu:u.size<=200
   ·simp only[if_pos hu];have hz:¬(200:Int)<(u.size:Int):=by omega
    go_enter Tryz.func16,Tryz.ntmps16;go_upto_region 2 with(first|(go_at_call 9;refine hrd.mono ?_;rintro e w2 ⟨v,L,rfl,hP,hL,jm,hk⟩;obtain⟨ao,cap,rfl⟩:=aj hP.row))
    have kA:Za ai w2 (w2.alloc (.cells #[.bool true,.int .i64 0,.int .i64 (g:Int),.slice ao L.length cap] 33)):=QT;have hO:(w2.alloc (.cells #[.bool true,.int .i64 0,.int .i64 (g:Int),.slice ao L.length cap] 33)).heap[w2.heap.size]?=some (.cells #[.bool true,.int .i64 0,.int .i64 (g:Int),.slice ao L.length cap] 33 (0,0)):=heap_alloc_new w2 _;have hP2:=hP.same kA;generalize w2.alloc (.cells #[.bool true,.int .i64 0,.int .i64 (g:Int),.slice ao L.length cap] 33)=w3 at kA hO hP2 ⊢;generalize w2.heap.size=P at hO ⊢;have d0:w3.cell? (ak P)=some (.bool true):=by rw[Zc hO];rfl
    have d1:w3.cell? ⟨P,1,none⟩=some (.int .i64 0):=by rw[Zc hO];rfl
    have d2:w3.cell? ⟨P,2,none⟩=some (.int .i64 (g:Int)):=by rw[Zc hO];rfl
    have d3:w3.cell? ⟨P,3,none⟩=some (.slice ao L.length cap):=by rw[Zc hO];rfl
    have hcall:=ZhD (at_:=0) (G:=g) (u:=u) hP2 hL hl2 hu;have HL:Hid (L.map (·.1)=ps):=hL;clear hL hrd hP;go_wp2_with(first|(go_at_call 33;refine hcall.mono ?_;rintro e w5 ⟨R,Bd,Bl,rfl,hM,hB,hk5⟩;have HB:Hid (w.heap.size<=Bd/\w.heap.size<=Bl):=(by show _/\_;have h1:=hk.size;have h2:=kA.size;exact⟨by omega,by omega⟩);clear hB))
    go_ret2;exact⟨⟨R,Bd,Bl,0,g,_,u,ps,L⟩,rfl,⟨⟨hu,dH,hl2,HV.out,HL.out,HS.out⟩,HK.out,hM,rfl,rfl,rfl,hl1⟩,HB.out,(hk.trans kA).trans hk5⟩
   ·simp only[if_neg hu];have hz:(200:Int)<(u.size:Int):=by omega
    go_enter Tryz.func16,Tryz.ntmps16;go_wp2_with(first|(go_at_call 9;refine hrd.mono ?_;rintro e w2 ⟨v,L,rfl,hP,hL,jm,hk⟩;obtain⟨ao,cap,rfl⟩:=aj hP.row;clear hL))
    go_ret2;exact⟨_,rfl,(hk.alloc _).alloc _⟩
def Zvf (Z:Mz) (p:Nat) (w:World) (e:Ending) (w':World):Prop :=
 ∃v L,e=.returned v/\kg w' v L/\L.map (·.1)=(Z.X (Z.ps.length-1) p).map (QN Z.G p)/\MI w' Z ai ai/\Za (fo Z) w w'
theorem ZiQ{w':World}{ov v':Value}{L:List Mm}{x:Mm}(h:kg w ov L)(hx:rJ w x.2 x.1.gs)(k:Za (ov.ownBlock=some ·) w w')(ho:w'.ownsRow 0 38 4 v' (L++[x]).length ((L++[x]).flatMap Jx)):kg w' v' (L++[x]):=by
 have hk:∀{v:Value} {gs:List (Int×Int)},rJ w v gs->rJ w' v gs:=fun h2=>Zb h2 k (fun b hb hb'=>Je h2 h.row (by decide) hb hb');refine⟨ho,fun y hy=>?_⟩
 rcases List.mem_append.1 hy with hy | hy
 ·exact hk (h.rows y hy)
 ·simp at hy;subst hy;exact hk hx
theorem Zk6{Z:Mz}{p:Nat}(hr:Mr w Z g ps u)(hp:p<=Z.u.size):
  au 51 #[.pointer (some ⟨Z.R,0,none⟩),.int .i64 (p:Int)] w (Zvf Z p w):=by
 have dH:=hr.ms.g9;have hu:=hr.ms.iF;have cZ:=hr.ms.few;have jm:Z.L.length=Z.ps.length:=by rw[<- hr.ms.oH,List.length_map]
 obtain⟨la,hla⟩:∃la,Z.ps.length=la+1:=⟨Z.ps.length-1,by have:=hr.len;omega⟩;have hE:=Zp1 hr.ms hr.Kz la (by omega);have hcall:=hE w ai ai p hr.mi (fun _ _ _ _ h=>h) (fun _ h=>h.elim) hp;have dW:=Il (u:=Z.u) hr.ms.kK la (by omega);unfold D6 at hcall;obtain⟨gp,cp,hpv,oU⟩:=ZW hr.mi.dM.row (by omega);have m3:=hr.mi.mc.c3;rw[hpv,show Z.L.length=la+1 by omega] at m3;obtain⟨F,jX⟩:∃F,Z.X la p=F:=⟨_,rfl⟩;have pW:Hid (Z.X (Z.ps.length-1) p=F):=(by show _ = _;rw[hla];exact jX);have xH:F.length<=201:=by
  have:=zt (dW p hp).1 (fun y hy=>((dW p hp).2 y hy).2.1)
  have e:Z.X la p=F:=jX;unfold Mz.X at e;rw[e] at this;omega
 rw[jX] at hcall;have hlab:la<=1000:=by omega
 clear jX dW hE jm hpv oU hla;go_enter Tryz.func51,Tryz.ntmps51;go_upto_region 3 with(first|(go_at_call 74;refine hcall.mono ?_;rintro e w1 ⟨fv,rfl,hf,-,hM1,hk1⟩;obtain⟨af,cf,rfl⟩:=hf.form))
 clear hcall m3;go_wp2;go_loopg [5,7,8,10,22] (F.length+1) (fun gl s5 _ _ _ NF wr =>∃(a:Nat) (ov:Value) (L:List Mm),a+gl=F.length+1/\a<=F.length/\s5=ov/\NF=.int .i64 (a:Int)/\Hid (L.map (·.1)=(F.take a).map (QN Z.G p))/\kg wr ov L/\(∀b,ov.ownBlock=some b->w1.heap.size<=b)/\Za ai w1 wr)
 case atStart=>exact⟨0,_,[],by omega,by omega,rfl,rfl,(by show _ = _;simp),⟨World.ownsRow_nil _ _ _ _,by simp⟩,fun b h=>by simp[Value.ownBlock] at h,Za.refl _ _⟩
 case round =>
  obtain⟨a,ov,L,hgl,ha,rfl,rfl,HL,hO,hov,hK⟩:=hrel;have HG:Hid (a+gk=F.length+1):=hgl;clear hgl;obtain⟨ao,co,Aj⟩:=aj hO.row;subst Aj;have HLl:Hid (L.length=a):=(by show _ = _;have:=congrArg List.length HL.out;simp at this;omega)
  by_cases hlt:a<F.length
  ·have hz:(a:Int)<(F.length:Int):=by omega
   obtain⟨g3,pq,ah,ch,hv3,hg3,a0,a1,hgr⟩:=(hf.same hK).at hlt;simp only[Value.slice.injEq] at hv3;obtain⟨rfl,_,rfl⟩:=hv3;have oq:Hid ((F.take (a+1)).map (QN Z.G p)=(F.take a).map (QN Z.G p)++[QN Z.G p F[a]]):=(by show _ = _;rw[Q6 F a hlt,List.map_append,List.map_singleton]);generalize F[a]=f at a0 a1 hgr oq;obtain⟨q,ef⟩:=f;simp only at a0 a1 hgr;go_upto_region 6 with fail;have kA:Za ai wr ((wr.alloc (.cells #[.int .i64 (q:Int),.slice ah Z.G ch] 161)).alloc (.cells #[.bool true,.int .i64 (p:Int),.int .i64 (q:Int),.slice none 0 0] 38)):=((Za.refl _ _).alloc _).alloc _;have hB1:Bk ((wr.alloc (.cells #[.int .i64 (q:Int),.slice ah Z.G ch] 161)).alloc (.cells #[.bool true,.int .i64 (p:Int),.int .i64 (q:Int),.slice none 0 0] 38)) wr.heap.size 161 [.int .i64 (q:Int),.slice ah Z.G ch]:=fU wr _ _;have hB2:Bk ((wr.alloc (.cells #[.int .i64 (q:Int),.slice ah Z.G ch] 161)).alloc (.cells #[.bool true,.int .i64 (p:Int),.int .i64 (q:Int),.slice none 0 0] 38)) (wr.heap.size+1) 38 [.bool true,.int .i64 (p:Int),.int .i64 (q:Int),.slice none 0 0]:=gH wr _ _;have hP8:wr.heap.size<=wr.heap.size+1:=by omega
   generalize ((wr.alloc (.cells #[.int .i64 (q:Int),.slice ah Z.G ch] 161)).alloc (.cells #[.bool true,.int .i64 (p:Int),.int .i64 (q:Int),.slice none 0 0] 38))=w4 at kA hB1 hB2 ⊢;generalize wr.heap.size+1=P8 at hB2 hP8 ⊢;have b1:w4.cell? ⟨wr.heap.size,1,none⟩=some (.slice ah Z.G ch):=by rw[hB1.cell];rfl
   clear hB1;obtain⟨wo,rfl⟩:∃wo:World,wo=wr:=⟨_,rfl⟩;obtain⟨gq,rfl⟩:∃gq:Nat,gq=gk:=⟨_,rfl⟩;go_wp2;go_loopg [10,33] (Z.G+1) (fun gl _ s33 wi =>∃(b:Nat) (rV:Value),b+gl=Z.G+1/\b<=Z.G/\s33=.int .i64 (b:Int)/\Bk wi P8 38 [.bool true,.int .i64 (p:Int),.int .i64 (q:Int),rV]/\wi.ownsRow wo.heap.size 118 2 rV b (ZD ((gU Z.G ef).take b))/\Za ai wo wi)
   case atStart=>exact⟨0,_,by omega,by omega,rfl,hB2,by simpa [ZD] using World.ownsRow_nil w4 wo.heap.size 118 2,kA⟩
   case round =>
    clear hB2 kA b1;obtain⟨b,rV,jk,hb,rfl,hB,hgs,hki⟩:=hrel;have HG2:Hid (b+gk=Z.G+1):=jk;clear jk;have Na:Hid (((gU Z.G ef).take b).length=b):=(by show _ = _;rw[List.length_take,Jt];omega)
    by_cases hlt2:b<Z.G
    ·have Kg:Hid (((gU Z.G ef).take (b+1)).length=b+1):=(by show _ = _;rw[List.length_take,Jt];omega);have hbz:(b:Int)<(Z.G:Int):=by omega
     obtain⟨gh,ch',VQ,hgh⟩:=ZW hgr (by omega);simp only[Value.slice.injEq] at VQ;obtain⟨rfl,_,rfl⟩:=VQ;have r0:=(hgr.same hki).cellAt (b*2) (by omega);have r1:=(hgr.same hki).cellAt (b*2+1) (by omega);rw[(JB Z.G _ b hlt2).1] at r0;rw[(JB Z.G _ b hlt2).2] at r1;have yt:Hid ((gU Z.G ef).take (b+1)=(gU Z.G ef).take b++[(gU Z.G ef)[b]'(by rw[Jt];exact hlt2)]):=Q6 _ b _
     cases he:ef b with
     | none =>
       have UW:Hid ((gU Z.G ef).take (b+1)=(gU Z.G ef).take b++[(-1,-1)]):=(by show _ = _;rw[yt.out,ZmQ hlt2 he]);simp only[jC,he] at r0 r1;clear he yt;have kB:Za ai wr (wr.alloc (.cells #[.int .i64 (-1),.int .i64 (-1)] 118)):=QT;have hB3:=hB.keeps kB id;have um:=Zb hgs kB (fun _ _ h=>h);obtain⟨v',w9,hrun,ho,mV⟩:=Y9 (gs:=(gU Z.G ef).take b) (by rw[Na.out];exact um) (Nat.le_trans hki.size kB.size) (by rw[Na.out];omega) (-1) (-1);rw[<- UW.out,Kg.out] at ho;have hne:∀k,rV.ownBlock=some k->k≠P8:=by
        rintro k hk rfl;obtain⟨c2,h2⟩:=Zx hgs hk;unfold Bk at hB;rw[hB] at h2;simp at h2
       have uJ:=hB3.keeps mV (fun h=>hne _ h rfl);have tY:∀k,v'.ownBlock=some k->¬k=P8:=by
        rintro k hk rfl;obtain⟨c2,h2⟩:=Zx ho hk;have uI:=uJ;unfold Bk at uI;rw[uI] at h2;simp at h2
       have e3:w9.cell? ⟨P8,3,none⟩=some rV:=by rw[uJ.cell];rfl
       have f3:=uJ.fz 3;have d3:(wr.alloc (.cells #[.int .i64 (-1),.int .i64 (-1)] 118)).cell? ⟨P8,3,none⟩=some rV:=by rw[hB3.cell];rfl
       have Rv:=uJ.set 3 v';have hof:=Zb ho (ZO w9 P8 3 v') (fun k hk=>tY k hk);have hKf:Za ai wo (w9.setCell ⟨P8,3,none⟩ v'):=((hki.trans kB).trans' mV (fun k hk h=>by have:=(hgs.lt k h).1;omega)).setCell (fun h=>by simp at h;omega) _;obtain⟨a7,c7,O3⟩:=aj hgs;obtain⟨a8,c8,O0⟩:=aj ho;subst O3 O0;clear hB hB3 hgs um uJ ho mV hne tY kB hki;have z0:(wr.alloc (.cells #[.int .i64 (-1),.int .i64 (-1)] 118)).cell? (ak wr.heap.size)=some (.int .i64 (-1)):=by rw[(QC wr [.int .i64 (-1),.int .i64 (-1)] 118).cell];rfl
       have z1:(wr.alloc (.cells #[.int .i64 (-1),.int .i64 (-1)] 118)).cell? ⟨wr.heap.size,1,none⟩=some (.int .i64 (-1)):=by rw[(QC wr [.int .i64 (-1),.int .i64 (-1)] 118).cell];rfl
       go_upto_region 11 with fail
       generalize wr.alloc (.cells #[.int .i64 (-1),.int .i64 (-1)] 118)=wx at hrun d3 z0 z1 ⊢;go_wp2_with(refine Zj rfl _ _ _ _ rfl rfl _ _ _ _ rfl rfl hrun ?_);go_roundg (gk-1)
       case measure=>have:=HG2.out;omega
       case rel=>exact⟨b+1,_,by have:=HG2.out;omega,by omega,congrArg (Value.int .i64) (by omega),Rv,hof,hKf⟩
     | some v =>
       obtain⟨x,y⟩:=v;have UW:Hid ((gU Z.G ef).take (b+1)=(gU Z.G ef).take b++[((x:Int),(y:Int))]):=(by show _ = _;rw[yt.out,ZmP hlt2 he]);simp only[jC,he] at r0 r1;have hx2:((x:Int) == -2)=false:=by simp
       clear he yt;have kB:Za ai wr (wr.alloc (.cells #[.int .i64 (x:Int),.int .i64 (y:Int)] 118)):=QT;have hB3:=hB.keeps kB id;have um:=Zb hgs kB (fun _ _ h=>h);obtain⟨v',w9,hrun,ho,mV⟩:=Y9 (gs:=(gU Z.G ef).take b) (by rw[Na.out];exact um) (Nat.le_trans hki.size kB.size) (by rw[Na.out];omega) (x:Int) (y:Int);rw[<- UW.out,Kg.out] at ho;have hne:∀k,rV.ownBlock=some k->k≠P8:=by
        rintro k hk rfl;obtain⟨c2,h2⟩:=Zx hgs hk;unfold Bk at hB;rw[hB] at h2;simp at h2
       have uJ:=hB3.keeps mV (fun h=>hne _ h rfl);have tY:∀k,v'.ownBlock=some k->¬k=P8:=by
        rintro k hk rfl;obtain⟨c2,h2⟩:=Zx ho hk;have uI:=uJ;unfold Bk at uI;rw[uI] at h2;simp at h2
       have e3:w9.cell? ⟨P8,3,none⟩=some rV:=by rw[uJ.cell];rfl
       have f3:=uJ.fz 3;have d3:(wr.alloc (.cells #[.int .i64 (x:Int),.int .i64 (y:Int)] 118)).cell? ⟨P8,3,none⟩=some rV:=by rw[hB3.cell];rfl
       have Rv:=uJ.set 3 v';have hof:=Zb ho (ZO w9 P8 3 v') (fun k hk=>tY k hk);have hKf:Za ai wo (w9.setCell ⟨P8,3,none⟩ v'):=((hki.trans kB).trans' mV (fun k hk h=>by have:=(hgs.lt k h).1;omega)).setCell (fun h=>by simp at h;omega) _;obtain⟨a7,c7,O3⟩:=aj hgs;obtain⟨a8,c8,O0⟩:=aj ho;subst O3 O0;clear hB hB3 hgs um uJ ho mV hne tY kB hki;have z0:(wr.alloc (.cells #[.int .i64 (x:Int),.int .i64 (y:Int)] 118)).cell? (ak wr.heap.size)=some (.int .i64 (x:Int)):=by rw[(QC wr [.int .i64 (x:Int),.int .i64 (y:Int)] 118).cell];rfl
       have z1:(wr.alloc (.cells #[.int .i64 (x:Int),.int .i64 (y:Int)] 118)).cell? ⟨wr.heap.size,1,none⟩=some (.int .i64 (y:Int)):=by rw[(QC wr [.int .i64 (x:Int),.int .i64 (y:Int)] 118).cell];rfl
       go_upto_region 11 with fail
       generalize wr.alloc (.cells #[.int .i64 (x:Int),.int .i64 (y:Int)] 118)=wx at hrun d3 z0 z1 ⊢;go_wp2_with(refine Zj rfl _ _ _ _ rfl rfl _ _ _ _ rfl rfl hrun ?_);go_roundg (gk-1)
       case measure=>have:=HG2.out;omega
       case rel=>exact⟨b+1,_,by have:=HG2.out;omega,by omega,congrArg (Value.int .i64) (by omega),Rv,hof,hKf⟩
    ·have HbG:Hid (b=Z.G):=(by show _ = _;omega);have hbz:¬(b:Int)<(Z.G:Int):=by omega
     have Aw:rJ wr rV (gU Z.G ef):=by
      have e:(gU Z.G ef).take b=gU Z.G ef:=by rw[HbG.out];exact List.take_of_length_le (by rw[Jt];exact Nat.le_refl _)
      rw[e] at hgs;have h5:=Zp (base':=0) hgs (fun _ _=>Nat.zero_le _);rw[HbG.out] at h5;unfold rJ;rw[Jt];exact h5
     obtain⟨a9,c9,Gn⟩:=aj Aw;have PT:=hO.same hki;obtain⟨v',w9,dX,ho,mV⟩:=ZgT (base:=w1.heap.size) (Zp PT.row hov) (Nat.le_trans hK.size hki.size) (by have:=HLl.out;omega) (QN Z.G p (q,ef),rV) Gn;have hMt:=ZiQ (x:=(QN Z.G p (q,ef),rV)) PT Aw mV (Zp ho (fun _ _=>Nat.zero_le _));have qL:∀k,v'.ownBlock=some k->w1.heap.size<=k:=fun k hk=>(ho.lt k hk).1;have hKn:Za ai w1 w9:=(hK.trans hki).trans' mV (fun k hk h=>by have:=hov k h;omega);subst Gn;have hrun:Sem.run Tryz.prog (Builtin.append_ #[25,25] 25 #[.slice ao L.length co,.slice (some ⟨wr.heap.size,0,none⟩) 1 1]) (wr.alloc (.cells #[.bool true,.int .i64 (p:Int),.int .i64 (q:Int),.slice a9 (gU Z.G ef).length c9] 38))=.ok v' w9:=dX;have Ew:Hid ((L++[((QN Z.G p (q,ef),Value.slice a9 (gU Z.G ef).length c9):Mm)]).map (·.1)=(F.take (a+1)).map (QN Z.G p)):=(by show _ = _;rw[oq.out,List.map_append,HL.out];rfl);obtain⟨av,cv,eZ⟩:=aj ho;subst eZ;simp only[List.length_append,List.length_singleton] at hMt qL;have y0:wr.cell? (ak P8)=some (.bool true):=by rw[hB.cell];rfl
     have y1:wr.cell? ⟨P8,1,none⟩=some (.int .i64 (p:Int)):=by rw[hB.cell];rfl
     have y2:wr.cell? ⟨P8,2,none⟩=some (.int .i64 (q:Int)):=by rw[hB.cell];rfl
     have y3:wr.cell? ⟨P8,3,none⟩=some (.slice a9 (gU Z.G ef).length c9):=by rw[hB.cell];rfl
     clear dX ho mV hgs Aw PT hO;go_wp2_with(refine Zj rfl _ _ _ _ rfl rfl _ _ _ _ rfl rfl hrun ?_);go_roundg (gq-1)
     case measure=>have:=HG.out;omega
     case rel=>exact⟨a+1,_,_,by have:=HG.out;omega,by omega,rfl,congrArg (Value.int .i64) (by omega),Ew,hMt,qL,hKn⟩
  ·obtain rfl:a=F.length:=by omega
   go_wp2;go_ret;refine⟨_,L,rfl,hO,?_,hM1.same hK,hk1.trans (hK.mono (fun _ _ h=>h.elim))⟩;rw[HL.out,pW.out,List.take_length]
end Go.Proofs.YtfkflljplohhcaaGreatDoor
