import Derived.Test.YtfkflljplohhcaaGreatDoorMf
import Derived.Test.YtfkflljplohhcaaGreatDoorYr
set_option linter.unusedVariables false
set_option maxHeartbeats 2000000
set_option maxRecDepth 100000
namespace Go.Proofs.YtfkflljplohhcaaGreatDoor
open Go.RowKit
def ik:Option Mt->Mt
 | none=>⟨false,0,0,[]⟩
 | some m=>m
theorem JY(s:ByteArray):QR s=match ZA s with | .error x => .error x | .ok (g,f) => .ok (g,f 0):=by
 unfold QR ZA
 split
 ·rfl
 ·cases Qt s 6 0 0 with
  | error e=>rfl
  | ok v =>
    obtain⟨f,q,g⟩:=v;simp only
    split <;> rfl
variable {s u:ByteArray}{g p:Nat}{w:World}
theorem Zqy(h:Ask s u=none)(p:Int):ZP s u p = []:=by
 unfold Ask at h;rw[JY] at h;unfold ZP wanted
 cases ht:ZA s with
 | error x=>simp
 | ok gf =>
   obtain⟨g,f⟩:=gf;rw[ht] at h;simp only at h ⊢
   have:¬u.size<=200:=by intro h2;rw[if_pos h2] at h;cases h
   simp[this]
variable {ps:List Pc}
theorem Zqx(h:Ask s u=some (g,ps))(hp:p<=u.size):ZP s u (p:Int)=(jB u ps (ps.length-1) p).map (QN g p):=by
 unfold Ask at h;rw[JY] at h;unfold ZP wanted
 cases ht:ZA s with
 | error x=>rw[ht] at h;simp at h
 | ok gf =>
   obtain⟨g',f⟩:=gf;rw[ht] at h;simp only at h ⊢;have h2:u.size<=200:=by
    by_cases h2:u.size<=200
    ·exact h2
    ·rw[if_neg h2] at h;cases h
   rw[if_pos h2] at h;simp only[Option.some.injEq,Prod.mk.injEq] at h;obtain⟨rfl,rfl⟩:=h;have hz:(p:Int)<=(u.size:Int):=by omega
   simp[h2,hz,dx]
theorem LZ{v:Nat×List Pc}(h:Ask s u=some v):u.size<=200:=by
 unfold Ask at h
 cases hr:QR s with
 | error x=>rw[hr] at h;simp at h
 | ok v =>
   rw[hr] at h;simp only at h
   by_cases h2:u.size<=200
   ·exact h2
   ·rw[if_neg h2] at h;cases h
variable {m:Mt}
theorem Zjz{p:Int}(h:m∈ZP s u p):m.gs.length<=9:=by
 unfold ZP at h
 split at h
 ·cases ht:ZA s with
  | error x=>rw[ht] at h;simp at h
  | ok gf =>
    obtain⟨g,f⟩:=gf;rw[ht] at h;simp only[List.mem_map] at h;obtain⟨e,-,rfl⟩:=h;obtain⟨-,hg,-⟩:=yo ht;simp only[QN,Jt];exact hg
 ·simp at h
def SwP (s u:ByteArray) (p:Nat) (Z:Mz) (w:World) (e:Ending) (w':World):Prop :=
 ∃(ao:Option Addr) (n c:Nat) (L:List Mm),e=.returned (.slice ao n c)/\Hid (n=L.length/\n<=201/\L.map (·.1)=ZP s u p)/\w'.ownsRow 0 38 4 (.slice ao n c) n (L.flatMap Jx)/\(∀x∈L,rJ w' x.2 x.1.gs)/\MI w' Z ai ai/\Za (fo Z) w w'
variable {Z:Mz}
theorem ZuO(ha:Ask s u=some (g,ps))(hr:Mr w Z g ps u)(hp:p<=u.size):
  au 51 #[.pointer (some ⟨Z.R,0,none⟩),.int .i64 (p:Int)] w (SwP s u p Z w):=by
 refine(Zk6 (p:=p) hr (by rw[hr.eu];exact hp)).mono ?_;rintro e w' ⟨v,L,rfl,h1,h2,h3,h4⟩;obtain⟨ao,c,rfl⟩:=aj h1.row;have e1:L.map (·.1)=ZP s u p:=by
  rw[Zqx ha hp,h2];unfold Mz.X;rw[hr.KX,hr.eu,hr.eg]
 have:=Zg8 s u p
 rw[<- e1,List.length_map] at this;exact⟨ao,L.length,c,L,rfl,⟨rfl,this,e1⟩,h1.row,h1.rows,h3,h4⟩
theorem MI.oJ{w':World}{S Ex E:Nat->Prop}(h:MI w Z S Ex)(k:Za E w w')(hT:lY w E [38]):MI w' Z S Ex:=by
 refine⟨h.mc.keeps k (hT.not h.mc (by decide)),⟨Zb h.dM.row k (hT.own h.dM.row (by decide)),fun x hx=>⟨Zb (h.dM.rows x hx).1 k (hT.own (h.dM.rows x hx).1 (by decide)),Zb (h.dM.rows x hx).2 k (hT.own (h.dM.rows x hx).2 (by decide))⟩⟩,?_⟩;obtain⟨dn,lv,t1,t2,t3⟩:=h.tab;refine⟨dn,lv,t1.keeps k (hT.not t1 (by decide)),t2.keeps k (hT.not t2 (by decide)),fun i p hi hp hd=>?_⟩
 rcases t3 i p hi hp hd with h3 | ⟨h3,h4⟩
 ·exact Or.inl h3
 ·refine Or.inr ⟨h3.keeps k (hT.iR (by decide)) (fun b hb=>?_),h4⟩;obtain⟨gv,h5,_⟩:=h3;exact hT.own h5 (by decide) b hb
def MW (m:Mt) (Z:Mz) (w:World) (e:Ending) (w':World):Prop :=
 ∃(a:Option Addr) (n c:Nat),e=.returned (.agg #[.bool m.ok,.int .i64 m.fr,.int .i64 m.up,.slice a n c])/\rJ w' (.slice a n c) m.gs/\MI w' Z ai ai/\Za (fo Z) w w'
theorem ZuP(ha:Ask s u=some (g,ps))(hr:Mr w Z g ps u)(hp:p<=u.size+1):
  au 34 #[.pointer (some ⟨Z.R,0,none⟩),.int .i64 (p:Int)] w (MW (ik (Z2 (fun a=>ZP s u (a:Int)) (u.size+1-p) p)) Z w):=by
 have Fh:=LZ ha;have k1:Za ai w (w.alloc (.cells #[.bool false,.int .i64 0,.int .i64 0,.slice none 0 0] 38)):=(Za.refl _ w).alloc _;have b1:(w.alloc (.cells #[.bool false,.int .i64 0,.int .i64 0,.slice none 0 0] 38)).heap[w.heap.size]?=some rF:=heap_alloc_new w _;have hM1:=hr.mi.same k1;have HR:Hid (∀w',MI w' Z ai ai->Mr w' Z g ps u):=fun w' h=>⟨hr.ms,hr.Kz,h,hr.eg,hr.KX,hr.eu,hr.len⟩;have HU:Hid (Z.u=u):=hr.eu;have HA:Hid (Ask s u=some (g,ps)):=ha;have H1:Hid (MI (w.alloc (.cells #[.bool false,.int .i64 0,.int .i64 0,.slice none 0 0] 38)) Z ai ai/\(w.alloc (.cells #[.bool false,.int .i64 0,.int .i64 0,.slice none 0 0] 38)).heap[w.heap.size]?=some rF/\Za (fo Z) w (w.alloc (.cells #[.bool false,.int .i64 0,.int .i64 0,.slice none 0 0] 38))):=⟨hM1,b1,k1.mono (fun _ _ h=>h.elim)⟩;clear hr hM1 b1 k1 ha;go_enter Tryz.func34,Tryz.ntmps34;go_wp2;generalize (w.alloc (.cells #[.bool false,.int .i64 0,.int .i64 0,.slice none 0 0] 38))=w1 at *;go_loopg [5,6] (u.size+2-p) (fun gl s5 _ wr =>∃a:Nat,a+gl=u.size+2/\a<=u.size+1/\s5=.int .i64 (a:Int)/\Hid (Z2 (fun a=>ZP s u (a:Int)) (u.size+1-p) p=Z2 (fun a=>ZP s u (a:Int)) (u.size+1-a) a)/\Hid (MI wr Z ai ai/\wr.heap[w.heap.size]?=some rF/\Za (fo Z) w wr))
 case atStart=>exact⟨p,by omega,hp,rfl,rfl,H1⟩
 case round =>
  obtain⟨a,hgl,hau,rfl,HL,HI⟩:=hrel;have HG:Hid (a+gk=u.size+2):=hgl;clear hgl H1;obtain⟨hM,hb,hK⟩:=HI.out;have m4:=hM.mc.c4;rw[HU.out] at m4;have c0:wr.cell? (ak w.heap.size)=some (.bool false):=by rw[Zc hb];rfl
  have c1:wr.cell? ⟨w.heap.size,1,none⟩=some (.int .i64 0):=by rw[Zc hb];rfl
  have c2:wr.cell? ⟨w.heap.size,2,none⟩=some (.int .i64 0):=by rw[Zc hb];rfl
  have c3:wr.cell? ⟨w.heap.size,3,none⟩=some (.slice none 0 0):=by rw[Zc hb];rfl
  have ef:∀i,wr.frozen? ⟨w.heap.size,i,none⟩=false:=fun i=>Zv hb;have VZ:¬fo Z w.heap.size:=hM.mZ.not hb (by decide);have HE:Hid (¬fo Z w.heap.size):=VZ
  by_cases hle:a<=u.size
  ·have hz:(a:Int)<=(u.size:Int):=by omega
   have hcall:=ZuO (p:=a) HA.out (HR.out wr hM) hle;clear c0 c1 c2 c3 ef VZ;go_upto_region 5 with(go_at_call 51;refine hcall.mono ?_;rintro e w3 ⟨ao,n,c,L,rfl,Cj,hrow,hrows,hM2,hk2⟩);clear hcall m4;have b3:w3.heap[w.heap.size]?=some rF:=(hk2.block _ (lt_of_block hb) HE.out).trans hb;have V5:=Cj.out.2.1
   cases L with
   | nil =>
     obtain rfl:n=0:=Cj.out.1;have HL2:Hid (Z2 (fun a=>ZP s u (a:Int)) (u.size+1-p) p=Z2 (fun a=>ZP s u (a:Int)) (u.size+1-(a+1)) (a+1)):=by
      show _ = _;rw[HL.out];obtain⟨k,hk⟩:∃k,u.size+1-a=k+1:=⟨u.size-a,by omega⟩;rw[hk,Uj (by have:=Cj.out.2.2;simpa using this.symm)];rw[show u.size+1-(a+1)=k by omega]
     have HI2:Hid (MI w3 Z ai ai/\w3.heap[w.heap.size]?=some rF/\Za (fo Z) w w3):=⟨hM2,b3,hK.trans hk2⟩;clear hrow hrows hM2 hk2 Cj HL HI hM hb hK b3;go_wp2;go_roundg (gk-1)
     case measure=>have:=HG.out;omega
     case rel=>exact⟨a+1,by have:=HG.out;omega,by omega,congrArg (Value.int .i64) (by omega),HL2,HI2⟩
   | cons x L =>
     have hn:n=L.length+1:=Cj.out.1;obtain⟨gm,rfl⟩:∃gm,ao=some ⟨gm,0,none⟩:=by
      subst hn;obtain⟨g,c',hv,-⟩:=ZM hrow
      cases hv
      exact⟨g,rfl⟩
     have m0:=hrow.cellAt 0 (by omega);have m1:=hrow.cellAt 1 (by omega);have m2:=hrow.cellAt 2 (by omega);have m3:=hrow.cellAt 3 (by omega);have hx:=hrows x (by simp);obtain⟨ax,cx,hxv⟩:=aj hx;have wV:∀i,x.2.ownBlock=some i->i≠w.heap.size:=fun i hi e=>Zi hx b3 (by decide) (by rw[<- e];exact hi);rw[show ((x::L).flatMap Jx)[0]?=some (.bool x.1.ok) from rfl] at m0;rw[show ((x::L).flatMap Jx)[1]?=some (.int .i64 x.1.fr) from rfl] at m1;rw[show ((x::L).flatMap Jx)[2]?=some (.int .i64 x.1.up) from rfl] at m2;rw[show ((x::L).flatMap Jx)[3]?=some x.2 from rfl,hxv] at m3;have hF:Z2 (fun a=>ZP s u (a:Int)) (u.size+1-p) p=some x.1:=by
      rw[HL.out];obtain⟨k,hk⟩:∃k,u.size+1-a=k+1:=⟨u.size-a,by omega⟩;rw[hk,Zeu (by have:=Cj.out.2.2;rw[<- this];rfl)]
     have HF:Hid (∀wF:World,Za (·=w.heap.size) w3 wF->MW (ik (Z2 (fun a=>ZP s u (a:Int)) (u.size+1-p) p)) Z w (.returned (.agg #[.bool x.1.ok,.int .i64 x.1.fr,.int .i64 x.1.up,.slice ax x.1.gs.length cx])) wF):=by
      intro wF kF;rw[hF];refine⟨ax,x.1.gs.length,cx,rfl,?_,?_,(hK.trans hk2).trans' kF (fun i hi e=>by omega)⟩
      ·rw[<- hxv];exact Zb hx kF (fun i hi e=>wV i hi e)
      ·exact hM2.oJ kF (fun k hk=>by subst hk;exact⟨_,_,b3,by decide⟩)
     have c0:w3.cell? (ak w.heap.size)=some (.bool false):=by rw[Zc b3];rfl
     have c1:w3.cell? ⟨w.heap.size,1,none⟩=some (.int .i64 0):=by rw[Zc b3];rfl
     have c2:w3.cell? ⟨w.heap.size,2,none⟩=some (.int .i64 0):=by rw[Zc b3];rfl
     have c3:w3.cell? ⟨w.heap.size,3,none⟩=some (.slice none 0 0):=by rw[Zc b3];rfl
     have ef:∀i,w3.frozen? ⟨w.heap.size,i,none⟩=false:=fun i=>Zv b3;have hnz:(0:Int)<(n:Int):=by omega
     generalize x.1.gs.length=ng at m3 HF;generalize x.1=y at m0 m1 m2 HF;clear hx hxv wV hrow hrows hM2 hk2 Cj HL HI hM hb hK b3 hF hn;go_wp2_with fail;refine bodyPost_ret (v:=.agg #[.bool y.ok,.int .i64 y.fr,.int .i64 y.up,.slice ax ng cx]) (by simp[results,Tryz.results34,go_sem,c0,c1,c2,c3]) rfl ?_;exact HF.out _ ((((Zh _ _ _ _).trans (Zh _ _ _ _)).trans (Zh _ _ _ _)).trans (Zh _ _ _ _))
  ·have hz:¬(a:Int)<=(u.size:Int):=by omega
   have hF:Z2 (fun a=>ZP s u (a:Int)) (u.size+1-p) p=none:=by
    rw[HL.out,show u.size+1-a=0 by omega];rfl
   have HF:Hid (∀wF:World,Za (·=w.heap.size) wr wF->MW (ik (Z2 (fun a=>ZP s u (a:Int)) (u.size+1-p) p)) Z w (.returned (.agg #[.bool false,.int .i64 0,.int .i64 0,.slice none 0 0])) wF):=by
    intro wF kF;rw[hF];refine⟨none,0,0,rfl,World.ownsRow_nil _ _ _ _,?_,hK.trans' kF (fun i hi e=>by omega)⟩;exact hM.oJ kF (fun k hk=>by subst hk;exact⟨_,_,hb,by decide⟩)
   clear HL HI hM hb hK hF;go_wp2_with fail;refine bodyPost_ret (v:=.agg #[.bool false,.int .i64 0,.int .i64 0,.slice none 0 0]) (by simp[results,Tryz.results34,go_sem,c0,c1,c2,c3]) rfl ?_;exact HF.out _ ((((Zh _ _ _ _).trans (Zh _ _ _ _)).trans (Zh _ _ _ _)).trans (Zh _ _ _ _))
theorem ZpN{k:Nat}(h:Z2 (fun a=>ZP s u (a:Int)) k p=some m):m.ok=true/\(p:Int)<=m.fr/\m.fr<=m.up/\m.up<=(u.size:Int)/\p+1<=fG m/\fG m<=u.size+1/\m.gs.length<=9:=by
 obtain⟨a,h1,h2,h3⟩:=Mi _ _ h;have h4:=Zjy h3;have h5:=Zjz h3;unfold fG;refine⟨h4.1,by omega,by omega,h4.2.2.2,?_,?_,h5⟩
 ·split <;> omega
 ·split <;> omega
def UH (l:List Mt) (Z:Mz) (w:World) (e:Ending) (w':World):Prop :=
 ∃(ao:Option Addr) (n c:Nat) (L:List Mm),e=.returned (.slice ao n c)/\L.map (·.1)=l/\kg w' (.slice ao n c) L/\MI w' Z ai ai/\Za (fo Z) w w'
theorem Xt(ha:Ask s u=some (g,ps))(hr:Mr w Z g ps u):
  au 17 #[.pointer (some ⟨Z.R,0,none⟩)] w (UH (Z1 s u) Z w):=by
 have Fh:=LZ ha;have HR:Hid (∀w',MI w' Z ai ai->Mr w' Z g ps u):=fun w' h=>⟨hr.ms,hr.Kz,h,hr.eg,hr.KX,hr.eu,hr.len⟩;have HU:Hid (Z.u=u):=hr.eu;have HA:Hid (Ask s u=some (g,ps)):=ha;have H1:Hid (MI w Z ai ai):=hr.mi;clear hr ha;go_enter Tryz.func17,Tryz.ntmps17;go_wp2;go_loopg [3,4,5] (u.size+2) (fun gl s3 s4 _ wr =>∃(a:Nat) (ov:Value) (L:List Mm),u.size+2<=a+gl/\a<=u.size+1/\s3=ov/\s4=.int .i64 (a:Int)/\L.length<=a/\Hid (L.map (·.1)++Q5 (fun a=>ZP s u (a:Int)) u.size gl a=Z1 s u)/\kg wr ov L/\(∀b,ov.ownBlock=some b->w.heap.size<=b)/\Hid (MI wr Z ai ai/\Za (fo Z) w wr))
 case atStart=>exact⟨0,_,[],by omega,by omega,rfl,rfl,by simp,rfl,⟨World.ownsRow_nil _ _ _ _,by simp⟩,fun b h=>by simp[Value.ownBlock] at h,H1.out,Za.refl _ _⟩
 case round =>
  obtain⟨a,ov,L,hgl,hau,rfl,rfl,hLa,HL,hO,hov,HI⟩:=hrel;have HG:Hid (u.size+2<=a+gk):=hgl;clear hgl H1;obtain⟨ao,co,Aj⟩:=aj hO.row;subst Aj;obtain⟨hM,hK⟩:=HI.out;have m4:=hM.mc.c4;rw[HU.out] at m4
  by_cases hle:a<=u.size
  ·have hz:(a:Int)<=(u.size:Int):=by omega
   have hcall:=ZuP (p:=a) HA.out (HR.out wr hM) (by omega);unfold MW at hcall;obtain⟨r,hfr⟩:∃r,Z2 (fun a=>ZP s u (a:Int)) (u.size+1-a) a=r:=⟨_,rfl⟩;rw[hfr] at hcall;have Ki:Hid (Z2 (fun a=>ZP s u (a:Int)) (u.size+1-a) a=r):=hfr;clear hfr;obtain⟨gq,rfl⟩:∃gq,gk=gq+1:=⟨gk-1,by have:=HG.out;omega⟩;go_upto_region 5 with(go_at_call 34;refine hcall.mono ?_;rintro e w3 ⟨ax,nx,cx,rfl,hx,hM2,hk2⟩;obtain⟨ax',cx',hxv⟩:=aj hx;cases hxv);clear hcall m4;have hO3:kg w3 (.slice ao L.length co) L:=⟨Zb hO.row hk2 (hM.mZ.own hO.row (by decide)),fun x hxm=>Zb (hO.rows x hxm) hk2 (hM.mZ.own (hO.rows x hxm) (by decide))⟩;have hsz2:=hk2.size;have xae:w.heap.size<=wr.heap.size:=hK.size;have kA:Za ai w3 (w3.alloc (.cells #[.bool (ik r).ok,.int .i64 (ik r).fr,.int .i64 (ik r).up,.slice ax (ik r).gs.length cx] 38)):=QT;have bX:(w3.alloc (.cells #[.bool (ik r).ok,.int .i64 (ik r).fr,.int .i64 (ik r).up,.slice ax (ik r).gs.length cx] 38)).heap[w3.heap.size]?=some (.cells #[.bool (ik r).ok,.int .i64 (ik r).fr,.int .i64 (ik r).up,.slice ax (ik r).gs.length cx] 38 (0,0)):=heap_alloc_new _ _;have hO4:=hO3.same kA;have hx4:rJ _ _ _:=Zb hx kA (fun _ _ h=>h);have xD:=hM2.same kA;have hK4:Za (fo Z) w (w3.alloc (.cells #[.bool (ik r).ok,.int .i64 (ik r).fr,.int .i64 (ik r).up,.slice ax (ik r).gs.length cx] 38)):=(hK.trans hk2).trans (kA.mono (fun _ _ h=>h.elim));have HOP:Hid (∀b,(Value.slice ao L.length co).ownBlock=some b->b≠w3.heap.size):=fun b hb e=>by have:=(hO3.row.lt b hb).2;omega
   clear hO hO3 hx hM2 hk2 hM hK HI kA;generalize (w3.alloc (.cells #[.bool (ik r).ok,.int .i64 (ik r).fr,.int .i64 (ik r).up,.slice ax (ik r).gs.length cx] 38))=w4 at *;generalize w3.heap.size=P at *;have d0:w4.cell? (ak P)=some (.bool (ik r).ok):=by rw[Zc bX];rfl
   have d1:w4.cell? ⟨P,1,none⟩=some (.int .i64 (ik r).fr):=by rw[Zc bX];rfl
   have d2:w4.cell? ⟨P,2,none⟩=some (.int .i64 (ik r).up):=by rw[Zc bX];rfl
   have d3:w4.cell? ⟨P,3,none⟩=some (.slice ax (ik r).gs.length cx):=by rw[Zc bX];rfl
   cases r with
   | none =>
     simp only[ik] at d0 d1 d2 d3;have HF:Hid (UH (Z1 s u) Z w (.returned (.slice ao L.length co)) w4):=by
      refine⟨ao,L.length,co,L,rfl,?_,hO4,xD,hK4⟩
      have:=HL.out
      simp only[Q5,Ki.out,List.append_nil] at this;exact this
     clear hO4 hx4 xD hK4 HL Ki bX;go_wp2_with fail;go_ret;exact HF.out
   | some m =>
     simp only[ik] at d0 d1 d2 d3 hx4;obtain⟨f1,f2,f3,f4,f5,f6,f7⟩:=ZpN Ki.out;rw[f1] at d0;obtain⟨v',w9,dX,ho,mV⟩:=ZgT (base:=w.heap.size) (Zp hO4.row hov) hK4.size (by omega) (m,.slice ax m.gs.length cx) rfl;have hMt:=ZiQ (x:=(m,.slice ax m.gs.length cx)) hO4 hx4 mV (Zp ho (fun _ _=>Nat.zero_le _));have qL:∀k,v'.ownBlock=some k->w.heap.size<=k:=fun k hk=>(ho.lt k hk).1;have hKn:Za (fo Z) w w9:=hK4.trans' mV (fun k hk h=>by have:=hov k h;omega);have vM:=(mV.block P (lt_of_block bX) (fun h=>HOP.out P h rfl)).trans bX;have WI:=xD.oJ mV (fun k hk=>by obtain⟨cur,h⟩:=Zx hO4.row hk;exact⟨cur,_,h,by decide⟩);have e1:w9.cell? ⟨P,1,none⟩=some (.int .i64 m.fr):=by rw[Zc vM];rfl
     have e2:w9.cell? ⟨P,2,none⟩=some (.int .i64 m.up):=by rw[Zc vM];rfl
     have hrun:Sem.run Tryz.prog (Builtin.append_ #[25,25] 25 #[.slice ao L.length co,.slice (some ⟨w4.heap.size,0,none⟩) 1 1]) (w4.alloc (.cells #[.bool true,.int .i64 m.fr,.int .i64 m.up,.slice ax m.gs.length cx] 38))=.ok v' w9:=by rw[<- f1];exact dX
     have HL2:Hid ((L++[((m,Value.slice ax m.gs.length cx):Mm)]).map (·.1)++Q5 (fun a=>ZP s u (a:Int)) u.size gq (fG m)=Z1 s u):=by
      have:=HL.out
      simp only[Q5,Ki.out] at this;show _ = _;rw[<- this];simp
     have HI2:Hid (MI w9 Z ai ai/\Za (fo Z) w w9):=⟨WI,hKn⟩;obtain⟨av,cv,eZ⟩:=aj ho;subst eZ;simp only[List.length_append,List.length_singleton] at hMt qL;have Ew:Hid ((L++[((m,Value.slice ax m.gs.length cx):Mm)]).length<=fG m):=by
      show _<=_;rw[List.length_append,List.length_singleton];omega
     have uX:Hid (u.size+2<=fG m+gq/\fG m<=u.size+1):=⟨by have:=HG.out;omega,f6⟩;have HUp:Hid (0<=m.up):=(by show (0:Int)<=m.up;omega);clear dX ho mV hO4 hx4 xD hK4 HL Ki bX vM WI hKn f5 f6 f7 hov HG
     by_cases he:m.up=m.fr
     ·have hz2:(m.up == m.fr)=true:=by simp[he]
      have pU:Hid (((fG m:Nat):Int)=m.up+1):=(by show _ = _;unfold fG;rw[if_pos he];have:=HUp.out;omega);clear he;go_wp2_with(refine Zj rfl _ _ _ _ rfl rfl _ _ _ _ rfl rfl hrun ?_);go_roundg gq
      case measure=>omega
      case rel=>exact⟨fG m,_,_,uX.out.1,uX.out.2,rfl,congrArg (Value.int .i64) pU.out.symm,Ew.out,HL2,hMt,qL,HI2⟩
     ·have hz2:(m.up == m.fr)=false:=by simp[he]
      have pU:Hid (((fG m:Nat):Int)=m.up):=(by show _ = _;unfold fG;rw[if_neg he];have:=HUp.out;omega);clear he;go_wp2_with(refine Zj rfl _ _ _ _ rfl rfl _ _ _ _ rfl rfl hrun ?_);go_roundg gq
      case measure=>omega
      case rel=>exact⟨fG m,_,_,uX.out.1,uX.out.2,rfl,congrArg (Value.int .i64) pU.out.symm,Ew.out,HL2,hMt,qL,HI2⟩
  ·have hz:¬(a:Int)<=(u.size:Int):=by omega
   have HF:Hid (UH (Z1 s u) Z w (.returned (.slice ao L.length co)) wr):=by
    refine⟨ao,L.length,co,L,rfl,?_,hO,hM,hK⟩
    have:=HL.out
    obtain⟨gq,hgq⟩:∃gq,gk=gq+1:=⟨gk-1,by have:=HG.out;omega⟩;rw[hgq] at this;simp only[Q5] at this;rw[show u.size+1-a=0 by omega] at this;simp only[Z2,List.append_nil] at this;exact this
   clear HI hM hO hK HL;go_wp2_with fail;go_ret;exact HF.out
end Go.Proofs.YtfkflljplohhcaaGreatDoor
