import Derived.Test.YtfkflljplohhcaaGreatDoorC
import Derived.Test.YtfkflljplohhcaaGreatDoorA
import Derived.Deep.RegionWith
import Derived.Test.YtfkflljplohhcaaGreatDoorMf
import Derived.Test.YtfkflljplohhcaaGreatDoorYo
import Derived.Test.YtfkflljplohhcaaGreatDoorYr
set_option maxHeartbeats 2000000
set_option maxRecDepth 100000
namespace Go.Proofs.YtfkflljplohhcaaGreatDoor
open Go.RowKit
set_option linter.unusedVariables false
def mtD:Option Mt->Mt
 | none=>⟨false,0,0,[]⟩
 | some m=>m
theorem ZaS (s:ByteArray):QO s=match ZD s with | .error x => .error x | .ok (g,f) => .ok (g,f 0):=by
 unfold QO ZD
 split
 ·rfl
 ·cases QL s 6 0 0 with
  | error e=>rfl
  | ok v =>
    obtain ⟨f,q,g⟩:=v;simp only
    split <;> rfl
theorem Zpb {s u:ByteArray} {g:Nat} {ps:List Pc} (h:Ask s u=some (g,ps)) {p:Nat} (hp:p<=u.size):ZZ s u (p:Int)=(xOf u ps (ps.length - 1) p).map (QX g p):=by
 unfold Ask at h;rw [ZaS] at h;unfold ZZ wanted
 cases ht:ZD s with
 | error x=>rw [ht] at h; simp at h
 | ok gf =>
   obtain ⟨g',f⟩:=gf;rw [ht] at h;simp only at h ⊢;have h2:u.size<=200:=by
    by_cases h2:u.size<=200
    ·exact h2
    ·rw [if_neg h2] at h; cases h
   rw [if_pos h2] at h;simp only [Option.some.injEq,Prod.mk.injEq] at h;obtain ⟨rfl,rfl⟩:=h;have hz:(p:Int)<=(u.size:Int):=by omega
   simp [h2,hz,smx]
theorem ZbV {s u:ByteArray} {v:Nat×List Pc} (h:Ask s u=some v):u.size<=200:=by
 unfold Ask at h
 cases hr:QO s with
 | error x=>rw [hr] at h; simp at h
 | ok v =>
   rw [hr] at h;simp only at h
   by_cases h2:u.size<=200
   ·exact h2
   ·rw [if_neg h2] at h; cases h
theorem ZiP {s u:ByteArray} {p:Int} {m:Mt} (h:m∈ZZ s u p):m.gs.length<=9:=by
 unfold ZZ at h
 split at h
 ·cases ht:ZD s with
  | error x=>rw [ht] at h; simp at h
  | ok gf =>
    obtain ⟨g,f⟩:=gf;rw [ht] at h;simp only [List.mem_map] at h;obtain ⟨e,-,rfl⟩:=h;obtain ⟨-,hg,-⟩:=Zb2 ht;simp only [QX,Jq];exact hg
 ·simp at h
def SwP (s u:ByteArray) (p:Nat) (Z:Mz) (w:World) (e:Ending) (w':World):Prop :=
 ∃(ao:Option Addr) (n c:Nat) (L:List Mm),e = .returned (.slice ao n c)/\Hid (n=L.length/\n<=201/\L.map (·.1)=ZZ s u p)/\w'.ownsRow 0 38 4 (.slice ao n c) n (L.flatMap Za0)/\(∀x∈L,SpR w' x.2 x.1.gs)/\MI w' Z N0_ N0_/\Za (ExM Z) w w'
theorem ZsU {w:World} {s u:ByteArray} {Z:Mz} {g p:Nat} {ps:List Pc} (ha:Ask s u=some (g,ps)) (hr:Mr w Z g ps u) (hp:p<=u.size) :
  Calls Tryz.prog 51 #[.pointer (some ⟨Z.R,0,none⟩),.int .i64 (p:Int)] w (SwP s u p Z w):=by
 refine (Zkg (p:=p) hr (by rw [hr.eu]; exact hp)).mono ?_;rintro e w' ⟨v,L,rfl,h1,h2,h3,h4⟩;obtain ⟨ao,c,rfl⟩:=Zd h1.row;have e1:L.map (·.1)=ZZ s u p:=by
  rw [Zpb ha hp,h2];unfold Mz.X;rw [hr.eps,hr.eu,hr.eg]
 have:=Zgx s u p
 rw [<- e1,List.length_map] at this;exact ⟨ao,L.length,c,L,rfl,⟨rfl,this,e1⟩,h1.row,h1.rows,h3,h4⟩
theorem MI.keepsM {w w':World} {Z:Mz} {S Ex E:Nat->Prop} (h:MI w Z S Ex) (k:Za E w w') (hT:OfT w E [38]):MI w' Z S Ex:=by
 refine ⟨h.mc.keeps k (hT.not h.mc (by decide)),⟨Zb h.pcs.row k (hT.own h.pcs.row (by decide)),fun x hx=>⟨Zb (h.pcs.rows x hx).1 k (hT.own (h.pcs.rows x hx).1 (by decide)),Zb (h.pcs.rows x hx).2 k (hT.own (h.pcs.rows x hx).2 (by decide))⟩⟩,?_⟩;obtain ⟨dn,lv,t1,t2,t3⟩:=h.tab;refine ⟨dn,lv,t1.keeps k (hT.not t1 (by decide)),t2.keeps k (hT.not t2 (by decide)),fun i p hi hp hd=>?_⟩
 rcases t3 i p hi hp hd with h3 | ⟨h3,h4⟩
 ·exact Or.inl h3
 ·refine Or.inr ⟨h3.keeps k (hT.noSp (by decide)) (fun b hb=>?_),h4⟩;obtain ⟨gv,h5,_⟩:=h3;exact hT.own h5 (by decide) b hb
def SfP (m:Mt) (Z:Mz) (w:World) (e:Ending) (w':World):Prop :=
 ∃(a:Option Addr) (n c:Nat),e = .returned (.agg #[.bool m.ok,.int .i64 m.fr,.int .i64 m.up,.slice a n c])/\SpR w' (.slice a n c) m.gs/\MI w' Z N0_ N0_/\Za (ExM Z) w w'
theorem ZsV {w:World} {s u:ByteArray} {Z:Mz} {g p:Nat} {ps:List Pc} (ha:Ask s u=some (g,ps)) (hr:Mr w Z g ps u) (hp:p<=u.size + 1) :
  Calls Tryz.prog 34 #[.pointer (some ⟨Z.R,0,none⟩),.int .i64 (p:Int)] w (SfP (mtD (Qc (fun a=>ZZ s u (a:Int)) (u.size + 1 - p) p)) Z w):=by
 have hu200:=ZbV ha;have k1:Za N0_ w (w.alloc (.cells #[.bool false,.int .i64 0,.int .i64 0,.slice none 0 0] 38)):=(Za.refl _ w).alloc _;have b1:(w.alloc (.cells #[.bool false,.int .i64 0,.int .i64 0,.slice none 0 0] 38)).heap[w.heap.size]? = some ZbZ:=heap_alloc_new w _;have hM1:=hr.mi.same k1;have HR:Hid (∀w',MI w' Z N0_ N0_->Mr w' Z g ps u):=fun w' h=>⟨hr.ms,hr.knd,h,hr.eg,hr.eps,hr.eu,hr.len⟩;have HU:Hid (Z.u=u):=hr.eu;have HA:Hid (Ask s u=some (g,ps)):=ha;have H1:Hid (MI (w.alloc (.cells #[.bool false,.int .i64 0,.int .i64 0,.slice none 0 0] 38)) Z N0_ N0_/\(w.alloc (.cells #[.bool false,.int .i64 0,.int .i64 0,.slice none 0 0] 38)).heap[w.heap.size]? = some ZbZ/\Za (ExM Z) w (w.alloc (.cells #[.bool false,.int .i64 0,.int .i64 0,.slice none 0 0] 38))):=⟨hM1,b1,k1.mono (fun _ _ h=>h.elim)⟩;clear hr hM1 b1 k1 ha;go_enter Tryz.func34,Tryz.ntmps34;go_wp2;generalize (w.alloc (.cells #[.bool false,.int .i64 0,.int .i64 0,.slice none 0 0] 38))=w1 at *;go_loopg [5,6] (u.size + 2 - p) (fun gl s5 _ wr =>∃a:Nat,a + gl=u.size + 2/\a<=u.size + 1/\s5 = .int .i64 (a:Int)/\Hid (Qc (fun a=>ZZ s u (a:Int)) (u.size + 1 - p) p=Qc (fun a=>ZZ s u (a:Int)) (u.size + 1 - a) a)/\Hid (MI wr Z N0_ N0_/\wr.heap[w.heap.size]? = some ZbZ/\Za (ExM Z) w wr))
 case atStart=>exact ⟨p,by omega,hp,rfl,rfl,H1⟩
 case round =>
  obtain ⟨a,hgl,hau,rfl,HL,HI⟩:=hrel;have HG:Hid (a + gk=u.size + 2):=hgl;clear hgl H1;obtain ⟨hM,hb,hK⟩:=HI.out;have m4:=hM.mc.c4;rw [HU.out] at m4;have c0:wr.cell? ⟨w.heap.size,0,none⟩=some (.bool false):=by rw [Zc hb]; rfl
  have c1:wr.cell? ⟨w.heap.size,1,none⟩=some (.int .i64 0):=by rw [Zc hb]; rfl
  have c2:wr.cell? ⟨w.heap.size,2,none⟩=some (.int .i64 0):=by rw [Zc hb]; rfl
  have c3:wr.cell? ⟨w.heap.size,3,none⟩=some (.slice none 0 0):=by rw [Zc hb]; rfl
  have ef :∀i,wr.frozen? ⟨w.heap.size,i,none⟩=false:=fun i=>Zv hb;have hnE:¬ ExM Z w.heap.size:=hM.exM.not hb (by decide);have HE:Hid (¬ ExM Z w.heap.size):=hnE
  by_cases hle:a<=u.size
  ·have hz:(a:Int)<=(u.size:Int):=by omega
   have hcall:=ZsU (p:=a) HA.out (HR.out wr hM) hle;clear c0 c1 c2 c3 ef hnE;go_upto_region 5 with (go_at_call 51; refine hcall.mono ?_; rintro e w3 ⟨ao,n,c,L,rfl,HLs,hrow,hrows,hM2,hk2⟩);clear hcall m4;have b3:w3.heap[w.heap.size]? = some ZbZ:=(hk2.block _ (lt_of_block hb) HE.out).trans hb;have hn201:=HLs.out.2.1
   cases L with
   | nil =>
     obtain rfl:n=0:=HLs.out.1;have HL2:Hid (Qc (fun a=>ZZ s u (a:Int)) (u.size + 1 - p) p=Qc (fun a=>ZZ s u (a:Int)) (u.size + 1 - (a + 1)) (a + 1)):=by
      show _ = _;rw [HL.out];obtain ⟨k,hk⟩ :∃k,u.size + 1 - a=k + 1:=⟨u.size - a,by omega⟩;rw [hk,Zd7 (by have:=HLs.out.2.2; simpa using this.symm)];rw [show u.size + 1 - (a + 1)=k by omega]
     have HI2:Hid (MI w3 Z N0_ N0_/\w3.heap[w.heap.size]? = some ZbZ/\Za (ExM Z) w w3):=⟨hM2,b3,hK.trans hk2⟩;clear hrow hrows hM2 hk2 HLs HL HI hM hb hK b3;go_wp2;go_roundg (gk - 1)
     case measure=>have:=HG.out; omega
     case rel=>exact ⟨a + 1,by have:=HG.out; omega,by omega,congrArg (Value.int .i64) (by omega),HL2,HI2⟩
   | cons x L =>
     have hn:n=L.length + 1:=HLs.out.1;obtain ⟨gm,rfl⟩ :∃gm,ao=some ⟨gm,0,none⟩:=by
      subst hn;obtain ⟨g,c',hv,-⟩:=ZQ hrow
      cases hv
      exact ⟨g,rfl⟩
     have m0:=hrow.cellAt 0 (by omega);have m1:=hrow.cellAt 1 (by omega);have m2:=hrow.cellAt 2 (by omega);have m3:=hrow.cellAt 3 (by omega);have hx:=hrows x (by simp);obtain ⟨ax,cx,hxv⟩:=Zd hx;have hxn :∀i,x.2.ownBlock=some i->i≠w.heap.size:=fun i hi e=>Zi hx b3 (by decide) (by rw [<- e]; exact hi);rw [show ((x :: L).flatMap Za0)[0]? = some (.bool x.1.ok) from rfl] at m0;rw [show ((x :: L).flatMap Za0)[1]? = some (.int .i64 x.1.fr) from rfl] at m1;rw [show ((x :: L).flatMap Za0)[2]? = some (.int .i64 x.1.up) from rfl] at m2;rw [show ((x :: L).flatMap Za0)[3]? = some x.2 from rfl,hxv] at m3;have hF:Qc (fun a=>ZZ s u (a:Int)) (u.size + 1 - p) p=some x.1:=by
      rw [HL.out];obtain ⟨k,hk⟩ :∃k,u.size + 1 - a=k + 1:=⟨u.size - a,by omega⟩;rw [hk,Zd6 (by have:=HLs.out.2.2; rw [<- this]; rfl)]
     have HF:Hid (∀wF:World,Za (fun i=>i=w.heap.size) w3 wF->SfP (mtD (Qc (fun a=>ZZ s u (a:Int)) (u.size + 1 - p) p)) Z w (.returned (.agg #[.bool x.1.ok,.int .i64 x.1.fr,.int .i64 x.1.up,.slice ax x.1.gs.length cx])) wF):=by
      intro wF kF;rw [hF];refine ⟨ax,x.1.gs.length,cx,rfl,?_,?_,(hK.trans hk2).trans' kF (fun i hi e=>by omega)⟩
      ·rw [<- hxv]; exact Zb hx kF (fun i hi e=>hxn i hi e)
      ·exact hM2.keepsM kF (fun k hk=>by subst hk; exact ⟨_,_,b3,by decide⟩)
     have c0:w3.cell? ⟨w.heap.size,0,none⟩=some (.bool false):=by rw [Zc b3]; rfl
     have c1:w3.cell? ⟨w.heap.size,1,none⟩=some (.int .i64 0):=by rw [Zc b3]; rfl
     have c2:w3.cell? ⟨w.heap.size,2,none⟩=some (.int .i64 0):=by rw [Zc b3]; rfl
     have c3:w3.cell? ⟨w.heap.size,3,none⟩=some (.slice none 0 0):=by rw [Zc b3]; rfl
     have ef :∀i,w3.frozen? ⟨w.heap.size,i,none⟩=false:=fun i=>Zv b3;have hnz:(0:Int) < (n:Int):=by omega
     generalize x.1.gs.length=ng at m3 HF;generalize x.1=y at m0 m1 m2 HF;clear hx hxv hxn hrow hrows hM2 hk2 HLs HL HI hM hb hK b3 hF hn;go_wp2_with fail;refine bodyPost_ret (v:=.agg #[.bool y.ok,.int .i64 y.fr,.int .i64 y.up,.slice ax ng cx]) (by simp [results,Tryz.results34,go_sem,c0,c1,c2,c3]) rfl ?_;exact HF.out _ ((((Zh _ _ _ _).trans (Zh _ _ _ _)).trans (Zh _ _ _ _)).trans (Zh _ _ _ _))
  ·have hz:¬ (a:Int)<=(u.size:Int):=by omega
   have hF:Qc (fun a=>ZZ s u (a:Int)) (u.size + 1 - p) p=none:=by
    rw [HL.out,show u.size + 1 - a=0 by omega]; rfl
   have HF:Hid (∀wF:World,Za (fun i=>i=w.heap.size) wr wF->SfP (mtD (Qc (fun a=>ZZ s u (a:Int)) (u.size + 1 - p) p)) Z w (.returned (.agg #[.bool false,.int .i64 0,.int .i64 0,.slice none 0 0])) wF):=by
    intro wF kF;rw [hF];refine ⟨none,0,0,rfl,World.ownsRow_nil _ _ _ _,?_,hK.trans' kF (fun i hi e=>by omega)⟩;exact hM.keepsM kF (fun k hk=>by subst hk; exact ⟨_,_,hb,by decide⟩)
   clear HL HI hM hb hK hF;go_wp2_with fail;refine bodyPost_ret (v:=.agg #[.bool false,.int .i64 0,.int .i64 0,.slice none 0 0]) (by simp [results,Tryz.results34,go_sem,c0,c1,c2,c3]) rfl ?_;exact HF.out _ ((((Zh _ _ _ _).trans (Zh _ _ _ _)).trans (Zh _ _ _ _)).trans (Zh _ _ _ _))
theorem Zox {s u:ByteArray} {k p:Nat} {m:Mt} (h:Qc (fun a=>ZZ s u (a:Int)) k p=some m):m.ok=true/\(p:Int)<=m.fr/\m.fr<=m.up/\m.up<=(u.size:Int)/\p + 1<=nxt m/\nxt m<=u.size + 1/\m.gs.length<=9:=by
 obtain ⟨a,h1,h2,h3⟩:=ZcN _ _ h;have h4:=ZiO h3;have h5:=ZiP h3;unfold nxt;refine ⟨h4.1,by omega,by omega,h4.2.2.2,?_,?_,h5⟩
 ·split <;> omega
 ·split <;> omega
def SaP (l:List Mt) (Z:Mz) (w:World) (e:Ending) (w':World):Prop :=
 ∃(ao:Option Addr) (n c:Nat) (L:List Mm),e = .returned (.slice ao n c)/\L.map (·.1)=l/\Mts w' (.slice ao n c) L/\MI w' Z N0_ N0_/\Za (ExM Z) w w'
theorem Ztx {w:World} {s u:ByteArray} {Z:Mz} {g:Nat} {ps:List Pc} (ha:Ask s u=some (g,ps)) (hr:Mr w Z g ps u) :
  Calls Tryz.prog 17 #[.pointer (some ⟨Z.R,0,none⟩)] w (SaP (Jf s u) Z w):=by
 have hu200:=ZbV ha;have HR:Hid (∀w',MI w' Z N0_ N0_->Mr w' Z g ps u):=fun w' h=>⟨hr.ms,hr.knd,h,hr.eg,hr.eps,hr.eu,hr.len⟩;have HU:Hid (Z.u=u):=hr.eu;have HA:Hid (Ask s u=some (g,ps)):=ha;have H1:Hid (MI w Z N0_ N0_):=hr.mi;clear hr ha;go_enter Tryz.func17,Tryz.ntmps17;go_wp2;go_loopg [3,4,5] (u.size + 2) (fun gl s3 s4 _ wr =>∃(a:Nat) (ov:Value) (L:List Mm),u.size + 2<=a + gl/\a<=u.size + 1/\s3=ov/\s4 = .int .i64 (a:Int)/\L.length<=a/\Hid (L.map (·.1) ++ JN (fun a=>ZZ s u (a:Int)) u.size gl a=Jf s u)/\Mts wr ov L/\(∀b,ov.ownBlock=some b->w.heap.size<=b)/\Hid (MI wr Z N0_ N0_/\Za (ExM Z) w wr))
 case atStart=>exact ⟨0,_,[],by omega,by omega,rfl,rfl,by simp,rfl,⟨World.ownsRow_nil _ _ _ _,by simp⟩,fun b h=>by simp [Value.ownBlock] at h,H1.out,Za.refl _ _⟩
 case round =>
  obtain ⟨a,ov,L,hgl,hau,rfl,rfl,hLa,HL,hO,hov,HI⟩:=hrel;have HG:Hid (u.size + 2<=a + gk):=hgl;clear hgl H1;obtain ⟨ao,co,hovf⟩:=Zd hO.row;subst hovf;obtain ⟨hM,hK⟩:=HI.out;have m4:=hM.mc.c4;rw [HU.out] at m4
  by_cases hle:a<=u.size
  ·have hz:(a:Int)<=(u.size:Int):=by omega
   have hcall:=ZsV (p:=a) HA.out (HR.out wr hM) (by omega);unfold SfP at hcall;obtain ⟨r,hfr⟩ :∃r,Qc (fun a=>ZZ s u (a:Int)) (u.size + 1 - a) a=r:=⟨_,rfl⟩;rw [hfr] at hcall;have HFR:Hid (Qc (fun a=>ZZ s u (a:Int)) (u.size + 1 - a) a=r):=hfr;clear hfr;obtain ⟨gq,rfl⟩ :∃gq,gk=gq + 1:=⟨gk - 1,by have:=HG.out; omega⟩;go_upto_region 5 with (go_at_call 34; refine hcall.mono ?_; rintro e w3 ⟨ax,nx,cx,rfl,hx,hM2,hk2⟩; obtain ⟨ax',cx',hxv⟩:=Zd hx; cases hxv);clear hcall m4;have hO3:Mts w3 (.slice ao L.length co) L:=⟨Zb hO.row hk2 (hM.exM.own hO.row (by decide)),fun x hxm=>Zb (hO.rows x hxm) hk2 (hM.exM.own (hO.rows x hxm) (by decide))⟩;have hsz2:=hk2.size;have hwsz:w.heap.size<=wr.heap.size:=hK.size;have kA:Za N0_ w3 (w3.alloc (.cells #[.bool (mtD r).ok,.int .i64 (mtD r).fr,.int .i64 (mtD r).up,.slice ax (mtD r).gs.length cx] 38)):=(Za.refl _ _).alloc _;have bX:(w3.alloc (.cells #[.bool (mtD r).ok,.int .i64 (mtD r).fr,.int .i64 (mtD r).up,.slice ax (mtD r).gs.length cx] 38)).heap[w3.heap.size]? = some (.cells #[.bool (mtD r).ok,.int .i64 (mtD r).fr,.int .i64 (mtD r).up,.slice ax (mtD r).gs.length cx] 38 (0,0)):=heap_alloc_new _ _;have hO4:=hO3.same kA;have hx4:SpR _ _ _:=Zb hx kA (fun _ _ h=>h);have hM4:=hM2.same kA;have hK4:Za (ExM Z) w (w3.alloc (.cells #[.bool (mtD r).ok,.int .i64 (mtD r).fr,.int .i64 (mtD r).up,.slice ax (mtD r).gs.length cx] 38)):=(hK.trans hk2).trans (kA.mono (fun _ _ h=>h.elim));have HOP:Hid (∀b,(Value.slice ao L.length co).ownBlock=some b->b≠w3.heap.size):=fun b hb e=>by have:=(hO3.row.lt b hb).2; omega
   clear hO hO3 hx hM2 hk2 hM hK HI kA;generalize (w3.alloc (.cells #[.bool (mtD r).ok,.int .i64 (mtD r).fr,.int .i64 (mtD r).up,.slice ax (mtD r).gs.length cx] 38))=w4 at *;generalize w3.heap.size=P at *;have d0:w4.cell? ⟨P,0,none⟩=some (.bool (mtD r).ok):=by rw [Zc bX]; rfl
   have d1:w4.cell? ⟨P,1,none⟩=some (.int .i64 (mtD r).fr):=by rw [Zc bX]; rfl
   have d2:w4.cell? ⟨P,2,none⟩=some (.int .i64 (mtD r).up):=by rw [Zc bX]; rfl
   have d3:w4.cell? ⟨P,3,none⟩=some (.slice ax (mtD r).gs.length cx):=by rw [Zc bX]; rfl
   cases r with
   | none =>
     simp only [mtD] at d0 d1 d2 d3;have HF:Hid (SaP (Jf s u) Z w (.returned (.slice ao L.length co)) w4):=by
      refine ⟨ao,L.length,co,L,rfl,?_,hO4,hM4,hK4⟩
      have:=HL.out
      simp only [JN,HFR.out,List.append_nil] at this;exact this
     clear hO4 hx4 hM4 hK4 HL HFR bX;go_wp2_with fail;go_ret;exact HF.out
   | some m =>
     simp only [mtD] at d0 d1 d2 d3 hx4;obtain ⟨f1,f2,f3,f4,f5,f6,f7⟩:=Zox HFR.out;rw [f1] at d0;obtain ⟨v',w9,hrun0,ho,hk9⟩:=Zgi (base:=w.heap.size) (Zr hO4.row hov) hK4.size (by omega) (m,.slice ax m.gs.length cx) rfl;have hMt:=Zic (x:=(m,.slice ax m.gs.length cx)) hO4 hx4 hk9 (Zr ho (fun _ _=>Nat.zero_le _));have hov2 :∀k,v'.ownBlock=some k->w.heap.size<=k:=fun k hk=>(ho.lt k hk).1;have hKn:Za (ExM Z) w w9:=hK4.trans' hk9 (fun k hk h=>by have:=hov k h; omega);have bX9:=(hk9.block P (lt_of_block bX) (fun h=>HOP.out P h rfl)).trans bX;have hM9:=hM4.keepsM hk9 (fun k hk=>by obtain ⟨cur,h⟩:=Zu hO4.row hk; exact ⟨cur,_,h,by decide⟩);have e1:w9.cell? ⟨P,1,none⟩=some (.int .i64 m.fr):=by rw [Zc bX9]; rfl
     have e2:w9.cell? ⟨P,2,none⟩=some (.int .i64 m.up):=by rw [Zc bX9]; rfl
     have hrun:Sem.run Tryz.prog (Builtin.append_ #[25,25] 25 #[.slice ao L.length co,.slice (some ⟨w4.heap.size,0,none⟩) 1 1]) (w4.alloc (.cells #[.bool true,.int .i64 m.fr,.int .i64 m.up,.slice ax m.gs.length cx] 38)) = .ok v' w9:=by rw [<- f1]; exact hrun0
     have HL2:Hid ((L ++ [((m,Value.slice ax m.gs.length cx):Mm)]).map (·.1) ++ JN (fun a=>ZZ s u (a:Int)) u.size gq (nxt m)=Jf s u):=by
      have:=HL.out
      simp only [JN,HFR.out] at this;show _ = _;rw [<- this];simp
     have HI2:Hid (MI w9 Z N0_ N0_/\Za (ExM Z) w w9):=⟨hM9,hKn⟩;obtain ⟨av,cv,hvf⟩:=Zd ho;subst hvf;simp only [List.length_append,List.length_singleton] at hMt hov2;have HLn:Hid ((L ++ [((m,Value.slice ax m.gs.length cx):Mm)]).length<=nxt m):=by
      show _<=_;rw [List.length_append,List.length_singleton];omega
     have HNx:Hid (u.size + 2<=nxt m + gq/\nxt m<=u.size + 1):=⟨by have:=HG.out; omega,f6⟩;have HUp:Hid (0<=m.up):=(by show (0:Int)<=m.up; omega);clear hrun0 ho hk9 hO4 hx4 hM4 hK4 HL HFR bX bX9 hM9 hKn f5 f6 f7 hov HG
     by_cases he:m.up=m.fr
     ·have hz2:(m.up == m.fr)=true:=by simp [he]
      have HN2:Hid (((nxt m:Nat):Int)=m.up + 1):=(by show _ = _; unfold nxt; rw [if_pos he]; have:=HUp.out; omega);clear he;go_wp2_with (refine Zk rfl _ _ _ _ rfl rfl _ _ _ _ rfl rfl hrun ?_);go_roundg gq
      case measure=>omega
      case rel=>exact ⟨nxt m,_,_,HNx.out.1,HNx.out.2,rfl,congrArg (Value.int .i64) HN2.out.symm,HLn.out,HL2,hMt,hov2,HI2⟩
     ·have hz2:(m.up == m.fr)=false:=by simp [he]
      have HN2:Hid (((nxt m:Nat):Int)=m.up):=(by show _ = _; unfold nxt; rw [if_neg he]; have:=HUp.out; omega);clear he;go_wp2_with (refine Zk rfl _ _ _ _ rfl rfl _ _ _ _ rfl rfl hrun ?_);go_roundg gq
      case measure=>omega
      case rel=>exact ⟨nxt m,_,_,HNx.out.1,HNx.out.2,rfl,congrArg (Value.int .i64) HN2.out.symm,HLn.out,HL2,hMt,hov2,HI2⟩
  ·have hz:¬ (a:Int)<=(u.size:Int):=by omega
   have HF:Hid (SaP (Jf s u) Z w (.returned (.slice ao L.length co)) wr):=by
    refine ⟨ao,L.length,co,L,rfl,?_,hO,hM,hK⟩
    have:=HL.out
    obtain ⟨gq,hgq⟩ :∃gq,gk=gq + 1:=⟨gk - 1,by have:=HG.out; omega⟩;rw [hgq] at this;simp only [JN] at this;rw [show u.size + 1 - a=0 by omega] at this;simp only [Qc,List.append_nil] at this;exact this
   clear HI hM hO hK HL;go_wp2_with fail;go_ret;exact HF.out
end Go.Proofs.YtfkflljplohhcaaGreatDoor
