import Derived.Test.YtfkflljplohhcaaGreatDoorNa
import Derived.Test.YtfkflljplohhcaaGreatDoorTd
import Derived.Test.YtfkflljplohhcaaGreatDoorRf
set_option linter.unusedVariables false
set_option maxHeartbeats 2000000
set_option maxRecDepth 100000
namespace Go.Proofs.YtfkflljplohhcaaGreatDoor
open Go.RowKit
variable {w:World}{s u t:ByteArray}{most:Int}{g:Nat}
theorem Zpu(hw:wanted s u 0≠true)(ht:t.size<=1048576)(hh:lZ w):
  au 7 #[.string s,.string u,.string t,.int .i64 most] w fun e w'=>e=.returned j6/\Za ai w w':=by
 have xg:∀(w:World),(binOp BinOp.eql 52 (.pointer none) (.pointer none)).run Tryz.prog w=.ok (.bool true) w:=fun _=>by kernel_rfl
 have k1:Za ai w ((w.alloc (.cells #[.string u] 9)).alloc (.cells #[.bool false,.string ⟨#[]⟩,.int .i64 0] 28)):=((Za.refl _ w).alloc _).alloc _;have bT:=fU w (.cells #[.string u] 9) (.cells #[.bool false,.string ⟨#[]⟩,.int .i64 0] 28);have bQ:=gH w (.cells #[.string u] 9) (.cells #[.bool false,.string ⟨#[]⟩,.int .i64 0] 28);have oP:=hh.keeps k1 id;go_enter Tryz.func7,Tryz.ntmps7;go_upto_region 1 with fail;obtain⟨P0,iL⟩:∃P0,w.heap.size=P0:=⟨_,rfl⟩;generalize ((w.alloc (.cells #[.string u] 9)).alloc (.cells #[.bool false,.string ⟨#[]⟩,.int .i64 0] 28))=w1 at k1 bT bQ oP ⊢;rw[iL] at bT bQ ⊢;have cT:w1.cell? (ak P0)=some (.string u):=by rw[Zc bT];rfl
 have qd:au 18 #[.string s,.string u,.int .i64 0] w1 (fun e w2=>e=.returned (.pointer none)/\Za ai w1 w2):=by
  refine(JJ (F:=fun _=>False) (fun _ h=>h.elim)).mono ?_;rintro e w2 (⟨h1,rfl,h2⟩ | ⟨g,f,X2,h1,-⟩)
  ·exact⟨rfl,h2⟩
  ·exact absurd h1 hw
 have HT:Hid (∀w2,Za ai w1 w2->au 19 #[.string t] w2 (fun e w' =>∃(ok:Bool) (a:Int) (x:Option Addr) (y z:Nat),e=.returned (.agg #[.bool ok,.int .i64 a,.slice x y z])/\Za ai w2 w')):=fun w2 k2=>(Uz t w2 ht (oP.keeps k2 id)).mono (by
  rintro e w' ⟨v,rfl,hB,hk⟩;obtain⟨a',c',hv⟩:=aj hB;exact⟨_,_,a',_,c',by rw[hv],hk⟩)
 go_upto_region 2 with(go_at_call 18;refine qd.mono ?_;rintro e w2 ⟨rfl,k12⟩)
 have htp:=HT.out w2 k12;go_upto_region 3 with(go_at_call 19;refine htp.mono ?_;rintro e w3 ⟨ok,a,x,y,z,rfl,k23⟩);have k14:Za ai w1 (w3.alloc (.cells #[.bool ok,.int .i64 a,.slice x y z] 56)):=(k12.trans k23).alloc _;generalize w3.alloc (.cells #[.bool ok,.int .i64 a,.slice x y z] 56)=w4 at k14 ⊢;have nk:=(k14.block _ (lt_of_block bQ) id).trans bQ;have c0:w4.cell? ⟨P0+1,0,none⟩=some (.bool false):=by rw[Zc nk];rfl
 have c1:w4.cell? ⟨P0+1,1,none⟩=some (.string ⟨#[]⟩):=by rw[Zc nk];rfl
 have c2:w4.cell? ⟨P0+1,2,none⟩=some (.int .i64 0):=by rw[Zc nk];rfl
 have cf:∀i,w4.frozen? ⟨P0+1,i,none⟩=false:=fun i=>Zv nk;have HK:Hid (∀b0 b1 b2,Za ai w (((w4.setCell ⟨P0+1,0,none⟩ b0).setCell ⟨P0+1,1,none⟩ b1).setCell ⟨P0+1,2,none⟩ b2)):=fun b0 b1 b2=>(k1.trans k14).trans' ((((Za.refl (fun k=>k=P0+1) w4).setCell (fun _=>rfl) _).setCell (fun _=>rfl) _).setCell (fun _=>rfl) _) (fun i hi e=>by omega);clear nk k14 k1 k12 k23 bT bQ htp HT qd;go_wp2;refine bodyPost_ret (v:=j6) (by simp[j6,results,Tryz.results7,go_sem,c0,c1,c2]) rfl ?_;exact⟨rfl,HK.out _ _ _⟩
theorem Zgv(hw:wanted s u 0=true)(ht:t.size<=1048576)(hh:lZ w)(hno:most<0\/(∃x,ZF t=.error x)\/∃Bs,ZF t=.ok Bs/\∃g f,ZA s=.ok (g,f)/\∃b∈Bs,(g:Int)<b.1):
  au 7 #[.string s,.string u,.string t,.int .i64 most] w fun e w'=>e=.returned j6/\Za ai w w':=by
 have hpn:∀(a:Addr) (w:World),(binOp BinOp.eql 52 (.pointer (some a)) (.pointer none)).run Tryz.prog w=.ok (.bool false) w:=fun _ _=>by kernel_rfl
 have k1:Za ai w ((w.alloc (.cells #[.string u] 9)).alloc (.cells #[.bool false,.string ⟨#[]⟩,.int .i64 0] 28)):=((Za.refl _ w).alloc _).alloc _;have bT:=fU w (.cells #[.string u] 9) (.cells #[.bool false,.string ⟨#[]⟩,.int .i64 0] 28);have bQ:=gH w (.cells #[.string u] 9) (.cells #[.bool false,.string ⟨#[]⟩,.int .i64 0] 28);have oP:=hh.keeps k1 id;go_enter Tryz.func7,Tryz.ntmps7;go_upto_region 1 with fail;obtain⟨P0,iL⟩:∃P0,w.heap.size=P0:=⟨_,rfl⟩;generalize ((w.alloc (.cells #[.string u] 9)).alloc (.cells #[.bool false,.string ⟨#[]⟩,.int .i64 0] 28))=w1 at k1 bT bQ oP ⊢;rw[iL] at bT bQ ⊢;have cT:w1.cell? (ak P0)=some (.string u):=by rw[Zc bT];rfl
 have qd:au 18 #[.string s,.string u,.int .i64 0] w1 (fun e w2 =>∃X2,e=.returned ((ae X2))/\Hid (∃g f,ZA s=.ok (g,f)/\BC u g (dx u [] f) w1 ai X2 w2)/\Za ai w1 w2):=by
  refine(JJ (F:=fun _=>False) (fun _ h=>h.elim)).mono ?_;rintro e w2 (⟨h1,-⟩ | ⟨g,f,X2,h1,h2,rfl,h3⟩)
  ·rw[hw] at h1;cases h1
  ·exact⟨X2,rfl,⟨g,f,h2,h3⟩,IG h3⟩
 go_upto_region 2 with(go_at_call 18;refine qd.mono ?_;rintro e w2 ⟨X2,rfl,HM,k12⟩)
 clear qd cT;have htp:=Uz t w2 ht (oP.keeps k12 id);unfold DZ at htp;obtain⟨nB,iU⟩:∃nB,(tL (ZF t)).length=nB:=⟨_,rfl⟩;have uf:nB<=100:=by rw[<- iU];exact(Sv t).1
 have qI:au 19 #[.string t] w2 (fun e w' =>∃aT cT,e=.returned (.agg #[.bool (wH (ZF t)),.int .i64 (Cv (ZF t)),.slice aT nB cT])/\BR w' w2.heap.size (.slice aT nB cT) (tL (ZF t))/\Za ai w2 w'):=by
  refine htp.mono ?_;rintro e w' ⟨v,rfl,hB,hk⟩;obtain⟨a',c',hv⟩:=aj hB;subst hv;rw[iU] at *;exact⟨a',c',rfl,hB,hk⟩
 go_upto_region 3 with(go_at_call 19;refine qI.mono ?_;rintro e w3 ⟨aT,cT,rfl,hB3,k23⟩)
 have zX:Za ai w3 (w3.alloc (.cells #[.bool (wH (ZF t)),.int .i64 (Cv (ZF t)),.slice aT nB cT] 56)):=QT;have ru:(w3.alloc (.cells #[.bool (wH (ZF t)),.int .i64 (Cv (ZF t)),.slice aT nB cT] 56)).heap[w3.heap.size]?=some (.cells #[.bool (wH (ZF t)),.int .i64 (Cv (ZF t)),.slice aT nB cT] 56 (0,0)):=heap_alloc_new _ _;have k24:=k23.trans zX;have hB4:=Zb hB3 zX (fun _ _ h=>h);clear htp qI hh oP hB3 k23 zX;generalize w3.alloc (.cells #[.bool (wH (ZF t)),.int .i64 (Cv (ZF t)),.slice aT nB cT] 56)=w4 at ru k24 hB4 ⊢;generalize w3.heap.size=uW at ru ⊢;have HW:Hid (∀wx,Za ai w4 wx->wx.cell? ⟨P0+1,0,none⟩=some (.bool false)/\wx.cell? ⟨P0+1,1,none⟩=some (.string ⟨#[]⟩)/\wx.cell? ⟨P0+1,2,none⟩=some (.int .i64 0)/\(∀i,wx.frozen? ⟨P0+1,i,none⟩=false)/\Hid (∀b0 b1 b2,Za ai w (((wx.setCell ⟨P0+1,0,none⟩ b0).setCell ⟨P0+1,1,none⟩ b1).setCell ⟨P0+1,2,none⟩ b2))):=fun wx kx=>by
  have VN:=(k12.trans k24).trans kx;have K7:=(VN.block _ (lt_of_block bQ) id).trans bQ;exact⟨by rw[Zc K7];rfl,by rw[Zc K7];rfl,by rw[Zc K7];rfl,fun i=>Zv K7,fun b0 b1 b2=>(k1.trans VN).trans' ((((Za.refl (fun k=>k=P0+1) wx).setCell (fun _=>rfl) _).setCell (fun _=>rfl) _).setCell (fun _=>rfl) _) (fun i hi e=>by omega)⟩
 have c0:w4.cell? (ak uW)=some (.bool (wH (ZF t))):=by rw[Zc ru];rfl
 have c2:w4.cell? ⟨uW,2,none⟩=some (.slice aT nB cT):=by rw[Zc ru];rfl
 have oQ:au 20 #[ae X2,.slice aT nB cT] w4 (fun e w' =>∃y:Bool,e=.returned (.bool y)/\Hid ((∃g f,ZA s=.ok (g,f)/\∃b∈tL (ZF t),(g:Int)<b.1)->y=false)/\Za ai w4 w'):=by
  obtain⟨g,f,htr,o7⟩:=HM.out;obtain⟨C,kk,bg,B,mine,F',aM,Bf,nV,qY,hres,hT,hS⟩:=o7.ex;subst Bf;obtain⟨A1,A2,eA,dA,⟨L0,qU,-⟩,-⟩:=id hres;obtain⟨an,cn,hnn,-⟩:=hS.nn;have xy:=(k24.block C.X qU.lt id).trans qU;have FZ:C.nn=.slice an g cn:=by rw[hnn];rw[show (eG C.G).length=g by rw[<- qY];simp[eG]]
  refine(Zb1 (G:=g) hB4 xy (by rw[FZ];rfl) iU (by omega)).mono ?_;rintro e w' ⟨rfl,hk⟩;refine⟨_,rfl,?_,hk⟩;rintro⟨g2,f2,h2,b,hb,hlt⟩;rw[htr] at h2
  cases h2
  have:jZ g (tL (ZF t))=true:=by
   unfold jZ;rw[List.any_eq_true];exact⟨b,hb,by simpa using hlt⟩
  rw[this];rfl
 clear HM k12 k24 hB4 ru bT bQ k1
 by_cases hok:wH (ZF t)=true
 ·rw[hok] at c0;have OC:most<0\/∃g f,ZA s=.ok (g,f)/\∃b∈tL (ZF t),(g:Int)<b.1:=by
   rcases hno with h | ⟨x,h⟩ | ⟨Bs,h,g,f,h2,b,hb,h3⟩
   ·exact Or.inl h
   ·rw[h] at hok;cases hok
   ·refine Or.inr ⟨g,f,h2,b,?_,h3⟩;rw[h];exact hb
  rw[hok]
  rcases OC with hm | Gq
  ·clear hno hok;go_wp2_with(go_at_call 20;refine oQ.mono ?_;rintro e w5 ⟨y,rfl,HY,yJ⟩;obtain⟨q0,q1,q2,qf,HK⟩:=HW.out w5 yJ;cases y)
   all_goals refine bodyPost_ret (v:=j6) (by simp[j6,results,Tryz.results7,go_sem,q0,q1,q2]) rfl ?_
   all_goals exact⟨rfl,HK.out _ _ _⟩
  ·have Gp:au 20 #[ae X2,.slice aT nB cT] w4 (fun e w'=>e=.returned (.bool false)/\Za ai w4 w'):=oQ.mono (by
    rintro e w' ⟨y,rfl,HY,hk⟩;exact⟨by rw[HY.out Gq],hk⟩)
   clear hno hok Gq oQ;go_wp2_with(go_at_call 20;refine Gp.mono ?_;rintro e w5 ⟨rfl,yJ⟩;obtain⟨q0,q1,q2,qf,HK⟩:=HW.out w5 yJ);refine bodyPost_ret (v:=j6) (by simp[j6,results,Tryz.results7,go_sem,q0,q1,q2]) rfl ?_;exact⟨rfl,HK.out _ _ _⟩
 ·rw[show wH (ZF t)=false by simpa using hok] at c0 ⊢;obtain⟨q0,q1,q2,qf,HK⟩:=HW.out w4 (Za.refl _ _);clear oQ HW hno hok;go_wp2;refine bodyPost_ret (v:=j6) (by simp[j6,results,Tryz.results7,go_sem,q0,q1,q2]) rfl ?_;exact⟨rfl,HK.out _ _ _⟩
def yf (s u t:ByteArray) (most:Int):Bool×ByteArray×Nat :=
 match Ask s u,ZF t with
 | some (g,_),.ok B=>if 0<=most/\∀b∈B,b.1<=(g:Int) then (true,vz u B ((Z1 s u).take most.toNat),((Z1 s u).take most.toNat).length) else (false,⟨#[]⟩,0)
 | _,_=>(false,⟨#[]⟩,0)
def Lf (s u t:ByteArray) (most:Int) (w:World) (e:Ending) (w':World):Prop:=e=.returned (BD (yf s u t most))/\Za ai w w'
def Dy (g:Nat) (ps:List Pc) (u:ByteArray) (w:World) (R:Nat) (E:Nat->Prop):Prop :=∃Z,Z.R=R/\E=fo Z/\Mr w Z g ps u
variable {ps:List Pc}
theorem Dy.same{w':World}{R:Nat}{E:Nat->Prop}(h:Dy g ps u w R E)(k:Za ai w w'):Dy g ps u w' R E:=by
 obtain⟨Z,h1,h2,h3⟩:=h;exact⟨Z,h1,h2,⟨h3.ms,h3.Kz,h3.mi.same k,h3.eg,h3.KX,h3.eu,h3.len⟩⟩
theorem ZsV(h:Ask s u=some (g,ps)):lU u.size 0 (Z1 s u)/\(Z1 s u).length<=300/\(∀m∈Z1 s u,m.gs.length=g)/\g<=9:=by
 have hw:wanted s u 0=true:=by
  unfold Ask at h;unfold wanted;rw[JY] at h
  cases ht:ZA s with
  | error x=>rw[ht] at h;simp at h
  | ok gf =>
    obtain⟨g1,f1⟩:=gf;rw[ht] at h;simp at h;simp;omega
 cases ht:ZA s with
 | error x=>simp[wanted,ht] at hw
 | ok gf =>
   obtain⟨g1,f⟩:=gf;have hg:g1=g:=by
    unfold Ask at h;rw[JY,ht] at h;simp at h;exact h.2.1
   subst hg;obtain⟨hfg,dH,-,-⟩:=yo ht;have hX:dh u.size 0 g1 (dx u [] f):=zi u ⟨f,hfg,rfl⟩;have hu:=LZ h;obtain⟨j1,j2,j3⟩:=LM hX dH (u.size+2) 0 (Nat.zero_le _);rw[<- Uv hw ht] at j1 j2 j3;exact⟨j1,by omega,j3,dH⟩
theorem ZoE(hs:s.size<=1048576)(hu:u.size<=1048576)(ht:t.size<=1048576)(hm:most<=9223372036854775807):au 11 #[.string s,.string u,.string t,.int .i64 most] w (Lf s u t most w):=by
 unfold Lf yf;have hof:=fun w=>ZiU (w:=w) hs hu;unfold Lr at hof;have htp:=fun w=>Zhd t w ht;have cZ:=Sv t;unfold DZ at htp
 cases ha:Ask s u with
 | none =>
   rw[ha] at hof;simp only at hof;refine(SH (okv:=false) (Or.inl rfl) (fun w=>(hof w).mono (by rintro e w2 ⟨R,rfl,hk⟩;exact⟨_,rfl,hk⟩)) (fun w=>(htp w).mono (by rintro e w2 ⟨v,rfl,hB,hk⟩;obtain⟨a',c',hv⟩:=aj hB;exact⟨a',_,c',by rw[hv],hk⟩))).mono (fun e w' h=>⟨h.1,h.2⟩)
 | some gp =>
   obtain⟨g,ps⟩:=gp;rw[ha] at hof;simp only at hof;have il:∀w,au 16 #[.string s,.string u] w fun e w2 =>∃R E,e=.returned (.tuple #[ae R,.bool true])/\Dy g ps u w2 R E/\(∀k,E k->w.heap.size<=k/\k<w2.heap.size)/\Za ai w w2:=fun w=>(hof w).mono (by
    rintro e w2 ⟨Z,rfl,h1,h2,h3⟩;refine⟨Z.R,fo Z,rfl,⟨Z,rfl,rfl,h1⟩,fun k hk=>?_,h3⟩;obtain⟨dn,lv,t1,t2,-⟩:=h1.mi.tab
    rcases hk with rfl | rfl
    ·exact⟨h2.1,lt_of_block t1⟩
    ·exact⟨h2.2,lt_of_block t2⟩)
   obtain⟨hO,hlen,hgl,dH⟩:=ZsV ha;have hus:=LZ ha
   cases hT:ZF t with
   | error x =>
     rw[hT] at htp;exact(SH (okv:=true) (tb:=false) (Or.inr (Or.inl rfl)) (fun w=>(il w).mono (by rintro e w2 ⟨R,E,rfl,-,-,hk⟩;exact⟨_,rfl,hk⟩)) (fun w=>(htp w).mono (by rintro e w2 ⟨v,rfl,hB,hk⟩;obtain⟨a',c',hv⟩:=aj hB;exact⟨a',_,c',by rw[hv];rfl,hk⟩))).mono (fun e w' h=>⟨h.1,h.2⟩)
   | ok B =>
     rw[hT] at htp cZ;have qI:∀w,au 29 #[.string t] w fun e w' =>∃v,e=.returned (.agg #[.bool true,.int .i64 0,v])/\BR w' w.heap.size v B/\Za ai w w':=htp
     by_cases hm0:0<=most
     ·by_cases hB:∀b∈B,b.1<=(g:Int)
      ·dsimp only
       rw[if_pos ⟨hm0,hB⟩];refine ZoC (Mach:=Dy g ps u) il qI (fun w w' R E h k=>h.same k) (fun w R E h=>?_) (fun w R E h=>?_) hus hlen hO hgl dH cZ.1 (fun b hb=>⟨cZ.2 b hb,hB b hb⟩) hm0 hm
       ·obtain⟨Z,rfl,rfl,h3⟩:=h
        have:=h3.mi.mc
        rw[<- h3.eg];unfold Mc at this;rw[Zc this];rfl
       ·obtain⟨Z,rfl,rfl,h3⟩:=h;refine(Xt ha h3).mono ?_;rintro e w' ⟨ao,n,c,L,rfl,h4,h5,-,h6⟩;exact⟨ao,n,c,L,rfl,h4,h5,h6⟩
      ·dsimp only
       rw[if_neg (fun h=>hB h.2)];have hB2:∃b∈B,(g:Int)<b.1:=by
        apply Decidable.byContradiction;intro hn;exact hB (fun b hb=>Decidable.byContradiction fun hn2=>hn ⟨b,hb,by omega⟩)
       refine(ZoD (Mach:=fun w R =>∃E,Dy g ps u w R E) (fun w=>(il w).mono (by rintro e w2 ⟨R,E,rfl,hM,-,hk⟩;exact⟨R,rfl,⟨E,hM⟩,hk⟩)) qI (fun w w' R h k=>by obtain⟨E,h⟩:=h;exact⟨E,h.same k⟩) (fun w R h=>?_) cZ.1 hB2 dH hm0).mono (fun e w' h=>⟨h.1,h.2⟩);obtain⟨E,Z,rfl,rfl,h3⟩:=h
       have:=h3.mi.mc
       rw[<- h3.eg];unfold Mc at this;rw[Zc this];rfl
     ·dsimp only
      rw[if_neg (fun h=>hm0 h.1)];exact(SH (okv:=true) (tb:=true) (Or.inr (Or.inr (by omega))) (fun w=>(il w).mono (by rintro e w2 ⟨R,E,rfl,-,-,hk⟩;exact⟨_,rfl,hk⟩)) (fun w=>(qI w).mono (by rintro e w2 ⟨v,rfl,hB,hk⟩;obtain⟨a',c',hv⟩:=aj hB;exact⟨a',_,c',by rw[hv],hk⟩))).mono (fun e w' h=>⟨h.1,h.2⟩)
theorem ZeG{f:Pf}(ht:ZA s=.ok (g,f))(hw:wanted s u 0=true):∃ps,Ask s u=some (g,ps):=by
 unfold Ask;rw[JY,ht];unfold wanted at hw;rw[ht] at hw;simp at hw;simp;omega
theorem ZsU(hw:wanted s u 0≠true):Ask s u=none:=by
 cases ha:Ask s u with
 | none=>rfl
 | some gp =>
   exfalso;apply hw;unfold Ask at ha;rw[JY] at ha;unfold wanted
   cases ht:ZA s with
   | error x=>rw[ht] at ha;simp at ha
   | ok gf=>rw[ht] at ha;simp at ha;simp;omega
theorem Zpv(ht:t.size<=1048576)(hm:most<=9223372036854775807)(hh:lZ w):au 7 #[.string s,.string u,.string t,.int .i64 most] w (Lf s u t most w):=by
 unfold Lf yf
 by_cases hw:wanted s u 0=true
 ·cases htr:ZA s with
  | error x=>simp[wanted,htr] at hw
  | ok gf =>
    obtain⟨g,f⟩:=gf;obtain⟨ps,ha⟩:=ZeG htr hw;rw[ha]
    cases hT:ZF t with
    | error x=>exact(Zgv hw ht hh (Or.inr (Or.inl ⟨x,hT⟩))).mono (fun e w' h=>⟨h.1,h.2⟩)
    | ok Bs =>
      dsimp only
      by_cases hc:0<=most/\∀b∈Bs,b.1<=(g:Int)
      ·rw[if_pos hc];obtain⟨M,rfl⟩:∃M:Nat,most=(M:Int):=⟨most.toNat,by omega⟩;exact Zpt hw hT (fun g' f' h'=>by rw[htr] at h';cases h';exact hc.2) hm ht hh
      ·rw[if_neg hc];refine(Zgv hw ht hh ?_).mono (fun e w' h=>⟨h.1,h.2⟩)
       by_cases hm0:most<0
       ·exact Or.inl hm0
       ·refine Or.inr (Or.inr ⟨Bs,hT,g,f,htr,?_⟩);apply Decidable.byContradiction;intro hn;exact hc ⟨by omega,fun b hb=>Decidable.byContradiction fun hn2=>hn ⟨b,hb,by omega⟩⟩
 ·rw[ZsU hw];exact(Zpu hw ht hh).mono (fun e w' h=>⟨h.1,h.2⟩)
end Go.Proofs.YtfkflljplohhcaaGreatDoor
