import Derived.Test.YtfkflljplohhcaaGreatDoorRb
import Derived.Test.YtfkflljplohhcaaGreatDoorRc
import Derived.Test.YtfkflljplohhcaaGreatDoorTc
import Derived.Test.YtfkflljplohhcaaGreatDoorYn
import Derived.Test.YtfkflljplohhcaaGreatDoorRa
set_option maxHeartbeats 2000000
set_option maxRecDepth 100000
namespace Go.Proofs.YtfkflljplohhcaaGreatDoor
open Go.RowKit
set_option linter.unusedVariables false
theorem Zof {w:World} {s u t:ByteArray} {most:Int} (hw:wanted s u 0≠true) (ht:t.size<=1048576) (hh:Hdl w) :
  Calls Tryz.prog 7 #[.string s,.string u,.string t,.int .i64 most] w fun e w'=>e = .returned Zak/\Za N0_ w w':=by
 have hpn0 :∀(w:World),(binOp BinOp.eql 52 (.pointer none) (.pointer none)).run Tryz.prog w = .ok (.bool true) w:=fun _=>by kernel_rfl
 have k1:Za N0_ w ((w.alloc (.cells #[.string u] 9)).alloc (.cells #[.bool false,.string ⟨#[]⟩,.int .i64 0] 28)):=((Za.refl _ w).alloc _).alloc _;have bT:=Zbc w (.cells #[.string u] 9) (.cells #[.bool false,.string ⟨#[]⟩,.int .i64 0] 28);have bQ:=Zbi w (.cells #[.string u] 9) (.cells #[.bool false,.string ⟨#[]⟩,.int .i64 0] 28);have hh1:=hh.keeps k1 id;go_enter Tryz.func7,Tryz.ntmps7;go_upto_region 1 with fail;obtain ⟨P0,hP0⟩ :∃P0,w.heap.size=P0:=⟨_,rfl⟩;generalize ((w.alloc (.cells #[.string u] 9)).alloc (.cells #[.bool false,.string ⟨#[]⟩,.int .i64 0] 28))=w1 at k1 bT bQ hh1 ⊢;rw [hP0] at bT bQ ⊢;have cT:w1.cell? ⟨P0,0,none⟩=some (.string u):=by rw [Zc bT]; rfl
 have hsf:Calls Tryz.prog 18 #[.string s,.string u,.int .i64 0] w1 (fun e w2=>e = .returned (.pointer none)/\Za N0_ w1 w2):=by
  refine (Zav (F:=fun _=>False) (fun _ h=>h.elim)).mono ?_;rintro e w2 (⟨h1,rfl,h2⟩ | ⟨g,f,X2,h1,-⟩)
  ·exact ⟨rfl,h2⟩
  ·exact absurd h1 hw
 have HT:Hid (∀w2,Za N0_ w1 w2->Calls Tryz.prog 19 #[.string t] w2 (fun e w' =>∃(ok:Bool) (a:Int) (x:Option Addr) (y z:Nat),e = .returned (.agg #[.bool ok,.int .i64 a,.slice x y z])/\Za N0_ w2 w')):=fun w2 k2=>(Zbw t w2 ht (hh1.keeps k2 id)).mono (by
  rintro e w' ⟨v,rfl,hB,hk⟩;obtain ⟨a',c',hv⟩:=Zd hB;exact ⟨_,_,a',_,c',by rw [hv],hk⟩)
 go_upto_region 2 with (go_at_call 18; refine hsf.mono ?_; rintro e w2 ⟨rfl,k12⟩)
 have htp:=HT.out w2 k12;go_upto_region 3 with (go_at_call 19; refine htp.mono ?_; rintro e w3 ⟨ok,a,x,y,z,rfl,k23⟩);have k14:Za N0_ w1 (w3.alloc (.cells #[.bool ok,.int .i64 a,.slice x y z] 56)):=(k12.trans k23).alloc _;generalize w3.alloc (.cells #[.bool ok,.int .i64 a,.slice x y z] 56)=w4 at k14 ⊢;have bQ4:=(k14.block _ (lt_of_block bQ) id).trans bQ;have c0:w4.cell? ⟨P0 + 1,0,none⟩=some (.bool false):=by rw [Zc bQ4]; rfl
 have c1:w4.cell? ⟨P0 + 1,1,none⟩=some (.string ⟨#[]⟩):=by rw [Zc bQ4]; rfl
 have c2:w4.cell? ⟨P0 + 1,2,none⟩=some (.int .i64 0):=by rw [Zc bQ4]; rfl
 have cf :∀i,w4.frozen? ⟨P0 + 1,i,none⟩=false:=fun i=>Zv bQ4;have HK:Hid (∀b0 b1 b2,Za N0_ w (((w4.setCell ⟨P0 + 1,0,none⟩ b0).setCell ⟨P0 + 1,1,none⟩ b1).setCell ⟨P0 + 1,2,none⟩ b2)):=fun b0 b1 b2=>(k1.trans k14).trans' ((((Za.refl (fun k=>k=P0 + 1) w4).setCell (fun _=>rfl) _).setCell (fun _=>rfl) _).setCell (fun _=>rfl) _) (fun i hi e=>by omega);clear bQ4 k14 k1 k12 k23 bT bQ htp HT hsf;go_wp2;refine bodyPost_ret (v:=Zak) (by simp [Zak,results,Tryz.results7,go_sem,c0,c1,c2]) rfl ?_;exact ⟨rfl,HK.out _ _ _⟩
theorem ZfY {w:World} {s u t:ByteArray} {most:Int} (hw:wanted s u 0=true) (ht:t.size<=1048576) (hh:Hdl w) (hno:most < 0\/(∃x,ZF t = .error x)\/∃Bs,ZF t = .ok Bs/\∃g f,ZD s = .ok (g,f)/\∃b∈Bs,(g:Int) < b.1) :
  Calls Tryz.prog 7 #[.string s,.string u,.string t,.int .i64 most] w fun e w'=>e = .returned Zak/\Za N0_ w w':=by
 have hpn :∀(a:Addr) (w:World),(binOp BinOp.eql 52 (.pointer (some a)) (.pointer none)).run Tryz.prog w = .ok (.bool false) w:=fun _ _=>by kernel_rfl
 have k1:Za N0_ w ((w.alloc (.cells #[.string u] 9)).alloc (.cells #[.bool false,.string ⟨#[]⟩,.int .i64 0] 28)):=((Za.refl _ w).alloc _).alloc _;have bT:=Zbc w (.cells #[.string u] 9) (.cells #[.bool false,.string ⟨#[]⟩,.int .i64 0] 28);have bQ:=Zbi w (.cells #[.string u] 9) (.cells #[.bool false,.string ⟨#[]⟩,.int .i64 0] 28);have hh1:=hh.keeps k1 id;go_enter Tryz.func7,Tryz.ntmps7;go_upto_region 1 with fail;obtain ⟨P0,hP0⟩ :∃P0,w.heap.size=P0:=⟨_,rfl⟩;generalize ((w.alloc (.cells #[.string u] 9)).alloc (.cells #[.bool false,.string ⟨#[]⟩,.int .i64 0] 28))=w1 at k1 bT bQ hh1 ⊢;rw [hP0] at bT bQ ⊢;have cT:w1.cell? ⟨P0,0,none⟩=some (.string u):=by rw [Zc bT]; rfl
 have hsf:Calls Tryz.prog 18 #[.string s,.string u,.int .i64 0] w1 (fun e w2 =>∃X2,e = .returned (.pointer (some ⟨X2,0,none⟩))/\Hid (∃g f,ZD s = .ok (g,f)/\Zrw u g (smx u [] f) w1 N0_ X2 w2)/\Za N0_ w1 w2):=by
  refine (Zav (F:=fun _=>False) (fun _ h=>h.elim)).mono ?_;rintro e w2 (⟨h1,-⟩ | ⟨g,f,X2,h1,h2,rfl,h3⟩)
  ·rw [hw] at h1; cases h1
  ·exact ⟨X2,rfl,⟨g,f,h2,h3⟩,Za8 h3⟩
 go_upto_region 2 with (go_at_call 18; refine hsf.mono ?_; rintro e w2 ⟨X2,rfl,HM,k12⟩)
 clear hsf cT;have htp:=Zbw t w2 ht (hh1.keeps k12 id);unfold Zcm at htp;obtain ⟨nB,hnB⟩ :∃nB,(tL (ZF t)).length=nB:=⟨_,rfl⟩;have hn100:nB<=100:=by rw [<- hnB]; exact (Zkn t).1
 have htp2:Calls Tryz.prog 19 #[.string t] w2 (fun e w' =>∃aT cT,e = .returned (.agg #[.bool (tOk (ZF t)),.int .i64 (tAt (ZF t)),.slice aT nB cT])/\BR w' w2.heap.size (.slice aT nB cT) (tL (ZF t))/\Za N0_ w2 w'):=by
  refine htp.mono ?_;rintro e w' ⟨v,rfl,hB,hk⟩;obtain ⟨a',c',hv⟩:=Zd hB;subst hv;rw [hnB] at *;exact ⟨a',c',rfl,hB,hk⟩
 go_upto_region 3 with (go_at_call 19; refine htp2.mono ?_; rintro e w3 ⟨aT,cT,rfl,hB3,k23⟩)
 have k34:Za N0_ w3 (w3.alloc (.cells #[.bool (tOk (ZF t)),.int .i64 (tAt (ZF t)),.slice aT nB cT] 56)):=(Za.refl _ _).alloc _;have bTp:(w3.alloc (.cells #[.bool (tOk (ZF t)),.int .i64 (tAt (ZF t)),.slice aT nB cT] 56)).heap[w3.heap.size]? = some (.cells #[.bool (tOk (ZF t)),.int .i64 (tAt (ZF t)),.slice aT nB cT] 56 (0,0)):=heap_alloc_new _ _;have k24:=k23.trans k34;have hB4:=Zb hB3 k34 (fun _ _ h=>h);clear htp htp2 hh hh1 hB3 k23 k34;generalize w3.alloc (.cells #[.bool (tOk (ZF t)),.int .i64 (tAt (ZF t)),.slice aT nB cT] 56)=w4 at bTp k24 hB4 ⊢;generalize w3.heap.size=P10 at bTp ⊢;have HW:Hid (∀wx,Za N0_ w4 wx->wx.cell? ⟨P0 + 1,0,none⟩=some (.bool false)/\wx.cell? ⟨P0 + 1,1,none⟩=some (.string ⟨#[]⟩)/\wx.cell? ⟨P0 + 1,2,none⟩=some (.int .i64 0)/\(∀i,wx.frozen? ⟨P0 + 1,i,none⟩=false)/\Hid (∀b0 b1 b2,Za N0_ w (((wx.setCell ⟨P0 + 1,0,none⟩ b0).setCell ⟨P0 + 1,1,none⟩ b1).setCell ⟨P0 + 1,2,none⟩ b2))):=fun wx kx=>by
  have k1x:=(k12.trans k24).trans kx;have bQx:=(k1x.block _ (lt_of_block bQ) id).trans bQ;exact ⟨by rw [Zc bQx]; rfl,by rw [Zc bQx]; rfl,by rw [Zc bQx]; rfl,fun i=>Zv bQx,fun b0 b1 b2=>(k1.trans k1x).trans' ((((Za.refl (fun k=>k=P0 + 1) wx).setCell (fun _=>rfl) _).setCell (fun _=>rfl) _).setCell (fun _=>rfl) _) (fun i hi e=>by omega)⟩
 have c0:w4.cell? ⟨P10,0,none⟩=some (.bool (tOk (ZF t))):=by rw [Zc bTp]; rfl
 have c2:w4.cell? ⟨P10,2,none⟩=some (.slice aT nB cT):=by rw [Zc bTp]; rfl
 have hgrp:Calls Tryz.prog 20 #[.pointer (some ⟨X2,0,none⟩),.slice aT nB cT] w4 (fun e w' =>∃y:Bool,e = .returned (.bool y)/\Hid ((∃g f,ZD s = .ok (g,f)/\∃b∈tL (ZF t),(g:Int) < b.1)->y=false)/\Za N0_ w4 w'):=by
  obtain ⟨g,f,htr,hMd⟩:=HM.out;obtain ⟨C,kk,bg,B,mine,F',Fr',hCX,hCu,hCG,hres,hT,hS⟩:=hMd.ex;subst hCX;obtain ⟨A1,A2,eA,dA,⟨L0,hSe2,-⟩,-⟩:=id hres;obtain ⟨an,cn,hnn,-⟩:=hS.nn;have hXb4:=(k24.block C.X hSe2.lt id).trans hSe2;have hng:C.nn = .slice an g cn:=by rw [hnn]; rw [show (noS C.G).length=g by rw [<- hCG]; simp [noS]]
  refine (ZbN (G:=g) hB4 hXb4 (by rw [hng]; rfl) hnB (by omega)).mono ?_;rintro e w' ⟨rfl,hk⟩;refine ⟨_,rfl,?_,hk⟩;rintro ⟨g2,f2,h2,b,hb,hlt⟩;rw [htr] at h2
  cases h2
  have:Zff g (tL (ZF t))=true:=by
   unfold Zff;rw [List.any_eq_true];exact ⟨b,hb,by simpa using hlt⟩
  rw [this];rfl
 clear HM k12 k24 hB4 bTp bT bQ k1
 by_cases hok:tOk (ZF t)=true
 ·rw [hok] at c0;have hno2:most < 0\/∃g f,ZD s = .ok (g,f)/\∃b∈tL (ZF t),(g:Int) < b.1:=by
   rcases hno with h | ⟨x,h⟩ | ⟨Bs,h,g,f,h2,b,hb,h3⟩
   ·exact Or.inl h
   ·rw [h] at hok; cases hok
   ·refine Or.inr ⟨g,f,h2,b,?_,h3⟩;rw [h];exact hb
  rw [hok]
  rcases hno2 with hm | hfar
  ·clear hno hok;go_wp2_with (go_at_call 20; refine hgrp.mono ?_; rintro e w5 ⟨y,rfl,HY,k45⟩; obtain ⟨q0,q1,q2,qf,HK⟩:=HW.out w5 k45; cases y)
   all_goals refine bodyPost_ret (v:=Zak) (by simp [Zak,results,Tryz.results7,go_sem,q0,q1,q2]) rfl ?_
   all_goals exact ⟨rfl,HK.out _ _ _⟩
  ·have hgrp2:Calls Tryz.prog 20 #[.pointer (some ⟨X2,0,none⟩),.slice aT nB cT] w4 (fun e w'=>e = .returned (.bool false)/\Za N0_ w4 w'):=hgrp.mono (by
    rintro e w' ⟨y,rfl,HY,hk⟩;exact ⟨by rw [HY.out hfar],hk⟩)
   clear hno hok hfar hgrp;go_wp2_with (go_at_call 20; refine hgrp2.mono ?_; rintro e w5 ⟨rfl,k45⟩; obtain ⟨q0,q1,q2,qf,HK⟩:=HW.out w5 k45);refine bodyPost_ret (v:=Zak) (by simp [Zak,results,Tryz.results7,go_sem,q0,q1,q2]) rfl ?_;exact ⟨rfl,HK.out _ _ _⟩
 ·rw [show tOk (ZF t)=false by simpa using hok] at c0 ⊢;obtain ⟨q0,q1,q2,qf,HK⟩:=HW.out w4 (Za.refl _ _);clear hgrp HW hno hok;go_wp2;refine bodyPost_ret (v:=Zak) (by simp [Zak,results,Tryz.results7,go_sem,q0,q1,q2]) rfl ?_;exact ⟨rfl,HK.out _ _ _⟩
theorem Zdo {w:World} {ok:Bool} {x:ByteArray} {n:Int}:Calls Tryz.prog 13 #[.agg #[.bool ok,.string x,.int .i64 n],.agg #[.bool ok,.string x,.int .i64 n]] w fun e w'=>e = .returned (.bool true)/\Za N0_ w w':=by
 have b1:=Zbc w (.cells #[.bool ok,.string x,.int .i64 n] 28) (.cells #[.bool ok,.string x,.int .i64 n] 28);have b2:=Zbi w (.cells #[.bool ok,.string x,.int .i64 n] 28) (.cells #[.bool ok,.string x,.int .i64 n] 28);have k2:Za N0_ w ((w.alloc (.cells #[.bool ok,.string x,.int .i64 n] 28)).alloc (.cells #[.bool ok,.string x,.int .i64 n] 28)):=((Za.refl _ _).alloc _).alloc _;go_enter Tryz.func13,Tryz.ntmps13;go_upto_region 1 with fail;generalize ((w.alloc (.cells #[.bool ok,.string x,.int .i64 n] 28)).alloc (.cells #[.bool ok,.string x,.int .i64 n] 28))=W at *;generalize w.heap.size=P at *;have c0:W.cell? ⟨P,0,none⟩=some (.bool ok):=by rw [Zc b1]; rfl
 have c1:W.cell? ⟨P,1,none⟩=some (.string x):=by rw [Zc b1]; rfl
 have c2:W.cell? ⟨P,2,none⟩=some (.int .i64 n):=by rw [Zc b1]; rfl
 have d0:W.cell? ⟨P + 1,0,none⟩=some (.bool ok):=by rw [Zc b2]; rfl
 have d1:W.cell? ⟨P + 1,1,none⟩=some (.string x):=by rw [Zc b2]; rfl
 have d2:W.cell? ⟨P + 1,2,none⟩=some (.int .i64 n):=by rw [Zc b2]; rfl
 clear b1 b2;go_wp2;go_ret;exact ⟨rfl,k2⟩
def ZsE (ok:Bool) (x:ByteArray) (n:Nat) (w:World) (e:Ending) (w':World):Prop:=e = .returned (.agg #[.bool ok,.string x,.int .i64 (n:Int)])/\Za N0_ w w'
theorem Zn6 {w:World} {s u t x:ByteArray} {most:Int} {ok:Bool} {n:Nat} (h0:s.size<=maxLen) (h1:u.size<=maxLen) (h2:t.size<=maxLen) (hh:Hdl w)
  (hsp:s.size<=1048576->u.size<=1048576->t.size<=1048576->∀w,Calls Tryz.prog 11 #[.string s,.string u,.string t,.int .i64 most] w (ZsE ok x n w))
  (him:s.size<=1048576->u.size<=1048576->t.size<=1048576->∀w,Hdl w->Calls Tryz.prog 7 #[.string s,.string u,.string t,.int .i64 most] w (ZsE ok x n w)) :
  Calls Tryz.prog 4 #[.string s,.string u,.string t,.int .i64 most] w fun e w'=>e = .returned (.bool true)/\Za N0_ w w':=by
 unfold maxLen at h0 h1 h2;go_enter Tryz.func4,Tryz.ntmps4
 by_cases hs:s.size<=1048576
 ·by_cases hu:u.size<=1048576
  ·by_cases ht:t.size<=1048576
   ·have Hsp:Hid _:=hsp hs hu ht;have Him:Hid _:=him hs hu ht;clear hsp him;have hc1:=Hsp.out w;go_upto_region 8 with (go_at_call 11; refine hc1.mono ?_; rintro e w1 ⟨rfl,hk1⟩);have kA:Za N0_ w (w1.alloc (.cells #[.bool ok,.string x,.int .i64 (n:Int)] 28)):=hk1.alloc _;have b1:=heap_alloc_new w1 (.cells #[.bool ok,.string x,.int .i64 (n:Int)] 28);clear hc1 hk1;generalize w1.alloc (.cells #[.bool ok,.string x,.int .i64 (n:Int)] 28)=w2 at kA b1 ⊢;generalize w1.heap.size=P1 at b1 ⊢;have hc2:=Him.out w2 (hh.keeps kA id);go_upto_region 9 with (go_at_call 7; refine hc2.mono ?_; rintro e w3 ⟨rfl,hk3⟩);have kB:Za N0_ w2 (w3.alloc (.cells #[.bool ok,.string x,.int .i64 (n:Int)] 28)):=hk3.alloc _;have b3:=heap_alloc_new w3 (.cells #[.bool ok,.string x,.int .i64 (n:Int)] 28);have b2:=(kB.block P1 (lt_of_block b1) id).trans b1;have kT:=kA.trans kB;clear hc2 hk3 kA kB b1;generalize w3.alloc (.cells #[.bool ok,.string x,.int .i64 (n:Int)] 28)=w4 at kT b2 b3 ⊢;generalize w3.heap.size=P3 at b3 ⊢;have c0:w4.cell? ⟨P1,0,none⟩=some (.bool ok):=by rw [Zc b2]; rfl
    have c1:w4.cell? ⟨P1,1,none⟩=some (.string x):=by rw [Zc b2]; rfl
    have c2:w4.cell? ⟨P1,2,none⟩=some (.int .i64 (n:Int)):=by rw [Zc b2]; rfl
    have d0:w4.cell? ⟨P3,0,none⟩=some (.bool ok):=by rw [Zc b3]; rfl
    have d1:w4.cell? ⟨P3,1,none⟩=some (.string x):=by rw [Zc b3]; rfl
    have d2:w4.cell? ⟨P3,2,none⟩=some (.int .i64 (n:Int)):=by rw [Zc b3]; rfl
    have heq:=Zdo (w:=w4) (ok:=ok) (x:=x) (n:=(n:Int));clear b2 b3 Hsp Him hh;go_wp2_with (go_at_call 13; refine heq.mono ?_; rintro e w5 ⟨rfl,hk5⟩);go_ret;exact ⟨rfl,kT.trans hk5⟩
   ·clear hsp him hh;go_wp2;go_ret;exact ⟨rfl,Za.refl _ _⟩
  ·clear hsp him hh;go_wp2;go_ret;exact ⟨rfl,Za.refl _ _⟩
 ·clear hsp him hh;go_wp2;go_ret;exact ⟨rfl,Za.refl _ _⟩
end Go.Proofs.YtfkflljplohhcaaGreatDoor
