import Derived.Test.YtfkflljplohhcaaGreatDoorYe
set_option maxHeartbeats 1000000
set_option maxRecDepth 100000
namespace Go.Proofs.YtfkflljplohhcaaGreatDoor
open Go.RowKit
set_option linter.unusedVariables false
def noS (n:Nat):Rs:=List.replicate n (-1,-1)
def ovk (k:Nat) (gs ls:Rs):Rs:=gs.mapIdx fun i x=>if i < k then (match ls[i]? with | some y=>if psd y.1 y.2 then y else x | none=>x) else x
theorem ZnT (gs ls:Rs):ovk 0 gs ls=gs:=by
 apply List.ext_getElem
 ·simp [ovk]
 ·intro i h1 h2; simp [ovk]
theorem ZqA (k:Nat) (gs ls:Rs):(ovk k gs ls).length=gs.length:=by simp [ovk]
theorem ZrW {k:Nat} {gs ls:Rs} (h:k < ls.length) (hp:psd ls[k].1 ls[k].2=false):ovk (k + 1) gs ls=ovk k gs ls:=by
 apply List.ext_getElem
 ·simp [ovk]
 ·intro i h1 h2;simp only [ovk,List.getElem_mapIdx]
  by_cases hi:i < k
  ·rw [if_pos hi,if_pos (by omega)]
  ·rw [if_neg hi]
   by_cases hi2:i=k
   ·subst hi2;rw [if_pos (by omega),List.getElem?_eq_getElem h];simp [hp]
   ·rw [if_neg (by omega)]
theorem Zqz {k:Nat} {gs ls:Rs} (h:k < ls.length) (hp:psd ls[k].1 ls[k].2=true):ovk (k + 1) gs ls=(ovk k gs ls).set k ls[k]:=by
 apply List.ext_getElem
 ·simp [ovk]
 ·intro i h1 h2
  by_cases hi2:i=k
  ·subst hi2;simp only [List.getElem_set_self,ovk,List.getElem_mapIdx];rw [if_pos (by omega),List.getElem?_eq_getElem h];simp [hp]
  ·rw [List.getElem_set_ne (Ne.symm hi2)];simp only [ovk,List.getElem_mapIdx]
   by_cases hi:i < k
   ·rw [if_pos hi,if_pos (by omega)]
   ·rw [if_neg hi,if_neg (by omega)]
theorem ZnP (a b:Nat):psd (a:Int) (b:Int)=true:=by
 unfold psd
 have:((a:Int) == -1)=false:=by simp
 simp [this]
theorem Zej (e:Ef) (n i:Nat) (h:i < n):(ap e (noS n))[i]? = some (match e i with | none=>(-1,-1) | some v=>((v.1:Int),(v.2:Int))):=by
 simp [ap,noS,h]
 cases e i <;> rfl
theorem ZpF (e:Ef) (gs:Rs):ovk gs.length gs (ap e (noS gs.length))=ap e gs:=by
 apply List.ext_getElem
 ·simp [ovk,ap]
 ·intro i h1 h2;have hi:i < gs.length:=by simpa [ovk] using h1
  simp only [ovk,List.getElem_mapIdx];rw [if_pos hi,Zej e _ _ hi];simp only [ap,List.getElem_mapIdx]
  cases e i with
  | none=>simp [psd]
  | some v=>simp [ZnP]
theorem Zsz (e:Ef) (gs:Rs) (h:Zek (ap e (noS gs.length))=false):ap e gs=gs:=by
 rw [<- ZpF];apply List.ext_getElem
 ·simp [ovk]
 ·intro i h1 h2;simp only [ovk,List.getElem_mapIdx];rw [if_pos h2]
  cases hx:(ap e (noS gs.length))[i]? with
  | none=>rfl
  | some y =>
    obtain ⟨hi,rfl⟩:=List.getElem?_eq_some_iff.1 hx
    have:=fun hp=>ZiH hi hp
    rw [h] at this;simp only;rw [if_neg (fun hp=>by simpa using this hp)]
theorem ZjB (l:Rs) (k:Nat) (x y:Int) (h:k < l.length):((ZB l).set (k * 2) (.int .i64 x)).set (k * 2 + 1) (.int .i64 y)=ZB (l.set k (x,y)):=by
 induction l generalizing k with
 | nil=>simp at h
 | cons r l ih =>
   cases k with
   | zero=>simp [QH]
   | succ k =>
     rw [QH,show (k + 1) * 2=k * 2 + 2 by omega,show k * 2 + 2 + 1=(k * 2 + 1) + 2 by omega];simp only [List.set_cons_succ];rw [ih k (by simpa using h),QH]
theorem ZqB {w:World} {F:Bs2} {g n cg:Nat} {gs ls:Rs} {ao:Option Addr} {cap:Nat} (hg:w.ownsRow 0 118 2 (.slice (some ⟨g,0,none⟩) n cg) n (ZB gs)) (h:SpI w F (.slice ao n cap) ls) (hn:ls.length=n) (hgn:gs.length=n) (hl:n<=1000) (h0:0 < n) (ha:Zek ls=true) :
  Calls Tryz.prog 113 #[.slice (some ⟨g,0,none⟩) n cg,.slice ao n cap] w fun e w' =>∃g1 c1,e = .returned (.slice (some ⟨g1,0,none⟩) n c1)/\w'.ownsRow w.heap.size 118 2 (.slice (some ⟨g1,0,none⟩) n c1) n (ZB (ovk n gs ls))/\Za N0_ w w':=by
 have hcon:=Zcw h hn hl;rw [ha] at hcon;have HN:Hid (ls.length=n):=hn;have HG0:Hid (gs.length=n):=hgn;clear hn hgn ha;go_enter Tryz.func113,Tryz.ntmps113;go_wp2_with (first
  | (go_at_call 141; refine hcon.mono ?_; rintro e w2 ⟨rfl,hk2⟩; have hcl:=ZbQ (Zb hg hk2 (fun _ _ h=>h)) HG0.out hl h0)
  | (go_at_call 91; refine hcl.mono ?_; rintro e w3 ⟨g1,c1,rfl,hr3,hk3⟩))
 have hk13:=hk2.trans hk3;have hr30:=Zr (base':=w.heap.size) hr3 (fun k hk=>Nat.le_trans hk2.size (hr3.lt k hk).1);have hlo:w.heap.size<=g1:=(hr30.lt g1 rfl).1;clear hcon hcl hr3 hk2 hk3 hg;go_loopg [6,7,16] (n + 1) (fun gl _ _ s16 wr =>∃k:Nat,k + gl=n + 1/\k<=n/\s16 = .int .i64 (k:Int)/\wr.ownsRow w.heap.size 118 2 (.slice (some ⟨g1,0,none⟩) n c1) n (ZB (ovk k gs ls))/\Za N0_ w wr)
 case atStart=>exact ⟨0,by omega,by omega,rfl,by rw [ZnT]; exact hr30,hk13⟩
 case round =>
  clear hr30 hk13;obtain ⟨k,hgl,hk,rfl,hr,hK⟩:=hrel;have HG:Hid (k + gk=n + 1):=hgl;clear hgl
  by_cases hlt:k < n
  ·have hz:(k:Int) < (n:Int):=by omega
   have hkl:k < ls.length:=by have:=HN.out; omega
   have hkg:k < (ovk k gs ls).length:=by rw [ZqA]; have:=HG0.out; omega
   obtain ⟨g2,rfl,-,hg2,-,hrow⟩:=(h.later (Lat.ofKeeps hK)).row0 (by omega);have a0:=hrow.cellAt (k * 2) (by omega);have a1:=hrow.cellAt (k * 2 + 1) (by omega);rw [(Jt ls k hkl).1] at a0;rw [(Jt ls k hkl).2] at a1;have HY:Hid (psd ls[k].1 ls[k].2=true->ovk (k + 1) gs ls=(ovk k gs ls).set k ls[k]):=(by show _->_; exact Zqz hkl);have HNo:Hid (psd ls[k].1 ls[k].2=false->ovk (k + 1) gs ls=ovk k gs ls):=(by show _->_; exact ZrW hkl);generalize ls[k]=r at a0 a1 HY HNo;obtain ⟨x,y⟩:=r;simp only at a0 a1;clear hrow h;go_upto_region 7 with fail;have kB:Za N0_ w (wr.alloc (.cells #[.int .i64 x,.int .i64 y] 118)):=hK.alloc _;have hr2:=hr.alloc (.cells #[.int .i64 x,.int .i64 y] 118);have hb:(wr.alloc (.cells #[.int .i64 x,.int .i64 y] 118)).heap[wr.heap.size]? = _:=heap_alloc_new _ _;have hgl1:g1 < wr.heap.size:=(hr.lt g1 rfl).2;generalize (wr.alloc (.cells #[.int .i64 x,.int .i64 y] 118))=w4 at kB hr2 hb ⊢;generalize wr.heap.size=pb at hb hgl1 ⊢;have b0:w4.cell? ⟨pb,0,none⟩=some (.int .i64 x):=by rw [Zc hb]; rfl
   have b1:w4.cell? ⟨pb,1,none⟩=some (.int .i64 y):=by rw [Zc hb]; rfl
   have hcall:=Zcb (w:=w4) (a:=x) (b:=y);clear hr a0 a1 hK
   cases hbb:psd x y with
   | true =>
     rw [hbb] at hcall;have HE:Hid (ovk (k + 1) gs ls=(ovk k gs ls).set k (x,y)):=HY.out hbb;clear HY HNo hbb;go_upto_region 8 with (go_at_call 70; refine hcall.mono ?_; rintro e w5 ⟨rfl,hk5⟩);have hb5:w5.heap[pb]? = some (.cells #[.int .i64 x,.int .i64 y] 118 (0,0)):=by rw [hk5.block _ (lt_of_block hb) id]; exact hb
     have d0:w5.cell? ⟨pb,0,none⟩=some (.int .i64 x):=by rw [Zc hb5]; rfl
     have d1:w5.cell? ⟨pb,1,none⟩=some (.int .i64 y):=by rw [Zc hb5]; rfl
     have hr5:=Zb hr2 hk5 (fun _ _ h=>h);have f0:=hr5.frozenAt (k * 2);have f1:=hr5.frozenAt (k * 2 + 1);have e0:=hr5.cellAt (k * 2) (by omega);have e1:=hr5.cellAt (k * 2 + 1) (by omega);rw [(Jt _ k hkg).1] at e0;rw [(Jt _ k hkg).2] at e1;have hs:=((hr5.stored (k * 2) (.int .i64 x)).1.stored (k * 2 + 1) (.int .i64 y)).1;rw [ZjB _ k x y hkg,<- HE.out] at hs;have hks:Za N0_ w ((w5.setCell ⟨g1,k * 2,none⟩ (.int .i64 x)).setCell ⟨g1,k * 2 + 1,none⟩ (.int .i64 y)):=((kB.trans hk5).setCell (fun h=>by simp at h; omega) _).setCell (fun h=>by simp at h; omega) _;clear hcall hr2 hr5 kB hk5 hb b0 b1;go_wp2;go_roundg (gk - 1)
     case measure=>have:=HG.out; omega
     case rel=>exact ⟨k + 1,by have:=HG.out; omega,by omega,congrArg (Value.int .i64) (by omega),hs,hks⟩
   | false =>
     rw [hbb] at hcall;have HE:Hid (ovk (k + 1) gs ls=ovk k gs ls):=HNo.out hbb;clear HY HNo hbb;go_wp2_with (go_at_call 70; refine hcall.mono ?_; rintro e w5 ⟨rfl,hk5⟩);go_roundg (gk - 1)
     case measure=>have:=HG.out; omega
     case rel=>exact ⟨k + 1,by have:=HG.out; omega,by omega,congrArg (Value.int .i64) (by omega),by rw [HE.out]; exact Zb hr2 hk5 (fun _ _ h=>h),kB.trans hk5⟩
  ·obtain rfl:k=n:=by omega
   clear h;go_wp2;go_ret;exact ⟨g1,c1,rfl,hr,hK⟩
theorem ZkZ {w:World} {F:Bs2} {gv:Value} {ls:Rs} {ao:Option Addr} {n cap:Nat} (h:SpI w F (.slice ao n cap) ls) (hn:ls.length=n) (hl:n<=1000) (ha:Zek ls=false) :
  Calls Tryz.prog 113 #[gv,.slice ao n cap] w fun e w'=>e = .returned gv/\Za N0_ w w':=by
 have hcon:=Zcw h hn hl;rw [ha] at hcon;clear h hn ha;go_enter Tryz.func113,Tryz.ntmps113;go_wp2_with (go_at_call 141; refine hcon.mono ?_; rintro e w2 ⟨rfl,hk2⟩);go_ret;exact ⟨rfl,hk2⟩
theorem Zlx {w:World} {F:Bs2} {gv lv:Value} {gs:Rs} {e:Ef} (hFb:Fb w F) (hg:SpI w F gv gs) (h:SpI w F lv (ap e (noS gs.length))) (hl:gs.length<=1000) :
  Calls Tryz.prog 113 #[gv,lv] w fun x w' =>∃v,x = .returned v/\SpI w' F v (ap e gs)/\Za N0_ w w':=by
 have hlen:(ap e (noS gs.length)).length=gs.length:=by rw [Zgj]; simp [noS]
 obtain ⟨ao,cap,rfl,h2⟩:=id h
 cases ha:Zek (ap e (noS gs.length)) with
 | false =>
   refine (ZkZ h rfl (by rw [hlen]; exact hl) ha).mono ?_;rintro x w' ⟨rfl,hk⟩;exact ⟨gv,rfl,by rw [Zsz e gs ha]; exact hg.later (Lat.ofKeeps hk),hk⟩
 | true =>
   have h0:0 < gs.length:=by
    apply Decidable.byContradiction;intro hc
    have:ap e (noS gs.length) = []:=List.eq_nil_of_length_eq_zero (by omega)
    rw [this] at ha;simp [Zek] at ha
   obtain ⟨ag,cg,rfl,h3⟩:=id hg;obtain ⟨g,rfl,-,-,-,hrow⟩:=hg.row0 h0;rw [hlen] at h ⊢;refine (ZqB hrow h hlen rfl hl h0 ha).mono ?_;rintro x w' ⟨g1,c1,rfl,hr,hk⟩;rw [ZpF] at hr;refine ⟨_,rfl,⟨_,c1,by rw [Zgj],fun _=>⟨?_,fun i hi hF=>?_⟩⟩,hk⟩
   ·rw [Zgj]; exact Zr hr (fun _ _=>Nat.zero_le _)
   ·have:=(hr.lt i hi).1
    have:=hFb i hF
    omega
def Zaa (r:Rp):Int:=match r.most with | none => -1 | some m=>(m:Int)
def rpV (r:Rp) (av:Value):Value:=.agg #[.int .i64 (r.least:Int),.int .i64 (Zaa r),.bool r.lazy,av]
def RnI (w:World) (F:Bs2) (b:Nat) (r:Rp) (av:Value):Prop:=w.heap[b]? = some (.cells #[.int .i64 (r.least:Int),.int .i64 (Zaa r),.bool r.lazy,av] 179 (0,0))/\¬ F b
theorem RnI.later {w w':World} {F F':Bs2} {b:Nat} {r:Rp} {av:Value} (h:RnI w F b r av) (l:Lat w F w' F'):RnI w' F' b r av:=by
 obtain ⟨h1,h2⟩:=l.stay (lt_of_block h.1) h.2;exact ⟨by rw [h1]; exact h.1,h2⟩
theorem RnI.c0 {w:World} {F:Bs2} {b:Nat} {r:Rp} {av:Value} (h:RnI w F b r av):w.cell? ⟨b,0,none⟩=some (.int .i64 (r.least:Int)):=by rw [Zc h.1]; rfl
theorem RnI.c1 {w:World} {F:Bs2} {b:Nat} {r:Rp} {av:Value} (h:RnI w F b r av):w.cell? ⟨b,1,none⟩=some (.int .i64 (Zaa r)):=by rw [Zc h.1]; rfl
theorem RnI.c2 {w:World} {F:Bs2} {b:Nat} {r:Rp} {av:Value} (h:RnI w F b r av):w.cell? ⟨b,2,none⟩=some (.bool r.lazy):=by rw [Zc h.1]; rfl
theorem RnI.c3 {w:World} {F:Bs2} {b:Nat} {r:Rp} {av:Value} (h:RnI w F b r av):w.cell? ⟨b,3,none⟩=some av:=by rw [Zc h.1]; rfl
theorem ZdW {w:World} {r:Rp} {t:TypeId} {y:Value} {d:Nat} (hl:r.least<=1000) (hd:d<=1000) :
  Calls Tryz.prog 110 #[rpV r (.iface t y),.int .i64 (d:Int)] w fun e w'=>e = .returned (.int .i64 ((r.need d:Nat):Int))/\Za N0_ w w':=by
 have hk:Za N0_ w (w.alloc (.cells #[.int .i64 (r.least:Int),.int .i64 (Zaa r),.bool r.lazy,.iface t y] 179)):=(Za.refl _ _).alloc _;unfold rpV Rp.need;generalize Zaa r=m at hk ⊢;generalize r.lazy=lz at hk ⊢;generalize r.least=n at hk hl ⊢;go_enter Tryz.func110,Tryz.ntmps110;go_wp2_with fail
 all_goals go_ret
 all_goals exact ⟨congrArg (fun x=>Ending.returned (.int .i64 x)) (by omega),hk⟩
theorem ZkK {r:Rp} (hm :∀m,r.most=some m->m<=50) (d:Nat):1<=r.room d/\r.room d<=51:=by
 unfold Rp.room
 cases h:r.most with
 | none=>simp
 | some m=>have:=hm m h; simp only; omega
theorem Zh7 {w:World} {r:Rp} {t:TypeId} {y:Value} {d:Nat} (hm :∀m,r.most=some m->m<=50/\d<=m) :
  Calls Tryz.prog 111 #[rpV r (.iface t y),.int .i64 (d:Int)] w fun e w'=>e = .returned (.int .u8 ((r.room d:Nat):Int))/\Za N0_ w w':=by
 have hk:Za N0_ w (w.alloc (.cells #[.int .i64 (r.least:Int),.int .i64 (Zaa r),.bool r.lazy,.iface t y] 179)):=(Za.refl _ _).alloc _;unfold rpV Rp.room;generalize r.lazy=lz at hk ⊢;generalize r.least=n at hk ⊢;unfold Zaa at hk ⊢
 cases h:r.most with
 | none =>
   rw [h] at hk;simp only at hk ⊢;clear hm h;go_enter Tryz.func111,Tryz.ntmps111;go_wp2_with fail;go_ret;exact ⟨rfl,hk⟩
 | some m =>
   obtain ⟨h1,h2⟩:=hm m h;rw [h] at hk;simp only at hk ⊢;have hne:¬ (m:Int) = -1:=by omega
   have hwr:IntKind.u8.wrap ((m:Int) - (d:Int) + 1)=(m:Int) - (d:Int) + 1:=by
    unfold IntKind.wrap;simp [IntKind.bits,IntKind.signed];omega
   clear hm h;go_enter Tryz.func111,Tryz.ntmps111;go_wp2_with fail;go_ret;exact ⟨congrArg (fun x=>Ending.returned (.int .u8 x)) (by omega),hk⟩
def ZdD (fn:Nat):Prop :=∀(args:Array Value) (w:World),(callFunc fn args).run Tryz.prog w = .ok (.enter fn args) w
theorem ZnL {w:World} {Nb Ab Cb d p l fn:Nat} {cap:Array Value} {ag:Option Addr} {ng cg:Nat} {Q:Ending->World->Prop} (c0:w.cell? ⟨Nb,0,none⟩=some (.int .i64 (l:Int))) (ca:w.cell? ⟨Ab,0,none⟩=some (.func (.func fn) #[] cap)) (hlt:(d:Int) < (l:Int)) (hcf:ZdD fn)
  (hcall:Calls Tryz.prog fn (#[.int .i64 (d:Int),.int .i64 (p:Int),.slice ag ng cg] ++ cap) w (fun e w2 =>∃b,e = .returned (.bool b)/\Q (.returned (.bool b)) w2)) :
  Calls Tryz.prog 114 (#[.int .i64 (d:Int),.int .i64 (p:Int),.slice ag ng cg] ++ #[.pointer (some ⟨Nb,0,none⟩),.pointer (some ⟨Ab,0,none⟩),.pointer (some ⟨Cb,0,none⟩)]) w Q:=by
 unfold ZdD at hcf;go_enter Tryz.func114,Tryz.ntmps114;go_wp2_with ((with_reducible (refine hcall.mono ?_)); rintro e w3 ⟨b,rfl,hQ⟩);exact hQ
theorem ZkO {w:World} {Nb Ab Cb d p l fa fn:Nat} {capa cap:Array Value} {ag:Option Addr} {ng cg:Nat} {Q:Ending->World->Prop} (c0:w.cell? ⟨Nb,0,none⟩=some (.int .i64 (l:Int))) (c2:w.cell? ⟨Nb,2,none⟩=some (.bool true)) (cc:w.cell? ⟨Cb,0,none⟩=some (.func (.func fn) #[] cap)) (hge:¬ (d:Int) < (l:Int)) (hcf:ZdD fn) (hca:ZdD fa)
  (hnext:Calls Tryz.prog fn (#[.int .i64 (p:Int),.slice ag ng cg] ++ cap) w (fun e w2 =>∃b,e = .returned (.bool b)/\Hid (b=false->Q (.returned (.bool false)) w2)/\Hid (b=true->w2.cell? ⟨Ab,0,none⟩=some (.func (.func fa) #[] capa)/\Calls Tryz.prog fa (#[.int .i64 (d:Int),.int .i64 (p:Int),.slice ag ng cg] ++ capa) w2 (fun e w3 =>∃b,e = .returned (.bool b)/\Q (.returned (.bool b)) w3)))) :
  Calls Tryz.prog 114 (#[.int .i64 (d:Int),.int .i64 (p:Int),.slice ag ng cg] ++ #[.pointer (some ⟨Nb,0,none⟩),.pointer (some ⟨Ab,0,none⟩),.pointer (some ⟨Cb,0,none⟩)]) w Q:=by
 unfold ZdD at hcf hca;go_enter Tryz.func114,Tryz.ntmps114;go_wp2_with (first
  | ((with_reducible (refine hnext.mono ?_)); rintro e w3 ⟨b,rfl,HF,HT⟩; cases b <;> (try have hQ:=HF.out rfl) <;> (try obtain ⟨cA,hag⟩:=HT.out rfl) <;> clear HT HF)
  | ((with_reducible (refine hag.mono ?_)); rintro e w4 ⟨b4,rfl,hQ⟩))
 all_goals exact hQ
theorem ZgI {w:World} {Nb Ab Cb d p l fa fn:Nat} {capa cap:Array Value} {ag:Option Addr} {ng cg:Nat} {Q:Ending->World->Prop} (c0:w.cell? ⟨Nb,0,none⟩=some (.int .i64 (l:Int))) (c2:w.cell? ⟨Nb,2,none⟩=some (.bool false)) (cA:w.cell? ⟨Ab,0,none⟩=some (.func (.func fa) #[] capa)) (hge:¬ (d:Int) < (l:Int)) (hcf:ZdD fn) (hca:ZdD fa)
  (hag:Calls Tryz.prog fa (#[.int .i64 (d:Int),.int .i64 (p:Int),.slice ag ng cg] ++ capa) w (fun e w2 =>∃b,e = .returned (.bool b)/\Hid (b=false->Q (.returned (.bool false)) w2)/\Hid (b=true->w2.cell? ⟨Cb,0,none⟩=some (.func (.func fn) #[] cap)/\Calls Tryz.prog fn (#[.int .i64 (p:Int),.slice ag ng cg] ++ cap) w2 (fun e w3 =>∃b,e = .returned (.bool b)/\Q (.returned (.bool b)) w3)))) :
  Calls Tryz.prog 114 (#[.int .i64 (d:Int),.int .i64 (p:Int),.slice ag ng cg] ++ #[.pointer (some ⟨Nb,0,none⟩),.pointer (some ⟨Ab,0,none⟩),.pointer (some ⟨Cb,0,none⟩)]) w Q:=by
 unfold ZdD at hcf hca;go_enter Tryz.func114,Tryz.ntmps114;go_wp2_with (first
  | ((with_reducible (refine hag.mono ?_)); rintro e w3 ⟨b,rfl,HF,HT⟩; cases b <;> (try have hQ:=HF.out rfl) <;> (try obtain ⟨cN,hnext⟩:=HT.out rfl) <;> clear HT HF)
  | ((with_reducible (refine hnext.mono ?_)); rintro e w4 ⟨b4,rfl,hQ⟩))
 all_goals exact hQ
theorem ZnM {w:World} {Gb D Eb Gr d q fn:Nat} {cap:Array Value} {ao ag:Option Addr} {nl cl ng cg:Nat} {R:Value->World->Prop} {Q:Ending->World->Prop} (hS0:(w.drew.cell? ⟨Gb,0,none⟩=some (.func (.func fn) #[] cap)/\w.drew.cell? ⟨D,0,none⟩=some (.int .i64 (d:Int))/\w.drew.cell? ⟨Eb,0,none⟩=some (.int .i64 (q:Int))/\w.drew.cell? ⟨Eb,1,none⟩=some (.slice ao nl cl)/\w.drew.cell? ⟨Gr,0,none⟩=some (.slice ag ng cg))) (hd:d<=1000) (hcf:ZdD fn)
  (hov:Calls Tryz.prog 113 #[.slice ag ng cg,.slice ao nl cl] w.drew (fun x w3 =>∃av nv cv,x = .returned (.slice av nv cv)/\Hid (R (.slice av nv cv) w3)/\(w3.cell? ⟨Gb,0,none⟩=some (.func (.func fn) #[] cap)/\w3.cell? ⟨D,0,none⟩=some (.int .i64 (d:Int))/\w3.cell? ⟨Eb,0,none⟩=some (.int .i64 (q:Int))/\w3.cell? ⟨Eb,1,none⟩=some (.slice ao nl cl)/\w3.cell? ⟨Gr,0,none⟩=some (.slice ag ng cg))))
  (hcall :∀av nv cv w3,R (.slice av nv cv) w3->Calls Tryz.prog fn (#[.int .i64 ((d:Int) + 1),.int .i64 (q:Int),.slice av nv cv] ++ cap) w3 (fun e w4 =>∃b,e = .returned (.bool b)/\Q (.returned (.bool b)) w4/\(w4.cell? ⟨Gb,0,none⟩=some (.func (.func fn) #[] cap)/\w4.cell? ⟨D,0,none⟩=some (.int .i64 (d:Int))/\w4.cell? ⟨Eb,0,none⟩=some (.int .i64 (q:Int))/\w4.cell? ⟨Eb,1,none⟩=some (.slice ao nl cl)/\w4.cell? ⟨Gr,0,none⟩=some (.slice ag ng cg)))) :
  Calls Tryz.prog 112 #[.pointer (some ⟨Gb,0,none⟩),.pointer (some ⟨D,0,none⟩),.pointer (some ⟨Eb,0,none⟩),.pointer (some ⟨Gr,0,none⟩)] w Q:=by
 unfold ZdD at hcf;have hwr:IntKind.i64.wrap ((d:Int) + 1)=(d:Int) + 1:=IntWalk.i64_in _ ⟨by omega,by omega⟩;go_enter Tryz.func112,Tryz.ntmps112;go_upto_region 1 with fail;go_region_held3 (fun w'=>(w'.cell? ⟨Gb,0,none⟩=some (.func (.func fn) #[] cap)/\w'.cell? ⟨D,0,none⟩=some (.int .i64 (d:Int))/\w'.cell? ⟨Eb,0,none⟩=some (.int .i64 (q:Int))/\w'.cell? ⟨Eb,1,none⟩=some (.slice ao nl cl)/\w'.cell? ⟨Gr,0,none⟩=some (.slice ag ng cg))) (first | assumption | go_keep) (first
  | (go_at_call 113; refine hov.mono ?_; rintro e w3 ⟨av,nv,cv,rfl,HR,hS3⟩; have hgo:=hcall av nv cv w3 HR.out)
  | ((try rw [hwr]); (with_reducible (refine hgo.mono ?_)); rintro e w4 ⟨b,rfl,hQ,hS4⟩))
 all_goals (try go_wp2_with fail)
 all_goals exact hQ
theorem ZnK {w:World} {Gb P Gr p fn:Nat} {cap:Array Value} {ag:Option Addr} {ng cg:Nat} {Q:Ending->World->Prop} (c1:w.cell? ⟨Gb,0,none⟩=some (.func (.func fn) #[] cap)) (c2:w.cell? ⟨P,0,none⟩=some (.int .i64 (p:Int))) (c3:w.cell? ⟨Gr,0,none⟩=some (.slice ag ng cg)) (hcf:ZdD fn)
  (hcall:Calls Tryz.prog fn (#[.int .i64 0,.int .i64 (p:Int),.slice ag ng cg] ++ cap) w (fun e w2 =>∃b,e = .returned (.bool b)/\Q (.returned (.bool b)) w2)) :
  Calls Tryz.prog 116 #[.pointer (some ⟨Gb,0,none⟩),.pointer (some ⟨P,0,none⟩),.pointer (some ⟨Gr,0,none⟩)] w Q:=by
 unfold ZdD at hcf;go_enter Tryz.func116,Tryz.ntmps116;go_wp2_with ((with_reducible (refine hcall.mono ?_)); rintro e w3 ⟨b,rfl,hQ⟩);exact hQ
end Go.Proofs.YtfkflljplohhcaaGreatDoor
