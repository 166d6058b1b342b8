import Derived.Test.YtfkflljplohhcaaGreatDoorYe
set_option linter.unusedVariables false
set_option maxHeartbeats 1000000
set_option maxRecDepth 100000
namespace Go.Proofs.YtfkflljplohhcaaGreatDoor
open Go.RowKit
def eG (n:Nat):Rs:=List.replicate n (-1,-1)
def gP (k:Nat) (gs ls:Rs):Rs:=gs.mapIdx fun i x=>if i<k then (match ls[i]? with | some y=>if iK y.1 y.2 then y else x | none=>x) else x
theorem Zo6(gs ls:Rs):gP 0 gs ls=gs:=by
 apply List.ext_getElem
 ·simp[gP]
 ·intro i h1 h2;simp[gP]
theorem Zr2(k:Nat)(gs ls:Rs):(gP k gs ls).length=gs.length:=by simp[gP]
variable {gs ls:Rs}
theorem ZtH{k:Nat}(h:k<ls.length)(hp:iK ls[k].1 ls[k].2=false):gP (k+1) gs ls=gP k gs ls:=by
 apply List.ext_getElem
 ·simp[gP]
 ·intro i h1 h2;simp only[gP,List.getElem_mapIdx]
  by_cases hi:i<k
  ·rw[if_pos hi,if_pos (by omega)]
  ·rw[if_neg hi]
   by_cases hi2:i=k
   ·subst hi2;rw[if_pos (by omega),List.getElem?_eq_getElem h];simp[hp]
   ·rw[if_neg (by omega)]
theorem Zr1{k:Nat}(h:k<ls.length)(hp:iK ls[k].1 ls[k].2=true):gP (k+1) gs ls=(gP k gs ls).set k ls[k]:=by
 apply List.ext_getElem
 ·simp[gP]
 ·intro i h1 h2
  by_cases hi2:i=k
  ·subst hi2;simp only[List.getElem_set_self,gP,List.getElem_mapIdx];rw[if_pos (by omega),List.getElem?_eq_getElem h];simp[hp]
  ·rw[List.getElem_set_ne (Ne.symm hi2)];simp only[gP,List.getElem_mapIdx]
   by_cases hi:i<k
   ·rw[if_pos hi,if_pos (by omega)]
   ·rw[if_neg hi,if_neg (by omega)]
theorem Zo2(a b:Nat):iK (a:Int) (b:Int)=true:=by
 unfold iK
 have:((a:Int) == -1)=false:=by simp
 simp[this]
theorem ZeH(e:Ef)(n i:Nat)(h:i<n):(ap e (eG n))[i]?=some (match e i with | none=>(-1,-1) | some v=>((v.1:Int),(v.2:Int))):=by
 simp[ap,eG,h]
 cases e i <;> rfl
theorem X7(e:Ef)(gs:Rs):gP gs.length gs (ap e (eG gs.length))=ap e gs:=by
 apply List.ext_getElem
 ·simp[gP,ap]
 ·intro i h1 h2;have hi:i<gs.length:=by simpa [gP] using h1
  simp only[gP,List.getElem_mapIdx];rw[if_pos hi,ZeH e _ _ hi];simp only[ap,List.getElem_mapIdx]
  cases e i with
  | none=>simp[iK]
  | some v=>simp[Zo2]
theorem Zup(e:Ef)(gs:Rs)(h:j4 (ap e (eG gs.length))=false):ap e gs=gs:=by
 rw[<- X7];apply List.ext_getElem
 ·simp[gP]
 ·intro i h1 h2;simp only[gP,List.getElem_mapIdx];rw[if_pos h2]
  cases hx:(ap e (eG gs.length))[i]? with
  | none=>rfl
  | some y =>
    obtain⟨hi,rfl⟩:=List.getElem?_eq_some_iff.1 hx
    have:=fun hp=>Y8 hi hp
    rw[h] at this;simp only;rw[if_neg (fun hp=>by simpa using this hp)]
theorem Zkm(l:Rs)(k:Nat)(x y:Int)(h:k<l.length):((ZD l).set (k*2) (.int .i64 x)).set (k*2+1) (.int .i64 y)=ZD (l.set k (x,y)):=by
 induction l generalizing k with
 | nil=>simp at h
 | cons r l ih =>
   cases k with
   | zero=>simp[QL]
   | succ k =>
     rw[QL,show (k+1)*2=k*2+2 by omega,show k*2+2+1=(k*2+1)+2 by omega];simp only[List.set_cons_succ];rw[ih k (by simpa using h),QL]
variable {w w':World}{F:az}{cg b d Nb Ab Cb p l fn ng fa Gb Gr A J m j nd rm At:Nat}{ao ag:Option Addr}{cap capa:Array Value}{gv av y:Value}{t ty:TypeId}{mo:Int}{lz:Bool}
theorem Zr3{g n:Nat}{cap:Nat}(hg:w.ownsRow 0 118 2 (.slice (some ⟨g,0,none⟩) n cg) n (ZD gs))(h:fF w F (.slice ao n cap) ls)(hn:ls.length=n)(hgn:gs.length=n)(hl:n<=1000)(h0:0<n)(ha:j4 ls=true):
  au 113 #[.slice (some ⟨g,0,none⟩) n cg,.slice ao n cap] w fun e w' =>∃g1 c1,e=.returned (.slice (some ⟨g1,0,none⟩) n c1)/\w'.ownsRow w.heap.size 118 2 (.slice (some ⟨g1,0,none⟩) n c1) n (ZD (gP n gs ls))/\Za ai w w':=by
 have hcon:=ZcO h hn hl;rw[ha] at hcon;have HN:Hid (ls.length=n):=hn;have HG0:Hid (gs.length=n):=hgn;clear hn hgn ha;go_enter Tryz.func113,Tryz.ntmps113;go_wp2_with(first|(go_at_call 141;refine hcon.mono ?_;rintro e w2 ⟨rfl,hk2⟩;have hcl:=MH (Zb hg hk2 (fun _ _ h=>h)) HG0.out hl h0)|(go_at_call 91;refine hcl.mono ?_;rintro e w3 ⟨g1,c1,rfl,hr3,hk3⟩))
 have Gm:=hk2.trans hk3;have Ag:=Zp (base':=w.heap.size) hr3 (fun k hk=>Nat.le_trans hk2.size (hr3.lt k hk).1);have hlo:w.heap.size<=g1:=(Ag.lt g1 rfl).1;clear hcon hcl hr3 hk2 hk3 hg;go_loopg [6,7,16] (n+1) (fun gl _ _ s16 wr =>∃k:Nat,k+gl=n+1/\k<=n/\s16=.int .i64 (k:Int)/\wr.ownsRow w.heap.size 118 2 (.slice (some ⟨g1,0,none⟩) n c1) n (ZD (gP k gs ls))/\Za ai w wr)
 case atStart=>exact⟨0,by omega,by omega,rfl,by rw[Zo6];exact Ag,Gm⟩
 case round =>
  clear Ag Gm;obtain⟨k,hgl,hk,rfl,hr,hK⟩:=hrel;have HG:Hid (k+gk=n+1):=hgl;clear hgl
  by_cases hlt:k<n
  ·have hz:(k:Int)<(n:Int):=by omega
   have hkl:k<ls.length:=by have:=HN.out;omega
   have hkg:k<(gP k gs ls).length:=by rw[Zr2];have:=HG0.out;omega
   obtain⟨g2,rfl,-,hg2,-,hrow⟩:=(h.later (aH.ay hK)).row0 (by omega);have a0:=hrow.cellAt (k*2) (by omega);have a1:=hrow.cellAt (k*2+1) (by omega);rw[(Jv ls k hkl).1] at a0;rw[(Jv ls k hkl).2] at a1;have HY:Hid (iK ls[k].1 ls[k].2=true->gP (k+1) gs ls=(gP k gs ls).set k ls[k]):=(by show _->_;exact Zr1 hkl);have M6:Hid (iK ls[k].1 ls[k].2=false->gP (k+1) gs ls=gP k gs ls):=(by show _->_;exact ZtH hkl);generalize ls[k]=r at a0 a1 HY M6;obtain⟨x,y⟩:=r;simp only at a0 a1;clear hrow h;go_upto_region 7 with fail;have kB:Za ai w (wr.alloc (.cells #[.int .i64 x,.int .i64 y] 118)):=hK.alloc _;have hr2:=hr.alloc (.cells #[.int .i64 x,.int .i64 y] 118);have hb:(wr.alloc (.cells #[.int .i64 x,.int .i64 y] 118)).heap[wr.heap.size]? = _:=heap_alloc_new _ _;have OY:g1<wr.heap.size:=(hr.lt g1 rfl).2;generalize (wr.alloc (.cells #[.int .i64 x,.int .i64 y] 118))=w4 at kB hr2 hb ⊢;generalize wr.heap.size=pb at hb OY ⊢;have b0:w4.cell? (ak pb)=some (.int .i64 x):=by rw[Zc hb];rfl
   have b1:w4.cell? ⟨pb,1,none⟩=some (.int .i64 y):=by rw[Zc hb];rfl
   have hcall:=Um (w:=w4) (a:=x) (b:=y);clear hr a0 a1 hK
   cases hbb:iK x y with
   | true =>
     rw[hbb] at hcall;have HE:Hid (gP (k+1) gs ls=(gP k gs ls).set k (x,y)):=HY.out hbb;clear HY M6 hbb;go_upto_region 8 with(go_at_call 70;refine hcall.mono ?_;rintro e w5 ⟨rfl,hk5⟩);have hb5:w5.heap[pb]?=some (.cells #[.int .i64 x,.int .i64 y] 118 (0,0)):=by rw[hk5.block _ (lt_of_block hb) id];exact hb
     have d0:w5.cell? (ak pb)=some (.int .i64 x):=by rw[Zc hb5];rfl
     have d1:w5.cell? ⟨pb,1,none⟩=some (.int .i64 y):=by rw[Zc hb5];rfl
     have CL:=Zb hr2 hk5 (fun _ _ h=>h);have f0:=CL.frozenAt (k*2);have f1:=CL.frozenAt (k*2+1);have e0:=CL.cellAt (k*2) (by omega);have e1:=CL.cellAt (k*2+1) (by omega);rw[(Jv _ k hkg).1] at e0;rw[(Jv _ k hkg).2] at e1;have hs:=((CL.stored (k*2) (.int .i64 x)).1.stored (k*2+1) (.int .i64 y)).1;rw[Zkm _ k x y hkg,<- HE.out] at hs;have hks:Za ai w ((w5.setCell ⟨g1,k*2,none⟩ (.int .i64 x)).setCell ⟨g1,k*2+1,none⟩ (.int .i64 y)):=((kB.trans hk5).setCell (fun h=>by simp at h;omega) _).setCell (fun h=>by simp at h;omega) _;clear hcall hr2 CL kB hk5 hb b0 b1;go_wp2;go_roundg (gk-1)
     case measure=>have:=HG.out;omega
     case rel=>exact⟨k+1,by have:=HG.out;omega,by omega,congrArg (Value.int .i64) (by omega),hs,hks⟩
   | false =>
     rw[hbb] at hcall;have HE:Hid (gP (k+1) gs ls=gP k gs ls):=M6.out hbb;clear HY M6 hbb;go_wp2_with(go_at_call 70;refine hcall.mono ?_;rintro e w5 ⟨rfl,hk5⟩);go_roundg (gk-1)
     case measure=>have:=HG.out;omega
     case rel=>exact⟨k+1,by have:=HG.out;omega,by omega,congrArg (Value.int .i64) (by omega),by rw[HE.out];exact Zb hr2 hk5 (fun _ _ h=>h),kB.trans hk5⟩
  ·obtain rfl:k=n:=by omega
   clear h;go_wp2;go_ret;exact⟨g1,c1,rfl,hr,hK⟩
theorem ZlU{n cap:Nat}(h:fF w F (.slice ao n cap) ls)(hn:ls.length=n)(hl:n<=1000)(ha:j4 ls=false):
  au 113 #[gv,.slice ao n cap] w fun e w'=>e=.returned gv/\Za ai w w':=by
 have hcon:=ZcO h hn hl;rw[ha] at hcon;clear h hn ha;go_enter Tryz.func113,Tryz.ntmps113;go_wp2_with(go_at_call 141;refine hcon.mono ?_;rintro e w2 ⟨rfl,hk2⟩);go_ret;exact⟨rfl,hk2⟩
theorem Zmu{lv:Value}{e:Ef}(aW:Fb w F)(hg:fF w F gv gs)(h:fF w F lv (ap e (eG gs.length)))(hl:gs.length<=1000):
  au 113 #[gv,lv] w fun x w' =>∃v,x=.returned v/\fF w' F v (ap e gs)/\Za ai w w':=by
 have hlen:(ap e (eG gs.length)).length=gs.length:=by rw[Ih];simp[eG]
 obtain⟨ao,cap,rfl,h2⟩:=id h
 cases ha:j4 (ap e (eG gs.length)) with
 | false =>
   refine(ZlU h rfl (by rw[hlen];exact hl) ha).mono ?_;rintro x w' ⟨rfl,hk⟩;exact⟨gv,rfl,by rw[Zup e gs ha];exact hg.later (aH.ay hk),hk⟩
 | true =>
   have h0:0<gs.length:=by
    apply Decidable.byContradiction;intro hc
    have:ap e (eG gs.length) = []:=List.eq_nil_of_length_eq_zero (by omega)
    rw[this] at ha;simp[j4] at ha
   obtain⟨ag,cg,rfl,h3⟩:=id hg;obtain⟨g,rfl,-,-,-,hrow⟩:=hg.row0 h0;rw[hlen] at h ⊢;refine(Zr3 hrow h hlen rfl hl h0 ha).mono ?_;rintro x w' ⟨g1,c1,rfl,hr,hk⟩;rw[X7] at hr;refine⟨_,rfl,⟨_,c1,by rw[Ih],fun _=>⟨?_,fun i hi hF=>?_⟩⟩,hk⟩
   ·rw[Ih];exact Zp hr (fun _ _=>Nat.zero_le _)
   ·have:=(hr.lt i hi).1
    have:=aW i hF
    omega
def jM (r:Rp):Int:=match r.most with | none => -1 | some m=>(m:Int)
def Cy (r:Rp) (av:Value):Value:=.agg #[.int .i64 (r.least:Int),.int .i64 (jM r),.bool r.lazy,av]
def rM (w:World) (F:az) (b:Nat) (r:Rp) (av:Value):Prop:=w.heap[b]?=some (.cells #[.int .i64 (r.least:Int),.int .i64 (jM r),.bool r.lazy,av] 179 (0,0))/\¬F b
variable {r:Rp}
theorem rM.later{F':az}(h:rM w F b r av)(l:aH w F w' F'):rM w' F' b r av:=by
 obtain⟨h1,h2⟩:=l.stay (lt_of_block h.1) h.2;exact⟨by rw[h1];exact h.1,h2⟩
theorem rM.c0(h:rM w F b r av):w.cell? (ak b)=some (.int .i64 (r.least:Int)):=by rw[Zc h.1];rfl
theorem rM.c1(h:rM w F b r av):w.cell? ⟨b,1,none⟩=some (.int .i64 (jM r)):=by rw[Zc h.1];rfl
theorem rM.c2(h:rM w F b r av):w.cell? ⟨b,2,none⟩=some (.bool r.lazy):=by rw[Zc h.1];rfl
theorem rM.c3(h:rM w F b r av):w.cell? ⟨b,3,none⟩=some av:=by rw[Zc h.1];rfl
theorem Zek(hl:r.least<=1000)(hd:d<=1000):
  au 110 #[Cy r (.iface t y),.int .i64 (d:Int)] w fun e w'=>e=.returned (.int .i64 ((r.need d:Nat):Int))/\Za ai w w':=by
 have hk:Za ai w (w.alloc (.cells #[.int .i64 (r.least:Int),.int .i64 (jM r),.bool r.lazy,.iface t y] 179)):=QT;unfold Cy Rp.need;generalize jM r=m at hk ⊢;generalize r.lazy=lz at hk ⊢;generalize r.least=n at hk hl ⊢;go_enter Tryz.func110,Tryz.ntmps110;go_wp2_with fail
 all_goals go_ret
 all_goals exact⟨congrArg (fun x=>Ending.returned (.int .i64 x)) (by omega),hk⟩
theorem YR(hm:∀m,r.most=some m->m<=50)(d:Nat):1<=r.room d/\r.room d<=51:=by
 unfold Rp.room
 cases h:r.most with
 | none=>simp
 | some m=>have:=hm m h;simp only;omega
theorem ZiL(hm:∀m,r.most=some m->m<=50/\d<=m):
  au 111 #[Cy r (.iface t y),.int .i64 (d:Int)] w fun e w'=>e=.returned (.int .u8 ((r.room d:Nat):Int))/\Za ai w w':=by
 have hk:Za ai w (w.alloc (.cells #[.int .i64 (r.least:Int),.int .i64 (jM r),.bool r.lazy,.iface t y] 179)):=QT;unfold Cy Rp.room;generalize r.lazy=lz at hk ⊢;generalize r.least=n at hk ⊢;unfold jM at hk ⊢
 cases h:r.most with
 | none =>
   rw[h] at hk;simp only at hk ⊢;clear hm h;go_enter Tryz.func111,Tryz.ntmps111;go_wp2_with fail;go_ret;exact⟨rfl,hk⟩
 | some m =>
   obtain⟨h1,h2⟩:=hm m h;rw[h] at hk;simp only at hk ⊢;have hne:¬(m:Int) = -1:=by omega
   have hwr:IntKind.u8.wrap ((m:Int)-(d:Int)+1)=(m:Int)-(d:Int)+1:=by
    unfold IntKind.wrap;simp[IntKind.bits,IntKind.signed];omega
   clear hm h;go_enter Tryz.func111,Tryz.ntmps111;go_wp2_with fail;go_ret;exact⟨congrArg (fun x=>Ending.returned (.int .u8 x)) (by omega),hk⟩
def jE (fn:Nat):Prop :=∀(args:Array Value) (w:World),(callFunc fn args).run Tryz.prog w=.ok (.enter fn args) w
variable {Q:Ending->World->Prop}
theorem ZoY(c0:w.cell? (ak Nb)=some (.int .i64 (l:Int)))(ca:w.cell? (ak Ab)=some (.func (.func fn) #[] cap))(hlt:(d:Int)<(l:Int))(hcf:jE fn)
  (hcall:au fn (#[.int .i64 (d:Int),.int .i64 (p:Int),.slice ag ng cg]++cap) w (fun e w2 =>∃b,e=.returned (.bool b)/\Q (.returned (.bool b)) w2)) :
  au 114 (#[.int .i64 (d:Int),.int .i64 (p:Int),.slice ag ng cg]++#[ae Nb,ae Ab,ae Cb]) w Q:=by
 unfold jE at hcf;go_enter Tryz.func114,Tryz.ntmps114;go_wp2_with((with_reducible (refine hcall.mono ?_));rintro e w3 ⟨b,rfl,hQ⟩);exact hQ
theorem ZlH(c0:w.cell? (ak Nb)=some (.int .i64 (l:Int)))(c2:w.cell? ⟨Nb,2,none⟩=some (.bool true))(cc:w.cell? (ak Cb)=some (.func (.func fn) #[] cap))(hge:¬(d:Int)<(l:Int))(hcf:jE fn)(vH:jE fa)
  (hnext:au fn (#[.int .i64 (p:Int),.slice ag ng cg]++cap) w (fun e w2 =>∃b,e=.returned (.bool b)/\Hid (b=false->Q (.returned (.bool false)) w2)/\Hid (b=true->w2.cell? (ak Ab)=some (.func (.func fa) #[] capa)/\au fa (#[.int .i64 (d:Int),.int .i64 (p:Int),.slice ag ng cg]++capa) w2 (fun e w3 =>∃b,e=.returned (.bool b)/\Q (.returned (.bool b)) w3)))) :
  au 114 (#[.int .i64 (d:Int),.int .i64 (p:Int),.slice ag ng cg]++#[ae Nb,ae Ab,ae Cb]) w Q:=by
 unfold jE at hcf vH;go_enter Tryz.func114,Tryz.ntmps114;go_wp2_with(first|((with_reducible (refine hnext.mono ?_));rintro e w3 ⟨b,rfl,HF,HT⟩;cases b <;> (try have hQ:=HF.out rfl) <;> (try obtain⟨cA,hag⟩:=HT.out rfl) <;> clear HT HF)|((with_reducible (refine hag.mono ?_));rintro e w4 ⟨b4,rfl,hQ⟩))
 all_goals exact hQ
theorem Zhk(c0:w.cell? (ak Nb)=some (.int .i64 (l:Int)))(c2:w.cell? ⟨Nb,2,none⟩=some (.bool false))(cA:w.cell? (ak Ab)=some (.func (.func fa) #[] capa))(hge:¬(d:Int)<(l:Int))(hcf:jE fn)(vH:jE fa)
  (hag:au fa (#[.int .i64 (d:Int),.int .i64 (p:Int),.slice ag ng cg]++capa) w (fun e w2 =>∃b,e=.returned (.bool b)/\Hid (b=false->Q (.returned (.bool false)) w2)/\Hid (b=true->w2.cell? (ak Cb)=some (.func (.func fn) #[] cap)/\au fn (#[.int .i64 (p:Int),.slice ag ng cg]++cap) w2 (fun e w3 =>∃b,e=.returned (.bool b)/\Q (.returned (.bool b)) w3)))) :
  au 114 (#[.int .i64 (d:Int),.int .i64 (p:Int),.slice ag ng cg]++#[ae Nb,ae Ab,ae Cb]) w Q:=by
 unfold jE at hcf vH;go_enter Tryz.func114,Tryz.ntmps114;go_wp2_with(first|((with_reducible (refine hag.mono ?_));rintro e w3 ⟨b,rfl,HF,HT⟩;cases b <;> (try have hQ:=HF.out rfl) <;> (try obtain⟨cN,hnext⟩:=HT.out rfl) <;> clear HT HF)|((with_reducible (refine hnext.mono ?_));rintro e w4 ⟨b4,rfl,hQ⟩))
 all_goals exact hQ
theorem ZoZ{D Eb q:Nat}{nl cl:Nat}{R:Value->World->Prop}(hS0:(w.drew.cell? (ak Gb)=some (.func (.func fn) #[] cap)/\w.drew.cell? (ak D)=some (.int .i64 (d:Int))/\w.drew.cell? (ak Eb)=some (.int .i64 (q:Int))/\w.drew.cell? ⟨Eb,1,none⟩=some (.slice ao nl cl)/\w.drew.cell? (ak Gr)=some (.slice ag ng cg)))(hd:d<=1000)(hcf:jE fn)
  (hov:au 113 #[.slice ag ng cg,.slice ao nl cl] w.drew (fun x w3 =>∃av nv cv,x=.returned (.slice av nv cv)/\Hid (R (.slice av nv cv) w3)/\(w3.cell? (ak Gb)=some (.func (.func fn) #[] cap)/\w3.cell? (ak D)=some (.int .i64 (d:Int))/\w3.cell? (ak Eb)=some (.int .i64 (q:Int))/\w3.cell? ⟨Eb,1,none⟩=some (.slice ao nl cl)/\w3.cell? (ak Gr)=some (.slice ag ng cg))))
  (hcall:∀av nv cv w3,R (.slice av nv cv) w3->au fn (#[.int .i64 ((d:Int)+1),.int .i64 (q:Int),.slice av nv cv]++cap) w3 (fun e w4 =>∃b,e=.returned (.bool b)/\Q (.returned (.bool b)) w4/\(w4.cell? (ak Gb)=some (.func (.func fn) #[] cap)/\w4.cell? (ak D)=some (.int .i64 (d:Int))/\w4.cell? (ak Eb)=some (.int .i64 (q:Int))/\w4.cell? ⟨Eb,1,none⟩=some (.slice ao nl cl)/\w4.cell? (ak Gr)=some (.slice ag ng cg)))) :
  au 112 #[ae Gb,ae D,ae Eb,ae Gr] w Q:=by
 unfold jE at hcf;have hwr:IntKind.i64.wrap ((d:Int)+1)=(d:Int)+1:=IntWalk.i64_in _ ⟨by omega,by omega⟩;go_enter Tryz.func112,Tryz.ntmps112;go_upto_region 1 with fail;go_region_held3 (fun w'=>(w'.cell? (ak Gb)=some (.func (.func fn) #[] cap)/\w'.cell? (ak D)=some (.int .i64 (d:Int))/\w'.cell? (ak Eb)=some (.int .i64 (q:Int))/\w'.cell? ⟨Eb,1,none⟩=some (.slice ao nl cl)/\w'.cell? (ak Gr)=some (.slice ag ng cg))) (first | assumption | go_keep) (first|(go_at_call 113;refine hov.mono ?_;rintro e w3 ⟨av,nv,cv,rfl,HR,rT⟩;have hgo:=hcall av nv cv w3 HR.out)|((try rw[hwr]);(with_reducible (refine hgo.mono ?_));rintro e w4 ⟨b,rfl,hQ,dE⟩))
 all_goals (try go_wp2_with fail)
 all_goals exact hQ
theorem ZoX{P:Nat}(c1:w.cell? (ak Gb)=some (.func (.func fn) #[] cap))(c2:w.cell? (ak P)=some (.int .i64 (p:Int)))(c3:w.cell? (ak Gr)=some (.slice ag ng cg))(hcf:jE fn)
  (hcall:au fn (#[.int .i64 0,.int .i64 (p:Int),.slice ag ng cg]++cap) w (fun e w2 =>∃b,e=.returned (.bool b)/\Q (.returned (.bool b)) w2)) :
  au 116 #[ae Gb,ae P,ae Gr] w Q:=by
 unfold jE at hcf;go_enter Tryz.func116,Tryz.ntmps116;go_wp2_with((with_reducible (refine hcall.mono ?_));rintro e w3 ⟨b,rfl,hQ⟩);exact hQ
theorem Zf{i:Nat}{v:Value}(h:w.cell? ⟨b,i,none⟩=some v)(k:Za ai w w'):w'.cell? ⟨b,i,none⟩=some v:=by
 have hlt:b<w.heap.size:=by
  apply Decidable.byContradiction;intro hc;unfold World.cell? at h;simp only at h;rw[Array.getElem?_eq_none (by omega)] at h;simp at h
 exact((show eY w ai b i v from ⟨h,fun h=>h,hlt⟩).later (aH.ay k)).1
variable {R:Nat->World->Prop}
theorem ZrS{X:Nat}
  (hS:∀w1,Za ai w w1->aP w1 w.heap.size 3 (.int .i64 (p:Int))->(w1.cell? (ak A)=some ((ae X))/\w1.cell? (ak J)=some (.int .i64 (j:Int))/\w1.cell? ⟨X,3,none⟩=some (.map (some m))/\w1.cell? (ak Nb)=some (.int .i64 (l:Int))/\w1.cell? ⟨Nb,1,none⟩=some (.int .i64 mo)/\w1.cell? ⟨Nb,2,none⟩=some (.bool lz)/\w1.cell? ⟨Nb,3,none⟩=some (.iface ty y)/\w1.cell? (ak w.heap.size)=some (.int .i64 (p:Int))))
  (hnd:∀w1,au 110 #[.agg #[.int .i64 (l:Int),.int .i64 mo,.bool lz,.iface ty y],.int .i64 0] w1 (fun e w2=>e=.returned (.int .i64 (nd:Int))/\Za ai w1 w2))
  (hrm:∀w1,au 111 #[.agg #[.int .i64 (l:Int),.int .i64 mo,.bool lz,.iface ty y],.int .i64 0] w1 (fun e w2=>e=.returned (.int .u8 (rm:Int))/\Za ai w1 w2))
  (hof:∀w1,Za ai w w1->aP w1 w.heap.size 3 (.int .i64 (p:Int))->aP w1 (w.heap.size+1) 36 (.slice ag ng cg)->au 105 #[.agg #[.map (some m)],.agg #[.int .i64 (j:Int),.int .i64 (nd:Int)]] w1 (fun e w2 =>∃r,e=.returned ((ae r))/\Hid (R r w2)/\(w2.cell? (ak A)=some ((ae X))/\w2.cell? (ak J)=some (.int .i64 (j:Int))/\w2.cell? ⟨X,3,none⟩=some (.map (some m))/\w2.cell? (ak Nb)=some (.int .i64 (l:Int))/\w2.cell? ⟨Nb,1,none⟩=some (.int .i64 mo)/\w2.cell? ⟨Nb,2,none⟩=some (.bool lz)/\w2.cell? ⟨Nb,3,none⟩=some (.iface ty y)/\w2.cell? (ak w.heap.size)=some (.int .i64 (p:Int)))))
  (mF:∀r w2 w3,R r w2->Za ai w2 w3->au 106 #[ae r,.int .i64 (p:Int),.int .u8 (rm:Int),.func (.func 116) #[] #[ae Gb,ae w.heap.size,.pointer (some ⟨w.heap.size+1,0,none⟩)]] w3 (fun e w4 =>∃b,e=.returned (.bool b)/\Q (.returned (.bool b)) w4/\(w4.cell? (ak A)=some ((ae X))/\w4.cell? (ak J)=some (.int .i64 (j:Int))/\w4.cell? ⟨X,3,none⟩=some (.map (some m))/\w4.cell? (ak Nb)=some (.int .i64 (l:Int))/\w4.cell? ⟨Nb,1,none⟩=some (.int .i64 mo)/\w4.cell? ⟨Nb,2,none⟩=some (.bool lz)/\w4.cell? ⟨Nb,3,none⟩=some (.iface ty y)/\w4.cell? (ak w.heap.size)=some (.int .i64 (p:Int))))) :
  au 115 (#[.int .i64 (p:Int),.slice ag ng cg]++#[ae A,ae J,ae Nb,ae Gb]) w Q:=by
 have mR:∀(fn:Fn) (first cap:Array Value) (w:World),(Instr.makeFunc fn first cap).run Tryz.prog w=.ok (.func fn first cap) w:=fun _ _ _ _=>rfl;have kA:Za ai w ((w.alloc (.cells #[.int .i64 (p:Int)] 3)).alloc (.cells #[.slice ag ng cg] 36)):=((Za.refl _ w).alloc _).alloc _;have b1:aP ((w.alloc (.cells #[.int .i64 (p:Int)] 3)).alloc (.cells #[.slice ag ng cg] 36)) w.heap.size 3 (.int .i64 (p:Int)):=fU w _ _;have b2:aP ((w.alloc (.cells #[.int .i64 (p:Int)] 3)).alloc (.cells #[.slice ag ng cg] 36)) (w.heap.size+1) 36 (.slice ag ng cg):=gH w _ _;go_enter Tryz.func115,Tryz.ntmps115;go_upto_region 1 with fail;generalize ((w.alloc (.cells #[.int .i64 (p:Int)] 3)).alloc (.cells #[.slice ag ng cg] 36))=w2 at kA b1 b2 ⊢;have kd:Za ai w w2.drew:=kA.drew;have hS0:=hS w2.drew kd b1;have xn:=hnd w2.drew;have il:∀w3,Za ai w2.drew w3->au 105 #[.agg #[.map (some m)],.agg #[.int .i64 (j:Int),.int .i64 (nd:Int)]] w3 (fun e w2 =>∃r,e=.returned ((ae r))/\Hid (R r w2)/\(w2.cell? (ak A)=some ((ae X))/\w2.cell? (ak J)=some (.int .i64 (j:Int))/\w2.cell? ⟨X,3,none⟩=some (.map (some m))/\w2.cell? (ak Nb)=some (.int .i64 (l:Int))/\w2.cell? ⟨Nb,1,none⟩=some (.int .i64 mo)/\w2.cell? ⟨Nb,2,none⟩=some (.bool lz)/\w2.cell? ⟨Nb,3,none⟩=some (.iface ty y)/\w2.cell? (ak w.heap.size)=some (.int .i64 (p:Int)))) :=
  fun w3 k3=>hof w3 (kd.trans k3) ((show aP w2.drew _ _ _ from b1).keeps k3 id) ((show aP w2.drew _ _ _ from b2).keeps k3 id)
 clear hof hS hnd b1 b2 kA kd;generalize w.heap.size=pb at *;go_region_held3 (fun w'=>(w'.cell? (ak A)=some ((ae X))/\w'.cell? (ak J)=some (.int .i64 (j:Int))/\w'.cell? ⟨X,3,none⟩=some (.map (some m))/\w'.cell? (ak Nb)=some (.int .i64 (l:Int))/\w'.cell? ⟨Nb,1,none⟩=some (.int .i64 mo)/\w'.cell? ⟨Nb,2,none⟩=some (.bool lz)/\w'.cell? ⟨Nb,3,none⟩=some (.iface ty y)/\w'.cell? (ak pb)=some (.int .i64 (p:Int)))) (first | assumption | go_keep) (first|(go_at_call 110;refine xn.mono ?_;rintro e w3 ⟨rfl,hk3⟩;have rT:(w3.cell? (ak A)=some ((ae X))/\w3.cell? (ak J)=some (.int .i64 (j:Int))/\w3.cell? ⟨X,3,none⟩=some (.map (some m))/\w3.cell? (ak Nb)=some (.int .i64 (l:Int))/\w3.cell? ⟨Nb,1,none⟩=some (.int .i64 mo)/\w3.cell? ⟨Nb,2,none⟩=some (.bool lz)/\w3.cell? ⟨Nb,3,none⟩=some (.iface ty y)/\w3.cell? (ak pb)=some (.int .i64 (p:Int))):=⟨Zf hS0.1 hk3,Zf hS0.2.1 hk3,Zf hS0.2.2.1 hk3,Zf hS0.2.2.2.1 hk3,Zf hS0.2.2.2.2.1 hk3,Zf hS0.2.2.2.2.2.1 hk3,Zf hS0.2.2.2.2.2.2.1 hk3,Zf hS0.2.2.2.2.2.2.2 hk3⟩;have Ak:=il w3 hk3;clear il)|(go_at_call 105;refine Ak.mono ?_;rintro e w4 ⟨r,rfl,HR,dE⟩;have Ow:=hrm w4)|(go_at_call 111;refine Ow.mono ?_;rintro e w5 ⟨rfl,hk5⟩;have hS5:(w5.cell? (ak A)=some ((ae X))/\w5.cell? (ak J)=some (.int .i64 (j:Int))/\w5.cell? ⟨X,3,none⟩=some (.map (some m))/\w5.cell? (ak Nb)=some (.int .i64 (l:Int))/\w5.cell? ⟨Nb,1,none⟩=some (.int .i64 mo)/\w5.cell? ⟨Nb,2,none⟩=some (.bool lz)/\w5.cell? ⟨Nb,3,none⟩=some (.iface ty y)/\w5.cell? (ak pb)=some (.int .i64 (p:Int))):=⟨Zf dE.1 hk5,Zf dE.2.1 hk5,Zf dE.2.2.1 hk5,Zf dE.2.2.2.1 hk5,Zf dE.2.2.2.2.1 hk5,Zf dE.2.2.2.2.2.1 hk5,Zf dE.2.2.2.2.2.2.1 hk5,Zf dE.2.2.2.2.2.2.2 hk5⟩;have E9:=mF r w4 w5 HR.out hk5)|(go_at_call 106;refine E9.mono ?_;rintro e w6 ⟨b,rfl,hQ,lG⟩))
 all_goals (try go_wp2_with fail)
 all_goals exact hQ
theorem ZlI(c1:w.cell? ⟨Nb,1,none⟩=some (.int .i64 (d:Int)))(hlt:Nb<w.heap.size):
  au 109 (#[.int .i64 (d:Int),.int .i64 (p:Int),.slice ag ng cg]++#[ae Nb,ae A,ae J,ae At,ae Gb]) w fun e w'=>e=.returned (.bool true)/\Za ai w w':=by
 have kA:Za ai w ((w.alloc (.cells #[.int .i64 (d:Int)] 3)).alloc (.cells #[.slice ag ng cg] 36)):=((Za.refl _ w).alloc _).alloc _;have b1:aP ((w.alloc (.cells #[.int .i64 (d:Int)] 3)).alloc (.cells #[.slice ag ng cg] 36)) w.heap.size 3 (.int .i64 (d:Int)):=fU w _ _;have c2:=Zf c1 kA;have c3:=b1.cell;go_enter Tryz.func109,Tryz.ntmps109;go_upto_region 1 with fail;generalize ((w.alloc (.cells #[.int .i64 (d:Int)] 3)).alloc (.cells #[.slice ag ng cg] 36))=w2 at kA b1 c2 c3 ⊢;go_wp2_with fail;go_ret;exact⟨rfl,kA⟩
theorem ZrT{X fat:Nat}{capat:Array Value}{I:Nat->Option Addr->Nat->Nat->Nat->World->Prop}(hd:d<=1000)(hne:¬(d:Int)=mo)(hcf:jE fat)
  (hS:∀w1,Za ai w w1->aP w1 w.heap.size 3 (.int .i64 (d:Int))->(w1.cell? (ak A)=some ((ae X))/\w1.cell? (ak J)=some (.int .i64 (j:Int))/\w1.cell? ⟨X,3,none⟩=some (.map (some m))/\w1.cell? (ak Nb)=some (.int .i64 (l:Int))/\w1.cell? ⟨Nb,1,none⟩=some (.int .i64 mo)/\w1.cell? ⟨Nb,2,none⟩=some (.bool lz)/\w1.cell? ⟨Nb,3,none⟩=some (.iface ty y)/\w1.cell? (ak w.heap.size)=some (.int .i64 (d:Int))))
  (hnd:∀w1,au 110 #[.agg #[.int .i64 (l:Int),.int .i64 mo,.bool lz,.iface ty y],.int .i64 ((d:Int)+1)] w1 (fun e w2=>e=.returned (.int .i64 (nd:Int))/\Za ai w1 w2))
  (hrm:∀w1,au 111 #[.agg #[.int .i64 (l:Int),.int .i64 mo,.bool lz,.iface ty y],.int .i64 ((d:Int)+1)] w1 (fun e w2=>e=.returned (.int .u8 (rm:Int))/\Za ai w1 w2))
  (hof:∀w1,Za ai w w1->aP w1 w.heap.size 3 (.int .i64 (d:Int))->aP w1 (w.heap.size+1) 36 (.slice ag ng cg)->au 105 #[.agg #[.map (some m)],.agg #[.int .i64 (j:Int),.int .i64 (nd:Int)]] w1 (fun e w2 =>∃r,e=.returned ((ae r))/\Hid (R r w2)/\(w2.cell? (ak A)=some ((ae X))/\w2.cell? (ak J)=some (.int .i64 (j:Int))/\w2.cell? ⟨X,3,none⟩=some (.map (some m))/\w2.cell? (ak Nb)=some (.int .i64 (l:Int))/\w2.cell? ⟨Nb,1,none⟩=some (.int .i64 mo)/\w2.cell? ⟨Nb,2,none⟩=some (.bool lz)/\w2.cell? ⟨Nb,3,none⟩=some (.iface ty y)/\w2.cell? (ak w.heap.size)=some (.int .i64 (d:Int)))))
  (hat:∀r w3 w4,R r w3->Za ai w3 w4->w4.cell? (ak At)=some (.func (.func fat) #[] capat)/\au fat (#[.int .i64 (p:Int)]++capat) w4 (fun e w5 =>∃ao n cp,e=.returned (.slice ao n cp)/\n<=1000/\Hid (I r ao n cp 0 w5)))
  (hone:∀r ao n cp i w',I r ao n cp i w'->i<n->∃(g q:Nat) (av:Option Addr) (nv cv:Nat),ao=some ⟨g,0,none⟩/\w'.cell? ⟨g,i*2,none⟩=some (.int .i64 (q:Int))/\w'.cell? ⟨g,i*2+1,none⟩=some (.slice av nv cv)/\w'.cell? (ak Nb)=some (.int .i64 (l:Int))/\w'.cell? (ak w.heap.size)=some (.int .i64 (d:Int))/\
   Hid ((l:Int)<=(d:Int)->(q:Int)=(p:Int)->∀w2,Za ai w' w2->I r ao n cp (i+1) w2)/\
   Hid (¬((l:Int)<=(d:Int)/\(q:Int)=(p:Int))->∀w2 Eb,Za ai w' w2->w'.heap.size<=Eb->w2.heap[Eb]?=some (.cells #[.int .i64 (q:Int),.slice av nv cv] 135 (0,0))->
    au 106 #[ae r,.int .i64 (q:Int),.int .u8 (rm:Int),.func (.func 112) #[] #[ae Gb,ae w.heap.size,ae Eb,.pointer (some ⟨w.heap.size+1,0,none⟩)]] w2 (fun e w3 =>∃b,e=.returned (.bool b)/\Hid (b=true->I r ao n cp (i+1) w3)/\Hid (b=false->Q (.returned (.bool false)) w3))))
  (hend:∀r ao n cp w',I r ao n cp n w'->Q (.returned (.bool true)) w') :
  au 109 (#[.int .i64 (d:Int),.int .i64 (p:Int),.slice ag ng cg]++#[ae Nb,ae A,ae J,ae At,ae Gb]) w Q:=by
 unfold jE at hcf;have mR:∀(fn:Fn) (first cap:Array Value) (w:World),(Instr.makeFunc fn first cap).run Tryz.prog w=.ok (.func fn first cap) w:=fun _ _ _ _=>rfl;have hwr:IntKind.i64.wrap ((d:Int)+1)=(d:Int)+1:=IntWalk.i64_in _ ⟨by omega,by omega⟩;have kA:Za ai w ((w.alloc (.cells #[.int .i64 (d:Int)] 3)).alloc (.cells #[.slice ag ng cg] 36)):=((Za.refl _ w).alloc _).alloc _;have b1:aP ((w.alloc (.cells #[.int .i64 (d:Int)] 3)).alloc (.cells #[.slice ag ng cg] 36)) w.heap.size 3 (.int .i64 (d:Int)):=fU w _ _;have b2:aP ((w.alloc (.cells #[.int .i64 (d:Int)] 3)).alloc (.cells #[.slice ag ng cg] 36)) (w.heap.size+1) 36 (.slice ag ng cg):=gH w _ _;go_enter Tryz.func109,Tryz.ntmps109;go_upto_region 1 with fail;generalize ((w.alloc (.cells #[.int .i64 (d:Int)] 3)).alloc (.cells #[.slice ag ng cg] 36))=w2 at kA b1 b2 ⊢;have kd:Za ai w w2.drew:=kA.drew;have hS1:=hS w2 kA b1;have hS0:=hS w2.drew kd b1;obtain⟨-,-,-,-,cmo,-,-,cdd⟩:=hS1;have xn:=hnd w2.drew;have il:∀w3,Za ai w2.drew w3->au 105 #[.agg #[.map (some m)],.agg #[.int .i64 (j:Int),.int .i64 (nd:Int)]] w3 (fun e w2 =>∃r,e=.returned ((ae r))/\Hid (R r w2)/\(w2.cell? (ak A)=some ((ae X))/\w2.cell? (ak J)=some (.int .i64 (j:Int))/\w2.cell? ⟨X,3,none⟩=some (.map (some m))/\w2.cell? (ak Nb)=some (.int .i64 (l:Int))/\w2.cell? ⟨Nb,1,none⟩=some (.int .i64 mo)/\w2.cell? ⟨Nb,2,none⟩=some (.bool lz)/\w2.cell? ⟨Nb,3,none⟩=some (.iface ty y)/\w2.cell? (ak w.heap.size)=some (.int .i64 (d:Int)))) :=
  fun w3 k3=>hof w3 (kd.trans k3) ((show aP w2.drew _ _ _ from b1).keeps k3 id) ((show aP w2.drew _ _ _ from b2).keeps k3 id)
 clear hof hS hnd b1 b2 kA kd;generalize w.heap.size=pb at *;have HO:Hid (∀r ao n cp i w',I r ao n cp i w'->i<n->∃(g q:Nat) (av:Option Addr) (nv cv:Nat),ao=some ⟨g,0,none⟩/\w'.cell? ⟨g,i*2,none⟩=some (.int .i64 (q:Int))/\w'.cell? ⟨g,i*2+1,none⟩=some (.slice av nv cv)/\w'.cell? (ak Nb)=some (.int .i64 (l:Int))/\w'.cell? (ak pb)=some (.int .i64 (d:Int))/\
   Hid ((l:Int)<=(d:Int)->(q:Int)=(p:Int)->∀w2,Za ai w' w2->I r ao n cp (i+1) w2)/\
   Hid (¬((l:Int)<=(d:Int)/\(q:Int)=(p:Int))->∀w2 Eb,Za ai w' w2->w'.heap.size<=Eb->w2.heap[Eb]?=some (.cells #[.int .i64 (q:Int),.slice av nv cv] 135 (0,0))->
    au 106 #[ae r,.int .i64 (q:Int),.int .u8 (rm:Int),.func (.func 112) #[] #[ae Gb,ae pb,ae Eb,.pointer (some ⟨pb+1,0,none⟩)]] w2 (fun e w3 =>∃b,e=.returned (.bool b)/\Hid (b=true->I r ao n cp (i+1) w3)/\Hid (b=false->Q (.returned (.bool false)) w3)))):=hone
 have HAt:Hid (∀r w3 w4,R r w3->Za ai w3 w4->w4.cell? (ak At)=some (.func (.func fat) #[] capat)/\au fat (#[.int .i64 (p:Int)]++capat) w4 (fun e w5 =>∃ao n cp,e=.returned (.slice ao n cp)/\n<=1000/\Hid (I r ao n cp 0 w5))):=hat;have HE:Hid (∀r ao n cp w',I r ao n cp n w'->Q (.returned (.bool true)) w'):=hend;clear hone hat hend;go_upto_region 3 with fail;go_cut [12] from 17 (fun s wc =>∃r,s=(ae r)/\Hid (R r wc)/\(wc.cell? (ak A)=some ((ae X))/\wc.cell? (ak J)=some (.int .i64 (j:Int))/\wc.cell? ⟨X,3,none⟩=some (.map (some m))/\wc.cell? (ak Nb)=some (.int .i64 (l:Int))/\wc.cell? ⟨Nb,1,none⟩=some (.int .i64 mo)/\wc.cell? ⟨Nb,2,none⟩=some (.bool lz)/\wc.cell? ⟨Nb,3,none⟩=some (.iface ty y)/\wc.cell? (ak pb)=some (.int .i64 (d:Int))))
 case first =>
  go_region_held3 (fun w'=>(w'.cell? (ak A)=some ((ae X))/\w'.cell? (ak J)=some (.int .i64 (j:Int))/\w'.cell? ⟨X,3,none⟩=some (.map (some m))/\w'.cell? (ak Nb)=some (.int .i64 (l:Int))/\w'.cell? ⟨Nb,1,none⟩=some (.int .i64 mo)/\w'.cell? ⟨Nb,2,none⟩=some (.bool lz)/\w'.cell? ⟨Nb,3,none⟩=some (.iface ty y)/\w'.cell? (ak pb)=some (.int .i64 (d:Int)))) (first | assumption | go_keep) (first|((try rw[hwr]);go_at_call 110;refine xn.mono ?_;rintro e w3 ⟨rfl,hk3⟩;have rT:(w3.cell? (ak A)=some ((ae X))/\w3.cell? (ak J)=some (.int .i64 (j:Int))/\w3.cell? ⟨X,3,none⟩=some (.map (some m))/\w3.cell? (ak Nb)=some (.int .i64 (l:Int))/\w3.cell? ⟨Nb,1,none⟩=some (.int .i64 mo)/\w3.cell? ⟨Nb,2,none⟩=some (.bool lz)/\w3.cell? ⟨Nb,3,none⟩=some (.iface ty y)/\w3.cell? (ak pb)=some (.int .i64 (d:Int))):=⟨Zf hS0.1 hk3,Zf hS0.2.1 hk3,Zf hS0.2.2.1 hk3,Zf hS0.2.2.2.1 hk3,Zf hS0.2.2.2.2.1 hk3,Zf hS0.2.2.2.2.2.1 hk3,Zf hS0.2.2.2.2.2.2.1 hk3,Zf hS0.2.2.2.2.2.2.2 hk3⟩;have Ak:=il w3 hk3;clear il)|(go_at_call 105;refine Ak.mono ?_;rintro e w4 ⟨r,rfl,HR,dE⟩))
  all_goals (try go_wp2_with fail)
  all_goals go_meet
  all_goals exact⟨r,rfl,HR,dE⟩
 case rest =>
  obtain⟨r,rfl,HR,-,-,-,n0,n1,n2,n3,dc⟩:=hcut;clear xn il hS0 cmo cdd;have FI:=hrm wc;go_wp2_with(first|((try rw[hwr]);go_at_call 111;refine FI.mono ?_;rintro e w4 ⟨rfl,hk4⟩;obtain⟨cat,hat⟩:=HAt.out r wc w4 HR.out hk4)|((with_reducible (refine hat.mono ?_));rintro e w5 ⟨ao,n,cp,rfl,hn,HI⟩))
  clear hrm FI HAt HR n0 n1 n2 n3 dc hwr hne;go_loopg [15,16,40] (n+1) (fun gl _ _ s40 wr =>∃k:Nat,k+gl=n+1/\k<=n/\s40=.int .i64 (k:Int)/\Hid (I r ao n cp k wr))
  case atStart=>exact⟨0,by omega,by omega,rfl,HI⟩
  case round =>
   clear HI;obtain⟨k,hgl,hk,rfl,HI⟩:=hrel;have HG:Hid (k+gk=n+1):=hgl;clear hgl
   by_cases hlt:k<n
   ·have hz:(k:Int)<(n:Int):=by omega
    obtain⟨g,q,av,nv,cv,rfl,e0,e1,Xc,cd,M4,HV⟩:=HO.out r ao n cp k wr HI.out hlt;clear HO HE HI;go_upto_region 8 with fail;have kB:Za ai wr (wr.alloc (.cells #[.int .i64 (q:Int),.slice av nv cv] 135)):=(Za.refl _ wr).alloc _;have hb:(wr.alloc (.cells #[.int .i64 (q:Int),.slice av nv cv] 135)).heap[wr.heap.size]? = _:=heap_alloc_new _ _;generalize (wr.alloc (.cells #[.int .i64 (q:Int),.slice av nv cv] 135))=w6 at kB hb ⊢;have Ha:wr.heap.size<=wr.heap.size:=Nat.le_refl _;have f0:w6.cell? (ak wr.heap.size)=some (.int .i64 (q:Int)):=by rw[Zc hb];rfl
    have f1:=Zf Xc kB;have f2:=Zf cd kB;clear e0 e1 Xc cd
    by_cases h1:(l:Int)<=(d:Int)
    ·by_cases h2:(q:Int)=(p:Int)
     ·have HN:Hid (I r (some ⟨g,0,none⟩) n cp (k+1) w6):=M4.out h1 h2 w6 kB;clear M4 HV hb;generalize wr.heap.size=eb at *;go_wp2_with fail;go_roundg (gk-1)
      case measure=>have:=HG.out;omega
      case rel=>exact⟨k+1,by have:=HG.out;omega,by omega,congrArg (Value.int .i64) (by omega),HN⟩
     ·have mF:=HV.out (fun h=>h2 h.2) w6 wr.heap.size kB Ha hb;clear M4 HV hb;generalize wr.heap.size=eb at *;go_wp2_with(go_at_call 106;refine mF.mono ?_;rintro e w7 ⟨b,rfl,HT,HF⟩;cases b)
      ·exact HF.out (by first | exact trivial | rfl)
      ·go_roundg (gk-1)
       case measure=>have:=HG.out;omega
       case rel=>exact⟨k+1,by have:=HG.out;omega,by omega,congrArg (Value.int .i64) (by omega),HT.out (by first | exact trivial | rfl)⟩
    ·have mF:=HV.out (fun h=>h1 h.1) w6 wr.heap.size kB Ha hb;clear M4 HV hb;generalize wr.heap.size=eb at *;go_wp2_with(go_at_call 106;refine mF.mono ?_;rintro e w7 ⟨b,rfl,HT,HF⟩;cases b)
     ·exact HF.out (by first | exact trivial | rfl)
     ·go_roundg (gk-1)
      case measure=>have:=HG.out;omega
      case rel=>exact⟨k+1,by have:=HG.out;omega,by omega,congrArg (Value.int .i64) (by omega),HT.out (by first | exact trivial | rfl)⟩
   ·obtain rfl:k=n:=by omega
    have hQ:=HE.out r ao k cp wr HI.out;clear HO HE HI;go_wp2;exact hQ
end Go.Proofs.YtfkflljplohhcaaGreatDoor
