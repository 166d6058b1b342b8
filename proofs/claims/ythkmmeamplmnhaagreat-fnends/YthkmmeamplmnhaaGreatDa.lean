import Derived.Test.YthkmmeamplmnhaaGreatN
namespace Go.Proofs.YthkmmeamplmnhaaGreat
set_option linter.unusedVariables false
theorem mod_half (P z y:Nat) (h:z % P=y % P) (hP:0 < P):z % (2 * P)=y % (2 * P)∨(z + P) % (2 * P)=y % (2 * P):=by
 have hz:=Nat.div_add_mod z P
 have hy:=Nat.div_add_mod y P
 have hz2:z % (2 * P)=z % P + P * (z / P % 2):=by rw [Nat.mul_comm 2 P,Nat.mod_mul]
 have hy2:y % (2 * P)=y % P + P * (y / P % 2):=by rw [Nat.mul_comm 2 P,Nat.mod_mul]
 have hw2:(z + P) % (2 * P)=(z + P) % P + P * ((z + P) / P % 2):=by rw [Nat.mul_comm 2 P,Nat.mod_mul]
 have e1:(z + P) % P=z % P:=by simp
 have e2:(z + P) / P=z / P + 1:=by rw [Nat.add_div_right _ hP]
 rw [hz2,hy2,hw2,e1,e2,h]
 rcases Nat.mod_two_eq_zero_or_one (z / P) with a | a <;> rcases Nat.mod_two_eq_zero_or_one (y / P) with b | b
 ·left; rw [a,b]
 ·right; have:(z / P + 1) % 2=1:=by omega
  rw [this,b]
 ·right; have:(z / P + 1) % 2=0:=by omega
  rw [this,b]
 ·left; rw [a,b]
def lit:Nat→Nat→Nat
 | 0,x=>x
 | k + 1,x=>lit k (x * 6364136223846793005 + 1442695040888963407)
theorem lit_add (j k x:Nat):lit (k + j) x=lit j (lit k x):=by
 induction k generalizing x with
 | zero=>simp [lit]
 | succ k ih=>rw [Nat.add_right_comm]; simp only [lit]; exact ih _
theorem lit_pow (n:Nat) :∃t u:Nat,∀x,lit (2 ^ n) x=(1 + 2 ^ (n + 2) * t) * x + 2 ^ n * (2 * u + 1):=by
 induction n with
 | zero=>exact ⟨1591034055961698251,721347520444481703,fun x=>by simp [lit]; omega⟩
 | succ n ih =>
   obtain ⟨t,u,h⟩:=ih
   refine ⟨t + 2 ^ (n + 1) * t * t,u + 2 ^ n * t * (2 * u + 1),fun x=>?_⟩
   have e:2 ^ (n + 1)=2 ^ n + 2 ^ n:=by rw [Nat.pow_succ]; omega
   rw [e,lit_add,h,h]
   have e2:2 ^ (n + 2)=4 * 2 ^ n:=by rw [Nat.pow_add]; omega
   have e3:2 ^ (n + 1 + 2)=8 * 2 ^ n:=by rw [Nat.pow_add,Nat.pow_add]; omega
   rw [e2,e3]
   generalize 2 ^ n=P
   clear h e e2 e3
   grind
theorem lit_reach (n x y:Nat) :∃k,k < 2 ^ n∧lit k x % 2 ^ n=y % 2 ^ n:=by
 induction n with
 | zero=>exact ⟨0,by simp,by simp [Nat.mod_one]⟩
 | succ n ih =>
   obtain ⟨k,hk,h⟩:=ih
   have hP:0 < 2 ^ n:=Nat.pow_pos (by omega)
   have e:2 ^ (n + 1)=2 * 2 ^ n:=by rw [Nat.pow_succ]; omega
   rcases mod_half _ _ _ h hP with h1 | h1
   ·exact ⟨k,by omega,by rw [e]; exact h1⟩
   ·refine ⟨k + 2 ^ n,by omega,?_⟩
    obtain ⟨t,u,hp⟩:=lit_pow n
    rw [lit_add,hp,e,← h1]
    have e2:2 ^ (n + 2)=4 * 2 ^ n:=by rw [Nat.pow_add]; omega
    rw [e2]
    generalize lit k x=z
    generalize 2 ^ n=P
    have:(1 + 4 * P * t) * z + P * (2 * u + 1)=z + P + 2 * P * (2 * t * z + u):=by
     clear hp h h1 hk hP e e2
     grind
    rw [this,Nat.add_mul_mod_self_left]
def stp (s b:Nat):Nat:=(s * 6364136223846793005 + b + 1442695040888963407) % 2 ^ 64
theorem stp0 (s:Nat):stp s 0=(s * 6364136223846793005 + 1442695040888963407) % 2 ^ 64:=by unfold stp; omega
def sd (cs:List Nat):Nat→Nat
 | 0=>0
 | p + 1=>stp (sd cs p) (cs.getD p 0)
def dr (cs:List Nat) (p:Nat):Nat:=if p < cs.length then cs.getD p 0 else sd cs (p + 1) / 2 ^ 40 % 256
def win (cs:List Nat) (q:Nat):Prop :=∀i,i < 17→dr cs (q + i) % 6≠0
theorem dr_lt {cs:List Nat} (h :∀c∈cs,c < 256) (p:Nat):dr cs p < 256:=by
 unfold dr
 split
 ·rename_i hp
  rw [List.getD_eq_getElem?_getD,List.getElem?_eq_getElem hp]
  exact h _ (List.getElem_mem hp)
 ·exact Nat.mod_lt _ (by omega)
theorem lit_succ (k x:Nat):lit (k + 1) x=lit k x * 6364136223846793005 + 1442695040888963407:=by rw [lit_add]; rfl
theorem step_mod (M a b A C:Nat) (h:a % M=b % M):(a * A + C) % M=(b * A + C) % M:=by
 rw [Nat.add_mod,Nat.mul_mod,h,← Nat.mul_mod,← Nat.add_mod]
theorem sd_far (cs:List Nat) (p:Nat) (hp:cs.length≤p):sd cs (p + 1)=(sd cs p * 6364136223846793005 + 1442695040888963407) % 2 ^ 64:=by
 have hd:cs.getD p 0=0:=by rw [List.getD_eq_getElem?_getD,List.getElem?_eq_none (by omega)]; rfl
 rw [sd,hd,stp0]
theorem sd_lit (M:Nat) (hM:M ∣ 2 ^ 64) (cs:List Nat) (p:Nat) (hp:cs.length≤p) (k:Nat):sd cs (p + k) % M=lit k (sd cs p) % M:=by
 induction k with
 | zero=>rw [Nat.add_zero,lit]
 | succ k ih =>
   rw [← Nat.add_assoc,sd_far cs _ (by omega),Nat.mod_mod_of_dvd _ hM,lit_succ]
   exact step_mod _ _ _ _ _ ih
theorem lit_mod (M k x:Nat):lit k x % M=lit k (x % M) % M:=by
 induction k with
 | zero=>simp [lit]
 | succ k ih=>rw [lit_succ,lit_succ]; exact step_mod _ _ _ _ _ ih
theorem hi_mod (s:Nat):s / 2 ^ 40 % 256=s % 2 ^ 48 / 2 ^ 40:=by omega
theorem lit_win :∀i,i < 17→lit (i + 1) 1 % 2 ^ 48 / 2 ^ 40 % 6≠0:=by decide
theorem win_ahead (cs:List Nat) (p:Nat) :∃q,p≤q∧q≤p + cs.length + 2 ^ 48∧win cs q:=by
 obtain ⟨k,hk,h⟩:=lit_reach 48 (sd cs (p + cs.length)) 1
 refine ⟨p + cs.length + k,by omega,by omega,fun i hi=>?_⟩
 unfold dr
 rw [if_neg (by omega),hi_mod,Nat.add_assoc,Nat.add_assoc,sd_lit (2 ^ 48) ⟨2 ^ 16,by decide⟩ cs _ (by omega),lit_add,lit_mod,h]
 exact lit_win i hi
theorem win_near (cs:List Nat) (h:cs.length≤1048576) (p:Nat) :∃q,p≤q∧q + 100≤p + 562949953421312∧win cs q:=by
 obtain ⟨q,h1,h2,h3⟩:=win_ahead cs p
 exact ⟨q,h1,by omega,h3⟩
end Go.Proofs.YthkmmeamplmnhaaGreat
namespace Go.Proofs.YthkmmeamplmnhaaGreat
open Go.RowKit
set_option linter.unusedVariables false
def Dc (w:World) (ao:Option Addr) (cs:List Nat):Prop:=(∀c∈cs,c < 256)∧(0 < cs.length→∃a,ao=some a∧∀(i c:Nat),cs[i]? = some c→w.cell? (a.add i)=some (.int .u8 (c:Int)))
def Du (w:World) (R:Nat) (ao:Option Addr) (n cap:Nat) (p s:Int):Prop:=w.heap[R]? = some (.cells #[.slice ao n cap,.int .i64 p,.int .u64 s] 54 (0,0))
namespace Du
variable {w w':World} {R n cap:Nat} {ao:Option Addr} {p s:Int}
theorem lt (h:Du w R ao n cap p s):R < w.heap.size:=lt_of_block h
theorem c0 (h:Du w R ao n cap p s):w.cell? ⟨R,0,none⟩=some (.slice ao n cap):=by rw [cell_of h]; rfl
theorem c1 (h:Du w R ao n cap p s):w.cell? ⟨R,1,none⟩=some (.int .i64 p):=by rw [cell_of h]; rfl
theorem c2 (h:Du w R ao n cap p s):w.cell? ⟨R,2,none⟩=some (.int .u64 s):=by rw [cell_of h]; rfl
theorem fz (h:Du w R ao n cap p s) (i:Nat):w.frozen? ⟨R,i,none⟩=false:=free_of h
theorem keeps {E:Nat→Prop} (h:Du w R ao n cap p s) (k:Keeps E w w') (hE:¬ E R):Du w' R ao n cap p s:=by
 unfold Du at h ⊢; rw [k.block R (lt_of_block h) hE]; exact h
theorem set1 (h:Du w R ao n cap p s) (x:Int):Du (w.setCell ⟨R,1,none⟩ (.int .i64 x)) R ao n cap x s:=by unfold Du; rw [heap_setCell_same _ _ _ _ _ _ h]; rfl
theorem set2 (h:Du w R ao n cap p s) (x:Int):Du (w.setCell ⟨R,2,none⟩ (.int .u64 x)) R ao n cap p x:=by unfold Du; rw [heap_setCell_same _ _ _ _ _ _ h]; rfl
end Du
theorem d_cell_same {w w':World} {a:Addr} (h:w'.heap[a.block]? = w.heap[a.block]?):w'.cell? a=w.cell? a:=by
 simp [World.cell?,h]
theorem d_add_block (a:Addr) (i:Nat):(a.add i).block=a.block:=by
 by_cases h:i=0 <;> simp [Addr.add,h]
theorem Dc.keeps {w w':World} {ao:Option Addr} {cs:List Nat} {E:Nat→Prop} (h:Dc w ao cs) (k:Keeps E w w') (hb :∀a,ao=some a→a.block < w.heap.size∧¬ E a.block):Dc w' ao cs:=by
 obtain ⟨h1,h2⟩:=h
 refine ⟨h1,fun hl=>?_⟩
 obtain ⟨a,ha,h3⟩:=h2 hl
 refine ⟨a,ha,fun i c hc=>?_⟩
 rw [d_cell_same (k.block (a.add i).block (by rw [d_add_block]; exact (hb a ha).1) (by rw [d_add_block]; exact (hb a ha).2))]
 exact h3 i c hc
structure Dw (w:World) (R:Nat) (ao:Option Addr) (cs:List Nat) (cap p:Nat):Prop where
 cur:Du w R ao cs.length cap ((p:Nat):Int) ((sd cs p:Nat):Int)
 code:Dc w ao cs
 apart :∀a,ao=some a→a.block < w.heap.size∧a.block≠R
namespace Dw
variable {w w':World} {R cap p p':Nat} {ao:Option Addr} {cs:List Nat}
theorem same (h:Dw w R ao cs cap p) (k:Keeps (fun _=>False) w w'):Dw w' R ao cs cap p :=
 ⟨h.cur.keeps k (fun h=>h),h.code.keeps k (fun a ha=>⟨(h.apart a ha).1,fun h=>h⟩),fun a ha=>⟨Nat.lt_of_lt_of_le (h.apart a ha).1 k.size,(h.apart a ha).2⟩⟩
theorem moved (h:Dw w R ao cs cap p) (k:Keeps (fun k=>k=R) w w') (c:Du w' R ao cs.length cap ((p':Nat):Int) ((sd cs p':Nat):Int)):Dw w' R ao cs cap p' :=
 ⟨c,h.code.keeps k (fun a ha=>⟨(h.apart a ha).1,(h.apart a ha).2⟩),fun a ha=>⟨Nat.lt_of_lt_of_le (h.apart a ha).1 k.size,(h.apart a ha).2⟩⟩
end Dw
theorem sd_lt (cs:List Nat) (p:Nat):sd cs p < 2 ^ 64:=by
 cases p with
 | zero=>simp [sd]
 | succ p=>simp only [sd,stp]; exact Nat.mod_lt _ (by omega)
theorem wrap_stp (s b:Nat):IntKind.u64.wrap (IntKind.u64.wrap (IntKind.u64.wrap ((s:Int) * 6364136223846793005) + (b:Int)) + 1442695040888963407)=((stp s b:Nat):Int):=by
 unfold IntKind.wrap stp
 simp [IntKind.bits,IntKind.signed]
theorem wrap_stp0 (s:Nat):IntKind.u64.wrap (IntKind.u64.wrap ((s:Int) * 6364136223846793005) + 1442695040888963407)=((stp s 0:Nat):Int):=by
 rw [stp0]
 unfold IntKind.wrap
 simp [IntKind.bits,IntKind.signed]
def DrawPost (cs:List Nat) (R:Nat) (ao:Option Addr) (cap p k:Nat) (w:World) (e:Ending) (w':World):Prop :=
 e = .returned (.int .i64 (k:Int))∧Dw w' R ao cs cap (p + 1)∧Keeps (fun k=>k=R) w w'
set_option maxHeartbeats 1000000 in
set_option maxRecDepth 100000 in
theorem dnext_in {w:World} {R cap p:Nat} {ao:Option Addr} {cs:List Nat} (hD:Dw w R ao cs cap p) (hp:p < cs.length) (hp2:p≤1048576) :
  Calls Tryz.prog 68 #[.pointer (some ⟨R,0,none⟩)] w (DrawPost cs R ao cap p (dr cs p) w):=by
 obtain ⟨hlt,hrd⟩:=hD.code
 obtain ⟨a,rfl,hcell⟩:=hrd (by omega)
 have hx:cs[p]? = some cs[p]:=List.getElem?_eq_getElem hp
 have hxl:=hlt cs[p] (List.getElem_mem hp)
 have hg:cs.getD p 0=cs[p]:=by rw [List.getD_eq_getElem?_getD,hx]; rfl
 have HD:Hid (dr cs p=cs[p]):=(by show _ = _; unfold dr; rw [if_pos hp,hg])
 have HS:Hid (sd cs (p + 1)=stp (sd cs p) cs[p]):=(by show _ = _; rw [sd,hg])
 generalize cs[p]=x at hx hxl HD HS
 have cx:=hcell p x hx
 have hpz:(p:Int) < (cs.length:Int):=by omega
 have h:=hD.cur
 have c0:=h.c0; have c1:=h.c1; have c2:=h.c2; have f1:=h.fz 1; have f2:=h.fz 2
 have hw:IntKind.i64.wrap (x:Int)=(x:Int):=IntWalk.i64_in _ ⟨by omega,by omega⟩
 have hst:=wrap_stp (sd cs p) x
 generalize stp (sd cs p) x=s2 at hst HS
 generalize sd cs p=s0 at h c2 hst
 clear hrd hcell hlt hx hg
 go_enter Tryz.func68,Tryz.ntmps68
 go_wp2_with fail
 go_quiet (fail)
 go_wp2_with fail
 have k1:Keeps (fun _=>False) w (w.drewN nq):=(Keeps.refl _ w).drewN _
 have h1:=h.keeps k1 (fun h=>h)
 have cx1:(w.drewN nq).cell? (a.add p)=some (.int .u8 (x:Int)):=cx
 clear h cx c0 c1 c2 f1 f2
 generalize w.drewN nq=w1 at k1 h1 cx1 ⊢
 have c0:=h1.c0; have c1:=h1.c1
 go_quiet (fail)
 have k2:Keeps (fun _=>False) w1 (w1.drewN nq):=(Keeps.refl _ w1).drewN _
 have h2:=h1.keeps k2 (fun h=>h)
 replace k1:=k1.trans k2
 clear c0 c1 h1 cx1 k2
 generalize w1.drewN nq=w2 at k1 h2 ⊢
 have c1:=h2.c1; have f1:=h2.fz 1
 have h3:=h2.set1 ((p:Int) + 1)
 have d2:=h3.c2; have g2:=h3.fz 2
 have h4:=h3.set2 (s2:Int)
 go_wp2_with fail
 go_ret
 have kk:Keeps (fun k=>k=R) w _:=((k1.mono (E':=fun k=>k=R) (fun _ _ h=>h.elim)).trans (keepsS w2 R 1 (.int .i64 ((p:Int) + 1)))).trans (keepsS _ R 2 (.int .u64 (s2:Int)))
 exact ⟨by rw [HD.out]; rfl,hD.moved kk (by rw [HS.out]; exact h4),kk⟩
theorem d_and_255 (N:Nat) (hN:N < 2 ^ 64):bits .and .u64 ((N:Int) / 1099511627776) 255=((N / 2 ^ 40 % 256:Nat):Int):=by
 have e:((N:Int) / 1099511627776)=((N / 1099511627776:Nat):Int):=by simp
 have h1:N / 1099511627776 < 2 ^ 64:=Nat.lt_of_le_of_lt (Nat.div_le_self _ _) hN
 have:=(bits_u64 (N / 1099511627776) 255 h1 (by decide)).1
 have e2:((255:Nat):Int)=255:=rfl
 rw [e2] at this
 rw [e,this]
 have e3:N / 1099511627776 &&& 255=N / 1099511627776 % 256:=Nat.and_two_pow_sub_one_eq_mod _ 8
 rw [e3]
set_option maxHeartbeats 1000000 in
set_option maxRecDepth 100000 in
theorem dnext_out {w:World} {R cap p:Nat} {ao:Option Addr} {cs:List Nat} (hD:Dw w R ao cs cap p) (hp:¬ p < cs.length) (hp2:p≤1152921504606846976) :
  Calls Tryz.prog 68 #[.pointer (some ⟨R,0,none⟩)] w (DrawPost cs R ao cap p (dr cs p) w):=by
 have HD:Hid (dr cs p=sd cs (p + 1) / 2 ^ 40 % 256):=(by show _ = _; unfold dr; rw [if_neg hp])
 have hg:cs.getD p 0=0:=by rw [List.getD_eq_getElem?_getD,List.getElem?_eq_none (by omega)]; rfl
 have hst:=wrap_stp0 (sd cs p)
 have hS:sd cs (p + 1)=stp (sd cs p) 0:=by rw [sd,hg]
 rw [← hS] at hst
 have hNl:=sd_lt cs (p + 1)
 have hx:=d_and_255 _ hNl
 have hxl:sd cs (p + 1) / 2 ^ 40 % 256 < 256:=Nat.mod_lt _ (by omega)
 generalize sd cs (p + 1) / 2 ^ 40 % 256=x at HD hx hxl
 have hpz:(cs.length:Int)≤(p:Int):=by omega
 have h:=hD.cur
 have c0:=h.c0; have c1:=h.c1
 have HN:Hid (∀w',Keeps (fun k=>k=R) w w'→Du w' R ao cs.length cap ((p + 1:Nat):Int) ((sd cs (p + 1):Nat):Int)→Dw w' R ao cs cap (p + 1)):=(by show∀_,_; intro w' k c; exact hD.moved k c)
 generalize sd cs (p + 1)=N at hst hx hNl HN
 generalize sd cs p=s0 at h hst
 clear hp hg hS
 go_enter Tryz.func68,Tryz.ntmps68
 go_wp2_with fail
 go_quiet (fail)
 have k1:Keeps (fun _=>False) w (w.drewN nq):=(Keeps.refl _ w).drewN _
 have h1:=h.keeps k1 (fun h=>h)
 clear h c0 c1
 generalize w.drewN nq=w1 at k1 h1 ⊢
 have hwx:IntKind.i64.wrap (x:Int)=(x:Int):=IntWalk.i64_in _ ⟨by omega,by omega⟩
 have c2:=h1.c2; have f2:=h1.fz 2
 have h2:=h1.set2 (N:Int)
 have d1:=h2.c1; have g1:=h2.fz 1; have d2:=h2.c2
 have h3:=h2.set1 ((p:Int) + 1)
 have e2:=h3.c2
 go_wp2_with fail
 go_ret
 have kk:Keeps (fun k=>k=R) w _:=((k1.mono (E':=fun k=>k=R) (fun _ _ h=>h.elim)).trans (keepsS w1 R 2 (.int .u64 (N:Int)))).trans (keepsS _ R 1 (.int .i64 ((p:Int) + 1)))
 exact ⟨by rw [HD.out]; rfl,HN.out _ kk h3,kk⟩
theorem dnext {w:World} {R cap p:Nat} {ao:Option Addr} {cs:List Nat} (hD:Dw w R ao cs cap p) (hl:cs.length≤1048576) (hp2:p≤1152921504606846976) :
  Calls Tryz.prog 68 #[.pointer (some ⟨R,0,none⟩)] w (DrawPost cs R ao cap p (dr cs p) w):=by
 by_cases hp:p < cs.length
 ·exact dnext_in hD hp (by omega)
 ·exact dnext_out hD hp hp2
set_option maxHeartbeats 1000000 in
set_option maxRecDepth 100000 in
theorem dpick {w:World} {R cap p:Nat} {ao:Option Addr} {cs:List Nat} {z:Int} (hD:Dw w R ao cs cap p) (hl:cs.length≤1048576) (hp2:p≤1152921504606846976) (h1:1 < z) (h2:z≤200) :
  Calls Tryz.prog 49 #[.pointer (some ⟨R,0,none⟩),.int .i64 z] w fun e w' =>∃k:Nat,k=dr cs p % z.toNat∧(k:Int) < z∧e = .returned (.int .i64 (k:Int))∧Dw w' R ao cs cap (p + 1)∧Keeps (fun k=>k=R) w w':=by
 have hn:=dnext hD hl hp2
 unfold DrawPost at hn
 have hx:dr cs p < 256:=dr_lt hD.code.1 p
 have hz1:¬ z≤1:=by omega
 have hz2:¬ 200 < z:=by omega
 have hz0:z≠0:=by omega
 have hzb:(z == 0)=false:=by simp [hz0]
 have hm:((dr cs p:Nat):Int).tmod z=((dr cs p % z.toNat:Nat):Int):=by
  rw [Int.tmod_eq_emod_of_nonneg (by omega)]
  rw [Int.natCast_emod,Int.toNat_of_nonneg (by omega)]
 have hml:((dr cs p % z.toNat:Nat):Int) < z:=by
  rw [Int.natCast_emod,Int.toNat_of_nonneg (by omega)]
  exact Int.emod_lt_of_pos _ (by omega)
 have HK:Hid (∃k:Nat,k=dr cs p % z.toNat):=⟨_,rfl⟩
 generalize hk:dr cs p % z.toNat=k at hm hml
 have HK:Hid (k=dr cs p % z.toNat):=hk.symm
 clear hk
 generalize hd:dr cs p=x at hn hx hm
 have HD:Hid (dr cs p=x):=hd
 clear hd
 go_enter Tryz.func49,Tryz.ntmps49
 go_wp2_with (first
  | (go_at_call 68; refine hn.mono ?_; rintro e w2 ⟨rfl,hC,hk⟩))
 go_ret
 exact ⟨k,rfl,hml,rfl,hC,hk⟩
end Go.Proofs.YthkmmeamplmnhaaGreat
