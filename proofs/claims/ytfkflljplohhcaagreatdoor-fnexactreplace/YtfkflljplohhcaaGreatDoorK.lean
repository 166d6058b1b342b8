import Derived.Test.YtfkflljplohhcaaGreatDoorJ
set_option maxHeartbeats 4000000
set_option maxRecDepth 1000000
namespace Go.Proofs.YtfkflljplohhcaaGreatDoor
open Go.RowKit
set_option linter.unusedVariables false
def Zts (alt:Nat->Nat->Rd3) (room:Bool) (s:ByteArray) (R P B:Nat) (res:Except Nat (List Pf×Nat×Nat)) (w:World) (v:Value) (L:List Pm) (fu:Nat) (wr:World):Prop :=
 (∃(q g':Nat) (v':Value) (L':List Pm) (fs:List Pf) (kv:Value),q<=s.size/\g'<=9/\s.size - q < fu/\Z0 alt room s fu q g' fs=res/\Sp wr R s q (-1) g' v' L'/\L'.map (·.1)=L.map (·.1) ++ cat fs L.length/\
  Pb wr P (ZI 3 []) (.slice none 0 0) kv/\wr.ownsRow w.heap.size 3 1 kv (ends fs L.length).length (Zgu (ends fs L.length))/\(ends fs L.length).length + fu<=122/\Zfk L' kv/\¬ v'.ownBlock=some P/\Stp R w v wr v'/\New w L L'/\L'.length + 3 * (s.size - q)<=1001)\/
 (∃(x:Nat) (a g':Int) (v':Value) (L':List Pm) (kv:Value) (ks:List Int),res = .error x/\Sp wr R s a x g' v' L'/\
  Pb wr P (ZI 3 []) (.slice none 0 0) kv/\wr.ownsRow w.heap.size 3 1 kv ks.length (Zgu ks)/\Stp R w v wr v'/\New w L L'/\L'.length<=B)
theorem Zgn {alt:Nat->Nat->Rd3} {room:Bool} {s:ByteArray} {fu q g:Nat} {fs:List Pf} (h:bt s q≠124):Z0 alt room s (fu + 1) q g fs = .ok (fs,q,g):=by
 rw [Z0,if_neg h]
theorem ZhJ {alt:Nat->Nat->Rd3} {room:Bool} {s:ByteArray} {fu q g x:Nat} {fs:List Pf} (h:bt s q=124) (hp:ZH alt room s (q + 1) g = .error x):Z0 alt room s (fu + 1) q g fs = .error x:=by
 rw [Z0,if_pos h,hp]
theorem Zgm {alt:Nat->Nat->Rd3} {room:Bool} {s:ByteArray} {fu q g q1 g1:Nat} {f:Pf} {fs:List Pf} (h:bt s q=124) (hp:ZH alt room s (q + 1) g = .ok (f,q1,g1)):Z0 alt room s (fu + 1) q g fs=Z0 alt room s fu q1 g1 (fs ++ [f]):=by
 rw [Z0,if_pos h,hp]
theorem ZmT {alt:Nat->Nat->Rd3} {room:Bool} {s:ByteArray} {p g x:Nat} (h:ZH alt room s p g = .error x):Jd alt room s p g = .error x:=by simp [Jd,h]
theorem Zgk {alt:Nat->Nat->Rd3} {room:Bool} {s:ByteArray} {p g q g':Nat} {f:Pf} (h:ZH alt room s p g = .ok (f,q,g')) (hb:bt s q≠124):Jd alt room s p g = .ok (f,q,g'):=by simp [Jd,h,hb]
theorem Zj6 {alt:Nat->Nat->Rd3} {room:Bool} {s:ByteArray} {p g q g' x:Nat} {f:Pf} (h:ZH alt room s p g = .ok (f,q,g')) (hb:bt s q=124) (hl:Z0 alt room s (s.size + 1) q g' [f] = .error x):Jd alt room s p g = .error x:=by simp [Jd,h,hb,hl]
theorem Zpq {alt:Nat->Nat->Rd3} {room:Bool} {s:ByteArray} {p g q g' q2 g2:Nat} {f:Pf} {fs:List Pf} (h:ZH alt room s p g = .ok (f,q,g')) (hb:bt s q=124) (hl:Z0 alt room s (s.size + 1) q g' [f] = .ok (fs,q2,g2)):Jd alt room s p g = .ok (JW fs,q2,g2):=by simp [Jd,h,hb,hl]
theorem Pb.altMade (w:World) (kv:Value):Pb (w.alloc (.cells #[.int .i64 3,.slice none 0 0,.int .i64 0,.int .i64 0,.bool false,.int .i64 0,kv] 114)) w.heap.size (ZI 3 []) (.slice none 0 0) kv:=heap_alloc_new _ _
theorem Zro {s:ByteArray} {alt:Nat->Nat->Rd3} {room:Bool} {deep B:Nat} (hA:ZsD s alt room deep B) {w:World} {R p g x:Nat} {v:Value} {L:List Pm} (S:Sp w R s p (-1) g v L) (hs:s.size<=120) (hp:p<=s.size) (hg:g<=9) (hF:L.length + 3 * (s.size - p)<=1000) (G:Zad s alt) (he:ZH alt room s p g = .error x) :
  Calls Tryz.prog 26 #[.pointer (some ⟨R,0,none⟩),.int .i64 deep] w (QI (Jd alt room s p g) R s (B + 1) w v L):=by
 have HX:Hid (ZH alt room s p g = .error x):=he;clear he;go_enter Tryz.func26,Tryz.ntmps26;go_wp2_with (first
  | (go_at_call 47; refine (hA _ _ _ _ _ _ S hs hp hg hF G).mono ?_; intro e w4 hpo; unfold QI at hpo; rw [HX.out] at hpo; obtain ⟨r,v4,L4,rfl,hS4,hB4,st4,hn4⟩:=hpo; obtain ⟨a4,g4,S4⟩:=hS4))
 go_quiet ((go_at_call 27; exact Calls.quiet_of (ZbL (S4.rd.drewN _))));go_wp2;go_ret;exact Ql (ZmT HX.out) (S4.drewN nq) (by omega) (st4.same ((Za.refl _ _).drewN _)) hn4
theorem Zrn {s:ByteArray} {alt:Nat->Nat->Rd3} {room:Bool} {deep B:Nat} (hA:ZsD s alt room deep B) {w:World} {R p g q g':Nat} {v:Value} {L:List Pm} {f:Pf} (S:Sp w R s p (-1) g v L) (hs:s.size<=120) (hp:p<=s.size) (hg:g<=9) (hF:L.length + 3 * (s.size - p)<=1000) (G:Zad s alt) (he:ZH alt room s p g = .ok (f,q,g')) (hb:bt s q≠124) :
  Calls Tryz.prog 26 #[.pointer (some ⟨R,0,none⟩),.int .i64 deep] w (QI (Jd alt room s p g) R s (B + 1) w v L):=by
 have HX:Hid (ZH alt room s p g = .ok (f,q,g')):=he;have HB:Hid (bt s q≠124):=hb
 by_cases hin:q < s.size
 ·have hqz:(q:Int) < (s.size:Int):=by omega
  have hc:s[q].toNat=bt s q:=(ZV hin).symm;obtain ⟨b,hbb⟩ :∃b,bt s q=b:=⟨_,rfl⟩;rw [hbb] at hc hb;have z1:((b:Int) != 124)=true:=by
   have:¬ (b:Int)=124:=by omega
   simpa using this
  clear hbb hb he;go_enter Tryz.func26,Tryz.ntmps26;go_wp2_with (first
   | (go_at_call 47; refine (hA _ _ _ _ _ _ S hs hp hg hF G).mono ?_; intro e w4 hpo; unfold QI at hpo; rw [HX.out] at hpo; obtain ⟨v4,L4,rfl,S4,hm4,st4,hn4⟩:=hpo; have c0:=S4.rd.c0; have c1:=S4.rd.c1))
  go_quiet ((go_at_call 27; exact Calls.quiet_of (ZK (S4.rd.drewN _) hs hin)));go_wp2;go_ret;exact Qg (Zgk HX.out HB.out) (S4.drewN nq) hm4 rfl (st4.same ((Za.refl _ _).drewN _)) hn4
 ·clear hb he;go_enter Tryz.func26,Tryz.ntmps26;go_wp2_with (first
   | (go_at_call 47; refine (hA _ _ _ _ _ _ S hs hp hg hF G).mono ?_; intro e w4 hpo; unfold QI at hpo; rw [HX.out] at hpo; obtain ⟨v4,L4,rfl,S4,hm4,st4,hn4⟩:=hpo))
  go_quiet ((go_at_call 27; exact Calls.quiet_of (ZaV (S4.rd.drewN _) hs hin)));go_wp2;go_ret;exact Qg (Zgk HX.out HB.out) (S4.drewN nq) hm4 rfl (st4.same ((Za.refl _ _).drewN _)) hn4
theorem Zpo {s:ByteArray} {alt:Nat->Nat->Rd3} {room:Bool} {deep B:Nat} (hA:ZsD s alt room deep B) (hB:1005<=B) (hB5:B<=6000) {w:World} {R p g q g':Nat} {v:Value} {L:List Pm} {f:Pf} (S:Sp w R s p (-1) g v L) (hs:s.size<=120) (hp:p<=s.size) (hg:g<=9) (hF:L.length + 3 * (s.size - p)<=1000) (G:Zad s alt) (he:ZH alt room s p g = .ok (f,q,g')) (hb:bt s q=124) :
  Calls Tryz.prog 26 #[.pointer (some ⟨R,0,none⟩),.int .i64 deep] w (QI (Jd alt room s p g) R s (B + 1) w v L):=by
 have HX:Hid (ZH alt room s p g = .ok (f,q,g')):=he;have HB:Hid (bt s q=124):=hb;have hpos0:=QV G hp hg he;have hlen0:=hpos0.2.2.2 L.length;have hin:=Zt hb (by omega);have hqz:(q:Int) < (s.size:Int):=by omega
 have hc:s[q].toNat=124:=by rw [<- hb,ZV hin]
 obtain ⟨res,hres⟩ :∃res,Z0 alt room s (s.size + 1) q g' [f]=res:=⟨_,rfl⟩;have HRes:Hid (Z0 alt room s (s.size + 1) q g' [f]=res):=hres;clear hb he hres;go_enter Tryz.func26,Tryz.ntmps26;go_wp2_with (first
  | (go_at_call 47; refine (hA _ _ _ _ _ _ S hs hp hg hF G).mono ?_; intro e w4 hpo; unfold QI at hpo; rw [HX.out] at hpo; obtain ⟨v4,L4,rfl,S4,hm4,st4,hn4⟩:=hpo; have c0:=S4.rd.c0; have c1:=S4.rd.c1))
 go_quiet ((go_at_call 27; exact Calls.quiet_of (ZK (S4.rd.drewN _) hs hin)));replace S4:=S4.drewN nq;replace st4:Stp R w v (w4.drewN nq) v4:=st4.same ((Za.refl _ _).drewN _);clear c0 c1;generalize w4.drewN nq=w5 at S4 st4 ⊢;have HM0:Hid (L4.map (·.1)=L.map (·.1) ++ f L.length):=hm4;clear hm4;obtain ⟨wb,hwb⟩ :∃wb,w5.heap.size=wb:=⟨_,rfl⟩;obtain ⟨W,hW⟩ :∃W,W=(w5.alloc (.cells #[.int .i64 ((L.length:Int) + (f L.length).length - 1)] 3)).alloc (.cells #[.int .i64 3,.slice none 0 0,.int .i64 0,.int .i64 0,.bool false,.int .i64 0,.slice (some ⟨w5.heap.size,0,none⟩) 1 1] 114):=⟨_,rfl⟩;have kW:Za N0_ w5 W:=by rw [hW]; exact ((Za.refl _ _).alloc _).alloc _
 have SW:=S4.same kW;have stW:=st4.same kW;have hPW:Pb W (wb + 1) (ZI 3 []) (.slice none 0 0) (.slice (some ⟨wb,0,none⟩) 1 1):=by
  have:=Pb.altMade (w5.alloc (.cells #[.int .i64 ((L.length:Int) + (f L.length).length - 1)] 3)) (.slice (some ⟨w5.heap.size,0,none⟩) 1 1)
  rw [hW]; subst hwb; simpa using this
 have hkW:W.ownsRow w.heap.size 3 1 (.slice (some ⟨wb,0,none⟩) 1 1) (ends [f] L.length).length (Zgu (ends [f] L.length)):=by
  have h1:=World.ownsRow_lit (base:=w.heap.size) (e:=3) (size:=1) w5 #[.int .i64 ((L.length:Int) + (f L.length).length - 1)] 1 st4.keeps.size (by unfold maxLen; omega) rfl;have h2:=h1.alloc (.cells #[.int .i64 3,.slice none 0 0,.int .i64 0,.int .i64 0,.bool false,.int .i64 0,.slice (some ⟨w5.heap.size,0,none⟩) 1 1] 114);rw [hW]; subst hwb; simpa [ends,Zgu] using h2
 have hapW:Zfk L4 (.slice (some ⟨wb,0,none⟩) 1 1):=by
  intro y hy k hk hk';simp [Value.ownBlock] at hk';obtain ⟨cur,hh⟩:=Zu (S4.rows y hy).2 hk
  have:=lt_of_block hh
  omega
 have hvW:¬ v4.ownBlock=some (wb + 1):=by
  intro h
  have:=(S4.row.lt _ h).2
  omega
 have hPR:¬ wb + 1=R:=by have:=S4.rd.lt; omega
 have hwwb:w.heap.size<=wb:=by have:=st4.keeps.size; omega
 have HW:Hid (W=(w5.alloc (.cells #[.int .i64 ((L.length:Int) + (f L.length).length - 1)] 3)).alloc (.cells #[.int .i64 3,.slice none 0 0,.int .i64 0,.int .i64 0,.bool false,.int .i64 0,.slice (some ⟨w5.heap.size,0,none⟩) 1 1] 114)):=hW;have HWB:Hid (w5.heap.size=wb):=hwb;clear hW hwb;have hl4:L4.length + 3 * (s.size - q)<=1001:=by have:=ZG HM0.out; omega
 go_wp2;rw [<- HW.out,HWB.out];go_loopg [5] (s.size + 1) (fun fu x5 wr=>Zts alt room s R (wb + 1) B res w v L fu wr)
 case atStart =>
  exact Or.inl ⟨q,g',v4,L4,[f],_,by omega,hpos0.2.2.1,by omega,HRes.out,SW,by rw [HM0.out]; simp [cat],hPW,hkW,by simp [ends]; omega,hapW,hvW,stW,hn4,hl4⟩
 case round =>
  as_aux_lemma =>
   clear SW stW hPW hkW hapW hvW hn4 hl4 S4 st4 kW HW HM0 S hqz hc hlen0
   rcases hrel with ⟨q5,g5,v',L',fs,kv,hq,hg',hfu,hloop,S5,hm5,hP,hkv,hkn,hap,hv,st5,hn5,hF5⟩ | ⟨x,a,g5,v',L',kv,ks,hx,S5,hP,hkv,st5,hn5,hB5'⟩
   ·obtain ⟨fu,rfl⟩ :∃f,gk=f + 1:=⟨gk - 1,by omega⟩;have HL:Hid (Z0 alt room s (fu + 1) q5 g5 fs=res):=hloop;have HM:Hid (L'.map (·.1)=L.map (·.1) ++ cat fs L.length):=hm5;have HLen:Hid (L'.length=L.length + (cat fs L.length).length):=ZG (f:=cat fs) hm5;clear hloop hm5
    by_cases hgo:bt s q5=124
    ·have HG:Hid (bt s q5=124):=hgo;have hin5:=Zt hgo (by omega);clear hgo
     cases hpc:ZH alt room s (q5 + 1) g5 with
     | error x =>
       have HX:Hid (ZH alt room s (q5 + 1) g5 = .error x):=hpc;have HE:Hid (res = .error x):=by
        have h1:=HL.out;show _ = _; rw [<- h1]; exact ZhJ HG.out hpc
       clear hpc;go_wp2_with (first
        | (go_at_call 48; refine (isY ⟨S5.rd⟩ hs (by have:=HG.out; omega) (by omega)).mono ?_; rintro e w3 ⟨rfl,hb3,hk3⟩; have hP3:=hP.keeps hk3 hPR; have hkv3:=Zb hkv hk3 (fun k hk h=>Zi hkv S5.rd (by decide) (h ▸ hk)); replace S5:=S5.atR hk3 hb3.rd; replace st5:=st5.onR hk3; replace hP:=hP3; replace hkv:=hkv3)
        | (go_at_call 47; refine (hA _ _ _ _ _ _ S5 hs (by omega) hg' (by omega) G).mono ?_; intro e w4 hpo; unfold QI at hpo; rw [HX.out] at hpo; obtain ⟨r,v4,L4,rfl,hS4,hB4,st4,hn4⟩:=hpo; obtain ⟨a4,g4,S4⟩:=hS4; have hP4:=hP.keeps st4.keeps (fun h=>h.elim hPR hv); have hkv4:=Zb hkv st4.keeps (fun k hk h=>h.elim (fun h=>Zi hkv S5.rd (by decide) (h ▸ hk)) (fun h=>Q6 hkv S5.row (by decide) hk h)); have hv4:¬ v4.ownBlock=some (wb + 1):=(fun h=>hv (st4.blk _ h (lt_of_block hP))); have hap4:Zfk L4 kv:=(by obtain ⟨M,rfl,hM⟩:=hn4; intro y hy k hk hk'; rw [List.mem_append] at hy; rcases hy with hy | hy; exact hap y hy k hk hk'; obtain ⟨cur,hh⟩:=Zu hkv hk'; exact absurd (hM y hy k hk) (by have:=lt_of_block hh; omega)); obtain ⟨kv',w5,hrun,c6,f6,S6,hP6,hkv6,hap6,hk6⟩:=ZcK S4 hP4 hv4 hkv4 hap4 (Nat.le_trans st5.keeps.size st4.keeps.size) (by omega) r; have c64:=hP4.facts.2.2.2.2.2.2.1; obtain ⟨ao,cap,rfl⟩:=Zd hkv6)
        | (at_builtin; refine Zk rfl _ _ _ _ rfl rfl _ _ _ _ rfl rfl hrun ?_))
       go_roundg fu
       case measure=>omega
       case rel=>exact Or.inr ⟨x,a4,g4,v4,L4,_,ends fs L.length ++ [r],HE.out,S6,hP6,by simpa using hkv6,(st5.trans st4).on hk6 (fun i hi' h=>h.elim (fun h=>by omega) (fun h=>by have:=(hkv4.lt _ h).1; omega)),hn5.trans hn4 st5.keeps.size,hB4⟩
     | ok rr =>
       obtain ⟨f2,q1,g1⟩:=rr;have hpos:=QV G (by omega) hg' hpc;have hlenf:=hpos.2.2.2 L'.length;have HX:Hid (ZH alt room s (q5 + 1) g5 = .ok (f2,q1,g1)):=hpc;have HE:Hid (Z0 alt room s fu q1 g1 (fs ++ [f2])=res):=by
        have h1:=HL.out;show _ = _; rw [<- h1]; exact (Zgm HG.out hpc).symm
       clear hpc;go_wp2_with (first
        | (go_at_call 48; refine (isY ⟨S5.rd⟩ hs (by have:=HG.out; omega) (by omega)).mono ?_; rintro e w3 ⟨rfl,hb3,hk3⟩; have hP3:=hP.keeps hk3 hPR; have hkv3:=Zb hkv hk3 (fun k hk h=>Zi hkv S5.rd (by decide) (h ▸ hk)); replace S5:=S5.atR hk3 hb3.rd; replace st5:=st5.onR hk3; replace hP:=hP3; replace hkv:=hkv3)
        | (go_at_call 47; refine (hA _ _ _ _ _ _ S5 hs (by omega) hg' (by omega) G).mono ?_; intro e w4 hpo; unfold QI at hpo; rw [HX.out] at hpo; obtain ⟨v4,L4,rfl,S4,hm4,st4,hn4⟩:=hpo; have hP4:=hP.keeps st4.keeps (fun h=>h.elim hPR hv); have hkv4:=Zb hkv st4.keeps (fun k hk h=>h.elim (fun h=>Zi hkv S5.rd (by decide) (h ▸ hk)) (fun h=>Q6 hkv S5.row (by decide) hk h)); have hv4:¬ v4.ownBlock=some (wb + 1):=(fun h=>hv (st4.blk _ h (lt_of_block hP))); have hap4:Zfk L4 kv:=(by obtain ⟨M,rfl,hM⟩:=hn4; intro y hy k hk hk'; rw [List.mem_append] at hy; rcases hy with hy | hy; exact hap y hy k hk hk'; obtain ⟨cur,hh⟩:=Zu hkv hk'; exact absurd (hM y hy k hk) (by have:=lt_of_block hh; omega)); obtain ⟨kv',w5,hrun,c6,f6,S6,hP6,hkv6,hap6,hk6⟩:=ZcK S4 hP4 hv4 hkv4 hap4 (Nat.le_trans st5.keeps.size st4.keeps.size) (by omega) ((L'.length:Int) + (f2 L'.length).length - 1); have c64:=hP4.facts.2.2.2.2.2.2.1; obtain ⟨ao,cap,rfl⟩:=Zd hkv6)
        | (at_builtin; refine Zk rfl _ _ _ _ rfl rfl _ _ _ _ rfl rfl hrun ?_))
       go_roundg fu
       case measure=>omega
       case rel =>
        have hlen5:=HLen.out;have he1:ends (fs ++ [f2]) L.length=ends fs L.length ++ [((L'.length:Int) + (f2 L'.length).length - 1)]:=by
         rw [Zf6,hlen5]; simp
        have hc1:cat (fs ++ [f2]) L.length=cat fs L.length ++ f2 L'.length:=by rw [ZcP,hlen5]
        have hl4:L4.length=L'.length + (f2 L'.length).length:=ZG hm4;refine Or.inl ⟨q1,g1,v4,L4,fs ++ [f2],_,hpos.2.1,hpos.2.2.1,by omega,HE.out,S6,?_,hP6,?_,?_,hap6,hv4,(st5.trans st4).on hk6 (fun i hi' h=>h.elim (fun h=>by omega) (fun h=>by have:=(hkv4.lt _ h).1; omega)),hn5.trans hn4 st5.keeps.size,by omega⟩
        ·rw [hm4,HM.out,hc1,List.append_assoc]
        ·rw [he1]; simpa using hkv6
        ·rw [he1]; simp; omega
    ·have HE:Hid (res = .ok (fs,q5,g5)):=by
      have h1:=HL.out;show _ = _; rw [<- h1]; exact Zgn hgo
     have HG:Hid (bt s q5≠124):=hgo;clear hgo;go_wp2_with (first
      | (go_at_call 48; refine (isN ⟨S5.rd⟩ hs (by have:=HG.out; omega) (by omega)).mono ?_; rintro e w3 ⟨rfl,hb3,hk3⟩; have hP3:=hP.keeps hk3 hPR; have hkv3:=Zb hkv hk3 (fun k hk h=>Zi hkv S5.rd (by decide) (h ▸ hk)); replace S5:=S5.atR hk3 hb3.rd; replace st5:=st5.onR hk3; replace hP:=hP3; replace hkv:=hkv3; obtain ⟨d0,d1,d2,d3,d4,d5,d6,df⟩:=hP.facts)
      | (go_at_call 49; refine (Zcz S5 (ZI 3 (ends fs L.length),.slice none 0 0,kv) (JL _ rfl rfl hkv) (by omega) st5 hn5 (fun k hk=>(hkv.lt k hk).1)).mono ?_; rintro e w6 ⟨rfl,v6,S6,st6,hn6⟩))
     go_ret;refine Qg (Zpq HX.out HB.out (HRes.out.trans HE.out)) S6 ?_ (by have:=HLen.out; simp [JW]; omega) st6 hn6;rw [List.map_append,HM.out];simp [JW]
   ·have HE:Hid (res = .error x):=hx;clear hx;go_wp2_with (first
     | (go_at_call 48; refine (isB ⟨_,_,S5.rd⟩ (by omega)).mono ?_; rintro e w3 ⟨rfl,hb3,hk3⟩; obtain ⟨a3,g3,r3⟩:=hb3.rd; have hP3:=hP.keeps hk3 hPR; have hkv3:=Zb hkv hk3 (fun k hk h=>Zi hkv S5.rd (by decide) (h ▸ hk)); replace S5:=S5.atR hk3 r3; replace st5:=st5.onR hk3; replace hP:=hP3; replace hkv:=hkv3; obtain ⟨d0,d1,d2,d3,d4,d5,d6,df⟩:=hP.facts)
     | (go_at_call 49; refine (Zcz S5 (ZI 3 ks,.slice none 0 0,kv) (JL _ rfl rfl hkv) (by omega) st5 hn5 (fun k hk=>(hkv.lt k hk).1)).mono ?_; rintro e w6 ⟨rfl,v6,S6,st6,hn6⟩))
    go_ret;exact Ql (Zj6 HX.out HB.out (HRes.out.trans HE.out)) S6 (by simp; omega) st6 hn6
theorem ZmQ {s:ByteArray} {alt:Nat->Nat->Rd3} {room:Bool} {deep B:Nat} (hA:ZsD s alt room deep B) (hB:1005<=B) (hB5:B<=6000) (G:Zad s alt) {w:World} {R p g:Nat} {v:Value} {L:List Pm} (S:Sp w R s p (-1) g v L) (hs:s.size<=120) (hp:p<=s.size) (hg:g<=9) (hF:L.length + 3 * (s.size - p)<=1000) :
  Calls Tryz.prog 26 #[.pointer (some ⟨R,0,none⟩),.int .i64 deep] w (QI (Jd alt room s p g) R s (B + 1) w v L):=by
 cases he:ZH alt room s p g with
 | error x=>exact Zro hA S hs hp hg hF G he
 | ok r =>
   obtain ⟨f,q,g'⟩:=r
   by_cases hb:bt s q=124
   ·exact Zpo hA hB hB5 S hs hp hg hF G he hb
   ·exact Zrn hA S hs hp hg hF G he hb
theorem Za1 (s:ByteArray) (d:Nat) (hd:d<=6):ZsO s (QL s d) (6 - d) (1010 + 10 * d):=by
 induction d with
 | zero =>
   have G0:Zad s (fun _ _ => .error 0):=fun p g f q g' _ _ h=>by simp at h
   have hA:ZbY s (fun _ _ => .error 0) false 6 1005:=fun w R p g v L S hs hp hg hF =>
    ZiF (BA:=0) S hs hp G0 hg hF (by omega) rfl (fun h=>by simp at h) (by omega) (by omega) (by omega)
   intro w R p g v L S hs hp hg hF
   have:=ZmQ (ZkB (ZfK hA (by omega) (by omega)) (by omega) (by omega)) (by omega) (by omega) G0 S hs hp hg hF
   refine this.mono fun e w' h=>?_;unfold QI at h ⊢;show match Jd (fun _ _=>Except.error 0) false s p g with | .ok (f,q,g')=>_ | .error x=>_
   cases hr:Jd (fun _ _=>Except.error 0) false s p g with
   | error x =>
     rw [hr] at h;obtain ⟨r,v',L',h1,h2,h3,h4⟩:=h;exact ⟨r,v',L',h1,h2,by omega,h4⟩
   | ok r=>rw [hr] at h; exact h
 | succ d ih =>
   have ihd:=ih (by omega);have hA:ZbY s (QL s d) true (6 - (d + 1)) (1015 + 10 * d):=fun w R p g v L S hs hp hg hF =>
    ZiF (BA:=1010 + 10 * d) S hs hp (QD s d) hg hF (by omega) (by simp; omega) (fun _=>by
     have e:6 - (d + 1) + 1=6 - d:=by omega
     rw [e]; exact ihd) (by omega) (by omega) (by omega)
   intro w R p g v L S hs hp hg hF
   have:=ZmQ (ZkB (ZfK hA (by omega) (by omega)) (by omega) (by omega)) (by omega) (by omega) (QD s d) S hs hp hg hF
   refine this.mono fun e w' h=>?_;unfold QI at h ⊢;show match Jd (QL s d) true s p g with | .ok (f,q,g')=>_ | .error x=>_
   cases hr:Jd (QL s d) true s p g with
   | error x =>
     rw [hr] at h;obtain ⟨r,v',L',h1,h2,h3,h4⟩:=h;exact ⟨r,v',L',h1,h2,by omega,h4⟩
   | ok r=>rw [hr] at h; exact h
structure Pcs (w:World) (v:Value) (L:List Pm):Prop where
 row:w.ownsRow 0 114 7 v L.length (L.flatMap Zcl)
 rows :∀x∈L,Je w x
def Js (s:ByteArray) (w:World) (e:Ending) (w':World):Prop :=
 match QO s with
 | .ok (g,ps) =>∃v L,e = .returned (.agg #[.bool true,.int .i64 0,.int .i64 ((g:Nat):Int),v])/\Pcs w' v L/\L.map (·.1)=ps/\L.length<=1000/\Za N0_ w w'
 | .error x=>e = .returned (.agg #[.bool false,.int .i64 ((x:Nat):Int),.int .i64 0,.slice none 0 0])/\Za N0_ w w'
theorem Zev {w:World} {s:ByteArray} (hs:s.size<=1048576) (h:120 < s.size):Calls Tryz.prog 9 #[.string s] w (Js s w):=by
 have HE:Hid (QO s = .error 120):=by show _ = _; simp [QO,h]
 go_enter Tryz.func9,Tryz.ntmps9;go_wp2;refine bodyPost_ret (v:=.agg #[.bool false,.int .i64 120,.int .i64 0,.slice none 0 0]) (by simp [results,Tryz.results9,go_sem]) rfl ?_;unfold Js; rw [HE.out];exact ⟨rfl,(Za.refl _ _).alloc _⟩
def Qb (w:World) (Q:Nat):Prop:=w.heap[Q]? = some (.cells #[.bool false,.int .i64 0,.int .i64 0,.slice none 0 0] 33 (0,0))
theorem Qb.keeps {E:Nat->Prop} {w w':World} {Q:Nat} (h:Qb w Q) (k:Za E w w') (hE:¬ E Q):Qb w' Q:=by
 unfold Qb at h ⊢; rw [k.block Q (lt_of_block h) hE]; exact h
theorem Qb.facts {w:World} {Q:Nat} (h:Qb w Q):w.cell? ⟨Q,0,none⟩=some (.bool false)/\w.cell? ⟨Q,1,none⟩=some (.int .i64 0)/\w.cell? ⟨Q,2,none⟩=some (.int .i64 0)/\w.cell? ⟨Q,3,none⟩=some (.slice none 0 0)/\∀i,w.frozen? ⟨Q,i,none⟩=false :=
 ⟨by rw [Zc h]; rfl,by rw [Zc h]; rfl,by rw [Zc h]; rfl,by rw [Zc h]; rfl,fun i=>Zv h⟩
abbrev W0 (w:World) (s:ByteArray):World:=(w.alloc (.cells #[.bool false,.int .i64 0,.int .i64 0,.slice none 0 0] 33)).alloc (.cells #[.string s,.int .i64 0,.int .i64 (-1),.int .i64 0,.slice none 0 0] 70)
theorem Zer (w:World) (s:ByteArray):Sp (W0 w s) (w.heap.size + 1) s ((0:Nat):Int) (-1) ((0:Nat):Int) (.slice none 0 0) []:=by
 refine ⟨?_,Zcc _ _ _,by simp⟩
 have:=heap_alloc_new (w.alloc (.cells #[.bool false,.int .i64 0,.int .i64 0,.slice none 0 0] 33)) (.cells #[.string s,.int .i64 0,.int .i64 (-1),.int .i64 0,.slice none 0 0] 70)
 simpa [Rd] using this
theorem Zes (w:World) (s:ByteArray):Qb (W0 w s) w.heap.size:=by
 unfold Qb;rw [Below.heap_alloc _ _ _ (by simp)];exact heap_alloc_new _ _
theorem Zbq (w:World) (s:ByteArray):Za N0_ w (W0 w s):=((Za.refl _ _).alloc _).alloc _
theorem ZpK (w:World) (Q:Nat) (a b c d:Value):Za (fun k=>k=Q) w ((((w.setCell ⟨Q,0,none⟩ a).setCell ⟨Q,1,none⟩ b).setCell ⟨Q,2,none⟩ c).setCell ⟨Q,3,none⟩ d) :=
 (((ZL w Q 0 a).trans (ZL _ Q 1 b)).trans (ZL _ Q 2 c)).trans (ZL _ Q 3 d)
theorem ZrU {w w':World} {Q:Nat} {v:Value} {L:List Pm} (h1:w.ownsRow 0 114 7 v L.length (L.flatMap Zcl)) (h2 :∀x∈L,Je w x) (hQ:Qb w Q) (hk:Za (fun k=>k=Q) w w'):Pcs w' v L :=
 ⟨Zb h1 hk (by rintro k hk1 rfl; exact Zi h1 hQ (by decide) hk1),fun x hx=>(h2 x hx).byTypes hk (by rintro k rfl _; exact ⟨_,_,hQ,by decide,by decide⟩)⟩
theorem Zfv {w:World} {s:ByteArray} {x:Nat} (hs:s.size<=120) (he:QL s 6 0 0 = .error x):Calls Tryz.prog 9 #[.string s] w (Js s w):=by
 have HE:Hid (QO s = .error x):=by show _ = _; simp [QO,he,show ¬ 120 < s.size from by omega]
 have HX:Hid (QL s 6 0 0 = .error x):=he;have hA:=Za1 s 6 (by omega);have hx0:(0:Int)<=(x:Int):=by omega
 clear he;go_enter Tryz.func9,Tryz.ntmps9;go_wp2_with (first
  | (go_at_call 26; refine (hA _ _ _ _ _ _ (Zer w s) hs (by omega) (by omega) (by simp; omega)).mono ?_; intro e w4 hpo; unfold QI at hpo; rw [HX.out] at hpo; obtain ⟨r,v4,L4,rfl,hS4,hB4,st4,hn4⟩:=hpo; obtain ⟨a4,g4,S4⟩:=hS4; have hQ4:=(Zes w s).keeps st4.keeps (by rintro (h | h); omega; simp [Value.ownBlock] at h); have kp4:Za N0_ w w4:=(Zbq w s).trans' st4.keeps (by rintro i hi (h | h); omega; simp [Value.ownBlock] at h))
  | (go_at_call 27; refine (Zs0 ⟨_,_,S4.rd⟩).mono ?_; rintro e w5 ⟨rfl,hb5,hk5⟩; obtain ⟨a5,g5,r5⟩:=hb5.rd; have hQ5:=hQ4.keeps hk5 (by omega); have kp5:=kp4.trans' hk5 (by intro i hi h; omega); obtain ⟨d0,d1,d2,d3,df⟩:=hQ5.facts; have c2:=r5.c2))
 refine bodyPost_ret (v:=.agg #[.bool false,.int .i64 x,.int .i64 0,.slice none 0 0]) (by simp [results,Tryz.results9,go_sem,d0,d1,d2,d3]) rfl ?_;unfold Js; rw [HE.out];exact ⟨rfl,(((kp5.setCell (fun h=>by simp at h) _).setCell (fun h=>by simp at h) _).setCell (fun h=>by simp at h) _).setCell (fun h=>by simp at h) _⟩
theorem Zeu {w:World} {s:ByteArray} {f:Pf} {q g:Nat} (hs:s.size<=120) (he:QL s 6 0 0 = .ok (f,q,g)) (hq:q < s.size):Calls Tryz.prog 9 #[.string s] w (Js s w):=by
 have HE:Hid (QO s = .error q):=by show _ = _; simp [QO,he,show ¬ 120 < s.size from by omega,hq]
 have HX:Hid (QL s 6 0 0 = .ok (f,q,g)):=he;have hA:=Za1 s 6 (by omega);have hx0:(0:Int)<=(q:Int):=by omega
 clear he;go_enter Tryz.func9,Tryz.ntmps9;go_wp2_with (first
  | (go_at_call 26; refine (hA _ _ _ _ _ _ (Zer w s) hs (by omega) (by omega) (by simp; omega)).mono ?_; intro e w4 hpo; unfold QI at hpo; rw [HX.out] at hpo; obtain ⟨v4,L4,rfl,S4,hm4,st4,hn4⟩:=hpo; have hQ4:=(Zes w s).keeps st4.keeps (by rintro (h | h); omega; simp [Value.ownBlock] at h); have kp4:Za N0_ w w4:=(Zbq w s).trans' st4.keeps (by rintro i hi (h | h); omega; simp [Value.ownBlock] at h))
  | (go_at_call 27; refine (ZsY ⟨S4.rd⟩ hs hq).mono ?_; rintro e w5 ⟨rfl,hb5,hk5⟩; have hQ5:=hQ4.keeps hk5 (by omega); have kp5:=kp4.trans' hk5 (by intro i hi h; omega))
  | (go_at_call 28; refine (ZaN hb5).mono ?_; rintro e w6 ⟨rfl,hb6,hk6⟩; obtain ⟨a6,g6,r6⟩:=hb6.rd; have hQ6:=hQ5.keeps hk6 (by omega); have kp6:=kp5.trans' hk6 (by intro i hi h; omega); obtain ⟨d0,d1,d2,d3,df⟩:=hQ6.facts; have c2:=r6.c2))
 refine bodyPost_ret (v:=.agg #[.bool false,.int .i64 q,.int .i64 0,.slice none 0 0]) (by simp [results,Tryz.results9,go_sem,d0,d1,d2,d3]) rfl ?_;unfold Js; rw [HE.out];exact ⟨rfl,(((kp6.setCell (fun h=>by simp at h) _).setCell (fun h=>by simp at h) _).setCell (fun h=>by simp at h) _).setCell (fun h=>by simp at h) _⟩
theorem ZgD {w:World} {s:ByteArray} {f:Pf} {q g:Nat} (hs:s.size<=120) (he:QL s 6 0 0 = .ok (f,q,g)) (hq:¬ q < s.size):Calls Tryz.prog 9 #[.string s] w (Js s w):=by
 have HE:Hid (QO s = .ok (g,f 0)):=by show _ = _; simp [QO,he,show ¬ 120 < s.size from by omega,hq]
 have hpos:=QD s 6 0 0 f q g (by omega) (by omega) he;have hlen:=hpos.2.2.2 0;have HX:Hid (QL s 6 0 0 = .ok (f,q,g)):=he;have hA:=Za1 s 6 (by omega);clear he;go_enter Tryz.func9,Tryz.ntmps9;go_wp2_with (first
  | (go_at_call 26; refine (hA _ _ _ _ _ _ (Zer w s) hs (by omega) (by omega) (by simp; omega)).mono ?_; intro e w4 hpo; unfold QI at hpo; rw [HX.out] at hpo; obtain ⟨v4,L4,rfl,S4,hm4,st4,hn4⟩:=hpo; have hQ4:=(Zes w s).keeps st4.keeps (by rintro (h | h); omega; simp [Value.ownBlock] at h); have kp4:Za N0_ w w4:=(Zbq w s).trans' st4.keeps (by rintro i hi (h | h); omega; simp [Value.ownBlock] at h))
  | (go_at_call 27; refine (ZsZ ⟨S4.rd⟩ hs hq).mono ?_; rintro e w5 ⟨rfl,hb5,hk5⟩; have hQ5:=hQ4.keeps hk5 (by omega); have kp5:=kp4.trans' hk5 (by intro i hi h; omega); have S5:=S4.atR hk5 hb5.rd; obtain ⟨d0,d1,d2,d3,df⟩:=hQ5.facts; have c2:=S5.rd.c2; have c3:=S5.rd.c3; have c4:=S5.rd.c4; obtain ⟨ao,cap,rfl⟩:=Zd S5.row))
 go_region
 all_goals go_wp2
 all_goals (refine bodyPost_ret (v:=.agg #[.bool true,.int .i64 0,.int .i64 g,.slice ao L4.length cap]) (by simp [results,Tryz.results9,go_sem,d0,d1,d2,d3]) rfl ?_)
 unfold Js; rw [HE.out];have hm:L4.map (·.1)=f 0:=by simpa using hm4
 have hl:L4.length<=1000:=by
  have:=congrArg List.length hm
  simp at this; omega
 refine ⟨_,L4,rfl,ZrU S5.row S5.rows hQ5 (ZpK _ _ _ _ _ _).drew,hm,hl,kp5.trans' (E':=fun k=>k=w.heap.size) (ZpK _ _ _ _ _ _).drew (fun i hi h=>by omega)⟩
theorem Zfw (s:ByteArray) (w:World) (hs:s.size<=1048576):Calls Tryz.prog 9 #[.string s] w (Js s w):=by
 by_cases h:120 < s.size
 ·exact Zev hs h
 ·cases he:QL s 6 0 0 with
  | error x=>exact Zfv (by omega) he
  | ok r =>
    obtain ⟨f,q,g⟩:=r
    by_cases hq:q < s.size
    ·exact Zeu (by omega) he hq
    ·exact ZgD (by omega) he hq
end Go.Proofs.YtfkflljplohhcaaGreatDoor
