import Derived.Test.YtfkflljplohhcaaGreatDoorG
set_option maxHeartbeats 4000000
set_option maxRecDepth 1000000
namespace Go.Proofs.YtfkflljplohhcaaGreatDoor
open Go.RowKit
set_option linter.unusedVariables false
section
variable {w:World} {R p x:Nat} {s:ByteArray} {g:Int} {v:Value}
theorem Zmh (hR:Ok w R s p g v) (hs:s.size<=120) (hp:p<=s.size) {lo hi:Int} {q:Nat} (h:Zj s p = .ok (lo,hi,q)) :
  Calls Tryz.prog 93 #[.pointer (some ⟨R,0,none⟩)] w fun e w'=>e = .returned (.tuple #[.int .i64 lo,.int .i64 hi])/\Ok w' R s q g v/\Za (fun k=>k=R) w w' :=
 (Zec hR hs hp).mono fun e w' hn=>by unfold Qf at hn; rw [h] at hn; exact hn
theorem ZqX (hR:Ok w R s p g v) (hs:s.size<=120) (hp:p<=s.size) (h:Zj s p = .error x) :
  Calls Tryz.prog 93 #[.pointer (some ⟨R,0,none⟩)] w fun e w'=>(∃a b,e = .returned (.tuple #[.int .i64 a,.int .i64 b]))/\Bad w' R s x v/\Za (fun k=>k=R) w w' :=
 (Zec hR hs hp).mono fun e w' hn=>by unfold Qf at hn; rw [h] at hn; exact hn
end
theorem ZkU {w:World} {R p g deep B:Nat} {s:ByteArray} {v:Value} {L:List Pm} {alt:Nat->Nat->Rd3} {room:Bool} (S:Sp w R s p (-1) g v L) (hs:s.size<=120) (hp:p < s.size) (G:Zad s alt) (hg:g<=9)
  (hF:L.length + 3 * (s.size - p)<=1000) (hA:ZbY s alt room deep B) (hB:1005<=B) (hB5:B<=6000) {f:Pf} {q g':Nat} (he:Zg alt room s p g = .ok (f,q,g')) (hq:bt s q=123) {lo hi:Int} {q2:Nat} (hc:Zj s (q + 1) = .ok (lo,hi,q2)) (hl:bt s q2=63) :
  Calls Tryz.prog 73 #[.pointer (some ⟨R,0,none⟩),.int .i64 deep] w (QI (Zn alt room s p g) R s (B + 1) w v L):=by
 have hpos:=ZX G hp hg he;have hlen:=hpos.2.2.2 L.length;have hq1:=Zt hq (by omega);have HE:Hid (Zn alt room s p g = .ok (Z9 lo hi true f,q2 + 1,g')):=by show _ = _; simp [Zn,he,ZW,hq,hc,hl]
 have HX:Hid (Zg alt room s p g = .ok (f,q,g')):=he;have HQ:Hid (bt s q=123):=hq;have HC:Hid (Zj s (q + 1) = .ok (lo,hi,q2)):=hc;have HL:Hid (bt s q2=63):=hl;clear hq hc hl;clear he;go_enter Tryz.func73,Tryz.ntmps73;go_wp2_with (first
  | (go_at_call 92; refine (hA _ _ _ _ _ _ S hs hp hg hF).mono ?_; intro e w4 hpo; unfold QI at hpo; rw [HX.out] at hpo; obtain ⟨v4,L4,rfl,S4,hm4,st4,hn4⟩:=hpo; have S5:=S4.alloc (.cells #[.int .i64 4,.slice none 0 0,.int .i64 0,.int .i64 (-1),.bool false,.int .i64 0,.slice none 0 0] 114); have st5:=st4.same ((Za.refl N0_ w4).alloc (.cells #[.int .i64 4,.slice none 0 0,.int .i64 0,.int .i64 (-1),.bool false,.int .i64 0,.slice none 0 0] 114)); have hP:=Pb.made w4; have hv:=ZaJ S4; have hPR:¬ w4.heap.size=R:=by have:=S4.rd.lt; omega)
  | (go_at_call 93; refine (Zmh ⟨S5.rd⟩ hs (by omega) HC.out).mono ?_; rintro e w5 ⟨rfl,hb5,hk5⟩; replace S5:=S5.atR hk5 hb5.rd; replace st5:=st5.onR hk5; replace hP:=hP.keeps hk5 hPR; clear hb5 hk5; obtain ⟨d0,d1,d2,d3,d4,d5,d6,df⟩:=hP.facts; replace S5:=S5.atP hP hv (ZL _ _ 2 (.int .i64 lo)); replace st5:=st5.on (ZL w5 w4.heap.size 2 (.int .i64 lo)) (fun i hi' h=>by have:=st4.keeps.size; omega); replace hP:=hP.set2 lo; replace S5:=S5.atP hP hv (ZL _ _ 3 (.int .i64 hi)); replace st5:=st5.on (ZL _ w4.heap.size 3 (.int .i64 hi)) (fun i hi' h=>by have:=st4.keeps.size; omega); replace hP:=hP.set3 hi)
  | (go_at_call 48; refine (isY (p:=q) ⟨S5.rd⟩ hs (by have:=HQ.out; omega) (by omega)).mono ?_; rintro e w5 ⟨rfl,hb5,hk5⟩; replace S5:=S5.atR hk5 hb5.rd; replace st5:=st5.onR hk5; replace hP:=hP.keeps hk5 hPR; clear hb5 hk5)
  | (go_at_call 48; refine (isY (p:=q2) ⟨S5.rd⟩ hs (by have:=HL.out; omega) (by omega)).mono ?_; rintro e w5 ⟨rfl,hb5,hk5⟩; replace S5:=S5.atR hk5 hb5.rd; replace st5:=st5.onR hk5; replace hP:=hP.keeps hk5 hPR; clear hb5 hk5; obtain ⟨d0,d1,d2,d3,d4,d5,d6,df⟩:=hP.facts; have hP2:=(hP.set4 true).keeps ((Za.refl N0_ _).alloc (.cells #[.int .i64 ((L.length:Int) + (f L.length).length - 1)] 3)) id; obtain ⟨e0,e1,e2,e3,e4,e5,e6,ef⟩:=hP2.facts; clear hP2)
  | (go_at_call 48; refine (isN (p:=q) ⟨S5.rd⟩ hs (by have:=HQ.out; omega) (by omega)).mono ?_; rintro e w5 ⟨rfl,hb5,hk5⟩; replace S5:=S5.atR hk5 hb5.rd; replace st5:=st5.onR hk5; replace hP:=hP.keeps hk5 hPR; clear hb5 hk5)
  | (go_at_call 49; refine (Zcz (S5.fin hP hv rfl true _).1 _ (S5.fin hP hv rfl true _).2.1 (by have:=ZG hm4; omega) (st5.on (S5.fin hP hv rfl true _).2.2 (fun i hi' h=>by have:=st4.keeps.size; omega)) hn4 (by intro k hk; simp [Value.ownBlock] at hk; subst hk; exact st5.keeps.size)).mono ?_; rintro e w6 ⟨rfl,v6,S6,st6,hn6⟩))
 go_ret;refine Qg HE.out S6 ?_ (by have:=ZG hm4; simp [Z9]; omega) st6 hn6;rw [List.map_append,hm4];simp [Z9,ZeF]
theorem ZkV {w:World} {R p g deep B:Nat} {s:ByteArray} {v:Value} {L:List Pm} {alt:Nat->Nat->Rd3} {room:Bool} (S:Sp w R s p (-1) g v L) (hs:s.size<=120) (hp:p < s.size) (G:Zad s alt) (hg:g<=9)
  (hF:L.length + 3 * (s.size - p)<=1000) (hA:ZbY s alt room deep B) (hB:1005<=B) (hB5:B<=6000) {f:Pf} {q g':Nat} (he:Zg alt room s p g = .ok (f,q,g')) (hq:bt s q=123) {lo hi:Int} {q2:Nat} (hc:Zj s (q + 1) = .ok (lo,hi,q2)) (hl:bt s q2≠63) :
  Calls Tryz.prog 73 #[.pointer (some ⟨R,0,none⟩),.int .i64 deep] w (QI (Zn alt room s p g) R s (B + 1) w v L):=by
 have hpos:=ZX G hp hg he;have hlen:=hpos.2.2.2 L.length;have hq1:=Zt hq (by omega);have HE:Hid (Zn alt room s p g = .ok (Z9 lo hi false f,q2,g')):=by show _ = _; simp [Zn,he,ZW,hq,hc,hl]
 have HX:Hid (Zg alt room s p g = .ok (f,q,g')):=he;have HQ:Hid (bt s q=123):=hq;have HC:Hid (Zj s (q + 1) = .ok (lo,hi,q2)):=hc;have HL:Hid (bt s q2≠63):=hl;clear hq hc hl;clear he;go_enter Tryz.func73,Tryz.ntmps73;go_wp2_with (first
  | (go_at_call 92; refine (hA _ _ _ _ _ _ S hs hp hg hF).mono ?_; intro e w4 hpo; unfold QI at hpo; rw [HX.out] at hpo; obtain ⟨v4,L4,rfl,S4,hm4,st4,hn4⟩:=hpo; have S5:=S4.alloc (.cells #[.int .i64 4,.slice none 0 0,.int .i64 0,.int .i64 (-1),.bool false,.int .i64 0,.slice none 0 0] 114); have st5:=st4.same ((Za.refl N0_ w4).alloc (.cells #[.int .i64 4,.slice none 0 0,.int .i64 0,.int .i64 (-1),.bool false,.int .i64 0,.slice none 0 0] 114)); have hP:=Pb.made w4; have hv:=ZaJ S4; have hPR:¬ w4.heap.size=R:=by have:=S4.rd.lt; omega)
  | (go_at_call 93; refine (Zmh ⟨S5.rd⟩ hs (by omega) HC.out).mono ?_; rintro e w5 ⟨rfl,hb5,hk5⟩; replace S5:=S5.atR hk5 hb5.rd; replace st5:=st5.onR hk5; replace hP:=hP.keeps hk5 hPR; clear hb5 hk5; obtain ⟨d0,d1,d2,d3,d4,d5,d6,df⟩:=hP.facts; replace S5:=S5.atP hP hv (ZL _ _ 2 (.int .i64 lo)); replace st5:=st5.on (ZL w5 w4.heap.size 2 (.int .i64 lo)) (fun i hi' h=>by have:=st4.keeps.size; omega); replace hP:=hP.set2 lo; replace S5:=S5.atP hP hv (ZL _ _ 3 (.int .i64 hi)); replace st5:=st5.on (ZL _ w4.heap.size 3 (.int .i64 hi)) (fun i hi' h=>by have:=st4.keeps.size; omega); replace hP:=hP.set3 hi)
  | (go_at_call 48; refine (isY (p:=q) ⟨S5.rd⟩ hs (by have:=HQ.out; omega) (by omega)).mono ?_; rintro e w5 ⟨rfl,hb5,hk5⟩; replace S5:=S5.atR hk5 hb5.rd; replace st5:=st5.onR hk5; replace hP:=hP.keeps hk5 hPR; clear hb5 hk5)
  | (go_at_call 48; refine (isN (p:=q2) ⟨S5.rd⟩ hs (by have:=HL.out; omega) (by omega)).mono ?_; rintro e w5 ⟨rfl,hb5,hk5⟩; replace S5:=S5.atR hk5 hb5.rd; replace st5:=st5.onR hk5; replace hP:=hP.keeps hk5 hPR; clear hb5 hk5; obtain ⟨d0,d1,d2,d3,d4,d5,d6,df⟩:=hP.facts; have hP2:=(hP.set4 false).keeps ((Za.refl N0_ _).alloc (.cells #[.int .i64 ((L.length:Int) + (f L.length).length - 1)] 3)) id; obtain ⟨e0,e1,e2,e3,e4,e5,e6,ef⟩:=hP2.facts; clear hP2)
  | (go_at_call 48; refine (isN (p:=q) ⟨S5.rd⟩ hs (by have:=HQ.out; omega) (by omega)).mono ?_; rintro e w5 ⟨rfl,hb5,hk5⟩; replace S5:=S5.atR hk5 hb5.rd; replace st5:=st5.onR hk5; replace hP:=hP.keeps hk5 hPR; clear hb5 hk5)
  | (go_at_call 49; refine (Zcz (S5.fin hP hv rfl false _).1 _ (S5.fin hP hv rfl false _).2.1 (by have:=ZG hm4; omega) (st5.on (S5.fin hP hv rfl false _).2.2 (fun i hi' h=>by have:=st4.keeps.size; omega)) hn4 (by intro k hk; simp [Value.ownBlock] at hk; subst hk; exact st5.keeps.size)).mono ?_; rintro e w6 ⟨rfl,v6,S6,st6,hn6⟩))
 go_ret;refine Qg HE.out S6 ?_ (by have:=ZG hm4; simp [Z9]; omega) st6 hn6;rw [List.map_append,hm4];simp [Z9,ZeF]
theorem ZgP {w:World} {R p g deep B:Nat} {s:ByteArray} {v:Value} {L:List Pm} {alt:Nat->Nat->Rd3} {room:Bool} (S:Sp w R s p (-1) g v L) (hs:s.size<=120) (hp:p < s.size) (G:Zad s alt) (hg:g<=9)
  (hF:L.length + 3 * (s.size - p)<=1000) (hA:ZbY s alt room deep B) (hB:1005<=B) (hB5:B<=6000) {f:Pf} {q g':Nat} (he:Zg alt room s p g = .ok (f,q,g')) (hq:bt s q=123) {x:Nat} (hc:Zj s (q + 1) = .error x) :
  Calls Tryz.prog 73 #[.pointer (some ⟨R,0,none⟩),.int .i64 deep] w (QI (Zn alt room s p g) R s (B + 1) w v L):=by
 have hpos:=ZX G hp hg he;have hlen:=hpos.2.2.2 L.length;have hq1:=Zt hq (by omega);have HE:Hid (Zn alt room s p g = .error x):=by show _ = _; simp [Zn,he,ZW,hq,hc]
 have HX:Hid (Zg alt room s p g = .ok (f,q,g')):=he;have HQ:Hid (bt s q=123):=hq;have HC:Hid (Zj s (q + 1) = .error x):=hc;clear hq hc;clear he;go_enter Tryz.func73,Tryz.ntmps73;go_wp2_with (first
  | (go_at_call 92; refine (hA _ _ _ _ _ _ S hs hp hg hF).mono ?_; intro e w4 hpo; unfold QI at hpo; rw [HX.out] at hpo; obtain ⟨v4,L4,rfl,S4,hm4,st4,hn4⟩:=hpo; have S5:=S4.alloc (.cells #[.int .i64 4,.slice none 0 0,.int .i64 0,.int .i64 (-1),.bool false,.int .i64 0,.slice none 0 0] 114); have st5:=st4.same ((Za.refl N0_ w4).alloc (.cells #[.int .i64 4,.slice none 0 0,.int .i64 0,.int .i64 (-1),.bool false,.int .i64 0,.slice none 0 0] 114)); have hP:=Pb.made w4; have hv:=ZaJ S4; have hPR:¬ w4.heap.size=R:=by have:=S4.rd.lt; omega)
  | (go_at_call 93; refine (ZqX ⟨S5.rd⟩ hs (by omega) HC.out).mono ?_; rintro e w5 ⟨⟨lo,hi,rfl⟩,hb5,hk5⟩; obtain ⟨a5,g5,r5⟩:=hb5.rd; replace S5:=S5.atR hk5 r5; replace st5:=st5.onR hk5; replace hP:=hP.keeps hk5 hPR; clear hb5 hk5; obtain ⟨d0,d1,d2,d3,d4,d5,d6,df⟩:=hP.facts; replace S5:=S5.atP hP hv (ZL _ _ 2 (.int .i64 lo)); replace st5:=st5.on (ZL w5 w4.heap.size 2 (.int .i64 lo)) (fun i hi' h=>by have:=st4.keeps.size; omega); replace hP:=hP.set2 lo; replace S5:=S5.atP hP hv (ZL _ _ 3 (.int .i64 hi)); replace st5:=st5.on (ZL _ w4.heap.size 3 (.int .i64 hi)) (fun i hi' h=>by have:=st4.keeps.size; omega); replace hP:=hP.set3 hi)
  | (go_at_call 48; refine (isY (p:=q) ⟨S5.rd⟩ hs (by have:=HQ.out; omega) (by omega)).mono ?_; rintro e w5 ⟨rfl,hb5,hk5⟩; replace S5:=S5.atR hk5 hb5.rd; replace st5:=st5.onR hk5; replace hP:=hP.keeps hk5 hPR; clear hb5 hk5)
  | (go_at_call 48; refine (isN (p:=q) ⟨S5.rd⟩ hs (by have:=HQ.out; omega) (by omega)).mono ?_; rintro e w5 ⟨rfl,hb5,hk5⟩; replace S5:=S5.atR hk5 hb5.rd; replace st5:=st5.onR hk5; replace hP:=hP.keeps hk5 hPR; clear hb5 hk5)
  | (go_at_call 48; refine (isB ⟨_,_,S5.rd⟩ (by omega)).mono ?_; rintro e w5 ⟨rfl,hb5,hk5⟩; obtain ⟨a5,g5,r5⟩:=hb5.rd; replace S5:=S5.atR hk5 r5; replace st5:=st5.onR hk5; replace hP:=hP.keeps hk5 hPR; clear hb5 hk5; obtain ⟨d0,d1,d2,d3,d4,d5,d6,df⟩:=hP.facts; have hP2:=(hP.set4 false).keeps ((Za.refl N0_ _).alloc (.cells #[.int .i64 ((L.length:Int) + (f L.length).length - 1)] 3)) id; obtain ⟨e0,e1,e2,e3,e4,e5,e6,ef⟩:=hP2.facts; clear hP2)
  | (go_at_call 49; refine (Zcz (S5.fin hP hv rfl false _).1 _ (S5.fin hP hv rfl false _).2.1 (by have:=ZG hm4; omega) (st5.on (S5.fin hP hv rfl false _).2.2 (fun i hi' h=>by have:=st4.keeps.size; omega)) hn4 (by intro k hk; simp [Value.ownBlock] at hk; subst hk; exact st5.keeps.size)).mono ?_; rintro e w6 ⟨rfl,v6,S6,st6,hn6⟩))
 go_ret;exact Ql HE.out S6 (by have:=ZG hm4; simp; omega) st6 hn6
def Zp0 (s:ByteArray) (alt:Nat->Nat->Rd3) (room:Bool) (deep B:Nat):Prop :=
 ∀ (w:World) (R p g:Nat) (v:Value) (L:List Pm),Sp w R s p (-1) g v L->s.size<=120->p < s.size->g<=9->L.length + 3 * (s.size - p)<=1000->Zad s alt->
   Calls Tryz.prog 73 #[.pointer (some ⟨R,0,none⟩),.int .i64 deep] w (QI (Zn alt room s p g) R s B w v L)
theorem ZfK {s:ByteArray} {alt:Nat->Nat->Rd3} {room:Bool} {deep B:Nat} (hA:ZbY s alt room deep B) (hB:1005<=B) (hB5:B<=6000):Zp0 s alt room deep (B + 1):=by
 intro w R p g v L S hs hp hg hF G
 cases he:Zg alt room s p g with
 | error x=>exact ZkW S hs hp G hg hF hA hB hB5 he
 | ok r =>
   obtain ⟨f,q,g'⟩:=r
   by_cases h1:bt s q=42
   ·by_cases hl:bt s (q + 1)=63
    ·exact ZgL S hs hp G hg hF hA hB hB5 he h1 hl
    ·exact ZgM S hs hp G hg hF hA hB hB5 he h1 hl
   by_cases h2:bt s q=43
   ·by_cases hl:bt s (q + 1)=63
    ·exact ZgN S hs hp G hg hF hA hB hB5 he h2 hl
    ·exact ZgO S hs hp G hg hF hA hB hB5 he h2 hl
   by_cases h3:bt s q=63
   ·by_cases hl:bt s (q + 1)=63
    ·exact Zi5 S hs hp G hg hF hA hB hB5 he h3 hl
    ·exact Zi6 S hs hp G hg hF hA hB hB5 he h3 hl
   by_cases h4:bt s q=123
   ·cases hc:Zj s (q + 1) with
    | error x=>exact ZgP S hs hp G hg hF hA hB hB5 he h4 hc
    | ok r =>
      obtain ⟨lo,hi,q2⟩:=r
      by_cases hl:bt s q2=63
      ·exact ZkU S hs hp G hg hF hA hB hB5 he h4 hc hl
      ·exact ZkV S hs hp G hg hF hA hB hB5 he h4 hc hl
   ·exact Zi7 S hs hp G hg hF hA hB hB5 he ⟨h1,h2,h3,h4⟩
theorem Tryz.infoInt:(Tryz.prog.info? 3).map (fun i=>(i.zero,i.size,i.bytes))=some (some (.int .i64 0),1,8):=by kernel_rfl
def Zfk (L:List Pm) (kv:Value):Prop :=∀x∈L,∀k,x.2.2.ownBlock=some k->¬ kv.ownBlock=some k
theorem ZcK {w1:World} {R P base:Nat} {s:ByteArray} {a b g:Int} {v kv:Value} {L:List Pm} {c:Pc} {ks:List Int} (S:Sp w1 R s a b g v L) (hP:Pb w1 P c (.slice none 0 0) kv) (hv:¬ v.ownBlock=some P)
  (hkv:w1.ownsRow base 3 1 kv ks.length (Zgu ks)) (hap:Zfk L kv) (hb:base<=w1.heap.size) (hn:ks.length<=100000) (r:Int) :
  ∃ kv' w2,Sem.run Tryz.prog (Builtin.append_ #[111,111] 111 #[kv,.slice (some ⟨w1.heap.size,0,none⟩) 1 1]) (w1.alloc (.cells #[.int .i64 r] 3)) = .ok kv' w2/\
    w2.cell? ⟨P,6,none⟩=some kv/\w2.frozen? ⟨P,6,none⟩=false/\
    Sp (w2.setCell ⟨P,6,none⟩ kv') R s a b g v L/\Pb (w2.setCell ⟨P,6,none⟩ kv') P c (.slice none 0 0) kv'/\(w2.setCell ⟨P,6,none⟩ kv').ownsRow base 3 1 kv' (ks.length + 1) (Zgu (ks ++ [r]))/\
    Zfk L kv'/\Za (fun k=>k=P\/kv.ownBlock=some k) w1 (w2.setCell ⟨P,6,none⟩ kv'):=by
 obtain ⟨i0,hi,hz0,hz1,hz2⟩:=info_parts Tryz.infoInt;obtain ⟨kv',w2,hrun,ho,hg,hbk⟩:=JV (P:=Tryz.prog) (w1.alloc (.cells #[.int .i64 r] 3)) base 111 111 3 i0 (.int .i64 0) 1 8 Tryz.underlying111 hi hz0 hz1 hz2 rfl (by decide) kv ks.length _ (hkv.alloc _)
  ⟨w1.heap.size,0,none⟩ 1 1 [.int .i64 r] (by rfl) (Qt w1 _ [.int .i64 r]) (ints_oneCell .i64 [r]) (by unfold maxLen; omega) (by omega) (by simp; omega)
 have k2:Za (fun k=>kv.ownBlock=some k) w1 w2:=((Za.refl _ _).alloc _).grown hg (fun k hk _=>hk);have hPk:¬ kv.ownBlock=some P:=Zi hkv hP (by decide);have hRk:¬ kv.ownBlock=some R:=Zi hkv S.rd (by decide);have hP2:Pb w2 P c (.slice none 0 0) kv:=hP.keeps k2 hPk;have S2:Sp w2 R s a b g v L:=by
  refine ⟨S.rd.keeps k2 hRk,Zb S.row k2 (fun k hk1 hk2=>Q6 S.row hkv (by decide) hk1 hk2),fun x hx=>?_⟩;exact ⟨Zb (S.rows x hx).1 k2 (fun k hk1 hk2=>Q6 (S.rows x hx).1 hkv (by decide) hk1 hk2),Zb (S.rows x hx).2 k2 (fun k hk1 hk2=>hap x hx k hk1 hk2)⟩
 have kP:Za (fun k=>k=P) w2 (w2.setCell ⟨P,6,none⟩ kv'):=ZL _ _ _ _;refine ⟨kv',w2,hrun,by rw [Zc hP2]; rfl,Zv hP2,S2.atP hP2 hv kP,hP2.set6 _,?_,?_,(k2.mono fun _ _ h=>Or.inr h).trans (kP.mono fun _ _ h=>Or.inl h)⟩
 ·have:=Zb ho kP (by rintro k hk rfl; exact Zi ho hP2 (by decide) hk)
  simpa [Zgu] using this
 ·intro x hx k hk hk';have hlt:k < w1.heap.size:=by
   obtain ⟨cur,hh⟩:=Zu (S.rows x hx).2 hk;exact lt_of_block hh
  exact hap x hx k hk (hbk k hk' (by simp; omega))
def Φ (L:List Pm) (s:ByteArray) (q:Nat):Nat:=L.length + 3 * (s.size - q)
def Ztj (alt:Nat->Nat->Rd3) (room:Bool) (s:ByteArray) (R P B:Nat) (res:Except Nat (List Pf×Nat×Nat)) (w:World) (v:Value) (L:List Pm) (fu:Nat) (wr:World):Prop :=
 (∃(q g':Nat) (v':Value) (L':List Pm) (fs:List Pf) (kv:Value),q<=s.size/\g'<=9/\s.size - q < fu/\ZE alt room s fu q g' fs=res/\Sp wr R s q (-1) g' v' L'/\L'.map (·.1)=L.map (·.1) ++ cat fs L.length/\
  Pb wr P (ZI 2 []) (.slice none 0 0) kv/\wr.ownsRow w.heap.size 3 1 kv (ends fs L.length).length (Zgu (ends fs L.length))/\(ends fs L.length).length + fu<=121/\Zfk L' kv/\¬ v'.ownBlock=some P/\Stp R w v wr v'/\New w L L'/\L'.length + 3 * (s.size - q)<=1000)\/
 (∃(x:Nat) (a g':Int) (v':Value) (L':List Pm) (kv:Value) (ks:List Int),res = .error x/\Sp wr R s a x g' v' L'/\
  Pb wr P (ZI 2 []) (.slice none 0 0) kv/\wr.ownsRow w.heap.size 3 1 kv ks.length (Zgu ks)/\Stp R w v wr v'/\New w L L'/\L'.length<=B)
theorem JL {w:World} {base:Nat} {kv:Value} {ks:List Int} (c:Pc) (hc:c.set = []) (hk:c.kids=ks) (h:w.ownsRow base 3 1 kv ks.length (Zgu ks)):Je w (c,.slice none 0 0,kv) :=
 ⟨by rw [hc]; exact Zcc _ _ _,by rw [hk]; exact Zr h (fun _ _=>Nat.zero_le _)⟩
theorem Pb.seqMade (w:World) (k:Int):Pb (w.alloc (.cells #[.int .i64 k,.slice none 0 0,.int .i64 0,.int .i64 0,.bool false,.int .i64 0,.slice none 0 0] 114)) w.heap.size (ZI k []) (.slice none 0 0) (.slice none 0 0):=heap_alloc_new _ _
theorem ZfB {alt:Nat->Nat->Rd3} {room:Bool} {s:ByteArray} {fu q g:Nat} {fs:List Pf} (h:¬ (bt s q≠256/\bt s q≠124/\bt s q≠41)):ZE alt room s (fu + 1) q g fs = .ok (fs,q,g):=by
 rw [ZE,if_neg h]
theorem ZgG {alt:Nat->Nat->Rd3} {room:Bool} {s:ByteArray} {fu q g x:Nat} {fs:List Pf} (h:bt s q≠256/\bt s q≠124/\bt s q≠41) (hp:Zn alt room s q g = .error x):ZE alt room s (fu + 1) q g fs = .error x:=by
 rw [ZE,if_pos h,hp]
theorem ZfA {alt:Nat->Nat->Rd3} {room:Bool} {s:ByteArray} {fu q g q1 g1:Nat} {f:Pf} {fs:List Pf} (h:bt s q≠256/\bt s q≠124/\bt s q≠41) (hp:Zn alt room s q g = .ok (f,q1,g1)):ZE alt room s (fu + 1) q g fs=ZE alt room s fu q1 g1 (fs ++ [f]):=by
 rw [ZE,if_pos h,hp]
def ZsD (s:ByteArray) (alt:Nat->Nat->Rd3) (room:Bool) (deep B:Nat):Prop :=
 ∀ (w:World) (R p g:Nat) (v:Value) (L:List Pm),Sp w R s p (-1) g v L->s.size<=120->p<=s.size->g<=9->L.length + 3 * (s.size - p)<=1000->Zad s alt->
   Calls Tryz.prog 47 #[.pointer (some ⟨R,0,none⟩),.int .i64 deep] w (QI (ZH alt room s p g) R s B w v L)
theorem ZgE {alt:Nat->Nat->Rd3} {room:Bool} {s:ByteArray} {p g x:Nat} (h:ZE alt room s (s.size + 1) p g [] = .error x):ZH alt room s p g = .error x:=by simp [ZH,h]
theorem Zb5 {alt:Nat->Nat->Rd3} {room:Bool} {s:ByteArray} {p g q g':Nat} {fs:List Pf} (h:ZE alt room s (s.size + 1) p g [] = .ok (fs,q,g')):ZH alt room s p g = .ok (Jh fs,q,g'):=by simp [ZH,h]
theorem ZkB {s:ByteArray} {alt:Nat->Nat->Rd3} {room:Bool} {deep B:Nat} (hA:Zp0 s alt room deep B) (hB:1005<=B) (hB5:B<=6000):ZsD s alt room deep (B + 1):=by
 intro w R p g v L S hs hp hg hF G;go_enter Tryz.func47,Tryz.ntmps47;obtain ⟨res,hres⟩ :∃res,ZE alt room s (s.size + 1) p g []=res:=⟨_,rfl⟩;have HRes:Hid (ZE alt room s (s.size + 1) p g []=res):=hres;have S1:=S.alloc (.cells #[.int .i64 2,.slice none 0 0,.int .i64 0,.int .i64 0,.bool false,.int .i64 0,.slice none 0 0] 114);have st1:Stp R w v _ v:=(Stp.refl R w v).same ((Za.refl N0_ w).alloc (.cells #[.int .i64 2,.slice none 0 0,.int .i64 0,.int .i64 0,.bool false,.int .i64 0,.slice none 0 0] 114));have hP1:=Pb.seqMade w 2;have hv1:=ZaJ S;have hPR:¬ w.heap.size=R:=by have:=S.rd.lt; omega
 go_wp2;go_loopg [6] (s.size + 1) (fun fu x6 wr=>Ztj alt room s R w.heap.size B res w v L fu wr)
 case atStart =>
  refine Or.inl ⟨p,g,v,L,[],.slice none 0 0,hp,hg,by omega,hres,S1,by simp [cat],hP1,World.ownsRow_nil _ _ _ _,by simp [ends]; omega,?_,hv1,st1,New.refl _ _,hF⟩;intro x hx k hk h; simp [Value.ownBlock] at h
 case round =>
  as_aux_lemma =>
   clear S1 st1 hP1 hv1 hres S hp hg hF
   rcases hrel with ⟨q,g',v',L',fs,kv,hq,hg',hfu,hloop,S5,hm5,hP,hkv,hkn,hap,hv,st5,hn5,hF5⟩ | ⟨x,a,g',v',L',kv,ks,hx,S5,hP,hkv,st5,hn5,hB5'⟩
   ·obtain ⟨fu,rfl⟩ :∃f,gk=f + 1:=⟨gk - 1,by omega⟩;have HL:Hid (ZE alt room s (fu + 1) q g' fs=res):=hloop;have HM:Hid (L'.map (·.1)=L.map (·.1) ++ cat fs L.length):=hm5;have HLen:Hid (L'.length=L.length + (cat fs L.length).length):=ZG (f:=cat fs) hm5;clear hloop hm5;have c0:=S5.rd.c0;have c1:=S5.rd.c1
    by_cases hgo:bt s q≠256/\bt s q≠124/\bt s q≠41
    ·have hin:q < s.size:=by
      apply Decidable.byContradiction; intro hn'; exact hgo.1 (Z7 hn')
     have hqz:(q:Int) < (s.size:Int):=by omega
     have hc:s[q].toNat=bt s q:=(ZV hin).symm;obtain ⟨b,hbb⟩ :∃b,bt s q=b:=⟨_,rfl⟩;have HG:Hid (bt s q≠256/\bt s q≠124/\bt s q≠41):=hgo;rw [hbb] at hc hgo;have z1:((b:Int) != 124)=true:=by
      have:¬ (b:Int)=124:=by omega
      simpa using this
     have z2:((b:Int) != 41)=true:=by
      have:¬ (b:Int)=41:=by omega
      simpa using this
     clear hbb hgo;go_upto_region 2 with (fail);go_quiet ((go_at_call 27; exact Calls.quiet_of (ZK (S5.rd.drewN _) hs hin)));replace S5:=S5.drewN nq;replace st5:Stp R w v (wr.drewN nq) v':=st5.same ((Za.refl _ _).drewN _);replace hP:=hP.keeps ((Za.refl N0_ wr).drewN nq) id;replace hkv:=Z6 (w':=wr.drewN nq) hkv rfl;clear c0 c1;generalize wr.drewN nq=w3 at S5 st5 hP hkv ⊢
     cases hpc:Zn alt room s q g' with
     | error x =>
       have HX:Hid (Zn alt room s q g' = .error x):=hpc;have HE:Hid (res = .error x):=by
        have h1:=HL.out;show _ = _; rw [<- h1]; exact ZgG HG.out hpc
       clear hpc;go_wp2_with (first
        | (go_at_call 73; refine (hA _ _ _ _ _ _ S5 hs hin hg' hF5 G).mono ?_; intro e w4 hpo; unfold QI at hpo; rw [HX.out] at hpo; obtain ⟨r,v4,L4,rfl,hS4,hB4,st4,hn4⟩:=hpo; obtain ⟨a4,g4,S4⟩:=hS4; have hP4:=hP.keeps st4.keeps (fun h=>h.elim hPR hv); have hkv4:=Zb hkv st4.keeps (fun k hk h=>h.elim (fun h=>Zi hkv S5.rd (by decide) (h ▸ hk)) (fun h=>Q6 hkv S5.row (by decide) hk h)); have hv4:¬ v4.ownBlock=some w.heap.size:=(fun h=>hv (st4.blk _ h (lt_of_block hP))); have hap4:Zfk L4 kv:=(by obtain ⟨M,rfl,hM⟩:=hn4; intro y hy k hk hk'; rw [List.mem_append] at hy; rcases hy with hy | hy; exact hap y hy k hk hk'; obtain ⟨cur,hh⟩:=Zu hkv hk'; exact absurd (hM y hy k hk) (by have:=lt_of_block hh; omega)); obtain ⟨kv',w5,hrun,c6,f6,S6,hP6,hkv6,hap6,hk6⟩:=ZcK S4 hP4 hv4 hkv4 hap4 (Nat.le_trans st5.keeps.size st4.keeps.size) (by omega) r; have c64:=hP4.facts.2.2.2.2.2.2.1; obtain ⟨ao,cap,rfl⟩:=Zd hkv6)
        | (at_builtin; refine Zk rfl _ _ _ _ rfl rfl _ _ _ _ rfl rfl hrun ?_))
       go_roundg fu
       case measure=>omega
       case rel=>exact Or.inr ⟨x,a4,g4,v4,L4,_,ends fs L.length ++ [r],HE.out,S6,hP6,by simpa using hkv6,(st5.trans st4).on hk6 (fun i hi' h=>h.elim (fun h=>by omega) (fun h=>by have:=(hkv4.lt _ h).1; omega)),hn5.trans hn4 st5.keeps.size,hB4⟩
     | ok rr =>
       obtain ⟨f,q1,g1⟩:=rr;have hpos:=J5 G hin hg' hpc;have hlenf:=hpos.2.2.2 L'.length;have HX:Hid (Zn alt room s q g' = .ok (f,q1,g1)):=hpc;have HE:Hid (ZE alt room s fu q1 g1 (fs ++ [f])=res):=by
        have h1:=HL.out;show _ = _; rw [<- h1]; exact (ZfA HG.out hpc).symm
       clear hpc;go_wp2_with (first
        | (go_at_call 73; refine (hA _ _ _ _ _ _ S5 hs hin hg' hF5 G).mono ?_; intro e w4 hpo; unfold QI at hpo; rw [HX.out] at hpo; obtain ⟨v4,L4,rfl,S4,hm4,st4,hn4⟩:=hpo; have hP4:=hP.keeps st4.keeps (fun h=>h.elim hPR hv); have hkv4:=Zb hkv st4.keeps (fun k hk h=>h.elim (fun h=>Zi hkv S5.rd (by decide) (h ▸ hk)) (fun h=>Q6 hkv S5.row (by decide) hk h)); have hv4:¬ v4.ownBlock=some w.heap.size:=(fun h=>hv (st4.blk _ h (lt_of_block hP))); have hap4:Zfk L4 kv:=(by obtain ⟨M,rfl,hM⟩:=hn4; intro y hy k hk hk'; rw [List.mem_append] at hy; rcases hy with hy | hy; exact hap y hy k hk hk'; obtain ⟨cur,hh⟩:=Zu hkv hk'; exact absurd (hM y hy k hk) (by have:=lt_of_block hh; omega)); obtain ⟨kv',w5,hrun,c6,f6,S6,hP6,hkv6,hap6,hk6⟩:=ZcK S4 hP4 hv4 hkv4 hap4 (Nat.le_trans st5.keeps.size st4.keeps.size) (by omega) ((L'.length:Int) + (f L'.length).length - 1); have c64:=hP4.facts.2.2.2.2.2.2.1; obtain ⟨ao,cap,rfl⟩:=Zd hkv6)
        | (at_builtin; refine Zk rfl _ _ _ _ rfl rfl _ _ _ _ rfl rfl hrun ?_))
       go_roundg fu
       case measure=>omega
       case rel =>
        have hlen5:=HLen.out;have he1:ends (fs ++ [f]) L.length=ends fs L.length ++ [((L'.length:Int) + (f L'.length).length - 1)]:=by
         rw [Zf6,hlen5]; simp
        have hc1:cat (fs ++ [f]) L.length=cat fs L.length ++ f L'.length:=by rw [ZcP,hlen5]
        have hl4:L4.length=L'.length + (f L'.length).length:=ZG hm4;refine Or.inl ⟨q1,g1,v4,L4,fs ++ [f],_,hpos.2.1,hpos.2.2.1,by omega,HE.out,S6,?_,hP6,?_,?_,hap6,hv4,(st5.trans st4).on hk6 (fun i hi' h=>h.elim (fun h=>by omega) (fun h=>by have:=(hkv4.lt _ h).1; omega)),hn5.trans hn4 st5.keeps.size,by omega⟩
        ·rw [hm4,HM.out,hc1,List.append_assoc]
        ·rw [he1]; simpa using hkv6
        ·rw [he1]; simp; omega
    ·have HE:Hid (res = .ok (fs,q,g')):=by
      have h1:=HL.out;show _ = _; rw [<- h1]; exact ZfB hgo
     by_cases hin:q < s.size
     ·have hqz:(q:Int) < (s.size:Int):=by omega
      have hc:s[q].toNat=bt s q:=(ZV hin).symm;have hlt:=Q9 hin
      rcases (show bt s q=124\/bt s q=41 from by omega) with hb | hb
      ·rw [hb] at hc;clear hgo hb;go_upto_region 2 with (fail);go_quiet ((go_at_call 27; exact Calls.quiet_of (ZK (S5.rd.drewN _) hs hin)));replace S5:=S5.drewN nq;replace st5:Stp R w v (wr.drewN nq) v':=st5.same ((Za.refl _ _).drewN _);replace hP:=hP.keeps ((Za.refl N0_ wr).drewN nq) id;replace hkv:=Z6 (w':=wr.drewN nq) hkv rfl;clear c0 c1;generalize wr.drewN nq=w3 at S5 st5 hP hkv ⊢;obtain ⟨d0,d1,d2,d3,d4,d5,d6,df⟩:=hP.facts;go_wp2_with (first
        | (go_at_call 49; refine (Zcz S5 (ZI 2 (ends fs L.length),.slice none 0 0,kv) (JL _ rfl rfl hkv) (by omega) st5 hn5 (fun k hk=>(hkv.lt k hk).1)).mono ?_; rintro e w6 ⟨rfl,v6,S6,st6,hn6⟩))
       go_ret;refine Qg (Zb5 (HRes.out.trans HE.out)) S6 ?_ (by have:=HLen.out; simp [Jh]; omega) st6 hn6;rw [List.map_append,HM.out];simp [Jh]
      ·rw [hb] at hc;clear hgo hb;go_upto_region 2 with (fail);go_quiet ((go_at_call 27; exact Calls.quiet_of (ZK (S5.rd.drewN _) hs hin)));replace S5:=S5.drewN nq;replace st5:Stp R w v (wr.drewN nq) v':=st5.same ((Za.refl _ _).drewN _);replace hP:=hP.keeps ((Za.refl N0_ wr).drewN nq) id;replace hkv:=Z6 (w':=wr.drewN nq) hkv rfl;clear c0 c1;generalize wr.drewN nq=w3 at S5 st5 hP hkv ⊢;obtain ⟨d0,d1,d2,d3,d4,d5,d6,df⟩:=hP.facts;go_wp2_with (first
        | (go_at_call 49; refine (Zcz S5 (ZI 2 (ends fs L.length),.slice none 0 0,kv) (JL _ rfl rfl hkv) (by omega) st5 hn5 (fun k hk=>(hkv.lt k hk).1)).mono ?_; rintro e w6 ⟨rfl,v6,S6,st6,hn6⟩))
       go_ret;refine Qg (Zb5 (HRes.out.trans HE.out)) S6 ?_ (by have:=HLen.out; simp [Jh]; omega) st6 hn6;rw [List.map_append,HM.out];simp [Jh]
     ·clear hgo;go_upto_region 2 with (fail);go_quiet ((go_at_call 27; exact Calls.quiet_of (ZaV (S5.rd.drewN _) hs hin)));replace S5:=S5.drewN nq;replace st5:Stp R w v (wr.drewN nq) v':=st5.same ((Za.refl _ _).drewN _);replace hP:=hP.keeps ((Za.refl N0_ wr).drewN nq) id;replace hkv:=Z6 (w':=wr.drewN nq) hkv rfl;clear c0 c1;generalize wr.drewN nq=w3 at S5 st5 hP hkv ⊢;obtain ⟨d0,d1,d2,d3,d4,d5,d6,df⟩:=hP.facts;go_wp2_with (first
       | (go_at_call 49; refine (Zcz S5 (ZI 2 (ends fs L.length),.slice none 0 0,kv) (JL _ rfl rfl hkv) (by omega) st5 hn5 (fun k hk=>(hkv.lt k hk).1)).mono ?_; rintro e w6 ⟨rfl,v6,S6,st6,hn6⟩))
      go_ret;refine Qg (Zb5 (HRes.out.trans HE.out)) S6 ?_ (by have:=HLen.out; simp [Jh]; omega) st6 hn6;rw [List.map_append,HM.out];simp [Jh]
   ·have HE:Hid (res = .error x):=hx;clear hx;go_upto_region 2 with (fail);go_quiet ((go_at_call 27; exact Calls.quiet_of (ZbL (S5.rd.drewN _))));replace S5:=S5.drewN nq;replace st5:Stp R w v (wr.drewN nq) v':=st5.same ((Za.refl _ _).drewN _);replace hP:=hP.keeps ((Za.refl N0_ wr).drewN nq) id;replace hkv:=Z6 (w':=wr.drewN nq) hkv rfl;generalize wr.drewN nq=w3 at S5 st5 hP hkv ⊢;obtain ⟨d0,d1,d2,d3,d4,d5,d6,df⟩:=hP.facts;go_wp2_with (first
     | (go_at_call 49; refine (Zcz S5 (ZI 2 ks,.slice none 0 0,kv) (JL _ rfl rfl hkv) (by omega) st5 hn5 (fun k hk=>(hkv.lt k hk).1)).mono ?_; rintro e w6 ⟨rfl,v6,S6,st6,hn6⟩))
    go_ret;exact Ql (ZgE (HRes.out.trans HE.out)) S6 (by simp; omega) st6 hn6
end Go.Proofs.YtfkflljplohhcaaGreatDoor
