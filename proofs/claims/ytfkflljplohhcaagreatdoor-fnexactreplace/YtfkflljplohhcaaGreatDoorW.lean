import Derived.Test.YtfkflljplohhcaaGreatDoorV
set_option maxHeartbeats 2000000
set_option maxRecDepth 100000
namespace Go.Proofs.YtfkflljplohhcaaGreatDoor
open Go.RowKit
set_option linter.unusedVariables false
def Q8 (s:ByteArray) (f:Pf) (q g:Nat):Rd3 :=
 match ZW s q with
 | .error e => .error e
 | .ok (none,_) => .ok (f,q,g)
 | .ok (some (lo,hi),q2)=>if bt s q2=63 then .ok (Z9 lo hi true f,q2 + 1,g) else .ok (Z9 lo hi false f,q2,g)
theorem ZfL {alt:Nat->Nat->Rd3} {room:Bool} {s:ByteArray} {p g x:Nat} (h:Zg alt room s p g = .error x):Zn alt room s p g = .error x:=by
 simp [Zn,h]
theorem Zc8 {alt:Nat->Nat->Rd3} {room:Bool} {s:ByteArray} {p g q g':Nat} {f:Pf} (h:Zg alt room s p g = .ok (f,q,g')):Zn alt room s p g=Q8 s f q g':=by
 unfold Zn Q8; rw [h]; rfl
theorem Zds {w:World} {R q g B:Nat} {s:ByteArray} {d:Int} {v:Value} {f:Pf} (h:Rc w R s q g d) (hN:Nd w (fun k=>B<=k) v f) (hRB:R < B) (hs:s.size<=120) (hq:q<=s.size) :
  Calls Tryz.prog 96 #[.pointer (some ⟨R,0,none⟩),v] w (Z5 R B s d (Q8 s f q g) w):=by
 obtain ⟨t,y,rfl⟩:=hN.iface
 cases hc:ZW s q with
 | error x =>
   have HR:Hid (Q8 s f q g = .error x):=(by show _ = _; simp [Q8,hc]);have HC:Hid (ZW s q = .error x):=hc;clear hc;go_enter Tryz.func96,Tryz.ntmps96;go_wp2_with (first
    | (go_at_call 132; refine (ZaE h hs hq).mono ?_; rw [HC.out]; rintro e w2 ⟨rfl,hk⟩))
   exact ⟨rfl,ZA HR.out ⟨rfl,hk⟩⟩
 | ok r =>
   obtain ⟨o,q2⟩:=r;have hpos:=Zci hq hc;have HC:Hid (ZW s q = .ok (o,q2)):=hc
   cases o with
   | none =>
     have hqq:q2=q:=hpos.2.2.2 rfl;have HR:Hid (Q8 s f q g = .ok (f,q2,g)):=(by show _ = _; simp [Q8,hc,hqq]);clear hc hpos hqq;go_enter Tryz.func96,Tryz.ntmps96;go_wp2_with (first
      | (go_at_call 132; refine (ZaE h hs hq).mono ?_; rw [HC.out]; clear h; rintro e w2 ⟨rfl,hR,hk⟩))
     go_ret;exact ZM HR.out (hN.keeps hk (by intro i hi _ h; omega)) hR hk
   | some lh =>
     obtain ⟨lo,hi⟩:=lh;have hq2:q2<=s.size:=hpos.2.1
     by_cases hb:bt s q2=63
     ·have HR:Hid (Q8 s f q g = .ok (Z9 lo hi true f,q2 + 1,g)):=(by show _ = _; simp [Q8,hc,hb]);have HB:Hid (bt s q2=63):=hb;clear hc hpos hb;go_enter Tryz.func96,Tryz.ntmps96;go_wp2_with (first
       | (go_at_call 132; refine (ZaE h hs hq).mono ?_; rw [HC.out]; clear h; rintro e w2 ⟨rfl,hR,hK⟩; replace hN:=hN.keeps hK (by intro i hi _ h; omega))
       | (go_at_call 76; refine (Z2 hR hs hq2 (b:=63) (by decide) HB.out).mono ?_; clear hR; rintro e w3 ⟨rfl,hR,hk⟩; replace hN:=hN.keeps hk (by intro i hi _ h; omega); replace hK:=hK.trans hk))
      go_ret;exact ZM HR.out (.rep lo hi true hN) hR hK
     ·have HR:Hid (Q8 s f q g = .ok (Z9 lo hi false f,q2,g)):=(by show _ = _; simp [Q8,hc,hb]);have HB:Hid (bt s q2≠63):=hb;clear hc hpos hb;go_enter Tryz.func96,Tryz.ntmps96;go_wp2_with (first
       | (go_at_call 132; refine (ZaE h hs hq).mono ?_; rw [HC.out]; clear h; rintro e w2 ⟨rfl,hR,hK⟩; replace hN:=hN.keeps hK (by intro i hi _ h; omega))
       | (go_at_call 76; refine (QM hR hs hq2 (b:=63) (by decide) HB.out).mono ?_; clear hR; rintro e w3 ⟨rfl,hR,hk⟩; replace hN:=hN.keeps hk (by intro i hi _ h; omega); replace hK:=hK.trans hk))
      go_ret;exact ZM HR.out (.rep lo hi false hN) hR hK
def ZiM (w:World) (B:Nat) (x:Value) (vs:List Value) (fs:List Pf):Prop :=
 w.ownsRow B 85 1 x vs.length vs/\fs.length=vs.length/\
  ∀(i:Nat) (v:Value) (f:Pf),vs[i]? = some v->fs[i]? = some f->Nd w (fun k=>B<=k/\¬ x.ownBlock=some k) v f
theorem ZiM.nil (w:World) (B:Nat):ZiM w B (.slice none 0 0) [] []:=⟨World.ownsRow_nil _ _ _ _,rfl,by simp⟩
theorem ZiM.keeps {w w':World} {B:Nat} {x:Value} {vs:List Value} {fs:List Pf} {E:Nat->Prop} (h:ZiM w B x vs fs) (k:Za E w w') (hE :∀i,B<=i->i < w.heap.size->¬ E i):ZiM w' B x vs fs:=by
 obtain ⟨h1,h2,h3⟩:=h;exact ⟨Zb h1 k (fun i hi=>hE i (h1.lt i hi).1 (h1.lt i hi).2),h2,fun i v f hv hf=>(h3 i v f hv hf).keeps k (fun j hj hlt=>hE j hj.1 hlt)⟩
theorem ZiM.snoc {w:World} {B:Nat} {x:Value} {vs:List Value} {fs:List Pf} (h:ZiM w B x vs fs) (hB:B<=w.heap.size) (hlen:vs.length<=1000) {v:Value} {f:Pf} (hN:Nd w (fun k=>B<=k/\¬ x.ownBlock=some k) v f) (hone:v.oneCell'=true) :
  ∃x' w',Sem.run Tryz.prog (Builtin.append_ #[163,163] 163 #[x,.slice (some ⟨w.heap.size,0,none⟩) 1 1]) (w.alloc (.cells #[v] 85)) = .ok x' w'/\ZiM w' B x' (vs ++ [v]) (fs ++ [f])/\(∃ao cap,x' = .slice ao (vs.length + 1) cap)/\Za (fun k=>x.ownBlock=some k) w w':=by
 obtain ⟨h1,h2,h3⟩:=h;obtain ⟨i0,hi,hz0,hz1,hz2⟩:=info_parts Tryz.infoNode;obtain ⟨x',w',hrun,ho,hg,hblk⟩:=JV (P:=Tryz.prog) (w.alloc (.cells #[v] 85)) B 163 163 85 i0 .nilIface 1 16 Tryz.underlying163 hi hz0 hz1 hz2 rfl (by decide) x vs.length vs (h1.alloc _) ⟨w.heap.size,0,none⟩ 1 1 [v] rfl (Qt w _ [v]) (by simpa using hone) (by unfold maxLen; omega) (by omega) (by simp; omega);have hK:Za (fun k=>x.ownBlock=some k) w w':=((Za.refl _ w).alloc _).grown hg (fun k hk _=>hk);refine ⟨x',w',hrun,⟨by simpa using ho,by simp [h2],?_⟩,Zd ho,hK⟩;have hstep :∀(u:Value) (e:Pf),Nd w (fun k=>B<=k/\¬ x.ownBlock=some k) u e->Nd w' (fun k=>B<=k/\¬ x'.ownBlock=some k) u e:=by
  intro u e hu;have a1:Nd w (fun k=>(B<=k/\¬ x'.ownBlock=some k)/\¬ x.ownBlock=some k) u e :=
   hu.mono (fun k hk hlt=>⟨⟨hk.1,fun h=>hk.2 (hblk k h (by simp; omega))⟩,hk.2⟩)
  have a2:=a1.keeps hK (fun i hi _=>hi.2);exact a2.mono (fun k hk _=>hk.1)
 intro i u e hu he
 by_cases hi2:i < vs.length
 ·rw [List.getElem?_append_left hi2] at hu;rw [List.getElem?_append_left (by omega)] at he;exact hstep u e (h3 i u e hu he)
 ·rw [List.getElem?_append_right (by omega)] at hu;rw [List.getElem?_append_right (by omega)] at he;have h0:i - vs.length=0:=by
   rcases Nat.eq_zero_or_pos (i - vs.length) with h | h
   ·exact h
   ·rw [List.getElem?_eq_none (by simp; omega)] at hu; simp at hu
  rw [h0] at hu;rw [h2,h0] at he;simp at hu he;subst hu he;exact hstep v f hN
def ZsH (s:ByteArray) (alt:Nat->Nat->Rd3) (room:Bool) (d:Int):Prop :=
 ∀ (w:World) (R p g B:Nat),Rc w R s p g d->R < B->B<=w.heap.size->p<=s.size->g<=9->
   Calls Tryz.prog 75 #[.pointer (some ⟨R,0,none⟩)] w (Z5 R B s d (ZH alt room s p g) w)
section
variable {alt:Nat->Nat->Rd3} {room:Bool} {s:ByteArray} {fu p g:Nat} {fs:List Pf}
theorem Zcu (h:bt s p≠256/\bt s p≠124/\bt s p≠41) {x:Nat} (he:Zn alt room s p g = .error x):ZE alt room s (fu + 1) p g fs = .error x:=by
 rw [ZE,if_pos h,he]
theorem ZeQ (h:bt s p≠256/\bt s p≠124/\bt s p≠41) {f:Pf} {q g':Nat} (he:Zn alt room s p g = .ok (f,q,g')):ZE alt room s (fu + 1) p g fs=ZE alt room s fu q g' (fs ++ [f]):=by
 rw [ZE,if_pos h,he]
theorem ZeR (h:¬ (bt s p≠256/\bt s p≠124/\bt s p≠41)):ZE alt room s (fu + 1) p g fs = .ok (fs,p,g):=by
 rw [ZE,if_neg h]
end
theorem ZdL {alt:Nat->Nat->Rd3} {room:Bool} {s:ByteArray} {p g x:Nat} (h:ZE alt room s (s.size + 1) p g [] = .error x):ZH alt room s p g = .error x:=by
 simp [ZH,h]
theorem ZkC {alt:Nat->Nat->Rd3} {room:Bool} {s:ByteArray} {p g q g':Nat} {fs:List Pf} (h:ZE alt room s (s.size + 1) p g [] = .ok (fs,q,g')):ZH alt room s p g = .ok (Jh fs,q,g'):=by
 simp [ZH,h]
def ZsI (alt:Nat->Nat->Rd3) (room:Bool) (s:ByteArray) (R:Nat) (d:Int) (w:World) (res:Except Nat (List Pf×Nat×Nat)) (fu:Nat) (x:Value) (wr:World):Prop :=
 ∃(q g':Nat) (vs:List Value) (fs:List Pf),q<=s.size/\g'<=9/\s.size - q < fu/\vs.length<=q/\Aside (ZE alt room s fu q g' fs=res)/\Rc wr R s q g' d/\ZiM wr w.heap.size x vs fs/\Za (fun k=>k=R) w wr/\∃ao cap,x = .slice ao vs.length cap
theorem Zii {s:ByteArray} {d:Int} {alt:Nat->Nat->Rd3} {room:Bool} (hA:Zp2 s alt room d) (G:Zad s alt) (hs:s.size<=120):ZsH s alt room d:=by
 intro w R p g B h hRB hB hp hg;have hRw:=h.lt;obtain ⟨res,hres⟩ :∃res,ZE alt room s (s.size + 1) p g []=res:=⟨_,rfl⟩;have HRes:Hid (ZE alt room s (s.size + 1) p g []=res):=hres;go_enter Tryz.func75,Tryz.ntmps75;go_wp2;go_loopg [3] (s.size + 1) (fun fu x wr=>ZsI alt room s R d w res fu x wr)
 case atStart=>exact ⟨p,g,[],[],hp,hg,by omega,by simp,hres,h,ZiM.nil _ _,Za.refl _ _,_,_,rfl⟩
 case round =>
  clear h hp hg hres;obtain ⟨q,g',vs,fs,hq,hg',hfu,hvl,hloop,hR,hKd,hK,ao,cap,rfl⟩:=hrel;obtain ⟨fu,rfl⟩ :∃f,gk=f + 1:=⟨gk - 1,by omega⟩;have HL:Hid (ZE alt room s (fu + 1) q g' fs=res):=hloop;clear hloop
  by_cases hgo:bt s q≠256/\bt s q≠124/\bt s q≠41
  ·have hin:q < s.size:=by
    apply Decidable.byContradiction; intro hn'; exact hgo.1 (Z7 hn')
   have HG:Hid (bt s q≠256/\bt s q≠124/\bt s q≠41):=hgo;have T124:Hid (decide (bt s q=124)=false):=(by show _ = _; simp [hgo.2.1]);have T41:Hid (decide (bt s q=41)=false):=(by show _ = _; simp [hgo.2.2]);clear hgo
   cases hat:Zg alt room s q g' with
   | error x =>
     have HA:Hid (Zg alt room s q g' = .error x):=hat;have HX:Hid (ZH alt room s p g = .error x):=by
      have h1:=HRes.out; have h2:=HL.out;exact ZdL (by rw [h1,<- h2]; exact Zcu HG.out (ZfL hat))
     clear hat;go_wp2_with (first
      | (go_at_call 54; refine (Jr hR hin).mono ?_; rintro e w2 ⟨rfl,n,hn⟩; replace hK:=hK.trans (Ze hn).none; replace hKd:=hKd.keeps (Ze hn) (fun _ _ _ h=>h); replace hR:=hR.keeps (Ze hn) id; clear hn)
      | (go_at_call_of 95 (Value.int .u8 124); refine (QA hR hs hq (b:=124) (by decide) T124.out).mono ?_; rintro e w3 ⟨rfl,n,hn⟩; replace hK:=hK.trans (Ze hn).none; replace hKd:=hKd.keeps (Ze hn) (fun _ _ _ h=>h); replace hR:=hR.keeps (Ze hn) id; clear hn)
      | (go_at_call_of 95 (Value.int .u8 41); refine (QA hR hs hq (b:=41) (by decide) T41.out).mono ?_; rintro e w4 ⟨rfl,n,hn⟩; replace hK:=hK.trans (Ze hn).none; replace hKd:=hKd.keeps (Ze hn) (fun _ _ _ h=>h); replace hR:=hR.keeps (Ze hn) id; clear hn)
      | (go_at_call 97; have hlt4:=(fun (k:Nat) (hk:(Value.slice ao vs.length cap).ownBlock=some k)=>(hKd.1.lt k hk).2); have hs4:=hK.size; refine (hA w4 R q g' w4.heap.size hR (by omega) (Nat.le_refl _) hin hg' HG.out.2.1 HG.out.2.2).mono ?_; rw [HA.out]; rintro e w5 ⟨rfl,hk⟩))
     exact ⟨rfl,ZA HX.out ⟨rfl,hK.trans hk⟩⟩
   | ok r =>
     obtain ⟨f1,q1,g1⟩:=r;have hpos:=ZX G hin hg' hat;have hq1:q1<=s.size:=hpos.2.1;have HA:Hid (Zg alt room s q g' = .ok (f1,q1,g1)):=hat
     cases hct:Q8 s f1 q1 g1 with
     | error x =>
       have HC:Hid (Q8 s f1 q1 g1 = .error x):=hct;have HX:Hid (ZH alt room s p g = .error x):=by
        have h1:=HRes.out; have h2:=HL.out;exact ZdL (by rw [h1,<- h2]; exact Zcu HG.out (by rw [Zc8 hat,hct]))
       clear hat hct hpos;go_wp2_with (first
        | (go_at_call 54; refine (Jr hR hin).mono ?_; rintro e w2 ⟨rfl,n,hn⟩; replace hK:=hK.trans (Ze hn).none; replace hKd:=hKd.keeps (Ze hn) (fun _ _ _ h=>h); replace hR:=hR.keeps (Ze hn) id; clear hn)
        | (go_at_call_of 95 (Value.int .u8 124); refine (QA hR hs hq (b:=124) (by decide) T124.out).mono ?_; rintro e w3 ⟨rfl,n,hn⟩; replace hK:=hK.trans (Ze hn).none; replace hKd:=hKd.keeps (Ze hn) (fun _ _ _ h=>h); replace hR:=hR.keeps (Ze hn) id; clear hn)
        | (go_at_call_of 95 (Value.int .u8 41); refine (QA hR hs hq (b:=41) (by decide) T41.out).mono ?_; rintro e w4 ⟨rfl,n,hn⟩; replace hK:=hK.trans (Ze hn).none; replace hKd:=hKd.keeps (Ze hn) (fun _ _ _ h=>h); replace hR:=hR.keeps (Ze hn) id; clear hn)
        | (go_at_call 97; have hlt4:=(fun (k:Nat) (hk:(Value.slice ao vs.length cap).ownBlock=some k)=>(hKd.1.lt k hk).2); have hs4:=hK.size; refine (hA w4 R q g' w4.heap.size hR (by omega) (Nat.le_refl _) hin hg' HG.out.2.1 HG.out.2.2).mono ?_; rw [HA.out]; clear hR; rintro e w5 ⟨v,rfl,hN,hR,hk⟩; obtain ⟨t,y,rfl⟩:=hN.iface; replace hK:=hK.trans hk; replace hKd:=hKd.keeps hk (by intro i hi _ h; omega); clear hk)
        | (go_at_call 96; refine (Zds hR hN (by omega) hs hq1).mono ?_; rw [HC.out]; rintro e w6 ⟨rfl,hk⟩))
       exact ⟨rfl,ZA HX.out ⟨rfl,hK.trans hk⟩⟩
     | ok r =>
       obtain ⟨f2,q2,g2⟩:=r;have hpc:Zn alt room s q g' = .ok (f2,q2,g2):=by rw [Zc8 hat,hct]
       have hpp:=J5 G hin hg' hpc;have hqq2:q < q2:=hpp.1;have hq2:q2<=s.size:=hpp.2.1;have hg2:g2<=9:=hpp.2.2.1;have HC:Hid (Q8 s f1 q1 g1 = .ok (f2,q2,g2)):=hct;have HM:Hid (ZE alt room s fu q2 g2 (fs ++ [f2])=res):=by
        have h2:=HL.out;show _ = _; rw [<- h2]; exact (ZeQ HG.out hpc).symm
       clear hat hct hpc hpp hpos;go_wp2_with (first
        | (go_at_call 54; refine (Jr hR hin).mono ?_; rintro e w2 ⟨rfl,n,hn⟩; replace hK:=hK.trans (Ze hn).none; replace hKd:=hKd.keeps (Ze hn) (fun _ _ _ h=>h); replace hR:=hR.keeps (Ze hn) id; clear hn)
        | (go_at_call_of 95 (Value.int .u8 124); refine (QA hR hs hq (b:=124) (by decide) T124.out).mono ?_; rintro e w3 ⟨rfl,n,hn⟩; replace hK:=hK.trans (Ze hn).none; replace hKd:=hKd.keeps (Ze hn) (fun _ _ _ h=>h); replace hR:=hR.keeps (Ze hn) id; clear hn)
        | (go_at_call_of 95 (Value.int .u8 41); refine (QA hR hs hq (b:=41) (by decide) T41.out).mono ?_; rintro e w4 ⟨rfl,n,hn⟩; replace hK:=hK.trans (Ze hn).none; replace hKd:=hKd.keeps (Ze hn) (fun _ _ _ h=>h); replace hR:=hR.keeps (Ze hn) id; clear hn)
        | (go_at_call 97; have hlt4:=(fun (k:Nat) (hk:(Value.slice ao vs.length cap).ownBlock=some k)=>(hKd.1.lt k hk).2); have hs4:=hK.size; refine (hA w4 R q g' w4.heap.size hR (by omega) (Nat.le_refl _) hin hg' HG.out.2.1 HG.out.2.2).mono ?_; rw [HA.out]; clear hR; rintro e w5 ⟨v,rfl,hN,hR,hk⟩; obtain ⟨t,y,rfl⟩:=hN.iface; replace hK:=hK.trans hk; replace hKd:=hKd.keeps hk (by intro i hi _ h; omega); clear hk)
        | (go_at_call 96; refine (Zds hR hN (by omega) hs hq1).mono ?_; rw [HC.out]; clear hR; rintro e w6 ⟨v,rfl,hN2,hR,hk⟩; obtain ⟨t2,y2,rfl⟩:=hN2.iface; replace hK:=hK.trans hk; replace hKd:=hKd.keeps hk (by intro i hi _ h; omega); clear hk; have hs6:=hK.size; obtain ⟨x',w7,hrun,hKd7,⟨ao',cap',rfl⟩,hk7⟩:=hKd.snoc hs6 (by omega) (hN2.mono (fun k hk1 _=>⟨by omega,fun h=>by have:=hlt4 k h; omega⟩)) rfl)
        | (at_builtin; refine Zk rfl _ _ _ _ rfl rfl _ _ _ _ rfl rfl hrun ?_))
       go_roundg fu
       case measure=>omega
       case rel =>
        refine ⟨q2,g2,vs ++ [Value.iface t2 y2],fs ++ [f2],hq2,hg2,by omega,by simp; omega,HM.out,hR.keeps hk7 ?_,hKd7,hK.trans' hk7 ?_,ao',cap',by simp⟩
        ·intro h; have:=(hKd.1.lt _ h).1; omega
        ·intro i hi h; have:=(hKd.1.lt _ h).1; omega
  ·have HX:Hid (ZH alt room s p g = .ok (Jh fs,q,g')):=by
    have h1:=HRes.out; have h2:=HL.out;exact ZkC (by rw [h1,<- h2]; exact ZeR hgo)
   by_cases hend:q=s.size
   ·have HE:Hid (q=s.size):=hend;clear hgo hend;go_wp2_with (first
     | (go_at_call 54; refine (ZaZ hR HE.out).mono ?_; rintro e w2 ⟨rfl,n,hn⟩; replace hK:=hK.trans (Ze hn).none; replace hKd:=hKd.keeps (Ze hn) (fun _ _ _ h=>h); replace hR:=hR.keeps (Ze hn) id; clear hn))
    go_ret;exact ZM HX.out (.seq (Zr hKd.1 (fun _ _=>Nat.zero_le _)) (fun k hk=>by have:=(hKd.1.lt _ hk).1; omega) hKd.2.1 (by omega) (fun i v f hv hf=>(hKd.2.2 i v f hv hf).mono (fun k hk _=>by omega))) hR hK
   ·have hin:q < s.size:=by omega
    have hlt:=Q9 hin
    by_cases h124:bt s q=124
    ·have T124:Hid (decide (bt s q=124)=true):=(by show _ = _; simp [h124]);clear hgo hend hlt h124;go_wp2_with (first
      | (go_at_call 54; refine (Jr hR hin).mono ?_; rintro e w2 ⟨rfl,n,hn⟩; replace hK:=hK.trans (Ze hn).none; replace hKd:=hKd.keeps (Ze hn) (fun _ _ _ h=>h); replace hR:=hR.keeps (Ze hn) id; clear hn)
      | (go_at_call_of 95 (Value.int .u8 124); refine (QA hR hs hq (b:=124) (by decide) T124.out).mono ?_; rintro e w3 ⟨rfl,n,hn⟩; replace hK:=hK.trans (Ze hn).none; replace hKd:=hKd.keeps (Ze hn) (fun _ _ _ h=>h); replace hR:=hR.keeps (Ze hn) id; clear hn))
     go_ret;exact ZM HX.out (.seq (Zr hKd.1 (fun _ _=>Nat.zero_le _)) (fun k hk=>by have:=(hKd.1.lt _ hk).1; omega) hKd.2.1 (by omega) (fun i v f hv hf=>(hKd.2.2 i v f hv hf).mono (fun k hk _=>by omega))) hR hK
    ·have T124:Hid (decide (bt s q=124)=false):=(by show _ = _; simp [h124]);have h41:bt s q=41:=by
      apply Decidable.byContradiction; intro hn'; exact hgo ⟨by omega,h124,hn'⟩
     have T41:Hid (decide (bt s q=41)=true):=(by show _ = _; simp [h41]);clear hgo hend hlt h124 h41;go_wp2_with (first
      | (go_at_call 54; refine (Jr hR hin).mono ?_; rintro e w2 ⟨rfl,n,hn⟩; replace hK:=hK.trans (Ze hn).none; replace hKd:=hKd.keeps (Ze hn) (fun _ _ _ h=>h); replace hR:=hR.keeps (Ze hn) id; clear hn)
      | (go_at_call_of 95 (Value.int .u8 124); refine (QA hR hs hq (b:=124) (by decide) T124.out).mono ?_; rintro e w3 ⟨rfl,n,hn⟩; replace hK:=hK.trans (Ze hn).none; replace hKd:=hKd.keeps (Ze hn) (fun _ _ _ h=>h); replace hR:=hR.keeps (Ze hn) id; clear hn)
      | (go_at_call_of 95 (Value.int .u8 41); refine (QA hR hs hq (b:=41) (by decide) T41.out).mono ?_; rintro e w4 ⟨rfl,n,hn⟩; replace hK:=hK.trans (Ze hn).none; replace hKd:=hKd.keeps (Ze hn) (fun _ _ _ h=>h); replace hR:=hR.keeps (Ze hn) id; clear hn))
     go_ret;exact ZM HX.out (.seq (Zr hKd.1 (fun _ _=>Nat.zero_le _)) (fun k hk=>by have:=(hKd.1.lt _ hk).1; omega) hKd.2.1 (by omega) (fun i v f hv hf=>(hKd.2.2 i v f hv hf).mono (fun k hk _=>by omega))) hR hK
def JX (alt:Nat->Nat->Rd3) (room:Bool) (s:ByteArray) (fu q g:Nat) (fs:List Pf):Rd3 :=
 if bt s q=124\/2<=fs.length then
  match Z0 alt room s fu q g fs with
  | .error e => .error e
  | .ok (fs',q2,g2) => .ok (JW fs',q2,g2)
 else match fs with
  | [f] => .ok (f,q,g)
  | _ => .error 0
section
variable {alt:Nat->Nat->Rd3} {room:Bool} {s:ByteArray} {fu p g:Nat}
theorem Zgl {f:Pf} {q g':Nat} (h:ZH alt room s p g = .ok (f,q,g')):Jd alt room s p g=JX alt room s (s.size + 1) q g' [f]:=by
 unfold Jd JX;rw [h]
 by_cases hb:bt s q=124
 ·simp [hb]; rfl
 ·simp [hb]
theorem Zj8 {fs:List Pf} {x:Nat} (hb:bt s p=124) (h:ZH alt room s (p + 1) g = .error x):JX alt room s (fu + 1) p g fs = .error x:=by
 unfold JX;rw [if_pos (Or.inl hb),Z0,if_pos hb,h]
theorem ZhG {fs:List Pf} {f:Pf} {q g':Nat} (hb:bt s p=124) (hl:1<=fs.length) (h:ZH alt room s (p + 1) g = .ok (f,q,g')):JX alt room s (fu + 1) p g fs=JX alt room s fu q g' (fs ++ [f]):=by
 unfold JX;rw [if_pos (Or.inl hb),Z0,if_pos hb,h,if_pos (Or.inr (by simp; omega))]
theorem ZhH {fs:List Pf} (hb:¬ bt s p=124) (hl:2<=fs.length):JX alt room s (fu + 1) p g fs = .ok (JW fs,p,g):=by
 unfold JX;rw [if_pos (Or.inr hl),Z0,if_neg hb]
theorem Zj7 {f:Pf} (hb:¬ bt s p=124):JX alt room s (fu + 1) p g [f] = .ok (f,p,g):=by
 simp [JX,hb]
end
theorem ZiM.one {w:World} {B:Nat} {v:Value} {f:Pf} (hB:B<=w.heap.size) (hN:Nd w (fun k=>B<=k) v f):ZiM (w.alloc (.cells #[v] 85)) B (.slice (some ⟨w.heap.size,0,none⟩) 1 1) [v] [f]:=by
 refine ⟨⟨rfl,Or.inr ⟨w.heap.size,1,#[v],rfl,hB,heap_alloc_new w _,by simp,by decide,rfl,rfl⟩⟩,rfl,?_⟩;intro i u e hu he
 cases i with
 | zero =>
   simp at hu he;subst hu he;have a1:Nd w (fun k=>B<=k/\¬ (Value.slice (some ⟨w.heap.size,0,none⟩) 1 1).ownBlock=some k) v f:=hN.mono (fun k hk hlt=>⟨hk,fun h=>by simp [Value.ownBlock] at h; omega⟩);exact a1.keeps ((Za.refl N0_ w).alloc _) (fun _ _ _ h=>h)
 | succ i=>simp at hu
def ZsJ (alt:Nat->Nat->Rd3) (room:Bool) (s:ByteArray) (R:Nat) (d:Int) (w:World) (res:Rd3) (fu:Nat) (x:Value) (wr:World):Prop :=
 ∃(q g':Nat) (vs:List Value) (fs:List Pf),q<=s.size/\g'<=9/\s.size - q < fu/\1<=vs.length/\vs.length<=q + 1/\Aside (JX alt room s fu q g' fs=res)/\Rc wr R s q g' d/\ZiM wr w.heap.size x vs fs/\Za (fun k=>k=R) w wr/\∃ao cap,x = .slice ao vs.length cap
theorem Zij {s:ByteArray} {d:Int} {alt:Nat->Nat->Rd3} {room:Bool} (hS:ZsH s alt room d) (G:Zad s alt) (hs:s.size<=120):ZsF s (Jd alt room s) d:=by
 intro w R p g B h hRB hB hp hg;have hRw:=h.lt
 cases hsq:ZH alt room s p g with
 | error x =>
   have HS:Hid (ZH alt room s p g = .error x):=hsq;have HX:Hid (Jd alt room s p g = .error x):=(by show _ = _; simp [Jd,hsq]);clear hsq;go_enter Tryz.func53,Tryz.ntmps53;go_wp2_with (first
    | (go_at_call 75; refine (hS w R p g w.heap.size h (by omega) (Nat.le_refl _) hp hg).mono ?_; rw [HS.out]; rintro e w2 ⟨rfl,hk⟩))
   exact ⟨rfl,ZA HX.out ⟨rfl,hk⟩⟩
 | ok r =>
   obtain ⟨f,q,g'⟩:=r;obtain ⟨hpq,hqs,hg9,-⟩:=QV G hp hg hsq;have HS:Hid (ZH alt room s p g = .ok (f,q,g')):=hsq;obtain ⟨res,hres⟩ :∃res,Jd alt room s p g=res:=⟨_,rfl⟩;rw [hres];have hstart:JX alt room s (s.size + 1) q g' [f]=res:=by rw [<- hres]; exact (Zgl hsq).symm
   clear hsq hres;go_enter Tryz.func53,Tryz.ntmps53;go_wp2_with (first
    | (go_at_call 75; refine (hS w R p g w.heap.size h (by omega) (Nat.le_refl _) hp hg).mono ?_; rw [HS.out]; rintro e w2 ⟨v,rfl,hN,hR,hK⟩; obtain ⟨t,y,rfl⟩:=hN.iface; have hs2:=hK.size))
   go_loopg [3] (s.size + 1) (fun fu x wr=>ZsJ alt room s R d w res fu x wr)
   case atStart=>exact ⟨q,g',[Value.iface t y],[f],hqs,hg9,by omega,by simp,by simp,hstart,hR.keeps ((Za.refl N0_ w2).alloc _) id,ZiM.one hs2 hN,hK.alloc _,_,_,rfl⟩
   case round =>
    clear h hp hg HS hR hN hK hstart hqs hg9 hpq;obtain ⟨q,g',vs,fs,hq,hg',hfu,hv1,hvl,hloop,hR,hKd,hK,ao,cap,rfl⟩:=hrel;obtain ⟨fu,rfl⟩ :∃f,gk=f + 1:=⟨gk - 1,by omega⟩;have HL:Hid (JX alt room s (fu + 1) q g' fs=res):=hloop;have hfl:1<=fs.length:=by rw [hKd.2.1]; exact hv1
    clear hloop
    by_cases hb:bt s q=124
    ·have HB:Hid (bt s q=124):=hb;have hlt:=Zt hb (by decide);have hq1:q + 1<=s.size:=hlt
     cases hsq:ZH alt room s (q + 1) g' with
     | error x =>
       have HS:Hid (ZH alt room s (q + 1) g' = .error x):=hsq;have HX:Hid (res = .error x):=(by have:=HL.out; show _ = _; rw [<- this]; exact Zj8 hb hsq);clear hb hsq;go_wp2_with (first
        | (go_at_call 76; refine (Z2 hR hs hq (b:=124) (by decide) HB.out).mono ?_; clear hR; rintro e w3 ⟨rfl,hR,hk⟩; replace hK:=hK.trans hk; clear hk; have hs3:=hK.size)
        | (go_at_call 75; refine (hS w3 R (q + 1) g' w3.heap.size hR (by omega) (Nat.le_refl _) hq1 hg').mono ?_; rw [HS.out]; rintro e w4 ⟨rfl,hk⟩))
       exact ⟨rfl,ZA HX.out ⟨rfl,hK.trans hk⟩⟩
     | ok r =>
       obtain ⟨f1,q1,g1⟩:=r;obtain ⟨hpq,hqs,hg9,-⟩:=QV G hq1 hg' hsq;have HS:Hid (ZH alt room s (q + 1) g' = .ok (f1,q1,g1)):=hsq;have HM:Hid (JX alt room s fu q1 g1 (fs ++ [f1])=res):=(by have:=HL.out; show _ = _; rw [<- this]; exact (ZhG hb hfl hsq).symm);clear hb hsq;go_wp2_with (first
        | (go_at_call 76; refine (Z2 hR hs hq (b:=124) (by decide) HB.out).mono ?_; clear hR; rintro e w3 ⟨rfl,hR,hk⟩; replace hKd:=hKd.keeps hk (by intro i hi _ h; omega); replace hK:=hK.trans hk; clear hk; have hs3:=hK.size; have hlt4:=(fun (k:Nat) (hk:(Value.slice ao vs.length cap).ownBlock=some k)=>(hKd.1.lt k hk).2))
        | (go_at_call 75; refine (hS w3 R (q + 1) g' w3.heap.size hR (by omega) (Nat.le_refl _) hq1 hg').mono ?_; rw [HS.out]; clear hR; rintro e w4 ⟨v,rfl,hN,hR,hk⟩; obtain ⟨t2,y2,rfl⟩:=hN.iface; replace hKd:=hKd.keeps hk (by intro i hi _ h; omega); replace hK:=hK.trans hk; clear hk; have hs6:=hK.size; obtain ⟨x',w7,hrun,hKd7,⟨ao',cap',rfl⟩,hk7⟩:=hKd.snoc hs6 (by omega) (hN.mono (fun k hk1 _=>⟨by omega,fun h=>by have:=hlt4 k h; omega⟩)) rfl)
        | (at_builtin; refine Zk rfl _ _ _ _ rfl rfl _ _ _ _ rfl rfl hrun ?_))
       go_roundg fu
       case measure=>omega
       case rel =>
        refine ⟨q1,g1,vs ++ [Value.iface t2 y2],fs ++ [f1],hqs,hg9,by omega,by simp,by simp; omega,HM.out,hR.keeps hk7 ?_,hKd7,hK.trans' hk7 ?_,ao',cap',by simp⟩
        ·intro h; have:=(hKd.1.lt _ h).1; omega
        ·intro i hi h; have:=(hKd.1.lt _ h).1; omega
    ·have HB:Hid (bt s q≠124):=hb
     by_cases h2:2<=vs.length
     ·have HX:Hid (res = .ok (JW fs,q,g')):=(by have:=HL.out; show _ = _; rw [<- this]; exact ZhH hb (by rw [hKd.2.1]; exact h2));have hz:((vs.length:Int) == 1)=false:=by simp; omega
      clear hb;go_wp2_with (first
       | (go_at_call 76; refine (QM hR hs hq (b:=124) (by decide) HB.out).mono ?_; clear hR; rintro e w3 ⟨rfl,hR,hk⟩; replace hKd:=hKd.keeps hk (by intro i hi _ h; omega); replace hK:=hK.trans hk; clear hk))
      go_ret;exact ZM HX.out (.alt (Zr hKd.1 (fun _ _=>Nat.zero_le _)) (fun k hk=>by have:=(hKd.1.lt _ hk).1; omega) hKd.2.1 (by omega) (fun i v f hv hf=>(hKd.2.2 i v f hv hf).mono (fun k hk _=>by omega))) hR hK
     ·obtain ⟨v,rfl⟩ :∃v,vs = [v]:=by
       match vs,hv1,h2 with
       | [v],_,_=>exact ⟨v,rfl⟩
       | _ :: _ :: _,_,h2=>simp at h2
      obtain ⟨f1,rfl⟩ :∃f1,fs = [f1]:=by
       have hl:=hKd.2.1
       match fs,hl with
       | [f1],_=>exact ⟨f1,rfl⟩
      have HX:Hid (res = .ok (f1,q,g')):=(by have:=HL.out; show _ = _; rw [<- this]; exact Zj7 hb);clear hb h2 hv1 hvl hfl HL;obtain ⟨gb,cp,hsl,-,-⟩:=ZQ (n:=0) hKd.1;simp only [Value.slice.injEq] at hsl;obtain ⟨rfl,-,rfl⟩:=hsl;go_wp2_with (first
       | (go_at_call 76; refine (QM hR hs hq (b:=124) (by decide) HB.out).mono ?_; clear hR; rintro e w3 ⟨rfl,hR,hk⟩; replace hKd:=hKd.keeps hk (by intro i hi _ h; omega); replace hK:=hK.trans hk; clear hk; have cc:w3.cell? ⟨gb,0,none⟩=some v:=hKd.1.cells rfl 0 v rfl))
      go_ret;exact ZM HX.out ((hKd.2.2 0 v f1 rfl rfl).mono (fun k hk _=>by omega)) hR hK
theorem Zoh {s:ByteArray} (hs:s.size<=120) (k:Nat) (hk:k<=6):ZsF s (QL s k) (6 - (k:Int)):=by
 induction k with
 | zero =>
   have hG:Zad s (fun _ _ => .error 0):=by intro p g f q g' _ _ h; simp at h
   exact Zij (Zii (Zf0 ⟨by omega,Or.inr ⟨rfl,by omega⟩⟩ hG hs) hG hs) hG hs
 | succ k ih =>
   have hG:=QD s k;have h1:=ih (by omega);have e:(6 - ((k + 1:Nat):Int)) + 1=6 - (k:Int):=by omega
   exact Zij (Zii (Zf0 ⟨by omega,Or.inl ⟨rfl,by omega,by rw [e]; exact h1⟩⟩ hG hs) hG hs) hG hs
end Go.Proofs.YtfkflljplohhcaaGreatDoor
