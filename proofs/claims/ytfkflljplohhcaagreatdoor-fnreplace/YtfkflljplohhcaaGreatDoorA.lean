import Derived.Test.YtfkflljplohhcaaGreatDoorRows
import Derived.WalkSmall
import Derived.BigQuiet
import Derived.Deep.RegionLaw
import Derived.Deep.LoopGhost
set_option linter.unusedVariables false
namespace Go.Proofs.YtfkflljplohhcaaGreatDoor
abbrev ai:Nat->Prop:=fun _=>False
abbrev ae (b:Nat):Value:=.pointer (some ⟨b,0,none⟩)
abbrev ak (b:Nat):Addr:=⟨b,0,none⟩
abbrev au:=Calls Tryz.prog
abbrev Bs:=Nat->Bool
structure Pc where
 kind:Int
 set:List (Int×Int)
 min:Int
 max:Int
 lazy:Bool
 num:Int
 kids:List Int
def bt (s:ByteArray) (p:Nat):Nat:=if h:p<s.size then s[p].toNat else 256
variable {s:ByteArray}{p b m g g' p0 base i:Nat}{v:Value}{o:Option Nat}{w w':World}{e t:TypeId}{xs:List Value}{cs:Array Value}
theorem ZX(h:p<s.size):bt s p=s[p].toNat:=by simp[bt,h]
theorem Z7(h:¬p<s.size):bt s p=256:=by simp[bt,h]
theorem Jh(h:p<s.size):bt s p<256:=by rw[ZX h];exact s[p].toNat_lt
theorem Lu:bt s p=256↔¬p<s.size:=by
 constructor
 ·intro h hp;have:=Jh hp;omega
 ·exact Z7
theorem Zn(h:bt s p=b)(hb:b<256):p<s.size:=by
 apply Decidable.byContradiction;intro hp;rw[Z7 hp] at h;omega
def J3:Bs:=fun _=>false
def one (b:Nat):Bs:=fun x=>x == b
def eH (lo hi:Nat):Bs:=fun x=>decide (lo<=x) && decide (x<=hi)
def un (a b:Bs):Bs:=fun x=>a x || b x
def co (a:Bs):Bs:=fun x => !a x
def Dv:Bs:=un (un (un (eH 48 57) (eH 65 90)) (eH 97 122)) (eH 95 95)
def DC:Bs:=un (un (eH 9 10) (eH 13 13)) (eH 32 32)
def dot:Bs:=fun x=>x != 10
def Zw (S:Bs):Nat->List (Int×Int)
 | 0 => []
 | b+1 =>
   if S b then
    match (Zw S b).getLast? with
    | some r=>if r.2=(b:Int)-1 then (Zw S b).dropLast++[(r.1,(b:Int))] else Zw S b++[((b:Int),(b:Int))]
    | none=>Zw S b++[((b:Int),(b:Int))]
   else Zw S b
def Ja (S:Bs):List (Int×Int):=Zw S 256
theorem Zdm(S:Bs)(b:Nat):(Zw S b).length<=b:=by
 induction b with
 | zero=>simp[Zw]
 | succ b ih =>
   unfold Zw
   split
   ·split
    ·split
     ·simp;omega
     ·simp;omega
    ·simp;omega
   ·omega
variable {S S':Bs}
theorem Zbs(b:Nat)(h:∀x,x<b->S x=S' x):Zw S b=Zw S' b:=by
 induction b with
 | zero=>rfl
 | succ b ih =>
   unfold Zw;rw[ih fun x hx=>h x (by omega),h b (by omega)]
def Jm (b:Nat):Option Nat :=
 if 48<=b/\b<=57 then some (b-48) else if 97<=b/\b<=102 then some (b-87) else none
theorem JC{v:Nat}(h:Jm b=some v):v<16:=by
 unfold Jm at h
 split at h
 ·simp at h;omega
 ·split at h
  ·simp at h;omega
  ·simp at h
def JH (b:Nat):Bool:=(decide (97<=b) && decide (b<=122)) ||(decide (65<=b) && decide (b<=90))
def ZI (b:Nat):Bool:=decide (48<=b) && decide (b<=57)
def printed (b:Nat):Bool:=decide (33<=b) && decide (b<=126)
def Zt (s:ByteArray) (p:Nat):Except Nat (Bs×Option Nat×Nat) :=
 if bt s p=256 then .error p
 else if bt s p=100 then .ok (eH 48 57,none,p+1)
 else if bt s p=119 then .ok (Dv,none,p+1)
 else if bt s p=115 then .ok (DC,none,p+1)
 else if bt s p=110 then .ok (one 10,some 10,p+1)
 else if bt s p=116 then .ok (one 9,some 9,p+1)
 else if bt s p=114 then .ok (one 13,some 13,p+1)
 else if bt s p=120 then
  match Jm (bt s (p+1)) with
  | none => .error (p+1)
  | some a=>match Jm (bt s (p+2)) with
    | none => .error (p+2)
    | some b => .ok (one (a*16+b),some (a*16+b),p+3)
 else if JH (bt s p) || ZI (bt s p) || !printed (bt s p) then .error p
 else .ok (one (bt s p),some (bt s p),p+1)
def Zl (s:ByteArray) (p:Nat):Except Nat (Bs×Option Nat×Nat) :=
 if bt s p=92 then Zt s (p+1) else .ok (one (bt s p),some (bt s p),p+1)
def ZC (s:ByteArray) (p:Nat):Except Nat (Bs×Nat) :=
 match Zl s p with
 | .error e => .error e
 | .ok (S,none,q) => .ok (S,q)
 | .ok (S,some lo,q) =>
   if bt s q=45/\bt s (q+1)≠256/\bt s (q+1)≠93 then
    match Zl s (q+1) with
    | .error e => .error e
    | .ok (_,none,_) => .error (q+1)
    | .ok (_,some hi,q2)=>if hi<lo then .error (q+1) else .ok (un S (eH lo hi),q2)
   else .ok (S,q)
def Zk (s:ByteArray):Nat->Nat->Bs->Bool->Except Nat (Bs×Nat)
 | 0,_,_,_ => .error 0
 | f+1,p,S,first =>
   if bt s p≠256/\(bt s p≠93\/first=true) then
    match ZC s p with
    | .error e => .error e
    | .ok (S1,q)=>Zk s f q (un S S1) false
   else if bt s p=93 then .ok (S,p+1) else .error p
def Zq (s:ByteArray) (p:Nat):Except Nat (Bs×Nat) :=
 if bt s p=94 then
  match Zk s (s.size+1) (p+1) J3 true with
  | .error e => .error e
  | .ok (S,q) => .ok (co S,q)
 else Zk s (s.size+1) p J3 true
def ZV (s:ByteArray) (from_:Nat):Nat->Nat->Nat->Except Nat (Nat×Nat)
 | 0,_,_ => .error 0
 | f+1,p,n =>
   if ZI (bt s p) then
    if 50<n*10+(bt s p-48) then .error from_ else ZV s from_ f (p+1) (n*10+(bt s p-48))
   else .ok (n,p)
def Zu (s:ByteArray) (p:Nat):Except Nat (Nat×Nat):=ZV s p (s.size+1) p 0
def Zg (s:ByteArray) (p:Nat):Except Nat (Int×Int×Nat) :=
 match Zu s p with
 | .error e => .error e
 | .ok (lo,q) =>
   if q=p then .error p
   else if bt s q=44 then
    match Zu s (q+1) with
    | .error e => .error e
    | .ok (hi,q2) =>
      if q2=q+1 then (if bt s q2=125 then .ok (lo,-1,q2+1) else .error q2)
      else if hi<lo then .error (q+1)
      else if bt s q2=125 then .ok (lo,hi,q2+1) else .error q2
   else if bt s q=125 then .ok (lo,lo,q+1) else .error q
abbrev Pf:=Nat->List Pc
def lQ (S:Bs):Pc := { kind:=1,set:=Ja S,min:=0,max:=0,lazy:=false,num:=0,kids := [] }
def Qy (S:Bs):Pf:=fun _ => [lQ S]
def QQ:Pf:=fun _ => [{ kind:=6,set := [],min:=0,max:=0,lazy:=false,num:=0,kids := [] }]
def oh:Pf:=fun _ => [{ kind:=7,set := [],min:=0,max:=0,lazy:=false,num:=0,kids := [] }]
def cat:List Pf->Nat->List Pc
 | [],_ => []
 | f::fs,n=>f n++cat fs (n+(f n).length)
def ends:List Pf->Nat->List Int
 | [],_ => []
 | f::fs,n=>((n:Int)+(f n).length-1)::ends fs (n+(f n).length)
def ZL (kind:Int) (kids:List Int):Pc := { kind:=kind,set := [],min:=0,max:=0,lazy:=false,num:=0,kids:=kids }
def QV (fs:List Pf):Pf:=fun n=>cat fs n++[ZL 2 (ends fs n)]
def JQ (fs:List Pf):Pf:=fun n=>cat fs n++[ZL 3 (ends fs n)]
def Z5 (lo hi:Int) (lazy:Bool) (f:Pf):Pf:=fun n=>f n++[{ kind:=4,set := [],min:=lo,max:=hi,lazy:=lazy,num:=0,kids := [(n:Int)+(f n).length-1] }]
def JN (num:Int) (f:Pf):Pf:=fun n=>f n++[{ kind:=5,set := [],min:=0,max:=0,lazy:=false,num:=num,kids := [(n:Int)+(f n).length-1] }]
theorem Mg(fs:List Pf)(f:Pf)(n:Nat):cat (fs++[f]) n=cat fs n++f (n+(cat fs n).length):=by
 induction fs generalizing n with
 | nil=>simp[cat]
 | cons g fs ih=>simp[cat,ih,Nat.add_assoc]
theorem ZgF(fs:List Pf)(f:Pf)(n:Nat):ends (fs++[f]) n=ends fs n++[((n:Int)+(cat fs n).length+(f (n+(cat fs n).length)).length-1)]:=by
 induction fs generalizing n with
 | nil=>simp[cat,ends]
 | cons g fs ih =>
   simp only[cat,ends,List.cons_append,ih,List.length_append,Nat.add_assoc]
   congr 2
   simp;omega
abbrev aS:=Except Nat (Pf×Nat×Nat)
def Zd (alt:Nat->Nat->aS) (room:Bool) (s:ByteArray) (p g:Nat):aS :=
 if bt s p=40 then
  if g=9\/room=false then .error p
  else match alt (p+1) (g+1) with
   | .error e => .error e
   | .ok (f,q,g')=>if bt s q=41 then .ok (JN ((g:Int)+1) f,q+1,g') else .error q
 else if bt s p=91 then
  match Zq s (p+1) with
  | .error e => .error e
  | .ok (S,q) => .ok (Qy S,q,g)
 else if bt s p=94 then .ok (QQ,p+1,g)
 else if bt s p=36 then .ok (oh,p+1,g)
 else if bt s p=46 then .ok (Qy dot,p+1,g)
 else if bt s p=92 then
  match Zt s (p+1) with
  | .error e => .error e
  | .ok (S,_,q) => .ok (Qy S,q,g)
 else if bt s p=42\/bt s p=43\/bt s p=63\/bt s p=123\/bt s p=125\/bt s p=93 then .error p
 else .ok (Qy (one (bt s p)),p+1,g)
def ZG (s:ByteArray) (q:Nat):Except Nat (Option (Int×Int)×Nat) :=
 if bt s q=42 then .ok (some (0,-1),q+1)
 else if bt s q=43 then .ok (some (1,-1),q+1)
 else if bt s q=63 then .ok (some (0,1),q+1)
 else if bt s q=123 then
  match Zg s (q+1) with
  | .error e => .error e
  | .ok (lo,hi,q2) => .ok (some (lo,hi),q2)
 else .ok (none,q)
def Zm (alt:Nat->Nat->aS) (room:Bool) (s:ByteArray) (p g:Nat):aS :=
 match Zd alt room s p g with
 | .error e => .error e
 | .ok (f,q,g') =>
   match ZG s q with
   | .error e => .error e
   | .ok (none,_) => .ok (f,q,g')
   | .ok (some (lo,hi),q2)=>if bt s q2=63 then .ok (Z5 lo hi true f,q2+1,g') else .ok (Z5 lo hi false f,q2,g')
def Zz (alt:Nat->Nat->aS) (room:Bool) (s:ByteArray):Nat->Nat->Nat->List Pf->Except Nat (List Pf×Nat×Nat)
 | 0,_,_,_ => .error 0
 | fu+1,p,g,fs =>
   if bt s p≠256/\bt s p≠124/\bt s p≠41 then
    match Zm alt room s p g with
    | .error e => .error e
    | .ok (f,q,g')=>Zz alt room s fu q g' (fs++[f])
   else .ok (fs,p,g)
def ZJ (alt:Nat->Nat->aS) (room:Bool) (s:ByteArray) (p g:Nat):aS :=
 match Zz alt room s (s.size+1) p g [] with
 | .error e => .error e
 | .ok (fs,q,g') => .ok (QV fs,q,g')
def ZY (alt:Nat->Nat->aS) (room:Bool) (s:ByteArray):Nat->Nat->Nat->List Pf->Except Nat (List Pf×Nat×Nat)
 | 0,_,_,_ => .error 0
 | fu+1,p,g,fs =>
   if bt s p=124 then
    match ZJ alt room s (p+1) g with
    | .error e => .error e
    | .ok (f,q,g')=>ZY alt room s fu q g' (fs++[f])
   else .ok (fs,p,g)
def QY (alt:Nat->Nat->aS) (room:Bool) (s:ByteArray) (p g:Nat):aS :=
 match ZJ alt room s p g with
 | .error e => .error e
 | .ok (f,q,g') =>
   if bt s q=124 then
    match ZY alt room s (s.size+1) q g' [f] with
    | .error e => .error e
    | .ok (fs,q2,g2) => .ok (JQ fs,q2,g2)
   else .ok (f,q,g')
def Qt (s:ByteArray):Nat->Nat->Nat->aS
 | 0=>QY (fun _ _ => .error 0) false s
 | d+1=>QY (Qt s d) true s
def QR (s:ByteArray):Except Nat (Nat×List Pc) :=
 if 120<s.size then .error 120
 else match Qt s 6 0 0 with
  | .error e => .error e
  | .ok (f,q,g)=>if q<s.size then .error q else .ok (g,f 0)
theorem ZmG{v:Nat}(h:Jm b=some v):b<256:=by
 unfold Jm at h
 split at h
 ·omega
 ·split at h
  ·omega
  ·simp at h
theorem Zex{q:Nat}(h:Zt s p=.ok (S,o,q)):p<q/\q<=s.size/\(∀b,o=some b->b<256/\S=one b):=by
 unfold Zt at h
 by_cases h0:bt s p=256
 ·simp[h0] at h
 ·have hp:p<s.size:=by
   apply Decidable.byContradiction;intro hp;exact h0 (Z7 hp)
  have hb:=Jh hp;rw[if_neg h0] at h
  by_cases hx:bt s p=120
  ·rw[if_neg (by omega),if_neg (by omega),if_neg (by omega),if_neg (by omega),if_neg (by omega),if_neg (by omega),if_pos hx] at h
   split at h
   ·simp at h
   ·rename_i a ha
    split at h
    ·simp at h
    ·rename_i b hb';have h2:=Zn rfl (ZmG hb')
     have:=JC ha
     have:=JC hb'
     simp only[Except.ok.injEq,Prod.mk.injEq] at h;obtain⟨e1,e2,e3⟩:=h;subst e1 e2 e3;refine⟨by omega,by omega,?_⟩;intro c hc;simp at hc;subst hc;exact⟨by omega,rfl⟩
  ·rw[if_neg hx] at h
   repeat' (split at h)
   all_goals simp only[Except.ok.injEq,Prod.mk.injEq,reduceCtorEq] at h
   all_goals obtain⟨h1,h2,h3⟩:=h
   all_goals subst h1 h2 h3
   all_goals refine⟨by omega,by omega,?_⟩
   all_goals intro c hc
   all_goals simp at hc
   all_goals subst hc
   all_goals exact⟨by omega,rfl⟩
theorem ZU{q:Nat}(hp:p<s.size)(h:Zl s p=.ok (S,o,q)):p<q/\q<=s.size/\(∀b,o=some b->b<256/\S=one b):=by
 unfold Zl at h;have hb:=Jh hp
 split at h
 ·have:=Zex h;exact⟨by omega,by omega,this.2.2⟩
 ·simp only[Except.ok.injEq,Prod.mk.injEq] at h;obtain⟨h1,h2,h3⟩:=h;subst h1 h2 h3;refine⟨by omega,by omega,?_⟩;intro c hc;simp at hc;subst hc;exact⟨by omega,rfl⟩
theorem ZdD{q:Nat}(hp:p<s.size)(h:ZC s p=.ok (S,q)):p<q/\q<=s.size:=by
 unfold ZC at h
 split at h
 ·simp at h
 ·rename_i jU;simp only[Except.ok.injEq,Prod.mk.injEq] at h
  have:=ZU hp jU;omega
 ·rename_i S1 lo q1 jU;have h1:=ZU hp jU
  split at h
  ·rename_i hc;have hq1:q1+1<s.size:=by
    apply Decidable.byContradiction;intro hn;exact hc.2.1 (Z7 hn)
   split at h
   ·simp at h
   ·simp at h
   ·rename_i hpb;have h2:=ZU hq1 hpb
    split at h
    ·simp at h
    ·simp only[Except.ok.injEq,Prod.mk.injEq] at h;omega
  ·simp only[Except.ok.injEq,Prod.mk.injEq] at h;omega
theorem Zb6{fu q:Nat}{fi:Bool}(h:Zk s fu p S fi=.ok (S',q)):p<q/\q<=s.size:=by
 induction fu generalizing p S fi with
 | zero=>simp[Zk] at h
 | succ fu ih =>
   unfold Zk at h
   split at h
   ·rename_i hc;have hp:p<s.size:=by
     apply Decidable.byContradiction;intro hn;exact hc.1 (Z7 hn)
    split at h
    ·simp at h
    ·rename_i hi;have h1:=ZdD hp hi;have h2:=ih h;omega
   ·split at h
    ·rename_i hb
     have:=Zn hb (by omega)
     simp only[Except.ok.injEq,Prod.mk.injEq] at h;omega
    ·simp at h
theorem ZgO{q:Nat}(h:Zq s p=.ok (S,q)):p<q/\q<=s.size:=by
 unfold Zq at h
 split at h
 ·split at h
  ·simp at h
  ·rename_i hl;simp only[Except.ok.injEq,Prod.mk.injEq] at h
   have:=Zb6 hl
   omega
 ·exact Zb6 h
theorem Zi9(h:ZI (bt s p)=true):p<s.size:=by
 apply Zn rfl;simp[ZI] at h;omega
theorem Zhy{from_ fu q n:Nat}(hp:p<=s.size)(hn:n<=50)(h:ZV s from_ fu p n=.ok (m,q)):p<=q/\q<=s.size/\m<=50:=by
 induction fu generalizing p n with
 | zero=>simp[ZV] at h
 | succ fu ih =>
   unfold ZV at h
   split at h
   ·rename_i hd
    have:=Zi9 hd
    split at h
    ·simp at h
    ·have:=ih (by omega) (by omega) h
     omega
   ·simp only[Except.ok.injEq,Prod.mk.injEq] at h;omega
theorem ZS{q:Nat}(hp:p<=s.size)(h:Zu s p=.ok (m,q)):p<=q/\q<=s.size/\m<=50:=Zhy hp (by omega) h
theorem Zfs{q:Nat}{lo hi:Int}(hp:p<=s.size)(h:Zg s p=.ok (lo,hi,q)):p<q/\q<=s.size:=by
 unfold Zg at h
 split at h
 ·simp at h
 ·rename_i h1;have p1:=ZS hp h1
  split at h
  ·simp at h
  ·split at h
   ·rename_i hb;have hb':=Zn hb (by omega)
    split at h
    ·simp at h
    ·rename_i h2;have p2:=ZS (by omega) h2
     split at h
     ·split at h
      ·rename_i hc
       have:=Zn hc (by omega)
       simp only[Except.ok.injEq,Prod.mk.injEq] at h;omega
      ·simp at h
     ·split at h
      ·simp at h
      ·split at h
       ·rename_i hc
        have:=Zn hc (by omega)
        simp only[Except.ok.injEq,Prod.mk.injEq] at h;omega
       ·simp at h
   ·split at h
    ·rename_i hc
     have:=Zn hc (by omega)
     simp only[Except.ok.injEq,Prod.mk.injEq] at h;omega
    ·simp at h
def ed (s:ByteArray) (alt:Nat->Nat->aS):Prop :=
 ∀p g f q g',p<=s.size->g<=9->alt p g=.ok (f,q,g')->p<=q/\q<=s.size/\g'<=9/\∀n,(f n).length<=3*(q-p)+2/\1<=(f n).length
variable {f:Pf}
theorem ZZ{alt:Nat->Nat->aS}{room:Bool}(G:ed s alt){q:Nat}(hp:p<s.size)(hg:g<=9)(h:Zd alt room s p g=.ok (f,q,g')):
  p<q/\q<=s.size/\g'<=9/\∀n,(f n).length<=3*(q-p)/\1<=(f n).length:=by
 unfold Zd at h
 split at h
 ·split at h
  ·simp at h
  ·rename_i hc
   split at h
   ·simp at h
   ·rename_i f1 q1 g1 ha
    have:=G _ _ _ _ _ (by omega) (by omega) ha
    split at h
    ·rename_i hb;have hq:=Zn hb (by omega);simp only[Except.ok.injEq,Prod.mk.injEq] at h;obtain⟨h1,h2,h3⟩:=h;subst h1 h2 h3;refine⟨by omega,by omega,by omega,fun n=>?_⟩
     have:=this.2.2.2 n
     simp[JN];omega
    ·simp at h
 ·split at h
  ·split at h
   ·simp at h
   ·rename_i hcl
    have:=ZgO hcl
    simp only[Except.ok.injEq,Prod.mk.injEq] at h;obtain⟨h1,h2,h3⟩:=h;subst h1 h2 h3;exact⟨by omega,by omega,by omega,fun n=>by simp[Qy] <;> omega⟩
  ·split at h
   ·simp only[Except.ok.injEq,Prod.mk.injEq] at h;obtain⟨h1,h2,h3⟩:=h;subst h1 h2 h3;exact⟨by omega,by omega,by omega,fun n=>by simp[QQ] <;> omega⟩
   ·split at h
    ·simp only[Except.ok.injEq,Prod.mk.injEq] at h;obtain⟨h1,h2,h3⟩:=h;subst h1 h2 h3;exact⟨by omega,by omega,by omega,fun n=>by simp[oh] <;> omega⟩
    ·split at h
     ·simp only[Except.ok.injEq,Prod.mk.injEq] at h;obtain⟨h1,h2,h3⟩:=h;subst h1 h2 h3;exact⟨by omega,by omega,by omega,fun n=>by simp[Qy] <;> omega⟩
     ·split at h
      ·split at h
       ·simp at h
       ·rename_i hcl
        have:=Zex hcl
        simp only[Except.ok.injEq,Prod.mk.injEq] at h;obtain⟨h1,h2,h3⟩:=h;subst h1 h2 h3;exact⟨by omega,by omega,by omega,fun n=>by simp[Qy] <;> omega⟩
      ·split at h
       ·simp at h
       ·simp only[Except.ok.injEq,Prod.mk.injEq] at h;obtain⟨h1,h2,h3⟩:=h;subst h1 h2 h3;exact⟨by omega,by omega,by omega,fun n=>by simp[Qy] <;> omega⟩
theorem Uh{q q2:Nat}{o:Option (Int×Int)}(hq:q<=s.size)(h:ZG s q=.ok (o,q2)):q<=q2/\q2<=s.size/\(o≠none->q<q2)/\(o=none->q2=q):=by
 unfold ZG at h
 split at h
 ·rename_i hb
  have:=Zn hb (by omega)
  simp only[Except.ok.injEq,Prod.mk.injEq] at h;obtain⟨h1,h2⟩:=h;subst h1 h2;exact⟨by omega,by omega,fun _=>by omega,fun h=>by simp at h⟩
 ·split at h
  ·rename_i hb
   have:=Zn hb (by omega)
   simp only[Except.ok.injEq,Prod.mk.injEq] at h;obtain⟨h1,h2⟩:=h;subst h1 h2;exact⟨by omega,by omega,fun _=>by omega,fun h=>by simp at h⟩
  ·split at h
   ·rename_i hb
    have:=Zn hb (by omega)
    simp only[Except.ok.injEq,Prod.mk.injEq] at h;obtain⟨h1,h2⟩:=h;subst h1 h2;exact⟨by omega,by omega,fun _=>by omega,fun h=>by simp at h⟩
   ·split at h
    ·rename_i hb
     have:=Zn hb (by omega)
     split at h
     ·simp at h
     ·rename_i hc
      have:=Zfs (by omega) hc
      simp only[Except.ok.injEq,Prod.mk.injEq] at h;obtain⟨h1,h2⟩:=h;subst h1 h2;exact⟨by omega,by omega,fun _=>by omega,fun h=>by simp at h⟩
    ·simp only[Except.ok.injEq,Prod.mk.injEq] at h;obtain⟨h1,h2⟩:=h;subst h1 h2;exact⟨by omega,by omega,fun h=>by simp at h,fun _=>rfl⟩
theorem MO{alt:Nat->Nat->aS}{room:Bool}(G:ed s alt){q:Nat}(hp:p<s.size)(hg:g<=9)(h:Zm alt room s p g=.ok (f,q,g')):
  p<q/\q<=s.size/\g'<=9/\∀n,(f n).length<=3*(q-p)/\1<=(f n).length:=by
 unfold Zm at h
 split at h
 ·simp at h
 ·rename_i f1 q1 g1 ha;have h1:=ZZ G hp hg ha
  split at h
  ·simp at h
  ·simp only[Except.ok.injEq,Prod.mk.injEq] at h;obtain⟨e1,e2,e3⟩:=h;subst e1 e2 e3;exact h1
  ·rename_i lo hi q2 hc;have h2:=Uh (by omega) hc;have h3:=h2.2.2.1 (by simp)
   split at h
   ·rename_i hb
    have:=Zn hb (by omega)
    simp only[Except.ok.injEq,Prod.mk.injEq] at h;obtain⟨e1,e2,e3⟩:=h;subst e1 e2 e3;refine⟨by omega,by omega,by omega,fun n=>?_⟩
    have:=h1.2.2.2 n
    simp[Z5];omega
   ·simp only[Except.ok.injEq,Prod.mk.injEq] at h;obtain⟨e1,e2,e3⟩:=h;subst e1 e2 e3;refine⟨by omega,by omega,by omega,fun n=>?_⟩
    have:=h1.2.2.2 n
    simp[Z5];omega
variable {fs fs':List Pf}
theorem Zhg{alt:Nat->Nat->aS}{room:Bool}(G:ed s alt){fu q:Nat}(h0:p0<=p)(hp:p<=s.size)(hg:g<=9)
  (hl:∀n,(cat fs n).length<=3*(p-p0)) (h:Zz alt room s fu p g fs=.ok (fs',q,g')) :
  p<=q/\q<=s.size/\g'<=9/\∀n,(cat fs' n).length<=3*(q-p0):=by
 induction fu generalizing p g fs with
 | zero=>simp[Zz] at h
 | succ fu ih =>
   unfold Zz at h
   split at h
   ·rename_i hc;have hp':p<s.size:=by
     apply Decidable.byContradiction;intro hn;exact hc.1 (Z7 hn)
    split at h
    ·simp at h
    ·rename_i f1 q1 g1 hpc;have h1:=MO G hp' hg hpc;have h2:=ih (by omega) (by omega) (by omega) (fun n=>by
      have a:=hl n;have b:=h1.2.2.2 (n+(cat fs n).length);rw[Mg,List.length_append];omega) h
     exact⟨by omega,h2.2.1,h2.2.2.1,h2.2.2.2⟩
   ·simp only[Except.ok.injEq,Prod.mk.injEq] at h;obtain⟨e1,e2,e3⟩:=h;subst e1 e2 e3;exact⟨by omega,hp,hg,hl⟩
theorem Q3{alt:Nat->Nat->aS}{room:Bool}(G:ed s alt){q:Nat}(hp:p<=s.size)(hg:g<=9)(h:ZJ alt room s p g=.ok (f,q,g')):
  p<=q/\q<=s.size/\g'<=9/\∀n,(f n).length<=3*(q-p)+1/\1<=(f n).length:=by
 unfold ZJ at h
 split at h
 ·simp at h
 ·rename_i fs q1 g1 hl;have h1:=Zhg G (Nat.le_refl p) hp hg (fun n=>by simp[cat]) hl;simp only[Except.ok.injEq,Prod.mk.injEq] at h;obtain⟨e1,e2,e3⟩:=h;subst e1 e2 e3;refine⟨h1.1,h1.2.1,h1.2.2.1,fun n=>?_⟩
  have:=h1.2.2.2 n
  simp[QV];omega
theorem Zik{alt:Nat->Nat->aS}{room:Bool}(G:ed s alt){fu q:Nat}(h0:p0<=p)(hp:p<=s.size)(hg:g<=9)
  (hl:∀n,(cat fs n).length<=3*(p-p0)+1) (h:ZY alt room s fu p g fs=.ok (fs',q,g')) :
  p<=q/\q<=s.size/\g'<=9/\∀n,(cat fs' n).length<=3*(q-p0)+1:=by
 induction fu generalizing p g fs with
 | zero=>simp[ZY] at h
 | succ fu ih =>
   unfold ZY at h
   split at h
   ·rename_i hb;have hp':=Zn hb (by omega)
    split at h
    ·simp at h
    ·rename_i f1 q1 g1 hpc;have h1:=Q3 G (by omega) hg hpc;have h2:=ih (by omega) (by omega) (by omega) (fun n=>by
      have a:=hl n;have b:=h1.2.2.2 (n+(cat fs n).length);rw[Mg,List.length_append];omega) h
     exact⟨by omega,h2.2.1,h2.2.2.1,h2.2.2.2⟩
   ·simp only[Except.ok.injEq,Prod.mk.injEq] at h;obtain⟨e1,e2,e3⟩:=h;subst e1 e2 e3;exact⟨by omega,hp,hg,hl⟩
theorem ZeJ{alt:Nat->Nat->aS}{room:Bool}(G:ed s alt):ed s (QY alt room s):=by
 intro p g f q g' hp hg h;unfold QY at h
 split at h
 ·simp at h
 ·rename_i f1 q1 g1 hs;have h1:=Q3 G hp hg hs
  split at h
  ·split at h
   ·simp at h
   ·rename_i fs q2 g2 hl;have h2:=Zik G (p0:=p) (by omega) (by omega) h1.2.2.1 (fun n=>by have:=h1.2.2.2 n;simp[cat];omega) hl;simp only[Except.ok.injEq,Prod.mk.injEq] at h;obtain⟨e1,e2,e3⟩:=h;subst e1 e2 e3;refine⟨by omega,h2.2.1,h2.2.2.1,fun n=>?_⟩
    have:=h2.2.2.2 n
    simp[JQ];omega
  ·simp only[Except.ok.injEq,Prod.mk.injEq] at h;obtain⟨e1,e2,e3⟩:=h;subst e1 e2 e3;exact⟨h1.1,h1.2.1,h1.2.2.1,fun n=>by have:=h1.2.2.2 n;omega⟩
theorem QG(s:ByteArray)(d:Nat):ed s (Qt s d):=by
 induction d with
 | zero=>exact ZeJ (fun p g f q g' _ _ h=>by simp at h)
 | succ d ih=>exact ZeJ ih
open Go.RowKit
structure Za (E:Nat->Prop) (w w':World):Prop where
 os:w'.os=w.os
 tape:w'.tape=w.tape
 output:w'.output=w.output
 size:w.heap.size<=w'.heap.size
 block:∀k,k<w.heap.size->¬E k->w'.heap[k]?=w.heap[k]?
namespace Za
variable {E E':Nat->Prop}{w w1 w2:World}
theorem refl(E:Nat->Prop)(w:World):Za E w w:=⟨rfl,rfl,rfl,Nat.le_refl _,fun _ _ _=>rfl⟩
theorem trans(h:Za E w w1)(k:Za E w1 w2):Za E w w2 :=
 ⟨k.os.trans h.os,k.tape.trans h.tape,k.output.trans h.output,Nat.le_trans h.size k.size,fun i hi he=>(k.block i (Nat.lt_of_lt_of_le hi h.size) he).trans (h.block i hi he)⟩
theorem mono(h:Za E w w1)(hE:∀k,k<w.heap.size->E k->E' k):Za E' w w1 :=
 ⟨h.os,h.tape,h.output,h.size,fun k hk he=>h.block k hk fun h'=>he (hE k hk h')⟩
theorem trans'(h:Za E w w1)(k:Za E' w1 w2)(hE:∀i,i<w.heap.size->E' i->E i):Za E w w2 :=
 ⟨k.os.trans h.os,k.tape.trans h.tape,k.output.trans h.output,Nat.le_trans h.size k.size,fun i hi he=>(k.block i (Nat.lt_of_lt_of_le hi h.size) fun h'=>he (hE i hi h')).trans (h.block i hi he)⟩
theorem drewN(h:Za E w w1)(n:Nat):Za E w (w1.drewN n):=h.trans ⟨rfl,rfl,rfl,Nat.le_refl _,fun _ _ _=>rfl⟩
theorem drew(h:Za E w w1):Za E w w1.drew:=h.trans ⟨rfl,rfl,rfl,Nat.le_refl _,fun _ _ _=>rfl⟩
theorem alloc(h:Za E w w1)(o:Obj):Za E w (w1.alloc o) :=
 h.trans ⟨rfl,rfl,rfl,by simp,fun k hk _=>Below.heap_alloc w1 o k hk⟩
theorem setCell(h:Za E w w1){a:Addr}(ha:a.block<w.heap.size->E a.block)(u:Value):Za E w (w1.setCell a u) :=
 ⟨h.os,h.tape,h.output,Nat.le_trans h.size (by simp[World.setCell]),fun k hk he=>by
  have hne:k≠a.block:=by intro e;subst e;exact he (ha hk)
  rw[Below.heap_setCell _ _ _ _ hne];exact h.block k hk he⟩
theorem grown(h:Za E w w1){row:Option Nat}(hg:w1.grownBy w2 row)(hr:∀k,row=some k->k<w.heap.size->E k):Za E w w2 :=
 ⟨hg.os.trans h.os,hg.tape.trans h.tape,hg.output.trans h.output,Nat.le_trans h.size hg.size,fun k hk he=>by
  rw[hg.block k (Nat.lt_of_lt_of_le hk h.size) (fun e=>he (hr k e.symm hk))];exact h.block k hk he⟩
theorem below(h:Za E w w1)(B:Nat)(hB:∀k,k<B->¬E k)(hs:B<=w.heap.size):Below B w w1 :=
 ⟨h.os,h.tape,h.output,h.size,fun k hk=>h.block k (Nat.lt_of_lt_of_le hk hs) (hB k hk)⟩
theorem wK{B:Nat}(h:Below B w w1)(hE:∀k,B<=k->k<w.heap.size->E k):Za E w w1 :=
 ⟨h.os,h.tape,h.output,h.size,fun k hk he=>h.block k (Nat.lt_of_not_le fun hb=>he (hE k hb hk))⟩
end Za
variable {E:Nat->Prop}
theorem QT{o:Obj}:Za E w (w.alloc o):=(Za.refl E w).alloc o
theorem Zb{size:Nat}{n:Nat}(h:w.ownsRow base e size v n xs)(hk:Za E w w')
  (hE:∀k,v.ownBlock=some k->¬E k):w'.ownsRow base e size v n xs:=by
 obtain⟨h1,h2⟩:=h;refine⟨h1,?_⟩
 rcases h2 with h2 | ⟨g,cap,cur,hv,hg,hh,r⟩
 ·exact Or.inl h2
 ·subst hv;exact Or.inr ⟨g,cap,cur,rfl,hg,by rw[hk.block g (lt_of_block hh) (hE g rfl)];exact hh,r⟩
theorem Zp{base':Nat}{size:Nat}{n:Nat}(h:w.ownsRow base e size v n xs)(hb:∀k,v.ownBlock=some k->base'<=k):w.ownsRow base' e size v n xs:=by
 obtain⟨h1,h2⟩:=h;refine⟨h1,?_⟩
 rcases h2 with h2 | ⟨g,cap,cur,hv,hg,hh,r⟩
 ·exact Or.inl h2
 ·subst hv;exact Or.inr ⟨g,cap,cur,rfl,hb g rfl,hh,r⟩
theorem Qa{size:Nat}{n:Nat}(h:w.ownsRow base e size v n xs)(hh:w'.heap=w.heap):w'.ownsRow base e size v n xs:=by
 unfold World.ownsRow at h ⊢;rw[hh];exact h
theorem aj{size:Nat}{n:Nat}(h:w.ownsRow base e size v n xs):∃ao cap,v=.slice ao n cap:=by
 obtain⟨_,⟨rfl,rfl⟩ | ⟨g,cap,cur,rfl,_⟩⟩:=h
 ·exact⟨_,_,rfl⟩
 ·exact⟨_,_,rfl⟩
theorem ZM{size:Nat}{n:Nat}(h:w.ownsRow base e size v (n+1) xs):∃g cap,v=.slice (some ⟨g,0,none⟩) (n+1) cap/\base<=g/\g<w.heap.size:=by
 obtain⟨_,⟨_,h0⟩ | ⟨g,cap,cur,rfl,hb,hh,_⟩⟩:=h
 ·omega
 ·exact⟨g,cap,rfl,hb,lt_of_block hh⟩
theorem aV(w:World)(t:TypeId)(cs:List Value)(j:Nat)(u:Value)(hj:cs[j]?=some u):(w.alloc (.cells cs.toArray t)).cell? (Addr.add (ak w.heap.size) j)=some u:=by
 have e:Addr.add (ak w.heap.size) j=⟨w.heap.size,j,none⟩:=by by_cases h:j=0 <;> simp[Addr.add,h]
 rw[e,World.cell?_alloc_at _ _ _ _ rfl];simpa using hj
def jP (w:World) (v v':Value):Prop :=∀k,v'.ownBlock=some k->k<w.heap.size->v.ownBlock=some k
theorem JF{P:Program}(w:World)(base:Nat)(t ty e:TypeId)(i:TypeInfo)(z:Value)(size bytes:Nat)(ht:P.underlying t=some (.slice e))(hi:P.info? e=some i)
  (hz:i.zero=some z) (hsize:i.size=size) (hby:i.bytes=bytes) (hzs:z.cells.size=size) (hsz:0<size)
  (v:Value) (n:Nat) (xs:List Value) (hown:w.ownsRow base e size v n xs) (a:Addr) (m c:Nat) (news:List Value) (hl:news.length=m*size) (hnews:∀j u,news[j]?=some u->w.cell? (a.add j)=some u) (h1:∀u∈news,u.oneCell'=true)
  (h63:n+m<=maxLen) (hbytes:(n+m)*bytes<=140737488355328) (hbase:base<=w.heap.size) :
  ∃v' w',Sem.run P (Builtin.append_ #[t,t] ty #[v,.slice (some a) m c]) w=.ok v' w'/\w'.ownsRow base e size v' (n+m) (xs++news)/\w.grownBy w' v.ownBlock/\jP w v v':=by
 have hown0:=hown;obtain⟨hlen,⟨rfl,rfl⟩ | ⟨g,cap,cur,rfl,hg,hh,hcap,hmx,hcs,htk⟩⟩:=hown
 ·obtain rfl:xs = []:=List.eq_nil_of_length_eq_zero (by simpa using hlen);obtain⟨v',w',hr,ho,hgr,_⟩:=run_append_own (P:=P) w w.heap.size t ty e i z size bytes ht hi hz hsize hby hzs hsz (.slice none 0 0) 0 [] (World.ownsRow_nil w _ e size) a m c news hl hnews h1 h63 hbytes (Nat.le_refl _);exact⟨v',w',hr,Zp ho (fun k hk=>Nat.le_trans hbase (ho.lt k hk).1),hgr,fun k hk hlt=>absurd (ho.lt k hk).1 (by omega)⟩
 ·by_cases hr:n+m<=cap
  ·obtain⟨w',hrun,ho,hgr⟩:=run_append_fits (P:=P) w base t ty e i size ht hi hsize g n cap xs hown0 a m c news hl hnews h1 hr;exact⟨_,w',hrun,ho,hgr,fun k hk _=>hk⟩
  ·obtain⟨v',w',hrun,ho,hgr⟩:=run_append_arg_grows (P:=P) w t ty e i z size bytes ht hi hz hsize hby hzs hsz (ak g) n cap xs hlen (hown0.cells rfl) a m c news hl hnews (by omega) h63 hbytes;exact⟨v',w',hrun,Zp ho (fun k hk=>Nat.le_trans hbase (ho.lt k hk).1),⟨hgr.os,hgr.tape,hgr.output,hgr.size,fun k hk _=>hgr.block k hk (by simp)⟩,fun k hk hlt=>absurd (ho.lt k hk).1 (by omega)⟩
variable {a:Act}{Q:Exit->Act->World->Prop}
theorem Q7{P:Program}{ops:Array Oper}{o:Oper}{K:Act->World->Prop}{E:Prop}
  (hg:o.guard=none) (s x:Operand) (t ty:TypeId) (hop:o.op=Op.call { callee:=Callee.builtin Builtin.append,args:=#[s,x],argTypes:=#[t,t] }) (hty:o.type=ty)
  (v y v':Value) (w':World) (hs:a.eval s=v) (hx:a.eval x=y) (hrun:Sem.run P (Builtin.append_ #[t,t] ty #[v,y]) w=.ok v' w')
  (hK:K (a.put o.dst v') w') :
  if Region.wanted o (yielded ops a.tmps)=true then Oper.wp P o a w K Q else E:=by
 have hw:Region.wanted o (yielded ops a.tmps)=true:=by simp[Region.wanted,hg]
 rw[if_pos hw];unfold Oper.wp;simp[execOp,hop,resolve,invoke,builtin,hs,hx,hty,hrun,Result.andThen];exact hK
theorem Zj{P:Program}{ops:Array Oper}{rest:List Oper}{o:Oper}(hgd:o.guard=none)(s x:Operand)(t ty:TypeId)
  (ho:o.op=.call { callee:=.builtin .append,args:=#[s,x],argTypes:=#[t,t] }) (hty:o.type=ty) (v y v':Value) (w':World) (hs:a.eval s=v) (hx:a.eval x=y)
  (hr:Sem.run P (Builtin.append_ #[t,t] ty #[v,y]) w=.ok v' w') (h:wpList P ops Q rest (a.put o.dst v') w'):wpList P ops Q (o::rest) a w :=
 wpList_plain hgd fun _ hK=>by
  unfold Oper.wp execOp;simp only[ho,hty,resolve,invoke,builtin,Sem.run_bind,Sem.run_pure,Result.andThen_ok,List.map_toArray,List.map_cons,List.map_nil,hs,hx,hr];exact hK _ _ h
theorem Zc(h:w.heap[b]?=some (.cells cs t (0,0))):w.cell? ⟨b,i,none⟩=cs[i]?:=by simp[World.cell?,h]
theorem Zv(h:w.heap[b]?=some (.cells cs t (0,0))):w.frozen? ⟨b,i,none⟩=false:=by simp[World.frozen?,h]
def Rd (w:World) (R:Nat) (s:ByteArray) (a b g:Int) (v:Value):Prop :=
 w.heap[R]?=some (.cells #[.string s,.int .i64 a,.int .i64 b,.int .i64 g,v] 70 (0,0))
namespace Rd
variable {w:World}{R:Nat}{s:ByteArray}{a b g:Int}{v:Value}
theorem lt(h:Rd w R s a b g v):R<w.heap.size:=lt_of_block h
theorem c0(h:Rd w R s a b g v):w.cell? (ak R)=some (.string s):=by rw[Zc h];rfl
theorem c1(h:Rd w R s a b g v):w.cell? ⟨R,1,none⟩=some (.int .i64 a):=by rw[Zc h];rfl
theorem c2(h:Rd w R s a b g v):w.cell? ⟨R,2,none⟩=some (.int .i64 b):=by rw[Zc h];rfl
theorem c3(h:Rd w R s a b g v):w.cell? ⟨R,3,none⟩=some (.int .i64 g):=by rw[Zc h];rfl
theorem c4(h:Rd w R s a b g v):w.cell? ⟨R,4,none⟩=some v:=by rw[Zc h];rfl
theorem fz(h:Rd w R s a b g v)(i:Nat):w.frozen? ⟨R,i,none⟩=false:=Zv h
theorem drewN(h:Rd w R s a b g v)(n:Nat):Rd (w.drewN n) R s a b g v:=h
theorem keeps(h:Rd w R s a b g v)(k:Za E w w')(hE:¬E R):Rd w' R s a b g v:=by
 unfold Rd at h ⊢;rw[k.block R (lt_of_block h) hE];exact h
theorem alloc(h:Rd w R s a b g v)(o:Obj):Rd (w.alloc o) R s a b g v:=h.keeps ((Za.refl ai w).alloc o) id
theorem set1(h:Rd w R s a b g v)(x:Int):Rd (w.setCell ⟨R,1,none⟩ (.int .i64 x)) R s x b g v:=by unfold Rd;rw[heap_setCell_same _ _ _ _ _ _ h];rfl
theorem set2(h:Rd w R s a b g v)(x:Int):Rd (w.setCell ⟨R,2,none⟩ (.int .i64 x)) R s a x g v:=by unfold Rd;rw[heap_setCell_same _ _ _ _ _ _ h];rfl
theorem iQ(h:Rd w R s a b g v)(x:Int):Rd (w.setCell ⟨R,3,none⟩ (.int .i64 x)) R s a b x v:=by unfold Rd;rw[heap_setCell_same _ _ _ _ _ _ h];rfl
theorem aX(h:Rd w R s a b g v)(x:Value):Rd (w.setCell ⟨R,4,none⟩ x) R s a b g x:=by unfold Rd;rw[heap_setCell_same _ _ _ _ _ _ h];rfl
end Rd
theorem fU(w:World)(X Y:Obj):((w.alloc X).alloc Y).heap[w.heap.size]?=some X:=by rw[Below.heap_alloc _ _ _ (by simp)];exact heap_alloc_new _ _
theorem gH(w:World)(X Y:Obj):((w.alloc X).alloc Y).heap[w.heap.size+1]?=some Y:=by
 have:=heap_alloc_new (w.alloc X) Y
 simpa using this
end Go.Proofs.YtfkflljplohhcaaGreatDoor
