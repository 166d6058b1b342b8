import Derived.Test.YthkmmeamplmnhaaGreatRows
import Derived.WalkKit
import Derived.WalkSmall
import Derived.Deep.QuietTactic
import Derived.BigQuiet
import Derived.RegionTactic
import Derived.Deep.RegionLaw
import Derived.Deep.LoopGhost
namespace Go.Proofs.YthkmmeamplmnhaaGreat
abbrev Bs:=Nat→Bool
structure Pc where
 kind:Int
 set:List (Int×Int)
 min:Int
 max:Int
 lazy:Bool
 num:Int
 kids:List Int
def bt (s:ByteArray) (p:Nat):Nat:=if h:p < s.size then s[p].toNat else 256
theorem bt_in {s:ByteArray} {p:Nat} (h:p < s.size):bt s p=s[p].toNat:=by simp [bt,h]
theorem bt_out {s:ByteArray} {p:Nat} (h:¬ p < s.size):bt s p=256:=by simp [bt,h]
theorem bt_lt {s:ByteArray} {p:Nat} (h:p < s.size):bt s p < 256:=by rw [bt_in h]; exact s[p].toNat_lt
theorem bt_end {s:ByteArray} {p:Nat}:bt s p=256↔¬ p < s.size:=by
 constructor
 ·intro h hp; have:=bt_lt hp; omega
 ·exact bt_out
theorem bt_some {s:ByteArray} {p b:Nat} (h:bt s p=b) (hb:b < 256):p < s.size:=by
 apply Decidable.byContradiction; intro hp; rw [bt_out hp] at h; omega
def none':Bs:=fun _=>false
def one (b:Nat):Bs:=fun x=>x == b
def rng (lo hi:Nat):Bs:=fun x=>decide (lo≤x) && decide (x≤hi)
def un (a b:Bs):Bs:=fun x=>a x || b x
def co (a:Bs):Bs:=fun x => !a x
def word:Bs:=un (un (un (rng 48 57) (rng 65 90)) (rng 97 122)) (rng 95 95)
def space:Bs:=un (un (rng 9 10) (rng 13 13)) (rng 32 32)
def dot:Bs:=fun x=>x != 10
def rangesTo (S:Bs):Nat→List (Int×Int)
 | 0 => []
 | b + 1 =>
   if S b then
    match (rangesTo S b).getLast? with
    | some r=>if r.2=(b:Int) - 1 then (rangesTo S b).dropLast ++ [(r.1,(b:Int))] else rangesTo S b ++ [((b:Int),(b:Int))]
    | none=>rangesTo S b ++ [((b:Int),(b:Int))]
   else rangesTo S b
def ranges (S:Bs):List (Int×Int):=rangesTo S 256
theorem rangesTo_le (S:Bs) (b:Nat):(rangesTo S b).length≤b:=by
 induction b with
 | zero=>simp [rangesTo]
 | succ b ih =>
   unfold rangesTo
   split
   ·split
    ·split
     ·simp; omega
     ·simp; omega
    ·simp; omega
   ·omega
theorem rangesTo_congr {S S':Bs} (b:Nat) (h :∀x,x < b→S x=S' x):rangesTo S b=rangesTo S' b:=by
 induction b with
 | zero=>rfl
 | succ b ih =>
   unfold rangesTo
   rw [ih fun x hx=>h x (by omega),h b (by omega)]
def hexv (b:Nat):Option Nat :=
 if 48≤b∧b≤57 then some (b - 48) else if 97≤b∧b≤102 then some (b - 87) else none
theorem hexv_lt {b v:Nat} (h:hexv b=some v):v < 16:=by
 unfold hexv at h
 split at h
 ·simp at h; omega
 ·split at h
  ·simp at h; omega
  ·simp at h
def letter (b:Nat):Bool:=(decide (97≤b) && decide (b≤122)) || (decide (65≤b) && decide (b≤90))
def digit (b:Nat):Bool:=decide (48≤b) && decide (b≤57)
def printed (b:Nat):Bool:=decide (33≤b) && decide (b≤126)
def escRef (s:ByteArray) (p:Nat):Except Nat (Bs×Option Nat×Nat) :=
 if bt s p=256 then .error p
 else if bt s p=100 then .ok (rng 48 57,none,p + 1)
 else if bt s p=119 then .ok (word,none,p + 1)
 else if bt s p=115 then .ok (space,none,p + 1)
 else if bt s p=110 then .ok (one 10,some 10,p + 1)
 else if bt s p=116 then .ok (one 9,some 9,p + 1)
 else if bt s p=114 then .ok (one 13,some 13,p + 1)
 else if bt s p=120 then
  match hexv (bt s (p + 1)) with
  | none => .error (p + 1)
  | some a=>match hexv (bt s (p + 2)) with
    | none => .error (p + 2)
    | some b => .ok (one (a * 16 + b),some (a * 16 + b),p + 3)
 else if letter (bt s p) || digit (bt s p) || !printed (bt s p) then .error p
 else .ok (one (bt s p),some (bt s p),p + 1)
def partRef (s:ByteArray) (p:Nat):Except Nat (Bs×Option Nat×Nat) :=
 if bt s p=92 then escRef s (p + 1) else .ok (one (bt s p),some (bt s p),p + 1)
def itemRef (s:ByteArray) (p:Nat):Except Nat (Bs×Nat) :=
 match partRef s p with
 | .error e => .error e
 | .ok (S,none,q) => .ok (S,q)
 | .ok (S,some lo,q) =>
   if bt s q=45∧bt s (q + 1)≠256∧bt s (q + 1)≠93 then
    match partRef s (q + 1) with
    | .error e => .error e
    | .ok (_,none,_) => .error (q + 1)
    | .ok (_,some hi,q2)=>if hi < lo then .error (q + 1) else .ok (un S (rng lo hi),q2)
   else .ok (S,q)
def classLoop (s:ByteArray):Nat→Nat→Bs→Bool→Except Nat (Bs×Nat)
 | 0,_,_,_ => .error 0
 | f + 1,p,S,first =>
   if bt s p≠256∧(bt s p≠93∨first=true) then
    match itemRef s p with
    | .error e => .error e
    | .ok (S1,q)=>classLoop s f q (un S S1) false
   else if bt s p=93 then .ok (S,p + 1) else .error p
def classRef (s:ByteArray) (p:Nat):Except Nat (Bs×Nat) :=
 if bt s p=94 then
  match classLoop s (s.size + 1) (p + 1) none' true with
  | .error e => .error e
  | .ok (S,q) => .ok (co S,q)
 else classLoop s (s.size + 1) p none' true
def numLoop (s:ByteArray) (from_:Nat):Nat→Nat→Nat→Except Nat (Nat×Nat)
 | 0,_,_ => .error 0
 | f + 1,p,n =>
   if digit (bt s p) then
    if 50 < n * 10 + (bt s p - 48) then .error from_ else numLoop s from_ f (p + 1) (n * 10 + (bt s p - 48))
   else .ok (n,p)
def numRef (s:ByteArray) (p:Nat):Except Nat (Nat×Nat):=numLoop s p (s.size + 1) p 0
def countsRef (s:ByteArray) (p:Nat):Except Nat (Int×Int×Nat) :=
 match numRef s p with
 | .error e => .error e
 | .ok (lo,q) =>
   if q=p then .error p
   else if bt s q=44 then
    match numRef s (q + 1) with
    | .error e => .error e
    | .ok (hi,q2) =>
      if q2=q + 1 then (if bt s q2=125 then .ok (lo,-1,q2 + 1) else .error q2)
      else if hi < lo then .error (q + 1)
      else if bt s q2=125 then .ok (lo,hi,q2 + 1) else .error q2
   else if bt s q=125 then .ok (lo,lo,q + 1) else .error q
abbrev Pf:=Nat→List Pc
def setPc (S:Bs):Pc := { kind:=1,set:=ranges S,min:=0,max:=0,lazy:=false,num:=0,kids := [] }
def setPf (S:Bs):Pf:=fun _ => [setPc S]
def startPf:Pf:=fun _ => [{ kind:=6,set := [],min:=0,max:=0,lazy:=false,num:=0,kids := [] }]
def endPf:Pf:=fun _ => [{ kind:=7,set := [],min:=0,max:=0,lazy:=false,num:=0,kids := [] }]
def cat:List Pf→Nat→List Pc
 | [],_ => []
 | f :: fs,n=>f n ++ cat fs (n + (f n).length)
def ends:List Pf→Nat→List Int
 | [],_ => []
 | f :: fs,n=>((n:Int) + (f n).length - 1) :: ends fs (n + (f n).length)
def kidsPc (kind:Int) (kids:List Int):Pc := { kind:=kind,set := [],min:=0,max:=0,lazy:=false,num:=0,kids:=kids }
def seqPf (fs:List Pf):Pf:=fun n=>cat fs n ++ [kidsPc 2 (ends fs n)]
def altPf (fs:List Pf):Pf:=fun n=>cat fs n ++ [kidsPc 3 (ends fs n)]
def repPf (lo hi:Int) (lazy:Bool) (f:Pf):Pf:=fun n=>f n ++ [{ kind:=4,set := [],min:=lo,max:=hi,lazy:=lazy,num:=0,kids := [(n:Int) + (f n).length - 1] }]
def grpPf (num:Int) (f:Pf):Pf:=fun n=>f n ++ [{ kind:=5,set := [],min:=0,max:=0,lazy:=false,num:=num,kids := [(n:Int) + (f n).length - 1] }]
theorem cat_snoc (fs:List Pf) (f:Pf) (n:Nat):cat (fs ++ [f]) n=cat fs n ++ f (n + (cat fs n).length):=by
 induction fs generalizing n with
 | nil=>simp [cat]
 | cons g fs ih=>simp [cat,ih,Nat.add_assoc]
theorem ends_snoc (fs:List Pf) (f:Pf) (n:Nat):ends (fs ++ [f]) n=ends fs n ++ [((n:Int) + (cat fs n).length + (f (n + (cat fs n).length)).length - 1)]:=by
 induction fs generalizing n with
 | nil=>simp [cat,ends]
 | cons g fs ih =>
   simp only [cat,ends,List.cons_append,ih,List.length_append,Nat.add_assoc]
   congr 2
   simp
   omega
abbrev Rd3:=Except Nat (Pf×Nat×Nat)
def atomRef (alt:Nat→Nat→Rd3) (room:Bool) (s:ByteArray) (p g:Nat):Rd3 :=
 if bt s p=40 then
  if g=9∨room=false then .error p
  else match alt (p + 1) (g + 1) with
   | .error e => .error e
   | .ok (f,q,g')=>if bt s q=41 then .ok (grpPf ((g:Int) + 1) f,q + 1,g') else .error q
 else if bt s p=91 then
  match classRef s (p + 1) with
  | .error e => .error e
  | .ok (S,q) => .ok (setPf S,q,g)
 else if bt s p=94 then .ok (startPf,p + 1,g)
 else if bt s p=36 then .ok (endPf,p + 1,g)
 else if bt s p=46 then .ok (setPf dot,p + 1,g)
 else if bt s p=92 then
  match escRef s (p + 1) with
  | .error e => .error e
  | .ok (S,_,q) => .ok (setPf S,q,g)
 else if bt s p=42∨bt s p=43∨bt s p=63∨bt s p=123∨bt s p=125∨bt s p=93 then .error p
 else .ok (setPf (one (bt s p)),p + 1,g)
def cntRef (s:ByteArray) (q:Nat):Except Nat (Option (Int×Int)×Nat) :=
 if bt s q=42 then .ok (some (0,-1),q + 1)
 else if bt s q=43 then .ok (some (1,-1),q + 1)
 else if bt s q=63 then .ok (some (0,1),q + 1)
 else if bt s q=123 then
  match countsRef s (q + 1) with
  | .error e => .error e
  | .ok (lo,hi,q2) => .ok (some (lo,hi),q2)
 else .ok (none,q)
def pieceRef (alt:Nat→Nat→Rd3) (room:Bool) (s:ByteArray) (p g:Nat):Rd3 :=
 match atomRef alt room s p g with
 | .error e => .error e
 | .ok (f,q,g') =>
   match cntRef s q with
   | .error e => .error e
   | .ok (none,_) => .ok (f,q,g')
   | .ok (some (lo,hi),q2)=>if bt s q2=63 then .ok (repPf lo hi true f,q2 + 1,g') else .ok (repPf lo hi false f,q2,g')
def seqLoop (alt:Nat→Nat→Rd3) (room:Bool) (s:ByteArray):Nat→Nat→Nat→List Pf→Except Nat (List Pf×Nat×Nat)
 | 0,_,_,_ => .error 0
 | fu + 1,p,g,fs =>
   if bt s p≠256∧bt s p≠124∧bt s p≠41 then
    match pieceRef alt room s p g with
    | .error e => .error e
    | .ok (f,q,g')=>seqLoop alt room s fu q g' (fs ++ [f])
   else .ok (fs,p,g)
def seqRef (alt:Nat→Nat→Rd3) (room:Bool) (s:ByteArray) (p g:Nat):Rd3 :=
 match seqLoop alt room s (s.size + 1) p g [] with
 | .error e => .error e
 | .ok (fs,q,g') => .ok (seqPf fs,q,g')
def altLoop (alt:Nat→Nat→Rd3) (room:Bool) (s:ByteArray):Nat→Nat→Nat→List Pf→Except Nat (List Pf×Nat×Nat)
 | 0,_,_,_ => .error 0
 | fu + 1,p,g,fs =>
   if bt s p=124 then
    match seqRef alt room s (p + 1) g with
    | .error e => .error e
    | .ok (f,q,g')=>altLoop alt room s fu q g' (fs ++ [f])
   else .ok (fs,p,g)
def altOf (alt:Nat→Nat→Rd3) (room:Bool) (s:ByteArray) (p g:Nat):Rd3 :=
 match seqRef alt room s p g with
 | .error e => .error e
 | .ok (f,q,g') =>
   if bt s q=124 then
    match altLoop alt room s (s.size + 1) q g' [f] with
    | .error e => .error e
    | .ok (fs,q2,g2) => .ok (altPf fs,q2,g2)
   else .ok (f,q,g')
def altRef (s:ByteArray):Nat→Nat→Nat→Rd3
 | 0=>altOf (fun _ _ => .error 0) false s
 | d + 1=>altOf (altRef s d) true s
def readRef (s:ByteArray):Except Nat (Nat×List Pc) :=
 if 120 < s.size then .error 120
 else match altRef s 6 0 0 with
  | .error e => .error e
  | .ok (f,q,g)=>if q < s.size then .error q else .ok (g,f 0)
theorem hexv_some {b v:Nat} (h:hexv b=some v):b < 256:=by
 unfold hexv at h
 split at h
 ·omega
 ·split at h
  ·omega
  ·simp at h
theorem escRef_pos {s:ByteArray} {p q:Nat} {S:Bs} {o:Option Nat} (h:escRef s p = .ok (S,o,q)):p < q∧q≤s.size∧(∀b,o=some b→b < 256∧S=one b):=by
 unfold escRef at h
 by_cases h0:bt s p=256
 ·simp [h0] at h
 ·have hp:p < s.size:=by
   apply Decidable.byContradiction; intro hp; exact h0 (bt_out hp)
  have hb:=bt_lt hp
  rw [if_neg h0] at h
  by_cases hx:bt s p=120
  ·rw [if_neg (by omega),if_neg (by omega),if_neg (by omega),if_neg (by omega),if_neg (by omega),if_neg (by omega),if_pos hx] at h
   split at h
   ·simp at h
   ·rename_i a ha
    split at h
    ·simp at h
    ·rename_i b hb'
     have h2:=bt_some rfl (hexv_some hb')
     have:=hexv_lt ha
     have:=hexv_lt hb'
     simp only [Except.ok.injEq,Prod.mk.injEq] at h
     obtain ⟨e1,e2,e3⟩:=h
     subst e1 e2 e3
     refine ⟨by omega,by omega,?_⟩
     intro c hc; simp at hc; subst hc; exact ⟨by omega,rfl⟩
  ·rw [if_neg hx] at h
   repeat' (split at h)
   all_goals simp only [Except.ok.injEq,Prod.mk.injEq,reduceCtorEq] at h
   all_goals obtain ⟨h1,h2,h3⟩:=h
   all_goals subst h1 h2 h3
   all_goals refine ⟨by omega,by omega,?_⟩
   all_goals intro c hc
   all_goals simp at hc
   all_goals subst hc
   all_goals exact ⟨by omega,rfl⟩
theorem partRef_pos {s:ByteArray} {p q:Nat} {S:Bs} {o:Option Nat} (hp:p < s.size) (h:partRef s p = .ok (S,o,q)):p < q∧q≤s.size∧(∀b,o=some b→b < 256∧S=one b):=by
 unfold partRef at h
 have hb:=bt_lt hp
 split at h
 ·have:=escRef_pos h; exact ⟨by omega,by omega,this.2.2⟩
 ·simp only [Except.ok.injEq,Prod.mk.injEq] at h
  obtain ⟨h1,h2,h3⟩:=h
  subst h1 h2 h3
  refine ⟨by omega,by omega,?_⟩
  intro c hc; simp at hc; subst hc; exact ⟨by omega,rfl⟩
theorem itemRef_pos {s:ByteArray} {p q:Nat} {S:Bs} (hp:p < s.size) (h:itemRef s p = .ok (S,q)):p < q∧q≤s.size:=by
 unfold itemRef at h
 split at h
 ·simp at h
 ·rename_i hpa
  simp only [Except.ok.injEq,Prod.mk.injEq] at h
  have:=partRef_pos hp hpa; omega
 ·rename_i S1 lo q1 hpa
  have h1:=partRef_pos hp hpa
  split at h
  ·rename_i hc
   have hq1:q1 + 1 < s.size:=by
    apply Decidable.byContradiction; intro hn; exact hc.2.1 (bt_out hn)
   split at h
   ·simp at h
   ·simp at h
   ·rename_i hpb
    have h2:=partRef_pos hq1 hpb
    split at h
    ·simp at h
    ·simp only [Except.ok.injEq,Prod.mk.injEq] at h
     omega
  ·simp only [Except.ok.injEq,Prod.mk.injEq] at h
   omega
theorem classLoop_pos {s:ByteArray} {fu p q:Nat} {S S':Bs} {fi:Bool} (h:classLoop s fu p S fi = .ok (S',q)):p < q∧q≤s.size:=by
 induction fu generalizing p S fi with
 | zero=>simp [classLoop] at h
 | succ fu ih =>
   unfold classLoop at h
   split at h
   ·rename_i hc
    have hp:p < s.size:=by
     apply Decidable.byContradiction; intro hn; exact hc.1 (bt_out hn)
    split at h
    ·simp at h
    ·rename_i hi
     have h1:=itemRef_pos hp hi
     have h2:=ih h
     omega
   ·split at h
    ·rename_i hb
     have:=bt_some hb (by omega)
     simp only [Except.ok.injEq,Prod.mk.injEq] at h
     omega
    ·simp at h
theorem classRef_pos {s:ByteArray} {p q:Nat} {S:Bs} (h:classRef s p = .ok (S,q)):p < q∧q≤s.size:=by
 unfold classRef at h
 split at h
 ·split at h
  ·simp at h
  ·rename_i hl
   simp only [Except.ok.injEq,Prod.mk.injEq] at h
   have:=classLoop_pos hl
   omega
 ·exact classLoop_pos h
theorem digit_in {s:ByteArray} {p:Nat} (h:digit (bt s p)=true):p < s.size:=by
 apply bt_some rfl
 simp [digit] at h
 omega
theorem numLoop_pos {s:ByteArray} {from_ fu p q n m:Nat} (hp:p≤s.size) (hn:n≤50) (h:numLoop s from_ fu p n = .ok (m,q)):p≤q∧q≤s.size∧m≤50:=by
 induction fu generalizing p n with
 | zero=>simp [numLoop] at h
 | succ fu ih =>
   unfold numLoop at h
   split at h
   ·rename_i hd
    have:=digit_in hd
    split at h
    ·simp at h
    ·have:=ih (by omega) (by omega) h
     omega
   ·simp only [Except.ok.injEq,Prod.mk.injEq] at h
    omega
theorem numRef_pos {s:ByteArray} {p q m:Nat} (hp:p≤s.size) (h:numRef s p = .ok (m,q)):p≤q∧q≤s.size∧m≤50:=numLoop_pos hp (by omega) h
theorem countsRef_pos {s:ByteArray} {p q:Nat} {lo hi:Int} (hp:p≤s.size) (h:countsRef s p = .ok (lo,hi,q)):p < q∧q≤s.size:=by
 unfold countsRef at h
 split at h
 ·simp at h
 ·rename_i h1
  have p1:=numRef_pos hp h1
  split at h
  ·simp at h
  ·split at h
   ·rename_i hb
    have hb':=bt_some hb (by omega)
    split at h
    ·simp at h
    ·rename_i h2
     have p2:=numRef_pos (by omega) h2
     split at h
     ·split at h
      ·rename_i hc
       have:=bt_some hc (by omega)
       simp only [Except.ok.injEq,Prod.mk.injEq] at h
       omega
      ·simp at h
     ·split at h
      ·simp at h
      ·split at h
       ·rename_i hc
        have:=bt_some hc (by omega)
        simp only [Except.ok.injEq,Prod.mk.injEq] at h
        omega
       ·simp at h
   ·split at h
    ·rename_i hc
     have:=bt_some hc (by omega)
     simp only [Except.ok.injEq,Prod.mk.injEq] at h
     omega
    ·simp at h
def Good (s:ByteArray) (alt:Nat→Nat→Rd3):Prop :=
 ∀p g f q g',p≤s.size→g≤9→alt p g = .ok (f,q,g')→p≤q∧q≤s.size∧g'≤9∧∀n,(f n).length≤3 * (q - p) + 2∧1≤(f n).length
theorem atomRef_pos {s:ByteArray} {alt:Nat→Nat→Rd3} {room:Bool} (G:Good s alt) {p g q g':Nat} {f:Pf} (hp:p < s.size) (hg:g≤9) (h:atomRef alt room s p g = .ok (f,q,g')) :
  p < q∧q≤s.size∧g'≤9∧∀n,(f n).length≤3 * (q - p)∧1≤(f n).length:=by
 unfold atomRef at h
 split at h
 ·split at h
  ·simp at h
  ·rename_i hc
   split at h
   ·simp at h
   ·rename_i f1 q1 g1 ha
    have:=G _ _ _ _ _ (by omega) (by omega) ha
    split at h
    ·rename_i hb
     have hq:=bt_some hb (by omega)
     simp only [Except.ok.injEq,Prod.mk.injEq] at h
     obtain ⟨h1,h2,h3⟩:=h
     subst h1 h2 h3
     refine ⟨by omega,by omega,by omega,fun n=>?_⟩
     have:=this.2.2.2 n
     simp [grpPf]; omega
    ·simp at h
 ·split at h
  ·split at h
   ·simp at h
   ·rename_i hcl
    have:=classRef_pos hcl
    simp only [Except.ok.injEq,Prod.mk.injEq] at h
    obtain ⟨h1,h2,h3⟩:=h
    subst h1 h2 h3
    exact ⟨by omega,by omega,by omega,fun n=>by simp [setPf] <;> omega⟩
  ·split at h
   ·simp only [Except.ok.injEq,Prod.mk.injEq] at h
    obtain ⟨h1,h2,h3⟩:=h
    subst h1 h2 h3
    exact ⟨by omega,by omega,by omega,fun n=>by simp [startPf] <;> omega⟩
   ·split at h
    ·simp only [Except.ok.injEq,Prod.mk.injEq] at h
     obtain ⟨h1,h2,h3⟩:=h
     subst h1 h2 h3
     exact ⟨by omega,by omega,by omega,fun n=>by simp [endPf] <;> omega⟩
    ·split at h
     ·simp only [Except.ok.injEq,Prod.mk.injEq] at h
      obtain ⟨h1,h2,h3⟩:=h
      subst h1 h2 h3
      exact ⟨by omega,by omega,by omega,fun n=>by simp [setPf] <;> omega⟩
     ·split at h
      ·split at h
       ·simp at h
       ·rename_i hcl
        have:=escRef_pos hcl
        simp only [Except.ok.injEq,Prod.mk.injEq] at h
        obtain ⟨h1,h2,h3⟩:=h
        subst h1 h2 h3
        exact ⟨by omega,by omega,by omega,fun n=>by simp [setPf] <;> omega⟩
      ·split at h
       ·simp at h
       ·simp only [Except.ok.injEq,Prod.mk.injEq] at h
        obtain ⟨h1,h2,h3⟩:=h
        subst h1 h2 h3
        exact ⟨by omega,by omega,by omega,fun n=>by simp [setPf] <;> omega⟩
theorem cntRef_pos {s:ByteArray} {q q2:Nat} {o:Option (Int×Int)} (hq:q≤s.size) (h:cntRef s q = .ok (o,q2)):q≤q2∧q2≤s.size∧(o≠none→q < q2)∧(o=none→q2=q):=by
 unfold cntRef at h
 split at h
 ·rename_i hb
  have:=bt_some hb (by omega)
  simp only [Except.ok.injEq,Prod.mk.injEq] at h
  obtain ⟨h1,h2⟩:=h
  subst h1 h2
  exact ⟨by omega,by omega,fun _=>by omega,fun h=>by simp at h⟩
 ·split at h
  ·rename_i hb
   have:=bt_some hb (by omega)
   simp only [Except.ok.injEq,Prod.mk.injEq] at h
   obtain ⟨h1,h2⟩:=h
   subst h1 h2
   exact ⟨by omega,by omega,fun _=>by omega,fun h=>by simp at h⟩
  ·split at h
   ·rename_i hb
    have:=bt_some hb (by omega)
    simp only [Except.ok.injEq,Prod.mk.injEq] at h
    obtain ⟨h1,h2⟩:=h
    subst h1 h2
    exact ⟨by omega,by omega,fun _=>by omega,fun h=>by simp at h⟩
   ·split at h
    ·rename_i hb
     have:=bt_some hb (by omega)
     split at h
     ·simp at h
     ·rename_i hc
      have:=countsRef_pos (by omega) hc
      simp only [Except.ok.injEq,Prod.mk.injEq] at h
      obtain ⟨h1,h2⟩:=h
      subst h1 h2
      exact ⟨by omega,by omega,fun _=>by omega,fun h=>by simp at h⟩
    ·simp only [Except.ok.injEq,Prod.mk.injEq] at h
     obtain ⟨h1,h2⟩:=h
     subst h1 h2
     exact ⟨by omega,by omega,fun h=>by simp at h,fun _=>rfl⟩
theorem pieceRef_pos {s:ByteArray} {alt:Nat→Nat→Rd3} {room:Bool} (G:Good s alt) {p g q g':Nat} {f:Pf} (hp:p < s.size) (hg:g≤9) (h:pieceRef alt room s p g = .ok (f,q,g')) :
  p < q∧q≤s.size∧g'≤9∧∀n,(f n).length≤3 * (q - p)∧1≤(f n).length:=by
 unfold pieceRef at h
 split at h
 ·simp at h
 ·rename_i f1 q1 g1 ha
  have h1:=atomRef_pos G hp hg ha
  split at h
  ·simp at h
  ·simp only [Except.ok.injEq,Prod.mk.injEq] at h
   obtain ⟨e1,e2,e3⟩:=h
   subst e1 e2 e3
   exact h1
  ·rename_i lo hi q2 hc
   have h2:=cntRef_pos (by omega) hc
   have h3:=h2.2.2.1 (by simp)
   split at h
   ·rename_i hb
    have:=bt_some hb (by omega)
    simp only [Except.ok.injEq,Prod.mk.injEq] at h
    obtain ⟨e1,e2,e3⟩:=h
    subst e1 e2 e3
    refine ⟨by omega,by omega,by omega,fun n=>?_⟩
    have:=h1.2.2.2 n
    simp [repPf]; omega
   ·simp only [Except.ok.injEq,Prod.mk.injEq] at h
    obtain ⟨e1,e2,e3⟩:=h
    subst e1 e2 e3
    refine ⟨by omega,by omega,by omega,fun n=>?_⟩
    have:=h1.2.2.2 n
    simp [repPf]; omega
theorem seqLoop_pos {s:ByteArray} {alt:Nat→Nat→Rd3} {room:Bool} (G:Good s alt) {fu p g q g' p0:Nat} {fs fs':List Pf} (h0:p0≤p) (hp:p≤s.size) (hg:g≤9)
  (hl :∀n,(cat fs n).length≤3 * (p - p0)) (h:seqLoop alt room s fu p g fs = .ok (fs',q,g')) :
  p≤q∧q≤s.size∧g'≤9∧∀n,(cat fs' n).length≤3 * (q - p0):=by
 induction fu generalizing p g fs with
 | zero=>simp [seqLoop] at h
 | succ fu ih =>
   unfold seqLoop at h
   split at h
   ·rename_i hc
    have hp':p < s.size:=by
     apply Decidable.byContradiction; intro hn; exact hc.1 (bt_out hn)
    split at h
    ·simp at h
    ·rename_i f1 q1 g1 hpc
     have h1:=pieceRef_pos G hp' hg hpc
     have h2:=ih (by omega) (by omega) (by omega) (fun n=>by
      have a:=hl n
      have b:=h1.2.2.2 (n + (cat fs n).length)
      rw [cat_snoc,List.length_append]; omega) h
     exact ⟨by omega,h2.2.1,h2.2.2.1,h2.2.2.2⟩
   ·simp only [Except.ok.injEq,Prod.mk.injEq] at h
    obtain ⟨e1,e2,e3⟩:=h
    subst e1 e2 e3
    exact ⟨by omega,hp,hg,hl⟩
theorem seqRef_pos {s:ByteArray} {alt:Nat→Nat→Rd3} {room:Bool} (G:Good s alt) {p g q g':Nat} {f:Pf} (hp:p≤s.size) (hg:g≤9) (h:seqRef alt room s p g = .ok (f,q,g')) :
  p≤q∧q≤s.size∧g'≤9∧∀n,(f n).length≤3 * (q - p) + 1∧1≤(f n).length:=by
 unfold seqRef at h
 split at h
 ·simp at h
 ·rename_i fs q1 g1 hl
  have h1:=seqLoop_pos G (Nat.le_refl p) hp hg (fun n=>by simp [cat]) hl
  simp only [Except.ok.injEq,Prod.mk.injEq] at h
  obtain ⟨e1,e2,e3⟩:=h
  subst e1 e2 e3
  refine ⟨h1.1,h1.2.1,h1.2.2.1,fun n=>?_⟩
  have:=h1.2.2.2 n
  simp [seqPf]; omega
theorem altLoop_pos {s:ByteArray} {alt:Nat→Nat→Rd3} {room:Bool} (G:Good s alt) {fu p g q g' p0:Nat} {fs fs':List Pf} (h0:p0≤p) (hp:p≤s.size) (hg:g≤9)
  (hl :∀n,(cat fs n).length≤3 * (p - p0) + 1) (h:altLoop alt room s fu p g fs = .ok (fs',q,g')) :
  p≤q∧q≤s.size∧g'≤9∧∀n,(cat fs' n).length≤3 * (q - p0) + 1:=by
 induction fu generalizing p g fs with
 | zero=>simp [altLoop] at h
 | succ fu ih =>
   unfold altLoop at h
   split at h
   ·rename_i hb
    have hp':=bt_some hb (by omega)
    split at h
    ·simp at h
    ·rename_i f1 q1 g1 hpc
     have h1:=seqRef_pos G (by omega) hg hpc
     have h2:=ih (by omega) (by omega) (by omega) (fun n=>by
      have a:=hl n
      have b:=h1.2.2.2 (n + (cat fs n).length)
      rw [cat_snoc,List.length_append]; omega) h
     exact ⟨by omega,h2.2.1,h2.2.2.1,h2.2.2.2⟩
   ·simp only [Except.ok.injEq,Prod.mk.injEq] at h
    obtain ⟨e1,e2,e3⟩:=h
    subst e1 e2 e3
    exact ⟨by omega,hp,hg,hl⟩
theorem altOf_good {s:ByteArray} {alt:Nat→Nat→Rd3} {room:Bool} (G:Good s alt):Good s (altOf alt room s):=by
 intro p g f q g' hp hg h
 unfold altOf at h
 split at h
 ·simp at h
 ·rename_i f1 q1 g1 hs
  have h1:=seqRef_pos G hp hg hs
  split at h
  ·split at h
   ·simp at h
   ·rename_i fs q2 g2 hl
    have h2:=altLoop_pos G (p0:=p) (by omega) (by omega) h1.2.2.1 (fun n=>by have:=h1.2.2.2 n; simp [cat]; omega) hl
    simp only [Except.ok.injEq,Prod.mk.injEq] at h
    obtain ⟨e1,e2,e3⟩:=h
    subst e1 e2 e3
    refine ⟨by omega,h2.2.1,h2.2.2.1,fun n=>?_⟩
    have:=h2.2.2.2 n
    simp [altPf]; omega
  ·simp only [Except.ok.injEq,Prod.mk.injEq] at h
   obtain ⟨e1,e2,e3⟩:=h
   subst e1 e2 e3
   exact ⟨h1.1,h1.2.1,h1.2.2.1,fun n=>by have:=h1.2.2.2 n; omega⟩
theorem altRef_good (s:ByteArray) (d:Nat):Good s (altRef s d):=by
 induction d with
 | zero=>exact altOf_good (fun p g f q g' _ _ h=>by simp at h)
 | succ d ih=>exact altOf_good ih
end Go.Proofs.YthkmmeamplmnhaaGreat
namespace Go.Proofs.YthkmmeamplmnhaaGreat
open Go.RowKit
structure Keeps (E:Nat→Prop) (w w':World):Prop where
 os:w'.os=w.os
 tape:w'.tape=w.tape
 output:w'.output=w.output
 size:w.heap.size≤w'.heap.size
 block :∀k,k < w.heap.size→¬ E k→w'.heap[k]? = w.heap[k]?
namespace Keeps
variable {E E':Nat→Prop} {w w1 w2:World}
theorem refl (E:Nat→Prop) (w:World):Keeps E w w:=⟨rfl,rfl,rfl,Nat.le_refl _,fun _ _ _=>rfl⟩
theorem trans (h:Keeps E w w1) (k:Keeps E w1 w2):Keeps E w w2 :=
 ⟨k.os.trans h.os,k.tape.trans h.tape,k.output.trans h.output,Nat.le_trans h.size k.size,fun i hi he=>(k.block i (Nat.lt_of_lt_of_le hi h.size) he).trans (h.block i hi he)⟩
theorem mono (h:Keeps E w w1) (hE :∀k,k < w.heap.size→E k→E' k):Keeps E' w w1 :=
 ⟨h.os,h.tape,h.output,h.size,fun k hk he=>h.block k hk fun h'=>he (hE k hk h')⟩
theorem trans' (h:Keeps E w w1) (k:Keeps E' w1 w2) (hE :∀i,i < w.heap.size→E' i→E i):Keeps E w w2 :=
 ⟨k.os.trans h.os,k.tape.trans h.tape,k.output.trans h.output,Nat.le_trans h.size k.size,fun i hi he=>(k.block i (Nat.lt_of_lt_of_le hi h.size) fun h'=>he (hE i hi h')).trans (h.block i hi he)⟩
theorem drewN (h:Keeps E w w1) (n:Nat):Keeps E w (w1.drewN n):=h.trans ⟨rfl,rfl,rfl,Nat.le_refl _,fun _ _ _=>rfl⟩
theorem drew (h:Keeps E w w1):Keeps E w w1.drew:=h.trans ⟨rfl,rfl,rfl,Nat.le_refl _,fun _ _ _=>rfl⟩
theorem alloc (h:Keeps E w w1) (o:Obj):Keeps E w (w1.alloc o) :=
 h.trans ⟨rfl,rfl,rfl,by simp,fun k hk _=>Below.heap_alloc w1 o k hk⟩
theorem setCell (h:Keeps E w w1) {a:Addr} (ha:a.block < w.heap.size→E a.block) (u:Value):Keeps E w (w1.setCell a u) :=
 ⟨h.os,h.tape,h.output,Nat.le_trans h.size (by simp [World.setCell]),fun k hk he=>by
  have hne:k≠a.block:=by intro e; subst e; exact he (ha hk)
  rw [Below.heap_setCell _ _ _ _ hne]; exact h.block k hk he⟩
theorem grown (h:Keeps E w w1) {row:Option Nat} (hg:w1.grownBy w2 row) (hr :∀k,row=some k→k < w.heap.size→E k):Keeps E w w2 :=
 ⟨hg.os.trans h.os,hg.tape.trans h.tape,hg.output.trans h.output,Nat.le_trans h.size hg.size,fun k hk he=>by
  rw [hg.block k (Nat.lt_of_lt_of_le hk h.size) (fun e=>he (hr k e.symm hk))]; exact h.block k hk he⟩
theorem below (h:Keeps E w w1) (B:Nat) (hB :∀k,k < B→¬ E k) (hs:B≤w.heap.size):Below B w w1 :=
 ⟨h.os,h.tape,h.output,h.size,fun k hk=>h.block k (Nat.lt_of_lt_of_le hk hs) (hB k hk)⟩
theorem ofBelow {B:Nat} (h:Below B w w1) (hE :∀k,B≤k→k < w.heap.size→E k):Keeps E w w1 :=
 ⟨h.os,h.tape,h.output,h.size,fun k hk he=>h.block k (Nat.lt_of_not_le fun hb=>he (hE k hb hk))⟩
end Keeps
theorem ownsRow_keeps {E:Nat→Prop} {w w':World} {base:Nat} {e:TypeId} {size:Nat} {v:Value} {n:Nat} {xs:List Value} (h:w.ownsRow base e size v n xs) (hk:Keeps E w w')
  (hE :∀k,v.ownBlock=some k→¬ E k):w'.ownsRow base e size v n xs:=by
 obtain ⟨h1,h2⟩:=h
 refine ⟨h1,?_⟩
 rcases h2 with h2 | ⟨g,cap,cur,hv,hg,hh,r⟩
 ·exact Or.inl h2
 ·subst hv
  exact Or.inr ⟨g,cap,cur,rfl,hg,by rw [hk.block g (lt_of_block hh) (hE g rfl)]; exact hh,r⟩
theorem ownsRow_base {w:World} {base base':Nat} {e:TypeId} {size:Nat} {v:Value} {n:Nat} {xs:List Value} (h:w.ownsRow base e size v n xs) (hb :∀k,v.ownBlock=some k→base'≤k):w.ownsRow base' e size v n xs:=by
 obtain ⟨h1,h2⟩:=h
 refine ⟨h1,?_⟩
 rcases h2 with h2 | ⟨g,cap,cur,hv,hg,hh,r⟩
 ·exact Or.inl h2
 ·subst hv
  exact Or.inr ⟨g,cap,cur,rfl,hb g rfl,hh,r⟩
theorem ownsRow_heap {w w':World} {base:Nat} {e:TypeId} {size:Nat} {v:Value} {n:Nat} {xs:List Value} (h:w.ownsRow base e size v n xs) (hh:w'.heap=w.heap):w'.ownsRow base e size v n xs:=by
 unfold World.ownsRow at h ⊢; rw [hh]; exact h
theorem own_form {w:World} {base:Nat} {e:TypeId} {size:Nat} {v:Value} {n:Nat} {xs:List Value} (h:w.ownsRow base e size v n xs) :∃ao cap,v = .slice ao n cap:=by
 obtain ⟨_,⟨rfl,rfl⟩ | ⟨g,cap,cur,rfl,_⟩⟩:=h
 ·exact ⟨_,_,rfl⟩
 ·exact ⟨_,_,rfl⟩
theorem own_some {w:World} {base:Nat} {e:TypeId} {size:Nat} {v:Value} {n:Nat} {xs:List Value} (h:w.ownsRow base e size v (n + 1) xs) :∃g cap,v = .slice (some ⟨g,0,none⟩) (n + 1) cap∧base≤g∧g < w.heap.size:=by
 obtain ⟨_,⟨_,h0⟩ | ⟨g,cap,cur,rfl,hb,hh,_⟩⟩:=h
 ·omega
 ·exact ⟨g,cap,rfl,hb,lt_of_block hh⟩
theorem cells_new (w:World) (t:TypeId) (cs:List Value) (j:Nat) (u:Value) (hj:cs[j]? = some u):(w.alloc (.cells cs.toArray t)).cell? (Addr.add ⟨w.heap.size,0,none⟩ j)=some u:=by
 have e:Addr.add ⟨w.heap.size,0,none⟩ j = ⟨w.heap.size,j,none⟩:=by by_cases h:j=0 <;> simp [Addr.add,h]
 rw [e,World.cell?_alloc_at _ _ _ _ rfl]
 simpa using hj
def Blk (w:World) (v v':Value):Prop :=∀k,v'.ownBlock=some k→k < w.heap.size→v.ownBlock=some k
theorem app_any {P:Program} (w:World) (base:Nat) (t ty e:TypeId) (i:TypeInfo) (z:Value) (size bytes:Nat) (ht:P.underlying t=some (.slice e)) (hi:P.info? e=some i)
  (hz:i.zero=some z) (hsize:i.size=size) (hby:i.bytes=bytes) (hzs:z.cells.size=size) (hsz:0 < size)
  (v:Value) (n:Nat) (xs:List Value) (hown:w.ownsRow base e size v n xs) (a:Addr) (m c:Nat) (news:List Value) (hl:news.length=m * size) (hnews :∀j u,news[j]? = some u→w.cell? (a.add j)=some u) (h1 :∀u∈news,u.oneCell'=true)
  (h63:n + m≤maxLen) (hbytes:(n + m) * bytes≤140737488355328) (hbase:base≤w.heap.size) :
  ∃v' w',Sem.run P (Builtin.append_ #[t,t] ty #[v,.slice (some a) m c]) w = .ok v' w'∧w'.ownsRow base e size v' (n + m) (xs ++ news)∧w.grownBy w' v.ownBlock∧Blk w v v':=by
 have hown0:=hown
 obtain ⟨hlen,⟨rfl,rfl⟩ | ⟨g,cap,cur,rfl,hg,hh,hcap,hmx,hcs,htk⟩⟩:=hown
 ·obtain rfl:xs = []:=List.eq_nil_of_length_eq_zero (by simpa using hlen)
  obtain ⟨v',w',hr,ho,hgr,_⟩:=run_append_own (P:=P) w w.heap.size t ty e i z size bytes ht hi hz hsize hby hzs hsz (.slice none 0 0) 0 [] (World.ownsRow_nil w _ e size) a m c news hl hnews h1 h63 hbytes (Nat.le_refl _)
  exact ⟨v',w',hr,ownsRow_base ho (fun k hk=>Nat.le_trans hbase (ho.lt k hk).1),hgr,fun k hk hlt=>absurd (ho.lt k hk).1 (by omega)⟩
 ·by_cases hr:n + m≤cap
  ·obtain ⟨w',hrun,ho,hgr⟩:=run_append_fits (P:=P) w base t ty e i size ht hi hsize g n cap xs hown0 a m c news hl hnews h1 hr
   exact ⟨_,w',hrun,ho,hgr,fun k hk _=>hk⟩
  ·obtain ⟨v',w',hrun,ho,hgr⟩:=run_append_arg_grows (P:=P) w t ty e i z size bytes ht hi hz hsize hby hzs hsz ⟨g,0,none⟩ n cap xs hlen (hown0.cells rfl) a m c news hl hnews (by omega) h63 hbytes
   exact ⟨v',w',hrun,ownsRow_base ho (fun k hk=>Nat.le_trans hbase (ho.lt k hk).1),⟨hgr.os,hgr.tape,hgr.output,hgr.size,fun k hk _=>hgr.block k hk (by simp)⟩,fun k hk hlt=>absurd (ho.lt k hk).1 (by omega)⟩
theorem step_append_run {P:Program} {ops:Array Oper} {o:Oper} {a:Act} {w:World} {K:Act→World→Prop} {Q:Exit→Act→World→Prop} {E:Prop}
  (hg:o.guard=none) (s x:Operand) (t ty:TypeId) (hop:o.op=Op.call { callee:=Callee.builtin Builtin.append,args:=#[s,x],argTypes:=#[t,t] }) (hty:o.type=ty)
  (v y v':Value) (w':World) (hs:a.eval s=v) (hx:a.eval x=y) (hrun:Sem.run P (Builtin.append_ #[t,t] ty #[v,y]) w = .ok v' w')
  (hK:K (a.put o.dst v') w') :
  if Region.wanted o (yielded ops a.tmps)=true then Oper.wp P o a w K Q else E:=by
 have hw:Region.wanted o (yielded ops a.tmps)=true:=by simp [Region.wanted,hg]
 rw [if_pos hw]
 unfold Oper.wp
 simp [execOp,hop,resolve,invoke,builtin,hs,hx,hty,hrun,Result.andThen]
 exact hK
theorem wpList_append_run {P:Program} {w:World} {ops:Array Oper} {rest:List Oper} {o:Oper} {a:Act} {Q:Exit→Act→World→Prop} (hgd:o.guard=none) (s x:Operand) (t ty:TypeId)
  (ho:o.op = .call { callee:=.builtin .append,args:=#[s,x],argTypes:=#[t,t] }) (hty:o.type=ty) (v y v':Value) (w':World) (hs:a.eval s=v) (hx:a.eval x=y)
  (hr:Sem.run P (Builtin.append_ #[t,t] ty #[v,y]) w = .ok v' w') (h:wpList P ops Q rest (a.put o.dst v') w'):wpList P ops Q (o :: rest) a w :=
 wpList_plain hgd fun _ hK=>by
  unfold Oper.wp execOp
  simp only [ho,hty,resolve,invoke,builtin,Sem.run_bind,Sem.run_pure,Result.andThen_ok,List.map_toArray,List.map_cons,List.map_nil,hs,hx,hr]
  exact hK _ _ h
theorem cell_of {w:World} {b i:Nat} {cs:Array Value} {t:TypeId} (h:w.heap[b]? = some (.cells cs t (0,0))):w.cell? ⟨b,i,none⟩=cs[i]?:=by simp [World.cell?,h]
theorem free_of {w:World} {b i:Nat} {cs:Array Value} {t:TypeId} (h:w.heap[b]? = some (.cells cs t (0,0))):w.frozen? ⟨b,i,none⟩=false:=by simp [World.frozen?,h]
def Rd (w:World) (R:Nat) (s:ByteArray) (a b g:Int) (v:Value):Prop :=
 w.heap[R]? = some (.cells #[.string s,.int .i64 a,.int .i64 b,.int .i64 g,v] 75 (0,0))
namespace Rd
variable {w:World} {R:Nat} {s:ByteArray} {a b g:Int} {v:Value}
theorem lt (h:Rd w R s a b g v):R < w.heap.size:=lt_of_block h
theorem c0 (h:Rd w R s a b g v):w.cell? ⟨R,0,none⟩=some (.string s):=by rw [cell_of h]; rfl
theorem c1 (h:Rd w R s a b g v):w.cell? ⟨R,1,none⟩=some (.int .i64 a):=by rw [cell_of h]; rfl
theorem c2 (h:Rd w R s a b g v):w.cell? ⟨R,2,none⟩=some (.int .i64 b):=by rw [cell_of h]; rfl
theorem c3 (h:Rd w R s a b g v):w.cell? ⟨R,3,none⟩=some (.int .i64 g):=by rw [cell_of h]; rfl
theorem c4 (h:Rd w R s a b g v):w.cell? ⟨R,4,none⟩=some v:=by rw [cell_of h]; rfl
theorem fz (h:Rd w R s a b g v) (i:Nat):w.frozen? ⟨R,i,none⟩=false:=free_of h
theorem drewN (h:Rd w R s a b g v) (n:Nat):Rd (w.drewN n) R s a b g v:=h
theorem keeps {E:Nat→Prop} {w':World} (h:Rd w R s a b g v) (k:Keeps E w w') (hE:¬ E R):Rd w' R s a b g v:=by
 unfold Rd at h ⊢; rw [k.block R (lt_of_block h) hE]; exact h
theorem alloc (h:Rd w R s a b g v) (o:Obj):Rd (w.alloc o) R s a b g v:=h.keeps ((Keeps.refl (fun _=>False) w).alloc o) (fun h=>h)
theorem set1 (h:Rd w R s a b g v) (x:Int):Rd (w.setCell ⟨R,1,none⟩ (.int .i64 x)) R s x b g v:=by unfold Rd; rw [heap_setCell_same _ _ _ _ _ _ h]; rfl
theorem set2 (h:Rd w R s a b g v) (x:Int):Rd (w.setCell ⟨R,2,none⟩ (.int .i64 x)) R s a x g v:=by unfold Rd; rw [heap_setCell_same _ _ _ _ _ _ h]; rfl
theorem set3 (h:Rd w R s a b g v) (x:Int):Rd (w.setCell ⟨R,3,none⟩ (.int .i64 x)) R s a b x v:=by unfold Rd; rw [heap_setCell_same _ _ _ _ _ _ h]; rfl
theorem set4 (h:Rd w R s a b g v) (x:Value):Rd (w.setCell ⟨R,4,none⟩ x) R s a b g x:=by unfold Rd; rw [heap_setCell_same _ _ _ _ _ _ h]; rfl
end Rd
end Go.Proofs.YthkmmeamplmnhaaGreat
namespace Go.Proofs.YthkmmeamplmnhaaGreat
open Go.RowKit
theorem box1 (w:World) (X Y:Obj):((w.alloc X).alloc Y).heap[w.heap.size]? = some X:=by rw [Below.heap_alloc _ _ _ (by simp)]; exact heap_alloc_new _ _
theorem box2 (w:World) (X Y:Obj):((w.alloc X).alloc Y).heap[w.heap.size + 1]? = some Y:=by
 have:=heap_alloc_new (w.alloc X) Y
 simpa using this
end Go.Proofs.YthkmmeamplmnhaaGreat
