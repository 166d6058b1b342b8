import Derived.Test.YtmlgmhnplicflaaGreatDoorA
import Derived.Test.YtmlgmhnplicflaaGreatDoorAA
import Derived.Lib.ItoaNum
import Derived.Lib.ItoaLen

/-
  Patterns as texts: what a list of pieces is written as, on either side; what holds of the pieces of a text that is read.
-/
namespace Go.Proofs.YtmlgmhnplicflaaGreatDoor
set_option linter.unusedVariables false

abbrev Tx := List UInt8

/-- Ranges of bytes, written. -/
def rgTxt (r : Int × Int) : Tx := Esc.esc r.1 ++ (if r.1 < r.2 then 45 :: Esc.esc r.2 else [])
def oneOf : List (Int × Int) → Option Int
  | [r] => if r.1 = r.2 then some r.1 else none
  | _ => none
def noTxt : Tx := [91, 94, 92, 120, 48, 48, 45, 92, 120, 102, 102, 93]
def rsTxt (rs : List (Int × Int)) : Tx :=
  match oneOf rs with
  | some a => Esc.esc a
  | none => if rs.length = 0 then noTxt else 91 :: (rs.flatMap rgTxt ++ [93])

/-- Counts, written by the program and by the specification. -/
def lzTxt (lz : Bool) : Tx := if lz then [63] else []
def cntTxt (lo hi : Int) (lz : Bool) : Tx := 123 :: (Lib.itoa lo ++ ((if hi = lo then [] else 44 :: (if hi = -1 then [] else Lib.itoa hi)) ++ 125 :: lzTxt lz))
def cntTxtS (lo hi : Int) (lz : Bool) : Tx := 123 :: (Lib.itoa lo ++ ((if hi < 0 then [44] else if lo < hi then 44 :: Lib.itoa hi else []) ++ 125 :: lzTxt lz))
theorem cnt_same {lo hi : Int} (lz : Bool) (h0 : 0 ≤ lo) (h : hi = -1 ∨ lo ≤ hi) : cntTxtS lo hi lz = cntTxt lo hi lz := by
  unfold cntTxtS cntTxt
  rcases h with h | h
  · subst h; rw [if_pos (by omega), if_neg (by omega), if_pos rfl]
  · rw [if_neg (by omega)]
    by_cases e : hi = lo
    · rw [if_neg (by omega), if_pos e]
    · rw [if_pos (by omega), if_neg e, if_neg (by omega)]

def barTxt : List Tx → Tx
  | [] => []
  | t :: ts => t ++ ts.flatMap (124 :: ·)

/-- The bytes of ranges. -/
def unS (rs : List (Int × Int)) : Bs := fun x => rs.any fun r => decide (r.1 ≤ (x : Int)) && decide ((x : Int) ≤ r.2)
def okR (rs : List (Int × Int)) : Bool := rs.all fun r => decide (0 ≤ r.1) && decide (r.1 ≤ r.2) && decide (r.2 ≤ 255)

/-- The program: a piece with the texts of its kids. -/
def nodeTxt (p : Pc) (ts : List Tx) : Option Tx :=
  if p.kind = 1 then (if okR p.set = true then some (rsTxt (ranges (unS p.set))) else none)
  else if p.kind = 2 then some ts.flatten
  else if p.kind = 3 then some (barTxt ts)
  else if p.kind = 4 then (match ts with | [t] => some (t ++ cntTxt p.min p.max p.lazy) | _ => none)
  else if p.kind = 5 then (match ts with | [t] => some (40 :: (t ++ [41])) | _ => none)
  else if p.kind = 6 then some [94]
  else if p.kind = 7 then some [36]
  else none

def growKidsRef (grow : Nat → Option (Tx × Nat)) : List Int → Nat → List Tx → Option (List Tx × Nat)
  | [], l, acc => some (acc, l)
  | k :: ks, l, acc =>
    if l = 0 ∨ k ≠ (l : Int) - 1 then none
    else match grow l with
      | none => none
      | some (t, l2) => growKidsRef grow ks l2 (t :: acc)
def growRef (ps : List Pc) : Nat → Nat → Option (Tx × Nat)
  | 0, _ => none
  | f + 1, l =>
    match ps[l - 1]? with
    | none => none
    | some p =>
      if l - 1 < p.kids.length then none
      else match growKidsRef (growRef ps f) p.kids.reverse (l - 1) [] with
        | none => none
        | some (ts, l2) => match nodeTxt p ts with
          | none => none
          | some t => some (t, l2)
/-- What the program would write, ahead of reading it again. -/
def treeTxt (ps : List Pc) : Option Tx :=
  if ps.length = 0 ∨ 240 < ps.length then none
  else match growRef ps ps.length ps.length with
    | some (t, l2) => if l2 = 0 then some t else none
    | none => none

/-- The specification: a piece with the texts of others. -/
def body (x : Pc) (g : Int → Tx) : Tx :=
  if x.kind = 1 then rsTxt x.set
  else if x.kind = 2 then x.kids.flatMap g
  else if x.kind = 3 then barTxt (x.kids.map g)
  else if x.kind = 4 then g (x.kids.headD 0) ++ cntTxtS x.min x.max x.lazy
  else if x.kind = 5 then 40 :: (g (x.kids.headD 0) ++ [41])
  else if x.kind = 6 then [94]
  else [36]
def wrs (ps : List Pc) : Nat → Int → Tx
  | 0 => fun _ => []
  | i + 1 => fun k => if k = (i : Int) then (match ps[i]? with | some x => body x (wrs ps i) | none => []) else wrs ps i k
def wr (ps : List Pc) (i : Nat) : Tx := wrs ps (i + 1) i
theorem wrs_below (ps : List Pc) {n k : Nat} (h : k < n) : wrs ps n k = wr ps k := by
  induction n with
  | zero => omega
  | succ n ih =>
    by_cases e : k = n
    · subst e; rfl
    · have h1 : wrs ps (n + 1) k = wrs ps n k := by
        simp only [wrs]
        rw [if_neg (by omega)]
      rw [h1, ih (by omega)]
theorem wr_body {ps : List Pc} {i : Nat} {x : Pc} (h : ps[i]? = some x) : wr ps i = body x (wrs ps i) := by
  simp [wr, wrs, h]

def headBad (x : Pc) : Prop := x.kind < 1 ∨ 7 < x.kind ∨ ((x.kind = 4 ∨ x.kind = 5) ∧ x.kids.length ≠ 1) ∨ x.min < 0 ∨ 50 < x.min ∨ 50 < x.max ∨ 128 < x.set.length
instance (x : Pc) : Decidable (headBad x) := by unfold headBad; infer_instance
def mark (mk : Nat → Bool) (k : Nat) : Nat → Bool := fun y => if y = k then true else mk y
def markKids (i : Nat) : List Int → (Nat → Bool) → Option (Nat → Bool)
  | [], mk => some mk
  | k :: ks, mk => if k < 0 ∨ (i : Int) ≤ k ∨ mk k.toNat = true then none else markKids i ks (mark mk k.toNat)
def saneLoop : List Pc → Nat → (Nat → Bool) → Bool
  | [], _, _ => true
  | x :: xs, i, mk =>
    if headBad x then false
    else match markKids i x.kids mk with
      | none => false
      | some mk' => if okR x.set = true then saneLoop xs (i + 1) mk' else false
def sane (ok : Bool) (ps : List Pc) : Bool := ok && decide (ps.length ≠ 0) && decide (ps.length ≤ 480) && saneLoop ps 0 (fun _ => false)

/-- A part of a pattern that may be read from a text. -/
structure FmCl (P : Pf → Prop) : Prop where
  set : ∀ S : Bs, P (setPf S)
  start : P startPf
  fin : P endPf
  seq : ∀ fs : List Pf, (∀ f ∈ fs, P f) → P (seqPf fs)
  alt : ∀ fs : List Pf, (∀ f ∈ fs, P f) → P (altPf fs)
  rep : ∀ (f : Pf) (lo hi : Int) (lz : Bool), 0 ≤ lo → lo ≤ 50 → (hi = -1 ∨ lo ≤ hi) → hi ≤ 50 → P f → P (repPf lo hi lz f)
  grp : ∀ (f : Pf) (num : Int), P f → P (grpPf num f)
def Fm (f : Pf) : Prop := ∀ P : Pf → Prop, FmCl P → P f
theorem Fm.cl : FmCl Fm :=
  ⟨fun S P c => c.set S, fun P c => c.start, fun P c => c.fin, fun fs h P c => c.seq fs fun f hf => h f hf P c, fun fs h P c => c.alt fs fun f hf => h f hf P c,
    fun f lo hi lz h0 h1 h2 h3 h P c => c.rep f lo hi lz h0 h1 h2 h3 (h P c), fun f num h P c => c.grp f num (h P c)⟩

/-- What a reader of a whole pattern owes besides. -/
def Good2 (s : ByteArray) (alt : Nat → Nat → Rd3) : Prop :=
  ∀ p g f q g', p ≤ s.size → g ≤ 9 → alt p g = .ok (f, q, g') → Fm f ∧ ∀ n, 3 * (f n).length ≤ 4 * (q - p) + 5

theorem atomRef_fm {s : ByteArray} {alt : Nat → Nat → Rd3} {room : Bool} (G : Good s alt) (G2 : Good2 s alt) {p g q g' : Nat} {f : Pf} (hp : p < s.size) (hg : g ≤ 9) (h : atomRef alt room s p g = .ok (f, q, g')) :
    Fm f ∧ ∀ n, 3 * (f n).length ≤ 4 * (q - p) := by
  have hpos := atomRef_pos G hp hg h
  unfold atomRef at h
  split at h
  · split at h
    · simp at h
    · rename_i hc
      split at h
      · simp at h
      · rename_i f1 q1 g1 ha
        have h1 := G2 _ _ _ _ _ (by omega) (by omega) ha
        have h2 := G _ _ _ _ _ (by omega) (by omega) ha
        split at h
        · simp only [Except.ok.injEq, Prod.mk.injEq] at h
          obtain ⟨e1, e2, e3⟩ := h
          subst e1 e2 e3
          refine ⟨Fm.cl.grp _ _ h1.1, fun n => ?_⟩
          have := h1.2 n
          simp [grpPf]; omega
        · simp at h
  · repeat' (split at h)
    all_goals simp only [Except.ok.injEq, Prod.mk.injEq, reduceCtorEq] at h
    all_goals obtain ⟨h1, h2, h3⟩ := h
    all_goals subst h1 h2 h3
    all_goals first
      | exact ⟨Fm.cl.set _, fun n => by simp [setPf] <;> omega⟩
      | exact ⟨Fm.cl.start, fun n => by simp [startPf] <;> omega⟩
      | exact ⟨Fm.cl.fin, fun n => by simp [endPf] <;> omega⟩

theorem countsRef_bound {s : ByteArray} {p q : Nat} {lo hi : Int} (hp : p ≤ s.size) (h : countsRef s p = .ok (lo, hi, q)) : 0 ≤ lo ∧ lo ≤ 50 ∧ (hi = -1 ∨ lo ≤ hi) ∧ hi ≤ 50 := by
  unfold countsRef at h
  split at h
  · simp at h
  · rename_i h1
    have p1 := numRef_pos hp h1
    split at h
    · simp at h
    · split at h
      · rename_i hb
        have hb' := bt_some hb (by omega)
        split at h
        · simp at h
        · rename_i h2
          have p2 := numRef_pos (by omega) h2
          split at h
          · split at h
            · simp only [Except.ok.injEq, Prod.mk.injEq] at h
              omega
            · simp at h
          · split at h
            · simp at h
            · split at h
              · simp only [Except.ok.injEq, Prod.mk.injEq] at h
                omega
              · simp at h
      · split at h
        · simp only [Except.ok.injEq, Prod.mk.injEq] at h
          omega
        · simp at h

theorem cntRef_bound {s : ByteArray} {q q2 : Nat} {lo hi : Int} (hq : q < s.size) (h : cntRef s q = .ok (some (lo, hi), q2)) : 0 ≤ lo ∧ lo ≤ 50 ∧ (hi = -1 ∨ lo ≤ hi) ∧ hi ≤ 50 := by
  unfold cntRef at h
  split at h
  · simp only [Except.ok.injEq, Prod.mk.injEq, Option.some.injEq] at h; omega
  · split at h
    · simp only [Except.ok.injEq, Prod.mk.injEq, Option.some.injEq] at h; omega
    · split at h
      · simp only [Except.ok.injEq, Prod.mk.injEq, Option.some.injEq] at h; omega
      · split at h
        · split at h
          · simp at h
          · rename_i hc
            have := countsRef_bound (by omega) hc
            simp only [Except.ok.injEq, Prod.mk.injEq, Option.some.injEq] at h
            omega
        · simp at h

theorem pieceRef_fm {s : ByteArray} {alt : Nat → Nat → Rd3} {room : Bool} (G : Good s alt) (G2 : Good2 s alt) {p g q g' : Nat} {f : Pf} (hp : p < s.size) (hg : g ≤ 9) (h : pieceRef alt room s p g = .ok (f, q, g')) :
    Fm f ∧ ∀ n, 3 * (f n).length ≤ 4 * (q - p) := by
  unfold pieceRef at h
  split at h
  · simp at h
  · rename_i f1 q1 g1 ha
    have h0 := atomRef_pos G hp hg ha
    have h1 := atomRef_fm G G2 hp hg ha
    split at h
    · simp at h
    · simp only [Except.ok.injEq, Prod.mk.injEq] at h
      obtain ⟨e1, e2, e3⟩ := h
      subst e1 e2 e3
      exact h1
    · rename_i lo hi q2 hc
      have h2 := cntRef_pos (by omega) hc
      have h3 := h2.2.2.1 (by simp)
      have h4 := cntRef_bound (by omega) hc
      split at h
      · simp only [Except.ok.injEq, Prod.mk.injEq] at h
        obtain ⟨e1, e2, e3⟩ := h
        subst e1 e2 e3
        refine ⟨Fm.cl.rep _ _ _ _ h4.1 h4.2.1 h4.2.2.1 h4.2.2.2 h1.1, fun n => ?_⟩
        have := h1.2 n
        simp [repPf]; omega
      · simp only [Except.ok.injEq, Prod.mk.injEq] at h
        obtain ⟨e1, e2, e3⟩ := h
        subst e1 e2 e3
        refine ⟨Fm.cl.rep _ _ _ _ h4.1 h4.2.1 h4.2.2.1 h4.2.2.2 h1.1, fun n => ?_⟩
        have := h1.2 n
        simp [repPf]; omega

theorem seqLoop_fm {s : ByteArray} {alt : Nat → Nat → Rd3} {room : Bool} (G : Good s alt) (G2 : Good2 s alt) {fu p g q g' p0 : Nat} {fs fs' : List Pf} (h0 : p0 ≤ p) (hp : p ≤ s.size) (hg : g ≤ 9)
    (hF : ∀ f ∈ fs, Fm f) (hl : ∀ n, 3 * (cat fs n).length ≤ 4 * (p - p0)) (h : seqLoop alt room s fu p g fs = .ok (fs', q, g')) :
    p ≤ q ∧ (∀ f ∈ fs', Fm f) ∧ ∀ n, 3 * (cat fs' n).length ≤ 4 * (q - p0) := by
  induction fu generalizing p g fs with
  | zero => simp [seqLoop] at h
  | succ fu ih =>
    unfold seqLoop at h
    split at h
    · rename_i hc
      have hp' : p < s.size := by
        apply Decidable.byContradiction; intro hn; exact hc.1 (bt_out hn)
      split at h
      · simp at h
      · rename_i f1 q1 g1 hpc
        have h1 := pieceRef_pos G hp' hg hpc
        have h3 := pieceRef_fm G G2 hp' hg hpc
        have h2 := ih (by omega) (by omega) (by omega) (fun f hf => by
          rcases List.mem_append.1 hf with hf | hf
          · exact hF f hf
          · simp at hf; subst hf; exact h3.1) (fun n => by
          have a := hl n
          have b := h3.2 (n + (cat fs n).length)
          rw [cat_snoc, List.length_append]; omega) h
        exact ⟨by omega, h2.2⟩
    · simp only [Except.ok.injEq, Prod.mk.injEq] at h
      obtain ⟨e1, e2, e3⟩ := h
      subst e1 e2 e3
      exact ⟨by omega, hF, hl⟩

theorem seqRef_fm {s : ByteArray} {alt : Nat → Nat → Rd3} {room : Bool} (G : Good s alt) (G2 : Good2 s alt) {p g q g' : Nat} {f : Pf} (hp : p ≤ s.size) (hg : g ≤ 9) (h : seqRef alt room s p g = .ok (f, q, g')) :
    Fm f ∧ ∀ n, 3 * (f n).length ≤ 4 * (q - p) + 3 := by
  unfold seqRef at h
  split at h
  · simp at h
  · rename_i fs q1 g1 hl
    have h1 := seqLoop_fm G G2 (Nat.le_refl p) hp hg (by simp) (fun n => by simp [cat]) hl
    simp only [Except.ok.injEq, Prod.mk.injEq] at h
    obtain ⟨e1, e2, e3⟩ := h
    subst e1 e2 e3
    refine ⟨Fm.cl.seq _ h1.2.1, fun n => ?_⟩
    have := h1.2.2 n
    simp [seqPf]; omega

theorem altLoop_fm {s : ByteArray} {alt : Nat → Nat → Rd3} {room : Bool} (G : Good s alt) (G2 : Good2 s alt) {fu p g q g' p0 b : Nat} {fs fs' : List Pf} (h0 : p0 + b ≤ p) (hp : p ≤ s.size) (hg : g ≤ 9)
    (hF : ∀ f ∈ fs, Fm f) (hl : ∀ n, 3 * (cat fs n).length ≤ 4 * (p - p0 - b) + 3 * (b + 1)) (h : altLoop alt room s fu p g fs = .ok (fs', q, g')) :
    ∃ c, b ≤ c ∧ p0 + c ≤ q ∧ (∀ f ∈ fs', Fm f) ∧ (∀ n, 3 * (cat fs' n).length ≤ 4 * (q - p0 - c) + 3 * (c + 1)) ∧ (bt s p = 124 → b < c) := by
  induction fu generalizing p g fs b with
  | zero => simp [altLoop] at h
  | succ fu ih =>
    unfold altLoop at h
    split at h
    · rename_i hb
      have hp' := bt_some hb (by omega)
      split at h
      · simp at h
      · rename_i f1 q1 g1 hpc
        have h1 := seqRef_pos G (by omega) hg hpc
        have h3 := seqRef_fm G G2 (by omega) hg hpc
        obtain ⟨c, c1, c2, c3, c4, _⟩ := ih (b := b + 1) (by omega) (by omega) (by omega) (fun f hf => by
          rcases List.mem_append.1 hf with hf | hf
          · exact hF f hf
          · simp at hf; subst hf; exact h3.1) (fun n => by
          have a := hl n
          have b := h3.2 (n + (cat fs n).length)
          rw [cat_snoc, List.length_append]; omega) h
        exact ⟨c, by omega, c2, c3, c4, fun _ => by omega⟩
    · rename_i hb
      simp only [Except.ok.injEq, Prod.mk.injEq] at h
      obtain ⟨e1, e2, e3⟩ := h
      subst e1 e2 e3
      exact ⟨b, Nat.le_refl _, h0, hF, hl, fun h => absurd h hb⟩

theorem altOf_good2 {s : ByteArray} {alt : Nat → Nat → Rd3} {room : Bool} (G : Good s alt) (G2 : Good2 s alt) : Good2 s (altOf alt room s) := by
  intro p g f q g' hp hg h
  unfold altOf at h
  split at h
  · simp at h
  · rename_i f1 q1 g1 hs
    have h1 := seqRef_pos G hp hg hs
    have h3 := seqRef_fm G G2 hp hg hs
    split at h
    · rename_i hb
      split at h
      · simp at h
      · rename_i fs q2 g2 hl
        obtain ⟨c, c1, c2, c3, c4, c5⟩ := altLoop_fm G G2 (p0 := p) (b := 0) (by omega) (by omega) h1.2.2.1 (fun f hf => by simp at hf; subst hf; exact h3.1) (fun n => by have := h3.2 n; simp [cat]; omega) hl
        have := c5 hb
        simp only [Except.ok.injEq, Prod.mk.injEq] at h
        obtain ⟨e1, e2, e3⟩ := h
        subst e1 e2 e3
        refine ⟨Fm.cl.alt _ c3, fun n => ?_⟩
        have := c4 n
        simp [altPf]; omega
    · simp only [Except.ok.injEq, Prod.mk.injEq] at h
      obtain ⟨e1, e2, e3⟩ := h
      subst e1 e2 e3
      exact ⟨h3.1, fun n => by have := h3.2 n; omega⟩

theorem altRef_good2 (s : ByteArray) (d : Nat) : Good2 s (altRef s d) := by
  induction d with
  | zero =>
    unfold altRef
    exact altOf_good2 (fun _ _ _ _ _ _ _ h => by simp at h) (fun _ _ _ _ _ _ _ h => by simp at h)
  | succ d ih =>
    unfold altRef
    exact altOf_good2 (altRef_good s d) ih

/-- The pieces of a text that is read. -/
theorem readRef_fm {s : ByteArray} {g : Nat} {ps : List Pc} (h : readRef s = .ok (g, ps)) : ∃ f, Fm f ∧ ps = f 0 ∧ 1 ≤ ps.length ∧ ps.length ≤ 161 := by
  unfold readRef at h
  split at h
  · simp at h
  · rename_i hs
    split at h
    · simp at h
    · rename_i f q g' ha
      have h1 := altRef_good s 6 _ _ _ _ _ (Nat.zero_le _) (by omega) ha
      have h2 := altRef_good2 s 6 _ _ _ _ _ (Nat.zero_le _) (by omega) ha
      split at h
      · simp at h
      · simp only [Except.ok.injEq, Prod.mk.injEq] at h
        obtain ⟨e1, e2⟩ := h
        subst e1 e2
        have := h1.2.2.2 0
        have := h2.2 0
        exact ⟨f, h2.1, rfl, by omega, by omega⟩

end Go.Proofs.YtmlgmhnplicflaaGreatDoor

/-
  The pieces of a text that is read are written alike on either side, and are sound.
-/
namespace Go.Proofs.YtmlgmhnplicflaaGreatDoor
set_option linter.unusedVariables false

/-- The ranges below n: in order, in bounds, each of their bytes in the set. -/
theorem rgTo_mem (S : Bs) (n : Nat) : (∀ r ∈ rangesTo S n, 0 ≤ r.1 ∧ r.1 ≤ r.2 ∧ r.2 < (n : Int)) ∧ ∀ x : Nat, (∃ r ∈ rangesTo S n, r.1 ≤ (x : Int) ∧ (x : Int) ≤ r.2) ↔ (x < n ∧ S x = true) := by
  induction n with
  | zero => simp [rangesTo]
  | succ n ih =>
    obtain ⟨h1, h2⟩ := ih
    unfold rangesTo
    by_cases hS : S n = true
    · rw [if_pos hS]
      split
      · rename_i r hr
        obtain ⟨a, ha⟩ : ∃ a, rangesTo S n = a ++ [r] := List.getLast?_eq_some_iff.1 hr
        rw [ha] at h1 h2 ⊢
        have hr1 := h1 r (by simp)
        split
        · rename_i he
          refine ⟨?_, fun x => ?_⟩
          · intro q hq
            simp only [List.dropLast_concat, List.mem_append, List.mem_singleton] at hq
            rcases hq with hq | hq
            · have := h1 q (by simp [hq]); omega
            · subst hq; simp only; omega
          · have h2x := h2 x
            simp only [List.mem_append, List.mem_singleton] at h2x
            simp only [List.dropLast_concat, List.mem_append, List.mem_singleton]
            constructor
            · rintro ⟨q, hq | hq, hb⟩
              · have := h2x.1 ⟨q, Or.inl hq, hb⟩; exact ⟨by omega, this.2⟩
              · subst hq
                simp only at hb
                by_cases hx : x = n
                · subst hx; exact ⟨by omega, hS⟩
                · have := h2x.1 ⟨r, Or.inr rfl, by omega⟩; exact ⟨by omega, this.2⟩
            · rintro ⟨hx, hxS⟩
              by_cases hxn : x = n
              · subst hxn; exact ⟨_, Or.inr rfl, by simp only; omega⟩
              · obtain ⟨q, hq | hq, hb⟩ := h2x.2 ⟨by omega, hxS⟩
                · exact ⟨q, Or.inl hq, hb⟩
                · subst hq; exact ⟨_, Or.inr rfl, by simp only; omega⟩
        · refine ⟨?_, fun x => ?_⟩
          · intro q hq
            rcases List.mem_append.1 hq with hq | hq
            · have := h1 q hq; omega
            · simp at hq; subst hq; simp only; omega
          · have h2x := h2 x
            constructor
            · rintro ⟨q, hq, hb⟩
              rcases List.mem_append.1 hq with hq | hq
              · have := h2x.1 ⟨q, hq, hb⟩; exact ⟨by omega, this.2⟩
              · simp at hq; subst hq
                simp only at hb
                obtain rfl : x = n := by omega
                exact ⟨by omega, hS⟩
            · rintro ⟨hx, hxS⟩
              by_cases hxn : x = n
              · subst hxn; exact ⟨_, List.mem_append.2 (Or.inr (List.mem_singleton.2 rfl)), by simp only; omega⟩
              · obtain ⟨q, hq, hb⟩ := h2x.2 ⟨by omega, hxS⟩
                exact ⟨q, List.mem_append.2 (Or.inl hq), hb⟩
      · rename_i hr
        have hn : rangesTo S n = [] := List.getLast?_eq_none_iff.1 hr
        rw [hn] at h1 h2 ⊢
        refine ⟨?_, fun x => ?_⟩
        · intro q hq
          simp at hq; subst hq; simp only; omega
        · have h2x := h2 x
          simp only [List.nil_append, List.mem_singleton, exists_eq_left]
          constructor
          · intro hb
            obtain rfl : x = n := by omega
            exact ⟨by omega, hS⟩
          · rintro ⟨hx, hxS⟩
            by_cases hxn : x = n
            · subst hxn; omega
            · obtain ⟨q, hq, _⟩ := h2x.2 ⟨by omega, hxS⟩
              simp at hq
    · rw [if_neg hS]
      refine ⟨fun q hq => by have := h1 q hq; omega, fun x => ?_⟩
      rw [h2 x]
      constructor
      · rintro ⟨a, b⟩; exact ⟨by omega, b⟩
      · rintro ⟨a, b⟩
        by_cases hxn : x = n
        · subst hxn; exact absurd b hS
        · exact ⟨by omega, b⟩

theorem rangesTo_half (S : Bs) (n : Nat) : 2 * (rangesTo S n).length ≤ n + 1 ∧ ((∀ r, (rangesTo S n).getLast? = some r → r.2 ≠ (n : Int) - 1) → 2 * (rangesTo S n).length ≤ n) := by
  induction n with
  | zero => simp [rangesTo]
  | succ n ih =>
    obtain ⟨h1, h2⟩ := ih
    unfold rangesTo
    by_cases hS : S n = true
    · rw [if_pos hS]
      split
      · rename_i r hr
        obtain ⟨a, ha⟩ : ∃ a, rangesTo S n = a ++ [r] := List.getLast?_eq_some_iff.1 hr
        split
        · rename_i he
          refine ⟨by rw [ha] at h1 ⊢; simp at h1 ⊢; omega, fun h => ?_⟩
          have := h (r.1, (n : Int)) (by rw [ha]; simp)
          simp at this
        · rename_i he
          have h3 := h2 (fun q hq => by rw [hr] at hq; simp at hq; subst hq; exact he)
          refine ⟨by simp; omega, fun h => ?_⟩
          have := h ((n : Int), (n : Int)) (by simp)
          simp at this
      · rename_i hr
        have hn : rangesTo S n = [] := List.getLast?_eq_none_iff.1 hr
        rw [hn]
        refine ⟨by simp, fun h => ?_⟩
        have := h ((n : Int), (n : Int)) (by simp)
        simp at this
    · rw [if_neg hS]
      exact ⟨by omega, fun _ => h1⟩

theorem ranges_len (S : Bs) : (ranges S).length ≤ 128 := by have := (rangesTo_half S 256).1; unfold ranges; omega
theorem ranges_ok (S : Bs) : okR (ranges S) = true := by
  unfold okR
  rw [List.all_eq_true]
  intro r hr
  have := (rgTo_mem S 256).1 r hr
  simp; omega
theorem ranges_un (S : Bs) : ranges (unS (ranges S)) = ranges S := by
  unfold ranges
  apply rangesTo_congr
  intro x hx
  have h := (rgTo_mem S 256).2 x
  unfold unS
  cases hS : S x with
  | true =>
    rw [List.any_eq_true]
    obtain ⟨r, hr, hb⟩ := h.2 ⟨hx, hS⟩
    exact ⟨r, hr, by simp; omega⟩
  | false =>
    rw [List.any_eq_false]
    intro r hr hb
    have := (h.1 ⟨r, hr, by simpa using hb⟩).2
    rw [hS] at this; cases this

/-- Pieces that stand in others from a place on. -/
def Seg (ps : List Pc) (n : Nat) (qs : List Pc) : Prop := ∀ (j : Nat) (x : Pc), qs[j]? = some x → ps[n + j]? = some x
theorem Seg.left {ps a b : List Pc} {n : Nat} (h : Seg ps n (a ++ b)) : Seg ps n a := fun j x hj => h j x (by
  obtain ⟨hl, _⟩ := List.getElem?_eq_some_iff.1 hj
  rw [List.getElem?_append_left hl]; exact hj)
theorem Seg.right {ps a b : List Pc} {n : Nat} (h : Seg ps n (a ++ b)) : Seg ps (n + a.length) b := fun j x hj => by
  have := h (a.length + j) x (by rw [List.getElem?_append_right (by omega)]; simpa using hj)
  rwa [← Nat.add_assoc] at this

/-- A part of a pattern whose text is known. -/
def Wr (f : Pf) : Prop := ∃ t : Tx, ∀ n, 1 ≤ (f n).length ∧ ∀ ps, Seg ps n (f n) →
  (∀ fu, n + (f n).length ≤ fu → growRef ps fu (n + (f n).length) = some (t, n)) ∧ wr ps (n + (f n).length - 1) = t

theorem kidsW (k : Nat) : ∀ fs : List Pf, fs.length = k → (∀ f ∈ fs, Wr f) → ∃ ts : List Tx, ts.length = fs.length ∧ ∀ n, fs.length ≤ (cat fs n).length ∧ ∀ ps, Seg ps n (cat fs n) →
    (∀ fu acc, n + (cat fs n).length ≤ fu → growKidsRef (growRef ps fu) (ends fs n).reverse (n + (cat fs n).length) acc = some (ts ++ acc, n)) ∧
    (∀ N, n + (cat fs n).length ≤ N → (ends fs n).map (wrs ps N) = ts) := by
  induction k with
  | zero =>
    intro fs hk _
    obtain rfl := List.eq_nil_of_length_eq_zero hk
    exact ⟨[], rfl, fun n => ⟨by simp, fun ps _ => ⟨fun fu acc _ => by simp [ends, cat, growKidsRef], fun N _ => by simp [ends]⟩⟩⟩
  | succ k ih =>
    intro fs hk hF
    rcases List.eq_nil_or_concat fs with rfl | ⟨gs, f, rfl⟩
    · simp at hk
    · rw [List.concat_eq_append] at hk hF ⊢
      obtain ⟨ts, hts, H⟩ := ih gs (by simpa using hk) (fun g hg => hF g (by simp [hg]))
      obtain ⟨t, Ht⟩ := hF f (by simp)
      refine ⟨ts ++ [t], by simp [hts], fun n => ?_⟩
      obtain ⟨hl, H1⟩ := H n
      obtain ⟨hl2, H2⟩ := Ht (n + (cat gs n).length)
      rw [cat_snoc, ends_snoc]
      refine ⟨by simp; omega, fun ps hs => ?_⟩
      obtain ⟨g1, w1⟩ := H1 ps hs.left
      obtain ⟨g2, w2⟩ := H2 ps hs.right
      refine ⟨fun fu acc hfu => ?_, fun N hN => ?_⟩
      · rw [List.length_append] at hfu ⊢
        rw [List.reverse_append]
        simp only [List.reverse_cons, List.reverse_nil, List.nil_append, List.singleton_append, growKidsRef]
        rw [if_neg (by omega), ← Nat.add_assoc, g2 fu (by omega)]
        simp only
        rw [g1 fu (t :: acc) (by omega)]
        simp
      · rw [List.length_append] at hN
        rw [List.map_append, w1 N (by omega)]
        simp only [List.map_cons, List.map_nil]
        have e : ((n : Int) + (cat gs n).length + (f (n + (cat gs n).length)).length - 1) = ((n + (cat gs n).length + (f (n + (cat gs n).length)).length - 1 : Nat) : Int) := by omega
        rw [e, wrs_below ps (by omega), w2]

theorem seg_last {ps a : List Pc} {n : Nat} {x : Pc} (h : Seg ps n (a ++ [x])) : ps[n + a.length]? = some x := by
  have := h.right 0 x (by simp)
  simpa using this

theorem Wr.leaf {f : Pf} {x : Pc} {t : Tx} (hf : ∀ n, f n = [x]) (hk : x.kids = []) (h1 : nodeTxt x [] = some t) (h2 : ∀ g, body x g = t) : Wr f := by
  refine ⟨t, fun n => ?_⟩
  rw [hf n]
  refine ⟨by simp, fun ps hs => ?_⟩
  have hx := seg_last (a := []) hs
  simp only [List.length_nil, Nat.add_zero] at hx
  refine ⟨fun fu hfu => ?_, ?_⟩
  · obtain ⟨fu, rfl⟩ : ∃ k, fu = k + 1 := ⟨fu - 1, by simp at hfu; omega⟩
    simp [growRef, hx, hk, growKidsRef, h1]
  · have e : n + [x].length - 1 = n := by simp
    rw [e, wr_body hx, h2]

theorem Wr.kids {f : Pf} {fs : List Pf} {K : Int} {T : List Tx → Tx} (hf : ∀ n, f n = cat fs n ++ [kidsPc K (ends fs n)]) (hF : ∀ f ∈ fs, Wr f) (h1 : ∀ ks ts, nodeTxt (kidsPc K ks) ts = some (T ts)) (h2 : ∀ ks g, body (kidsPc K ks) g = T (ks.map g)) : Wr f := by
  obtain ⟨ts, hts, H⟩ := kidsW _ fs rfl hF
  refine ⟨T ts, fun n => ?_⟩
  obtain ⟨hl, H1⟩ := H n
  have hlen : (ends fs n).length = fs.length := by
    clear hts H H1 hl hF hf
    induction fs generalizing n with
    | nil => rfl
    | cons f fs ih => simp [ends, ih]
  rw [hf n]
  refine ⟨by simp, fun ps hs => ?_⟩
  have hx := seg_last hs
  obtain ⟨g1, w1⟩ := H1 ps hs.left
  refine ⟨fun fu hfu => ?_, ?_⟩
  · obtain ⟨fu, rfl⟩ : ∃ k, fu = k + 1 := ⟨fu - 1, by simp at hfu; omega⟩
    have e : n + (cat fs n ++ [kidsPc K (ends fs n)]).length - 1 = n + (cat fs n).length := by simp
    simp only [growRef]
    rw [e, hx]
    simp only
    have hk : (kidsPc K (ends fs n)).kids = ends fs n := rfl
    rw [hk, if_neg (by omega), g1 fu [] (by simp at hfu; omega)]
    simp [h1]
  · have e : n + (cat fs n ++ [kidsPc K (ends fs n)]).length - 1 = n + (cat fs n).length := by simp
    rw [e, wr_body hx, h2, w1 _ (Nat.le_refl _)]

theorem Wr.over {f g : Pf} {T : Tx → Tx} {X : Int → Pc} (hf : ∀ n, f n = g n ++ [X ((n : Int) + (g n).length - 1)]) (hg : Wr g) (hk : ∀ k, (X k).kids = [k]) (h1 : ∀ k t, nodeTxt (X k) [t] = some (T t)) (h2 : ∀ k h, body (X k) h = T (h k)) : Wr f := by
  obtain ⟨t, H⟩ := hg
  refine ⟨T t, fun n => ?_⟩
  obtain ⟨hl, H1⟩ := H n
  rw [hf n]
  refine ⟨by simp, fun ps hs => ?_⟩
  have hx := seg_last hs
  obtain ⟨g1, w1⟩ := H1 ps hs.left
  have e : n + (g n ++ [X ((n : Int) + (g n).length - 1)]).length - 1 = n + (g n).length := by simp
  refine ⟨fun fu hfu => ?_, ?_⟩
  · obtain ⟨fu, rfl⟩ : ∃ k, fu = k + 1 := ⟨fu - 1, by simp at hfu; omega⟩
    simp only [growRef]
    rw [e, hx]
    simp only
    rw [hk, if_neg (by simp only [List.length_cons, List.length_nil]; omega)]
    simp only [List.reverse_cons, List.reverse_nil, List.nil_append, growKidsRef]
    rw [if_neg (by omega), g1 fu (by simp at hfu; omega)]
    simp [h1]
  · have e2 : ((n : Int) + (g n).length - 1) = ((n + (g n).length - 1 : Nat) : Int) := by omega
    rw [e, wr_body hx, h2, e2, wrs_below ps (by omega), w1]

theorem wr_all {f : Pf} (h : Fm f) : Wr f :=
  h Wr ⟨fun S => Wr.leaf (x := setPc S) (t := rsTxt (ranges S)) (fun _ => rfl) rfl (by simp [nodeTxt, setPc, ranges_ok, ranges_un]) (fun g => by simp [body, setPc]),
    Wr.leaf (t := [94]) (fun _ => rfl) rfl (by simp [nodeTxt]) (fun g => by simp [body]),
    Wr.leaf (t := [36]) (fun _ => rfl) rfl (by simp [nodeTxt]) (fun g => by simp [body]),
    fun fs hF => Wr.kids (K := 2) (T := List.flatten) (fun _ => rfl) hF (fun ks ts => by simp [nodeTxt, kidsPc]) (fun ks g => by simp [body, kidsPc, List.flatMap_def]),
    fun fs hF => Wr.kids (K := 3) (T := barTxt) (fun _ => rfl) hF (fun ks ts => by simp [nodeTxt, kidsPc]) (fun ks g => by simp [body, kidsPc]),
    fun f lo hi lz h0 _ h2 _ hf => Wr.over (T := fun t => t ++ cntTxt lo hi lz) (X := fun k => { kind := 4, set := [], min := lo, max := hi, lazy := lz, num := 0, kids := [k] }) (fun _ => rfl) hf (fun _ => rfl) (fun k t => by simp [nodeTxt]) (fun k g => by simp [body, cnt_same lz h0 h2]),
    fun f num hf => Wr.over (T := fun t => 40 :: (t ++ [41])) (X := fun k => { kind := 5, set := [], min := 0, max := 0, lazy := false, num := num, kids := [k] }) (fun _ => rfl) hf (fun _ => rfl) (fun k t => by simp [nodeTxt]) (fun k g => by simp [body])⟩

/-- The marks behind a part: all its pieces but the last. -/
def mkf (n len : Nat) (mk : Nat → Bool) : Nat → Bool := fun y => if n ≤ y ∧ y + 1 < n + len then true else mk y
def mkc : List Pf → Nat → (Nat → Bool) → Nat → Bool
  | [], _, mk => mk
  | f :: fs, n, mk => mkc fs (n + (f n).length) (mkf n (f n).length mk)
def Sn (f : Pf) : Prop := ∀ n xs mk, 1 ≤ (f n).length ∧ ((∀ y, n ≤ y → mk y = false) → saneLoop (f n ++ xs) n mk = saneLoop xs (n + (f n).length) (mkf n (f n).length mk))

theorem mkc_below (fs : List Pf) (n : Nat) (mk : Nat → Bool) (y : Nat) (h : y < n) : mkc fs n mk y = mk y := by
  induction fs generalizing n mk with
  | nil => rfl
  | cons f fs ih =>
    simp only [mkc]
    rw [ih _ _ (by omega)]
    simp only [mkf]
    rw [if_neg (by omega)]
theorem mark_mkf (n len : Nat) (mk : Nat → Bool) (k : Nat) (h : k < n) : mark (mkf n len mk) k = mkf n len (mark mk k) := by
  funext y
  simp only [mark, mkf]
  by_cases e : y = k
  · simp [e]
  · simp [e]
theorem mark_mkc (fs : List Pf) (n : Nat) (mk : Nat → Bool) (k : Nat) (h : k < n) : mark (mkc fs n mk) k = mkc fs n (mark mk k) := by
  induction fs generalizing n mk with
  | nil => rfl
  | cons f fs ih =>
    simp only [mkc]
    rw [ih _ _ (by omega), mark_mkf _ _ _ _ h]
def mka (n len : Nat) (mk : Nat → Bool) : Nat → Bool := fun y => if n ≤ y ∧ y < n + len then true else mk y
theorem markKids_ends (fs : List Pf) (hF : ∀ f ∈ fs, Sn f) : ∀ (n i : Nat) (mk : Nat → Bool), (∀ y, n ≤ y → mk y = false) → n + (cat fs n).length ≤ i → markKids i (ends fs n) (mkc fs n mk) = some (mka n (cat fs n).length mk) := by
  induction fs with
  | nil =>
    intro n i mk h hi
    simp only [ends, mkc, markKids, cat]
    congr 1
    funext y
    simp only [mka]
    rw [if_neg (by simp <;> omega)]
  | cons f fs ih =>
    intro n i mk h hi
    have hl := (hF f (by simp) n [] mk).1
    simp only [ends, mkc, cat, List.length_append, markKids] at hi ⊢
    have e : ((n : Int) + (f n).length - 1).toNat = n + (f n).length - 1 := by omega
    have hm : mkc fs (n + (f n).length) (mkf n (f n).length mk) (n + (f n).length - 1) = false := by
      rw [mkc_below _ _ _ _ (by omega)]
      simp only [mkf]
      rw [if_neg (by omega), h _ (by omega)]
    rw [e, if_neg (by rw [hm]; simp; omega), mark_mkc _ _ _ _ (by omega)]
    have e2 : mark (mkf n (f n).length mk) (n + (f n).length - 1) = mka n (f n).length mk := by
      funext y
      simp only [mark, mkf, mka]
      by_cases h1 : y = n + (f n).length - 1
      · rw [if_pos h1, if_pos (by omega)]
      · rw [if_neg h1]
        by_cases h2 : n ≤ y ∧ y + 1 < n + (f n).length
        · rw [if_pos h2, if_pos (by omega)]
        · rw [if_neg h2, if_neg (by omega)]
    rw [e2, ih (fun g hg => hF g (by simp [hg])) (n + (f n).length) i _ (fun y hy => by simp only [mka]; rw [if_neg (by omega), h y (by omega)]) (by omega)]
    congr 1
    funext y
    simp only [mka]
    by_cases h1 : n + (f n).length ≤ y ∧ y < n + (f n).length + (cat fs (n + (f n).length)).length
    · rw [if_pos h1, if_pos (by omega)]
    · rw [if_neg h1]
      by_cases h2 : n ≤ y ∧ y < n + (f n).length
      · rw [if_pos h2, if_pos (by omega)]
      · rw [if_neg h2, if_neg (by omega)]

theorem sane_cat (fs : List Pf) (hF : ∀ f ∈ fs, Sn f) : ∀ (n : Nat) (xs : List Pc) (mk : Nat → Bool), (∀ y, n ≤ y → mk y = false) → saneLoop (cat fs n ++ xs) n mk = saneLoop xs (n + (cat fs n).length) (mkc fs n mk) := by
  induction fs with
  | nil => intro n xs mk h; simp [cat, mkc]
  | cons f fs ih =>
    intro n xs mk h
    obtain ⟨hl, h1⟩ := hF f (by simp) n (cat fs (n + (f n).length) ++ xs) mk
    simp only [cat, mkc]
    rw [List.append_assoc, h1 h, ih (fun g hg => hF g (by simp [hg])) _ _ _ (fun y hy => by simp only [mkf]; rw [if_neg (by omega), h y (by omega)])]
    rw [List.length_append, Nat.add_assoc]

theorem mka_mkf (n len : Nat) (mk : Nat → Bool) : mka n len mk = mkf n (len + 1) mk := by
  funext y
  simp only [mka, mkf]
  by_cases h : n ≤ y ∧ y < n + len
  · rw [if_pos h, if_pos (by omega)]
  · rw [if_neg h, if_neg (by omega)]

theorem Sn.kids {f : Pf} {fs : List Pf} {K : Int} (hf : ∀ n, f n = cat fs n ++ [kidsPc K (ends fs n)]) (hK : K = 2 ∨ K = 3) (hF : ∀ f ∈ fs, Sn f) : Sn f := by
  intro n xs mk
  rw [hf n]
  refine ⟨by simp, fun h => ?_⟩
  rw [List.append_assoc, sane_cat fs hF n _ mk h, List.singleton_append]
  simp only [saneLoop]
  rw [if_neg (by unfold headBad kidsPc; simp; omega)]
  have hk : (kidsPc K (ends fs n)).kids = ends fs n := rfl
  rw [hk, markKids_ends fs hF n _ mk h (Nat.le_refl _)]
  simp only
  rw [if_pos (by simp [kidsPc, okR]), mka_mkf, List.length_append]
  rfl

theorem Sn.leaf {f : Pf} {x : Pc} (hf : ∀ n, f n = [x]) (hk : x.kids = []) (hb : ¬ headBad x) (hr : okR x.set = true) : Sn f := by
  intro n xs mk
  rw [hf n]
  refine ⟨by simp, fun h => ?_⟩
  simp only [List.singleton_append, saneLoop]
  rw [if_neg hb, hk]
  simp only [markKids]
  rw [if_pos hr]
  congr 1
  funext y
  simp only [mkf]
  rw [if_neg (by simp <;> omega)]

theorem Sn.over {f g : Pf} {X : Int → Pc} (hf : ∀ n, f n = g n ++ [X ((n : Int) + (g n).length - 1)]) (hg : Sn g) (hk : ∀ k, (X k).kids = [k]) (hb : ∀ k, ¬ headBad (X k)) (hr : ∀ k, okR (X k).set = true) : Sn f := by
  intro n xs mk
  rw [hf n]
  obtain ⟨hl, h1⟩ := hg n (X ((n : Int) + (g n).length - 1) :: xs) mk
  refine ⟨by simp, fun h => ?_⟩
  rw [List.append_assoc, List.singleton_append, h1 h]
  simp only [saneLoop]
  rw [if_neg (hb _), hk]
  simp only [markKids]
  have e : ((n : Int) + (g n).length - 1).toNat = n + (g n).length - 1 := by omega
  have hm : mkf n (g n).length mk (n + (g n).length - 1) = false := by
    simp only [mkf]
    rw [if_neg (by omega), h _ (by omega)]
  rw [e, if_neg (by rw [hm]; simp; omega)]
  simp only
  rw [if_pos (hr _), List.length_append]
  have e2 : mark (mkf n (g n).length mk) (n + (g n).length - 1) = mkf n ((g n).length + [X ((n : Int) + (g n).length - 1)].length) mk := by
    funext y
    simp only [mark, mkf, List.length_cons, List.length_nil]
    by_cases h1 : y = n + (g n).length - 1
    · rw [if_pos h1, if_pos (by omega)]
    · rw [if_neg h1]
      by_cases h2 : n ≤ y ∧ y + 1 < n + (g n).length
      · rw [if_pos h2, if_pos (by omega)]
      · rw [if_neg h2, if_neg (by omega)]
  rw [e2]
  rfl

theorem sn_all {f : Pf} (h : Fm f) : Sn f :=
  h Sn ⟨fun S => Sn.leaf (x := setPc S) (fun _ => rfl) rfl (by have := ranges_len S; simp [headBad, setPc]; omega) (ranges_ok S),
    Sn.leaf (fun _ => rfl) rfl (by simp [headBad]) (by simp [okR]), Sn.leaf (fun _ => rfl) rfl (by simp [headBad]) (by simp [okR]),
    fun fs hF => Sn.kids (K := 2) (fun _ => rfl) (Or.inl rfl) hF, fun fs hF => Sn.kids (K := 3) (fun _ => rfl) (Or.inr rfl) hF,
    fun f lo hi lz h0 h1 h2 h3 hf => Sn.over (X := fun k => { kind := 4, set := [], min := lo, max := hi, lazy := lz, num := 0, kids := [k] }) (fun _ => rfl) hf (fun _ => rfl) (fun k => by simp [headBad]; omega) (fun k => by simp [okR]),
    fun f num hf => Sn.over (X := fun k => { kind := 5, set := [], min := 0, max := 0, lazy := false, num := num, kids := [k] }) (fun _ => rfl) hf (fun _ => rfl) (fun k => by simp [headBad]) (fun k => by simp [okR])⟩

/-- What is read from a text: both sides write it alike. -/
theorem read_write {s : ByteArray} {g : Nat} {ps : List Pc} (h : readRef s = .ok (g, ps)) : ∃ t, treeTxt ps = some t ∧ wr ps (ps.length - 1) = t ∧ sane true ps = true := by
  obtain ⟨f, hf, rfl, h1, h2⟩ := readRef_fm h
  obtain ⟨t, Ht⟩ := wr_all hf
  obtain ⟨hl, H⟩ := Ht 0
  obtain ⟨g1, w1⟩ := H (f 0) (fun j x hj => by simpa using hj)
  have hs := (sn_all hf 0 [] (fun _ => false)).2 (fun _ _ => rfl)
  refine ⟨t, ?_, by simpa using w1, ?_⟩
  · unfold treeTxt
    rw [if_neg (by omega)]
    have := g1 (f 0).length (by omega)
    rw [Nat.zero_add] at this
    rw [this]
    simp
  · unfold sane
    rw [List.append_nil] at hs
    rw [hs]
    simp only [saneLoop, Bool.and_true, Bool.true_and, Bool.and_eq_true, decide_eq_true_eq]; omega

/-- The text that comes back, by the program and by the specification. -/
def Gi (ok : Bool) (at_ gr : Int) (ps : List Pc) (t : Tx) : Prop := treeTxt ps = some t ∧ (∃ g : Nat, readRef (tb t) = .ok (g, ps) ∧ gr = g) ∧ ok = true ∧ at_ = 0
def Gs (ok : Bool) (at_ gr : Int) (ps : List Pc) (t : Tx) : Prop := sane ok ps = true ∧ t = wr ps (ps.length - 1) ∧ (∃ g : Nat, readRef (tb t) = .ok (g, ps) ∧ gr = g) ∧ at_ = 0
theorem gi_gs (ok : Bool) (at_ gr : Int) (ps : List Pc) (t : Tx) : Gi ok at_ gr ps t ↔ Gs ok at_ gr ps t := by
  constructor
  · rintro ⟨h1, ⟨g, h2, h3⟩, h4, h5⟩
    obtain ⟨t', a, b, c⟩ := read_write h2
    rw [h1] at a
    simp at a
    subst h4
    exact ⟨c, by rw [a, b], ⟨g, h2, h3⟩, h5⟩
  · rintro ⟨h1, h2, ⟨g, h3, h4⟩, h5⟩
    obtain ⟨t', a, b, c⟩ := read_write h3
    refine ⟨by rw [a, h2, b], ⟨g, h3, h4⟩, ?_, h5⟩
    unfold sane at h1
    cases ok
    · simp at h1
    · rfl

end Go.Proofs.YtmlgmhnplicflaaGreatDoor

/-
  How long the written texts are; what a sound list of pieces says of each.
-/
namespace Go.Proofs.YtmlgmhnplicflaaGreatDoor
set_option linter.unusedVariables false

def B64 (x : Int) : Prop := -9223372036854775808 ≤ x ∧ x ≤ 9223372036854775807

theorem rgs_len (rs : List (Int × Int)) : (rs.flatMap rgTxt).length ≤ 9 * rs.length := by
  induction rs with
  | nil => simp
  | cons r rs ih =>
    rw [List.flatMap_cons, List.length_append, List.length_cons]
    have h1 := esc4 r.1
    have h2 := esc4 r.2
    have : (rgTxt r).length ≤ 9 := by
      unfold rgTxt
      split
      · simp; omega
      · simp; omega
    omega
theorem rsTxt_len (rs : List (Int × Int)) : (rsTxt rs).length ≤ 12 + 9 * rs.length := by
  unfold rsTxt
  split
  · have := esc4 ‹Int›; omega
  · split
    · simp [noTxt]
    · have := rgs_len rs
      simp only [List.length_cons, List.length_append, List.length_nil]; omega
theorem lz_len (lz : Bool) : (lzTxt lz).length ≤ 1 := by cases lz <;> simp [lzTxt]
theorem cntTxt_len {lo hi : Int} (lz : Bool) (h1 : B64 lo) (h2 : B64 hi) : (cntTxt lo hi lz).length ≤ 50 := by
  have a := Lib.itoa_length_le lo h1.1 h1.2
  have b := Lib.itoa_length_le hi h2.1 h2.2
  have c := lz_len lz
  unfold cntTxt
  split
  · simp; omega
  · split
    · simp; omega
    · simp; omega
theorem cntTxtS_len {lo hi : Int} (lz : Bool) (h1 : B64 lo) (h2 : B64 hi) : (cntTxtS lo hi lz).length ≤ 50 := by
  have a := Lib.itoa_length_le lo h1.1 h1.2
  have b := Lib.itoa_length_le hi h2.1 h2.2
  have c := lz_len lz
  unfold cntTxtS
  split
  · simp; omega
  · split
    · simp; omega
    · simp; omega

def sum1 (ts : List Tx) : Nat := (ts.map fun t => t.length + 1).sum
theorem sum1_cons (t : Tx) (ts : List Tx) : sum1 (t :: ts) = t.length + 1 + sum1 ts := by simp [sum1]
theorem sum1_append (a b : List Tx) : sum1 (a ++ b) = sum1 a + sum1 b := by simp [sum1]
theorem flat_le (ts : List Tx) : ts.flatten.length ≤ sum1 ts := by
  induction ts with
  | nil => simp [sum1]
  | cons t ts ih => rw [sum1_cons]; simp only [List.flatten_cons, List.length_append]; omega
theorem bars_le (ts : List Tx) : (ts.flatMap (124 :: ·)).length ≤ sum1 ts := by
  induction ts with
  | nil => simp [sum1]
  | cons t ts ih => rw [sum1_cons]; simp only [List.flatMap_cons, List.length_append, List.length_cons]; omega
theorem bar_le (ts : List Tx) : (barTxt ts).length ≤ sum1 ts := by
  cases ts with
  | nil => simp [barTxt]
  | cons t ts => rw [sum1_cons]; have := bars_le ts; simp only [barTxt, List.length_append]; omega

theorem nodeTxt_len {p : Pc} {ts : List Tx} {t : Tx} (h1 : B64 p.min) (h2 : B64 p.max) (h : nodeTxt p ts = some t) : t.length + 1 ≤ sum1 ts + 2500 := by
  unfold nodeTxt at h
  split at h
  · split at h
    · simp at h; subst h
      have := rsTxt_len (ranges (unS p.set))
      have := ranges_len (unS p.set)
      omega
    · simp at h
  · split at h
    · simp at h; subst h
      have := flat_le ts; omega
    · split at h
      · simp at h; subst h
        have := bar_le ts; omega
      · split at h
        · split at h
          · simp at h; subst h
            have := cntTxt_len p.lazy h1 h2
            rw [sum1_cons, List.length_append]; omega
          · simp at h
        · split at h
          · split at h
            · simp at h; subst h
              rw [sum1_cons]; simp; omega
            · simp at h
          · split at h
            · simp at h; subst h; simp
            · split at h
              · simp at h; subst h; simp
              · simp at h

theorem growKids_len {grow : Nat → Option (Tx × Nat)} (hg : ∀ l t l2, 1 ≤ l → grow l = some (t, l2) → l2 + 1 ≤ l ∧ t.length + 1 ≤ 3000 * (l - l2)) :
    ∀ (ks : List Int) (l : Nat) (acc ts : List Tx) (l2 : Nat), growKidsRef grow ks l acc = some (ts, l2) → l2 ≤ l ∧ ts.length = ks.length + acc.length ∧ sum1 ts ≤ 3000 * (l - l2) + sum1 acc := by
  intro ks
  induction ks with
  | nil => intro l acc ts l2 h; simp [growKidsRef] at h; obtain ⟨rfl, rfl⟩ := h; simp
  | cons k ks ih =>
    intro l acc ts l2 h
    simp only [growKidsRef] at h
    split at h
    · simp at h
    · rename_i hc
      split at h
      · simp at h
      · rename_i t l1 hgr
        have a := hg l t l1 (by omega) hgr
        have b := ih l1 (t :: acc) ts l2 h
        rw [sum1_cons] at b
        simp only [List.length_cons] at b ⊢
        exact ⟨by omega, by omega, by omega⟩

theorem grow_len {ps : List Pc} (hp : ∀ x ∈ ps, B64 x.min ∧ B64 x.max) : ∀ (fu l : Nat) (t : Tx) (l2 : Nat), 1 ≤ l → growRef ps fu l = some (t, l2) → l2 + 1 ≤ l ∧ t.length + 1 ≤ 3000 * (l - l2) := by
  intro fu
  induction fu with
  | zero => intro l t l2 _ h; simp [growRef] at h
  | succ fu ih =>
    intro l t l2 hl h
    simp only [growRef] at h
    split at h
    · simp at h
    · rename_i p hpp
      split at h
      · simp at h
      · split at h
        · simp at h
        · rename_i ts l1 hk
          split at h
          · simp at h
          · rename_i t1 hn
            simp only [Option.some.injEq, Prod.mk.injEq] at h
            obtain ⟨e1, e2⟩ := h
            subst e1 e2
            have a := growKids_len (fun l t l2 h1 h2 => ih l t l2 h1 h2) _ _ _ _ _ hk
            have hm := hp p (List.mem_of_getElem? hpp)
            have b := nodeTxt_len hm.1 hm.2 hn
            simp only [sum1, List.map_nil, List.sum_nil, Nat.add_zero] at a b
            exact ⟨by omega, by omega⟩

/-- What a sound list says of each piece. -/
theorem markKids_mem {i : Nat} {ks : List Int} {mk mk' : Nat → Bool} (h : markKids i ks mk = some mk') : ∀ k ∈ ks, 0 ≤ k ∧ k < (i : Int) := by
  induction ks generalizing mk with
  | nil => simp
  | cons k ks ih =>
    simp only [markKids] at h
    split at h
    · simp at h
    · rename_i hc
      intro x hx
      rcases List.mem_cons.1 hx with rfl | hx
      · omega
      · exact ih h x hx
theorem saneLoop_each {xs : List Pc} {i : Nat} {mk : Nat → Bool} (h : saneLoop xs i mk = true) : ∀ (j : Nat) (x : Pc), xs[j]? = some x → ¬ headBad x ∧ okR x.set = true ∧ ∀ k ∈ x.kids, 0 ≤ k ∧ k < ((i + j : Nat) : Int) := by
  induction xs generalizing i mk with
  | nil => intro j x hx; simp at hx
  | cons y xs ih =>
    simp only [saneLoop] at h
    split at h
    · simp at h
    · rename_i hb
      split at h
      · simp at h
      · rename_i mk' hm
        split at h
        · rename_i hr
          intro j x hx
          cases j with
          | zero => simp at hx; subst hx; exact ⟨hb, hr, by simpa using markKids_mem hm⟩
          | succ j =>
            have := ih h j x (by simpa using hx)
            rw [show i + (j + 1) = i + 1 + j from by omega]
            exact this
        · simp at h

def usum (g : Nat → Nat) (mk : Nat → Bool) : Nat → Nat
  | 0 => 0
  | n + 1 => usum g mk n + (if mk n = true then 0 else g n)
theorem usum_mark (g : Nat → Nat) (mk : Nat → Bool) (n k : Nat) (hk : k < n) (h : mk k = false) : usum g (mark mk k) n + g k = usum g mk n := by
  induction n with
  | zero => omega
  | succ n ih =>
    simp only [usum]
    by_cases e : k = n
    · subst e
      have : ∀ m, m ≤ k → usum g (mark mk k) m = usum g mk m := by
        intro m hm
        induction m with
        | zero => rfl
        | succ m ihm =>
          simp only [usum]
          rw [ihm (by omega)]
          have : mark mk k m = mk m := by simp only [mark]; rw [if_neg (by omega)]
          rw [this]
      rw [this k (Nat.le_refl _), h]
      simp [mark]
    · have := ih (by omega)
      have e2 : mark mk k n = mk n := by simp only [mark]; rw [if_neg (by omega)]
      rw [e2]; omega
def ksum (g : Nat → Nat) (ks : List Int) : Nat := (ks.map fun k => g k.toNat).sum
theorem usum_kids (g : Nat → Nat) {i : Nat} {ks : List Int} {mk mk' : Nat → Bool} (h : markKids i ks mk = some mk') : usum g mk' i + ksum g ks = usum g mk i := by
  induction ks generalizing mk with
  | nil => simp [markKids] at h; subst h; simp [ksum]
  | cons k ks ih =>
    simp only [markKids] at h
    split at h
    · simp at h
    · rename_i hc
      have a := ih h
      have b := usum_mark g mk i k.toNat (by omega) (by
        cases hm : mk k.toNat
        · rfl
        · exact absurd (Or.inr (Or.inr hm)) hc)
      simp only [ksum, List.map_cons, List.sum_cons] at a ⊢
      omega

theorem body_len {x : Pc} {h : Int → Tx} (hb : ¬ headBad x) : (body x h).length ≤ 1300 + (x.kids.map fun k => (h k).length + 1).sum := by
  unfold headBad at hb
  unfold body
  split
  · have := rsTxt_len x.set; omega
  · split
    · have := flat_le (x.kids.map h)
      rw [List.flatMap_def]
      simp only [sum1, List.map_map] at this
      simp only [Function.comp_def] at this
      omega
    · split
      · have := bar_le (x.kids.map h)
        simp only [sum1, List.map_map] at this
        simp only [Function.comp_def] at this
        omega
      · split
        · have hl : x.kids.length = 1 := by omega
          obtain ⟨k, hk⟩ := List.length_eq_one_iff.1 hl
          have : (cntTxtS x.min x.max x.lazy).length ≤ 50 := by
            by_cases hm : 0 ≤ x.max
            · exact cntTxtS_len _ ⟨by omega, by omega⟩ ⟨by omega, by omega⟩
            · have a := Lib.itoa_length_le x.min (by omega) (by omega)
              have c := lz_len x.lazy
              unfold cntTxtS
              rw [if_pos (by omega)]
              simp; omega
          rw [hk]
          simp; omega
        · split
          · have hl : x.kids.length = 1 := by omega
            obtain ⟨k, hk⟩ := List.length_eq_one_iff.1 hl
            rw [hk]
            simp; omega
          · split
            · simp; omega
            · simp; omega

theorem wr_len_loop (ps : List Pc) : ∀ (xs : List Pc) (i : Nat) (mk : Nat → Bool), (∀ j x, xs[j]? = some x → ps[i + j]? = some x) → saneLoop xs i mk = true → usum (fun j => (wr ps j).length + 1) mk i ≤ 1301 * i →
    ∀ j, j < xs.length → (wr ps (i + j)).length + 1 ≤ 1301 * (i + j + 1) := by
  intro xs
  induction xs with
  | nil => intro i mk _ _ _ j hj; simp at hj
  | cons x xs ih =>
    intro i mk hx h hu j hj
    simp only [saneLoop] at h
    split at h
    · simp at h
    · rename_i hb
      split at h
      · simp at h
      · rename_i mk' hm
        split at h
        · have hxi : ps[i]? = some x := hx 0 x (by simp)
          have hk := usum_kids (fun j => (wr ps j).length + 1) hm
          have hbl := body_len (h := wrs ps i) hb
          rw [← wr_body hxi] at hbl
          have he : (x.kids.map fun k => (wrs ps i k).length + 1) = x.kids.map fun k => (wr ps k.toNat).length + 1 := by
            apply List.map_congr_left
            intro k hk
            have := markKids_mem hm k hk
            have h3 := wrs_below ps (n := i) (k := k.toNat) (by omega)
            rw [show ((k.toNat : Nat) : Int) = k from by omega] at h3
            rw [h3]
          rw [he] at hbl
          have hg : (wr ps i).length + 1 ≤ 1301 * (i + 1) := by
            simp only [ksum] at hk
            omega
          cases j with
          | zero => exact hg
          | succ j =>
            have := ih (i + 1) mk' (fun j y hy => by
              have := hx (j + 1) y (by simpa using hy)
              rw [show i + 1 + j = i + (j + 1) from by omega]; exact this) h (by
              simp only [usum, ksum] at hk ⊢
              split
              · omega
              · omega) j (by simpa using hj)
            rw [show i + (j + 1) = i + 1 + j from by omega]
            exact this
        · simp at h

/-- What is known of a sound list of pieces. -/
structure Sane (ps : List Pc) : Prop where
  pos : 0 < ps.length
  few : ps.length ≤ 480
  head : ∀ (j : Nat) (x : Pc), ps[j]? = some x → ¬ headBad x
  rs : ∀ (j : Nat) (x : Pc), ps[j]? = some x → okR x.set = true
  kids : ∀ (j : Nat) (x : Pc), ps[j]? = some x → ∀ k ∈ x.kids, 0 ≤ k ∧ k < (j : Int)
  len : ∀ j, j < ps.length → (wr ps j).length ≤ 1301 * (j + 1)
theorem sane_facts {ok : Bool} {ps : List Pc} (h : sane ok ps = true) : Sane ps := by
  unfold sane at h
  simp only [Bool.and_eq_true, decide_eq_true_eq] at h
  obtain ⟨⟨⟨_, h1⟩, h2⟩, h3⟩ := h
  have he := saneLoop_each h3
  refine ⟨by omega, h2, fun j x hx => (he j x hx).1, fun j x hx => (he j x hx).2.1, fun j x hx => by simpa using (he j x hx).2.2, fun j hj => ?_⟩
  have := wr_len_loop ps ps 0 _ (fun j x hx => by simpa using hx) h3 (by simp [usum]) j hj
  simp only [Nat.zero_add] at this
  omega

theorem treeTxt_len {ps : List Pc} {t : Tx} (hp : ∀ x ∈ ps, B64 x.min ∧ B64 x.max) (h : treeTxt ps = some t) : t.length ≤ 720000 := by
  unfold treeTxt at h
  split at h
  · simp at h
  · rename_i hc
    split at h
    · rename_i t1 l2 hg
      split at h
      · simp at h; subst h
        have := grow_len hp _ _ _ _ (by omega) hg
        omega
      · simp at h
    · simp at h

end Go.Proofs.YtmlgmhnplicflaaGreatDoor
