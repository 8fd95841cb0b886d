/- Plain facts, several texts in one: BookAlive, BookTight, SpellMath, MeterMath, MeterSt, StretchMath, StretchOn, DutyMath, DutyLax, DutyList. Conditions: none beyond each lemma's own premises. -/
import Derived.Test.YtlbafgdbemhanaaRows
import Derived.Test.YtlbafgdbemhanaaBase
import Derived.Test.YtlbafgdbemhanaaZ2
import Derived.Test.YtlbafgdbemhanaaBookLeaf
import Derived.Test.YtlbafgdbemhanaaBookNum
import Derived.Test.YtlbafgdbemhanaaBookOrd
import Derived.Test.YtlbafgdbemhanaaBookLim
import Derived.WalkKit
import Derived.WalkSpells
import Derived.WalkSmall
import Derived.Below
import Derived.Lib.Hide
import Derived.Outline
import Derived.Great.BuildSlice
import Derived.BigQuiet
import Derived.Deep.QuietTactic
import Derived.Deep.RegionHeld3
import Derived.Laws.BitsAllLaws
import Derived.KernelRfl
import Derived.Test.YtlbafgdbemhanaaZ1

/- The examples of layer 7 hold in every world. Conditions: none. -/
namespace Go.Proofs.Ytlbafgdbemhanaa
open Go.RowKit

theorem may_eu : May euV := by
  refine ⟨fun i hi => ?_, by unfold Ord; decide⟩
  have : i = 0 ∨ i = 1 ∨ i = 2 ∨ i = 3 ∨ i = 4 ∨ i = 5 ∨ i = 6 ∨ i = 7 ∨ i = 8 ∨ i = 9 ∨ i = 10 ∨ i = 11 ∨ i = 12 ∨ i = 13 ∨ i = 14 ∨ i = 15 ∨ i = 16 ∨ i = 17 ∨ i = 18 := by omega
  rcases this with rfl | rfl | rfl | rfl | rfl | rfl | rfl | rfl | rfl | rfl | rfl | rfl | rfl | rfl | rfl | rfl | rfl | rfl | rfl <;> (unfold lim; decide)

end Go.Proofs.Ytlbafgdbemhanaa

/- What Tighter of layer 7 and the document's own return, for any two books. Conditions: none. -/
namespace Go.Proofs.Ytlbafgdbemhanaa
open Go.RowKit

/-- Must this number be the same? -/
def sm (i : Nat) : Bool := i == 1 || i == 2 || i == 3 || i == 7 || i == 8 || i == 10 || i == 12 || i == 13 || i == 18
/-- The first book is nowhere laxer. -/
def Tig (x y : Nat → Int) : Prop := (∀ i, i < 19 → sm i = true → x i = y i) ∧ ∀ i, i < 19 → x i ≤ y i

theorem fix_eq {x y : Nat → Int} : eqB (fixV x) (fixV y) = true ↔ ∀ i, i < 19 → sm i = true → x i = y i := by
  rw [eqB_iff]
  constructor
  · intro h i hi
    have hh := h i hi
    have : i = 0 ∨ i = 1 ∨ i = 2 ∨ i = 3 ∨ i = 4 ∨ i = 5 ∨ i = 6 ∨ i = 7 ∨ i = 8 ∨ i = 9 ∨ i = 10 ∨ i = 11 ∨ i = 12 ∨ i = 13 ∨ i = 14 ∨ i = 15 ∨ i = 16 ∨ i = 17 ∨ i = 18 := by omega
    rcases this with rfl | rfl | rfl | rfl | rfl | rfl | rfl | rfl | rfl | rfl | rfl | rfl | rfl | rfl | rfl | rfl | rfl | rfl | rfl <;> first | (intro hs; exact absurd hs (by decide)) | (intro _; exact hh)
  · intro h i hi
    have hh := h i hi
    have : i = 0 ∨ i = 1 ∨ i = 2 ∨ i = 3 ∨ i = 4 ∨ i = 5 ∨ i = 6 ∨ i = 7 ∨ i = 8 ∨ i = 9 ∨ i = 10 ∨ i = 11 ∨ i = 12 ∨ i = 13 ∨ i = 14 ∨ i = 15 ∨ i = 16 ∨ i = 17 ∨ i = 18 := by omega
    rcases this with rfl | rfl | rfl | rfl | rfl | rfl | rfl | rfl | rfl | rfl | rfl | rfl | rfl | rfl | rfl | rfl | rfl | rfl | rfl <;> first | rfl | exact hh (by decide)

theorem Tig.refl (x : Nat → Int) : Tig x x := ⟨fun _ _ _ => rfl, fun _ _ => Int.le_refl _⟩
theorem Tig.trans {x y z : Nat → Int} (h : Tig x y) (k : Tig y z) : Tig x z := ⟨fun i hi hs => (h.1 i hi hs).trans (k.1 i hi hs), fun i hi => Int.le_trans (h.2 i hi) (k.2 i hi)⟩
theorem Tig.same {x y : Nat → Int} (h : Tig x y) (k : Tig y x) : ∀ i, i < 19 → x i = y i := fun i hi => Int.le_antisymm (h.2 i hi) (k.2 i hi)

end Go.Proofs.Ytlbafgdbemhanaa

/- What a spell of rest is worth, in plain words. Conditions: none. -/
namespace Go.Proofs.Ytlbafgdbemhanaa
open Go.RowKit

/-- What a spell counts as. -/
structure Wo where
  brk : Bool
  half : Bool
  part : Bool
  daily : Bool
  red : Bool
  weekly : Bool
  brief : Bool

def Wo.zero : Wo := ⟨false, false, false, false, false, false, false⟩
/-- Its cells. -/
def wo (s : Wo) : Array Value := #[.bool s.brk, .bool s.half, .bool s.part, .bool s.daily, .bool s.red, .bool s.weekly, .bool s.brief]
def Wo.set (s : Wo) (k : Nat) (b : Bool) : Wo := match k with
  | 0 => { s with brk := b }
  | 1 => { s with half := b }
  | 2 => { s with part := b }
  | 3 => { s with daily := b }
  | 4 => { s with red := b }
  | 5 => { s with weekly := b }
  | _ => { s with brief := b }

theorem wo_set (s : Wo) (k : Nat) (b : Bool) (hk : k < 7) : (wo s).setIfInBounds k (.bool b) = wo (s.set k b) := by
  have : k = 0 ∨ k = 1 ∨ k = 2 ∨ k = 3 ∨ k = 4 ∨ k = 5 ∨ k = 6 := by omega
  rcases this with rfl | rfl | rfl | rfl | rfl | rfl | rfl <;> rfl
theorem wo_size (s : Wo) : (wo s).size = 7 := rfl
theorem wo_one (s : Wo) : (wo s).all (·.oneCell') = true := by kernel_rfl

/-- Are they the same, part by part? -/
def Wo.eqB (s u : Wo) : Bool := s.brk == u.brk && (s.half == u.half && (s.part == u.part && (s.daily == u.daily && (s.red == u.red && (s.weekly == u.weekly && s.brief == u.brief)))))
theorem Wo.eqB_self (s : Wo) : s.eqB s = true := by simp [Wo.eqB]

/-- Does a spell of l minutes last n? -/
def lastB (l n : Int) : Bool := decide (n ≤ l)
def ofW (br se fi pa da wk fu rg half split : Bool) : Wo :=
  ⟨br || (half && se), !(br || (half && se)) && (half || fi), !da && pa, da, da && !wk && !split && !rg, wk, wk && !fu⟩
def ofV (x : Nat → Int) (f t dawn : Int) (half split : Bool) : Wo :=
  ofW (lastB (t - f) (x 1)) (lastB (t - f) (x 3)) (lastB (t - f) (x 2)) (lastB (t - f) (x 10)) (lastB (t - f) (x 8)) (lastB (t - f) (x 13)) (lastB (t - f) (x 12)) (lastB (min t (dawn + x 11) - f) (x 7)) half split

open Classical in
/-- What is wrong with what Of is handed. -/
noncomputable def spellErr (x : Nat → Int) (f t dawn : Int) : Int := if May x then (if t ≤ f then 3 else if f < 0 ∨ 40320 < t then 4 else if dawn < 0 ∨ f < dawn then 1 else 0) else 14

theorem spellErr_no {x : Nat → Int} (f t dawn : Int) (h : ¬ May x) : spellErr x f t dawn = 14 := by unfold spellErr; rw [if_neg h]
theorem spellErr_yes {x : Nat → Int} (f t dawn : Int) (h : May x) : spellErr x f t dawn = if t ≤ f then 3 else if f < 0 ∨ 40320 < t then 4 else if dawn < 0 ∨ f < dawn then 1 else 0 := by unfold spellErr; rw [if_pos h]
theorem spellErr_ok {x : Nat → Int} {f t dawn : Int} : spellErr x f t dawn = 0 ↔ May x ∧ f < t ∧ 0 ≤ f ∧ t ≤ 40320 ∧ 0 ≤ dawn ∧ dawn ≤ f := by
  by_cases h : May x
  · rw [spellErr_yes f t dawn h]
    constructor
    · intro e
      refine ⟨h, ?_⟩
      split at e
      · omega
      split at e
      · omega
      split at e
      · omega
      omega
    · intro ⟨_, h⟩
      rw [if_neg (by omega), if_neg (by omega), if_neg (by omega)]
  · rw [spellErr_no f t dawn h]
    simp [h]

/-- A book that may be: its numbers are from 0 to the greatest time. -/
theorem may_time {x : Nat → Int} (h : May x) : ∀ i, i < 19 → 0 ≤ x i ∧ x i ≤ 40320 := by
  intro i hi
  have := h.1 i hi
  unfold lim at this
  split at this <;> omega
theorem may_ord {x : Nat → Int} (h : May x) : x 2 ≤ x 1 ∧ x 3 ≤ x 1 ∧ x 1 ≤ x 10 ∧ x 10 ≤ x 8 ∧ x 8 ≤ x 7 ∧ x 7 ≤ x 13 ∧ x 13 ≤ x 12 ∧ x 4 ≤ x 5 ∧ x 8 < x 11 := h.2

end Go.Proofs.Ytlbafgdbemhanaa

/- A meter in plain words: what may be, what a minute makes of it, and the clauses that it breaks. Conditions: none. -/
namespace Go.Proofs.Ytlbafgdbemhanaa
open Go.RowKit

/-- A meter. -/
structure Mt where
  now : Int
  acc : Int
  half : Bool
  lie : Int
  dawn : Int
  day : Int
  longers : Int
  split : Bool
  reduces : Int
  sabbath : Int
  brief : Bool
  week : Int
  last : Int
  labour : Int

def Mt.zero : Mt := ⟨0, 0, false, 0, 0, 0, 0, false, 0, 0, false, 0, 0, 0⟩
/-- Its cells. -/
def mt (m : Mt) : Array Value := #[.int .i64 m.now, .int .i64 m.acc, .bool m.half, .int .i64 m.lie, .int .i64 m.dawn, .int .i64 m.day, .int .i64 m.longers, .bool m.split, .int .i64 m.reduces, .int .i64 m.sabbath, .bool m.brief, .int .i64 m.week, .int .i64 m.last, .int .i64 m.labour]
theorem mt_size (m : Mt) : (mt m).size = 14 := rfl
theorem mt_one (m : Mt) : (mt m).all (·.oneCell') = true := by kernel_rfl

/-- A meter that may be. -/
def MayM (m : Mt) : Prop := (0 ≤ m.now ∧ m.now ≤ 40320) ∧ (0 ≤ m.acc ∧ m.acc ≤ m.now) ∧ (0 ≤ m.lie ∧ m.lie ≤ m.now) ∧ (0 ≤ m.dawn ∧ m.dawn ≤ m.now) ∧ (0 ≤ m.day ∧ m.day ≤ m.now) ∧ (0 ≤ m.longers ∧ m.longers ≤ m.now) ∧
  (0 ≤ m.reduces ∧ m.reduces ≤ m.now) ∧ (0 ≤ m.sabbath ∧ m.sabbath ≤ m.now) ∧ (0 ≤ m.week ∧ m.week ≤ m.now) ∧ (0 ≤ m.last ∧ m.last ≤ m.now) ∧ (0 ≤ m.labour ∧ m.labour ≤ m.now)

/-- A set's part of one clause. -/
def bitN (k : Nat) (b : Bool) : Nat := if b then 2 ^ k else 0
theorem bitN_le (k : Nat) (b : Bool) : bitN k b ≤ 2 ^ k := by unfold bitN; split <;> simp
theorem bitN_lt {k : Nat} (b : Bool) (hk : k < 10) : bitN k b ≤ 512 := Nat.le_trans (bitN_le k b) (Nat.pow_le_pow_right (n := 2) (by omega) (by omega : k ≤ 9))
/-- A set with one clause more, if it is broken. -/
def orB (n k : Nat) (b : Bool) : Nat := n ||| bitN k b
theorem orB_no (n k : Nat) : orB n k false = n := by simp [orB, bitN]
theorem orB_yes (n k : Nat) : orB n k true = n ||| 2 ^ k := by simp [orB, bitN]
theorem orB_lt {n k : Nat} (b : Bool) (hn : n < 1024) (hk : k < 10) : orB n k b < 1024 :=
  Nat.or_lt_two_pow (n := 10) hn (by have := bitN_lt b hk; omega)

/-- A week's cut. -/
def wrapM (x : Nat → Int) (m : Mt) : Mt := if 0 < m.now ∧ m.now % x 18 = 0 then { m with last := m.week, week := 0, labour := 0 } else m
/-- What the spell of rest that ends is worth. -/
def endW (x : Nat → Int) (m : Mt) : Wo := ofV x (m.now - m.lie) m.now (min m.dawn (m.now - m.lie)) m.half m.split
def e1 (w : Wo) (m : Mt) : Mt := if w.weekly then { m with brief := w.brief, sabbath := m.now, longers := 0, reduces := 0 } else m
def e2 (w : Wo) (m : Mt) : Mt := if w.red then { m with reduces := m.reduces + 1 } else m
def e3 (w : Wo) (m : Mt) : Mt := if w.daily then { m with dawn := m.now, day := 0, acc := 0, half := false, split := false } else { m with split := m.split || w.part, half := w.half, acc := if w.brk then 0 else m.acc }
def endM (w : Wo) (m : Mt) : Mt := { e3 w (e2 w (e1 w m)) with lie := 0 }
/-- A minute of driving; of driving or work. -/
def d1 (m : Mt) : Mt := { m with acc := m.acc + 1, day := m.day + 1 }
def d2 (x : Nat → Int) (m : Mt) : Mt := if m.day = x 4 + 1 then { m with longers := m.longers + 1 } else m
def driveM (x : Nat → Int) (m : Mt) : Mt := let m := d2 x (d1 m); { m with week := m.week + 1 }
def workM (m : Mt) : Mt := { m with labour := m.labour + 1 }

/-- The clauses of a minute's end of rest; of being awake; of driving; of labour. -/
def c8 (w : Wo) (m : Mt) : Bool := w.weekly && (w.brief && m.brief)
def c6 (x : Nat → Int) (w : Wo) (m : Mt) : Bool := w.red && decide (x 9 < (e2 w (e1 w m)).reduces)
def c5 (x : Nat → Int) (m : Mt) : Bool := decide (x 11 - x 8 ≤ m.now - m.dawn)
def c7 (x : Nat → Int) (m : Mt) : Bool := decide (x 14 ≤ m.now - m.sabbath)
def c0 (x : Nat → Int) (m : Mt) : Bool := decide (x 0 < m.acc + 1)
def c2 (x : Nat → Int) (m : Mt) : Bool := decide (m.day + 1 = x 4 + 1) && decide (x 6 < m.longers + 1)
def c1 (x : Nat → Int) (m : Mt) : Bool := decide (x 5 < m.day + 1)
def c3 (x : Nat → Int) (m : Mt) : Bool := decide (x 15 < m.week + 1)
def c4 (x : Nat → Int) (m : Mt) : Bool := decide (x 16 < m.week + 1 + m.last)
def c9 (x : Nat → Int) (m : Mt) : Bool := decide (x 17 < m.labour + 1)

/-- The ten clauses of a minute, as truths. -/
structure Cl where
  b8 : Bool
  b6 : Bool
  b5 : Bool
  b7 : Bool
  b0 : Bool
  b2 : Bool
  b1 : Bool
  b3 : Bool
  b4 : Bool
  b9 : Bool

/-- As a sum, in the document's order. -/
def Cl.sum (c : Cl) : Nat := bitN 8 c.b8 + bitN 6 c.b6 + bitN 5 c.b5 + bitN 7 c.b7 + bitN 0 c.b0 + bitN 2 c.b2 + bitN 1 c.b1 + bitN 3 c.b3 + bitN 4 c.b4 + bitN 9 c.b9
/-- Laid into a set, one behind the other. -/
def Cl.into (n : Nat) (c : Cl) : Nat := orB (orB (orB (orB (orB (orB (orB (orB (orB (orB n 8 c.b8) 6 c.b6) 5 c.b5) 7 c.b7) 0 c.b0) 2 c.b2) 1 c.b1) 3 c.b3) 4 c.b4) 9 c.b9

set_option maxRecDepth 100000 in
theorem sum_or : ∀ b8 b6 b5 b7 b0 b2 b1 b3 b4 b9 : Bool, (bitN 8 b8 ||| (bitN 6 b6 ||| (bitN 5 b5 ||| (bitN 7 b7 ||| (bitN 0 b0 ||| (bitN 2 b2 ||| (bitN 1 b1 ||| (bitN 3 b3 ||| (bitN 4 b4 ||| bitN 9 b9))))))))) = bitN 8 b8 + bitN 6 b6 + bitN 5 b5 + bitN 7 b7 + bitN 0 b0 + bitN 2 b2 + bitN 1 b1 + bitN 3 b3 + bitN 4 b4 + bitN 9 b9 := by decide +kernel
theorem Cl.into_eq (n : Nat) (c : Cl) : c.into n = n ||| c.sum := by
  unfold Cl.into Cl.sum orB
  rw [← sum_or]
  simp only [Nat.or_assoc]
theorem Cl.sum_lt (c : Cl) : c.sum < 1024 := by
  unfold Cl.sum
  have h8 := bitN_le 8 c.b8; have h6 := bitN_le 6 c.b6; have h5 := bitN_le 5 c.b5; have h7 := bitN_le 7 c.b7; have h0 := bitN_le 0 c.b0
  have h2 := bitN_le 2 c.b2; have h1 := bitN_le 1 c.b1; have h3 := bitN_le 3 c.b3; have h4 := bitN_le 4 c.b4; have h9 := bitN_le 9 c.b9
  omega
theorem Cl.into_lt {n : Nat} (c : Cl) (hn : n < 1024) : c.into n < 1024 := by rw [Cl.into_eq]; exact Nat.or_lt_two_pow (n := 10) hn c.sum_lt

/-- What stands behind the end of a spell of rest, if one ends. -/
def upR (x : Nat → Int) (m : Mt) : Mt := if 0 < m.lie then endM (endW x m) m else m
def up8 (x : Nat → Int) (m : Mt) : Bool := decide (0 < m.lie) && c8 (endW x m) m
def up6 (x : Nat → Int) (m : Mt) : Bool := decide (0 < m.lie) && c6 x (endW x m) m
/-- A minute that is none of rest: the meter, but for Now. -/
def upM (x : Nat → Int) (m : Mt) (k : Int) : Mt :=
  let r := upR x m
  let d := if k = 3 then driveM x r else r
  if k = 3 ∨ k = 2 then workM d else d
def upC (x : Nat → Int) (m : Mt) (k : Int) : Cl :=
  let r := upR x m
  let d := if k = 3 then driveM x r else r
  ⟨up8 x m, up6 x m, c5 x r, c7 x r, decide (k = 3) && c0 x r, decide (k = 3) && c2 x r, decide (k = 3) && c1 x r, decide (k = 3) && c3 x r, decide (k = 3) && c4 x r, decide (k = 3 ∨ k = 2) && c9 x d⟩
/-- A minute more. -/
def stepM (x : Nat → Int) (m : Mt) (k : Int) : Mt :=
  let a := wrapM x m
  if k = 0 then { a with lie := a.lie + 1, now := a.now + 1 } else { upM x a k with now := (upM x a k).now + 1 }
def stepC (x : Nat → Int) (m : Mt) (k : Int) : Nat := if k = 0 then 0 else (upC x (wrapM x m) k).sum

theorem stepC_lt (x : Nat → Int) (m : Mt) (k : Int) : stepC x m k < 1024 := by
  unfold stepC; split
  · omega
  · exact Cl.sum_lt _

/-! ### A meter may be behind each minute -/
theorem may_wrap {x : Nat → Int} {m : Mt} (h : MayM m) : MayM (wrapM x m) ∧ (wrapM x m).now = m.now := by
  unfold wrapM
  split
  · refine ⟨?_, rfl⟩
    unfold MayM at *
    dsimp only
    omega
  · exact ⟨h, rfl⟩

/-- Each number is at most b. -/
def Le (b : Int) (m : Mt) : Prop := (0 ≤ m.now ∧ m.now ≤ b) ∧ (0 ≤ m.acc ∧ m.acc ≤ b) ∧ (0 ≤ m.lie ∧ m.lie ≤ b) ∧ (0 ≤ m.dawn ∧ m.dawn ≤ b) ∧ (0 ≤ m.day ∧ m.day ≤ b) ∧ (0 ≤ m.longers ∧ m.longers ≤ b) ∧
  (0 ≤ m.reduces ∧ m.reduces ≤ b) ∧ (0 ≤ m.sabbath ∧ m.sabbath ≤ b) ∧ (0 ≤ m.week ∧ m.week ≤ b) ∧ (0 ≤ m.last ∧ m.last ≤ b) ∧ (0 ≤ m.labour ∧ m.labour ≤ b)

/-- What may stand behind the end of a spell of rest, ahead of the last step: the number of reduced rests can be one more than Now. -/
def MayE (m : Mt) : Prop := (0 ≤ m.now ∧ m.now ≤ 40320) ∧ (0 ≤ m.acc ∧ m.acc ≤ m.now) ∧ (0 ≤ m.lie ∧ m.lie ≤ m.now) ∧ (0 ≤ m.dawn ∧ m.dawn ≤ m.now) ∧ (0 ≤ m.day ∧ m.day ≤ m.now) ∧ (0 ≤ m.longers ∧ m.longers ≤ m.now) ∧
  (0 ≤ m.reduces ∧ m.reduces ≤ m.now + 1) ∧ (0 ≤ m.sabbath ∧ m.sabbath ≤ m.now) ∧ (0 ≤ m.week ∧ m.week ≤ m.now) ∧ (0 ≤ m.last ∧ m.last ≤ m.now) ∧ (0 ≤ m.labour ∧ m.labour ≤ m.now)

theorem MayE.of {m : Mt} (h : MayM m) : MayE m := by unfold MayM at h; unfold MayE; omega

theorem may_e1 {m : Mt} (w : Wo) (h : MayM m) : MayM (e1 w m) ∧ (e1 w m).now = m.now := by
  unfold e1
  split
  · refine ⟨?_, rfl⟩
    unfold MayM at *
    dsimp only
    omega
  · exact ⟨h, rfl⟩
theorem may_e2 {m : Mt} (w : Wo) (h : MayM m) : MayE (e2 w m) ∧ (e2 w m).now = m.now := by
  unfold e2
  split
  · refine ⟨?_, rfl⟩
    unfold MayM at h
    unfold MayE
    dsimp only
    omega
  · exact ⟨.of h, rfl⟩
theorem may_e3 {m : Mt} (w : Wo) (h : MayE m) : MayE (e3 w m) ∧ (e3 w m).now = m.now := by
  unfold e3
  split
  · refine ⟨?_, rfl⟩
    unfold MayE at *
    dsimp only
    omega
  · refine ⟨?_, rfl⟩
    unfold MayE at *
    dsimp only
    split <;> omega
theorem may_end {m : Mt} (w : Wo) (h : MayM m) : MayE (endM w m) ∧ (endM w m).now = m.now := by
  have h1 := may_e1 w h
  have h2 := may_e2 w h1.1
  have h3 := may_e3 w h2.1
  have hn : (e3 w (e2 w (e1 w m))).now = m.now := by rw [h3.2, h2.2, h1.2]
  refine ⟨?_, hn⟩
  have h3 := h3.1
  unfold endM
  unfold MayE at *
  dsimp only
  omega
theorem may_upR {x : Nat → Int} {m : Mt} (h : MayM m) : MayE (upR x m) ∧ (upR x m).now = m.now := by
  unfold upR
  split
  · exact may_end _ h
  · exact ⟨.of h, rfl⟩

theorem le_d1 {m : Mt} (h : MayE m) : Le (m.now + 1) (d1 m) := by
  unfold MayE at h
  unfold Le d1
  dsimp only
  omega
theorem le_drive {x : Nat → Int} {m : Mt} (h : MayE m) : Le (m.now + 1) (driveM x m) ∧ (driveM x m).now = m.now ∧ (driveM x m).labour = m.labour := by
  unfold MayE at h
  unfold Le driveM d2 d1
  split <;> (dsimp only; omega)
theorem le_work {b : Int} {m : Mt} (h : Le b m) (hl : m.labour + 1 ≤ b) : Le b (workM m) ∧ (workM m).now = m.now := by
  unfold Le at *
  unfold workM
  dsimp only
  omega
theorem MayE.le {m : Mt} (h : MayE m) : Le (m.now + 1) m := by unfold MayE at h; unfold Le; omega
theorem le_up {x : Nat → Int} {m : Mt} (k : Int) (h : MayM m) : Le (m.now + 1) (upM x m k) ∧ (upM x m k).now = m.now := by
  obtain ⟨hr, hn⟩ := may_upR (x := x) h
  have hl : (upR x m).labour + 1 ≤ m.now + 1 := by unfold MayE at hr; omega
  unfold upM
  dsimp only
  generalize upR x m = r at hr hn hl
  by_cases hk : k = 3
  · rw [if_pos hk, if_pos (Or.inl hk)]
    obtain ⟨d, e, f⟩ := le_drive (x := x) hr
    rw [hn] at d
    have := le_work d (by omega)
    exact ⟨this.1, by rw [this.2, e, hn]⟩
  · rw [if_neg hk]
    have d := hr.le
    rw [hn] at d
    split
    · have := le_work d (by omega)
      exact ⟨this.1, by rw [this.2, hn]⟩
    · exact ⟨d, hn⟩
theorem may_step {x : Nat → Int} {m : Mt} (k : Int) (h : MayM m) (hn : m.now < 40320) : MayM (stepM x m k) ∧ (stepM x m k).now = m.now + 1 := by
  obtain ⟨h1, h2⟩ := may_wrap (x := x) h
  unfold stepM
  dsimp only
  split
  · refine ⟨?_, by rw [h2]⟩
    unfold MayM at *
    dsimp only
    omega
  · obtain ⟨h3, h4⟩ := le_up (x := x) k h1
    refine ⟨?_, by dsimp only; rw [h4, h2]⟩
    rw [h2] at h3 h4
    unfold Le at h3
    unfold MayM
    dsimp only
    omega

/-! ### Many minutes -/
/-- The meter behind them, the set, and the error. -/
def runV (x : Nat → Int) : Mt → Nat → List Int → Mt × Nat × Int
  | m, n, [] => (m, n, 0)
  | m, n, k :: ks => if k < 0 ∨ 3 < k then (.zero, 0, 2) else if m.now = 40320 then (.zero, 0, 4) else runV x (stepM x m k) (n ||| stepC x m k) ks

open Classical in
/-- With the book's and the meter's own errors. -/
noncomputable def meterV (x : Nat → Int) (m : Mt) (ks : List Int) : Mt × Nat × Int := if May x then (if MayM m then runV x m 0 ks else (.zero, 0, 1)) else (.zero, 0, 14)

theorem runV_may {x : Nat → Int} : ∀ (ks : List Int) (m : Mt) (n : Nat), MayM m → n < 1024 → (runV x m n ks).2.1 < 1024 ∧ ((runV x m n ks).2.2 = 0 → MayM (runV x m n ks).1) ∧ ((runV x m n ks).2.2 ≠ 0 → (runV x m n ks).1 = .zero ∧ (runV x m n ks).2.1 = 0)
  | [], m, n, hm, hn => ⟨hn, fun _ => hm, fun h => absurd rfl h⟩
  | k :: ks, m, n, hm, hn => by
    unfold runV
    split
    · exact ⟨by decide, fun h => by simp at h, fun _ => ⟨rfl, rfl⟩⟩
    split
    · exact ⟨by decide, fun h => by simp at h, fun _ => ⟨rfl, rfl⟩⟩
    · rename_i h1 h2
      have := hm.1
      exact runV_may ks _ _ (may_step k hm (by omega)).1 (Nat.or_lt_two_pow (n := 10) hn (stepC_lt x m k))

theorem runV_cons (x : Nat → Int) (m : Mt) (n : Nat) (k : Int) (ks : List Int) : runV x m n (k :: ks) = if k < 0 ∨ 3 < k then (.zero, 0, 2) else if m.now = 40320 then (.zero, 0, 4) else runV x (stepM x m k) (n ||| stepC x m k) ks := rfl

theorem runV_append {x : Nat → Int} : ∀ (a b : List Int) (m : Mt) (n : Nat), runV x m n (a ++ b) = if (runV x m n a).2.2 = 0 then runV x (runV x m n a).1 (runV x m n a).2.1 b else runV x m n a
  | [], b, m, n => rfl
  | k :: a, b, m, n => by
    rw [List.cons_append, runV_cons, runV_cons]
    split
    · rfl
    split
    · rfl
    · exact runV_append a b _ _

/-- What lies in the set at first stays in it. -/
theorem runV_or {x : Nat → Int} : ∀ (a : List Int) (m : Mt) (n : Nat), runV x m n a = ((runV x m 0 a).1, (if (runV x m 0 a).2.2 = 0 then n ||| (runV x m 0 a).2.1 else 0), (runV x m 0 a).2.2)
  | [], m, n => by simp [runV]
  | k :: a, m, n => by
    unfold runV
    split
    · rfl
    split
    · rfl
    · rw [runV_or a _ (n ||| _), runV_or a _ (0 ||| _)]
      by_cases h : (runV x (stepM x m k) 0 a).2.2 = 0
      · simp [h, Nat.or_assoc]
      · simp [h]

/-- Two cells that differ in no part. -/
def Mt.eqB (s u : Mt) : Bool := s.now == u.now && (s.acc == u.acc && (s.half == u.half && (s.lie == u.lie && (s.dawn == u.dawn && (s.day == u.day && (s.longers == u.longers && (s.split == u.split && (s.reduces == u.reduces && (s.sabbath == u.sabbath && (s.brief == u.brief && (s.week == u.week && (s.last == u.last && s.labour == u.labour))))))))))))
theorem Mt.eqB_self (s : Mt) : s.eqB s = true := by simp [Mt.eqB]

theorem ofInt_n64 (a : Nat) (ha : a < 18446744073709551616) : (BitVec.ofInt 64 (a : Int)).toNat = a := by
  rw [BitVec.ofInt_natCast, BitVec.toNat_ofNat]; exact Nat.mod_eq_of_lt (by omega)
/-- The program's '|' of two sets. -/
theorem or_nat (a b : Nat) (ha : a < 1024) (hb : b < 1024) : bits .or .i64 (a : Int) (b : Int) = ((a ||| b : Nat) : Int) := by
  have hx : a ||| b < 2 ^ 10 := Nat.or_lt_two_pow (n := 10) (by omega) (by omega)
  show IntKind.i64.wrap ((BitVec.ofInt 64 (a : Int) ||| BitVec.ofInt 64 (b : Int)).toNat : Int) = _
  rw [BitVec.toNat_or, ofInt_n64 a (by omega), ofInt_n64 b (by omega)]
  generalize a ||| b = c at hx
  have : IntKind.i64.wrap (c : Int) = (c : Int) := by
    simp [IntKind.wrap, IntKind.bits, IntKind.signed]
    omega
  exact this

end Go.Proofs.Ytlbafgdbemhanaa

/- How the program's count of layer 13 (a book, a meter, a set) lies in memory, and what a call that turns it leaves. Conditions: none beyond each lemma's own premises. -/
namespace Go.Proofs.Ytlbafgdbemhanaa
open Go.RowKit

/-- What a call leaves that turns block g and may make memory: g holds cs, all else that lay is as it was. -/
structure Chg (W : World) (g : Nat) (t : TypeId) (cs : Array Value) (W' : World) : Prop where
  size : W.heap.size ≤ W'.heap.size
  box : Bx W' g t cs
  other : ∀ k, k ≠ g → k < W.heap.size → W'.heap[k]? = W.heap[k]?
  bel : ∀ n, n ≤ g → n ≤ W.heap.size → Below n W W'

theorem Chg.refl {W : World} {g : Nat} {t : TypeId} {cs : Array Value} (h : Bx W g t cs) : Chg W g t cs W := ⟨Nat.le_refl _, h, fun _ _ _ => rfl, fun _ _ _ => Below.refl _ _⟩
theorem Chg.upd {W W1 W2 : World} {g : Nat} {t s : TypeId} {cs ds : Array Value} (c : Chg W g t cs W1) (u : Upd W1 g s ds W2) : Chg W g s ds W2 :=
  ⟨by rw [u.size]; exact c.size, u.box, fun k hk hl => (u.other k hk).trans (c.other k hk hl), fun n hn hl => (c.bel n hn hl).trans (u.bel n hn)⟩
theorem Chg.trans {W W1 W2 : World} {g : Nat} {t s : TypeId} {cs ds : Array Value} (c : Chg W g t cs W1) (d : Chg W1 g s ds W2) : Chg W g s ds W2 :=
  ⟨Nat.le_trans c.size d.size, d.box, fun k hk hl => (d.other k hk (Nat.lt_of_lt_of_le hl c.size)).trans (c.other k hk hl), fun n hn hl => (c.bel n hn hl).trans (d.bel n hn (Nat.le_trans hl c.size))⟩
theorem Chg.below {W W1 W2 : World} {g : Nat} {t : TypeId} {cs : Array Value} (c : Chg W g t cs W1) (hb : Below W1.heap.size W1 W2) : Chg W g t cs W2 :=
  ⟨Nat.le_trans c.size hb.size, c.box.below hb, fun k hk hl => (hb.block k (Nat.lt_of_lt_of_le hl c.size)).trans (c.other k hk hl), fun n hn hl => (c.bel n hn hl).trans (hb.mono (Nat.le_trans hl c.size))⟩
theorem Chg.alloc {W W1 : World} {g : Nat} {t : TypeId} {cs : Array Value} (c : Chg W g t cs W1) (o : Obj) : Chg W g t cs (W1.alloc o) := c.below ((Below.refl _ _).alloc (Nat.le_refl _) o)
theorem Chg.drew {W W1 : World} {g : Nat} {t : TypeId} {cs : Array Value} (c : Chg W g t cs W1) : Chg W g t cs W1.drew := ⟨c.size, c.box.drew, c.other, fun n hn hl => b_dr (c.bel n hn hl)⟩
theorem Chg.bx {W W' : World} {g h : Nat} {t s : TypeId} {cs ds : Array Value} (c : Chg W g t cs W') (hb : Bx W h s ds) (hp : h ≠ g) : Bx W' h s ds := (c.other h hp hb.lt).trans hb
theorem Chg.cell {W W' : World} {g : Nat} {t : TypeId} {cs : Array Value} (c : Chg W g t cs W') {p : Addr} (hp : p.block ≠ g) (hl : p.block < W.heap.size) : W'.cell? p = W.cell? p := World.cell?_of_block (w := W) (c.other p.block hp hl)
theorem Chg.rdI {W W' : World} {g b off : Nat} {t : TypeId} {cs : Array Value} {x : Nat → Int} (c : Chg W g t cs W') (h : RdI W b off x) (hp : b ≠ g) : RdI W' b off x :=
  ⟨Nat.lt_of_lt_of_le h.1 c.size, fun i hi => (c.cell (p := ⟨b, off + i, none⟩) hp h.1).trans (h.2 i hi)⟩

/-- The cells of a count: the book, the meter, the set. -/
def cnt (x : Nat → Int) (m : Mt) (n : Nat) : Array Value := #[.int .i64 (x 0), .int .i64 (x 1), .int .i64 (x 2), .int .i64 (x 3), .int .i64 (x 4), .int .i64 (x 5), .int .i64 (x 6), .int .i64 (x 7), .int .i64 (x 8), .int .i64 (x 9), .int .i64 (x 10), .int .i64 (x 11), .int .i64 (x 12), .int .i64 (x 13), .int .i64 (x 14), .int .i64 (x 15), .int .i64 (x 16), .int .i64 (x 17), .int .i64 (x 18),
  .int .i64 m.now, .int .i64 m.acc, .bool m.half, .int .i64 m.lie, .int .i64 m.dawn, .int .i64 m.day, .int .i64 m.longers, .bool m.split, .int .i64 m.reduces, .int .i64 m.sabbath, .bool m.brief, .int .i64 m.week, .int .i64 m.last, .int .i64 m.labour, .int .i64 (n : Int)]
theorem cnt_size (x : Nat → Int) (m : Mt) (n : Nat) : (cnt x m n).size = 34 := rfl
theorem cnt_one (x : Nat → Int) (m : Mt) (n : Nat) : (cnt x m n).all (·.oneCell') = true := by kernel_rfl
theorem cnt_bk (x : Nat → Int) (m : Mt) (n : Nat) : ∀ i, i < 19 → (cnt x m n)[0 + i]? = some (.int .i64 (x i)) := by
  intro i hi
  have : i = 0 ∨ i = 1 ∨ i = 2 ∨ i = 3 ∨ i = 4 ∨ i = 5 ∨ i = 6 ∨ i = 7 ∨ i = 8 ∨ i = 9 ∨ i = 10 ∨ i = 11 ∨ i = 12 ∨ i = 13 ∨ i = 14 ∨ i = 15 ∨ i = 16 ∨ i = 17 ∨ i = 18 := by omega
  rcases this with rfl | rfl | rfl | rfl | rfl | rfl | rfl | rfl | rfl | rfl | rfl | rfl | rfl | rfl | rfl | rfl | rfl | rfl | rfl <;> rfl

/-- Block g is a count. -/
abbrev Cn (W : World) (g : Nat) (x : Nat → Int) (m : Mt) (n : Nat) : Prop := Bx W g 100 (cnt x m n)
theorem Cn.rdI {W : World} {g : Nat} {x : Nat → Int} {m : Mt} {n : Nat} (h : Cn W g x m n) : RdI W g 0 x := ⟨h.lt, fun i hi => h.cell (cnt_bk x m n i hi)⟩

/-- The cells of the meter and the set. -/
theorem Cn.cells {W : World} {g : Nat} {x : Nat → Int} {m : Mt} {n : Nat} (h : Cn W g x m n) :
    W.cell? ⟨g, 19, none⟩ = some (.int .i64 m.now) ∧ W.cell? ⟨g, 20, none⟩ = some (.int .i64 m.acc) ∧ W.cell? ⟨g, 21, none⟩ = some (.bool m.half) ∧ W.cell? ⟨g, 22, none⟩ = some (.int .i64 m.lie) ∧ W.cell? ⟨g, 23, none⟩ = some (.int .i64 m.dawn) ∧ W.cell? ⟨g, 24, none⟩ = some (.int .i64 m.day) ∧ W.cell? ⟨g, 25, none⟩ = some (.int .i64 m.longers) ∧ W.cell? ⟨g, 26, none⟩ = some (.bool m.split) ∧ W.cell? ⟨g, 27, none⟩ = some (.int .i64 m.reduces) ∧ W.cell? ⟨g, 28, none⟩ = some (.int .i64 m.sabbath) ∧ W.cell? ⟨g, 29, none⟩ = some (.bool m.brief) ∧ W.cell? ⟨g, 30, none⟩ = some (.int .i64 m.week) ∧ W.cell? ⟨g, 31, none⟩ = some (.int .i64 m.last) ∧ W.cell? ⟨g, 32, none⟩ = some (.int .i64 m.labour) ∧ W.cell? ⟨g, 33, none⟩ = some (.int .i64 (n : Int)) :=
  ⟨h.cell rfl, h.cell rfl, h.cell rfl, h.cell rfl, h.cell rfl, h.cell rfl, h.cell rfl, h.cell rfl, h.cell rfl, h.cell rfl, h.cell rfl, h.cell rfl, h.cell rfl, h.cell rfl, h.cell rfl⟩

/-- The cells of the book. -/
theorem Cn.book {W : World} {g : Nat} {x : Nat → Int} {m : Mt} {n : Nat} (h : Cn W g x m n) :
    W.cell? ⟨g, 0, none⟩ = some (.int .i64 (x 0)) ∧ W.cell? ⟨g, 4, none⟩ = some (.int .i64 (x 4)) ∧ W.cell? ⟨g, 5, none⟩ = some (.int .i64 (x 5)) ∧ W.cell? ⟨g, 6, none⟩ = some (.int .i64 (x 6)) ∧ W.cell? ⟨g, 8, none⟩ = some (.int .i64 (x 8)) ∧ W.cell? ⟨g, 9, none⟩ = some (.int .i64 (x 9)) ∧ W.cell? ⟨g, 11, none⟩ = some (.int .i64 (x 11)) ∧ W.cell? ⟨g, 14, none⟩ = some (.int .i64 (x 14)) ∧ W.cell? ⟨g, 15, none⟩ = some (.int .i64 (x 15)) ∧ W.cell? ⟨g, 16, none⟩ = some (.int .i64 (x 16)) ∧ W.cell? ⟨g, 17, none⟩ = some (.int .i64 (x 17)) ∧ W.cell? ⟨g, 18, none⟩ = some (.int .i64 (x 18)) :=
  ⟨h.cell rfl, h.cell rfl, h.cell rfl, h.cell rfl, h.cell rfl, h.cell rfl, h.cell rfl, h.cell rfl, h.cell rfl, h.cell rfl, h.cell rfl, h.cell rfl⟩

/-- What a call leaves that turns the count. -/
abbrev CnTo (W : World) (g : Nat) (x : Nat → Int) (m : Mt) (n : Nat) (W' : World) : Prop := Chg W g 100 (cnt x m n) W'

end Go.Proofs.Ytlbafgdbemhanaa

/- Blocks of minutes of one kind in plain words: the minutes one by one, and reckoned at once; what is counted by weeks. Conditions: none. -/
namespace Go.Proofs.Ytlbafgdbemhanaa
open Go.RowKit

/-- Ten numbers with one changed. -/
def fs (y : Nat → Int) (c : Nat) (v : Int) : Nat → Int := fun i => if i = c then v else y i
/-- A clause's first minute, if there is none yet. -/
def brk (y : Nat → Int) (c : Nat) (a t : Int) : Nat → Int := if a < t ∧ y c < 0 then fs y c a else y
def noneF : Nat → Int := fun _ => -1
/-- The first minutes behind a minute that breaks the set s. -/
def recB (s : Nat) (y : Nat → Int) (a : Int) : Nat → Int := fun c => if s.testBit c = true ∧ y c < 0 then a else y c
/-- n minutes of the kind, one by one. -/
def walkV (x : Nat → Int) (k : Int) : Nat → Mt → (Nat → Int) → Mt × (Nat → Int)
  | 0, m, y => (m, y)
  | n + 1, m, y => walkV x k n (stepM x m k) (recB (stepC x m k) y m.now)

theorem walkV_add (x : Nat → Int) (k : Int) : ∀ (a b : Nat) (m : Mt) (y : Nat → Int), walkV x k (a + b) m y = walkV x k b (walkV x k a m y).1 (walkV x k a m y).2
  | 0, b, m, y => by rw [Nat.zero_add]; rfl
  | a + 1, b, m, y => by rw [show a + 1 + b = a + b + 1 by omega]; exact walkV_add x k a b _ _
theorem walkV_snoc (x : Nat → Int) (k : Int) (n : Nat) (m : Mt) (y : Nat → Int) :
    walkV x k (n + 1) m y = (stepM x (walkV x k n m y).1 k, recB (stepC x (walkV x k n m y).1 k) (walkV x k n m y).2 (walkV x k n m y).1.now) := by
  rw [walkV_add]; rfl
theorem walkV_may {x : Nat → Int} {k : Int} : ∀ (n : Nat) {m : Mt} (y : Nat → Int), MayM m → m.now + n ≤ 40320 → MayM (walkV x k n m y).1 ∧ (walkV x k n m y).1.now = m.now + n
  | 0, m, y, h, _ => ⟨h, by simp [walkV]⟩
  | n + 1, m, y, h, hn => by
    have h1 := may_step (x := x) k h (by omega)
    have h2 := walkV_may (x := x) (k := k) n (recB (stepC x m k) y m.now) h1.1 (by rw [h1.2]; omega)
    exact ⟨h2.1, by show (walkV x k n _ _).1.now = _; rw [h2.2, h1.2]; omega⟩

/-! ### What a minute breaks, clause by clause -/
/-- The truth of clause c. -/
def Cl.get (c : Cl) : Nat → Bool
  | 0 => c.b0
  | 1 => c.b1
  | 2 => c.b2
  | 3 => c.b3
  | 4 => c.b4
  | 5 => c.b5
  | 6 => c.b6
  | 7 => c.b7
  | 8 => c.b8
  | 9 => c.b9
  | _ => false

set_option maxRecDepth 100000 in
theorem sum_bits : ∀ b8 b6 b5 b7 b0 b2 b1 b3 b4 b9 : Bool, ∀ i : Fin 10, (bitN 8 b8 + bitN 6 b6 + bitN 5 b5 + bitN 7 b7 + bitN 0 b0 + bitN 2 b2 + bitN 1 b1 + bitN 3 b3 + bitN 4 b4 + bitN 9 b9).testBit i.1 = (Cl.mk b8 b6 b5 b7 b0 b2 b1 b3 b4 b9).get i.1 := by decide +kernel
theorem Cl.sum_bit (c : Cl) (i : Nat) : c.sum.testBit i = c.get i := by
  by_cases hi : i < 10
  · exact sum_bits c.b8 c.b6 c.b5 c.b7 c.b0 c.b2 c.b1 c.b3 c.b4 c.b9 ⟨i, hi⟩
  · rw [Nat.testBit_lt_two_pow (Nat.lt_of_lt_of_le c.sum_lt (Nat.pow_le_pow_right (n := 2) (by omega) (by omega : 10 ≤ i)))]
    unfold Cl.get
    split <;> first | rfl | (exfalso; omega)
theorem recB_zero (y : Nat → Int) (a : Int) : recB 0 y a = y := by funext c; simp [recB]
theorem recB_sum (c : Cl) (y : Nat → Int) (a : Int) (i : Nat) : recB c.sum y a i = if c.get i = true ∧ y i < 0 then a else y i := by unfold recB; rw [c.sum_bit]

/-! ### What is counted by weeks -/
structure Wk where
  pos : Int
  week : Int
  last : Int
  labour : Int
  f3 : Int
  f4 : Int
  f9 : Int

def Wk.cut (L : Int) (s : Wk) : Wk := if s.pos % L = 0 then { s with last := s.week, week := 0, labour := 0 } else s
def Wk.plain (x : Nat → Int) (k : Int) (s : Wk) : Wk :=
  { pos := s.pos + 1, week := if k = 3 then s.week + 1 else s.week, last := s.last, labour := if k = 3 ∨ k = 2 then s.labour + 1 else s.labour,
    f3 := if (k = 3 ∧ x 15 < s.week + 1) ∧ s.f3 < 0 then s.pos else s.f3,
    f4 := if (k = 3 ∧ x 16 < s.week + 1 + s.last) ∧ s.f4 < 0 then s.pos else s.f4,
    f9 := if ((k = 3 ∨ k = 2) ∧ x 17 < s.labour + 1) ∧ s.f9 < 0 then s.pos else s.f9 }
def Wk.step (x : Nat → Int) (k : Int) (s : Wk) : Wk := (s.cut (x 18)).plain x k
def Wk.run (x : Nat → Int) (k : Int) : Nat → Wk → Wk
  | 0, s => s
  | n + 1, s => (Wk.run x k n s).step x k
/-- The minutes up to e at once, in one week. -/
def Wk.seg (x : Nat → Int) (k : Int) (s : Wk) (e : Int) : Wk :=
  { pos := e, week := if k = 3 then s.week + (e - s.pos) else s.week, last := s.last, labour := if k = 3 ∨ k = 2 then s.labour + (e - s.pos) else s.labour,
    f3 := if k = 3 ∧ s.pos + x 15 - s.week < e ∧ s.f3 < 0 then s.pos + x 15 - s.week else s.f3,
    f4 := if k = 3 ∧ s.pos + x 16 - s.last - s.week < e ∧ s.f4 < 0 then s.pos + x 16 - s.last - s.week else s.f4,
    f9 := if (k = 3 ∨ k = 2) ∧ s.pos + x 17 - s.labour < e ∧ s.f9 < 0 then s.pos + x 17 - s.labour else s.f9 }
/-- What is above its limit has been noted. -/
def Wk.Ok (x : Nat → Int) (k : Int) (s : Wk) : Prop :=
  0 < s.pos ∧ 0 ≤ s.week ∧ 0 ≤ s.last ∧ 0 ≤ s.labour ∧ (k = 3 → x 15 < s.week → 0 ≤ s.f3) ∧ (k = 3 → x 16 < s.week + s.last → 0 ≤ s.f4) ∧ (k = 3 ∨ k = 2 → x 17 < s.labour → 0 ≤ s.f9)
/-- The limits are no nought. -/
def Lims (x : Nat → Int) : Prop := 1 ≤ x 15 ∧ 1 ≤ x 16 ∧ 1 ≤ x 17 ∧ 1 ≤ x 18

theorem Wk.ok_cut {x : Nat → Int} {k : Int} {s : Wk} (L : Int) (hx : Lims x) (h : s.Ok x k) : (s.cut L).Ok x k := by
  unfold Wk.cut
  split
  · obtain ⟨h0, h1, h2, h3, h4, h5, h6⟩ := h
    obtain ⟨x5, x6, x7, -⟩ := hx
    refine ⟨h0, by simp, h1, by simp, fun _ h => ?_, fun hk h => h5 hk ?_, fun _ h => ?_⟩
    · simp only at h; omega
    · simp only at h; omega
    · simp only at h; omega
  · exact h
theorem Wk.ok_plain {x : Nat → Int} {k : Int} {s : Wk} (h : s.Ok x k) : (s.plain x k).Ok x k := by
  obtain ⟨h0, h1, h2, h3, h4, h5, h6⟩ := h
  unfold Wk.plain
  refine ⟨?_, ?_, h2, ?_, ?_, ?_, ?_⟩
  · show 0 < s.pos + 1; omega
  · dsimp only; split <;> omega
  · dsimp only; split <;> omega
  · intro hk
    dsimp only
    rw [if_pos hk]
    intro h
    have := h4 hk
    split <;> omega
  · intro hk
    dsimp only
    rw [if_pos hk]
    intro h
    have := h5 hk
    split <;> omega
  · intro hk
    dsimp only
    rw [if_pos hk]
    intro h
    have := h6 hk
    split <;> omega
theorem Wk.ok_step {x : Nat → Int} {k : Int} {s : Wk} (hx : Lims x) (h : s.Ok x k) : (s.step x k).Ok x k := Wk.ok_plain (Wk.ok_cut _ hx h)
theorem Wk.ok_run {x : Nat → Int} {k : Int} (hx : Lims x) : ∀ (n : Nat) {s : Wk}, s.Ok x k → (Wk.run x k n s).Ok x k
  | 0, _, h => h
  | n + 1, _, h => Wk.ok_step hx (Wk.ok_run hx n h)
theorem Wk.pos_step (x : Nat → Int) (k : Int) (s : Wk) : (s.step x k).pos = s.pos + 1 := by unfold Wk.step Wk.cut Wk.plain; split <;> rfl
theorem Wk.pos_run (x : Nat → Int) (k : Int) (s : Wk) : ∀ n, (Wk.run x k n s).pos = s.pos + (n : Nat)
  | 0 => by simp [Wk.run]
  | n + 1 => by unfold Wk.run; rw [Wk.pos_step, Wk.pos_run x k s n]; omega
theorem Wk.run_add (x : Nat → Int) (k : Int) (s : Wk) (a : Nat) : ∀ b, Wk.run x k (a + b) s = Wk.run x k b (Wk.run x k a s)
  | 0 => rfl
  | b + 1 => by show (Wk.run x k (a + b) s).step x k = _; rw [Wk.run_add x k s a b]; rfl

theorem Wk.seg_self (x : Nat → Int) (k : Int) (s : Wk) (h : s.Ok x k) : s.seg x k s.pos = s := by
  obtain ⟨h0, h1, h2, h3, h4, h5, h6⟩ := h
  unfold Wk.seg
  obtain ⟨p, a, b, c, f3, f4, f9⟩ := s
  dsimp only at *
  congr 1
  · split <;> omega
  · split <;> omega
  · rw [if_neg]; intro ⟨hk, h, _⟩; have := h4 hk; omega
  · rw [if_neg]; intro ⟨hk, h, _⟩; have := h5 hk; omega
  · rw [if_neg]; intro ⟨hk, h, _⟩; have := h6 hk; omega
theorem Wk.seg_plain (x : Nat → Int) (k : Int) (s : Wk) (e : Int) (he : s.pos ≤ e) (h : s.Ok x k) : (s.seg x k e).plain x k = s.seg x k (e + 1) := by
  obtain ⟨h0, h1, h2, h3, h4, h5, h6⟩ := h
  unfold Wk.seg Wk.plain
  obtain ⟨p, a, b, c, f3, f4, f9⟩ := s
  dsimp only at *
  by_cases hk : k = 3
  · have g4 := h4 hk
    have g5 := h5 hk
    have g6 := h6 (Or.inl hk)
    simp only [hk, if_true, true_and, true_or]
    congr 1
    · omega
    · omega
    · repeat' split
      all_goals omega
    · repeat' split
      all_goals omega
    · repeat' split
      all_goals omega
  · by_cases hk2 : k = 2
    · have g6 := h6 (Or.inr hk2)
      subst hk2
      simp only [if_true, if_false, false_and, true_and, or_true, show ¬ ((2 : Int) = 3) by decide]
      congr 1
      · omega
      · repeat' split
        all_goals omega
    · simp only [hk, hk2, if_false, false_and, or_self]

/-- Within a week minute by minute is at once. -/
theorem Wk.run_seg (x : Nat → Int) (k : Int) (s : Wk) (hx : Lims x) (h : s.Ok x k) : ∀ n : Nat, 0 < n → (∀ i : Nat, 0 < i → i < n → ¬ (s.pos + i) % x 18 = 0) → Wk.run x k n s = (s.cut (x 18)).seg x k (s.pos + n)
  | 0, h0, _ => by omega
  | 1, _, _ => by
    have hc := Wk.ok_cut (x 18) hx h
    have hp : (s.cut (x 18)).pos = s.pos := by unfold Wk.cut; split <;> rfl
    have := Wk.seg_plain x k (s.cut (x 18)) s.pos (by rw [hp]; exact Int.le_refl _) hc
    rw [← hp, Wk.seg_self x k _ hc] at this
    show (s.cut (x 18)).plain x k = _
    rw [this, hp]
    rfl
  | n + 2, _, hn => by
    have ih := Wk.run_seg x k s hx h (n + 1) (by omega) (fun i hi hl => hn i hi (by omega))
    have hc := Wk.ok_cut (x 18) hx h
    have hp : (s.cut (x 18)).pos = s.pos := by unfold Wk.cut; split <;> rfl
    show (Wk.run x k (n + 1) s).step x k = _
    have hpos := Wk.pos_run x k s (n + 1)
    unfold Wk.step Wk.cut
    rw [hpos, if_neg (hn (n + 1) (by omega) (by omega)), ih, Wk.seg_plain x k _ _ (by rw [hp]; omega) hc, show s.pos + ((n + 1 : Nat) : Int) + 1 = s.pos + ((n + 2 : Nat) : Int) by omega]
    rfl

/-! ### Whole weeks that are alike -/
theorem emod_next {p L : Int} (hL : 1 ≤ L) : ((p - 1) % L + 1 = p % L ∧ ¬ p % L = 0) ∨ ((p - 1) % L + 1 = L ∧ p % L = 0) := by
  have h0 := Int.emod_nonneg (p - 1) (show L ≠ 0 by omega)
  have h1 := Int.emod_lt_of_pos (p - 1) (show 0 < L by omega)
  have h2 := Int.mul_ediv_add_emod (p - 1) L
  generalize (p - 1) / L = q at h2
  generalize (p - 1) % L = r at h0 h1 h2 ⊢
  have hp : p = r + 1 + L * q := by omega
  by_cases h : r + 1 = L
  · right
    refine ⟨h, ?_⟩
    rw [hp, h, Int.add_mul_emod_self_left, Int.emod_self]
  · left
    have : p % L = r + 1 := by rw [hp, Int.add_mul_emod_self_left]; exact Int.emod_eq_of_lt (by omega) (by omega)
    rw [this]
    exact ⟨rfl, by omega⟩

/-- All weeks from here on are alike. -/
def Wk.Alike (x : Nat → Int) (k : Int) (s : Wk) : Prop :=
  (s.week = if k = 3 then (s.pos - 1) % x 18 + 1 else 0) ∧ (s.last = if k = 3 then x 18 else 0) ∧ (s.labour = if k = 3 ∨ k = 2 then (s.pos - 1) % x 18 + 1 else 0) ∧
  (k = 3 → x 15 < x 18 → 0 ≤ s.f3) ∧ (k = 3 → x 16 < 2 * x 18 → 0 ≤ s.f4) ∧ (k = 3 ∨ k = 2 → x 17 < x 18 → 0 ≤ s.f9)
def Wk.SameF (s t : Wk) : Prop := s.f3 = t.f3 ∧ s.f4 = t.f4 ∧ s.f9 = t.f9

theorem Wk.alike_step {x : Nat → Int} {k : Int} {s : Wk} (hx : Lims x) (h : s.Alike x k) : (s.step x k).Alike x k ∧ (s.step x k).SameF s := by
  obtain ⟨-, -, -, hL⟩ := hx
  obtain ⟨p, a, b, c, f3, f4, f9⟩ := s
  unfold Wk.Alike at h
  dsimp only at h
  obtain ⟨h1, h2, h3, h4, h5, h6⟩ := h
  have hm := emod_next (p := p) hL
  have hm0 := Int.emod_nonneg (p - 1) (show x 18 ≠ 0 by omega)
  have hm1 := Int.emod_lt_of_pos (p - 1) (show 0 < x 18 by omega)
  have hm2 := Int.emod_lt_of_pos p (show 0 < x 18 by omega)
  unfold Wk.step Wk.cut
  dsimp only
  generalize hq : (p - 1) % x 18 = q at *
  generalize hr : p % x 18 = r at *
  rcases hm with ⟨e1, e2⟩ | ⟨e1, e2⟩
  · rw [if_neg e2]
    unfold Wk.plain Wk.Alike Wk.SameF
    dsimp only
    rw [show p + 1 - 1 = p by omega, hr]
    by_cases hk : k = 3
    · have g4 := h4 hk; have g5 := h5 hk; have g6 := h6 (Or.inl hk)
      rw [if_pos hk] at h1 h2
      rw [if_pos (Or.inl hk)] at h3
      have F3 : ¬ ((k = 3 ∧ x 15 < a + 1) ∧ f3 < 0) := by omega
      have F4 : ¬ ((k = 3 ∧ x 16 < a + 1 + b) ∧ f4 < 0) := by omega
      have F9 : ¬ (((k = 3 ∨ k = 2) ∧ x 17 < c + 1) ∧ f9 < 0) := by omega
      rw [if_pos hk, if_pos hk, if_pos hk, if_pos (Or.inl hk), if_pos (Or.inl hk), if_neg F3, if_neg F4, if_neg F9]
      exact ⟨⟨by omega, h2, by omega, h4, h5, h6⟩, rfl, rfl, rfl⟩
    · rw [if_neg hk] at h1 h2
      have F3 : ¬ ((k = 3 ∧ x 15 < a + 1) ∧ f3 < 0) := fun h => hk h.1.1
      have F4 : ¬ ((k = 3 ∧ x 16 < a + 1 + b) ∧ f4 < 0) := fun h => hk h.1.1
      rw [if_neg hk, if_neg hk, if_neg hk, if_neg F3, if_neg F4]
      by_cases hk2 : k = 3 ∨ k = 2
      · have g6 := h6 hk2
        rw [if_pos hk2] at h3
        have F9 : ¬ (((k = 3 ∨ k = 2) ∧ x 17 < c + 1) ∧ f9 < 0) := by omega
        rw [if_pos hk2, if_pos hk2, if_neg F9]
        exact ⟨⟨h1, h2, by omega, h4, h5, h6⟩, rfl, rfl, rfl⟩
      · rw [if_neg hk2] at h3
        have F9 : ¬ (((k = 3 ∨ k = 2) ∧ x 17 < c + 1) ∧ f9 < 0) := fun h => hk2 h.1.1
        rw [if_neg hk2, if_neg hk2, if_neg F9]
        exact ⟨⟨h1, h2, h3, h4, h5, h6⟩, rfl, rfl, rfl⟩
  · rw [if_pos e2]
    unfold Wk.plain Wk.Alike Wk.SameF
    dsimp only
    rw [show p + 1 - 1 = p by omega, hr]
    by_cases hk : k = 3
    · have g4 := h4 hk; have g5 := h5 hk; have g6 := h6 (Or.inl hk)
      rw [if_pos hk] at h1 h2
      have F3 : ¬ ((k = 3 ∧ x 15 < 0 + 1) ∧ f3 < 0) := by omega
      have F4 : ¬ ((k = 3 ∧ x 16 < 0 + 1 + a) ∧ f4 < 0) := by omega
      have F9 : ¬ (((k = 3 ∨ k = 2) ∧ x 17 < 0 + 1) ∧ f9 < 0) := by omega
      rw [if_pos hk, if_pos hk, if_pos hk, if_pos (Or.inl hk), if_pos (Or.inl hk), if_neg F3, if_neg F4, if_neg F9]
      exact ⟨⟨by omega, by omega, by omega, h4, h5, h6⟩, rfl, rfl, rfl⟩
    · rw [if_neg hk] at h1 h2
      have F3 : ¬ ((k = 3 ∧ x 15 < 0 + 1) ∧ f3 < 0) := fun h => hk h.1.1
      have F4 : ¬ ((k = 3 ∧ x 16 < 0 + 1 + a) ∧ f4 < 0) := fun h => hk h.1.1
      rw [if_neg hk, if_neg hk, if_neg hk, if_neg F3, if_neg F4]
      by_cases hk2 : k = 3 ∨ k = 2
      · have g6 := h6 hk2
        have F9 : ¬ (((k = 3 ∨ k = 2) ∧ x 17 < 0 + 1) ∧ f9 < 0) := by omega
        rw [if_pos hk2, if_pos hk2, if_neg F9]
        exact ⟨⟨rfl, h1, by omega, h4, h5, h6⟩, rfl, rfl, rfl⟩
      · have F9 : ¬ (((k = 3 ∨ k = 2) ∧ x 17 < 0 + 1) ∧ f9 < 0) := fun h => hk2 h.1.1
        rw [if_neg hk2, if_neg hk2, if_neg F9]
        exact ⟨⟨rfl, h1, rfl, h4, h5, h6⟩, rfl, rfl, rfl⟩
theorem Wk.alike_run {x : Nat → Int} {k : Int} {s : Wk} (hx : Lims x) (h : s.Alike x k) : ∀ n, (Wk.run x k n s).Alike x k ∧ (Wk.run x k n s).SameF s
  | 0 => ⟨h, rfl, rfl, rfl⟩
  | n + 1 => by
    obtain ⟨h1, e1, e2, e3⟩ := Wk.alike_run hx h n
    obtain ⟨h2, g1, g2, g3⟩ := Wk.alike_step hx h1
    exact ⟨h2, g1.trans e1, g2.trans e2, g3.trans e3⟩

/-- A whole week from its begin on. -/
theorem Wk.week_run {x : Nat → Int} {k : Int} {s : Wk} (hx : Lims x) (h : s.Ok x k) (h0 : s.pos % x 18 = 0) :
    Wk.run x k (x 18).toNat s = ({ s with last := s.week, week := 0, labour := 0 } : Wk).seg x k (s.pos + x 18) := by
  have hL := hx.2.2.2
  rw [Wk.run_seg x k s hx h (x 18).toNat (by omega) (fun i hi hl => ?_)]
  · unfold Wk.cut
    rw [if_pos h0, Int.toNat_of_nonneg (by omega)]
  · rw [Int.add_emod, h0, Int.zero_add, Int.emod_emod_of_dvd _ (Int.dvd_refl _), Int.emod_eq_of_lt (by omega) (by omega)]
    omega

/-- Behind the next begin of a week, and two weeks more, all weeks are alike. -/
theorem Wk.alike_two {x : Nat → Int} {k : Int} {s : Wk} (hx : Lims x) (h : s.Ok x k) (h0 : s.pos % x 18 = 0) : (Wk.run x k ((x 18).toNat + (x 18).toNat) s).Alike x k := by
  have hL := hx.2.2.2
  rw [Wk.run_add, Wk.week_run hx h h0]
  have hok : (({ s with last := s.week, week := 0, labour := 0 } : Wk).seg x k (s.pos + x 18)).Ok x k := by
    rw [← Wk.week_run hx h h0]
    exact Wk.ok_run hx _ h
  have hp : (s.pos + x 18) % x 18 = 0 := by rw [Int.add_emod_right, h0]
  rw [Wk.week_run hx hok (by exact hp)]
  obtain ⟨p, a, b, c, f3, f4, f9⟩ := s
  obtain ⟨h1, h2, h3, h4, h5, h6, h7⟩ := h
  dsimp only at *
  have hm : (p + x 18 + x 18 - 1) % x 18 = x 18 - 1 := by
    rw [show p + x 18 + x 18 - 1 = p + x 18 + (x 18 - 1) by omega, Int.add_emod, hp, Int.zero_add, Int.emod_emod_of_dvd _ (Int.dvd_refl _), Int.emod_eq_of_lt (by omega) (by omega)]
  obtain ⟨hx1, hx2, hx3, -⟩ := hx
  unfold Wk.seg Wk.Alike
  dsimp only
  rw [hm]
  by_cases hk : k = 3
  · have g5 := h5 hk; have g6 := h6 hk; have g7 := h7 (Or.inl hk)
    simp only [hk, if_true, true_and, true_or, true_implies]
    refine ⟨by omega, by omega, by omega, ?_, ?_, ?_⟩
    all_goals (intro h; repeat' split)
    all_goals omega
  · by_cases hk2 : k = 2
    · subst hk2
      simp only [if_true, if_false, false_and, true_and, or_true, true_implies, false_implies, show ¬ ((2 : Int) = 3) by decide]
      refine ⟨by omega, ?_⟩
      intro h
      repeat' split
      all_goals omega
    · simp only [hk, hk2, if_false, false_and, or_self, false_implies, and_self]

/-- The next begin of a week lies less than a week ahead. -/
theorem next_begin (p L : Int) (hL : 1 ≤ L) : ∃ j : Nat, (j : Int) < L ∧ (p + j) % L = 0 := by
  have h0 := Int.emod_nonneg p (show L ≠ 0 by omega)
  have h1 := Int.emod_lt_of_pos p (show 0 < L by omega)
  have h2 := Int.mul_ediv_add_emod p L
  generalize p / L = q at h2
  generalize p % L = r at h0 h1 h2
  by_cases h : r = 0
  · exact ⟨0, by omega, by rw [show p + ((0 : Nat) : Int) = 0 + L * q by omega, Int.add_mul_emod_self_left]; rfl⟩
  · refine ⟨(L - r).toNat, by omega, ?_⟩
    rw [Int.toNat_of_nonneg (by omega), show p + (L - r) = L + L * q by omega, Int.add_mul_emod_self_left, Int.emod_self]

/-- More whole weeks than three change nothing. -/
theorem Wk.run_less {x : Nat → Int} {k : Int} {s : Wk} (hx : Lims x) (h : s.Ok x k) (n : Nat) (hn : 3 * x 18 < n) :
    let t := Wk.run x k n s; let u := Wk.run x k ((n : Int) % x 18 + 3 * x 18).toNat s
    t.week = u.week ∧ t.last = u.last ∧ t.labour = u.labour ∧ t.SameF u := by
  have hL := hx.2.2.2
  dsimp only
  obtain ⟨j, hj, hj0⟩ := next_begin s.pos (x 18) hL
  have hr0 := Int.emod_nonneg (n : Int) (show x 18 ≠ 0 by omega)
  have hr1 := Int.emod_lt_of_pos (n : Int) (show 0 < x 18 by omega)
  have hal := Wk.alike_two (k := k) hx (Wk.ok_run hx j h) (by rw [Wk.pos_run]; exact hj0)
  rw [← Wk.run_add] at hal
  obtain ⟨z, hz⟩ : ∃ z, j + ((x 18).toNat + (x 18).toNat) = z := ⟨_, rfl⟩
  rw [hz] at hal
  have e1 : Wk.run x k n s = Wk.run x k (n - z) (Wk.run x k z s) := by rw [← Wk.run_add]; congr 1; omega
  have e2 : Wk.run x k ((n : Int) % x 18 + 3 * x 18).toNat s = Wk.run x k (((n : Int) % x 18 + 3 * x 18).toNat - z) (Wk.run x k z s) := by rw [← Wk.run_add]; congr 1; omega
  have p1 := Wk.pos_run x k s n
  have p2 := Wk.pos_run x k s ((n : Int) % x 18 + 3 * x 18).toNat
  rw [e1] at p1
  rw [e2] at p2
  rw [e1, e2]
  obtain ⟨⟨a1, a2, a3, -⟩, s1⟩ := Wk.alike_run hx hal (n - z)
  obtain ⟨⟨b1, b2, b3, -⟩, s2⟩ := Wk.alike_run hx hal (((n : Int) % x 18 + 3 * x 18).toNat - z)
  have hm : (s.pos + (n : Int) - 1) % x 18 = (s.pos + (((n : Int) % x 18 + 3 * x 18).toNat : Int) - 1) % x 18 := by
    rw [Int.toNat_of_nonneg (by omega)]
    have h2 := Int.mul_ediv_add_emod (n : Int) (x 18)
    generalize (n : Int) / x 18 = q at h2
    generalize (n : Int) % x 18 = r at h2
    rw [show s.pos + (n : Int) - 1 = (s.pos + r - 1) + x 18 * q by omega, Int.add_mul_emod_self_left, show s.pos + (r + 3 * x 18) - 1 = (s.pos + r - 1) + x 18 * 3 by omega, Int.add_mul_emod_self_left]
  rw [p1, hm, ← p2] at a1 a3
  exact ⟨a1.trans b1.symm, a2.trans b2.symm, a3.trans b3.symm, s1.1.trans s2.1.symm, s1.2.1.trans s2.2.1.symm, s1.2.2.trans s2.2.2.symm⟩

end Go.Proofs.Ytlbafgdbemhanaa

/- Behind a block's first minute all others may be reckoned at once: what the minutes one by one come to. Conditions: none beyond each lemma's own premises. -/
namespace Go.Proofs.Ytlbafgdbemhanaa
open Go.RowKit

/-- What of a meter, and of first minutes, is counted by weeks. -/
def wkOf (m : Mt) (y : Nat → Int) : Wk := ⟨m.now, m.week, m.last, m.labour, y 3, y 4, y 9⟩
def wkM (m : Mt) (s : Wk) : Mt := { m with week := s.week, last := s.last, labour := s.labour }
def wkY (y : Nat → Int) (s : Wk) : Nat → Int := fun c => if c = 3 then s.f3 else if c = 4 then s.f4 else if c = 9 then s.f9 else y c

/-- One minute of all else, with no spell of rest that ends. -/
def t1M (x : Nat → Int) (k : Int) (m : Mt) : Mt :=
  { m with now := m.now + 1, acc := if k = 3 then m.acc + 1 else m.acc, day := if k = 3 then m.day + 1 else m.day, longers := if k = 3 ∧ m.day = x 4 then m.longers + 1 else m.longers, lie := if k = 0 then m.lie + 1 else m.lie }
def t1Y (x : Nat → Int) (k : Int) (m : Mt) (y : Nat → Int) : Nat → Int
  | 0 => if (k = 3 ∧ x 0 < m.acc + 1) ∧ y 0 < 0 then m.now else y 0
  | 1 => if (k = 3 ∧ x 5 < m.day + 1) ∧ y 1 < 0 then m.now else y 1
  | 2 => if (k = 3 ∧ m.day = x 4 ∧ x 6 < m.longers + 1) ∧ y 2 < 0 then m.now else y 2
  | 5 => if (¬ k = 0 ∧ x 11 - x 8 ≤ m.now - m.dawn) ∧ y 5 < 0 then m.now else y 5
  | 7 => if (¬ k = 0 ∧ x 14 ≤ m.now - m.sabbath) ∧ y 7 < 0 then m.now else y 7
  | c => y c

theorem wrap_lie (x : Nat → Int) (m : Mt) : (wrapM x m).lie = m.lie := by unfold wrapM; split <;> rfl
theorem upR_none {x : Nat → Int} {m : Mt} (h : m.lie = 0) : upR x m = m ∧ up8 x m = false ∧ up6 x m = false := by
  unfold upR up8 up6
  rw [h]
  exact ⟨rfl, rfl, rfl⟩

theorem upC_none {x : Nat → Int} {r : Mt} (k : Int) (h : r.lie = 0) :
    upC x r k = ⟨false, false, c5 x r, c7 x r, decide (k = 3) && c0 x r, decide (k = 3) && c2 x r, decide (k = 3) && c1 x r, decide (k = 3) && c3 x r, decide (k = 3) && c4 x r, decide (k = 3 ∨ k = 2) && c9 x r⟩ := by
  obtain ⟨u1, u2, u3⟩ := upR_none (x := x) h
  have h9 : c9 x (if k = 3 then driveM x r else r) = c9 x r := by
    unfold c9 driveM d2 d1
    split
    · split <;> rfl
    · rfl
  unfold upC
  rw [u1, u2, u3]
  dsimp only
  rw [h9]

theorem step_one {x : Nat → Int} {k : Int} {m : Mt} (y : Nat → Int) (hn : 0 < m.now) (hl : k = 0 ∨ m.lie = 0) :
    stepM x m k = wkM (t1M x k m) ((wkOf m y).step x k) ∧ ∀ c, recB (stepC x m k) y m.now c = wkY (t1Y x k m y) ((wkOf m y).step x k) c := by
  obtain ⟨b, hb⟩ : ∃ b : Bool, decide (m.now % x 18 = 0) = b := ⟨_, rfl⟩
  have hw : wrapM x m = if b = true then { m with last := m.week, week := 0, labour := 0 } else m := by
    unfold wrapM
    rw [← hb]
    simp only [decide_eq_true_eq, hn, true_and]
  have hc : (wkOf m y).cut (x 18) = if b = true then { wkOf m y with last := m.week, week := 0, labour := 0 } else wkOf m y := by
    unfold Wk.cut
    rw [← hb]
    simp only [decide_eq_true_eq]
    rfl
  unfold Wk.step
  rw [hc]
  by_cases hk : k = 0
  · subst hk
    unfold stepM stepC
    rw [if_pos rfl, if_pos rfl, hw, recB_zero]
    cases b
    · refine ⟨rfl, fun c => ?_⟩
      unfold wkY t1Y Wk.plain
      simp
      split
      · rename_i h; rw [h]; rfl
      · split
        · rename_i h; rw [h]; rfl
        · split
          · rename_i h; rw [h]; rfl
          · split <;> rfl
    · refine ⟨rfl, fun c => ?_⟩
      unfold wkY t1Y Wk.plain
      simp
      split
      · rename_i h; rw [h]; rfl
      · split
        · rename_i h; rw [h]; rfl
        · split
          · rename_i h; rw [h]; rfl
          · split <;> rfl
  · have hl : m.lie = 0 := by omega
    obtain ⟨u1, u2, u3⟩ := upR_none (x := x) (m := wrapM x m) (by rw [wrap_lie]; exact hl)
    unfold stepM stepC
    rw [if_neg hk, if_neg hk]
    refine ⟨?_, fun c => ?_⟩
    · unfold upM
      rw [u1, hw]
      unfold driveM d2 d1 workM t1M wkM Wk.plain wkOf
      by_cases h3 : k = 3
      · subst h3
        by_cases hd : m.day = x 4
        · cases b <;> simp [hd]
        · have hd' : ¬ m.day + 1 = x 4 + 1 := by omega
          cases b <;> simp [hd, hd']
      · by_cases h2 : k = 2
        · subst h2
          cases b <;> simp
        · cases b <;> simp [h3, h2, hk]
    · rw [recB_sum, upC_none k (by rw [wrap_lie]; exact hl), hw]
      unfold wkY t1Y Wk.plain Cl.get c5 c7 c0 c2 c1 c3 c4 c9
      by_cases e0 : c = 0
      · subst e0; cases b <;> simp
      by_cases e1 : c = 1
      · subst e1; cases b <;> simp
      by_cases e2 : c = 2
      · subst e2
        have : (m.day + 1 = x 4 + 1) ↔ (m.day = x 4) := by omega
        cases b <;> simp [this]
      by_cases e3 : c = 3
      · subst e3; cases b <;> simp [wkOf]
      by_cases e4 : c = 4
      · subst e4; cases b <;> simp [wkOf]
      by_cases e5 : c = 5
      · subst e5; cases b <;> simp [hk]
      by_cases e6 : c = 6
      · subst e6; cases b <;> simp
      by_cases e7 : c = 7
      · subst e7; cases b <;> simp [hk]
      by_cases e8 : c = 8
      · subst e8; cases b <;> simp
      by_cases e9 : c = 9
      · subst e9; cases b <;> simp [wkOf]
      simp [e3, e4, e9]

/-! ### Many minutes -/
def thrM (x : Nat → Int) (k : Int) (n : Nat) (m : Mt) : Mt :=
  { m with now := m.now + n, acc := if k = 3 then m.acc + n else m.acc, day := if k = 3 then m.day + n else m.day, longers := if k = 3 ∧ m.day ≤ x 4 ∧ x 4 < m.day + n then m.longers + 1 else m.longers, lie := if k = 0 then m.lie + n else m.lie }
def thrY (x : Nat → Int) (k : Int) (n : Nat) (m : Mt) (y : Nat → Int) : Nat → Int
  | 0 => if k = 3 ∧ m.now + x 0 - m.acc < m.now + n ∧ y 0 < 0 then m.now + x 0 - m.acc else y 0
  | 1 => if k = 3 ∧ m.now + x 5 - m.day < m.now + n ∧ y 1 < 0 then m.now + x 5 - m.day else y 1
  | 2 => if k = 3 ∧ (m.day ≤ x 4 ∧ x 4 < m.day + n) ∧ x 6 < m.longers + 1 ∧ y 2 < 0 then m.now + x 4 - m.day else y 2
  | 5 => if ¬ k = 0 ∧ m.dawn + x 11 - x 8 < m.now + n ∧ y 5 < 0 then m.dawn + x 11 - x 8 else y 5
  | 7 => if ¬ k = 0 ∧ m.sabbath + x 14 < m.now + n ∧ y 7 < 0 then m.sabbath + x 14 else y 7
  | c => y c

/-- What is above its limit has been noted, and no spell of rest can end. -/
def Noted (x : Nat → Int) (k : Int) (m : Mt) (y : Nat → Int) : Prop :=
  (k = 0 ∨ m.lie = 0) ∧ (k = 3 → x 0 < m.acc → 0 ≤ y 0) ∧ (k = 3 → x 5 < m.day → 0 ≤ y 1) ∧ (¬ k = 0 → m.dawn + x 11 - x 8 < m.now → 0 ≤ y 5) ∧ (¬ k = 0 → m.sabbath + x 14 < m.now → 0 ≤ y 7) ∧ (wkOf m y).Ok x k

theorem thrM_zero (x : Nat → Int) (k : Int) (m : Mt) : thrM x k 0 m = m := by
  unfold thrM
  obtain ⟨a0, a1, a2, a3, a4, a5, a6, a7, a8, a9, a10, a11, a12, a13⟩ := m
  simp
  intro _ h1 h2
  omega
theorem thrM_next (x : Nat → Int) (k : Int) (n : Nat) (m : Mt) : t1M x k (thrM x k n m) = thrM x k (n + 1) m := by
  unfold thrM t1M
  obtain ⟨a0, a1, a2, a3, a4, a5, a6, a7, a8, a9, a10, a11, a12, a13⟩ := m
  dsimp only
  by_cases h3 : k = 3
  · subst h3
    simp only [if_true, true_and, show ¬ ((3 : Int) = 0) by decide, if_false]
    congr 1
    · omega
    · omega
    · omega
    · repeat' split
      all_goals omega
  · by_cases h0 : k = 0
    · subst h0
      simp only [if_true, false_and, if_false, show ¬ ((0 : Int) = 3) by decide]
      congr 1
      · omega
      · omega
    · simp only [h3, h0, if_false, false_and]
      congr 1
      omega
theorem thrY_zero {x : Nat → Int} {k : Int} {m : Mt} {y : Nat → Int} (h : Noted x k m y) : ∀ c, thrY x k 0 m y c = y c := by
  obtain ⟨-, h0, h1, h5, h7, -⟩ := h
  intro c
  unfold thrY
  split
  · rw [if_neg]; intro ⟨hk, h, _⟩; have := h0 hk; omega
  · rw [if_neg]; intro ⟨hk, h, _⟩; have := h1 hk; omega
  · rw [if_neg]; intro ⟨hk, h, _⟩; omega
  · rw [if_neg]; intro ⟨hk, h, _⟩; have := h5 hk; omega
  · rw [if_neg]; intro ⟨hk, h, _⟩; have := h7 hk; omega
  · rfl
theorem thrY_next {x : Nat → Int} {k : Int} {m : Mt} {y : Nat → Int} (n : Nat) (h : Noted x k m y) : ∀ c, t1Y x k (thrM x k n m) (thrY x k n m y) c = thrY x k (n + 1) m y c := by
  obtain ⟨-, h0, h1, h5, h7, hw⟩ := h
  have hn : 0 < m.now := hw.1
  intro c
  by_cases e0 : c = 0
  · subst e0
    show (if (k = 3 ∧ x 0 < (thrM x k n m).acc + 1) ∧ thrY x k n m y 0 < 0 then (thrM x k n m).now else thrY x k n m y 0) = thrY x k (n + 1) m y 0
    unfold thrM thrY
    dsimp only
    by_cases hk : k = 3
    · have := h0 hk
      simp only [hk, if_true, true_and]
      repeat' split
      all_goals omega
    · simp only [hk, false_and, if_false]
  by_cases e1 : c = 1
  · subst e1
    show (if (k = 3 ∧ x 5 < (thrM x k n m).day + 1) ∧ thrY x k n m y 1 < 0 then (thrM x k n m).now else thrY x k n m y 1) = thrY x k (n + 1) m y 1
    unfold thrM thrY
    dsimp only
    by_cases hk : k = 3
    · have := h1 hk
      simp only [hk, if_true, true_and]
      repeat' split
      all_goals omega
    · simp only [hk, false_and, if_false]
  by_cases e2 : c = 2
  · subst e2
    show (if (k = 3 ∧ (thrM x k n m).day = x 4 ∧ x 6 < (thrM x k n m).longers + 1) ∧ thrY x k n m y 2 < 0 then (thrM x k n m).now else thrY x k n m y 2) = thrY x k (n + 1) m y 2
    unfold thrM thrY
    dsimp only
    by_cases hk : k = 3
    · simp only [hk, if_true, true_and]
      repeat' split
      all_goals omega
    · simp only [hk, false_and, if_false]
  by_cases e5 : c = 5
  · subst e5
    show (if (¬ k = 0 ∧ x 11 - x 8 ≤ (thrM x k n m).now - (thrM x k n m).dawn) ∧ thrY x k n m y 5 < 0 then (thrM x k n m).now else thrY x k n m y 5) = thrY x k (n + 1) m y 5
    unfold thrM thrY
    dsimp only
    by_cases hk : k = 0
    · simp only [hk, not_true_eq_false, false_and, if_false]
    · have := h5 hk
      simp only [hk, not_false_eq_true, true_and]
      repeat' split
      all_goals omega
  by_cases e7 : c = 7
  · subst e7
    show (if (¬ k = 0 ∧ x 14 ≤ (thrM x k n m).now - (thrM x k n m).sabbath) ∧ thrY x k n m y 7 < 0 then (thrM x k n m).now else thrY x k n m y 7) = thrY x k (n + 1) m y 7
    unfold thrM thrY
    dsimp only
    by_cases hk : k = 0
    · simp only [hk, not_true_eq_false, false_and, if_false]
    · have := h7 hk
      simp only [hk, not_false_eq_true, true_and]
      repeat' split
      all_goals omega
  have a : t1Y x k (thrM x k n m) (thrY x k n m y) c = thrY x k n m y c := by
    unfold t1Y; split <;> first | (exfalso; omega) | rfl
  have b : ∀ j, thrY x k j m y c = y c := fun j => by unfold thrY; split <;> first | (exfalso; omega) | rfl
  rw [a, b, b]

/-- What minutes come to, one by one, is what it is at once. -/
theorem walk_on {x : Nat → Int} {k : Int} {m : Mt} {y : Nat → Int} (h : Noted x k m y) : ∀ n : Nat,
    (walkV x k n m y).1 = wkM (thrM x k n m) (Wk.run x k n (wkOf m y)) ∧ ∀ c, (walkV x k n m y).2 c = wkY (thrY x k n m y) (Wk.run x k n (wkOf m y)) c
  | 0 => by
    refine ⟨by rw [thrM_zero]; rfl, fun c => ?_⟩
    have := thrY_zero h c
    unfold wkY
    rw [this]
    show y c = _
    split
    · rename_i e; rw [e]; rfl
    split
    · rename_i e; rw [e]; rfl
    split
    · rename_i e; rw [e]; rfl
    · rfl
  | n + 1 => by
    obtain ⟨e1, e2⟩ := walk_on h n
    rw [walkV_snoc]
    have hp := Wk.pos_run x k (wkOf m y) n
    obtain ⟨S, hS⟩ : ∃ S, Wk.run x k n (wkOf m y) = S := ⟨_, rfl⟩
    rw [hS] at e1 e2 hp
    have hs : Wk.run x k (n + 1) (wkOf m y) = S.step x k := by show (Wk.run x k n (wkOf m y)).step x k = _; rw [hS]
    rw [hs]
    have hpos : (wkOf m y).pos = m.now := rfl
    have e3 : (walkV x k n m y).1.now = m.now + n := by rw [e1]; rfl
    have e4 : wkOf (walkV x k n m y).1 (walkV x k n m y).2 = S := by
      unfold wkOf
      rw [e3, ← hpos, ← hp, e1, e2 3, e2 4, e2 9]
      rfl
    have hn : 0 < m.now := h.2.2.2.2.2.1
    have hl : k = 0 ∨ (walkV x k n m y).1.lie = 0 := by
      rcases h.1 with h | h
      · exact Or.inl h
      · by_cases hk : k = 0
        · exact Or.inl hk
        · right
          rw [e1]
          show (if k = 0 then m.lie + n else m.lie) = 0
          rw [if_neg hk]; exact h
    obtain ⟨s1, s2⟩ := step_one (x := x) (k := k) (walkV x k n m y).2 (by rw [e3]; omega) hl
    rw [e4] at s1 s2
    refine ⟨?_, fun c => ?_⟩
    · show stepM x (walkV x k n m y).1 k = _
      rw [s1, e1, ← thrM_next]
      rfl
    · show recB (stepC x (walkV x k n m y).1 k) (walkV x k n m y).2 (walkV x k n m y).1.now c = _
      rw [s2]
      unfold wkY
      split
      · rfl
      split
      · rfl
      split
      · rfl
      rename_i n3 n4 n9
      rw [← thrY_next n h c]
      have hy : ∀ d, ¬ d = 3 → ¬ d = 4 → ¬ d = 9 → (walkV x k n m y).2 d = thrY x k n m y d := fun d h3 h4 h9 => by rw [e2 d]; unfold wkY; rw [if_neg h3, if_neg h4, if_neg h9]
      rw [e1]
      unfold t1Y
      split
      · rw [hy 0 (by decide) (by decide) (by decide)]; rfl
      · rw [hy 1 (by decide) (by decide) (by decide)]; rfl
      · rw [hy 2 (by decide) (by decide) (by decide)]; rfl
      · rw [hy 5 (by decide) (by decide) (by decide)]; rfl
      · rw [hy 7 (by decide) (by decide) (by decide)]; rfl
      · exact hy _ n3 n4 n9

/-- Behind a block's first minute. -/
theorem noted_first {x : Nat → Int} {k : Int} {m : Mt} (hm : MayM m) (hn : m.now < 40320) : Noted x k (stepM x m k) (recB (stepC x m k) noneF m.now) := by
  have h1 := may_step (x := x) k hm hn
  have h0 := hm.1.1
  by_cases hk : k = 0
  · subst hk
    obtain ⟨h1, h2⟩ := h1
    obtain ⟨-, -, -, -, -, -, -, -, i1, i2, i3⟩ := h1
    refine ⟨Or.inl rfl, fun h => by omega, fun h => by omega, fun h => absurd rfl h, fun h => absurd rfl h, by show 0 < (stepM x m 0).now; omega, i1.1, i2.1, i3.1, fun h => by omega, fun h => by omega, fun h => by omega⟩
  · obtain ⟨h1, h2⟩ := h1
    obtain ⟨-, -, -, -, -, -, -, -, i1, i2, i3⟩ := h1
    have hwl : 0 ≤ (wrapM x m).lie := by rw [wrap_lie]; exact hm.2.2.1.1
    have hlie : (upR x (wrapM x m)).lie = 0 := by
      unfold upR
      split
      · rfl
      · omega
    have hnow : (upR x (wrapM x m)).now = m.now := by rw [(may_upR (may_wrap (x := x) hm).1).2, (may_wrap hm).2]
    have e1 : stepM x m k = { upM x (wrapM x m) k with now := (upM x (wrapM x m) k).now + 1 } := by unfold stepM; rw [if_neg hk]
    have e2 : stepC x m k = (upC x (wrapM x m) k).sum := by unfold stepC; rw [if_neg hk]
    have F : ∀ c, recB (stepC x m k) noneF m.now c = if (upC x (wrapM x m) k).get c = true ∧ noneF c < 0 then m.now else noneF c := fun c => by rw [e2, recB_sum]
    have P : ∀ c, (upC x (wrapM x m) k).get c = true → 0 ≤ recB (stepC x m k) noneF m.now c := fun c h => by
      rw [F c, if_pos ⟨h, by show (-1 : Int) < 0; decide⟩]; exact h0
    unfold upM at e1
    dsimp only at e1
    have G : ∀ c, (upC x (wrapM x m) k).get c = (Cl.mk (up8 x (wrapM x m)) (up6 x (wrapM x m)) (c5 x (upR x (wrapM x m))) (c7 x (upR x (wrapM x m))) (decide (k = 3) && c0 x (upR x (wrapM x m))) (decide (k = 3) && c2 x (upR x (wrapM x m))) (decide (k = 3) && c1 x (upR x (wrapM x m))) (decide (k = 3) && c3 x (upR x (wrapM x m))) (decide (k = 3) && c4 x (upR x (wrapM x m))) (decide (k = 3 ∨ k = 2) && c9 x (if k = 3 then driveM x (upR x (wrapM x m)) else upR x (wrapM x m)))).get c := fun c => rfl
    generalize upR x (wrapM x m) = r at *
    by_cases h3 : k = 3
    · subst h3
      rw [if_pos (Or.inl rfl), if_pos rfl] at e1
      rw [if_pos rfl] at G
      have hd : driveM x r = { r with acc := r.acc + 1, day := r.day + 1, longers := if r.day + 1 = x 4 + 1 then r.longers + 1 else r.longers, week := r.week + 1 } := by unfold driveM d2 d1; dsimp only; split <;> rfl
      rw [hd] at e1 G
      unfold workM at e1
      dsimp only at e1
      have q0 : (stepM x m 3).acc = r.acc + 1 := by rw [e1]
      have q1 : (stepM x m 3).day = r.day + 1 := by rw [e1]
      have q2 : (stepM x m 3).dawn = r.dawn := by rw [e1]
      have q3 : (stepM x m 3).sabbath = r.sabbath := by rw [e1]
      have q4 : (stepM x m 3).week = r.week + 1 := by rw [e1]
      have q5 : (stepM x m 3).last = r.last := by rw [e1]
      have q6 : (stepM x m 3).labour = r.labour + 1 := by rw [e1]
      have q7 : (stepM x m 3).lie = r.lie := by rw [e1]
      refine ⟨Or.inr (by rw [q7]; exact hlie), fun _ h => P 0 ?_, fun _ h => P 1 ?_, fun _ h => P 5 ?_, fun _ h => P 7 ?_, by show 0 < (stepM x m 3).now; omega, i1.1, i2.1, i3.1, fun _ h => P 3 ?_, fun _ h => P 4 ?_, fun _ h => P 9 ?_⟩
      all_goals rw [G]
      · rw [q0] at h; simpa [Cl.get, c0] using h
      · rw [q1] at h; simpa [Cl.get, c1] using h
      · rw [q2, h2] at h; simp only [Cl.get, c5, decide_eq_true_eq]; omega
      · rw [q3, h2] at h; simp only [Cl.get, c7, decide_eq_true_eq]; omega
      · replace h : x 15 < (stepM x m 3).week := h; rw [q4] at h; simpa [Cl.get, c3] using h
      · replace h : x 16 < (stepM x m 3).week + (stepM x m 3).last := h; rw [q4, q5] at h; simpa [Cl.get, c4] using h
      · replace h : x 17 < (stepM x m 3).labour := h; rw [q6] at h; simpa [Cl.get, c9] using h
    · rw [if_neg h3] at e1 G
      have q2 : (stepM x m k).dawn = r.dawn := by rw [e1]; split <;> rfl
      have q3 : (stepM x m k).sabbath = r.sabbath := by rw [e1]; split <;> rfl
      have q7 : (stepM x m k).lie = r.lie := by rw [e1]; split <;> rfl
      refine ⟨Or.inr (by rw [q7]; exact hlie), fun h => absurd h h3, fun h => absurd h h3, fun _ h => P 5 ?_, fun _ h => P 7 ?_, by show 0 < (stepM x m k).now; omega, i1.1, i2.1, i3.1, fun h => absurd h h3, fun h => absurd h h3, fun h' h => P 9 ?_⟩
      all_goals rw [G]
      · rw [q2, h2] at h; simp only [Cl.get, c5, decide_eq_true_eq]; omega
      · rw [q3, h2] at h; simp only [Cl.get, c7, decide_eq_true_eq]; omega
      · rw [if_pos h'] at e1
        have q6 : (stepM x m k).labour = r.labour + 1 := by rw [e1]; rfl
        replace h : x 17 < (stepM x m k).labour := h
        rw [q6] at h
        simpa [Cl.get, c9, h'] using h

end Go.Proofs.Ytlbafgdbemhanaa

/- The audit of a timeline in plain words: minute by minute, each clause's first minute and from where on it counts; whole records at once. Conditions: none beyond each lemma's own premises. -/
namespace Go.Proofs.Ytlbafgdbemhanaa
open Go.RowKit

/-- Of each clause its finding: from where on, and up to where. -/
abbrev Fd := Nat → Option (Int × Int)
def putF (F : Fd) (c : Nat) (v : Int × Int) : Fd := fun i => if i = c ∧ F i = none then some v else F i
/-- From where on the clause counts, with a minute t: the sweep's dawn, sabbath and last break's end given. -/
def sinceD (x : Nat → Int) (dawn sab p : Int) (c : Nat) (t : Int) : Int :=
  if c = 0 then p else if c = 1 ∨ c = 5 then dawn else if c = 3 ∨ c = 9 then t - t % x 18 else if c = 4 then max 0 (t - t % x 18 - x 18) else sab
def sinceV (x : Nat → Int) (m : Mt) (p : Int) (c : Nat) (t : Int) : Int := sinceD x m.dawn m.sabbath p c t
def recF (s : Nat) (F : Fd) (v : Nat → Int × Int) : Fd := fun c => if s.testBit c = true ∧ F c = none then some (v c) else F c
/-- The last break's end behind a minute of the kind. -/
def pauseV (x : Nat → Int) (m : Mt) (p k : Int) : Int := if ¬ k = 0 ∧ 0 < m.lie ∧ (endW x m).brk = true then m.now else p

/-- How far a timeline was gone over. -/
structure Au where
  m : Mt
  p : Int
  F : Fd

def Au.zero : Au := ⟨.zero, 0, fun _ => none⟩
def Au.step (x : Nat → Int) (a : Au) (k : Int) : Au := ⟨stepM x a.m k, pauseV x a.m a.p k, recF (stepC x a.m k) a.F (fun c => (sinceV x a.m a.p c a.m.now, a.m.now + 1))⟩
def Au.run (x : Nat → Int) (a : Au) (ks : List Int) : Au := ks.foldl (Au.step x) a

theorem Au.run_append (x : Nat → Int) (a : Au) (ks js : List Int) : a.run x (ks ++ js) = (a.run x ks).run x js := List.foldl_append
theorem Au.run_cons (x : Nat → Int) (a : Au) (k : Int) (ks : List Int) : a.run x (k :: ks) = (a.step x k).run x ks := rfl
theorem Au.run_snoc (x : Nat → Int) (a : Au) (ks : List Int) (k : Int) : a.run x (ks ++ [k]) = (a.run x ks).step x k := by rw [Au.run_append]; rfl

/-! ### What stays -/
/-- A minute with which no spell of rest ends. -/
theorem step_stay {x : Nat → Int} {k : Int} {m : Mt} (h : k = 0 ∨ m.lie = 0) : (stepM x m k).dawn = m.dawn ∧ (stepM x m k).sabbath = m.sabbath ∧ (k = 0 ∨ (stepM x m k).lie = 0) := by
  have hw : (wrapM x m).dawn = m.dawn ∧ (wrapM x m).sabbath = m.sabbath ∧ (wrapM x m).lie = m.lie := by unfold wrapM; split <;> exact ⟨rfl, rfl, rfl⟩
  unfold stepM
  dsimp only
  split
  · rename_i hk; exact ⟨hw.1, hw.2.1, .inl hk⟩
  · rename_i hk
    have hl : (wrapM x m).lie = 0 := by rw [hw.2.2]; exact h.resolve_left hk
    obtain ⟨u, -, -⟩ := upR_none (x := x) hl
    unfold upM
    rw [u]
    dsimp only
    have hd : (driveM x (wrapM x m)).dawn = m.dawn ∧ (driveM x (wrapM x m)).sabbath = m.sabbath ∧ (driveM x (wrapM x m)).lie = 0 := by
      unfold driveM d2 d1
      split <;> exact ⟨hw.1, hw.2.1, hl⟩
    split <;> split <;> first | exact ⟨hd.1, hd.2.1, .inr hd.2.2⟩ | exact ⟨hw.1, hw.2.1, .inr hl⟩

/-- Behind the awake minute's first one no rest is open. -/
theorem step_awake {x : Nat → Int} {k : Int} {m : Mt} (hm : 0 ≤ m.lie) : k = 0 ∨ (stepM x m k).lie = 0 := by
  by_cases hk : k = 0
  · exact .inl hk
  · right
    unfold stepM
    rw [if_neg hk]
    have hwl : 0 ≤ (wrapM x m).lie := by rw [wrap_lie]; exact hm
    have hr : (upR x (wrapM x m)).lie = 0 := by
      unfold upR
      split
      · rfl
      · omega
    unfold upM driveM d2 d1
    dsimp only
    split <;> split <;> first | (split <;> exact hr) | exact hr

/-- The first minutes of a block, as findings. -/
def comb (x : Nat → Int) (d s p : Int) (F : Fd) (y : Nat → Int) : Fd := fun c => if F c = none ∧ 0 ≤ y c then some (sinceD x d s p c (y c), y c + 1) else F c

theorem comb_none (x : Nat → Int) (d s p : Int) (F : Fd) : comb x d s p F noneF = F := by
  funext c
  unfold comb noneF
  rw [if_neg]
  omega

theorem comb_rec (x : Nat → Int) (d s p : Int) (F : Fd) (y : Nat → Int) (S : Nat) (t : Int) (ht : 0 ≤ t) :
    recF S (comb x d s p F y) (fun c => (sinceD x d s p c t, t + 1)) = comb x d s p F (recB S y t) := by
  funext c
  unfold recF comb recB
  cases hF : F c with
  | some v => simp
  | none =>
    by_cases hy : 0 ≤ y c
    · have : ¬ (y c < 0) := by omega
      simp [hy, this]
    · have h2 : y c < 0 := by omega
      by_cases hS : S.testBit c = true
      · simp [hy, h2, hS, ht]
      · simp [hy, h2, hS]

theorem run_same (x : Nat → Int) (k d s p : Int) (F : Fd) : ∀ (n : Nat) (m : Mt) (y : Nat → Int), (k = 0 ∨ m.lie = 0) → m.dawn = d → m.sabbath = s → MayM m → m.now + n ≤ 40320 →
    Au.run x ⟨m, p, comb x d s p F y⟩ (List.replicate n k) = ⟨(walkV x k n m y).1, p, comb x d s p F (walkV x k n m y).2⟩
  | 0, m, y, _, _, _, _, _ => rfl
  | n + 1, m, y, hl, hd, hs, hm, hn => by
    have h1 := may_step (x := x) k hm (by omega)
    obtain ⟨s1, s2, s3⟩ := step_stay (x := x) hl
    rw [List.replicate_succ, Au.run_cons]
    have e : Au.step x ⟨m, p, comb x d s p F y⟩ k = ⟨stepM x m k, p, comb x d s p F (recB (stepC x m k) y m.now)⟩ := by
      unfold Au.step
      dsimp only
      congr 1
      · unfold pauseV
        rw [if_neg]
        rintro ⟨a, b, -⟩
        rcases hl with h | h
        · exact a h
        · omega
      · rw [← comb_rec _ _ _ _ _ _ _ _ hm.1.1]
        unfold sinceV
        rw [hd, hs]
    rw [e]
    exact run_same x k d s p F n _ _ s3 (s1.trans hd) (s2.trans hs) h1.1 (by rw [h1.2]; omega)

/-- A record's minutes: the first one, and all others at once. -/
theorem run_record (x : Nat → Int) (k : Int) (a : Au) (n : Nat) (hm : MayM a.m) (hn : a.m.now + n + 1 ≤ 40320) :
    a.run x (List.replicate (n + 1) k) = ⟨(walkV x k n (stepM x a.m k) noneF).1, pauseV x a.m a.p k, comb x (stepM x a.m k).dawn (stepM x a.m k).sabbath (pauseV x a.m a.p k) (a.step x k).F (walkV x k n (stepM x a.m k) noneF).2⟩ := by
  have h1 := may_step (x := x) k hm (by omega)
  rw [List.replicate_succ, Au.run_cons]
  have := run_same x k (stepM x a.m k).dawn (stepM x a.m k).sabbath (pauseV x a.m a.p k) (a.step x k).F n (stepM x a.m k) noneF (step_awake hm.2.2.1.1) rfl rfl h1.1 (by rw [h1.2]; omega)
  rw [comb_none] at this
  exact this

/-! ### What holds behind each minute -/
/-- How the sweep stands behind t minutes. -/
structure Au.Ok (a : Au) (t : Int) : Prop where
  may : MayM a.m
  now : a.m.now = t
  lie : a.m.dawn + a.m.lie ≤ a.m.now
  p0 : 0 ≤ a.p
  p1 : a.p ≤ t
  F : ∀ c f u, a.F c = some (f, u) → c < 10 ∧ 0 ≤ f ∧ f < u ∧ u ≤ t

theorem Au.ok_zero : Au.zero.Ok 0 where
  may := by unfold MayM Au.zero Mt.zero; simp
  now := rfl
  lie := by unfold Au.zero Mt.zero; decide
  p0 := Int.le_refl _
  p1 := Int.le_refl _
  F := fun c f u h => by cases h

theorem mod_le {t L : Int} (h0 : 0 ≤ t) (hL : 1 ≤ L) : 0 ≤ t - t % L ∧ t - t % L ≤ t := by
  have h1 := Int.emod_nonneg t (show L ≠ 0 by omega)
  have h2 := Int.mul_ediv_add_emod t L
  have h3 : 0 ≤ t / L := Int.ediv_nonneg h0 (by omega)
  have h4 : 0 ≤ L * (t / L) := Int.mul_nonneg (by omega) h3
  omega

theorem since_le {x : Nat → Int} {d s p t : Int} (c : Nat) (h0 : 0 ≤ t) (hL : 1 ≤ x 18) (hd : 0 ≤ d ∧ d ≤ t) (hs : 0 ≤ s ∧ s ≤ t) (hp : 0 ≤ p ∧ p ≤ t) : 0 ≤ sinceD x d s p c t ∧ sinceD x d s p c t ≤ t := by
  have := mod_le h0 hL
  unfold sinceD
  split
  · exact hp
  split
  · exact hd
  split
  · exact this
  split
  · omega
  · exact hs

/-- Dawn lies ahead of the spell of rest. -/
theorem lie_step {x : Nat → Int} {k : Int} {m : Mt} (hm : MayM m) (hn : m.now < 40320) (h : m.dawn + m.lie ≤ m.now) : (stepM x m k).dawn + (stepM x m k).lie ≤ (stepM x m k).now := by
  by_cases hk : k = 0
  · have hw : (wrapM x m).dawn = m.dawn ∧ (wrapM x m).lie = m.lie ∧ (wrapM x m).now = m.now := by unfold wrapM; split <;> exact ⟨rfl, rfl, rfl⟩
    unfold stepM
    rw [if_pos hk]
    dsimp only
    omega
  · have h1 := may_step (x := x) k hm hn
    have h2 := (step_awake (x := x) (k := k) hm.2.2.1.1).resolve_left hk
    rw [h2]
    have := h1.1.2.2.2.1
    omega

theorem Au.ok_step {x : Nat → Int} {a : Au} {t : Int} (k : Int) (hL : 1 ≤ x 18) (h : a.Ok t) (ht : t < 40320) : (a.step x k).Ok (t + 1) := by
  have hn := h.now
  have hm := h.may
  have h1 := may_step (x := x) k hm (by omega)
  refine ⟨h1.1, by show (stepM x a.m k).now = _; rw [h1.2, hn], lie_step hm (by omega) h.lie, ?_, ?_, ?_⟩
  · show 0 ≤ pauseV x a.m a.p k
    unfold pauseV
    split
    · exact hm.1.1
    · exact h.p0
  · show pauseV x a.m a.p k ≤ t + 1
    unfold pauseV
    have := h.p1
    split <;> omega
  · intro c f u hF
    have hF' : recF (stepC x a.m k) a.F (fun c => (sinceV x a.m a.p c a.m.now, a.m.now + 1)) c = some (f, u) := hF
    unfold recF at hF'
    split at hF'
    · rename_i hc
      have hc10 : c < 10 := by
        refine Nat.lt_of_not_le fun hle => ?_
        have := Nat.testBit_lt_two_pow (Nat.lt_of_lt_of_le (stepC_lt x a.m k) (Nat.pow_le_pow_right (n := 2) (by omega) hle))
        rw [this] at hc
        cases hc.1
      have e := Option.some.inj hF'
      have e1 : sinceV x a.m a.p c a.m.now = f := congrArg Prod.fst e
      have e2 : a.m.now + 1 = u := congrArg Prod.snd e
      have hp0 := h.p0
      have hp1 := h.p1
      have := since_le (x := x) c (show 0 ≤ a.m.now from hm.1.1) hL hm.2.2.2.1 hm.2.2.2.2.2.2.2.1 ⟨hp0, by omega⟩
      unfold sinceV at e1
      rw [e1] at this
      omega
    · have := h.F c f u hF'
      omega

theorem Au.ok_run {x : Nat → Int} (hL : 1 ≤ x 18) : ∀ (ks : List Int) {a : Au} {t : Int}, a.Ok t → t + ks.length ≤ 40320 → (a.run x ks).Ok (t + ks.length)
  | [], a, t, h, _ => by simpa [Au.run] using h
  | k :: ks, a, t, h, hn => by
    have hn' : t + ks.length + 1 ≤ 40320 := by rw [List.length_cons] at hn; omega
    have := Au.ok_run hL ks (Au.ok_step k hL h (by omega)) (by omega)
    rw [Au.run_cons, List.length_cons]
    rw [show t + 1 + (ks.length : Int) = t + ((ks.length + 1 : Nat) : Int) by omega] at this
    exact this

/-! ### Beginnings of a timeline -/
theorem step_F (x : Nat → Int) (a : Au) (k : Int) (c : Nat) : (a.step x k).F c = if (stepC x a.m k).testBit c = true ∧ a.F c = none then some (sinceV x a.m a.p c a.m.now, a.m.now + 1) else a.F c := rfl

theorem step_old {x : Nat → Int} {a : Au} {k : Int} {c : Nat} {v : Int × Int} (h : a.F c = some v) : (a.step x k).F c = some v := by
  rw [step_F, if_neg, h]
  rw [h]; rintro ⟨-, h⟩; cases h

theorem run_old {x : Nat → Int} {c : Nat} {v : Int × Int} : ∀ (ks : List Int) {a : Au}, a.F c = some v → (a.run x ks).F c = some v
  | [], _, h => h
  | _ :: ks, _, h => run_old ks (step_old h)

/-- A finding is found with its last minute, and not ahead of it. -/
theorem run_witness {x : Nat → Int} (hL : 1 ≤ x 18) {ks : List Int} (hn : ks.length ≤ 40320) {c : Nat} {f u : Int} (h : (Au.zero.run x ks).F c = some (f, u)) :
    ∃ n : Nat, u = (n : Int) + 1 ∧ n < ks.length ∧ (Au.zero.run x (ks.take (n + 1))).F c = some (f, u) ∧ (Au.zero.run x (ks.take n)).F c = none := by
  have key : ∀ j, j ≤ ks.length → (Au.zero.run x (ks.take j)).F c = some (f, u) → ∃ n : Nat, u = (n : Int) + 1 ∧ n < j ∧ (Au.zero.run x (ks.take (n + 1))).F c = some (f, u) ∧ (Au.zero.run x (ks.take n)).F c = none := by
    intro j
    induction j with
    | zero => intro _ h; cases h
    | succ j ih =>
      intro hj h
      have hok := Au.ok_run hL (ks.take j) Au.ok_zero (by rw [List.length_take]; omega)
      have hnow : (Au.zero.run x (ks.take j)).m.now = (j : Int) := by
        rw [hok.now, List.length_take]; omega
      rw [List.take_succ_eq_append_getElem (by omega), Au.run_snoc] at h
      cases hF : (Au.zero.run x (ks.take j)).F c with
      | some v =>
        have := step_old (x := x) (k := ks[j]) hF
        rw [h] at this
        rw [← this] at hF
        obtain ⟨n, a, b, d⟩ := ih (by omega) hF
        exact ⟨n, a, by omega, d⟩
      | none =>
        have h2 := h
        rw [step_F] at h2
        split at h2
        · have e := Option.some.inj h2
          have e2 : (Au.zero.run x (ks.take j)).m.now + 1 = u := congrArg Prod.snd e
          refine ⟨j, by omega, by omega, ?_, hF⟩
          rw [List.take_succ_eq_append_getElem (by omega), Au.run_snoc]
          exact h
        · rw [hF] at h2; cases h2
  obtain ⟨n, a, b, d⟩ := key ks.length (Nat.le_refl _) (by rw [List.take_length]; exact h)
  exact ⟨n, a, b, d⟩

/-! ### The clauses that are broken are those of layer 13 -/
theorem run_meter {x : Nat → Int} : ∀ (ks : List Int) (a : Au) (s : Nat) (t : Int), a.Ok t → 1 ≤ x 18 → t + ks.length ≤ 40320 → (∀ k ∈ ks, 0 ≤ k ∧ k < 4) → (∀ c, s.testBit c = (a.F c).isSome) →
    (runV x a.m s ks).1 = (a.run x ks).m ∧ (runV x a.m s ks).2.2 = 0 ∧ ∀ c, (runV x a.m s ks).2.1.testBit c = ((a.run x ks).F c).isSome
  | [], a, s, t, _, _, _, _, h => ⟨rfl, rfl, h⟩
  | k :: ks, a, s, t, hok, hL, hn, hk, h => by
    have hk0 := hk k (by simp)
    have hnow := hok.now
    have hn' : t + ks.length + 1 ≤ 40320 := by rw [List.length_cons] at hn; omega
    rw [runV_cons, if_neg (by omega), if_neg (by omega), Au.run_cons]
    refine run_meter ks (a.step x k) _ (t + 1) (Au.ok_step k hL hok (by omega)) hL (by omega) (fun j hj => hk j (by simp [hj])) fun c => ?_
    rw [Nat.testBit_or, h c, step_F]
    cases hF : a.F c with
    | some v => simp
    | none => cases hb : (stepC x a.m k).testBit c <;> simp

end Go.Proofs.Ytlbafgdbemhanaa

/- Laxer books: what breaks nothing by a book breaks nothing by one that is nowhere stricter; beginnings, and rest behind. Conditions: none beyond each lemma's own premises. -/
namespace Go.Proofs.Ytlbafgdbemhanaa
open Go.RowKit

/-- Is the first book nowhere laxer? -/
structure Tg (x y : Nat → Int) : Prop where
  s1 : x 1 = y 1
  s2 : x 2 = y 2
  s3 : x 3 = y 3
  s7 : x 7 = y 7
  s8 : x 8 = y 8
  s10 : x 10 = y 10
  s12 : x 12 = y 12
  s13 : x 13 = y 13
  s18 : x 18 = y 18
  l0 : x 0 ≤ y 0
  l4 : x 4 ≤ y 4
  l5 : x 5 ≤ y 5
  l6 : x 6 ≤ y 6
  l9 : x 9 ≤ y 9
  l11 : x 11 ≤ y 11
  l14 : x 14 ≤ y 14
  l15 : x 15 ≤ y 15
  l16 : x 16 ≤ y 16
  l17 : x 17 ≤ y 17

def ov (d q : Int) : Int := if q < d then 1 else 0
/-- By the laxer book the meter is nowhere worse. -/
structure Lx (x y : Nat → Int) (s t : Mt) : Prop where
  now : t.now = s.now
  acc : t.acc = s.acc
  half : t.half = s.half
  lie : t.lie = s.lie
  dawn : t.dawn = s.dawn
  day : t.day = s.day
  split : t.split = s.split
  sabbath : t.sabbath = s.sabbath
  brief : t.brief = s.brief
  week : t.week = s.week
  last : t.last = s.last
  labour : t.labour = s.labour
  reduces : t.reduces ≤ s.reduces
  longers : t.longers - ov t.day (y 4) ≤ s.longers - ov s.day (x 4)
  few : s.longers ≤ x 6

theorem Lx.zero {x y : Nat → Int} (hx : 0 ≤ x 4) (hy : 0 ≤ y 4) (h6 : 0 ≤ x 6) : Lx x y .zero .zero := by
  constructor <;> first | rfl | exact Int.le_refl _ | skip
  · unfold ov Mt.zero
    dsimp only
    rw [if_neg (by omega), if_neg (by omega)]
    exact Int.le_refl _
  · exact h6

theorem Lx.wrap {x y : Nat → Int} {s t : Mt} (g : Tg x y) (h : Lx x y s t) : Lx x y (wrapM x s) (wrapM y t) := by
  obtain ⟨h1, h2, h3, h4, h5, h6, h7, h8, h9, h10, h11, h12, h13, h14, h15⟩ := h
  unfold wrapM
  rw [h1, ← g.s18]
  split
  · exact ⟨rfl, h2, h3, h4, h5, h6, h7, h8, h9, rfl, h10, rfl, h13, h14, h15⟩
  · exact ⟨h1, h2, h3, h4, h5, h6, h7, h8, h9, h10, h11, h12, h13, h14, h15⟩

/-- What a spell of rest is worth: reduced by the laxer book only where it is by the other one; all else is the same. -/
theorem worth_lax {x y : Nat → Int} {s t : Mt} (g : Tg x y) (h : Lx x y s t) :
    (endW y t).brk = (endW x s).brk ∧ (endW y t).half = (endW x s).half ∧ (endW y t).part = (endW x s).part ∧ (endW y t).daily = (endW x s).daily ∧ (endW y t).weekly = (endW x s).weekly ∧ (endW y t).brief = (endW x s).brief ∧
      ((endW y t).red = true → (endW x s).red = true) := by
  have e : ∀ q, q = s.now - (s.now - s.lie) → lastB q (y 1) = lastB q (x 1) ∧ True := fun q _ => ⟨by rw [g.s1], trivial⟩
  unfold endW ofV ofW
  rw [h.now, h.lie, h.half, h.split, h.dawn, g.s1, g.s2, g.s3, g.s7, g.s8, g.s10, g.s12, g.s13]
  refine ⟨rfl, rfl, rfl, rfl, rfl, rfl, ?_⟩
  dsimp only
  intro hr
  simp only [Bool.and_eq_true, Bool.not_eq_true', lastB, decide_eq_false_iff_not, decide_eq_true_eq] at hr ⊢
  have := g.l11
  obtain ⟨⟨⟨a, b⟩, c⟩, d⟩ := hr
  exact ⟨⟨⟨a, b⟩, c⟩, by omega⟩

/-- A weekly rest is a daily one. -/
theorem weekly_daily {x : Nat → Int} (hx : May x) (m : Mt) (h : (endW x m).weekly = true) : (endW x m).daily = true := by
  have := may_ord hx
  unfold endW ofV ofW at *
  dsimp only at *
  simp only [lastB, decide_eq_true_eq] at *
  omega

theorem ov_le (d : Int) {p q : Int} (h : p ≤ q) : ov d q ≤ ov d p := by unfold ov; split <;> split <;> omega
theorem ov_zero {q : Int} (h : 0 ≤ q) : ov 0 q = 0 := by unfold ov; rw [if_neg (by omega)]

theorem Lx.rise {x y : Nat → Int} {s t : Mt} (hx : May x) (hy : May y) (g : Tg x y) (h : Lx x y s t) (h6 : c6 x (endW x s) s = false) : Lx x y (endM (endW x s) s) (endM (endW y t) t) ∧ (c8 (endW x s) s = false → c8 (endW y t) t = false) ∧ c6 y (endW y t) t = false := by
  obtain ⟨w1, w2, w3, w4, w5, w6, w7⟩ := worth_lax g h
  have wd := weekly_daily hx s
  have p4 := (may_time hx 4 (by omega)).1
  have q4 := (may_time hy 4 (by omega)).1
  have p6 := (may_time hx 6 (by omega)).1
  generalize endW x s = v at *
  generalize endW y t = u at *
  obtain ⟨v1, v2, v3, v4, v5, v6, v7⟩ := v
  obtain ⟨u1, u2, u3, u4, u5, u6, u7⟩ := u
  dsimp only at w1 w2 w3 w4 w5 w6 w7 wd
  subst w1 w2 w3 w4 w5 w6
  obtain ⟨h1, h2, h3, h4, h5, h7, h8, h9, h10, h11, h12, h13, h14, h15, h16⟩ := h
  have hov := ov_le s.day g.l4
  have z1 := ov_zero p4
  have z2 := ov_zero q4
  have l9 := g.l9
  rw [h7] at h15
  unfold c6 c8 endM e3 e2 e1 at *
  dsimp only at *
  refine ⟨?_, ?_, ?_⟩
  · cases u6 with
    | true =>
      have hd := wd rfl
      subst hd
      constructor <;> (cases u5 <;> cases v5 <;> simp_all)
    | false =>
      cases u4 with
      | true => constructor <;> (cases u5 <;> cases v5 <;> simp_all <;> omega)
      | false => constructor <;> (cases u5 <;> cases v5 <;> simp_all <;> omega)
  · intro hb
    rw [h10]
    exact hb
  · cases u6 <;> cases u5 <;> cases v5 <;> simp_all <;> omega

theorem Lx.drive {x y : Nat → Int} {s t : Mt} (g : Tg x y) (h : Lx x y s t) (h2 : c2 x s = false) : Lx x y (driveM x s) (driveM y t) ∧ c2 y t = false := by
  obtain ⟨e1, e2, e3, e4, e5, e6, e7, e8, e9, e10, e11, e12, e13, e14, e15⟩ := h
  have l4 := g.l4
  have l6 := g.l6
  rw [e6] at e14
  unfold c2 at *
  rw [e6]
  have hv : ∀ d q : Int, ov (d + 1) q = ov d q + if d = q then 1 else 0 := fun d q => by
    unfold ov
    split <;> split <;> split <;> omega
  have hb : ∀ d q : Int, (d < q → ov d q = 0) ∧ (d = q → ov d q = 0) ∧ (q < d → ov d q = 1) := fun d q => by
    unfold ov
    refine ⟨fun h => ?_, fun h => ?_, fun h => ?_⟩ <;> split <;> omega
  have b1 := hb s.day (x 4)
  have b2 := hb s.day (y 4)
  have v1 := hv s.day (x 4)
  have v2 := hv s.day (y 4)
  have h2' : s.day = x 4 → s.longers + 1 ≤ x 6 := fun hd => by
    simp only [Bool.and_eq_false_iff, decide_eq_false_iff_not] at h2
    omega
  constructor
  · unfold driveM d2 d1
    dsimp only
    rw [e6]
    constructor
    · split <;> split <;> exact e1
    · split <;> split <;> (dsimp only; omega)
    · split <;> split <;> exact e3
    · split <;> split <;> exact e4
    · split <;> split <;> exact e5
    · split <;> split <;> rfl
    · split <;> split <;> exact e7
    · split <;> split <;> exact e8
    · split <;> split <;> exact e9
    · split <;> split <;> (dsimp only; omega)
    · split <;> split <;> exact e11
    · split <;> split <;> exact e12
    · split <;> split <;> exact e13
    · split <;> split <;> (dsimp only; rw [v1, v2]; split <;> split <;> omega)
    · split <;> (dsimp only; omega)
  · simp only [Bool.and_eq_false_iff, decide_eq_false_iff_not]
    by_cases hd : s.day + 1 = y 4 + 1
    · right
      rcases Int.lt_or_le (x 4) (y 4) with h | h
      · have := b1.2.2 (by omega)
        have := b2.2.1 (by omega)
        omega
      · have := h2' (by omega)
        have := b1.2.1 (by omega)
        have := b2.2.1 (by omega)
        omega
    · exact .inl hd

theorem Lx.work {x y : Nat → Int} {s t : Mt} (h : Lx x y s t) : Lx x y (workM s) (workM t) := by
  obtain ⟨e1, e2, e3, e4, e5, e6, e7, e8, e9, e10, e11, e12, e13, e14, e15⟩ := h
  exact ⟨e1, e2, e3, e4, e5, e6, e7, e8, e9, e10, e11, by show t.labour + 1 = s.labour + 1; rw [e12], e13, e14, e15⟩

theorem Cl.sum_zero {c : Cl} (h : ∀ i, i < 10 → c.get i = false) : c.sum = 0 := by
  apply Nat.eq_of_testBit_eq
  intro i
  rw [c.sum_bit, Nat.zero_testBit]
  by_cases hi : i < 10
  · exact h i hi
  · unfold Cl.get
    split <;> first | rfl | (exfalso; omega)

theorem step_get {x : Nat → Int} {m : Mt} {k : Int} (hk : ¬ k = 0) (h : stepC x m k = 0) : ∀ i, (upC x (wrapM x m) k).get i = false := fun i => by
  unfold stepC at h
  rw [if_neg hk] at h
  rw [← Cl.sum_bit, h, Nat.zero_testBit]

theorem Lx.step {x y : Nat → Int} {s t : Mt} (hx : May x) (hy : May y) (g : Tg x y) (h : Lx x y s t) (k : Int) (h0 : stepC x s k = 0) : stepC y t k = 0 ∧ Lx x y (stepM x s k) (stepM y t k) := by
  have hw := h.wrap g
  by_cases hk : k = 0
  · subst hk
    refine ⟨rfl, ?_⟩
    unfold stepM
    rw [if_pos rfl, if_pos rfl]
    obtain ⟨e1, e2, e3, e4, e5, e6, e7, e8, e9, e10, e11, e12, e13, e14, e15⟩ := hw
    exact ⟨by show (wrapM y t).now + 1 = (wrapM x s).now + 1; rw [e1], e2, e3, by show (wrapM y t).lie + 1 = (wrapM x s).lie + 1; rw [e4], e5, e6, e7, e8, e9, e10, e11, e12, e13, e14, e15⟩
  have hg := step_get hk h0
  unfold stepC stepM
  rw [if_neg hk, if_neg hk, if_neg hk]
  generalize wrapM x s = a at *
  generalize wrapM y t = b at *
  have g0 := hg 0; have g1 := hg 1; have g2 := hg 2; have g3 := hg 3; have g4 := hg 4; have g5 := hg 5; have g6 := hg 6; have g7 := hg 7; have g8 := hg 8; have g9 := hg 9
  clear hg h0 h
  unfold upC at g0 g1 g2 g3 g4 g5 g6 g7 g8 g9
  simp only [Cl.get] at g0 g1 g2 g3 g4 g5 g6 g7 g8 g9
  -- behind the end of a rest
  have hR : Lx x y (upR x a) (upR y b) ∧ up8 y b = false ∧ up6 y b = false := by
    unfold up8 up6 upR at *
    rw [hw.lie]
    by_cases hl : 0 < a.lie
    · have dl : decide (0 < a.lie) = true := decide_eq_true hl
      rw [dl, Bool.true_and] at g8 g6 ⊢
      rw [if_pos hl, if_pos hl, Bool.true_and]
      obtain ⟨r1, r2, r3⟩ := hw.rise hx hy g g6
      exact ⟨r1, r2 g8, r3⟩
    · have dl : decide (0 < a.lie) = false := decide_eq_false hl
      rw [dl, if_neg hl, if_neg hl]
      exact ⟨hw, rfl, rfl⟩
  obtain ⟨hr, r8, r6⟩ := hR
  unfold upC upM
  rw [r8, r6]
  generalize upR x a = r at *
  generalize upR y b = q at *
  have l0 := g.l0; have l5 := g.l5; have l11 := g.l11; have l14 := g.l14; have l15 := g.l15; have l16 := g.l16; have l17 := g.l17; have s8 := g.s8
  have n1 := hr.now; have n2 := hr.acc; have n5 := hr.dawn; have n6 := hr.day; have n8 := hr.sabbath; have n10 := hr.week; have n11 := hr.last; have n12 := hr.labour
  have q5 : c5 y q = false := by unfold c5 at *; simp only [decide_eq_false_iff_not] at *; omega
  have q7 : c7 y q = false := by unfold c7 at *; simp only [decide_eq_false_iff_not] at *; omega
  have fin : ∀ {u v : Mt}, Lx x y u v → Lx x y { u with now := u.now + 1 } { v with now := v.now + 1 } := fun {u v} hh => by
    obtain ⟨e1, e2, e3, e4, e5, e6, e7, e8, e9, e10, e11, e12, e13, e14, e15⟩ := hh
    exact ⟨by show v.now + 1 = u.now + 1; rw [e1], e2, e3, e4, e5, e6, e7, e8, e9, e10, e11, e12, e13, e14, e15⟩
  by_cases h3 : k = 3
  · subst h3
    simp only [decide_true, Bool.true_and, if_true, true_or] at g0 g1 g2 g3 g4 g9 ⊢
    obtain ⟨hd, q2⟩ := hr.drive g g2
    have d12 := hd.labour
    have q0 : c0 y q = false := by unfold c0 at *; simp only [decide_eq_false_iff_not] at *; omega
    have q1 : c1 y q = false := by unfold c1 at *; simp only [decide_eq_false_iff_not] at *; omega
    have q3 : c3 y q = false := by unfold c3 at *; simp only [decide_eq_false_iff_not] at *; omega
    have q4 : c4 y q = false := by unfold c4 at *; simp only [decide_eq_false_iff_not] at *; omega
    have q9 : c9 y (driveM y q) = false := by unfold c9 at *; simp only [decide_eq_false_iff_not] at *; omega
    refine ⟨?_, fin hd.work⟩
    rw [q0, q1, q2, q3, q4, q5, q7, q9]
    rfl
  · by_cases h2 : k = 2
    · subst h2
      simp only [if_false, show ¬ ((2 : Int) = 3) by decide, decide_false, Bool.false_and, or_true, decide_true, Bool.true_and, if_true] at g9 ⊢
      have q9 : c9 y q = false := by unfold c9 at *; simp only [decide_eq_false_iff_not] at *; omega
      refine ⟨?_, fin hr.work⟩
      rw [q5, q7, q9]
      rfl
    · simp only [h3, h2, if_false, decide_false, Bool.false_and, or_self]
      refine ⟨?_, fin hr⟩
      rw [q5, q7]
      rfl

/-! ### No minute breaks a clause -/
def Clean (x : Nat → Int) : Mt → List Int → Prop
  | _, [] => True
  | m, k :: ks => stepC x m k = 0 ∧ Clean x (stepM x m k) ks

theorem clean_append {x : Nat → Int} : ∀ {a b : List Int} {m : Mt}, Clean x m (a ++ b) → Clean x m a
  | [], _, _, _ => trivial
  | _ :: _, _, _, h => ⟨h.1, clean_append h.2⟩
theorem clean_rest {x : Nat → Int} : ∀ {a : List Int} {m : Mt} (n : Nat), Clean x m a → Clean x m (a ++ List.replicate n 0)
  | [], _, 0, _ => trivial
  | [], m, n + 1, _ => ⟨rfl, clean_rest (a := []) n trivial⟩
  | _ :: _, _, n, h => ⟨h.1, clean_rest n h.2⟩
theorem clean_lax {x y : Nat → Int} (hx : May x) (hy : May y) (g : Tg x y) : ∀ {ks : List Int} {s t : Mt}, Lx x y s t → Clean x s ks → Clean y t ks
  | [], _, _, _, _ => trivial
  | k :: _, _, _, h, hc => by
    obtain ⟨h1, h2⟩ := h.step hx hy g k hc.1
    exact ⟨h1, clean_lax hx hy g h2 hc.2⟩
theorem clean_run {x : Nat → Int} : ∀ {ks : List Int} {a : Au}, (∀ c, a.F c = none) → ((∀ c, (a.run x ks).F c = none) ↔ Clean x a.m ks)
  | [], a, h => ⟨fun _ => trivial, fun _ => h⟩
  | k :: ks, a, h => by
    rw [Au.run_cons]
    constructor
    · intro hh
      have hs : stepC x a.m k = 0 := by
        apply Nat.eq_of_testBit_eq
        intro c
        rw [Nat.zero_testBit, Bool.eq_false_iff]
        intro hb
        have h1 : (a.step x k).F c = some (sinceV x a.m a.p c a.m.now, a.m.now + 1) := by rw [step_F, if_pos ⟨hb, h c⟩]
        have h2 := run_old (x := x) ks h1
        rw [hh c] at h2
        cases h2
      have h3 : ∀ c, (a.step x k).F c = none := fun c => by rw [step_F, hs, Nat.zero_testBit, if_neg (by simp)]; exact h c
      exact ⟨hs, (clean_run h3).1 hh⟩
    · rintro ⟨hs, hc⟩
      have h3 : ∀ c, (a.step x k).F c = none := fun c => by rw [step_F, hs, Nat.zero_testBit, if_neg (by simp)]; exact h c
      exact (clean_run h3).2 hc

end Go.Proofs.Ytlbafgdbemhanaa

/- Findings as a list, and as one a clause; the set of their clauses; the sorted list. Conditions: none beyond each lemma's own premises. -/
namespace Go.Proofs.Ytlbafgdbemhanaa
open Go.RowKit

/-- How many clauses have a finding. -/
def oneF (o : Option (Int × Int)) : Nat := if o.isSome then 1 else 0
def cntF (F : Fd) : Nat := oneF (F 0) + oneF (F 1) + oneF (F 2) + oneF (F 3) + oneF (F 4) + oneF (F 5) + oneF (F 6) + oneF (F 7) + oneF (F 8) + oneF (F 9)
theorem oneF_le (o : Option (Int × Int)) : oneF o ≤ 1 := by unfold oneF; split <;> omega
theorem cntF_le (F : Fd) : cntF F ≤ 10 := by
  have h0 := oneF_le (F 0); have h1 := oneF_le (F 1); have h2 := oneF_le (F 2); have h3 := oneF_le (F 3); have h4 := oneF_le (F 4); have h5 := oneF_le (F 5); have h6 := oneF_le (F 6); have h7 := oneF_le (F 7); have h8 := oneF_le (F 8); have h9 := oneF_le (F 9)
  unfold cntF
  omega
theorem cntF_put {F : Fd} {c : Nat} (v : Int × Int) (hc : c < 10) (h : F c = none) : cntF (putF F c v) = cntF F + 1 := by
  have e : ∀ i, putF F c v i = if i = c then some v else F i := fun i => by
    unfold putF
    by_cases hi : i = c
    · subst hi; simp [h]
    · simp [hi]
  have o1 : oneF (some v) = 1 := rfl
  have o0 : oneF (F c) = 0 := by rw [h]; rfl
  unfold cntF
  simp only [e]
  have : c = 0 ∨ c = 1 ∨ c = 2 ∨ c = 3 ∨ c = 4 ∨ c = 5 ∨ c = 6 ∨ c = 7 ∨ c = 8 ∨ c = 9 := by omega
  rcases this with rfl | rfl | rfl | rfl | rfl | rfl | rfl | rfl | rfl | rfl <;> (simp; omega)

/-- The list has just the findings of F. -/
structure Rep (l : List Rc) (F : Fd) : Prop where
  mem : ∀ r : Rc, r ∈ l ↔ ∃ c : Nat, c < 10 ∧ F c = some r.2 ∧ r.1 = (c : Int)
  len : l.length = cntF F

theorem Rep.nil : Rep [] (fun _ => none) := ⟨fun r => by simp, rfl⟩
theorem Rep.le {l : List Rc} {F : Fd} (h : Rep l F) : l.length ≤ 10 := by rw [h.len]; exact cntF_le F
theorem Rep.put {l : List Rc} {F : Fd} {c : Nat} {f t : Int} (h : Rep l F) (hc : c < 10) (hF : F c = none) : Rep (l ++ [((c : Int), f, t)]) (putF F c (f, t)) where
  len := by rw [List.length_append, h.len, cntF_put _ hc hF]; rfl
  mem r := by
    rw [List.mem_append, h.mem, List.mem_singleton]
    unfold putF
    constructor
    · rintro (⟨i, hi, hv, hr⟩ | rfl)
      · refine ⟨i, hi, ?_, hr⟩
        rw [if_neg, hv]
        rintro ⟨_, h2⟩
        rw [hv] at h2; cases h2
      · exact ⟨c, hc, by rw [if_pos ⟨rfl, hF⟩], rfl⟩
    · rintro ⟨i, hi, hv, hr⟩
      split at hv
      · rename_i hh
        obtain ⟨rfl, _⟩ := hh
        right
        have := Option.some.inj hv
        obtain ⟨a, b⟩ := r
        dsimp only at hr this
        rw [hr, ← this]
      · exact .inl ⟨i, hi, hv, hr⟩

/-- The set of the findings' clauses. -/
def setL (l : List Rc) : Nat := l.foldl (fun s r => if isC r.1 then s ||| 2 ^ r.1.toNat else s) 0
theorem setL_snoc (l : List Rc) (r : Rc) : setL (l ++ [r]) = if isC r.1 then setL l ||| 2 ^ r.1.toNat else setL l := by unfold setL; rw [List.foldl_append]; rfl
theorem setL_take {l : List Rc} {k : Nat} {x y z : Int} (hk : k < l.length) (h : l.getD k rz = (x, y, z)) : setL (l.take (k + 1)) = if isC x then setL (l.take k) ||| 2 ^ x.toNat else setL (l.take k) := by
  have e : l[k] = (x, y, z) := by rw [← h]; simp [List.getD, hk]
  rw [List.take_succ_eq_append_getElem hk, setL_snoc, e]
theorem setL_lt (l : List Rc) : setL l < 65536 := by
  have key : ∀ (l : List Rc) (s : Nat), s < 2 ^ 16 → l.foldl (fun s r => if isC r.1 then s ||| 2 ^ r.1.toNat else s) s < 2 ^ 16 := by
    intro l
    induction l with
    | nil => intro s h; exact h
    | cons r l ih =>
      intro s h
      refine ih _ ?_
      dsimp only
      split
      · rename_i hc
        refine Nat.or_lt_two_pow h (Nat.pow_lt_pow_right (by omega) ?_)
        have h1 := hc.1
        have h2 := hc.2
        omega
      · exact h
  exact key l 0 (by decide)
theorem pow_bit (a c : Nat) : (2 ^ a).testBit c = decide (a = c) := Nat.testBit_two_pow
theorem setL_bit (l : List Rc) (c : Nat) : (setL l).testBit c = true ↔ c < 16 ∧ ∃ r ∈ l, r.1 = (c : Int) := by
  have key : ∀ (l : List Rc) (s : Nat), (l.foldl (fun s r => if isC r.1 then s ||| 2 ^ r.1.toNat else s) s).testBit c = true ↔ s.testBit c = true ∨ (c < 16 ∧ ∃ r ∈ l, r.1 = (c : Int)) := by
    intro l
    induction l with
    | nil => intro s; simp
    | cons r l ih =>
      intro s
      rw [List.foldl_cons, ih]
      by_cases hc : isC r.1
      · obtain ⟨k, hk, he⟩ := isC_of hc
        rw [if_pos hc, Nat.testBit_or, pow_bit, he]
        simp only [Int.toNat_natCast, Bool.or_eq_true, decide_eq_true_eq, List.mem_cons, exists_eq_or_imp]
        constructor
        · rintro ((h | h) | ⟨h1, h2⟩)
          · exact .inl h
          · exact .inr ⟨by omega, .inl (by rw [he, h])⟩
          · exact .inr ⟨h1, .inr h2⟩
        · rintro (h | ⟨h1, h | h⟩)
          · exact .inl (.inl h)
          · exact .inl (.inr (by rw [he] at h; omega))
          · exact .inr ⟨h1, h⟩
      · rw [if_neg hc]
        constructor
        · rintro (h | ⟨h1, r', h2, h3⟩)
          · exact .inl h
          · exact .inr ⟨h1, r', by simp [h2], h3⟩
        · rintro (h | ⟨h1, r', h2, h3⟩)
          · exact .inl h
          · rcases List.mem_cons.1 h2 with rfl | h2
            · exact absurd ⟨by omega, by omega⟩ hc
            · exact .inr ⟨h1, r', h2, h3⟩
  have := key l 0
  rw [Nat.zero_testBit] at this
  exact this.trans ⟨fun h => h.elim (fun h => by cases h) id, fun h => .inr h⟩

theorem bitV_nat (s c : Nat) : bitV (s : Int) c = s.testBit c := by
  unfold bitV
  have e : (s : Int) / 2 ^ c = ((s / 2 ^ c : Nat) : Int) := by rw [Int.natCast_ediv, Int.natCast_pow]; rfl
  rw [e, Nat.testBit_eq_decide_div_mod_eq]
  by_cases h : s / 2 ^ c % 2 = 1
  · simp [h]; omega
  · simp [h]; omega

/-- Whether a clause has been found. -/
theorem Rep.bit {l : List Rc} {F : Fd} (h : Rep l F) {c : Nat} (hc : c < 10) : (setL l).testBit c = (F c).isSome := by
  rw [Bool.eq_iff_iff, setL_bit]
  constructor
  · rintro ⟨_, r, hr, he⟩
    obtain ⟨i, _, hv, hi⟩ := (h.mem r).1 hr
    have : i = c := by rw [he] at hi; omega
    subst this
    rw [hv]; rfl
  · intro hs
    obtain ⟨v, hv⟩ := Option.isSome_iff_exists.1 hs
    exact ⟨by omega, ((c : Int), v), (h.mem _).2 ⟨c, hc, hv, rfl⟩, rfl⟩
theorem Rep.inS {l : List Rc} {F : Fd} (h : Rep l F) {c : Nat} (hc : c < 10) : inV (setL l) c = (F c).isSome := by
  unfold inV
  rw [decide_eq_true (isC_nat (by omega)), Bool.true_and, Int.toNat_natCast, bitV_nat, h.bit hc]

/-- The findings in the clauses' order. -/
def listF (F : Fd) : List Rc := (List.range 10).filterMap fun c => (F c).map fun v => ((c : Int), v)
theorem listF_mem (F : Fd) (r : Rc) : r ∈ listF F ↔ ∃ c : Nat, c < 10 ∧ F c = some r.2 ∧ r.1 = (c : Int) := by
  unfold listF
  rw [List.mem_filterMap]
  constructor
  · rintro ⟨c, hc, h⟩
    obtain ⟨v, hv, he⟩ := Option.map_eq_some_iff.1 h
    subst he
    exact ⟨c, by simpa using hc, hv, rfl⟩
  · rintro ⟨c, hc, h, he⟩
    refine ⟨c, by simpa using hc, ?_⟩
    rw [h]
    obtain ⟨a, b⟩ := r
    dsimp only at he
    rw [he]; rfl
theorem listF_sorted (F : Fd) : (listF F).Pairwise fun a b => a.1 < b.1 := by
  unfold listF
  refine List.Pairwise.filterMap _ ?_ List.pairwise_lt_range
  intro a b hab r hr s hs
  obtain ⟨_, _, rfl⟩ := Option.map_eq_some_iff.1 hr
  obtain ⟨_, _, rfl⟩ := Option.map_eq_some_iff.1 hs
  show (a : Int) < (b : Int)
  omega
theorem listF_set {l : List Rc} {F : Fd} (h : Rep l F) : SetF (listF F) l :=
  ⟨(listF_sorted F).imp fun {_ _} h => .inl h, fun r => (listF_mem F r).trans (h.mem r).symm⟩
theorem sort_rep {l r : List Rc} {F : Fd} (h : Rep l F) (hs : SetF r l) : r = listF F := setF_unique hs (listF_set h)
theorem listF_rep_bit (F : Fd) {c : Nat} (hc : c < 10) : (setL (listF F)).testBit c = (F c).isSome := by
  rw [Bool.eq_iff_iff, setL_bit]
  constructor
  · rintro ⟨_, r, hr, he⟩
    obtain ⟨i, _, hv, hi⟩ := (listF_mem F r).1 hr
    have : i = c := by rw [he] at hi; omega
    subst this
    rw [hv]; rfl
  · intro hs
    obtain ⟨v, hv⟩ := Option.isSome_iff_exists.1 hs
    exact ⟨by omega, ((c : Int), v), (listF_mem F _).2 ⟨c, hc, hv, rfl⟩, rfl⟩
theorem listF_nil {F : Fd} (h : ∀ c, c < 10 → F c = none) : listF F = [] := by
  apply List.eq_nil_iff_forall_not_mem.2
  intro r hr
  obtain ⟨c, hc, hv, _⟩ := (listF_mem F r).1 hr
  rw [h c hc] at hv; cases hv
theorem listF_len (F : Fd) : (listF F).length ≤ 10 := Nat.le_trans (List.length_filterMap_le _ _) (by simp)

/-! ### Many clauses, one by one -/
/-- The clauses of a list found. -/
def recL (L : List Int) (F : Fd) (v : Nat → Int × Int) : Fd := fun c => if (c : Int) ∈ L ∧ F c = none then some (v c) else F c
theorem recL_nil (F : Fd) (v : Nat → Int × Int) : recL [] F v = F := by funext c; simp [recL]
theorem recL_snoc (L : List Int) (F : Fd) (v : Nat → Int × Int) (c : Nat) : putF (recL L F v) c (v c) = recL (L ++ [(c : Int)]) F v := by
  funext i
  unfold putF recL
  by_cases hi : i = c
  · subst hi
    by_cases h1 : (i : Int) ∈ L
    · cases hF : F i <;> simp [h1]
    · cases hF : F i <;> simp [h1]
  · have h2 : ¬ ((i : Int) = (c : Int)) := by omega
    cases hF : F i <;> simp [hi, h2]
theorem recL_all {s : Nat} (hs : s < 1024) (F : Fd) (v : Nat → Int × Int) : recL (allN (s : Int) 16) F v = recF s F v := by
  funext c
  unfold recL recF
  have : (c : Int) ∈ allN (s : Int) 16 ↔ s.testBit c = true := by
    rw [all_mem]
    constructor
    · rintro ⟨_, h⟩
      rw [Int.toNat_natCast, bitV_nat] at h
      exact h
    · intro h
      have hc : c < 10 := by
        refine Nat.lt_of_not_le fun hle => ?_
        have := Nat.testBit_lt_two_pow (Nat.lt_of_lt_of_le hs (Nat.pow_le_pow_right (n := 2) (by omega) hle))
        rw [this] at h
        cases h
      exact ⟨isC_nat (by omega), by rw [Int.toNat_natCast, bitV_nat]; exact h⟩
  simp only [this]
theorem all_lt {s : Nat} (hs : s < 1024) {c : Int} (h : c ∈ allN (s : Int) 16) : ∃ k : Nat, k < 10 ∧ c = (k : Int) := by
  obtain ⟨hc, hb⟩ := (all_mem _ _).1 h
  obtain ⟨k, _, rfl⟩ := isC_of hc
  refine ⟨k, ?_, rfl⟩
  rw [Int.toNat_natCast, bitV_nat] at hb
  refine Nat.lt_of_not_le fun hle => ?_
  have := Nat.testBit_lt_two_pow (Nat.lt_of_lt_of_le hs (Nat.pow_le_pow_right (n := 2) (by omega) hle))
  rw [this] at hb
  cases hb

/-- The first minutes of the clauses below c. -/
def combT (x : Nat → Int) (d s p : Int) (F : Fd) (y : Nat → Int) (c : Nat) : Fd := fun i => if i < c then comb x d s p F y i else F i
theorem combT_zero (x : Nat → Int) (d s p : Int) (F : Fd) (y : Nat → Int) : combT x d s p F y 0 = F := by funext i; simp [combT]
theorem combT_yes {x : Nat → Int} {d s p : Int} {F : Fd} {y : Nat → Int} {c : Nat} (h : 0 ≤ y c) : putF (combT x d s p F y c) c (sinceD x d s p c (y c), y c + 1) = combT x d s p F y (c + 1) := by
  funext i
  unfold putF combT
  by_cases hi : i = c
  · subst hi
    rw [if_neg (by omega : ¬ i < i), if_pos (by omega : i < i + 1)]
    unfold comb
    cases hF : F i <;> simp [h]
  · rw [if_neg (fun hh => hi hh.1)]
    by_cases hl : i < c
    · rw [if_pos hl, if_pos (by omega)]
    · rw [if_neg hl, if_neg (by omega)]
theorem combT_no {x : Nat → Int} {d s p : Int} {F : Fd} {y : Nat → Int} {c : Nat} (h : ¬ 0 ≤ y c) : combT x d s p F y c = combT x d s p F y (c + 1) := by
  funext i
  unfold combT
  by_cases hi : i = c
  · subst hi
    rw [if_neg (by omega : ¬ i < i), if_pos (by omega : i < i + 1)]
    unfold comb
    rw [if_neg]
    exact fun hh => h hh.2
  · by_cases hl : i < c
    · rw [if_pos hl, if_pos (by omega)]
    · rw [if_neg hl, if_neg (by omega)]
theorem combT_ten {x : Nat → Int} {d s p : Int} {F : Fd} {y : Nat → Int} (hy : ∀ c, 10 ≤ c → y c = -1) : combT x d s p F y 10 = comb x d s p F y := by
  funext i
  unfold combT
  split
  · rfl
  · unfold comb
    rw [if_neg]
    rintro ⟨_, h⟩
    rw [hy i (by omega)] at h
    omega
/-- Above the ten clauses no first minute is noted. -/
theorem walk_high (x : Nat → Int) (k : Int) : ∀ (n : Nat) (m : Mt) (y : Nat → Int), (∀ c, 10 ≤ c → y c = -1) → ∀ c, 10 ≤ c → (walkV x k n m y).2 c = -1
  | 0, _, _, h => h
  | n + 1, m, y, h => walk_high x k n _ _ fun c hc => by
    unfold recB
    rw [if_neg]
    · exact h c hc
    · rintro ⟨hh, _⟩
      rw [Nat.testBit_lt_two_pow (Nat.lt_of_lt_of_le (stepC_lt x m k) (Nat.pow_le_pow_right (n := 2) (by omega) hc))] at hh
      cases hh

end Go.Proofs.Ytlbafgdbemhanaa
