/- Plain facts, several texts in one: BookAlive, SpellMath, MeterMath, LabelMath, MeterChk, MeterLaws, MeterMayR, MeterSt, MeterLeaf, MtrRead. Conditions: none beyond each lemma's own premises. -/
import Derived.Test.YtolbihfnogbjaaaRows
import Derived.Test.YtolbihfnogbjaaaBase
import Derived.Test.YtolbihfnogbjaaaZ2
import Derived.Test.YtolbihfnogbjaaaBookNum
import Derived.Test.YtolbihfnogbjaaaBookOrd
import Derived.Test.YtolbihfnogbjaaaBookLim
import Derived.WalkKit
import Derived.WalkSpells
import Derived.WalkSmall
import Derived.Below
import Derived.Lib.Hide
import Derived.Outline
import Derived.Great.BuildSlice
import Derived.BigQuiet
import Derived.Deep.QuietTactic
import Derived.Laws.BitsAllLaws
import Derived.KernelRfl
import Derived.Test.YtolbihfnogbjaaaZ1
import Derived.Test.YtolbihfnogbjaaaZ3
import Derived.OwnWalk
import Derived.Maps.RangeWalk
import Derived.Laws.StructEq
import Derived.OrdersHeld
import Derived.Deep.Quiet
import Derived.Shelf.Abstract
import Derived.OpenShut
import Derived.ChangeSame
import Derived.Lib.SmallJoins
import Derived.ProofKit
import Derived.Deep.Slices
import Derived.Deep.Fields

/- The examples of layer 7 hold in every world. Conditions: none. -/
namespace Go.Proofs.Ytolbihfnogbjaaa
open Go.RowKit

theorem may_eu : May euV := by
  refine ⟨fun i hi => ?_, by unfold Ord; decide⟩
  have : i = 0 ∨ i = 1 ∨ i = 2 ∨ i = 3 ∨ i = 4 ∨ i = 5 ∨ i = 6 ∨ i = 7 ∨ i = 8 ∨ i = 9 ∨ i = 10 ∨ i = 11 ∨ i = 12 ∨ i = 13 ∨ i = 14 ∨ i = 15 ∨ i = 16 ∨ i = 17 ∨ i = 18 := by omega
  rcases this with rfl | rfl | rfl | rfl | rfl | rfl | rfl | rfl | rfl | rfl | rfl | rfl | rfl | rfl | rfl | rfl | rfl | rfl | rfl <;> (unfold lim; decide)

end Go.Proofs.Ytolbihfnogbjaaa

/- What a spell of rest is worth, in plain words. Conditions: none. -/
namespace Go.Proofs.Ytolbihfnogbjaaa
open Go.RowKit

/-- What a spell counts as. -/
structure Wo where
  brk : Bool
  half : Bool
  part : Bool
  daily : Bool
  red : Bool
  weekly : Bool
  brief : Bool

def Wo.zero : Wo := ⟨false, false, false, false, false, false, false⟩
/-- Its cells. -/
def wo (s : Wo) : Array Value := #[.bool s.brk, .bool s.half, .bool s.part, .bool s.daily, .bool s.red, .bool s.weekly, .bool s.brief]
def Wo.set (s : Wo) (k : Nat) (b : Bool) : Wo := match k with
  | 0 => { s with brk := b }
  | 1 => { s with half := b }
  | 2 => { s with part := b }
  | 3 => { s with daily := b }
  | 4 => { s with red := b }
  | 5 => { s with weekly := b }
  | _ => { s with brief := b }

theorem wo_set (s : Wo) (k : Nat) (b : Bool) (hk : k < 7) : (wo s).setIfInBounds k (.bool b) = wo (s.set k b) := by
  have : k = 0 ∨ k = 1 ∨ k = 2 ∨ k = 3 ∨ k = 4 ∨ k = 5 ∨ k = 6 := by omega
  rcases this with rfl | rfl | rfl | rfl | rfl | rfl | rfl <;> rfl
theorem wo_size (s : Wo) : (wo s).size = 7 := rfl
theorem wo_one (s : Wo) : (wo s).all (·.oneCell') = true := by kernel_rfl

/-- Are they the same, part by part? -/
def Wo.eqB (s u : Wo) : Bool := s.brk == u.brk && (s.half == u.half && (s.part == u.part && (s.daily == u.daily && (s.red == u.red && (s.weekly == u.weekly && s.brief == u.brief)))))
theorem Wo.eqB_self (s : Wo) : s.eqB s = true := by simp [Wo.eqB]

/-- Does a spell of l minutes last n? -/
def lastB (l n : Int) : Bool := decide (n ≤ l)
def ofW (br se fi pa da wk fu rg half split : Bool) : Wo :=
  ⟨br || (half && se), !(br || (half && se)) && (half || fi), !da && pa, da, da && !wk && !split && !rg, wk, wk && !fu⟩
def ofV (x : Nat → Int) (f t dawn : Int) (half split : Bool) : Wo :=
  ofW (lastB (t - f) (x 1)) (lastB (t - f) (x 3)) (lastB (t - f) (x 2)) (lastB (t - f) (x 10)) (lastB (t - f) (x 8)) (lastB (t - f) (x 13)) (lastB (t - f) (x 12)) (lastB (min t (dawn + x 11) - f) (x 7)) half split

open Classical in
/-- What is wrong with what Of is handed. -/
noncomputable def spellErr (x : Nat → Int) (f t dawn : Int) : Int := if May x then (if t ≤ f then 3 else if f < 0 ∨ 40320 < t then 4 else if dawn < 0 ∨ f < dawn then 1 else 0) else 14

theorem spellErr_no {x : Nat → Int} (f t dawn : Int) (h : ¬ May x) : spellErr x f t dawn = 14 := by unfold spellErr; rw [if_neg h]
theorem spellErr_yes {x : Nat → Int} (f t dawn : Int) (h : May x) : spellErr x f t dawn = if t ≤ f then 3 else if f < 0 ∨ 40320 < t then 4 else if dawn < 0 ∨ f < dawn then 1 else 0 := by unfold spellErr; rw [if_pos h]
theorem spellErr_ok {x : Nat → Int} {f t dawn : Int} : spellErr x f t dawn = 0 ↔ May x ∧ f < t ∧ 0 ≤ f ∧ t ≤ 40320 ∧ 0 ≤ dawn ∧ dawn ≤ f := by
  by_cases h : May x
  · rw [spellErr_yes f t dawn h]
    constructor
    · intro e
      refine ⟨h, ?_⟩
      split at e
      · omega
      split at e
      · omega
      split at e
      · omega
      omega
    · intro ⟨_, h⟩
      rw [if_neg (by omega), if_neg (by omega), if_neg (by omega)]
  · rw [spellErr_no f t dawn h]
    simp [h]

/-- A book that may be: its numbers are from 0 to the greatest time. -/
theorem may_time {x : Nat → Int} (h : May x) : ∀ i, i < 19 → 0 ≤ x i ∧ x i ≤ 40320 := by
  intro i hi
  have := h.1 i hi
  unfold lim at this
  split at this <;> omega
theorem may_ord {x : Nat → Int} (h : May x) : x 2 ≤ x 1 ∧ x 3 ≤ x 1 ∧ x 1 ≤ x 10 ∧ x 10 ≤ x 8 ∧ x 8 ≤ x 7 ∧ x 7 ≤ x 13 ∧ x 13 ≤ x 12 ∧ x 4 ≤ x 5 ∧ x 8 < x 11 := h.2

end Go.Proofs.Ytolbihfnogbjaaa

/- A meter in plain words: what may be, what a minute makes of it, and the clauses that it breaks. Conditions: none. -/
namespace Go.Proofs.Ytolbihfnogbjaaa
open Go.RowKit

/-- A meter. -/
structure Mt where
  now : Int
  acc : Int
  half : Bool
  lie : Int
  dawn : Int
  day : Int
  longers : Int
  split : Bool
  reduces : Int
  sabbath : Int
  brief : Bool
  week : Int
  last : Int
  labour : Int

def Mt.zero : Mt := ⟨0, 0, false, 0, 0, 0, 0, false, 0, 0, false, 0, 0, 0⟩
/-- Its cells. -/
def mt (m : Mt) : Array Value := #[.int .i64 m.now, .int .i64 m.acc, .bool m.half, .int .i64 m.lie, .int .i64 m.dawn, .int .i64 m.day, .int .i64 m.longers, .bool m.split, .int .i64 m.reduces, .int .i64 m.sabbath, .bool m.brief, .int .i64 m.week, .int .i64 m.last, .int .i64 m.labour]
theorem mt_size (m : Mt) : (mt m).size = 14 := rfl
theorem mt_one (m : Mt) : (mt m).all (·.oneCell') = true := by kernel_rfl

/-- A meter that may be. -/
def MayM (m : Mt) : Prop := (0 ≤ m.now ∧ m.now ≤ 40320) ∧ (0 ≤ m.acc ∧ m.acc ≤ m.now) ∧ (0 ≤ m.lie ∧ m.lie ≤ m.now) ∧ (0 ≤ m.dawn ∧ m.dawn ≤ m.now) ∧ (0 ≤ m.day ∧ m.day ≤ m.now) ∧ (0 ≤ m.longers ∧ m.longers ≤ m.now) ∧
  (0 ≤ m.reduces ∧ m.reduces ≤ m.now) ∧ (0 ≤ m.sabbath ∧ m.sabbath ≤ m.now) ∧ (0 ≤ m.week ∧ m.week ≤ m.now) ∧ (0 ≤ m.last ∧ m.last ≤ m.now) ∧ (0 ≤ m.labour ∧ m.labour ≤ m.now)

/-- A set's part of one clause. -/
def bitN (k : Nat) (b : Bool) : Nat := if b then 2 ^ k else 0
theorem bitN_le (k : Nat) (b : Bool) : bitN k b ≤ 2 ^ k := by unfold bitN; split <;> simp
theorem bitN_lt {k : Nat} (b : Bool) (hk : k < 10) : bitN k b ≤ 512 := Nat.le_trans (bitN_le k b) (Nat.pow_le_pow_right (n := 2) (by omega) (by omega : k ≤ 9))
/-- A set with one clause more, if it is broken. -/
def orB (n k : Nat) (b : Bool) : Nat := n ||| bitN k b
theorem orB_no (n k : Nat) : orB n k false = n := by simp [orB, bitN]
theorem orB_yes (n k : Nat) : orB n k true = n ||| 2 ^ k := by simp [orB, bitN]
theorem orB_lt {n k : Nat} (b : Bool) (hn : n < 1024) (hk : k < 10) : orB n k b < 1024 :=
  Nat.or_lt_two_pow (n := 10) hn (by have := bitN_lt b hk; omega)

/-- A week's cut. -/
def wrapM (x : Nat → Int) (m : Mt) : Mt := if 0 < m.now ∧ m.now % x 18 = 0 then { m with last := m.week, week := 0, labour := 0 } else m
/-- What the spell of rest that ends is worth. -/
def endW (x : Nat → Int) (m : Mt) : Wo := ofV x (m.now - m.lie) m.now (min m.dawn (m.now - m.lie)) m.half m.split
def e1 (w : Wo) (m : Mt) : Mt := if w.weekly then { m with brief := w.brief, sabbath := m.now, longers := 0, reduces := 0 } else m
def e2 (w : Wo) (m : Mt) : Mt := if w.red then { m with reduces := m.reduces + 1 } else m
def e3 (w : Wo) (m : Mt) : Mt := if w.daily then { m with dawn := m.now, day := 0, acc := 0, half := false, split := false } else { m with split := m.split || w.part, half := w.half, acc := if w.brk then 0 else m.acc }
def endM (w : Wo) (m : Mt) : Mt := { e3 w (e2 w (e1 w m)) with lie := 0 }
/-- A minute of driving; of driving or work. -/
def d1 (m : Mt) : Mt := { m with acc := m.acc + 1, day := m.day + 1 }
def d2 (x : Nat → Int) (m : Mt) : Mt := if m.day = x 4 + 1 then { m with longers := m.longers + 1 } else m
def driveM (x : Nat → Int) (m : Mt) : Mt := let m := d2 x (d1 m); { m with week := m.week + 1 }
def workM (m : Mt) : Mt := { m with labour := m.labour + 1 }

/-- The clauses of a minute's end of rest; of being awake; of driving; of labour. -/
def c8 (w : Wo) (m : Mt) : Bool := w.weekly && (w.brief && m.brief)
def c6 (x : Nat → Int) (w : Wo) (m : Mt) : Bool := w.red && decide (x 9 < (e2 w (e1 w m)).reduces)
def c5 (x : Nat → Int) (m : Mt) : Bool := decide (x 11 - x 8 ≤ m.now - m.dawn)
def c7 (x : Nat → Int) (m : Mt) : Bool := decide (x 14 ≤ m.now - m.sabbath)
def c0 (x : Nat → Int) (m : Mt) : Bool := decide (x 0 < m.acc + 1)
def c2 (x : Nat → Int) (m : Mt) : Bool := decide (m.day + 1 = x 4 + 1) && decide (x 6 < m.longers + 1)
def c1 (x : Nat → Int) (m : Mt) : Bool := decide (x 5 < m.day + 1)
def c3 (x : Nat → Int) (m : Mt) : Bool := decide (x 15 < m.week + 1)
def c4 (x : Nat → Int) (m : Mt) : Bool := decide (x 16 < m.week + 1 + m.last)
def c9 (x : Nat → Int) (m : Mt) : Bool := decide (x 17 < m.labour + 1)

/-- The ten clauses of a minute, as truths. -/
structure Cl where
  b8 : Bool
  b6 : Bool
  b5 : Bool
  b7 : Bool
  b0 : Bool
  b2 : Bool
  b1 : Bool
  b3 : Bool
  b4 : Bool
  b9 : Bool

/-- As a sum, in the document's order. -/
def Cl.sum (c : Cl) : Nat := bitN 8 c.b8 + bitN 6 c.b6 + bitN 5 c.b5 + bitN 7 c.b7 + bitN 0 c.b0 + bitN 2 c.b2 + bitN 1 c.b1 + bitN 3 c.b3 + bitN 4 c.b4 + bitN 9 c.b9
/-- Laid into a set, one behind the other. -/
def Cl.into (n : Nat) (c : Cl) : Nat := orB (orB (orB (orB (orB (orB (orB (orB (orB (orB n 8 c.b8) 6 c.b6) 5 c.b5) 7 c.b7) 0 c.b0) 2 c.b2) 1 c.b1) 3 c.b3) 4 c.b4) 9 c.b9

set_option maxRecDepth 100000 in
theorem sum_or : ∀ b8 b6 b5 b7 b0 b2 b1 b3 b4 b9 : Bool, (bitN 8 b8 ||| (bitN 6 b6 ||| (bitN 5 b5 ||| (bitN 7 b7 ||| (bitN 0 b0 ||| (bitN 2 b2 ||| (bitN 1 b1 ||| (bitN 3 b3 ||| (bitN 4 b4 ||| bitN 9 b9))))))))) = bitN 8 b8 + bitN 6 b6 + bitN 5 b5 + bitN 7 b7 + bitN 0 b0 + bitN 2 b2 + bitN 1 b1 + bitN 3 b3 + bitN 4 b4 + bitN 9 b9 := by decide +kernel
theorem Cl.into_eq (n : Nat) (c : Cl) : c.into n = n ||| c.sum := by
  unfold Cl.into Cl.sum orB
  rw [← sum_or]
  simp only [Nat.or_assoc]
theorem Cl.sum_lt (c : Cl) : c.sum < 1024 := by
  unfold Cl.sum
  have h8 := bitN_le 8 c.b8; have h6 := bitN_le 6 c.b6; have h5 := bitN_le 5 c.b5; have h7 := bitN_le 7 c.b7; have h0 := bitN_le 0 c.b0
  have h2 := bitN_le 2 c.b2; have h1 := bitN_le 1 c.b1; have h3 := bitN_le 3 c.b3; have h4 := bitN_le 4 c.b4; have h9 := bitN_le 9 c.b9
  omega
theorem Cl.into_lt {n : Nat} (c : Cl) (hn : n < 1024) : c.into n < 1024 := by rw [Cl.into_eq]; exact Nat.or_lt_two_pow (n := 10) hn c.sum_lt

/-- What stands behind the end of a spell of rest, if one ends. -/
def upR (x : Nat → Int) (m : Mt) : Mt := if 0 < m.lie then endM (endW x m) m else m
def up8 (x : Nat → Int) (m : Mt) : Bool := decide (0 < m.lie) && c8 (endW x m) m
def up6 (x : Nat → Int) (m : Mt) : Bool := decide (0 < m.lie) && c6 x (endW x m) m
/-- A minute that is none of rest: the meter, but for Now. -/
def upM (x : Nat → Int) (m : Mt) (k : Int) : Mt :=
  let r := upR x m
  let d := if k = 3 then driveM x r else r
  if k = 3 ∨ k = 2 then workM d else d
def upC (x : Nat → Int) (m : Mt) (k : Int) : Cl :=
  let r := upR x m
  let d := if k = 3 then driveM x r else r
  ⟨up8 x m, up6 x m, c5 x r, c7 x r, decide (k = 3) && c0 x r, decide (k = 3) && c2 x r, decide (k = 3) && c1 x r, decide (k = 3) && c3 x r, decide (k = 3) && c4 x r, decide (k = 3 ∨ k = 2) && c9 x d⟩
/-- A minute more. -/
def stepM (x : Nat → Int) (m : Mt) (k : Int) : Mt :=
  let a := wrapM x m
  if k = 0 then { a with lie := a.lie + 1, now := a.now + 1 } else { upM x a k with now := (upM x a k).now + 1 }
def stepC (x : Nat → Int) (m : Mt) (k : Int) : Nat := if k = 0 then 0 else (upC x (wrapM x m) k).sum

theorem stepC_lt (x : Nat → Int) (m : Mt) (k : Int) : stepC x m k < 1024 := by
  unfold stepC; split
  · omega
  · exact Cl.sum_lt _

/-! ### A meter may be behind each minute -/
theorem may_wrap {x : Nat → Int} {m : Mt} (h : MayM m) : MayM (wrapM x m) ∧ (wrapM x m).now = m.now := by
  unfold wrapM
  split
  · refine ⟨?_, rfl⟩
    unfold MayM at *
    dsimp only
    omega
  · exact ⟨h, rfl⟩

/-- Each number is at most b. -/
def Le (b : Int) (m : Mt) : Prop := (0 ≤ m.now ∧ m.now ≤ b) ∧ (0 ≤ m.acc ∧ m.acc ≤ b) ∧ (0 ≤ m.lie ∧ m.lie ≤ b) ∧ (0 ≤ m.dawn ∧ m.dawn ≤ b) ∧ (0 ≤ m.day ∧ m.day ≤ b) ∧ (0 ≤ m.longers ∧ m.longers ≤ b) ∧
  (0 ≤ m.reduces ∧ m.reduces ≤ b) ∧ (0 ≤ m.sabbath ∧ m.sabbath ≤ b) ∧ (0 ≤ m.week ∧ m.week ≤ b) ∧ (0 ≤ m.last ∧ m.last ≤ b) ∧ (0 ≤ m.labour ∧ m.labour ≤ b)

/-- What may stand behind the end of a spell of rest, ahead of the last step: the number of reduced rests can be one more than Now. -/
def MayE (m : Mt) : Prop := (0 ≤ m.now ∧ m.now ≤ 40320) ∧ (0 ≤ m.acc ∧ m.acc ≤ m.now) ∧ (0 ≤ m.lie ∧ m.lie ≤ m.now) ∧ (0 ≤ m.dawn ∧ m.dawn ≤ m.now) ∧ (0 ≤ m.day ∧ m.day ≤ m.now) ∧ (0 ≤ m.longers ∧ m.longers ≤ m.now) ∧
  (0 ≤ m.reduces ∧ m.reduces ≤ m.now + 1) ∧ (0 ≤ m.sabbath ∧ m.sabbath ≤ m.now) ∧ (0 ≤ m.week ∧ m.week ≤ m.now) ∧ (0 ≤ m.last ∧ m.last ≤ m.now) ∧ (0 ≤ m.labour ∧ m.labour ≤ m.now)

theorem MayE.of {m : Mt} (h : MayM m) : MayE m := by unfold MayM at h; unfold MayE; omega

theorem may_e1 {m : Mt} (w : Wo) (h : MayM m) : MayM (e1 w m) ∧ (e1 w m).now = m.now := by
  unfold e1
  split
  · refine ⟨?_, rfl⟩
    unfold MayM at *
    dsimp only
    omega
  · exact ⟨h, rfl⟩
theorem may_e2 {m : Mt} (w : Wo) (h : MayM m) : MayE (e2 w m) ∧ (e2 w m).now = m.now := by
  unfold e2
  split
  · refine ⟨?_, rfl⟩
    unfold MayM at h
    unfold MayE
    dsimp only
    omega
  · exact ⟨.of h, rfl⟩
theorem may_e3 {m : Mt} (w : Wo) (h : MayE m) : MayE (e3 w m) ∧ (e3 w m).now = m.now := by
  unfold e3
  split
  · refine ⟨?_, rfl⟩
    unfold MayE at *
    dsimp only
    omega
  · refine ⟨?_, rfl⟩
    unfold MayE at *
    dsimp only
    split <;> omega
theorem may_end {m : Mt} (w : Wo) (h : MayM m) : MayE (endM w m) ∧ (endM w m).now = m.now := by
  have h1 := may_e1 w h
  have h2 := may_e2 w h1.1
  have h3 := may_e3 w h2.1
  have hn : (e3 w (e2 w (e1 w m))).now = m.now := by rw [h3.2, h2.2, h1.2]
  refine ⟨?_, hn⟩
  have h3 := h3.1
  unfold endM
  unfold MayE at *
  dsimp only
  omega
theorem may_upR {x : Nat → Int} {m : Mt} (h : MayM m) : MayE (upR x m) ∧ (upR x m).now = m.now := by
  unfold upR
  split
  · exact may_end _ h
  · exact ⟨.of h, rfl⟩

theorem le_d1 {m : Mt} (h : MayE m) : Le (m.now + 1) (d1 m) := by
  unfold MayE at h
  unfold Le d1
  dsimp only
  omega
theorem le_drive {x : Nat → Int} {m : Mt} (h : MayE m) : Le (m.now + 1) (driveM x m) ∧ (driveM x m).now = m.now ∧ (driveM x m).labour = m.labour := by
  unfold MayE at h
  unfold Le driveM d2 d1
  split <;> (dsimp only; omega)
theorem le_work {b : Int} {m : Mt} (h : Le b m) (hl : m.labour + 1 ≤ b) : Le b (workM m) ∧ (workM m).now = m.now := by
  unfold Le at *
  unfold workM
  dsimp only
  omega
theorem MayE.le {m : Mt} (h : MayE m) : Le (m.now + 1) m := by unfold MayE at h; unfold Le; omega
theorem le_up {x : Nat → Int} {m : Mt} (k : Int) (h : MayM m) : Le (m.now + 1) (upM x m k) ∧ (upM x m k).now = m.now := by
  obtain ⟨hr, hn⟩ := may_upR (x := x) h
  have hl : (upR x m).labour + 1 ≤ m.now + 1 := by unfold MayE at hr; omega
  unfold upM
  dsimp only
  generalize upR x m = r at hr hn hl
  by_cases hk : k = 3
  · rw [if_pos hk, if_pos (Or.inl hk)]
    obtain ⟨d, e, f⟩ := le_drive (x := x) hr
    rw [hn] at d
    have := le_work d (by omega)
    exact ⟨this.1, by rw [this.2, e, hn]⟩
  · rw [if_neg hk]
    have d := hr.le
    rw [hn] at d
    split
    · have := le_work d (by omega)
      exact ⟨this.1, by rw [this.2, hn]⟩
    · exact ⟨d, hn⟩
theorem may_step {x : Nat → Int} {m : Mt} (k : Int) (h : MayM m) (hn : m.now < 40320) : MayM (stepM x m k) ∧ (stepM x m k).now = m.now + 1 := by
  obtain ⟨h1, h2⟩ := may_wrap (x := x) h
  unfold stepM
  dsimp only
  split
  · refine ⟨?_, by rw [h2]⟩
    unfold MayM at *
    dsimp only
    omega
  · obtain ⟨h3, h4⟩ := le_up (x := x) k h1
    refine ⟨?_, by dsimp only; rw [h4, h2]⟩
    rw [h2] at h3 h4
    unfold Le at h3
    unfold MayM
    dsimp only
    omega

/-! ### Many minutes -/
/-- The meter behind them, the set, and the error. -/
def runV (x : Nat → Int) : Mt → Nat → List Int → Mt × Nat × Int
  | m, n, [] => (m, n, 0)
  | m, n, k :: ks => if k < 0 ∨ 3 < k then (.zero, 0, 2) else if m.now = 40320 then (.zero, 0, 4) else runV x (stepM x m k) (n ||| stepC x m k) ks

open Classical in
/-- With the book's and the meter's own errors. -/
noncomputable def meterV (x : Nat → Int) (m : Mt) (ks : List Int) : Mt × Nat × Int := if May x then (if MayM m then runV x m 0 ks else (.zero, 0, 1)) else (.zero, 0, 14)

theorem runV_may {x : Nat → Int} : ∀ (ks : List Int) (m : Mt) (n : Nat), MayM m → n < 1024 → (runV x m n ks).2.1 < 1024 ∧ ((runV x m n ks).2.2 = 0 → MayM (runV x m n ks).1) ∧ ((runV x m n ks).2.2 ≠ 0 → (runV x m n ks).1 = .zero ∧ (runV x m n ks).2.1 = 0)
  | [], m, n, hm, hn => ⟨hn, fun _ => hm, fun h => absurd rfl h⟩
  | k :: ks, m, n, hm, hn => by
    unfold runV
    split
    · exact ⟨by decide, fun h => by simp at h, fun _ => ⟨rfl, rfl⟩⟩
    split
    · exact ⟨by decide, fun h => by simp at h, fun _ => ⟨rfl, rfl⟩⟩
    · rename_i h1 h2
      have := hm.1
      exact runV_may ks _ _ (may_step k hm (by omega)).1 (Nat.or_lt_two_pow (n := 10) hn (stepC_lt x m k))

theorem runV_cons (x : Nat → Int) (m : Mt) (n : Nat) (k : Int) (ks : List Int) : runV x m n (k :: ks) = if k < 0 ∨ 3 < k then (.zero, 0, 2) else if m.now = 40320 then (.zero, 0, 4) else runV x (stepM x m k) (n ||| stepC x m k) ks := rfl

theorem runV_append {x : Nat → Int} : ∀ (a b : List Int) (m : Mt) (n : Nat), runV x m n (a ++ b) = if (runV x m n a).2.2 = 0 then runV x (runV x m n a).1 (runV x m n a).2.1 b else runV x m n a
  | [], b, m, n => rfl
  | k :: a, b, m, n => by
    rw [List.cons_append, runV_cons, runV_cons]
    split
    · rfl
    split
    · rfl
    · exact runV_append a b _ _

/-- What lies in the set at first stays in it. -/
theorem runV_or {x : Nat → Int} : ∀ (a : List Int) (m : Mt) (n : Nat), runV x m n a = ((runV x m 0 a).1, (if (runV x m 0 a).2.2 = 0 then n ||| (runV x m 0 a).2.1 else 0), (runV x m 0 a).2.2)
  | [], m, n => by simp [runV]
  | k :: a, m, n => by
    unfold runV
    split
    · rfl
    split
    · rfl
    · rw [runV_or a _ (n ||| _), runV_or a _ (0 ||| _)]
      by_cases h : (runV x (stepM x m k) 0 a).2.2 = 0
      · simp [h, Nat.or_assoc]
      · simp [h]

/-- Two cells that differ in no part. -/
def Mt.eqB (s u : Mt) : Bool := s.now == u.now && (s.acc == u.acc && (s.half == u.half && (s.lie == u.lie && (s.dawn == u.dawn && (s.day == u.day && (s.longers == u.longers && (s.split == u.split && (s.reduces == u.reduces && (s.sabbath == u.sabbath && (s.brief == u.brief && (s.week == u.week && (s.last == u.last && s.labour == u.labour))))))))))))
theorem Mt.eqB_self (s : Mt) : s.eqB s = true := by simp [Mt.eqB]

theorem ofInt_n64 (a : Nat) (ha : a < 18446744073709551616) : (BitVec.ofInt 64 (a : Int)).toNat = a := by
  rw [BitVec.ofInt_natCast, BitVec.toNat_ofNat]; exact Nat.mod_eq_of_lt (by omega)
/-- The program's '|' of two sets. -/
theorem or_nat (a b : Nat) (ha : a < 1024) (hb : b < 1024) : bits .or .i64 (a : Int) (b : Int) = ((a ||| b : Nat) : Int) := by
  have hx : a ||| b < 2 ^ 10 := Nat.or_lt_two_pow (n := 10) (by omega) (by omega)
  show IntKind.i64.wrap ((BitVec.ofInt 64 (a : Int) ||| BitVec.ofInt 64 (b : Int)).toNat : Int) = _
  rw [BitVec.toNat_or, ofInt_n64 a (by omega), ofInt_n64 b (by omega)]
  generalize a ||| b = c at hx
  have : IntKind.i64.wrap (c : Int) = (c : Int) := by
    simp [IntKind.wrap, IntKind.bits, IntKind.signed]
    omega
  exact this

end Go.Proofs.Ytolbihfnogbjaaa

/- Labels in plain words: with which minutes one can go on, the label behind them, the bound. Conditions: none beyond each lemma's own premises. -/
namespace Go.Proofs.Ytolbihfnogbjaaa
open Go.RowKit

/-- A label: a meter and a spot. -/
abbrev Lb := Mt × Pt
def lz : Lb := (.zero, (0, 0, 0))

/-! ### A minute and the next task -/

/-- A minute at m of kind k breaks none of the tasks' clauses. -/
def freeT (l : List Tk) (s : Pt) (m k : Int) : Bool := !b0 l s k && !b1 l s k && !b2 l s m k && !b3 s k

/-- The spot behind the minute, and whether it may be. -/
def turnV (l : List Tk) (s : Pt) (m k : Int) : Pt × Bool := if freeT l s m k = true then (stepT l s k, true) else ((0, 0, 0), false)
theorem turnV_yes {l : List Tk} {s : Pt} {m k : Int} (h : freeT l s m k = true) : turnV l s m k = (stepT l s k, true) := if_pos h
theorem turnV_no {l : List Tk} {s : Pt} {m k : Int} (h : freeT l s m k = false) : turnV l s m k = ((0, 0, 0), false) := by unfold turnV; rw [if_neg (by simp [h])]

/-- The next task alone. -/
def partT (l : List Tk) (i : Nat) : List Tk := (l.drop i).take 1

theorem partT_in {l : List Tk} {i : Nat} (h : i < l.length) : partT l i = [tk l (i : Int)] := by
  unfold partT
  have := tk_drop (l := l) (i := (i : Int)) (by omega) (by omega)
  rw [Int.toNat_natCast] at this
  rw [this]; rfl
theorem partT_end {l : List Tk} {i : Nat} (h : l.length ≤ i) : partT l i = [] := by
  unfold partT; rw [List.drop_eq_nil_iff.2 h]; rfl
theorem partT_ok {l : List Tk} (ok : ∀ t ∈ l, TkOk t) (i : Nat) : ∀ t ∈ partT l i, TkOk t := fun t ht => ok t (List.mem_of_mem_drop (List.mem_of_mem_take ht))
theorem partT_few {l : List Tk} (hf : Few l) (i : Nat) : Few (partT l i) := fun t ht => hf t (List.mem_of_mem_drop (List.mem_of_mem_take ht))
theorem drop_few {l : List Tk} (hf : Few l) (i : Nat) : Few (l.drop i) := fun t ht => hf t (List.mem_of_mem_drop ht)

theorem firstT_ok : ∀ {l : List Tk}, firstT l = 0 ↔ ∀ t ∈ l, taskV t = 0
  | [] => by simp [firstT]
  | t :: l => by
    unfold firstT
    by_cases h : taskV t = 0
    · rw [if_pos h, firstT_ok (l := l)]; simp [h]
    · rw [if_neg h]; simp [h]
theorem check_sub {l s : List Tk} (h : checkT l = 0) (hs : ∀ t ∈ s, t ∈ l) (hl : s.length ≤ l.length) : checkT s = 0 := by
  obtain ⟨_, h1⟩ := checkt_zero h
  unfold checkT at h ⊢
  rw [if_neg (by omega)] at h ⊢
  exact firstT_ok.2 fun t ht => firstT_ok.1 h t (hs t ht)
theorem check_part {l : List Tk} (h : checkT l = 0) (i : Nat) : checkT (partT l i) = 0 :=
  check_sub h (fun _ ht => List.mem_of_mem_drop (List.mem_of_mem_take ht)) (by unfold partT; simp; omega)
theorem check_drop {l : List Tk} (h : checkT l = 0) (i : Nat) : checkT (l.drop i) = 0 :=
  check_sub h (fun _ ht => List.mem_of_mem_drop ht) (by simp)

theorem tk_one (t : Tk) : tk [t] 0 = t := rfl

theorem part_fits {l : List Tk} {i : Nat} {x y : Int} (h : Fits l ((i : Int), x, y)) : Fits (partT l i) (0, x, y) := by
  obtain ⟨h1, h2, h3, h4⟩ := h
  simp only at h1 h2 h3 h4
  rcases Nat.lt_or_ge i l.length with hi | hi
  · rw [partT_in hi]
    refine ⟨Int.le_refl _, by simp, fun e => ?_, fun _ => ?_⟩
    · simp at e
    · simp only [tk_one]
      exact h4 (by omega)
  · rw [partT_end hi]
    refine ⟨Int.le_refl _, by simp, fun _ => h3 (by omega), fun e => ?_⟩
    simp at e

theorem part_canD {l : List Tk} {i : Nat} {x y : Int} : CanD (partT l i) (0, x, y) ↔ CanD l ((i : Int), x, y) := by
  rcases Nat.lt_or_ge i l.length with hi | hi
  · rw [partT_in hi]
    unfold CanD
    simp only [tk_one]
    simp; omega
  · rw [partT_end hi]
    unfold CanD
    simp; omega
theorem part_canW {l : List Tk} {i : Nat} {x y : Int} : CanW (partT l i) (0, x, y) ↔ CanW l ((i : Int), x, y) := by
  rcases Nat.lt_or_ge i l.length with hi | hi
  · rw [partT_in hi]
    unfold CanW
    simp only [tk_one]
    simp; omega
  · rw [partT_end hi]
    unfold CanW
    simp; omega
theorem part_free {l : List Tk} {i : Nat} {x y m k : Int} : freeT (partT l i) (0, x, y) m k = freeT l ((i : Int), x, y) m k := by
  have e2 : b2 (partT l i) (0, x, y) m k = b2 l ((i : Int), x, y) m k := by
    unfold b2
    rw [decide_eq_decide]
    rw [part_canW]
    rcases Nat.lt_or_ge i l.length with hi | hi
    · rw [partT_in hi]; simp only [tk_one]
    · constructor <;> (rintro ⟨_, h, _⟩; have := h.1; simp only at this; omega)
  unfold freeT
  rw [e2]
  unfold b0 b1 b3
  simp only [part_canD, part_canW]

/-- Tasks in which there is nothing to do are gone past alike. -/
theorem past_shift {l : List Tk} {i : Nat} (hi : i ≤ l.length) : ∀ (n : Nat) (j : Int), 0 ≤ j → pastN l n ((i : Int) + j, 0, 0) = ((i : Int) + (pastN (l.drop i) n (j, 0, 0)).1, 0, 0) ∧ (pastN (l.drop i) n (j, 0, 0)).2 = (0, 0)
  | 0, j, _ => ⟨rfl, rfl⟩
  | n + 1, j, hj => by
    have et : tk (l.drop i) j = tk l ((i : Int) + j) := by
      unfold tk
      rw [List.getD_eq_getElem?_getD, List.getD_eq_getElem?_getD, List.getElem?_drop]
      congr 3; omega
    have ef : Full (l.drop i) (j, 0, 0) ↔ Full l ((i : Int) + j, 0, 0) := by
      unfold Full
      simp only [et, List.length_drop]
      constructor <;> (rintro ⟨h, h'⟩; exact ⟨by omega, h'⟩)
    unfold pastN
    by_cases hf : Full l ((i : Int) + j, 0, 0)
    · rw [if_pos hf, if_pos (ef.2 hf)]
      have := past_shift hi n (j + 1) (by omega)
      simp only [Int.add_assoc] at this ⊢
      exact this
    · rw [if_neg hf, if_neg (fun h => hf (ef.1 h))]
      exact ⟨rfl, rfl⟩

theorem pastT_shift {l : List Tk} {i : Nat} (hi : i ≤ l.length) : pastT l ((i : Int), 0, 0) = ((i : Int) + (pastT (l.drop i) (0, 0, 0)).1, 0, 0) := by
  have h := (past_shift hi ((l.length : Int) - i).toNat 0 (Int.le_refl _)).1
  rw [Int.add_zero] at h
  unfold pastT
  simp only
  rw [h]
  have e : (((l.drop i).length : Int) - 0).toNat = ((l.length : Int) - i).toNat := by rw [List.length_drop]; omega
  rw [e]

/-- Behind the minute the spot at the next task alone is ahead of its end: so it is at all tasks. -/
theorem part_step {l : List Tk} {i : Nat} {x y k : Int} (hi : i < l.length) (p q r : Int) (e : stepT (partT l i) (0, x, y) k = (p, q, r)) :
    (p = 0 ∧ stepT l ((i : Int), x, y) k = ((i : Int), q, r)) ∨ (p = 1 ∧ stepT l ((i : Int), x, y) k = ((i : Int) + 1 + (pastT (l.drop (i + 1)) (0, 0, 0)).1, 0, 0)) := by
  obtain ⟨q', r', hg, hg'⟩ : ∃ q' r', goT (partT l i) (0, x, y) k = (0, q', r') ∧ goT l ((i : Int), x, y) k = ((i : Int), q', r') := by
    unfold goT
    by_cases h1 : k = 3 ∧ CanD l ((i : Int), x, y)
    · rw [if_pos h1, if_pos ⟨h1.1, part_canD.2 h1.2⟩]; exact ⟨_, _, rfl, rfl⟩
    · rw [if_neg h1, if_neg (fun c => h1 ⟨c.1, part_canD.1 c.2⟩)]
      by_cases h2 : k = 2 ∧ CanW l ((i : Int), x, y)
      · rw [if_pos h2, if_pos ⟨h2.1, part_canW.2 h2.2⟩]; exact ⟨_, _, rfl, rfl⟩
      · rw [if_neg h2, if_neg (fun c => h2 ⟨c.1, part_canW.1 c.2⟩)]; exact ⟨_, _, rfl, rfl⟩
  unfold stepT at e ⊢
  rw [hg] at e
  rw [hg']
  have ef : Full (partT l i) (0, q', r') ↔ Full l ((i : Int), q', r') := by
    rw [partT_in hi]
    unfold Full
    simp only [tk_one]
    simp; omega
  by_cases hf : Full l ((i : Int), q', r')
  · right
    rw [pastT_move hf]
    rw [pastT_move (ef.2 hf)] at e
    have e1 : pastT (partT l i) (0 + 1, 0, 0) = (1, 0, 0) := by rw [partT_in hi]; rfl
    rw [e1] at e
    injection e with e2 _
    refine ⟨e2.symm, ?_⟩
    have := pastT_shift (l := l) (i := i + 1) (by omega)
    simp only [Int.natCast_add, Int.natCast_one] at this
    exact this
  · left
    rw [pastT_still hf]
    rw [pastT_still (fun c => hf (ef.1 c))] at e
    injection e with e2 e3
    injection e3 with e3 e4
    exact ⟨e2.symm, by rw [e3, e4]⟩

theorem part_step_end {l : List Tk} {i : Nat} {x y k : Int} (h : Fits l ((i : Int), x, y)) (hi : i = l.length) : stepT (partT l i) (0, x, y) k = (0, 0, 0) ∧ stepT l ((i : Int), x, y) k = ((i : Int), 0, 0) ∧ x = 0 ∧ y = 0 := by
  obtain ⟨hx, hy⟩ := h.2.2.1 (by simp only; omega)
  simp only at hx hy
  subst hx hy
  have c1 : ¬ CanD l ((i : Int), 0, 0) := fun c => by have := c.1; simp only at this; omega
  have c2 : ¬ CanW l ((i : Int), 0, 0) := fun c => by have := c.1; simp only at this; omega
  refine ⟨?_, step_still h (fun c => c1 c.2) (fun c => c2 c.2), rfl, rfl⟩
  exact step_still (part_fits h) (fun c => c1 (part_canD.1 c.2)) (fun c => c2 (part_canW.1 c.2))

/-! ### A minute and the label -/

/-- A minute of kind k may follow the label. -/
def goes (x : Nat → Int) (l : List Tk) (a : Lb) (k : Int) : Prop := (0 ≤ k ∧ k ≤ 3) ∧ a.1.now ≠ 40320 ∧ stepC x a.1 k = 0 ∧ freeT l a.2 a.1.now k = true
instance (x : Nat → Int) (l : List Tk) (a : Lb) (k : Int) : Decidable (goes x l a k) := by unfold goes; infer_instance
/-- The label behind it. -/
def nextB (x : Nat → Int) (l : List Tk) (a : Lb) (k : Int) : Lb := (stepM x a.1 k, stepT l a.2 k)
def stepV25 (x : Nat → Int) (l : List Tk) (a : Lb) (k : Int) : Lb × Bool := if goes x l a k then (nextB x l a k, true) else (lz, false)
theorem stepV25_yes {x : Nat → Int} {l : List Tk} {a : Lb} {k : Int} (h : goes x l a k) : stepV25 x l a k = (nextB x l a k, true) := if_pos h
theorem stepV25_no {x : Nat → Int} {l : List Tk} {a : Lb} {k : Int} (h : ¬ goes x l a k) : stepV25 x l a k = (lz, false) := if_neg h

/-- The label is right. -/
def RightL (l : List Tk) (a : Lb) : Prop := MayM a.1 ∧ Fits l a.2

theorem goes_on {x : Nat → Int} {l : List Tk} {a : Lb} {k : Int} (ok : ∀ t ∈ l, TkOk t) (h : RightL l a) (g : goes x l a k) : RightL l (nextB x l a k) ∧ (nextB x l a k).1.now = a.1.now + 1 := by
  obtain ⟨h1, h2⟩ := h
  obtain ⟨_, hn, _, _⟩ := g
  have := h1.1
  have hm := may_step (x := x) k h1 (by omega)
  exact ⟨⟨hm.1, step_fits ok h2 k⟩, hm.2⟩

/-- The bound. -/
def boundV (l : List Tk) (a : Lb) : Int := a.1.now + (leftT l a.2).1 + (leftT l a.2).2

theorem goes_bound {x : Nat → Int} {l : List Tk} {a : Lb} {k : Int} (ok : ∀ t ∈ l, TkOk t) (h : RightL l a) (g : goes x l a k) : boundV l (nextB x l a k) = boundV l a + (if k = 3 ∨ k = 2 then 0 else 1) := by
  have hn := (goes_on ok h g).2
  obtain ⟨_, _, _, hf⟩ := g
  have hl := step_left h.2 k
  unfold boundV
  rw [hn]
  have e : (nextB x l a k).2 = stepT l a.2 k := rfl
  rw [e, hl]
  unfold freeT at hf
  simp only [Bool.and_eq_true, Bool.not_eq_true'] at hf
  obtain ⟨⟨⟨f0, f1⟩, _⟩, _⟩ := hf
  unfold b0 at f0
  unfold b1 at f1
  rw [decide_eq_false_iff_not] at f0 f1
  by_cases k3 : k = 3
  · have hd : CanD l a.2 := Classical.byContradiction fun c => f0 ⟨k3, c⟩
    rw [if_pos ⟨k3, hd⟩, if_pos (Or.inl k3)]
    simp only; omega
  · rw [if_neg (fun c => k3 c.1)]
    by_cases k2 : k = 2
    · have hw : CanW l a.2 := Classical.byContradiction fun c => f1 ⟨k2, c⟩
      rw [if_pos ⟨k2, hw⟩, if_pos (Or.inr k2)]
      simp only; omega
    · rw [if_neg (fun c => k2 c.1), if_neg (by omega)]
      omega

/-! ### All ways -/

def kinds4 : List Int := [3, 2, 0, 1]
/-- The ways of the first j of these kinds. -/
def waysTo (x : Nat → Int) (l : List Tk) (a : Lb) (j : Nat) : List (Int × Lb) := ((kinds4.take j).filter fun k => decide (goes x l a k)).map fun k => (k, nextB x l a k)
theorem waysTo_zero (x : Nat → Int) (l : List Tk) (a : Lb) : waysTo x l a 0 = [] := rfl
theorem waysTo_yes {x : Nat → Int} {l : List Tk} {a : Lb} {j : Nat} {k : Int} (hk : kinds4[j]? = some k) (g : goes x l a k) : waysTo x l a (j + 1) = waysTo x l a j ++ [(k, nextB x l a k)] := by
  unfold waysTo
  rw [List.take_add_one, hk]
  simp [g]
theorem waysTo_no {x : Nat → Int} {l : List Tk} {a : Lb} {j : Nat} {k : Int} (hk : kinds4[j]? = some k) (g : ¬ goes x l a k) : waysTo x l a (j + 1) = waysTo x l a j := by
  unfold waysTo
  rw [List.take_add_one, hk]
  simp [g]
theorem waysTo_len (x : Nat → Int) (l : List Tk) (a : Lb) (j : Nat) : (waysTo x l a j).length ≤ 4 := by
  unfold waysTo
  rw [List.length_map]
  refine Nat.le_trans (List.length_filter_le _ _) ?_
  simp [kinds4]; omega
def waysL (x : Nat → Int) (l : List Tk) (a : Lb) : List (Int × Lb) := waysTo x l a 4
theorem ways_at {x : Nat → Int} {l : List Tk} {a : Lb} {i : Nat} {p : Int × Lb} (h : (waysL x l a)[i]? = some p) : goes x l a p.1 ∧ p.2 = nextB x l a p.1 := by
  have hm := List.mem_of_getElem? h
  unfold waysL waysTo at hm
  simp only [List.mem_map, List.mem_filter, decide_eq_true_eq] at hm
  obtain ⟨k, ⟨_, g⟩, rfl⟩ := hm
  exact ⟨g, rfl⟩
/-- The ways of the first j kinds are the first ones. -/
theorem ways_take (x : Nat → Int) (l : List Tk) (a : Lb) (j : Nat) : waysTo x l a j = (waysL x l a).take (waysTo x l a j).length := by
  have h : (waysL x l a) = waysTo x l a j ++ ((kinds4.drop j).filter fun k => decide (goes x l a k)).map fun k => (k, nextB x l a k) := by
    unfold waysL waysTo
    rw [← List.map_append, ← List.filter_append, List.take_append_drop]
    rfl
  rw [h, List.take_left']
  rfl
theorem ways_hit {x : Nat → Int} {l : List Tk} {a : Lb} {j : Nat} {k : Int} (hk : kinds4[j]? = some k) (g : goes x l a k) : (waysL x l a)[(waysTo x l a j).length]? = some (k, nextB x l a k) := by
  have h := ways_take x l a (j + 1)
  rw [waysTo_yes hk g] at h
  have h2 : ((waysL x l a).take ((waysTo x l a j ++ [(k, nextB x l a k)]).length))[(waysTo x l a j).length]? = some (k, nextB x l a k) := by rw [← h]; simp
  rw [List.getElem?_take] at h2
  split at h2
  · exact h2
  · cases h2

/-! ### Minutes one behind the other -/

def playL (x : Nat → Int) (l : List Tk) : Lb → List Int → Lb × Bool
  | a, [] => (a, true)
  | a, k :: ks => if goes x l a k then playL x l (nextB x l a k) ks else (lz, false)

theorem playL_yes {x : Nat → Int} {l : List Tk} {a : Lb} {k : Int} {ks : List Int} (g : goes x l a k) : playL x l a (k :: ks) = playL x l (nextB x l a k) ks := if_pos g
theorem playL_no {x : Nat → Int} {l : List Tk} {a : Lb} {k : Int} {ks : List Int} (g : ¬ goes x l a k) : playL x l a (k :: ks) = (lz, false) := if_neg g

theorem play_right {x : Nat → Int} {l : List Tk} (ok : ∀ t ∈ l, TkOk t) : ∀ (ks : List Int) (a : Lb), RightL l a → (playL x l a ks).2 = true →
    RightL l (playL x l a ks).1 ∧ (playL x l a ks).1.1.now = a.1.now + ks.length ∧ boundV l a ≤ boundV l (playL x l a ks).1
  | [], a, h, _ => ⟨h, by simp [playL], Int.le_refl _⟩
  | k :: ks, a, h, hp => by
    by_cases g : goes x l a k
    · rw [playL_yes g] at hp ⊢
      have h1 := goes_on ok h g
      obtain ⟨r1, r2, r3⟩ := play_right ok ks _ h1.1 hp
      refine ⟨r1, by rw [r2, h1.2]; simp; omega, ?_⟩
      have := goes_bound ok h g
      split at this <;> omega
    · rw [playL_no g] at hp
      cases hp

theorem bound_done {l : List Tk} (ok : ∀ t ∈ l, TkOk t) {a : Lb} (h : RightL l a) : a.1.now ≤ boundV l a ∧ (a.2.1 = l.length → boundV l a = a.1.now) := by
  obtain ⟨h1, h2, h3⟩ := left_none ok h.2
  unfold boundV
  exact ⟨by omega, fun e => by have := h3.2 e; omega⟩

/-! ### What is wrong -/

open Classical in
noncomputable def bndE (l : List Tk) (a : Lb) : Int := if checkT l = 0 then (if RightL l a then 0 else 1) else checkT l
open Classical in
noncomputable def chk25 (x : Nat → Int) (l : List Tk) (a : Lb) : Int := if May x then bndE l a else 14

theorem bnd_bad {l : List Tk} {a : Lb} {e : Int} (h : checkT l = e) (hne : e ≠ 0) : bndE l a = e := by unfold bndE; rw [h, if_neg hne]
theorem bnd_no {l : List Tk} {a : Lb} (h : checkT l = 0) (hr : ¬ RightL l a) : bndE l a = 1 := by unfold bndE; rw [if_pos h, if_neg hr]
theorem bnd_yes {l : List Tk} {a : Lb} (h : checkT l = 0) (hr : RightL l a) : bndE l a = 0 := by unfold bndE; rw [if_pos h, if_pos hr]
theorem bnd_zero {l : List Tk} {a : Lb} (h : bndE l a = 0) : checkT l = 0 ∧ RightL l a := by
  unfold bndE at h
  by_cases h0 : checkT l = 0
  · rw [if_pos h0] at h
    by_cases h1 : RightL l a
    · exact ⟨h0, h1⟩
    · rw [if_neg h1] at h; cases h
  · rw [if_neg h0] at h; exact absurd h h0
theorem chk25_book {x : Nat → Int} {l : List Tk} {a : Lb} (h : ¬ May x) : chk25 x l a = 14 := if_neg h
theorem chk25_may {x : Nat → Int} {l : List Tk} {a : Lb} (h : May x) : chk25 x l a = bndE l a := if_pos h
theorem chk25_zero {x : Nat → Int} {l : List Tk} {a : Lb} (h : chk25 x l a = 0) : May x ∧ checkT l = 0 ∧ RightL l a := by
  by_cases hm : May x
  · rw [chk25_may hm] at h; exact ⟨hm, bnd_zero h⟩
  · rw [chk25_book hm] at h; cases h

end Go.Proofs.Ytolbihfnogbjaaa

/- What Check and check of layer 13 return, and the document's May. Conditions: none. -/
namespace Go.Proofs.Ytolbihfnogbjaaa
open Go.RowKit

/-- The ten numbers that are looked at one by one. -/
def ten (m : Mt) (k : Nat) : Int := match k with
  | 0 => m.acc
  | 1 => m.lie
  | 2 => m.dawn
  | 3 => m.day
  | 4 => m.longers
  | 5 => m.reduces
  | 6 => m.sabbath
  | 7 => m.week
  | 8 => m.last
  | _ => m.labour
theorem may_ten (m : Mt) : MayM m ↔ (0 ≤ m.now ∧ m.now ≤ 40320) ∧ ∀ k, k < 10 → 0 ≤ ten m k ∧ ten m k ≤ m.now := by
  constructor
  · intro h
    refine ⟨h.1, fun k hk => ?_⟩
    obtain ⟨-, h0, h1, h2, h3, h4, h5, h6, h7, h8, h9⟩ := h
    have : k = 0 ∨ k = 1 ∨ k = 2 ∨ k = 3 ∨ k = 4 ∨ k = 5 ∨ k = 6 ∨ k = 7 ∨ k = 8 ∨ k = 9 := by omega
    rcases this with rfl | rfl | rfl | rfl | rfl | rfl | rfl | rfl | rfl | rfl <;> assumption
  · intro ⟨h, t⟩
    exact ⟨h, t 0 (by omega), t 1 (by omega), t 2 (by omega), t 3 (by omega), t 4 (by omega), t 5 (by omega), t 6 (by omega), t 7 (by omega), t 8 (by omega), t 9 (by omega)⟩

/-- A meter by its ten numbers. -/
def byT (now : Int) (half split brief : Bool) (y : Nat → Int) : Mt := ⟨now, y 0, half, y 1, y 2, y 3, y 4, split, y 5, y 6, brief, y 7, y 8, y 9⟩
theorem byT_ten (m : Mt) : byT m.now m.half m.split m.brief (ten m) = m := rfl
def tn (y : Nat → Int) : Array Value := #[.int .i64 (y 0), .int .i64 (y 1), .int .i64 (y 2), .int .i64 (y 3), .int .i64 (y 4), .int .i64 (y 5), .int .i64 (y 6), .int .i64 (y 7), .int .i64 (y 8), .int .i64 (y 9)]
theorem tn_index (y : Nat → Int) (w : World) : ∀ k, k < 10 → (Instr.index 94 (.agg (tn y)) (.int .i64 (k : Nat))).run Try.prog w = .ok (.int .i64 (y k)) w := by
  intro i hi
  have : i = 0 ∨ i = 1 ∨ i = 2 ∨ i = 3 ∨ i = 4 ∨ i = 5 ∨ i = 6 ∨ i = 7 ∨ i = 8 ∨ i = 9 := by omega
  rcases this with rfl | rfl | rfl | rfl | rfl | rfl | rfl | rfl | rfl | rfl <;> (show _ = _; kernel_rfl)

set_option maxRecDepth 20000 in
set_option maxHeartbeats 1600000 in
open Classical in
theorem mcheck_any (m : Mt) (w : World) :
    Calls Try.prog 27 #[.agg (mt m)] w fun e w' => e = .returned (.int .i64 (if MayM m then 0 else 1)) ∧ Below w.heap.size w w' := by
  obtain ⟨v, hv⟩ : ∃ v : Int, (if MayM m then 0 else 1) = v := ⟨_, rfl⟩
  rw [hv]
  have HV := Lib.hid (may_ten m)
  obtain ⟨a0, a1, a2, a3, a4, a5, a6, a7, a8, a9, a10, a11, a12, a13⟩ := m
  have hV1 : Hid (¬ MayM ⟨a0, a1, a2, a3, a4, a5, a6, a7, a8, a9, a10, a11, a12, a13⟩ → v = 1) := Lib.hid (fun h => by rw [← hv, if_neg h])
  have hV0 : Hid (MayM ⟨a0, a1, a2, a3, a4, a5, a6, a7, a8, a9, a10, a11, a12, a13⟩ → v = 0) := Lib.hid (fun h => by rw [← hv, if_pos h])
  clear hv
  obtain ⟨y, hy⟩ : ∃ y, ten ⟨a0, a1, a2, a3, a4, a5, a6, a7, a8, a9, a10, a11, a12, a13⟩ = y := ⟨_, rfl⟩
  have hT : (#[.int .i64 a1, .int .i64 a3, .int .i64 a4, .int .i64 a5, .int .i64 a6, .int .i64 a8, .int .i64 a9, .int .i64 a11, .int .i64 a12, .int .i64 a13] : Array Value) = tn y := by rw [← hy]; rfl
  have HV : Hid (MayM ⟨a0, a1, a2, a3, a4, a5, a6, a7, a8, a9, a10, a11, a12, a13⟩ ↔ (0 ≤ a0 ∧ a0 ≤ 40320) ∧ ∀ k, k < 10 → 0 ≤ y k ∧ y k ≤ a0) := Lib.hid (by have := HV.out; rw [hy] at this; exact this)
  clear hy
  generalize hMM : MayM ⟨a0, a1, a2, a3, a4, a5, a6, a7, a8, a9, a10, a11, a12, a13⟩ = MM at HV hV0 hV1
  clear hMM
  have B0 : Bx (w.alloc (.cells (mt ⟨a0, a1, a2, a3, a4, a5, a6, a7, a8, a9, a10, a11, a12, a13⟩) 26)) w.heap.size 26 (mt ⟨a0, a1, a2, a3, a4, a5, a6, a7, a8, a9, a10, a11, a12, a13⟩) := Bx.new _ _ rfl
  have p0 : (w.alloc (.cells (mt ⟨a0, a1, a2, a3, a4, a5, a6, a7, a8, a9, a10, a11, a12, a13⟩) 26)).cell? ⟨w.heap.size, 0, none⟩ = some (.int .i64 a0) := B0.cell rfl
  have p1 : (w.alloc (.cells (mt ⟨a0, a1, a2, a3, a4, a5, a6, a7, a8, a9, a10, a11, a12, a13⟩) 26)).cell? ⟨w.heap.size, 1, none⟩ = some (.int .i64 a1) := B0.cell rfl
  have p3 : (w.alloc (.cells (mt ⟨a0, a1, a2, a3, a4, a5, a6, a7, a8, a9, a10, a11, a12, a13⟩) 26)).cell? ⟨w.heap.size, 3, none⟩ = some (.int .i64 a3) := B0.cell rfl
  have p4 : (w.alloc (.cells (mt ⟨a0, a1, a2, a3, a4, a5, a6, a7, a8, a9, a10, a11, a12, a13⟩) 26)).cell? ⟨w.heap.size, 4, none⟩ = some (.int .i64 a4) := B0.cell rfl
  have p5 : (w.alloc (.cells (mt ⟨a0, a1, a2, a3, a4, a5, a6, a7, a8, a9, a10, a11, a12, a13⟩) 26)).cell? ⟨w.heap.size, 5, none⟩ = some (.int .i64 a5) := B0.cell rfl
  have p6 : (w.alloc (.cells (mt ⟨a0, a1, a2, a3, a4, a5, a6, a7, a8, a9, a10, a11, a12, a13⟩) 26)).cell? ⟨w.heap.size, 6, none⟩ = some (.int .i64 a6) := B0.cell rfl
  have p8 : (w.alloc (.cells (mt ⟨a0, a1, a2, a3, a4, a5, a6, a7, a8, a9, a10, a11, a12, a13⟩) 26)).cell? ⟨w.heap.size, 8, none⟩ = some (.int .i64 a8) := B0.cell rfl
  have p9 : (w.alloc (.cells (mt ⟨a0, a1, a2, a3, a4, a5, a6, a7, a8, a9, a10, a11, a12, a13⟩) 26)).cell? ⟨w.heap.size, 9, none⟩ = some (.int .i64 a9) := B0.cell rfl
  have p11 : (w.alloc (.cells (mt ⟨a0, a1, a2, a3, a4, a5, a6, a7, a8, a9, a10, a11, a12, a13⟩) 26)).cell? ⟨w.heap.size, 11, none⟩ = some (.int .i64 a11) := B0.cell rfl
  have p12 : (w.alloc (.cells (mt ⟨a0, a1, a2, a3, a4, a5, a6, a7, a8, a9, a10, a11, a12, a13⟩) 26)).cell? ⟨w.heap.size, 12, none⟩ = some (.int .i64 a12) := B0.cell rfl
  have p13 : (w.alloc (.cells (mt ⟨a0, a1, a2, a3, a4, a5, a6, a7, a8, a9, a10, a11, a12, a13⟩) 26)).cell? ⟨w.heap.size, 13, none⟩ = some (.int .i64 a13) := B0.cell rfl
  by_cases h0 : a0 < 0
  case pos =>
    have d0 : decide (a0 < 0) = true := decide_eq_true h0
    obtain rfl : v = 1 := hV1.out (fun h => by have := HV.out.1 h; omega)
    clear h0 HV hV0 hV1 hT
    go_enter Try.func27, Try.ntmps27
    go_wp2
    go_ret
    exact ⟨rfl, (Below.refl _ _).alloc (Nat.le_refl _) _⟩
  have d0 : decide (a0 < 0) = false := decide_eq_false h0
  by_cases h1 : 40320 < a0
  case pos =>
    have d1 : decide (40320 < a0) = true := decide_eq_true h1
    obtain rfl : v = 1 := hV1.out (fun h => by have := HV.out.1 h; omega)
    clear h0 h1 HV hV0 hV1 hT
    go_enter Try.func27, Try.ntmps27
    go_wp2
    go_ret
    exact ⟨rfl, (Below.refl _ _).alloc (Nat.le_refl _) _⟩
  have d1 : decide (40320 < a0) = false := decide_eq_false h1
  go_enter Try.func27, Try.ntmps27
  go_wp2_with (refine wpList_build_as rfl 94 _ rfl (tn y) (by first | exact congrArg some hT | (rw [← hT]; kernel_rfl)) ?_)
  clear p1 p3 p4 p5 p6 p8 p9 p11 p12 p13 B0 hT
  go_loop [34] (fun i => ∃ k : Nat, k ≤ 10 ∧ i = .int .i64 k ∧ Hid (∀ j, j < k → 0 ≤ y j ∧ y j ≤ a0)) (fun i => 10 - (intOf i).toNat)
  case atStart => exact ⟨0, Nat.zero_le _, rfl, Lib.hid (fun j hj => by omega)⟩
  case round =>
    obtain ⟨k, hk, rfl, H⟩ := hrel
    by_cases hlt : k < 10
    case neg =>
      obtain rfl : k = 10 := by omega
      obtain rfl : v = 0 := hV0.out (HV.out.2 ⟨by omega, fun j hj => H.out j hj⟩)
      go_wp2
      go_ret
      exact ⟨rfl, (Below.refl _ _).alloc (Nat.le_refl _) _⟩
    have hi0 := fun W => tn_index y W k hlt
    obtain ⟨n, hn⟩ : ∃ n, y k = n := ⟨_, rfl⟩
    rw [hn] at hi0
    have hn := Lib.hid hn
    by_cases lo : n < 0
    case pos =>
      have dl : decide (n < 0) = true := decide_eq_true lo
      obtain rfl : v = 1 := hV1.out (fun h => by have := (HV.out.1 h).2 k hlt; rw [hn.out] at this; omega)
      clear lo HV hV0 hV1
      go_wp2
      go_ret
      exact ⟨rfl, (Below.refl _ _).alloc (Nat.le_refl _) _⟩
    have dl : decide (n < 0) = false := decide_eq_false lo
    by_cases hi : a0 < n
    case pos =>
      have dh : decide (a0 < n) = true := decide_eq_true hi
      obtain rfl : v = 1 := hV1.out (fun h => by have := (HV.out.1 h).2 k hlt; rw [hn.out] at this; omega)
      clear lo hi HV hV0 hV1
      go_wp2
      go_ret
      exact ⟨rfl, (Below.refl _ _).alloc (Nat.le_refl _) _⟩
    have dh : decide (a0 < n) = false := decide_eq_false hi
    have HN : Hid (0 ≤ n ∧ n ≤ a0) := Lib.hid ⟨by omega, by omega⟩
    clear lo hi
    go_wp2
    go_round
    case rel => exact ⟨k + 1, by omega, by go_num, Lib.hid (fun j hj => by
        by_cases e : j = k
        · subst e; rw [hn.out]; exact HN.out
        · exact H.out j (by omega))⟩
    case measure => simp [intOf]; omega

set_option maxRecDepth 20000 in
open Classical in
theorem check13_any (x : Nat → Int) (m : Mt) (w : World) :
    Calls Try.prog 50 #[.agg (bk x), .agg (mt m)] w fun e w' => e = .returned (.int .i64 (if May x then (if MayM m then 0 else 1) else 14)) ∧ Below w.heap.size w w' := by
  have C1 := fun W => check7_any x W
  have C2 := fun W => mcheck_any m W
  have RB : RdI ((w.alloc (.cells (bk x) 23)).alloc (.cells (mt m) 26)) w.heap.size 0 x := (RdI.new x 23 rfl).alloc _
  have BM : Bx ((w.alloc (.cells (bk x) 23)).alloc (.cells (mt m) 26)) (w.heap.size + 1) 26 (mt m) := Bx.new (W := w.alloc (.cells (bk x) 23)) _ _ (by simp)
  by_cases hm : May x
  case neg =>
    rw [if_neg hm]
    simp only [if_neg hm] at C1
    clear hm C2
    go_enter Try.func50, Try.ntmps50
    go_wp2_with (first | refine wpList_load_bk (by rfl) 23 _ rfl _ _ rfl x _ (RB) Try.underlying23 rfl (by kernel_rfl) ?_ | (go_at_call 23; (with_reducible refine (C1 _).mono ?_); rintro e w1 ⟨rfl, hb1⟩))
    go_ret
    exact ⟨rfl, b_cl (b_al (b_al (Below.refl _ _) (Nat.le_refl _) _) (Nat.le_refl _) _) (Nat.le_refl _) hb1⟩
  rw [if_pos hm]
  simp only [if_pos hm] at C1
  clear hm
  generalize (if MayM m then (0 : Int) else 1) = v at C2 ⊢
  go_enter Try.func50, Try.ntmps50
  go_wp2_with (first | refine wpList_load_bk (by rfl) 23 _ rfl _ _ rfl x _ (RB) Try.underlying23 rfl (by kernel_rfl) ?_ | (go_at_call 23; (with_reducible refine (C1 _).mono ?_); rintro e w1 ⟨rfl, hb1⟩; have BM1 := BM.below hb1) | refine wpList_load_box (by rfl) 26 _ rfl (w.heap.size + 1) rfl 26 _ _ BM1 Try.underlying26 rfl (by kernel_rfl) ?_ | (go_at_call 27; (with_reducible refine (C2 _).mono ?_); rintro e w2 ⟨rfl, hb2⟩))
  go_ret
  exact ⟨rfl, b_cl (b_cl (b_al (b_al (Below.refl _ _) (Nat.le_refl _) _) (Nat.le_refl _) _) (Nat.le_refl _) hb1) (Nat.le_refl _) hb2⟩

end Go.Proofs.Ytolbihfnogbjaaa

/- Two meters compared. Conditions: none. -/
namespace Go.Proofs.Ytolbihfnogbjaaa
open Go.RowKit

theorem mt_bool (s : Mt) : ∀ i, (i = 2 ∨ i = 7 ∨ i = 10) → ∃ b, (mt s)[i]? = some (.bool b) := by
  intro i hi
  rcases hi with rfl | rfl | rfl <;> exact ⟨_, rfl⟩
theorem mt_int (s : Mt) : ∀ i, i < 14 → ¬ (i = 2 ∨ i = 7 ∨ i = 10) → ∃ n, (mt s)[i]? = some (.int .i64 n) := by
  intro i hi hn
  have : i = 0 ∨ i = 1 ∨ i = 3 ∨ i = 4 ∨ i = 5 ∨ i = 6 ∨ i = 8 ∨ i = 9 ∨ i = 11 ∨ i = 12 ∨ i = 13 := by omega
  rcases this with rfl | rfl | rfl | rfl | rfl | rfl | rfl | rfl | rfl | rfl | rfl <;> exact ⟨_, rfl⟩
theorem mt_all (s u : Mt) : ((List.range 14).all fun i => veq ((mt s).getD i undef) ((mt u).getD i undef)) = s.eqB u := by
  simp [List.range, List.range.loop, mt, veq, Mt.eqB]
theorem fields_mt : (Try.prog.fieldsOf 26).toList.map (·.offset) = List.range 14 := by kernel_rfl
theorem fields_mtb : ∀ f ∈ (Try.prog.fieldsOf 26).toList, f.name ≠ "_" ∧ f.type = (if f.offset = 2 ∨ f.offset = 7 ∨ f.offset = 10 then 4 else 3) ∧ f.offset < 14 := of_decide_eq_true (by kernel_rfl)
theorem guard_mt : Try.prog.eqGuardType Try.prog.depth 26 = false := by kernel_rfl

set_option maxRecDepth 20000 in
theorem equal_mt (s u : Mt) (w : World) : (Op.equalIn 10000 26 (.agg (mt s)) (.agg (mt u))).run Try.prog w = .ok (s.eqB u) w := by
  rw [show (10000 : Nat) = 9998 + 1 + 1 from rfl, run_equalIn_struct w (9998 + 1) 26 (mt s) (mt u) (by kernel_rfl) (by kernel_rfl), eqFields_bas (mt s) (mt u) w 9998 _ (fun f hf => by
    obtain ⟨hn, ht, ho⟩ := fields_mtb f hf
    by_cases hb : f.offset = 2 ∨ f.offset = 7 ∨ f.offset = 10
    · rw [if_pos hb] at ht
      obtain ⟨a, ha⟩ := mt_bool s _ hb
      obtain ⟨b, hb'⟩ := mt_bool u _ hb
      exact ⟨hn, _, _, ha, hb', Or.inr ⟨a, b, by rw [ht]; exact Try.underlying4, rfl, rfl⟩⟩
    · rw [if_neg hb] at ht
      obtain ⟨a, ha⟩ := mt_int s _ ho hb
      obtain ⟨b, hb'⟩ := mt_int u _ ho hb
      exact ⟨hn, _, _, ha, hb', Or.inl ⟨.i64, a, b, by rw [ht]; exact Try.underlying3, rfl, rfl⟩⟩)]
  congr 1
  rw [← mt_all, ← fields_mt, List.all_map]
  rfl

section
variable {ops : Array Oper} {rest : List Oper} {o : Oper} {a : Act} {w : World} {Q : Exit → Act → World → Prop}
theorem exec_eql_mt {r : Operand → Value} {e f : Operand} {u : TypeId} (x y : Mt) (w : World) (ho : o.op = .binOp .eql 26 e f u) (hx : r e = .agg (mt x)) (hy : r f = .agg (mt y)) : (execOp r o).run Try.prog w = .ok (.value (.bool (x.eqB y))) w := by
  unfold execOp
  simp only [ho, hx, hy, Sem.run_bind, run_eqGuard_agg w .eql 26 e f (mt x) (mt y) guard_mt, run_eql_struct, equal_mt, Result.andThen_ok]
  rfl
theorem wpList_eql_mt (hw : Region.wanted o (yielded ops a.tmps) = true) {e f : Operand} {u : TypeId} (ho : o.op = .binOp .eql 26 e f u) (x y : Mt) (v : Bool) (hx : a.eval e = .agg (mt x)) (hy : a.eval f = .agg (mt y)) (hv : x.eqB y = v)
    (h : wpList Try.prog ops Q rest (a.put o.dst (.bool v)) w) : wpList Try.prog ops Q (o :: rest) a w :=
  wpList_yields hw (fun w => exec_eql_mt x y w ho hx hy) (by rw [hv]; exact h)
theorem exec_neq_mt {r : Operand → Value} {e f : Operand} {u : TypeId} (x y : Mt) (w : World) (ho : o.op = .binOp .neq 26 e f u) (hx : r e = .agg (mt x)) (hy : r f = .agg (mt y)) : (execOp r o).run Try.prog w = .ok (.value (.bool (!x.eqB y))) w := by
  unfold execOp
  simp only [ho, hx, hy, Sem.run_bind, run_eqGuard_agg w .neq 26 e f (mt x) (mt y) guard_mt, run_neq_struct, equal_mt, Result.andThen_ok]
  rfl
theorem wpList_neq_mt (hw : Region.wanted o (yielded ops a.tmps) = true) {e f : Operand} {u : TypeId} (ho : o.op = .binOp .neq 26 e f u) (x y : Mt) (v : Bool) (hx : a.eval e = .agg (mt x)) (hy : a.eval f = .agg (mt y)) (hv : x.eqB y = v)
    (h : wpList Try.prog ops Q rest (a.put o.dst (.bool (!v))) w) : wpList Try.prog ops Q (o :: rest) a w :=
  wpList_yields hw (fun w => exec_neq_mt x y w ho hx hy) (by rw [hv]; exact h)
end

end Go.Proofs.Ytolbihfnogbjaaa

/- What the document's May of layer 13 returns. Conditions: none. -/
namespace Go.Proofs.Ytolbihfnogbjaaa
open Go.RowKit

theorem tn_at (y : Nat → Int) : ∀ k, k < 10 → (tn y)[k]? = some (.int .i64 (y k)) := by
  intro i hi
  have : i = 0 ∨ i = 1 ∨ i = 2 ∨ i = 3 ∨ i = 4 ∨ i = 5 ∨ i = 6 ∨ i = 7 ∨ i = 8 ∨ i = 9 := by omega
  rcases this with rfl | rfl | rfl | rfl | rfl | rfl | rfl | rfl | rfl | rfl <;> rfl

set_option maxRecDepth 20000 in
set_option maxHeartbeats 1600000 in
open Classical in
theorem refmay13_any (m : Mt) (w : World) :
    Calls Try.prog 22 #[.agg (mt m)] w fun e w' => e = .returned (.bool (if MayM m then true else false)) ∧ Below w.heap.size w w' := by
  obtain ⟨v, hv⟩ : ∃ v : Bool, (if MayM m then true else false) = v := ⟨_, rfl⟩
  rw [hv]
  have HV := Lib.hid (may_ten m)
  obtain ⟨a0, a1, a2, a3, a4, a5, a6, a7, a8, a9, a10, a11, a12, a13⟩ := m
  have hV1 : Hid (¬ MayM ⟨a0, a1, a2, a3, a4, a5, a6, a7, a8, a9, a10, a11, a12, a13⟩ → v = false) := Lib.hid (fun h => by rw [← hv, if_neg h])
  have hV0 : Hid (MayM ⟨a0, a1, a2, a3, a4, a5, a6, a7, a8, a9, a10, a11, a12, a13⟩ → v = true) := Lib.hid (fun h => by rw [← hv, if_pos h])
  clear hv
  obtain ⟨y, hy⟩ : ∃ y, ten ⟨a0, a1, a2, a3, a4, a5, a6, a7, a8, a9, a10, a11, a12, a13⟩ = y := ⟨_, rfl⟩
  have hT : (#[.int .i64 a1, .int .i64 a3, .int .i64 a4, .int .i64 a5, .int .i64 a6, .int .i64 a8, .int .i64 a9, .int .i64 a11, .int .i64 a12, .int .i64 a13] : Array Value) = tn y := by rw [← hy]; rfl
  have HV : Hid (MayM ⟨a0, a1, a2, a3, a4, a5, a6, a7, a8, a9, a10, a11, a12, a13⟩ ↔ (0 ≤ a0 ∧ a0 ≤ 40320) ∧ ∀ k, k < 10 → 0 ≤ y k ∧ y k ≤ a0) := Lib.hid (by have := HV.out; rw [hy] at this; exact this)
  clear hy
  generalize hMM : MayM ⟨a0, a1, a2, a3, a4, a5, a6, a7, a8, a9, a10, a11, a12, a13⟩ = MM at HV hV0 hV1
  clear hMM
  have B0 : Bx (w.alloc (.cells (mt ⟨a0, a1, a2, a3, a4, a5, a6, a7, a8, a9, a10, a11, a12, a13⟩) 26)) w.heap.size 26 (mt ⟨a0, a1, a2, a3, a4, a5, a6, a7, a8, a9, a10, a11, a12, a13⟩) := Bx.new _ _ rfl
  have p0 : (w.alloc (.cells (mt ⟨a0, a1, a2, a3, a4, a5, a6, a7, a8, a9, a10, a11, a12, a13⟩) 26)).cell? ⟨w.heap.size, 0, none⟩ = some (.int .i64 a0) := B0.cell rfl
  have p1 : (w.alloc (.cells (mt ⟨a0, a1, a2, a3, a4, a5, a6, a7, a8, a9, a10, a11, a12, a13⟩) 26)).cell? ⟨w.heap.size, 1, none⟩ = some (.int .i64 a1) := B0.cell rfl
  have p3 : (w.alloc (.cells (mt ⟨a0, a1, a2, a3, a4, a5, a6, a7, a8, a9, a10, a11, a12, a13⟩) 26)).cell? ⟨w.heap.size, 3, none⟩ = some (.int .i64 a3) := B0.cell rfl
  have p4 : (w.alloc (.cells (mt ⟨a0, a1, a2, a3, a4, a5, a6, a7, a8, a9, a10, a11, a12, a13⟩) 26)).cell? ⟨w.heap.size, 4, none⟩ = some (.int .i64 a4) := B0.cell rfl
  have p5 : (w.alloc (.cells (mt ⟨a0, a1, a2, a3, a4, a5, a6, a7, a8, a9, a10, a11, a12, a13⟩) 26)).cell? ⟨w.heap.size, 5, none⟩ = some (.int .i64 a5) := B0.cell rfl
  have p6 : (w.alloc (.cells (mt ⟨a0, a1, a2, a3, a4, a5, a6, a7, a8, a9, a10, a11, a12, a13⟩) 26)).cell? ⟨w.heap.size, 6, none⟩ = some (.int .i64 a6) := B0.cell rfl
  have p8 : (w.alloc (.cells (mt ⟨a0, a1, a2, a3, a4, a5, a6, a7, a8, a9, a10, a11, a12, a13⟩) 26)).cell? ⟨w.heap.size, 8, none⟩ = some (.int .i64 a8) := B0.cell rfl
  have p9 : (w.alloc (.cells (mt ⟨a0, a1, a2, a3, a4, a5, a6, a7, a8, a9, a10, a11, a12, a13⟩) 26)).cell? ⟨w.heap.size, 9, none⟩ = some (.int .i64 a9) := B0.cell rfl
  have p11 : (w.alloc (.cells (mt ⟨a0, a1, a2, a3, a4, a5, a6, a7, a8, a9, a10, a11, a12, a13⟩) 26)).cell? ⟨w.heap.size, 11, none⟩ = some (.int .i64 a11) := B0.cell rfl
  have p12 : (w.alloc (.cells (mt ⟨a0, a1, a2, a3, a4, a5, a6, a7, a8, a9, a10, a11, a12, a13⟩) 26)).cell? ⟨w.heap.size, 12, none⟩ = some (.int .i64 a12) := B0.cell rfl
  have p13 : (w.alloc (.cells (mt ⟨a0, a1, a2, a3, a4, a5, a6, a7, a8, a9, a10, a11, a12, a13⟩) 26)).cell? ⟨w.heap.size, 13, none⟩ = some (.int .i64 a13) := B0.cell rfl
  by_cases h0 : a0 < 0
  case pos =>
    have d0 : decide (a0 < 0) = true := decide_eq_true h0
    obtain rfl : v = false := hV1.out (fun h => by have := HV.out.1 h; omega)
    clear h0 HV hV0 hV1 hT
    go_enter Try.func22, Try.ntmps22
    go_wp2
    go_ret
    exact ⟨rfl, (Below.refl _ _).alloc (Nat.le_refl _) _⟩
  have d0 : decide (a0 < 0) = false := decide_eq_false h0
  by_cases h1 : 40320 < a0
  case pos =>
    have d1 : decide (40320 < a0) = true := decide_eq_true h1
    obtain rfl : v = false := hV1.out (fun h => by have := HV.out.1 h; omega)
    clear h0 h1 HV hV0 hV1 hT
    go_enter Try.func22, Try.ntmps22
    go_wp2
    go_ret
    exact ⟨rfl, (Below.refl _ _).alloc (Nat.le_refl _) _⟩
  have d1 : decide (40320 < a0) = false := decide_eq_false h1
  have S0 : ∀ k, k < 10 → ((w.alloc (.cells (mt ⟨a0, a1, a2, a3, a4, a5, a6, a7, a8, a9, a10, a11, a12, a13⟩) 26)).alloc (.cells #[.int .i64 a1, .int .i64 a3, .int .i64 a4, .int .i64 a5, .int .i64 a6, .int .i64 a8, .int .i64 a9, .int .i64 a11, .int .i64 a12, .int .i64 a13] 3)).cell? ⟨w.heap.size + 1, k, none⟩ = some (.int .i64 (y k)) := fun k hk => by
    rw [hT]
    exact (Bx.new (W := (w.alloc (.cells (mt ⟨a0, a1, a2, a3, a4, a5, a6, a7, a8, a9, a10, a11, a12, a13⟩) 26))) 3 (tn y) (by simp)).cell (tn_at y k hk)
  have HB1 : Below w.heap.size w ((w.alloc (.cells (mt ⟨a0, a1, a2, a3, a4, a5, a6, a7, a8, a9, a10, a11, a12, a13⟩) 26)).alloc (.cells #[.int .i64 a1, .int .i64 a3, .int .i64 a4, .int .i64 a5, .int .i64 a6, .int .i64 a8, .int .i64 a9, .int .i64 a11, .int .i64 a12, .int .i64 a13] 3)) := b_al (b_al (Below.refl _ _) (Nat.le_refl _) _) (by simp) _
  have HZ1 : w.heap.size + 1 < ((w.alloc (.cells (mt ⟨a0, a1, a2, a3, a4, a5, a6, a7, a8, a9, a10, a11, a12, a13⟩) 26)).alloc (.cells #[.int .i64 a1, .int .i64 a3, .int .i64 a4, .int .i64 a5, .int .i64 a6, .int .i64 a8, .int .i64 a9, .int .i64 a11, .int .i64 a12, .int .i64 a13] 3)).heap.size := by simp
  have N0 : ((w.alloc (.cells (mt ⟨a0, a1, a2, a3, a4, a5, a6, a7, a8, a9, a10, a11, a12, a13⟩) 26)).alloc (.cells #[.int .i64 a1, .int .i64 a3, .int .i64 a4, .int .i64 a5, .int .i64 a6, .int .i64 a8, .int .i64 a9, .int .i64 a11, .int .i64 a12, .int .i64 a13] 3)).cell? ⟨w.heap.size, 0, none⟩ = some (.int .i64 a0) := c_al _ p0
  clear hT
  go_enter Try.func22, Try.ntmps22
  go_wp2
  clear p0 p1 p3 p4 p5 p6 p8 p9 p11 p12 p13 B0
  generalize (w.alloc (.cells (mt ⟨a0, a1, a2, a3, a4, a5, a6, a7, a8, a9, a10, a11, a12, a13⟩) 26)).alloc (.cells #[.int .i64 a1, .int .i64 a3, .int .i64 a4, .int .i64 a5, .int .i64 a6, .int .i64 a8, .int .i64 a9, .int .i64 a11, .int .i64 a12, .int .i64 a13] 3) = w1 at S0 N0 HB1 HZ1 ⊢
  go_loopw [4] (fun i wr => ∃ k : Nat, k ≤ 10 ∧ i = .int .i64 k ∧ Hid (∀ j, j < k → 0 ≤ y j ∧ y j ≤ a0) ∧ Below w1.heap.size w1 wr) (fun i _ => 10 - (intOf i).toNat)
  case atStart => exact ⟨0, Nat.zero_le _, rfl, Lib.hid (fun j hj => by omega), Below.refl _ _⟩
  case round =>
    obtain ⟨k, hk, rfl, H, hbr⟩ := hrel
    obtain ⟨w2, rfl⟩ : ∃ w2 : World, w2 = wr := ⟨_, rfl⟩
    by_cases hlt : k < 10
    case neg =>
      obtain rfl : k = 10 := by omega
      obtain rfl : v = true := hV0.out (HV.out.2 ⟨by omega, fun j hj => H.out j hj⟩)
      go_wp2
      go_ret
      exact ⟨rfl, HB1.trans (hbr.mono HB1.size)⟩
    have hi0 : w2.cell? ⟨w.heap.size + 1, k, none⟩ = some (.int .i64 (y k)) := by
      rw [hbr.cell (p := ⟨w.heap.size + 1, k, none⟩) HZ1]; exact S0 k hlt
    have hn0 : w2.cell? ⟨w.heap.size, 0, none⟩ = some (.int .i64 a0) := by
      rw [hbr.cell (p := ⟨w.heap.size, 0, none⟩) (by show w.heap.size < _; omega)]; exact N0
    obtain ⟨n, hn⟩ : ∃ n, y k = n := ⟨_, rfl⟩
    rw [hn] at hi0
    have hn := Lib.hid hn
    have hk10 : (k : Int) < 10 := by omega
    by_cases lo : n < 0
    case pos =>
      have dl : decide (n < 0) = true := decide_eq_true lo
      obtain rfl : v = false := hV1.out (fun h => by have := (HV.out.1 h).2 k hlt; rw [hn.out] at this; omega)
      clear lo HV hV0 hV1
      go_wp2
      go_quiet (fail)
      go_wp2
      go_ret
      exact ⟨rfl, b_dn (HB1.trans (hbr.mono HB1.size))⟩
    have dl : decide (n < 0) = false := decide_eq_false lo
    by_cases hi : a0 < n
    case pos =>
      have dh : decide (a0 < n) = true := decide_eq_true hi
      obtain rfl : v = false := hV1.out (fun h => by have := (HV.out.1 h).2 k hlt; rw [hn.out] at this; omega)
      clear lo hi HV hV0 hV1
      go_wp2
      go_quiet (fail)
      go_wp2
      go_ret
      exact ⟨rfl, b_dn (HB1.trans (hbr.mono HB1.size))⟩
    have dh : decide (a0 < n) = false := decide_eq_false hi
    have HN : Hid (0 ≤ n ∧ n ≤ a0) := Lib.hid ⟨by omega, by omega⟩
    clear lo hi
    go_wp2
    go_quiet (fail)
    go_wp2
    go_roundw
    case rel => exact ⟨k + 1, by omega, by go_num, Lib.hid (fun j hj => by
        by_cases e : j = k
        · subst e; rw [hn.out]; exact HN.out
        · exact H.out j (by omega)), b_dn hbr⟩
    case measure => simp [intOf]; omega

end Go.Proofs.Ytolbihfnogbjaaa

/- How the program's count of layer 13 (a book, a meter, a set) lies in memory, and what a call that turns it leaves. Conditions: none beyond each lemma's own premises. -/
namespace Go.Proofs.Ytolbihfnogbjaaa
open Go.RowKit

theorem Chg.rdI {W W' : World} {g b off : Nat} {t : TypeId} {cs : Array Value} {x : Nat → Int} (c : Chg W g t cs W') (h : RdI W b off x) (hp : b ≠ g) : RdI W' b off x :=
  ⟨Nat.lt_of_lt_of_le h.1 c.size, fun i hi => (c.cell (p := ⟨b, off + i, none⟩) hp h.1).trans (h.2 i hi)⟩

/-- The cells of a count: the book, the meter, the set. -/
def cnt (x : Nat → Int) (m : Mt) (n : Nat) : Array Value := #[.int .i64 (x 0), .int .i64 (x 1), .int .i64 (x 2), .int .i64 (x 3), .int .i64 (x 4), .int .i64 (x 5), .int .i64 (x 6), .int .i64 (x 7), .int .i64 (x 8), .int .i64 (x 9), .int .i64 (x 10), .int .i64 (x 11), .int .i64 (x 12), .int .i64 (x 13), .int .i64 (x 14), .int .i64 (x 15), .int .i64 (x 16), .int .i64 (x 17), .int .i64 (x 18),
  .int .i64 m.now, .int .i64 m.acc, .bool m.half, .int .i64 m.lie, .int .i64 m.dawn, .int .i64 m.day, .int .i64 m.longers, .bool m.split, .int .i64 m.reduces, .int .i64 m.sabbath, .bool m.brief, .int .i64 m.week, .int .i64 m.last, .int .i64 m.labour, .int .i64 (n : Int)]
theorem cnt_size (x : Nat → Int) (m : Mt) (n : Nat) : (cnt x m n).size = 34 := rfl
theorem cnt_one (x : Nat → Int) (m : Mt) (n : Nat) : (cnt x m n).all (·.oneCell') = true := by kernel_rfl
theorem cnt_bk (x : Nat → Int) (m : Mt) (n : Nat) : ∀ i, i < 19 → (cnt x m n)[0 + i]? = some (.int .i64 (x i)) := by
  intro i hi
  have : i = 0 ∨ i = 1 ∨ i = 2 ∨ i = 3 ∨ i = 4 ∨ i = 5 ∨ i = 6 ∨ i = 7 ∨ i = 8 ∨ i = 9 ∨ i = 10 ∨ i = 11 ∨ i = 12 ∨ i = 13 ∨ i = 14 ∨ i = 15 ∨ i = 16 ∨ i = 17 ∨ i = 18 := by omega
  rcases this with rfl | rfl | rfl | rfl | rfl | rfl | rfl | rfl | rfl | rfl | rfl | rfl | rfl | rfl | rfl | rfl | rfl | rfl | rfl <;> rfl

/-- Block g is a count. -/
abbrev Cn (W : World) (g : Nat) (x : Nat → Int) (m : Mt) (n : Nat) : Prop := Bx W g 110 (cnt x m n)
theorem Cn.rdI {W : World} {g : Nat} {x : Nat → Int} {m : Mt} {n : Nat} (h : Cn W g x m n) : RdI W g 0 x := ⟨h.lt, fun i hi => h.cell (cnt_bk x m n i hi)⟩

/-- The cells of the meter and the set. -/
theorem Cn.cells {W : World} {g : Nat} {x : Nat → Int} {m : Mt} {n : Nat} (h : Cn W g x m n) :
    W.cell? ⟨g, 19, none⟩ = some (.int .i64 m.now) ∧ W.cell? ⟨g, 20, none⟩ = some (.int .i64 m.acc) ∧ W.cell? ⟨g, 21, none⟩ = some (.bool m.half) ∧ W.cell? ⟨g, 22, none⟩ = some (.int .i64 m.lie) ∧ W.cell? ⟨g, 23, none⟩ = some (.int .i64 m.dawn) ∧ W.cell? ⟨g, 24, none⟩ = some (.int .i64 m.day) ∧ W.cell? ⟨g, 25, none⟩ = some (.int .i64 m.longers) ∧ W.cell? ⟨g, 26, none⟩ = some (.bool m.split) ∧ W.cell? ⟨g, 27, none⟩ = some (.int .i64 m.reduces) ∧ W.cell? ⟨g, 28, none⟩ = some (.int .i64 m.sabbath) ∧ W.cell? ⟨g, 29, none⟩ = some (.bool m.brief) ∧ W.cell? ⟨g, 30, none⟩ = some (.int .i64 m.week) ∧ W.cell? ⟨g, 31, none⟩ = some (.int .i64 m.last) ∧ W.cell? ⟨g, 32, none⟩ = some (.int .i64 m.labour) ∧ W.cell? ⟨g, 33, none⟩ = some (.int .i64 (n : Int)) :=
  ⟨h.cell rfl, h.cell rfl, h.cell rfl, h.cell rfl, h.cell rfl, h.cell rfl, h.cell rfl, h.cell rfl, h.cell rfl, h.cell rfl, h.cell rfl, h.cell rfl, h.cell rfl, h.cell rfl, h.cell rfl⟩

/-- The cells of the book. -/
theorem Cn.book {W : World} {g : Nat} {x : Nat → Int} {m : Mt} {n : Nat} (h : Cn W g x m n) :
    W.cell? ⟨g, 0, none⟩ = some (.int .i64 (x 0)) ∧ W.cell? ⟨g, 4, none⟩ = some (.int .i64 (x 4)) ∧ W.cell? ⟨g, 5, none⟩ = some (.int .i64 (x 5)) ∧ W.cell? ⟨g, 6, none⟩ = some (.int .i64 (x 6)) ∧ W.cell? ⟨g, 8, none⟩ = some (.int .i64 (x 8)) ∧ W.cell? ⟨g, 9, none⟩ = some (.int .i64 (x 9)) ∧ W.cell? ⟨g, 11, none⟩ = some (.int .i64 (x 11)) ∧ W.cell? ⟨g, 14, none⟩ = some (.int .i64 (x 14)) ∧ W.cell? ⟨g, 15, none⟩ = some (.int .i64 (x 15)) ∧ W.cell? ⟨g, 16, none⟩ = some (.int .i64 (x 16)) ∧ W.cell? ⟨g, 17, none⟩ = some (.int .i64 (x 17)) ∧ W.cell? ⟨g, 18, none⟩ = some (.int .i64 (x 18)) :=
  ⟨h.cell rfl, h.cell rfl, h.cell rfl, h.cell rfl, h.cell rfl, h.cell rfl, h.cell rfl, h.cell rfl, h.cell rfl, h.cell rfl, h.cell rfl, h.cell rfl⟩

/-- What a call leaves that turns the count. -/
abbrev CnTo (W : World) (g : Nat) (x : Nat → Int) (m : Mt) (n : Nat) (W' : World) : Prop := Chg W g 110 (cnt x m n) W'

end Go.Proofs.Ytolbihfnogbjaaa

/- What breaks and goesOn of layer 13 leave. Conditions: as each theorem says. -/
namespace Go.Proofs.Ytolbihfnogbjaaa
open Go.RowKit

set_option maxRecDepth 20000 in
theorem breaks_any (g : Nat) (x : Nat → Int) (m : Mt) (n k : Nat) (q : Int) (is : Bool) (w : World) (hb : Cn w g x m n) (hn : n < 1024) (hk : k < 10) (hq : q = ((2 ^ k : Nat) : Int)) :
    Calls Try.prog 64 #[.pointer (some ⟨g, 0, none⟩), .int .i64 q, .bool is] w fun e w' => e = .returned (.tuple #[]) ∧ CnTo w g x m (orB n k is) w' := by
  subst hq
  have f := hb.cell (k := 33) (v := .int .i64 (n : Int)) rfl
  cases is with
  | false =>
    rw [orB_no]
    go_enter Try.func64, Try.ntmps64
    go_wp2
    refine bodyPost_end (results_none Try.results64 _ _ _) rfl ⟨rfl, Chg.refl hb⟩
  | true =>
    rw [orB_yes]
    obtain ⟨b, hbb⟩ : ∃ b, 2 ^ k = b := ⟨_, rfl⟩
    have hlt : b < 1024 := by rw [← hbb]; exact Nat.lt_of_le_of_lt (Nat.pow_le_pow_right (n := 2) (by omega) (by omega : k ≤ 9)) (by decide)
    rw [hbb]
    clear hbb hk
    have ho := or_nat n b hn hlt
    go_enter Try.func64, Try.ntmps64
    go_wp2_with (refine wpList_store_fld (by rfl) 3 _ _ rfl g 33 (.int .i64 ((n ||| b : Nat) : Int)) rfl rfl rfl _ _ hb (by rw [cnt_size]; decide) (by kernel_rfl) (fun W' u => ?_))
    refine bodyPost_end (results_none Try.results64 _ _ _) rfl ⟨rfl, (Chg.refl hb).upd u⟩

theorem goesOn_any (g : Nat) (x : Nat → Int) (m : Mt) (n : Nat) (k : Int) (w : World) (hb : Cn w g x m n) :
    Calls Try.prog 51 #[.pointer (some ⟨g, 0, none⟩), .int .i64 k] w fun e w' => e = .returned (.int .i64 (if k < 0 ∨ 3 < k then 2 else if m.now = 40320 then 4 else 0)) ∧ w = w' := by
  have f := hb.cell (k := 19) (v := .int .i64 m.now) rfl
  generalize m.now = a at f
  clear hb
  by_cases h0 : k < 0
  case pos =>
    rw [if_pos (Or.inl h0)]
    have d0 : decide (k < 0) = true := decide_eq_true h0
    clear h0
    go_enter Try.func51, Try.ntmps51
    go_wp2
    go_ret
    exact ⟨rfl, rfl⟩
  have d0 : decide (k < 0) = false := decide_eq_false h0
  by_cases h3 : 3 < k
  case pos =>
    rw [if_pos (Or.inr h3)]
    have d3 : decide (4 ≤ k) = true := decide_eq_true (by omega)
    clear h0 h3
    go_enter Try.func51, Try.ntmps51
    go_wp2
    go_ret
    exact ⟨rfl, rfl⟩
  have d3 : decide (4 ≤ k) = false := decide_eq_false (by omega)
  rw [if_neg (by omega)]
  by_cases ha : a = 40320
  case pos =>
    rw [if_pos ha]
    subst ha
    clear h0 h3
    go_enter Try.func51, Try.ntmps51
    go_wp2
    go_ret
    exact ⟨rfl, rfl⟩
  rw [if_neg ha]
  have da : (a == 40320) = false := by simpa using ha
  clear h0 h3
  go_enter Try.func51, Try.ntmps51
  go_wp2
  go_ret
  exact ⟨rfl, rfl⟩

end Go.Proofs.Ytolbihfnogbjaaa

/- What lies in the cells of a meter that is read. Conditions: none. -/
namespace Go.Proofs.Ytolbihfnogbjaaa
open Go.ChangeShapes Go.WideShapes Go.ChangeAt Go.RowKit Go.Joins Go.Deep

theorem cells_mtr24 : Try.prog.cellsOf 26 = 14 := by kernel_rfl
theorem cells_int24 : Try.prog.cellsOf 3 = 1 := by kernel_rfl
theorem cells_bool24 : Try.prog.cellsOf 4 = 1 := by kernel_rfl

section
variable {H : Type} {enc : TypeId × Value → H} {w : World} {base : Nat} {spare : Nat → Bool} {held : Bool}

set_option maxRecDepth 20000 in
theorem read_mtr24 {fuel : Nat} {cs : List Value} {x : DataW H × List MemPlace} (h : DataW.trod enc Try.prog w base spare held fuel 26 cs = some x) : ∃ m : Mt, cs = (mt m).toList := by
  obtain ⟨xs, n, _, _, hl, hlen, hg⟩ := DataW.trod_struct Try.underlying26 h
  rw [cells_mtr24] at hl
  match cs, hl with
  | [c0, c1, c2, c3, c4, c5, c6, c7, c8, c9, c10, c11, c12, c13], _ =>
    have hyl : xs.length = 14 := hlen
    match xs, hyl with
    | [y0, y1, y2, y3, y4, y5, y6, y7, y8, y9, y10, y11, y12, y13], _ =>
      obtain ⟨a0, ha0, _, _⟩ := DataW.trod_int Try.underlying3 (hg 0 _ rfl)
      obtain ⟨a1, ha1, _, _⟩ := DataW.trod_int Try.underlying3 (hg 1 _ rfl)
      obtain ⟨a2, ha2, _⟩ := DataW.trod_bool Try.underlying4 (hg 2 _ rfl)
      obtain ⟨a3, ha3, _, _⟩ := DataW.trod_int Try.underlying3 (hg 3 _ rfl)
      obtain ⟨a4, ha4, _, _⟩ := DataW.trod_int Try.underlying3 (hg 4 _ rfl)
      obtain ⟨a5, ha5, _, _⟩ := DataW.trod_int Try.underlying3 (hg 5 _ rfl)
      obtain ⟨a6, ha6, _, _⟩ := DataW.trod_int Try.underlying3 (hg 6 _ rfl)
      obtain ⟨a7, ha7, _⟩ := DataW.trod_bool Try.underlying4 (hg 7 _ rfl)
      obtain ⟨a8, ha8, _, _⟩ := DataW.trod_int Try.underlying3 (hg 8 _ rfl)
      obtain ⟨a9, ha9, _, _⟩ := DataW.trod_int Try.underlying3 (hg 9 _ rfl)
      obtain ⟨a10, ha10, _⟩ := DataW.trod_bool Try.underlying4 (hg 10 _ rfl)
      obtain ⟨a11, ha11, _, _⟩ := DataW.trod_int Try.underlying3 (hg 11 _ rfl)
      obtain ⟨a12, ha12, _, _⟩ := DataW.trod_int Try.underlying3 (hg 12 _ rfl)
      obtain ⟨a13, ha13, _, _⟩ := DataW.trod_int Try.underlying3 (hg 13 _ rfl)
      simp [cells_int24, cells_bool24] at ha0 ha1 ha2 ha3 ha4 ha5 ha6 ha7 ha8 ha9 ha10 ha11 ha12 ha13
      subst ha0 ha1 ha2 ha3 ha4 ha5 ha6 ha7 ha8 ha9 ha10 ha11 ha12 ha13
      exact ⟨⟨a0, a1, a2, a3, a4, a5, a6, a7, a8, a9, a10, a11, a12, a13⟩, rfl⟩

end

end Go.Proofs.Ytolbihfnogbjaaa
