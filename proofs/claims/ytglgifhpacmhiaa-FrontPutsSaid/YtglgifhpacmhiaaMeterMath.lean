/- A meter in plain words: what may be, what a minute makes of it, and the clauses that it breaks. Conditions: none. -/
import Derived.Test.YtglgifhpacmhiaaRows
import Derived.Test.YtglgifhpacmhiaaBase
import Derived.Test.YtglgifhpacmhiaaSpellMath
import Derived.Laws.BitsAllLaws
import Derived.KernelRfl
namespace Go.Proofs.Ytglgifhpacmhiaa
open Go.RowKit

/-- A meter. -/
structure Mt where
  now : Int
  acc : Int
  half : Bool
  lie : Int
  dawn : Int
  day : Int
  longers : Int
  split : Bool
  reduces : Int
  sabbath : Int
  brief : Bool
  week : Int
  last : Int
  labour : Int

def Mt.zero : Mt := ⟨0, 0, false, 0, 0, 0, 0, false, 0, 0, false, 0, 0, 0⟩
/-- Its cells. -/
def mt (m : Mt) : Array Value := #[.int .i64 m.now, .int .i64 m.acc, .bool m.half, .int .i64 m.lie, .int .i64 m.dawn, .int .i64 m.day, .int .i64 m.longers, .bool m.split, .int .i64 m.reduces, .int .i64 m.sabbath, .bool m.brief, .int .i64 m.week, .int .i64 m.last, .int .i64 m.labour]
theorem mt_size (m : Mt) : (mt m).size = 14 := rfl
theorem mt_one (m : Mt) : (mt m).all (·.oneCell') = true := by kernel_rfl

/-- A meter that may be. -/
def MayM (m : Mt) : Prop := (0 ≤ m.now ∧ m.now ≤ 40320) ∧ (0 ≤ m.acc ∧ m.acc ≤ m.now) ∧ (0 ≤ m.lie ∧ m.lie ≤ m.now) ∧ (0 ≤ m.dawn ∧ m.dawn ≤ m.now) ∧ (0 ≤ m.day ∧ m.day ≤ m.now) ∧ (0 ≤ m.longers ∧ m.longers ≤ m.now) ∧
  (0 ≤ m.reduces ∧ m.reduces ≤ m.now) ∧ (0 ≤ m.sabbath ∧ m.sabbath ≤ m.now) ∧ (0 ≤ m.week ∧ m.week ≤ m.now) ∧ (0 ≤ m.last ∧ m.last ≤ m.now) ∧ (0 ≤ m.labour ∧ m.labour ≤ m.now)

/-- A set's part of one clause. -/
def bitN (k : Nat) (b : Bool) : Nat := if b then 2 ^ k else 0
theorem bitN_le (k : Nat) (b : Bool) : bitN k b ≤ 2 ^ k := by unfold bitN; split <;> simp
theorem bitN_lt {k : Nat} (b : Bool) (hk : k < 10) : bitN k b ≤ 512 := Nat.le_trans (bitN_le k b) (Nat.pow_le_pow_right (n := 2) (by omega) (by omega : k ≤ 9))
/-- A set with one clause more, if it is broken. -/
def orB (n k : Nat) (b : Bool) : Nat := n ||| bitN k b
theorem orB_no (n k : Nat) : orB n k false = n := by simp [orB, bitN]
theorem orB_yes (n k : Nat) : orB n k true = n ||| 2 ^ k := by simp [orB, bitN]
theorem orB_lt {n k : Nat} (b : Bool) (hn : n < 1024) (hk : k < 10) : orB n k b < 1024 :=
  Nat.or_lt_two_pow (n := 10) hn (by have := bitN_lt b hk; omega)

/-- A week's cut. -/
def wrapM (x : Nat → Int) (m : Mt) : Mt := if 0 < m.now ∧ m.now % x 18 = 0 then { m with last := m.week, week := 0, labour := 0 } else m
/-- What the spell of rest that ends is worth. -/
def endW (x : Nat → Int) (m : Mt) : Wo := ofV x (m.now - m.lie) m.now (min m.dawn (m.now - m.lie)) m.half m.split
def e1 (w : Wo) (m : Mt) : Mt := if w.weekly then { m with brief := w.brief, sabbath := m.now, longers := 0, reduces := 0 } else m
def e2 (w : Wo) (m : Mt) : Mt := if w.red then { m with reduces := m.reduces + 1 } else m
def e3 (w : Wo) (m : Mt) : Mt := if w.daily then { m with dawn := m.now, day := 0, acc := 0, half := false, split := false } else { m with split := m.split || w.part, half := w.half, acc := if w.brk then 0 else m.acc }
def endM (w : Wo) (m : Mt) : Mt := { e3 w (e2 w (e1 w m)) with lie := 0 }
/-- A minute of driving; of driving or work. -/
def d1 (m : Mt) : Mt := { m with acc := m.acc + 1, day := m.day + 1 }
def d2 (x : Nat → Int) (m : Mt) : Mt := if m.day = x 4 + 1 then { m with longers := m.longers + 1 } else m
def driveM (x : Nat → Int) (m : Mt) : Mt := let m := d2 x (d1 m); { m with week := m.week + 1 }
def workM (m : Mt) : Mt := { m with labour := m.labour + 1 }

/-- The clauses of a minute's end of rest; of being awake; of driving; of labour. -/
def c8 (w : Wo) (m : Mt) : Bool := w.weekly && (w.brief && m.brief)
def c6 (x : Nat → Int) (w : Wo) (m : Mt) : Bool := w.red && decide (x 9 < (e2 w (e1 w m)).reduces)
def c5 (x : Nat → Int) (m : Mt) : Bool := decide (x 11 - x 8 ≤ m.now - m.dawn)
def c7 (x : Nat → Int) (m : Mt) : Bool := decide (x 14 ≤ m.now - m.sabbath)
def c0 (x : Nat → Int) (m : Mt) : Bool := decide (x 0 < m.acc + 1)
def c2 (x : Nat → Int) (m : Mt) : Bool := decide (m.day + 1 = x 4 + 1) && decide (x 6 < m.longers + 1)
def c1 (x : Nat → Int) (m : Mt) : Bool := decide (x 5 < m.day + 1)
def c3 (x : Nat → Int) (m : Mt) : Bool := decide (x 15 < m.week + 1)
def c4 (x : Nat → Int) (m : Mt) : Bool := decide (x 16 < m.week + 1 + m.last)
def c9 (x : Nat → Int) (m : Mt) : Bool := decide (x 17 < m.labour + 1)

/-- The ten clauses of a minute, as truths. -/
structure Cl where
  b8 : Bool
  b6 : Bool
  b5 : Bool
  b7 : Bool
  b0 : Bool
  b2 : Bool
  b1 : Bool
  b3 : Bool
  b4 : Bool
  b9 : Bool

/-- As a sum, in the document's order. -/
def Cl.sum (c : Cl) : Nat := bitN 8 c.b8 + bitN 6 c.b6 + bitN 5 c.b5 + bitN 7 c.b7 + bitN 0 c.b0 + bitN 2 c.b2 + bitN 1 c.b1 + bitN 3 c.b3 + bitN 4 c.b4 + bitN 9 c.b9
/-- Laid into a set, one behind the other. -/
def Cl.into (n : Nat) (c : Cl) : Nat := orB (orB (orB (orB (orB (orB (orB (orB (orB (orB n 8 c.b8) 6 c.b6) 5 c.b5) 7 c.b7) 0 c.b0) 2 c.b2) 1 c.b1) 3 c.b3) 4 c.b4) 9 c.b9

set_option maxRecDepth 100000 in
theorem sum_or : ∀ b8 b6 b5 b7 b0 b2 b1 b3 b4 b9 : Bool, (bitN 8 b8 ||| (bitN 6 b6 ||| (bitN 5 b5 ||| (bitN 7 b7 ||| (bitN 0 b0 ||| (bitN 2 b2 ||| (bitN 1 b1 ||| (bitN 3 b3 ||| (bitN 4 b4 ||| bitN 9 b9))))))))) = bitN 8 b8 + bitN 6 b6 + bitN 5 b5 + bitN 7 b7 + bitN 0 b0 + bitN 2 b2 + bitN 1 b1 + bitN 3 b3 + bitN 4 b4 + bitN 9 b9 := by decide +kernel
theorem Cl.into_eq (n : Nat) (c : Cl) : c.into n = n ||| c.sum := by
  unfold Cl.into Cl.sum orB
  rw [← sum_or]
  simp only [Nat.or_assoc]
theorem Cl.sum_lt (c : Cl) : c.sum < 1024 := by
  unfold Cl.sum
  have h8 := bitN_le 8 c.b8; have h6 := bitN_le 6 c.b6; have h5 := bitN_le 5 c.b5; have h7 := bitN_le 7 c.b7; have h0 := bitN_le 0 c.b0
  have h2 := bitN_le 2 c.b2; have h1 := bitN_le 1 c.b1; have h3 := bitN_le 3 c.b3; have h4 := bitN_le 4 c.b4; have h9 := bitN_le 9 c.b9
  omega
theorem Cl.into_lt {n : Nat} (c : Cl) (hn : n < 1024) : c.into n < 1024 := by rw [Cl.into_eq]; exact Nat.or_lt_two_pow (n := 10) hn c.sum_lt

/-- What stands behind the end of a spell of rest, if one ends. -/
def upR (x : Nat → Int) (m : Mt) : Mt := if 0 < m.lie then endM (endW x m) m else m
def up8 (x : Nat → Int) (m : Mt) : Bool := decide (0 < m.lie) && c8 (endW x m) m
def up6 (x : Nat → Int) (m : Mt) : Bool := decide (0 < m.lie) && c6 x (endW x m) m
/-- A minute that is none of rest: the meter, but for Now. -/
def upM (x : Nat → Int) (m : Mt) (k : Int) : Mt :=
  let r := upR x m
  let d := if k = 3 then driveM x r else r
  if k = 3 ∨ k = 2 then workM d else d
def upC (x : Nat → Int) (m : Mt) (k : Int) : Cl :=
  let r := upR x m
  let d := if k = 3 then driveM x r else r
  ⟨up8 x m, up6 x m, c5 x r, c7 x r, decide (k = 3) && c0 x r, decide (k = 3) && c2 x r, decide (k = 3) && c1 x r, decide (k = 3) && c3 x r, decide (k = 3) && c4 x r, decide (k = 3 ∨ k = 2) && c9 x d⟩
/-- A minute more. -/
def stepM (x : Nat → Int) (m : Mt) (k : Int) : Mt :=
  let a := wrapM x m
  if k = 0 then { a with lie := a.lie + 1, now := a.now + 1 } else { upM x a k with now := (upM x a k).now + 1 }
def stepC (x : Nat → Int) (m : Mt) (k : Int) : Nat := if k = 0 then 0 else (upC x (wrapM x m) k).sum

theorem stepC_lt (x : Nat → Int) (m : Mt) (k : Int) : stepC x m k < 1024 := by
  unfold stepC; split
  · omega
  · exact Cl.sum_lt _

/-! ### A meter may be behind each minute -/
theorem may_wrap {x : Nat → Int} {m : Mt} (h : MayM m) : MayM (wrapM x m) ∧ (wrapM x m).now = m.now := by
  unfold wrapM
  split
  · refine ⟨?_, rfl⟩
    unfold MayM at *
    dsimp only
    omega
  · exact ⟨h, rfl⟩

/-- Each number is at most b. -/
def Le (b : Int) (m : Mt) : Prop := (0 ≤ m.now ∧ m.now ≤ b) ∧ (0 ≤ m.acc ∧ m.acc ≤ b) ∧ (0 ≤ m.lie ∧ m.lie ≤ b) ∧ (0 ≤ m.dawn ∧ m.dawn ≤ b) ∧ (0 ≤ m.day ∧ m.day ≤ b) ∧ (0 ≤ m.longers ∧ m.longers ≤ b) ∧
  (0 ≤ m.reduces ∧ m.reduces ≤ b) ∧ (0 ≤ m.sabbath ∧ m.sabbath ≤ b) ∧ (0 ≤ m.week ∧ m.week ≤ b) ∧ (0 ≤ m.last ∧ m.last ≤ b) ∧ (0 ≤ m.labour ∧ m.labour ≤ b)

/-- What may stand behind the end of a spell of rest, ahead of the last step: the number of reduced rests can be one more than Now. -/
def MayE (m : Mt) : Prop := (0 ≤ m.now ∧ m.now ≤ 40320) ∧ (0 ≤ m.acc ∧ m.acc ≤ m.now) ∧ (0 ≤ m.lie ∧ m.lie ≤ m.now) ∧ (0 ≤ m.dawn ∧ m.dawn ≤ m.now) ∧ (0 ≤ m.day ∧ m.day ≤ m.now) ∧ (0 ≤ m.longers ∧ m.longers ≤ m.now) ∧
  (0 ≤ m.reduces ∧ m.reduces ≤ m.now + 1) ∧ (0 ≤ m.sabbath ∧ m.sabbath ≤ m.now) ∧ (0 ≤ m.week ∧ m.week ≤ m.now) ∧ (0 ≤ m.last ∧ m.last ≤ m.now) ∧ (0 ≤ m.labour ∧ m.labour ≤ m.now)

theorem MayE.of {m : Mt} (h : MayM m) : MayE m := by unfold MayM at h; unfold MayE; omega

theorem may_e1 {m : Mt} (w : Wo) (h : MayM m) : MayM (e1 w m) ∧ (e1 w m).now = m.now := by
  unfold e1
  split
  · refine ⟨?_, rfl⟩
    unfold MayM at *
    dsimp only
    omega
  · exact ⟨h, rfl⟩
theorem may_e2 {m : Mt} (w : Wo) (h : MayM m) : MayE (e2 w m) ∧ (e2 w m).now = m.now := by
  unfold e2
  split
  · refine ⟨?_, rfl⟩
    unfold MayM at h
    unfold MayE
    dsimp only
    omega
  · exact ⟨.of h, rfl⟩
theorem may_e3 {m : Mt} (w : Wo) (h : MayE m) : MayE (e3 w m) ∧ (e3 w m).now = m.now := by
  unfold e3
  split
  · refine ⟨?_, rfl⟩
    unfold MayE at *
    dsimp only
    omega
  · refine ⟨?_, rfl⟩
    unfold MayE at *
    dsimp only
    split <;> omega
theorem may_end {m : Mt} (w : Wo) (h : MayM m) : MayE (endM w m) ∧ (endM w m).now = m.now := by
  have h1 := may_e1 w h
  have h2 := may_e2 w h1.1
  have h3 := may_e3 w h2.1
  have hn : (e3 w (e2 w (e1 w m))).now = m.now := by rw [h3.2, h2.2, h1.2]
  refine ⟨?_, hn⟩
  have h3 := h3.1
  unfold endM
  unfold MayE at *
  dsimp only
  omega
theorem may_upR {x : Nat → Int} {m : Mt} (h : MayM m) : MayE (upR x m) ∧ (upR x m).now = m.now := by
  unfold upR
  split
  · exact may_end _ h
  · exact ⟨.of h, rfl⟩

theorem le_d1 {m : Mt} (h : MayE m) : Le (m.now + 1) (d1 m) := by
  unfold MayE at h
  unfold Le d1
  dsimp only
  omega
theorem le_drive {x : Nat → Int} {m : Mt} (h : MayE m) : Le (m.now + 1) (driveM x m) ∧ (driveM x m).now = m.now ∧ (driveM x m).labour = m.labour := by
  unfold MayE at h
  unfold Le driveM d2 d1
  split <;> (dsimp only; omega)
theorem le_work {b : Int} {m : Mt} (h : Le b m) (hl : m.labour + 1 ≤ b) : Le b (workM m) ∧ (workM m).now = m.now := by
  unfold Le at *
  unfold workM
  dsimp only
  omega
theorem MayE.le {m : Mt} (h : MayE m) : Le (m.now + 1) m := by unfold MayE at h; unfold Le; omega
theorem le_up {x : Nat → Int} {m : Mt} (k : Int) (h : MayM m) : Le (m.now + 1) (upM x m k) ∧ (upM x m k).now = m.now := by
  obtain ⟨hr, hn⟩ := may_upR (x := x) h
  have hl : (upR x m).labour + 1 ≤ m.now + 1 := by unfold MayE at hr; omega
  unfold upM
  dsimp only
  generalize upR x m = r at hr hn hl
  by_cases hk : k = 3
  · rw [if_pos hk, if_pos (Or.inl hk)]
    obtain ⟨d, e, f⟩ := le_drive (x := x) hr
    rw [hn] at d
    have := le_work d (by omega)
    exact ⟨this.1, by rw [this.2, e, hn]⟩
  · rw [if_neg hk]
    have d := hr.le
    rw [hn] at d
    split
    · have := le_work d (by omega)
      exact ⟨this.1, by rw [this.2, hn]⟩
    · exact ⟨d, hn⟩
theorem may_step {x : Nat → Int} {m : Mt} (k : Int) (h : MayM m) (hn : m.now < 40320) : MayM (stepM x m k) ∧ (stepM x m k).now = m.now + 1 := by
  obtain ⟨h1, h2⟩ := may_wrap (x := x) h
  unfold stepM
  dsimp only
  split
  · refine ⟨?_, by rw [h2]⟩
    unfold MayM at *
    dsimp only
    omega
  · obtain ⟨h3, h4⟩ := le_up (x := x) k h1
    refine ⟨?_, by dsimp only; rw [h4, h2]⟩
    rw [h2] at h3 h4
    unfold Le at h3
    unfold MayM
    dsimp only
    omega

/-! ### Many minutes -/
/-- The meter behind them, the set, and the error. -/
def runV (x : Nat → Int) : Mt → Nat → List Int → Mt × Nat × Int
  | m, n, [] => (m, n, 0)
  | m, n, k :: ks => if k < 0 ∨ 3 < k then (.zero, 0, 2) else if m.now = 40320 then (.zero, 0, 4) else runV x (stepM x m k) (n ||| stepC x m k) ks

open Classical in
/-- With the book's and the meter's own errors. -/
noncomputable def meterV (x : Nat → Int) (m : Mt) (ks : List Int) : Mt × Nat × Int := if May x then (if MayM m then runV x m 0 ks else (.zero, 0, 1)) else (.zero, 0, 14)

theorem runV_may {x : Nat → Int} : ∀ (ks : List Int) (m : Mt) (n : Nat), MayM m → n < 1024 → (runV x m n ks).2.1 < 1024 ∧ ((runV x m n ks).2.2 = 0 → MayM (runV x m n ks).1) ∧ ((runV x m n ks).2.2 ≠ 0 → (runV x m n ks).1 = .zero ∧ (runV x m n ks).2.1 = 0)
  | [], m, n, hm, hn => ⟨hn, fun _ => hm, fun h => absurd rfl h⟩
  | k :: ks, m, n, hm, hn => by
    unfold runV
    split
    · exact ⟨by decide, fun h => by simp at h, fun _ => ⟨rfl, rfl⟩⟩
    split
    · exact ⟨by decide, fun h => by simp at h, fun _ => ⟨rfl, rfl⟩⟩
    · rename_i h1 h2
      have := hm.1
      exact runV_may ks _ _ (may_step k hm (by omega)).1 (Nat.or_lt_two_pow (n := 10) hn (stepC_lt x m k))

theorem runV_cons (x : Nat → Int) (m : Mt) (n : Nat) (k : Int) (ks : List Int) : runV x m n (k :: ks) = if k < 0 ∨ 3 < k then (.zero, 0, 2) else if m.now = 40320 then (.zero, 0, 4) else runV x (stepM x m k) (n ||| stepC x m k) ks := rfl

theorem runV_append {x : Nat → Int} : ∀ (a b : List Int) (m : Mt) (n : Nat), runV x m n (a ++ b) = if (runV x m n a).2.2 = 0 then runV x (runV x m n a).1 (runV x m n a).2.1 b else runV x m n a
  | [], b, m, n => rfl
  | k :: a, b, m, n => by
    rw [List.cons_append, runV_cons, runV_cons]
    split
    · rfl
    split
    · rfl
    · exact runV_append a b _ _

/-- What lies in the set at first stays in it. -/
theorem runV_or {x : Nat → Int} : ∀ (a : List Int) (m : Mt) (n : Nat), runV x m n a = ((runV x m 0 a).1, (if (runV x m 0 a).2.2 = 0 then n ||| (runV x m 0 a).2.1 else 0), (runV x m 0 a).2.2)
  | [], m, n => by simp [runV]
  | k :: a, m, n => by
    unfold runV
    split
    · rfl
    split
    · rfl
    · rw [runV_or a _ (n ||| _), runV_or a _ (0 ||| _)]
      by_cases h : (runV x (stepM x m k) 0 a).2.2 = 0
      · simp [h, Nat.or_assoc]
      · simp [h]

/-- Two cells that differ in no part. -/
def Mt.eqB (s u : Mt) : Bool := s.now == u.now && (s.acc == u.acc && (s.half == u.half && (s.lie == u.lie && (s.dawn == u.dawn && (s.day == u.day && (s.longers == u.longers && (s.split == u.split && (s.reduces == u.reduces && (s.sabbath == u.sabbath && (s.brief == u.brief && (s.week == u.week && (s.last == u.last && s.labour == u.labour))))))))))))
theorem Mt.eqB_self (s : Mt) : s.eqB s = true := by simp [Mt.eqB]

theorem ofInt_n64 (a : Nat) (ha : a < 18446744073709551616) : (BitVec.ofInt 64 (a : Int)).toNat = a := by
  rw [BitVec.ofInt_natCast, BitVec.toNat_ofNat]; exact Nat.mod_eq_of_lt (by omega)
/-- The program's '|' of two sets. -/
theorem or_nat (a b : Nat) (ha : a < 1024) (hb : b < 1024) : bits .or .i64 (a : Int) (b : Int) = ((a ||| b : Nat) : Int) := by
  have hx : a ||| b < 2 ^ 10 := Nat.or_lt_two_pow (n := 10) (by omega) (by omega)
  show IntKind.i64.wrap ((BitVec.ofInt 64 (a : Int) ||| BitVec.ofInt 64 (b : Int)).toNat : Int) = _
  rw [BitVec.toNat_or, ofInt_n64 a (by omega), ofInt_n64 b (by omega)]
  generalize a ||| b = c at hx
  have : IntKind.i64.wrap (c : Int) = (c : Int) := by
    simp [IntKind.wrap, IntKind.bits, IntKind.signed]
    omega
  exact this

end Go.Proofs.Ytglgifhpacmhiaa
