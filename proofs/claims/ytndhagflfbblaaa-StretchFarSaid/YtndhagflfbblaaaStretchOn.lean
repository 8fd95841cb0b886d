/- Behind a block's first minute all others may be reckoned at once: what the minutes one by one come to. Conditions: none beyond each lemma's own premises. -/
import Derived.Test.YtndhagflfbblaaaRows
import Derived.Test.YtndhagflfbblaaaBase
import Derived.Test.YtndhagflfbblaaaSpellMath
import Derived.Test.YtndhagflfbblaaaMeterMath
import Derived.Test.YtndhagflfbblaaaStretchMath
namespace Go.Proofs.Ytndhagflfbblaaa
open Go.RowKit

/-- What of a meter, and of first minutes, is counted by weeks. -/
def wkOf (m : Mt) (y : Nat → Int) : Wk := ⟨m.now, m.week, m.last, m.labour, y 3, y 4, y 9⟩
def wkM (m : Mt) (s : Wk) : Mt := { m with week := s.week, last := s.last, labour := s.labour }
def wkY (y : Nat → Int) (s : Wk) : Nat → Int := fun c => if c = 3 then s.f3 else if c = 4 then s.f4 else if c = 9 then s.f9 else y c

/-- One minute of all else, with no spell of rest that ends. -/
def t1M (x : Nat → Int) (k : Int) (m : Mt) : Mt :=
  { m with now := m.now + 1, acc := if k = 3 then m.acc + 1 else m.acc, day := if k = 3 then m.day + 1 else m.day, longers := if k = 3 ∧ m.day = x 4 then m.longers + 1 else m.longers, lie := if k = 0 then m.lie + 1 else m.lie }
def t1Y (x : Nat → Int) (k : Int) (m : Mt) (y : Nat → Int) : Nat → Int
  | 0 => if (k = 3 ∧ x 0 < m.acc + 1) ∧ y 0 < 0 then m.now else y 0
  | 1 => if (k = 3 ∧ x 5 < m.day + 1) ∧ y 1 < 0 then m.now else y 1
  | 2 => if (k = 3 ∧ m.day = x 4 ∧ x 6 < m.longers + 1) ∧ y 2 < 0 then m.now else y 2
  | 5 => if (¬ k = 0 ∧ x 11 - x 8 ≤ m.now - m.dawn) ∧ y 5 < 0 then m.now else y 5
  | 7 => if (¬ k = 0 ∧ x 14 ≤ m.now - m.sabbath) ∧ y 7 < 0 then m.now else y 7
  | c => y c

theorem wrap_lie (x : Nat → Int) (m : Mt) : (wrapM x m).lie = m.lie := by unfold wrapM; split <;> rfl
theorem upR_none {x : Nat → Int} {m : Mt} (h : m.lie = 0) : upR x m = m ∧ up8 x m = false ∧ up6 x m = false := by
  unfold upR up8 up6
  rw [h]
  exact ⟨rfl, rfl, rfl⟩

theorem upC_none {x : Nat → Int} {r : Mt} (k : Int) (h : r.lie = 0) :
    upC x r k = ⟨false, false, c5 x r, c7 x r, decide (k = 3) && c0 x r, decide (k = 3) && c2 x r, decide (k = 3) && c1 x r, decide (k = 3) && c3 x r, decide (k = 3) && c4 x r, decide (k = 3 ∨ k = 2) && c9 x r⟩ := by
  obtain ⟨u1, u2, u3⟩ := upR_none (x := x) h
  have h9 : c9 x (if k = 3 then driveM x r else r) = c9 x r := by
    unfold c9 driveM d2 d1
    split
    · split <;> rfl
    · rfl
  unfold upC
  rw [u1, u2, u3]
  dsimp only
  rw [h9]

theorem step_one {x : Nat → Int} {k : Int} {m : Mt} (y : Nat → Int) (hn : 0 < m.now) (hl : k = 0 ∨ m.lie = 0) :
    stepM x m k = wkM (t1M x k m) ((wkOf m y).step x k) ∧ ∀ c, recB (stepC x m k) y m.now c = wkY (t1Y x k m y) ((wkOf m y).step x k) c := by
  obtain ⟨b, hb⟩ : ∃ b : Bool, decide (m.now % x 18 = 0) = b := ⟨_, rfl⟩
  have hw : wrapM x m = if b = true then { m with last := m.week, week := 0, labour := 0 } else m := by
    unfold wrapM
    rw [← hb]
    simp only [decide_eq_true_eq, hn, true_and]
  have hc : (wkOf m y).cut (x 18) = if b = true then { wkOf m y with last := m.week, week := 0, labour := 0 } else wkOf m y := by
    unfold Wk.cut
    rw [← hb]
    simp only [decide_eq_true_eq]
    rfl
  unfold Wk.step
  rw [hc]
  by_cases hk : k = 0
  · subst hk
    unfold stepM stepC
    rw [if_pos rfl, if_pos rfl, hw, recB_zero]
    cases b
    · refine ⟨rfl, fun c => ?_⟩
      unfold wkY t1Y Wk.plain
      simp
      split
      · rename_i h; rw [h]; rfl
      · split
        · rename_i h; rw [h]; rfl
        · split
          · rename_i h; rw [h]; rfl
          · split <;> rfl
    · refine ⟨rfl, fun c => ?_⟩
      unfold wkY t1Y Wk.plain
      simp
      split
      · rename_i h; rw [h]; rfl
      · split
        · rename_i h; rw [h]; rfl
        · split
          · rename_i h; rw [h]; rfl
          · split <;> rfl
  · have hl : m.lie = 0 := by omega
    obtain ⟨u1, u2, u3⟩ := upR_none (x := x) (m := wrapM x m) (by rw [wrap_lie]; exact hl)
    unfold stepM stepC
    rw [if_neg hk, if_neg hk]
    refine ⟨?_, fun c => ?_⟩
    · unfold upM
      rw [u1, hw]
      unfold driveM d2 d1 workM t1M wkM Wk.plain wkOf
      by_cases h3 : k = 3
      · subst h3
        by_cases hd : m.day = x 4
        · cases b <;> simp [hd]
        · have hd' : ¬ m.day + 1 = x 4 + 1 := by omega
          cases b <;> simp [hd, hd']
      · by_cases h2 : k = 2
        · subst h2
          cases b <;> simp
        · cases b <;> simp [h3, h2, hk]
    · rw [recB_sum, upC_none k (by rw [wrap_lie]; exact hl), hw]
      unfold wkY t1Y Wk.plain Cl.get c5 c7 c0 c2 c1 c3 c4 c9
      by_cases e0 : c = 0
      · subst e0; cases b <;> simp
      by_cases e1 : c = 1
      · subst e1; cases b <;> simp
      by_cases e2 : c = 2
      · subst e2
        have : (m.day + 1 = x 4 + 1) ↔ (m.day = x 4) := by omega
        cases b <;> simp [this]
      by_cases e3 : c = 3
      · subst e3; cases b <;> simp [wkOf]
      by_cases e4 : c = 4
      · subst e4; cases b <;> simp [wkOf]
      by_cases e5 : c = 5
      · subst e5; cases b <;> simp [hk]
      by_cases e6 : c = 6
      · subst e6; cases b <;> simp
      by_cases e7 : c = 7
      · subst e7; cases b <;> simp [hk]
      by_cases e8 : c = 8
      · subst e8; cases b <;> simp
      by_cases e9 : c = 9
      · subst e9; cases b <;> simp [wkOf]
      simp [e3, e4, e9]

/-! ### Many minutes -/
def thrM (x : Nat → Int) (k : Int) (n : Nat) (m : Mt) : Mt :=
  { m with now := m.now + n, acc := if k = 3 then m.acc + n else m.acc, day := if k = 3 then m.day + n else m.day, longers := if k = 3 ∧ m.day ≤ x 4 ∧ x 4 < m.day + n then m.longers + 1 else m.longers, lie := if k = 0 then m.lie + n else m.lie }
def thrY (x : Nat → Int) (k : Int) (n : Nat) (m : Mt) (y : Nat → Int) : Nat → Int
  | 0 => if k = 3 ∧ m.now + x 0 - m.acc < m.now + n ∧ y 0 < 0 then m.now + x 0 - m.acc else y 0
  | 1 => if k = 3 ∧ m.now + x 5 - m.day < m.now + n ∧ y 1 < 0 then m.now + x 5 - m.day else y 1
  | 2 => if k = 3 ∧ (m.day ≤ x 4 ∧ x 4 < m.day + n) ∧ x 6 < m.longers + 1 ∧ y 2 < 0 then m.now + x 4 - m.day else y 2
  | 5 => if ¬ k = 0 ∧ m.dawn + x 11 - x 8 < m.now + n ∧ y 5 < 0 then m.dawn + x 11 - x 8 else y 5
  | 7 => if ¬ k = 0 ∧ m.sabbath + x 14 < m.now + n ∧ y 7 < 0 then m.sabbath + x 14 else y 7
  | c => y c

/-- What is above its limit has been noted, and no spell of rest can end. -/
def Noted (x : Nat → Int) (k : Int) (m : Mt) (y : Nat → Int) : Prop :=
  (k = 0 ∨ m.lie = 0) ∧ (k = 3 → x 0 < m.acc → 0 ≤ y 0) ∧ (k = 3 → x 5 < m.day → 0 ≤ y 1) ∧ (¬ k = 0 → m.dawn + x 11 - x 8 < m.now → 0 ≤ y 5) ∧ (¬ k = 0 → m.sabbath + x 14 < m.now → 0 ≤ y 7) ∧ (wkOf m y).Ok x k

theorem thrM_zero (x : Nat → Int) (k : Int) (m : Mt) : thrM x k 0 m = m := by
  unfold thrM
  obtain ⟨a0, a1, a2, a3, a4, a5, a6, a7, a8, a9, a10, a11, a12, a13⟩ := m
  simp
  intro _ h1 h2
  omega
theorem thrM_next (x : Nat → Int) (k : Int) (n : Nat) (m : Mt) : t1M x k (thrM x k n m) = thrM x k (n + 1) m := by
  unfold thrM t1M
  obtain ⟨a0, a1, a2, a3, a4, a5, a6, a7, a8, a9, a10, a11, a12, a13⟩ := m
  dsimp only
  by_cases h3 : k = 3
  · subst h3
    simp only [if_true, true_and, show ¬ ((3 : Int) = 0) by decide, if_false]
    congr 1
    · omega
    · omega
    · omega
    · repeat' split
      all_goals omega
  · by_cases h0 : k = 0
    · subst h0
      simp only [if_true, false_and, if_false, show ¬ ((0 : Int) = 3) by decide]
      congr 1
      · omega
      · omega
    · simp only [h3, h0, if_false, false_and]
      congr 1
      omega
theorem thrY_zero {x : Nat → Int} {k : Int} {m : Mt} {y : Nat → Int} (h : Noted x k m y) : ∀ c, thrY x k 0 m y c = y c := by
  obtain ⟨-, h0, h1, h5, h7, -⟩ := h
  intro c
  unfold thrY
  split
  · rw [if_neg]; intro ⟨hk, h, _⟩; have := h0 hk; omega
  · rw [if_neg]; intro ⟨hk, h, _⟩; have := h1 hk; omega
  · rw [if_neg]; intro ⟨hk, h, _⟩; omega
  · rw [if_neg]; intro ⟨hk, h, _⟩; have := h5 hk; omega
  · rw [if_neg]; intro ⟨hk, h, _⟩; have := h7 hk; omega
  · rfl
theorem thrY_next {x : Nat → Int} {k : Int} {m : Mt} {y : Nat → Int} (n : Nat) (h : Noted x k m y) : ∀ c, t1Y x k (thrM x k n m) (thrY x k n m y) c = thrY x k (n + 1) m y c := by
  obtain ⟨-, h0, h1, h5, h7, hw⟩ := h
  have hn : 0 < m.now := hw.1
  intro c
  by_cases e0 : c = 0
  · subst e0
    show (if (k = 3 ∧ x 0 < (thrM x k n m).acc + 1) ∧ thrY x k n m y 0 < 0 then (thrM x k n m).now else thrY x k n m y 0) = thrY x k (n + 1) m y 0
    unfold thrM thrY
    dsimp only
    by_cases hk : k = 3
    · have := h0 hk
      simp only [hk, if_true, true_and]
      repeat' split
      all_goals omega
    · simp only [hk, false_and, if_false]
  by_cases e1 : c = 1
  · subst e1
    show (if (k = 3 ∧ x 5 < (thrM x k n m).day + 1) ∧ thrY x k n m y 1 < 0 then (thrM x k n m).now else thrY x k n m y 1) = thrY x k (n + 1) m y 1
    unfold thrM thrY
    dsimp only
    by_cases hk : k = 3
    · have := h1 hk
      simp only [hk, if_true, true_and]
      repeat' split
      all_goals omega
    · simp only [hk, false_and, if_false]
  by_cases e2 : c = 2
  · subst e2
    show (if (k = 3 ∧ (thrM x k n m).day = x 4 ∧ x 6 < (thrM x k n m).longers + 1) ∧ thrY x k n m y 2 < 0 then (thrM x k n m).now else thrY x k n m y 2) = thrY x k (n + 1) m y 2
    unfold thrM thrY
    dsimp only
    by_cases hk : k = 3
    · simp only [hk, if_true, true_and]
      repeat' split
      all_goals omega
    · simp only [hk, false_and, if_false]
  by_cases e5 : c = 5
  · subst e5
    show (if (¬ k = 0 ∧ x 11 - x 8 ≤ (thrM x k n m).now - (thrM x k n m).dawn) ∧ thrY x k n m y 5 < 0 then (thrM x k n m).now else thrY x k n m y 5) = thrY x k (n + 1) m y 5
    unfold thrM thrY
    dsimp only
    by_cases hk : k = 0
    · simp only [hk, not_true_eq_false, false_and, if_false]
    · have := h5 hk
      simp only [hk, not_false_eq_true, true_and]
      repeat' split
      all_goals omega
  by_cases e7 : c = 7
  · subst e7
    show (if (¬ k = 0 ∧ x 14 ≤ (thrM x k n m).now - (thrM x k n m).sabbath) ∧ thrY x k n m y 7 < 0 then (thrM x k n m).now else thrY x k n m y 7) = thrY x k (n + 1) m y 7
    unfold thrM thrY
    dsimp only
    by_cases hk : k = 0
    · simp only [hk, not_true_eq_false, false_and, if_false]
    · have := h7 hk
      simp only [hk, not_false_eq_true, true_and]
      repeat' split
      all_goals omega
  have a : t1Y x k (thrM x k n m) (thrY x k n m y) c = thrY x k n m y c := by
    unfold t1Y; split <;> first | (exfalso; omega) | rfl
  have b : ∀ j, thrY x k j m y c = y c := fun j => by unfold thrY; split <;> first | (exfalso; omega) | rfl
  rw [a, b, b]

/-- What minutes come to, one by one, is what it is at once. -/
theorem walk_on {x : Nat → Int} {k : Int} {m : Mt} {y : Nat → Int} (h : Noted x k m y) : ∀ n : Nat,
    (walkV x k n m y).1 = wkM (thrM x k n m) (Wk.run x k n (wkOf m y)) ∧ ∀ c, (walkV x k n m y).2 c = wkY (thrY x k n m y) (Wk.run x k n (wkOf m y)) c
  | 0 => by
    refine ⟨by rw [thrM_zero]; rfl, fun c => ?_⟩
    have := thrY_zero h c
    unfold wkY
    rw [this]
    show y c = _
    split
    · rename_i e; rw [e]; rfl
    split
    · rename_i e; rw [e]; rfl
    split
    · rename_i e; rw [e]; rfl
    · rfl
  | n + 1 => by
    obtain ⟨e1, e2⟩ := walk_on h n
    rw [walkV_snoc]
    have hp := Wk.pos_run x k (wkOf m y) n
    obtain ⟨S, hS⟩ : ∃ S, Wk.run x k n (wkOf m y) = S := ⟨_, rfl⟩
    rw [hS] at e1 e2 hp
    have hs : Wk.run x k (n + 1) (wkOf m y) = S.step x k := by show (Wk.run x k n (wkOf m y)).step x k = _; rw [hS]
    rw [hs]
    have hpos : (wkOf m y).pos = m.now := rfl
    have e3 : (walkV x k n m y).1.now = m.now + n := by rw [e1]; rfl
    have e4 : wkOf (walkV x k n m y).1 (walkV x k n m y).2 = S := by
      unfold wkOf
      rw [e3, ← hpos, ← hp, e1, e2 3, e2 4, e2 9]
      rfl
    have hn : 0 < m.now := h.2.2.2.2.2.1
    have hl : k = 0 ∨ (walkV x k n m y).1.lie = 0 := by
      rcases h.1 with h | h
      · exact Or.inl h
      · by_cases hk : k = 0
        · exact Or.inl hk
        · right
          rw [e1]
          show (if k = 0 then m.lie + n else m.lie) = 0
          rw [if_neg hk]; exact h
    obtain ⟨s1, s2⟩ := step_one (x := x) (k := k) (walkV x k n m y).2 (by rw [e3]; omega) hl
    rw [e4] at s1 s2
    refine ⟨?_, fun c => ?_⟩
    · show stepM x (walkV x k n m y).1 k = _
      rw [s1, e1, ← thrM_next]
      rfl
    · show recB (stepC x (walkV x k n m y).1 k) (walkV x k n m y).2 (walkV x k n m y).1.now c = _
      rw [s2]
      unfold wkY
      split
      · rfl
      split
      · rfl
      split
      · rfl
      rename_i n3 n4 n9
      rw [← thrY_next n h c]
      have hy : ∀ d, ¬ d = 3 → ¬ d = 4 → ¬ d = 9 → (walkV x k n m y).2 d = thrY x k n m y d := fun d h3 h4 h9 => by rw [e2 d]; unfold wkY; rw [if_neg h3, if_neg h4, if_neg h9]
      rw [e1]
      unfold t1Y
      split
      · rw [hy 0 (by decide) (by decide) (by decide)]; rfl
      · rw [hy 1 (by decide) (by decide) (by decide)]; rfl
      · rw [hy 2 (by decide) (by decide) (by decide)]; rfl
      · rw [hy 5 (by decide) (by decide) (by decide)]; rfl
      · rw [hy 7 (by decide) (by decide) (by decide)]; rfl
      · exact hy _ n3 n4 n9

/-- Behind a block's first minute. -/
theorem noted_first {x : Nat → Int} {k : Int} {m : Mt} (hm : MayM m) (hn : m.now < 40320) : Noted x k (stepM x m k) (recB (stepC x m k) noneF m.now) := by
  have h1 := may_step (x := x) k hm hn
  have h0 := hm.1.1
  by_cases hk : k = 0
  · subst hk
    obtain ⟨h1, h2⟩ := h1
    obtain ⟨-, -, -, -, -, -, -, -, i1, i2, i3⟩ := h1
    refine ⟨Or.inl rfl, fun h => by omega, fun h => by omega, fun h => absurd rfl h, fun h => absurd rfl h, by show 0 < (stepM x m 0).now; omega, i1.1, i2.1, i3.1, fun h => by omega, fun h => by omega, fun h => by omega⟩
  · obtain ⟨h1, h2⟩ := h1
    obtain ⟨-, -, -, -, -, -, -, -, i1, i2, i3⟩ := h1
    have hwl : 0 ≤ (wrapM x m).lie := by rw [wrap_lie]; exact hm.2.2.1.1
    have hlie : (upR x (wrapM x m)).lie = 0 := by
      unfold upR
      split
      · rfl
      · omega
    have hnow : (upR x (wrapM x m)).now = m.now := by rw [(may_upR (may_wrap (x := x) hm).1).2, (may_wrap hm).2]
    have e1 : stepM x m k = { upM x (wrapM x m) k with now := (upM x (wrapM x m) k).now + 1 } := by unfold stepM; rw [if_neg hk]
    have e2 : stepC x m k = (upC x (wrapM x m) k).sum := by unfold stepC; rw [if_neg hk]
    have F : ∀ c, recB (stepC x m k) noneF m.now c = if (upC x (wrapM x m) k).get c = true ∧ noneF c < 0 then m.now else noneF c := fun c => by rw [e2, recB_sum]
    have P : ∀ c, (upC x (wrapM x m) k).get c = true → 0 ≤ recB (stepC x m k) noneF m.now c := fun c h => by
      rw [F c, if_pos ⟨h, by show (-1 : Int) < 0; decide⟩]; exact h0
    unfold upM at e1
    dsimp only at e1
    have G : ∀ c, (upC x (wrapM x m) k).get c = (Cl.mk (up8 x (wrapM x m)) (up6 x (wrapM x m)) (c5 x (upR x (wrapM x m))) (c7 x (upR x (wrapM x m))) (decide (k = 3) && c0 x (upR x (wrapM x m))) (decide (k = 3) && c2 x (upR x (wrapM x m))) (decide (k = 3) && c1 x (upR x (wrapM x m))) (decide (k = 3) && c3 x (upR x (wrapM x m))) (decide (k = 3) && c4 x (upR x (wrapM x m))) (decide (k = 3 ∨ k = 2) && c9 x (if k = 3 then driveM x (upR x (wrapM x m)) else upR x (wrapM x m)))).get c := fun c => rfl
    generalize upR x (wrapM x m) = r at *
    by_cases h3 : k = 3
    · subst h3
      rw [if_pos (Or.inl rfl), if_pos rfl] at e1
      rw [if_pos rfl] at G
      have hd : driveM x r = { r with acc := r.acc + 1, day := r.day + 1, longers := if r.day + 1 = x 4 + 1 then r.longers + 1 else r.longers, week := r.week + 1 } := by unfold driveM d2 d1; dsimp only; split <;> rfl
      rw [hd] at e1 G
      unfold workM at e1
      dsimp only at e1
      have q0 : (stepM x m 3).acc = r.acc + 1 := by rw [e1]
      have q1 : (stepM x m 3).day = r.day + 1 := by rw [e1]
      have q2 : (stepM x m 3).dawn = r.dawn := by rw [e1]
      have q3 : (stepM x m 3).sabbath = r.sabbath := by rw [e1]
      have q4 : (stepM x m 3).week = r.week + 1 := by rw [e1]
      have q5 : (stepM x m 3).last = r.last := by rw [e1]
      have q6 : (stepM x m 3).labour = r.labour + 1 := by rw [e1]
      have q7 : (stepM x m 3).lie = r.lie := by rw [e1]
      refine ⟨Or.inr (by rw [q7]; exact hlie), fun _ h => P 0 ?_, fun _ h => P 1 ?_, fun _ h => P 5 ?_, fun _ h => P 7 ?_, by show 0 < (stepM x m 3).now; omega, i1.1, i2.1, i3.1, fun _ h => P 3 ?_, fun _ h => P 4 ?_, fun _ h => P 9 ?_⟩
      all_goals rw [G]
      · rw [q0] at h; simpa [Cl.get, c0] using h
      · rw [q1] at h; simpa [Cl.get, c1] using h
      · rw [q2, h2] at h; simp only [Cl.get, c5, decide_eq_true_eq]; omega
      · rw [q3, h2] at h; simp only [Cl.get, c7, decide_eq_true_eq]; omega
      · replace h : x 15 < (stepM x m 3).week := h; rw [q4] at h; simpa [Cl.get, c3] using h
      · replace h : x 16 < (stepM x m 3).week + (stepM x m 3).last := h; rw [q4, q5] at h; simpa [Cl.get, c4] using h
      · replace h : x 17 < (stepM x m 3).labour := h; rw [q6] at h; simpa [Cl.get, c9] using h
    · rw [if_neg h3] at e1 G
      have q2 : (stepM x m k).dawn = r.dawn := by rw [e1]; split <;> rfl
      have q3 : (stepM x m k).sabbath = r.sabbath := by rw [e1]; split <;> rfl
      have q7 : (stepM x m k).lie = r.lie := by rw [e1]; split <;> rfl
      refine ⟨Or.inr (by rw [q7]; exact hlie), fun h => absurd h h3, fun h => absurd h h3, fun _ h => P 5 ?_, fun _ h => P 7 ?_, by show 0 < (stepM x m k).now; omega, i1.1, i2.1, i3.1, fun h => absurd h h3, fun h => absurd h h3, fun h' h => P 9 ?_⟩
      all_goals rw [G]
      · rw [q2, h2] at h; simp only [Cl.get, c5, decide_eq_true_eq]; omega
      · rw [q3, h2] at h; simp only [Cl.get, c7, decide_eq_true_eq]; omega
      · rw [if_pos h'] at e1
        have q6 : (stepM x m k).labour = r.labour + 1 := by rw [e1]; rfl
        replace h : x 17 < (stepM x m k).labour := h
        rw [q6] at h
        simpa [Cl.get, c9, h'] using h

end Go.Proofs.Ytndhagflfbblaaa
