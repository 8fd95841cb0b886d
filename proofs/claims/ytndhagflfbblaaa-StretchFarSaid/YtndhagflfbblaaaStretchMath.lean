/- Blocks of minutes of one kind in plain words: the minutes one by one, and reckoned at once; what is counted by weeks. Conditions: none. -/
import Derived.Test.YtndhagflfbblaaaRows
import Derived.Test.YtndhagflfbblaaaBase
import Derived.Test.YtndhagflfbblaaaSpellMath
import Derived.Test.YtndhagflfbblaaaMeterMath
namespace Go.Proofs.Ytndhagflfbblaaa
open Go.RowKit

/-- Ten numbers with one changed. -/
def fs (y : Nat → Int) (c : Nat) (v : Int) : Nat → Int := fun i => if i = c then v else y i
/-- A clause's first minute, if there is none yet. -/
def brk (y : Nat → Int) (c : Nat) (a t : Int) : Nat → Int := if a < t ∧ y c < 0 then fs y c a else y
def noneF : Nat → Int := fun _ => -1
/-- The first minutes behind a minute that breaks the set s. -/
def recB (s : Nat) (y : Nat → Int) (a : Int) : Nat → Int := fun c => if s.testBit c = true ∧ y c < 0 then a else y c
/-- n minutes of the kind, one by one. -/
def walkV (x : Nat → Int) (k : Int) : Nat → Mt → (Nat → Int) → Mt × (Nat → Int)
  | 0, m, y => (m, y)
  | n + 1, m, y => walkV x k n (stepM x m k) (recB (stepC x m k) y m.now)

theorem walkV_add (x : Nat → Int) (k : Int) : ∀ (a b : Nat) (m : Mt) (y : Nat → Int), walkV x k (a + b) m y = walkV x k b (walkV x k a m y).1 (walkV x k a m y).2
  | 0, b, m, y => by rw [Nat.zero_add]; rfl
  | a + 1, b, m, y => by rw [show a + 1 + b = a + b + 1 by omega]; exact walkV_add x k a b _ _
theorem walkV_snoc (x : Nat → Int) (k : Int) (n : Nat) (m : Mt) (y : Nat → Int) :
    walkV x k (n + 1) m y = (stepM x (walkV x k n m y).1 k, recB (stepC x (walkV x k n m y).1 k) (walkV x k n m y).2 (walkV x k n m y).1.now) := by
  rw [walkV_add]; rfl
theorem walkV_may {x : Nat → Int} {k : Int} : ∀ (n : Nat) {m : Mt} (y : Nat → Int), MayM m → m.now + n ≤ 40320 → MayM (walkV x k n m y).1 ∧ (walkV x k n m y).1.now = m.now + n
  | 0, m, y, h, _ => ⟨h, by simp [walkV]⟩
  | n + 1, m, y, h, hn => by
    have h1 := may_step (x := x) k h (by omega)
    have h2 := walkV_may (x := x) (k := k) n (recB (stepC x m k) y m.now) h1.1 (by rw [h1.2]; omega)
    exact ⟨h2.1, by show (walkV x k n _ _).1.now = _; rw [h2.2, h1.2]; omega⟩

/-! ### What a minute breaks, clause by clause -/
/-- The truth of clause c. -/
def Cl.get (c : Cl) : Nat → Bool
  | 0 => c.b0
  | 1 => c.b1
  | 2 => c.b2
  | 3 => c.b3
  | 4 => c.b4
  | 5 => c.b5
  | 6 => c.b6
  | 7 => c.b7
  | 8 => c.b8
  | 9 => c.b9
  | _ => false

set_option maxRecDepth 100000 in
theorem sum_bits : ∀ b8 b6 b5 b7 b0 b2 b1 b3 b4 b9 : Bool, ∀ i : Fin 10, (bitN 8 b8 + bitN 6 b6 + bitN 5 b5 + bitN 7 b7 + bitN 0 b0 + bitN 2 b2 + bitN 1 b1 + bitN 3 b3 + bitN 4 b4 + bitN 9 b9).testBit i.1 = (Cl.mk b8 b6 b5 b7 b0 b2 b1 b3 b4 b9).get i.1 := by decide +kernel
theorem Cl.sum_bit (c : Cl) (i : Nat) : c.sum.testBit i = c.get i := by
  by_cases hi : i < 10
  · exact sum_bits c.b8 c.b6 c.b5 c.b7 c.b0 c.b2 c.b1 c.b3 c.b4 c.b9 ⟨i, hi⟩
  · rw [Nat.testBit_lt_two_pow (Nat.lt_of_lt_of_le c.sum_lt (Nat.pow_le_pow_right (n := 2) (by omega) (by omega : 10 ≤ i)))]
    unfold Cl.get
    split <;> first | rfl | (exfalso; omega)
theorem recB_zero (y : Nat → Int) (a : Int) : recB 0 y a = y := by funext c; simp [recB]
theorem recB_sum (c : Cl) (y : Nat → Int) (a : Int) (i : Nat) : recB c.sum y a i = if c.get i = true ∧ y i < 0 then a else y i := by unfold recB; rw [c.sum_bit]

/-! ### What is counted by weeks -/
structure Wk where
  pos : Int
  week : Int
  last : Int
  labour : Int
  f3 : Int
  f4 : Int
  f9 : Int

def Wk.cut (L : Int) (s : Wk) : Wk := if s.pos % L = 0 then { s with last := s.week, week := 0, labour := 0 } else s
def Wk.plain (x : Nat → Int) (k : Int) (s : Wk) : Wk :=
  { pos := s.pos + 1, week := if k = 3 then s.week + 1 else s.week, last := s.last, labour := if k = 3 ∨ k = 2 then s.labour + 1 else s.labour,
    f3 := if (k = 3 ∧ x 15 < s.week + 1) ∧ s.f3 < 0 then s.pos else s.f3,
    f4 := if (k = 3 ∧ x 16 < s.week + 1 + s.last) ∧ s.f4 < 0 then s.pos else s.f4,
    f9 := if ((k = 3 ∨ k = 2) ∧ x 17 < s.labour + 1) ∧ s.f9 < 0 then s.pos else s.f9 }
def Wk.step (x : Nat → Int) (k : Int) (s : Wk) : Wk := (s.cut (x 18)).plain x k
def Wk.run (x : Nat → Int) (k : Int) : Nat → Wk → Wk
  | 0, s => s
  | n + 1, s => (Wk.run x k n s).step x k
/-- The minutes up to e at once, in one week. -/
def Wk.seg (x : Nat → Int) (k : Int) (s : Wk) (e : Int) : Wk :=
  { pos := e, week := if k = 3 then s.week + (e - s.pos) else s.week, last := s.last, labour := if k = 3 ∨ k = 2 then s.labour + (e - s.pos) else s.labour,
    f3 := if k = 3 ∧ s.pos + x 15 - s.week < e ∧ s.f3 < 0 then s.pos + x 15 - s.week else s.f3,
    f4 := if k = 3 ∧ s.pos + x 16 - s.last - s.week < e ∧ s.f4 < 0 then s.pos + x 16 - s.last - s.week else s.f4,
    f9 := if (k = 3 ∨ k = 2) ∧ s.pos + x 17 - s.labour < e ∧ s.f9 < 0 then s.pos + x 17 - s.labour else s.f9 }
/-- What is above its limit has been noted. -/
def Wk.Ok (x : Nat → Int) (k : Int) (s : Wk) : Prop :=
  0 < s.pos ∧ 0 ≤ s.week ∧ 0 ≤ s.last ∧ 0 ≤ s.labour ∧ (k = 3 → x 15 < s.week → 0 ≤ s.f3) ∧ (k = 3 → x 16 < s.week + s.last → 0 ≤ s.f4) ∧ (k = 3 ∨ k = 2 → x 17 < s.labour → 0 ≤ s.f9)
/-- The limits are no nought. -/
def Lims (x : Nat → Int) : Prop := 1 ≤ x 15 ∧ 1 ≤ x 16 ∧ 1 ≤ x 17 ∧ 1 ≤ x 18

theorem Wk.ok_cut {x : Nat → Int} {k : Int} {s : Wk} (L : Int) (hx : Lims x) (h : s.Ok x k) : (s.cut L).Ok x k := by
  unfold Wk.cut
  split
  · obtain ⟨h0, h1, h2, h3, h4, h5, h6⟩ := h
    obtain ⟨x5, x6, x7, -⟩ := hx
    refine ⟨h0, by simp, h1, by simp, fun _ h => ?_, fun hk h => h5 hk ?_, fun _ h => ?_⟩
    · simp only at h; omega
    · simp only at h; omega
    · simp only at h; omega
  · exact h
theorem Wk.ok_plain {x : Nat → Int} {k : Int} {s : Wk} (h : s.Ok x k) : (s.plain x k).Ok x k := by
  obtain ⟨h0, h1, h2, h3, h4, h5, h6⟩ := h
  unfold Wk.plain
  refine ⟨?_, ?_, h2, ?_, ?_, ?_, ?_⟩
  · show 0 < s.pos + 1; omega
  · dsimp only; split <;> omega
  · dsimp only; split <;> omega
  · intro hk
    dsimp only
    rw [if_pos hk]
    intro h
    have := h4 hk
    split <;> omega
  · intro hk
    dsimp only
    rw [if_pos hk]
    intro h
    have := h5 hk
    split <;> omega
  · intro hk
    dsimp only
    rw [if_pos hk]
    intro h
    have := h6 hk
    split <;> omega
theorem Wk.ok_step {x : Nat → Int} {k : Int} {s : Wk} (hx : Lims x) (h : s.Ok x k) : (s.step x k).Ok x k := Wk.ok_plain (Wk.ok_cut _ hx h)
theorem Wk.ok_run {x : Nat → Int} {k : Int} (hx : Lims x) : ∀ (n : Nat) {s : Wk}, s.Ok x k → (Wk.run x k n s).Ok x k
  | 0, _, h => h
  | n + 1, _, h => Wk.ok_step hx (Wk.ok_run hx n h)
theorem Wk.pos_step (x : Nat → Int) (k : Int) (s : Wk) : (s.step x k).pos = s.pos + 1 := by unfold Wk.step Wk.cut Wk.plain; split <;> rfl
theorem Wk.pos_run (x : Nat → Int) (k : Int) (s : Wk) : ∀ n, (Wk.run x k n s).pos = s.pos + (n : Nat)
  | 0 => by simp [Wk.run]
  | n + 1 => by unfold Wk.run; rw [Wk.pos_step, Wk.pos_run x k s n]; omega
theorem Wk.run_add (x : Nat → Int) (k : Int) (s : Wk) (a : Nat) : ∀ b, Wk.run x k (a + b) s = Wk.run x k b (Wk.run x k a s)
  | 0 => rfl
  | b + 1 => by show (Wk.run x k (a + b) s).step x k = _; rw [Wk.run_add x k s a b]; rfl

theorem Wk.seg_self (x : Nat → Int) (k : Int) (s : Wk) (h : s.Ok x k) : s.seg x k s.pos = s := by
  obtain ⟨h0, h1, h2, h3, h4, h5, h6⟩ := h
  unfold Wk.seg
  obtain ⟨p, a, b, c, f3, f4, f9⟩ := s
  dsimp only at *
  congr 1
  · split <;> omega
  · split <;> omega
  · rw [if_neg]; intro ⟨hk, h, _⟩; have := h4 hk; omega
  · rw [if_neg]; intro ⟨hk, h, _⟩; have := h5 hk; omega
  · rw [if_neg]; intro ⟨hk, h, _⟩; have := h6 hk; omega
theorem Wk.seg_plain (x : Nat → Int) (k : Int) (s : Wk) (e : Int) (he : s.pos ≤ e) (h : s.Ok x k) : (s.seg x k e).plain x k = s.seg x k (e + 1) := by
  obtain ⟨h0, h1, h2, h3, h4, h5, h6⟩ := h
  unfold Wk.seg Wk.plain
  obtain ⟨p, a, b, c, f3, f4, f9⟩ := s
  dsimp only at *
  by_cases hk : k = 3
  · have g4 := h4 hk
    have g5 := h5 hk
    have g6 := h6 (Or.inl hk)
    simp only [hk, if_true, true_and, true_or]
    congr 1
    · omega
    · omega
    · repeat' split
      all_goals omega
    · repeat' split
      all_goals omega
    · repeat' split
      all_goals omega
  · by_cases hk2 : k = 2
    · have g6 := h6 (Or.inr hk2)
      subst hk2
      simp only [if_true, if_false, false_and, true_and, or_true, show ¬ ((2 : Int) = 3) by decide]
      congr 1
      · omega
      · repeat' split
        all_goals omega
    · simp only [hk, hk2, if_false, false_and, or_self]

/-- Within a week minute by minute is at once. -/
theorem Wk.run_seg (x : Nat → Int) (k : Int) (s : Wk) (hx : Lims x) (h : s.Ok x k) : ∀ n : Nat, 0 < n → (∀ i : Nat, 0 < i → i < n → ¬ (s.pos + i) % x 18 = 0) → Wk.run x k n s = (s.cut (x 18)).seg x k (s.pos + n)
  | 0, h0, _ => by omega
  | 1, _, _ => by
    have hc := Wk.ok_cut (x 18) hx h
    have hp : (s.cut (x 18)).pos = s.pos := by unfold Wk.cut; split <;> rfl
    have := Wk.seg_plain x k (s.cut (x 18)) s.pos (by rw [hp]; exact Int.le_refl _) hc
    rw [← hp, Wk.seg_self x k _ hc] at this
    show (s.cut (x 18)).plain x k = _
    rw [this, hp]
    rfl
  | n + 2, _, hn => by
    have ih := Wk.run_seg x k s hx h (n + 1) (by omega) (fun i hi hl => hn i hi (by omega))
    have hc := Wk.ok_cut (x 18) hx h
    have hp : (s.cut (x 18)).pos = s.pos := by unfold Wk.cut; split <;> rfl
    show (Wk.run x k (n + 1) s).step x k = _
    have hpos := Wk.pos_run x k s (n + 1)
    unfold Wk.step Wk.cut
    rw [hpos, if_neg (hn (n + 1) (by omega) (by omega)), ih, Wk.seg_plain x k _ _ (by rw [hp]; omega) hc, show s.pos + ((n + 1 : Nat) : Int) + 1 = s.pos + ((n + 2 : Nat) : Int) by omega]
    rfl

/-! ### Whole weeks that are alike -/
theorem emod_next {p L : Int} (hL : 1 ≤ L) : ((p - 1) % L + 1 = p % L ∧ ¬ p % L = 0) ∨ ((p - 1) % L + 1 = L ∧ p % L = 0) := by
  have h0 := Int.emod_nonneg (p - 1) (show L ≠ 0 by omega)
  have h1 := Int.emod_lt_of_pos (p - 1) (show 0 < L by omega)
  have h2 := Int.mul_ediv_add_emod (p - 1) L
  generalize (p - 1) / L = q at h2
  generalize (p - 1) % L = r at h0 h1 h2 ⊢
  have hp : p = r + 1 + L * q := by omega
  by_cases h : r + 1 = L
  · right
    refine ⟨h, ?_⟩
    rw [hp, h, Int.add_mul_emod_self_left, Int.emod_self]
  · left
    have : p % L = r + 1 := by rw [hp, Int.add_mul_emod_self_left]; exact Int.emod_eq_of_lt (by omega) (by omega)
    rw [this]
    exact ⟨rfl, by omega⟩

/-- All weeks from here on are alike. -/
def Wk.Alike (x : Nat → Int) (k : Int) (s : Wk) : Prop :=
  (s.week = if k = 3 then (s.pos - 1) % x 18 + 1 else 0) ∧ (s.last = if k = 3 then x 18 else 0) ∧ (s.labour = if k = 3 ∨ k = 2 then (s.pos - 1) % x 18 + 1 else 0) ∧
  (k = 3 → x 15 < x 18 → 0 ≤ s.f3) ∧ (k = 3 → x 16 < 2 * x 18 → 0 ≤ s.f4) ∧ (k = 3 ∨ k = 2 → x 17 < x 18 → 0 ≤ s.f9)
def Wk.SameF (s t : Wk) : Prop := s.f3 = t.f3 ∧ s.f4 = t.f4 ∧ s.f9 = t.f9

theorem Wk.alike_step {x : Nat → Int} {k : Int} {s : Wk} (hx : Lims x) (h : s.Alike x k) : (s.step x k).Alike x k ∧ (s.step x k).SameF s := by
  obtain ⟨-, -, -, hL⟩ := hx
  obtain ⟨p, a, b, c, f3, f4, f9⟩ := s
  unfold Wk.Alike at h
  dsimp only at h
  obtain ⟨h1, h2, h3, h4, h5, h6⟩ := h
  have hm := emod_next (p := p) hL
  have hm0 := Int.emod_nonneg (p - 1) (show x 18 ≠ 0 by omega)
  have hm1 := Int.emod_lt_of_pos (p - 1) (show 0 < x 18 by omega)
  have hm2 := Int.emod_lt_of_pos p (show 0 < x 18 by omega)
  unfold Wk.step Wk.cut
  dsimp only
  generalize hq : (p - 1) % x 18 = q at *
  generalize hr : p % x 18 = r at *
  rcases hm with ⟨e1, e2⟩ | ⟨e1, e2⟩
  · rw [if_neg e2]
    unfold Wk.plain Wk.Alike Wk.SameF
    dsimp only
    rw [show p + 1 - 1 = p by omega, hr]
    by_cases hk : k = 3
    · have g4 := h4 hk; have g5 := h5 hk; have g6 := h6 (Or.inl hk)
      rw [if_pos hk] at h1 h2
      rw [if_pos (Or.inl hk)] at h3
      have F3 : ¬ ((k = 3 ∧ x 15 < a + 1) ∧ f3 < 0) := by omega
      have F4 : ¬ ((k = 3 ∧ x 16 < a + 1 + b) ∧ f4 < 0) := by omega
      have F9 : ¬ (((k = 3 ∨ k = 2) ∧ x 17 < c + 1) ∧ f9 < 0) := by omega
      rw [if_pos hk, if_pos hk, if_pos hk, if_pos (Or.inl hk), if_pos (Or.inl hk), if_neg F3, if_neg F4, if_neg F9]
      exact ⟨⟨by omega, h2, by omega, h4, h5, h6⟩, rfl, rfl, rfl⟩
    · rw [if_neg hk] at h1 h2
      have F3 : ¬ ((k = 3 ∧ x 15 < a + 1) ∧ f3 < 0) := fun h => hk h.1.1
      have F4 : ¬ ((k = 3 ∧ x 16 < a + 1 + b) ∧ f4 < 0) := fun h => hk h.1.1
      rw [if_neg hk, if_neg hk, if_neg hk, if_neg F3, if_neg F4]
      by_cases hk2 : k = 3 ∨ k = 2
      · have g6 := h6 hk2
        rw [if_pos hk2] at h3
        have F9 : ¬ (((k = 3 ∨ k = 2) ∧ x 17 < c + 1) ∧ f9 < 0) := by omega
        rw [if_pos hk2, if_pos hk2, if_neg F9]
        exact ⟨⟨h1, h2, by omega, h4, h5, h6⟩, rfl, rfl, rfl⟩
      · rw [if_neg hk2] at h3
        have F9 : ¬ (((k = 3 ∨ k = 2) ∧ x 17 < c + 1) ∧ f9 < 0) := fun h => hk2 h.1.1
        rw [if_neg hk2, if_neg hk2, if_neg F9]
        exact ⟨⟨h1, h2, h3, h4, h5, h6⟩, rfl, rfl, rfl⟩
  · rw [if_pos e2]
    unfold Wk.plain Wk.Alike Wk.SameF
    dsimp only
    rw [show p + 1 - 1 = p by omega, hr]
    by_cases hk : k = 3
    · have g4 := h4 hk; have g5 := h5 hk; have g6 := h6 (Or.inl hk)
      rw [if_pos hk] at h1 h2
      have F3 : ¬ ((k = 3 ∧ x 15 < 0 + 1) ∧ f3 < 0) := by omega
      have F4 : ¬ ((k = 3 ∧ x 16 < 0 + 1 + a) ∧ f4 < 0) := by omega
      have F9 : ¬ (((k = 3 ∨ k = 2) ∧ x 17 < 0 + 1) ∧ f9 < 0) := by omega
      rw [if_pos hk, if_pos hk, if_pos hk, if_pos (Or.inl hk), if_pos (Or.inl hk), if_neg F3, if_neg F4, if_neg F9]
      exact ⟨⟨by omega, by omega, by omega, h4, h5, h6⟩, rfl, rfl, rfl⟩
    · rw [if_neg hk] at h1 h2
      have F3 : ¬ ((k = 3 ∧ x 15 < 0 + 1) ∧ f3 < 0) := fun h => hk h.1.1
      have F4 : ¬ ((k = 3 ∧ x 16 < 0 + 1 + a) ∧ f4 < 0) := fun h => hk h.1.1
      rw [if_neg hk, if_neg hk, if_neg hk, if_neg F3, if_neg F4]
      by_cases hk2 : k = 3 ∨ k = 2
      · have g6 := h6 hk2
        have F9 : ¬ (((k = 3 ∨ k = 2) ∧ x 17 < 0 + 1) ∧ f9 < 0) := by omega
        rw [if_pos hk2, if_pos hk2, if_neg F9]
        exact ⟨⟨rfl, h1, by omega, h4, h5, h6⟩, rfl, rfl, rfl⟩
      · have F9 : ¬ (((k = 3 ∨ k = 2) ∧ x 17 < 0 + 1) ∧ f9 < 0) := fun h => hk2 h.1.1
        rw [if_neg hk2, if_neg hk2, if_neg F9]
        exact ⟨⟨rfl, h1, rfl, h4, h5, h6⟩, rfl, rfl, rfl⟩
theorem Wk.alike_run {x : Nat → Int} {k : Int} {s : Wk} (hx : Lims x) (h : s.Alike x k) : ∀ n, (Wk.run x k n s).Alike x k ∧ (Wk.run x k n s).SameF s
  | 0 => ⟨h, rfl, rfl, rfl⟩
  | n + 1 => by
    obtain ⟨h1, e1, e2, e3⟩ := Wk.alike_run hx h n
    obtain ⟨h2, g1, g2, g3⟩ := Wk.alike_step hx h1
    exact ⟨h2, g1.trans e1, g2.trans e2, g3.trans e3⟩

/-- A whole week from its begin on. -/
theorem Wk.week_run {x : Nat → Int} {k : Int} {s : Wk} (hx : Lims x) (h : s.Ok x k) (h0 : s.pos % x 18 = 0) :
    Wk.run x k (x 18).toNat s = ({ s with last := s.week, week := 0, labour := 0 } : Wk).seg x k (s.pos + x 18) := by
  have hL := hx.2.2.2
  rw [Wk.run_seg x k s hx h (x 18).toNat (by omega) (fun i hi hl => ?_)]
  · unfold Wk.cut
    rw [if_pos h0, Int.toNat_of_nonneg (by omega)]
  · rw [Int.add_emod, h0, Int.zero_add, Int.emod_emod_of_dvd _ (Int.dvd_refl _), Int.emod_eq_of_lt (by omega) (by omega)]
    omega

/-- Behind the next begin of a week, and two weeks more, all weeks are alike. -/
theorem Wk.alike_two {x : Nat → Int} {k : Int} {s : Wk} (hx : Lims x) (h : s.Ok x k) (h0 : s.pos % x 18 = 0) : (Wk.run x k ((x 18).toNat + (x 18).toNat) s).Alike x k := by
  have hL := hx.2.2.2
  rw [Wk.run_add, Wk.week_run hx h h0]
  have hok : (({ s with last := s.week, week := 0, labour := 0 } : Wk).seg x k (s.pos + x 18)).Ok x k := by
    rw [← Wk.week_run hx h h0]
    exact Wk.ok_run hx _ h
  have hp : (s.pos + x 18) % x 18 = 0 := by rw [Int.add_emod_right, h0]
  rw [Wk.week_run hx hok (by exact hp)]
  obtain ⟨p, a, b, c, f3, f4, f9⟩ := s
  obtain ⟨h1, h2, h3, h4, h5, h6, h7⟩ := h
  dsimp only at *
  have hm : (p + x 18 + x 18 - 1) % x 18 = x 18 - 1 := by
    rw [show p + x 18 + x 18 - 1 = p + x 18 + (x 18 - 1) by omega, Int.add_emod, hp, Int.zero_add, Int.emod_emod_of_dvd _ (Int.dvd_refl _), Int.emod_eq_of_lt (by omega) (by omega)]
  obtain ⟨hx1, hx2, hx3, -⟩ := hx
  unfold Wk.seg Wk.Alike
  dsimp only
  rw [hm]
  by_cases hk : k = 3
  · have g5 := h5 hk; have g6 := h6 hk; have g7 := h7 (Or.inl hk)
    simp only [hk, if_true, true_and, true_or, true_implies]
    refine ⟨by omega, by omega, by omega, ?_, ?_, ?_⟩
    all_goals (intro h; repeat' split)
    all_goals omega
  · by_cases hk2 : k = 2
    · subst hk2
      simp only [if_true, if_false, false_and, true_and, or_true, true_implies, false_implies, show ¬ ((2 : Int) = 3) by decide]
      refine ⟨by omega, ?_⟩
      intro h
      repeat' split
      all_goals omega
    · simp only [hk, hk2, if_false, false_and, or_self, false_implies, and_self]

/-- The next begin of a week lies less than a week ahead. -/
theorem next_begin (p L : Int) (hL : 1 ≤ L) : ∃ j : Nat, (j : Int) < L ∧ (p + j) % L = 0 := by
  have h0 := Int.emod_nonneg p (show L ≠ 0 by omega)
  have h1 := Int.emod_lt_of_pos p (show 0 < L by omega)
  have h2 := Int.mul_ediv_add_emod p L
  generalize p / L = q at h2
  generalize p % L = r at h0 h1 h2
  by_cases h : r = 0
  · exact ⟨0, by omega, by rw [show p + ((0 : Nat) : Int) = 0 + L * q by omega, Int.add_mul_emod_self_left]; rfl⟩
  · refine ⟨(L - r).toNat, by omega, ?_⟩
    rw [Int.toNat_of_nonneg (by omega), show p + (L - r) = L + L * q by omega, Int.add_mul_emod_self_left, Int.emod_self]

/-- More whole weeks than three change nothing. -/
theorem Wk.run_less {x : Nat → Int} {k : Int} {s : Wk} (hx : Lims x) (h : s.Ok x k) (n : Nat) (hn : 3 * x 18 < n) :
    let t := Wk.run x k n s; let u := Wk.run x k ((n : Int) % x 18 + 3 * x 18).toNat s
    t.week = u.week ∧ t.last = u.last ∧ t.labour = u.labour ∧ t.SameF u := by
  have hL := hx.2.2.2
  dsimp only
  obtain ⟨j, hj, hj0⟩ := next_begin s.pos (x 18) hL
  have hr0 := Int.emod_nonneg (n : Int) (show x 18 ≠ 0 by omega)
  have hr1 := Int.emod_lt_of_pos (n : Int) (show 0 < x 18 by omega)
  have hal := Wk.alike_two (k := k) hx (Wk.ok_run hx j h) (by rw [Wk.pos_run]; exact hj0)
  rw [← Wk.run_add] at hal
  obtain ⟨z, hz⟩ : ∃ z, j + ((x 18).toNat + (x 18).toNat) = z := ⟨_, rfl⟩
  rw [hz] at hal
  have e1 : Wk.run x k n s = Wk.run x k (n - z) (Wk.run x k z s) := by rw [← Wk.run_add]; congr 1; omega
  have e2 : Wk.run x k ((n : Int) % x 18 + 3 * x 18).toNat s = Wk.run x k (((n : Int) % x 18 + 3 * x 18).toNat - z) (Wk.run x k z s) := by rw [← Wk.run_add]; congr 1; omega
  have p1 := Wk.pos_run x k s n
  have p2 := Wk.pos_run x k s ((n : Int) % x 18 + 3 * x 18).toNat
  rw [e1] at p1
  rw [e2] at p2
  rw [e1, e2]
  obtain ⟨⟨a1, a2, a3, -⟩, s1⟩ := Wk.alike_run hx hal (n - z)
  obtain ⟨⟨b1, b2, b3, -⟩, s2⟩ := Wk.alike_run hx hal (((n : Int) % x 18 + 3 * x 18).toNat - z)
  have hm : (s.pos + (n : Int) - 1) % x 18 = (s.pos + (((n : Int) % x 18 + 3 * x 18).toNat : Int) - 1) % x 18 := by
    rw [Int.toNat_of_nonneg (by omega)]
    have h2 := Int.mul_ediv_add_emod (n : Int) (x 18)
    generalize (n : Int) / x 18 = q at h2
    generalize (n : Int) % x 18 = r at h2
    rw [show s.pos + (n : Int) - 1 = (s.pos + r - 1) + x 18 * q by omega, Int.add_mul_emod_self_left, show s.pos + (r + 3 * x 18) - 1 = (s.pos + r - 1) + x 18 * 3 by omega, Int.add_mul_emod_self_left]
  rw [p1, hm, ← p2] at a1 a3
  exact ⟨a1.trans b1.symm, a2.trans b2.symm, a3.trans b3.symm, s1.1.trans s2.1.symm, s1.2.1.trans s2.2.1.symm, s1.2.2.trans s2.2.2.symm⟩

end Go.Proofs.Ytndhagflfbblaaa
