/- How far a kind can go on, the least of first minutes, and blocks in two parts, in plain words. Conditions: none beyond each lemma's own premises. -/
import Derived.Test.YtndhagflfbblaaaRows
import Derived.Test.YtndhagflfbblaaaBase
import Derived.Test.YtndhagflfbblaaaSpellMath
import Derived.Test.YtndhagflfbblaaaMeterMath
import Derived.Test.YtndhagflfbblaaaStretchMath
namespace Go.Proofs.Ytndhagflfbblaaa
open Go.RowKit

/-- The least of the first c numbers that is not below 0, or -1. -/
def leastF (y : Nat → Int) : Nat → Int
  | 0 => -1
  | c + 1 => if 0 ≤ y c ∧ (leastF y c < 0 ∨ y c < leastF y c) then y c else leastF y c
def firstV (y : Nat → Int) : Int := leastF y 10
theorem least_none {y : Nat → Int} : ∀ c, (∀ i, i < c → y i < 0) → leastF y c = -1
  | 0, _ => rfl
  | c + 1, h => by
    have := h c (by omega)
    unfold leastF
    rw [least_none c (fun i hi => h i (by omega)), if_neg (by omega)]
theorem least_some {y : Nat → Int} {v : Int} (hv : 0 ≤ v) : ∀ c, (∀ i, i < c → y i < 0 ∨ v ≤ y i) → (∃ i, i < c ∧ y i = v) → leastF y c = v
  | 0, _, h => by obtain ⟨i, hi, _⟩ := h; omega
  | c + 1, h, e => by
    unfold leastF
    by_cases hc : ∃ i, i < c ∧ y i = v
    · rw [least_some hv c (fun i hi => h i (by omega)) hc]
      have := h c (by omega)
      split <;> omega
    · obtain ⟨i, hi, hy⟩ := e
      have : i = c := by
        rcases Nat.lt_or_ge i c with h1 | h1
        · exact absurd ⟨i, h1, hy⟩ hc
        · omega
      subst this
      rw [hy]
      have hl : leastF y i < 0 ∨ v < leastF y i := by
        clear hi
        have hall : ∀ j, j < i → y j < 0 ∨ v < y j := fun j hj => by
          have := h j (by omega)
          have : y j ≠ v := fun hh => hc ⟨j, hj, hh⟩
          omega
        clear h hc hy
        induction i with
        | zero => left; show (-1 : Int) < 0; decide
        | succ n ih =>
          have ih := ih (fun j hj => hall j (by omega))
          have := hall n (by omega)
          unfold leastF
          split <;> omega
      rw [if_pos ⟨hv, hl⟩]

/-- How many minutes break nothing, of f at most. -/
def farR (x : Nat → Int) (k : Int) : Nat → Mt → Nat
  | 0, _ => 0
  | f + 1, m => if stepC x m k = 0 then farR x k f (stepM x m k) + 1 else 0
theorem farR_le (x : Nat → Int) (k : Int) : ∀ (f : Nat) (m : Mt), farR x k f m ≤ f
  | 0, _ => Nat.le_refl _
  | f + 1, m => by
    unfold farR
    split
    · have := farR_le x k f (stepM x m k); omega
    · omega
/-- So many break nothing. -/
theorem far_none (x : Nat → Int) (k : Int) : ∀ (f : Nat) (m : Mt) (n : Nat), n ≤ farR x k f m → (walkV x k n m noneF).2 = noneF
  | f, m, 0, _ => rfl
  | 0, m, n + 1, h => by unfold farR at h; omega
  | f + 1, m, n + 1, h => by
    unfold farR at h
    by_cases hs : stepC x m k = 0
    · rw [if_pos hs] at h
      show (walkV x k n (stepM x m k) (recB (stepC x m k) noneF m.now)).2 = noneF
      rw [hs, recB_zero]
      exact far_none x k f _ n (by omega)
    · rw [if_neg hs] at h; omega
/-- What has been noted stays, and what is noted later is no less. -/
theorem walk_keep (x : Nat → Int) (k : Int) : ∀ (n : Nat) {m : Mt} (y : Nat → Int), MayM m → m.now + n ≤ 40320 → ∀ c, (0 ≤ y c → (walkV x k n m y).2 c = y c) ∧ (y c < 0 → (walkV x k n m y).2 c = y c ∨ m.now ≤ (walkV x k n m y).2 c)
  | 0, m, y, _, _, c => ⟨fun _ => rfl, fun _ => Or.inl rfl⟩
  | n + 1, m, y, hm, hn, c => by
    have h1 := may_step (x := x) k hm (by omega)
    have h0 := hm.1.1
    obtain ⟨i1, i2⟩ := walk_keep x k n (recB (stepC x m k) y m.now) h1.1 (by rw [h1.2]; omega) c
    rw [h1.2] at i2
    show (_ → (walkV x k n (stepM x m k) (recB (stepC x m k) y m.now)).2 c = _) ∧ (_ → (walkV x k n (stepM x m k) (recB (stepC x m k) y m.now)).2 c = _ ∨ _ ≤ (walkV x k n (stepM x m k) (recB (stepC x m k) y m.now)).2 c)
    have hr : recB (stepC x m k) y m.now c = if (stepC x m k).testBit c = true ∧ y c < 0 then m.now else y c := rfl
    constructor
    · intro hy
      rw [if_neg (by omega)] at hr
      rw [hr] at i1
      exact i1 hy
    · intro hy
      by_cases hb : (stepC x m k).testBit c = true
      · rw [if_pos ⟨hb, hy⟩] at hr
        rw [hr] at i1
        right
        rw [i1 h0]; exact Int.le_refl _
      · rw [if_neg (fun h => hb h.1)] at hr
        rw [hr] at i2
        rcases i2 hy with h | h
        · exact Or.inl h
        · right; omega
/-- A set that is not empty has one of the ten clauses. -/
theorem set_has {s : Nat} (hs : s < 1024) (h0 : s ≠ 0) : ∃ c, c < 10 ∧ s.testBit c = true := by
  obtain ⟨c, hc⟩ := Nat.exists_testBit_of_ne_zero h0
  refine ⟨c, ?_, hc⟩
  rcases Nat.lt_or_ge c 10 with h | h
  · exact h
  · rw [Nat.testBit_lt_two_pow (Nat.lt_of_lt_of_le hs (Nat.pow_le_pow_right (n := 2) (by omega) h))] at hc
    cases hc
/-- Where it ends, something is broken first. -/
theorem far_first (x : Nat → Int) (k : Int) : ∀ (f : Nat) {m : Mt} (n : Nat), MayM m → m.now + f ≤ 40320 → farR x k f m < f → farR x k f m < n → n ≤ f → firstV (walkV x k n m noneF).2 = m.now + farR x k f m
  | 0, m, n, _, _, h, _, _ => by omega
  | f + 1, m, 0, _, _, _, h, _ => by omega
  | f + 1, m, n + 1, hm, hn, h1, h2, h3 => by
    have hs := may_step (x := x) k hm (by omega)
    have h0 := hm.1.1
    unfold farR at h1 h2 ⊢
    show firstV (walkV x k n (stepM x m k) (recB (stepC x m k) noneF m.now)).2 = _
    by_cases hc : stepC x m k = 0
    · rw [if_pos hc] at h1 h2 ⊢
      rw [hc, recB_zero, far_first x k f n hs.1 (by rw [hs.2]; omega) (by omega) (by omega) (by omega), hs.2]
      omega
    · rw [if_neg hc]
      obtain ⟨c, hc10, hbit⟩ := set_has (stepC_lt x m k) hc
      have hk := walk_keep x k n (recB (stepC x m k) noneF m.now) hs.1 (by rw [hs.2]; omega)
      refine (least_some h0 10 (fun i hi => ?_) ⟨c, hc10, ?_⟩).trans (by simp)
      · have hr : recB (stepC x m k) noneF m.now i = if (stepC x m k).testBit i = true ∧ noneF i < 0 then m.now else noneF i := rfl
        obtain ⟨k1, k2⟩ := hk i
        split at hr
        · rw [hr] at k1
          right; rw [k1 h0]; exact Int.le_refl _
        · rw [hr] at k2
          rcases k2 (by show (-1 : Int) < 0; decide) with h | h
          · left; rw [h]; show (-1 : Int) < 0; decide
          · right; rw [hs.2] at h; omega
      · have hr : recB (stepC x m k) noneF m.now c = m.now := by unfold recB; rw [if_pos ⟨hbit, by show (-1 : Int) < 0; decide⟩]
        have hq := (hk c).1 (by rw [hr]; exact h0)
        rw [hq]; exact hr

/-- The meter hangs on no first minutes. -/
theorem walk_meter (x : Nat → Int) (k : Int) : ∀ (n : Nat) (m : Mt) (y z : Nat → Int), (walkV x k n m y).1 = (walkV x k n m z).1
  | 0, _, _, _ => rfl
  | n + 1, m, _, _ => walk_meter x k n (stepM x m k) _ _
/-- Two parts: what is noted in the first one stands; else what is noted in the second one. -/
theorem walk_split (x : Nat → Int) (k : Int) : ∀ (n : Nat) {m : Mt} (y : Nat → Int), MayM m → m.now + n ≤ 40320 → (∀ c, y c < 0 → y c = -1) → ∀ c, (walkV x k n m y).2 c = if y c < 0 then (walkV x k n m noneF).2 c else y c
  | 0, m, y, _, _, hy, c => by
    show y c = if y c < 0 then (-1 : Int) else y c
    have := hy c
    split <;> omega
  | n + 1, m, y, hm, hn, hy, c => by
    have hs := may_step (x := x) k hm (by omega)
    have h0 := hm.1.1
    have ih := fun z hz => walk_split x k n z hs.1 (by rw [hs.2]; omega) hz c
    show (walkV x k n (stepM x m k) (recB (stepC x m k) y m.now)).2 c = if y c < 0 then (walkV x k n (stepM x m k) (recB (stepC x m k) noneF m.now)).2 c else y c
    have hz : ∀ z : Nat → Int, (∀ c, z c < 0 → z c = -1) → ∀ c, recB (stepC x m k) z m.now c < 0 → recB (stepC x m k) z m.now c = -1 := fun z hz c => by
      unfold recB
      split
      · omega
      · exact hz c
    rw [ih _ (hz y hy), ih _ (hz noneF (fun _ _ => rfl))]
    have hneg : noneF c < 0 := by show (-1 : Int) < 0; decide
    by_cases hb : (stepC x m k).testBit c = true
    · have r2 : recB (stepC x m k) noneF m.now c = m.now := by unfold recB; exact if_pos ⟨hb, hneg⟩
      rw [r2]
      by_cases hyc : y c < 0
      · have r1 : recB (stepC x m k) y m.now c = m.now := by unfold recB; exact if_pos ⟨hb, hyc⟩
        rw [r1, if_pos hyc]
      · have r1 : recB (stepC x m k) y m.now c = y c := by unfold recB; exact if_neg (fun h => hyc h.2)
        rw [r1, if_neg hyc, if_neg hyc]
    · have r2 : recB (stepC x m k) noneF m.now c = noneF c := by unfold recB; exact if_neg (fun h => hb h.1)
      have r1 : recB (stepC x m k) y m.now c = y c := by unfold recB; exact if_neg (fun h => hb h.1)
      rw [r1, r2, if_pos hneg]
theorem walk_ones (x : Nat → Int) (k : Int) : ∀ (n : Nat) {m : Mt} (y : Nat → Int), MayM m → m.now + n ≤ 40320 → (∀ c, y c < 0 → y c = -1) → ∀ c, (walkV x k n m y).2 c < 0 → (walkV x k n m y).2 c = -1
  | 0, _, _, _, _, hy, c => hy c
  | n + 1, m, y, hm, hn, hy, c => by
    have hs := may_step (x := x) k hm (by omega)
    have h0 := hm.1.1
    exact walk_ones x k n _ hs.1 (by rw [hs.2]; omega) (fun c => by
      unfold recB
      split
      · omega
      · exact hy c) c

end Go.Proofs.Ytndhagflfbblaaa
