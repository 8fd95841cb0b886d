/- A span cut where weeks begin, minute by minute: what the pieces are, and that a run of minutes of one week is one piece. Conditions: none beyond each lemma's own premises. -/
import Derived.RowKit
import Derived.IntWalk
import Derived.Test.YtbldkhlkejoklaaDoorIvalsMath
namespace Go.Proofs.YtbldkhlkejoklaaDoor
open Go.RowKit

/-- The last span ends elsewhere. -/
def endAt (l : List Sp) (z : Int) : List Sp := l.dropLast ++ [((l.getLastD (0, 0)).1, z)]

theorem endAt_snoc (o : List Sp) (x y z : Int) : endAt (o ++ [(x, y)]) z = o ++ [(x, z)] := by
  unfold endAt
  simp

/-- The pieces of the k minutes from a on. -/
def cutN (L a : Int) : Nat → List Sp
  | 0 => []
  | k + 1 => if k = 0 ∨ (a + k) % L = 0 then cutN L a k ++ [(a + k, a + k + 1)] else endAt (cutN L a k) (a + k + 1)

theorem cut_new {L a : Int} {k : Nat} (h : k = 0 ∨ (a + k) % L = 0) : cutN L a (k + 1) = cutN L a k ++ [(a + k, a + k + 1)] := by
  rw [cutN, if_pos h]

theorem cut_on {L a : Int} {k : Nat} (h : ¬ (k = 0 ∨ (a + k) % L = 0)) : cutN L a (k + 1) = endAt (cutN L a k) (a + k + 1) := by
  rw [cutN, if_neg h]

theorem cut_last (L a : Int) (k : Nat) : ∃ o x, cutN L a (k + 1) = o ++ [(x, a + k + 1)] := by
  by_cases h : k = 0 ∨ (a + k) % L = 0
  · rw [cut_new h]
    exact ⟨_, _, rfl⟩
  · rw [cut_on h]
    exact ⟨_, _, rfl⟩

theorem cut_len (L a : Int) (k : Nat) : (cutN L a k).length ≤ k := by
  induction k with
  | zero => simp [cutN]
  | succ k ih =>
    by_cases h : k = 0 ∨ (a + k) % L = 0
    · rw [cut_new h]
      simp
      exact ih
    · rw [cut_on h]
      have hk : k ≠ 0 := fun e => h (Or.inl e)
      unfold endAt
      simp
      omega

/-- A run of minutes, behind the first of which no week begins. -/
theorem cut_run {L a : Int} {k : Nat} (h : k = 0 ∨ (a + k) % L = 0) : ∀ j : Nat, (∀ i : Nat, 0 < i → i < j + 1 → (a + (k + i : Nat)) % L ≠ 0) → cutN L a (k + (j + 1)) = cutN L a k ++ [(a + k, a + k + j + 1)]
  | 0, _ => by
    rw [Nat.zero_add, cut_new h]
    congr 3
    omega
  | j + 1, hn => by
    have ih := cut_run h j (fun i h0 h1 => hn i h0 (by omega))
    have hc : ¬ (k + (j + 1) = 0 ∨ (a + (k + (j + 1) : Nat)) % L = 0) := by
      intro e
      rcases e with e | e
      · omega
      · exact hn (j + 1) (by omega) (by omega) e
    rw [← Nat.add_assoc k (j + 1) 1, cut_on hc, ih, endAt_snoc]
    congr 3
    push_cast
    omega

/-- A piece that begins with the span, or with the week q, and ends no later than it. -/
theorem cut_piece {L a f t q : Int} (ha : a ≤ f) (hft : f < t) (hf : f = a ∨ f = q * L) (hq : q * L ≤ f) (ht : t ≤ q * L + L) :
    cutN L a (t - a).toNat = cutN L a (f - a).toNat ++ [(f, t)] := by
  have hk : a + ((f - a).toNat : Int) = f := by omega
  have hc : (f - a).toNat = 0 ∨ (a + ((f - a).toNat : Int)) % L = 0 := by
    rcases hf with e | e
    · left; omega
    · right; rw [hk, e]; exact Int.mul_emod_left q L
  have hr := cut_run hc (t - f - 1).toNat (fun i h0 h1 e => by
    have hi : a + ((f - a).toNat + i : Nat) = f + i := by omega
    rw [hi] at e
    have hd : (f + i) % L = f + i - q * L := by
      rw [show f + (i : Int) = (f + i - q * L) + q * L by omega, Int.add_mul_emod_self_right, Int.emod_eq_of_lt (by omega) (by omega)]
      omega
    omega)
  have e1 : (t - a).toNat = (f - a).toNat + ((t - f - 1).toNat + 1) := by omega
  rw [e1, hr]
  congr 3 <;> omega

theorem div_step {L z : Int} (hL : 1 ≤ L) (h : z % L ≠ 0) : (z - 1) / L = z / L := by
  have h1 := Int.emod_nonneg z (b := L) (by omega)
  have h2 := Int.emod_lt_of_pos z (b := L) (by omega)
  have h3 := Int.mul_ediv_add_emod z L
  have e : z - 1 = (z % L - 1) + L * (z / L) := by omega
  rw [e, Int.add_mul_ediv_left _ _ (by omega), Int.ediv_eq_zero_of_lt (by omega) (by omega)]
  omega

/-- Pieces of minutes from a on, up to z: each lies in one week, each begins where the one ahead ends. -/
structure Good (L a : Int) (l : List Sp) (z : Int) : Prop where
  one : ∀ i, i < l.length → a ≤ (l.getD i (0, 0)).1 ∧ (l.getD i (0, 0)).1 < (l.getD i (0, 0)).2 ∧ (l.getD i (0, 0)).2 ≤ z ∧ (l.getD i (0, 0)).1 / L = ((l.getD i (0, 0)).2 - 1) / L
  next : ∀ i, i + 1 < l.length → (l.getD (i + 1) (0, 0)).1 = (l.getD i (0, 0)).2

theorem getD_left (o : List Sp) (p : Sp) {i : Nat} (h : i < o.length) : (o ++ [p]).getD i (0, 0) = o.getD i (0, 0) := by
  simp [List.getD, List.getElem?_append_left h]

theorem getD_last (o : List Sp) (p : Sp) : (o ++ [p]).getD o.length (0, 0) = p := by
  simp [List.getD]

theorem good_snoc {L a z x y : Int} {o : List Sp} (h : ∀ i, i < o.length → a ≤ (o.getD i (0, 0)).1 ∧ (o.getD i (0, 0)).1 < (o.getD i (0, 0)).2 ∧ (o.getD i (0, 0)).2 ≤ z ∧ (o.getD i (0, 0)).1 / L = ((o.getD i (0, 0)).2 - 1) / L)
    (hn : ∀ i, i + 1 < o.length → (o.getD (i + 1) (0, 0)).1 = (o.getD i (0, 0)).2)
    (h1 : a ≤ x) (h2 : x < y) (h3 : y ≤ z) (h4 : x / L = (y - 1) / L) (h5 : ∀ i, i + 1 = o.length → x = (o.getD i (0, 0)).2) : Good L a (o ++ [(x, y)]) z := by
  refine ⟨fun i hi => ?_, fun i hi => ?_⟩
  · by_cases e : i < o.length
    · rw [getD_left _ _ e]; exact h i e
    · have e2 : i = o.length := by simp at hi; omega
      subst e2
      rw [getD_last]
      exact ⟨h1, h2, h3, h4⟩
  · by_cases e : i + 1 < o.length
    · rw [getD_left _ _ e, getD_left o _ (i := i) (by omega)]; exact hn i e
    · have e2 : i + 1 = o.length := by simp at hi; omega
      rw [getD_left o _ (i := i) (by omega), e2, getD_last]
      exact h5 i e2

theorem cut_good {L a : Int} (hL : 1 ≤ L) : ∀ k : Nat, Good L a (cutN L a k) (a + k) ∧ (∀ i, i + 1 = (cutN L a k).length → ((cutN L a k).getD i (0, 0)).2 = a + k)
  | 0 => ⟨⟨fun i h => by simp [cutN] at h, fun i h => by simp [cutN] at h⟩, fun i h => by simp [cutN] at h⟩
  | k + 1 => by
    obtain ⟨ih, ihl⟩ := cut_good hL k
    have hone : ∀ i, i < (cutN L a k).length → a ≤ ((cutN L a k).getD i (0, 0)).1 ∧ ((cutN L a k).getD i (0, 0)).1 < ((cutN L a k).getD i (0, 0)).2 ∧ ((cutN L a k).getD i (0, 0)).2 ≤ a + (k + 1 : Nat) ∧ ((cutN L a k).getD i (0, 0)).1 / L = (((cutN L a k).getD i (0, 0)).2 - 1) / L := fun i hi => by
      obtain ⟨p1, p2, p3, p4⟩ := ih.one i hi
      exact ⟨p1, p2, by omega, p4⟩
    by_cases h : k = 0 ∨ (a + k) % L = 0
    · rw [cut_new h]
      refine ⟨good_snoc hone ih.next (by omega) (by omega) (by omega) (by congr 1; omega) (fun i hi => (ihl i hi).symm), fun i hi => ?_⟩
      have e : i = (cutN L a k).length := by simpa using hi
      rw [e, getD_last]
      show a + (k : Int) + 1 = a + ((k + 1 : Nat) : Int)
      omega
    · rw [cut_on h]
      have hz : (a + k) % L ≠ 0 := fun e => h (Or.inr e)
      obtain ⟨j, rfl⟩ : ∃ j, k = j + 1 := ⟨k - 1, by have : k ≠ 0 := fun e => h (Or.inl e); omega⟩
      obtain ⟨o, x, ho⟩ := cut_last L a j
      rw [ho] at ih ihl hone ⊢
      rw [endAt_snoc]
      have hx := ih.one o.length (by simp)
      rw [getD_last] at hx
      simp only [] at hx
      refine ⟨good_snoc (fun i hi => ?_) (fun i hi => ?_) hx.1 (by omega) (by omega) ?_ (fun i hi => ?_), fun i hi => ?_⟩
      · have := hone i (by simp; omega)
        rwa [getD_left _ _ hi] at this
      · have := ih.next i (by simp; omega)
        rwa [getD_left o _ (i := i + 1) (by omega), getD_left o _ (i := i) (by omega)] at this
      · have hs := div_step hL hz
        have e1 : a + (j : Int) + 1 - 1 = a + ((j + 1 : Nat) : Int) - 1 := by omega
        have e2 : a + ((j + 1 : Nat) : Int) + 1 - 1 = a + ((j + 1 : Nat) : Int) := by omega
        rw [hx.2.2.2, e1, e2, hs]
      · have := ih.next i (by simp; omega)
        rw [getD_left o _ (i := i) (by omega), hi, getD_last] at this
        exact this
      · have e : i = o.length := by simpa using hi
        rw [e, getD_last]
        show a + ((j + 1 : Nat) : Int) + 1 = a + ((j + 1 + 1 : Nat) : Int)
        omega

end Go.Proofs.YtbldkhlkejoklaaDoor
