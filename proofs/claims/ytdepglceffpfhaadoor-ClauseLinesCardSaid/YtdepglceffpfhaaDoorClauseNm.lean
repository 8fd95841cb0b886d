/- Clauses in plain words: their names and articles, and sets of them. Conditions: none beyond each lemma's own premises. -/
import Derived.RowKit
import Derived.Lib.Hide
namespace Go.Proofs.YtdepglceffpfhaaDoor
open Go.RowKit

/-! ### Names and articles -/

def nmL : List ByteArray := [⟨#[98, 114, 101, 97, 107]⟩, ⟨#[108, 111, 110, 103, 101, 114]⟩, ⟨#[108, 111, 110, 103, 101, 114, 115]⟩, ⟨#[119, 101, 101, 107]⟩, ⟨#[102, 111, 114, 116, 110, 105, 103, 104, 116]⟩, ⟨#[100, 97, 105, 108, 121]⟩, ⟨#[114, 101, 100, 117, 99, 101, 115]⟩, ⟨#[119, 101, 101, 107, 108, 121]⟩, ⟨#[98, 114, 105, 101, 102]⟩, ⟨#[108, 97, 98, 111, 117, 114]⟩, ⟨#[100, 114, 105, 118, 101]⟩, ⟨#[119, 111, 114, 107]⟩, ⟨#[111, 112, 101, 110]⟩, ⟨#[115, 101, 114, 118, 101]⟩, ⟨#[108, 101, 102, 116]⟩, ⟨#[108, 111, 97, 100]⟩]

def arL : List ByteArray := [⟨#[55]⟩, ⟨#[54, 40, 49, 41]⟩, ⟨#[54, 40, 49, 41]⟩, ⟨#[54, 40, 50, 41]⟩, ⟨#[54, 40, 51, 41]⟩, ⟨#[56, 40, 50, 41]⟩, ⟨#[56, 40, 52, 41]⟩, ⟨#[56, 40, 54, 41]⟩, ⟨#[56, 40, 54, 41]⟩, ⟨#[68, 52]⟩, ⟨#[82, 49]⟩, ⟨#[82, 49]⟩, ⟨#[82, 50]⟩, ⟨#[82, 51]⟩, ⟨#[82, 52]⟩, ⟨#[82, 53]⟩]

def nmB (k : Nat) : ByteArray := nmL.getD k ⟨#[]⟩
def arB (k : Nat) : ByteArray := arL.getD k ⟨#[]⟩
def artW : ByteArray := ⟨#[97, 114, 116, 46]⟩

/-- Is the number a clause's? -/
def isC (c : Int) : Prop := 0 ≤ c ∧ c < 16
instance (c : Int) : Decidable (isC c) := by unfold isC; infer_instance

def nameV (c : Int) : ByteArray := if isC c then nmB c.toNat else ⟨#[]⟩
def artV (c : Int) : ByteArray := if isC c then arB c.toNat else ⟨#[]⟩
def noneV (c : Int) : Int := if isC c then 0 else 13

theorem isC_nat {k : Nat} (h : k < 16) : isC (k : Int) := ⟨by omega, by omega⟩
theorem name_yes {k : Nat} (h : k < 16) : nameV (k : Int) = nmB k := by unfold nameV; rw [if_pos (isC_nat h)]; rfl
theorem art_yes {k : Nat} (h : k < 16) : artV (k : Int) = arB k := by unfold artV; rw [if_pos (isC_nat h)]; rfl
theorem name_no {c : Int} (h : ¬ isC c) : nameV c = ⟨#[]⟩ := if_neg h
theorem art_no {c : Int} (h : ¬ isC c) : artV c = ⟨#[]⟩ := if_neg h
theorem none_yes {c : Int} (h : isC c) : noneV c = 0 := if_pos h
theorem none_no {c : Int} (h : ¬ isC c) : noneV c = 13 := if_neg h
theorem isC_of {c : Int} (h : isC c) : ∃ k : Nat, k < 16 ∧ c = (k : Int) := ⟨c.toNat, by have := h.1; have := h.2; omega, by have := h.1; omega⟩

theorem fin16 {p : Nat → Prop} (h : ∀ k : Fin 16, p k.val) : ∀ k, k < 16 → p k := fun k hk => h ⟨k, hk⟩

theorem nm_size : ∀ k, k < 16 → (nmB k).size ≠ 0 ∧ (nmB k).size ≤ 9 := fin16 (by decide +kernel)
theorem ar_size : ∀ k, k < 16 → (arB k).size ≤ 4 := fin16 (by decide +kernel)
theorem nm_clean : ∀ k, k < 16 → ∀ b ∈ (nmB k).data.toList, 33 ≤ b.toNat ∧ b.toNat ≤ 126 := fin16 (by decide +kernel)
theorem ar_clean : ∀ k, k < 16 → ∀ b ∈ (artW ++ arB k).data.toList, 33 ≤ b.toNat ∧ b.toNat ≤ 126 := fin16 (by decide +kernel)

/-- The clause of that name. -/
def findN (s : ByteArray) : Option Nat := (List.range 16).find? fun k => (nmB k).data.toList == s.data.toList
def findV (s : ByteArray) : Int := match findN s with | some k => k | none => -1

theorem fnd_nm : ∀ k, k < 16 → findN (nmB k) = some k := fin16 (by decide +kernel)

theorem fnd_none {s : ByteArray} (h : findN s = none) : findV s = -1 := by unfold findV; rw [h]
theorem fnd_some {s : ByteArray} {k : Nat} (h : findN s = some k) : findV s = (k : Int) := by unfold findV; rw [h]
theorem fnd_is {s : ByteArray} {k : Nat} (h : findN s = some k) : k < 16 ∧ nmB k = s := by
  unfold findN at h
  have h1 := List.find?_some h
  have h2 := List.mem_of_find?_eq_some h
  exact ⟨by simpa using h2, ByteArray.ext (Array.toList_inj.1 (by simpa using h1))⟩
theorem fnd_at {s : ByteArray} {k : Nat} (hk : k < 16) (h : nmB k = s) : findN s = some k := by subst h; exact fnd_nm k hk
theorem fnd_no {s : ByteArray} (h : ∀ k, k < 16 → nmB k ≠ s) : findN s = none := by
  cases hf : findN s with
  | none => rfl
  | some k => exact absurd (fnd_is hf).2 (h k (fnd_is hf).1)

/-! ### Sets -/

/-- Is the clause k in the set? -/
def bitV (s : Int) (k : Nat) : Bool := s / 2 ^ k % 2 == 1

/-- The clauses of the set below k. -/
def allN (s : Int) (k : Nat) : List Int := ((List.range k).filter (bitV s)).map Int.ofNat

def inV (s c : Int) : Bool := decide (isC c) && bitV s c.toNat

theorem all_yes {s : Int} {k : Nat} (h : bitV s k = true) : allN s (k + 1) = allN s k ++ [(k : Int)] := by
  unfold allN
  rw [List.range_succ, List.filter_append, List.map_append]
  simp [h]
theorem all_no {s : Int} {k : Nat} (h : bitV s k = false) : allN s (k + 1) = allN s k := by
  unfold allN
  rw [List.range_succ, List.filter_append, List.map_append]
  simp [h]
theorem all_len (s : Int) (k : Nat) : (allN s k).length ≤ k := by
  unfold allN
  rw [List.length_map]
  exact Nat.le_trans (List.length_filter_le _ _) (by simp)

theorem all_mem (s c : Int) : c ∈ allN s 16 ↔ isC c ∧ bitV s c.toNat = true := by
  simp only [allN, List.mem_map, List.mem_filter, List.mem_range]
  constructor
  · rintro ⟨k, ⟨hk, hb⟩, rfl⟩
    exact ⟨isC_nat hk, by simpa using hb⟩
  · rintro ⟨h, hb⟩
    obtain ⟨k, hk, rfl⟩ := isC_of h
    exact ⟨k, ⟨hk, by simpa using hb⟩, rfl⟩

theorem all_in (s c : Int) : inV s c = decide (c ∈ allN s 16) := by
  unfold inV
  rw [Bool.eq_iff_iff, Bool.and_eq_true, decide_eq_true_eq, decide_eq_true_eq, all_mem]

/-- The number's lowest 64 bits have the same lowest sixteen ones. -/
theorem bit_low (s : Int) : ∀ k, k < 16 → bitV s k = (s % 18446744073709551616 / 2 ^ k % 2 == 1) := by
  intro k hk
  unfold bitV
  have : k = 0 ∨ k = 1 ∨ k = 2 ∨ k = 3 ∨ k = 4 ∨ k = 5 ∨ k = 6 ∨ k = 7 ∨ k = 8 ∨ k = 9 ∨ k = 10 ∨ k = 11 ∨ k = 12 ∨ k = 13 ∨ k = 14 ∨ k = 15 := by omega
  rcases this with rfl | rfl | rfl | rfl | rfl | rfl | rfl | rfl | rfl | rfl | rfl | rfl | rfl | rfl | rfl | rfl <;> (congr 1; simp only [Int.reducePow]; omega)

end Go.Proofs.YtdepglceffpfhaaDoor
