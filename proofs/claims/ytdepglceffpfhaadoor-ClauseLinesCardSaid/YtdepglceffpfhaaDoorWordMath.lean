/- Plain facts on texts: the pieces between bytes of one kind, the words of a line, numbers as digits. Conditions: none beyond each lemma's own premises. -/
import Derived.Test.YtdepglceffpfhaaDoorWeekMath
import Derived.Lib.AtoiAllCases
import Derived.Lib.ItoaNum
import Derived.Lib.CutLaws
import Derived.Lib.IndexLaws
namespace Go.Proofs.YtdepglceffpfhaaDoor
open Go.RowKit

/-- A word, and the place where it begins. -/
abbrev Wd := Nat × ByteArray

/-- Where the piece begins that is under way behind i bytes: pieces end at bytes c. -/
def pbeg (c : Int) (t : ByteArray) : Nat → Nat
  | 0 => 0
  | i + 1 => if bt t i = c then i + 1 else pbeg c t i

/-- The pieces that are ended behind i bytes. -/
def pdone (c : Int) (t : ByteArray) : Nat → List Wd
  | 0 => []
  | i + 1 => if bt t i = c then pdone c t i ++ [(pbeg c t i, t.extract (pbeg c t i) i)] else pdone c t i

theorem pbeg_hit {c : Int} {t : ByteArray} {i : Nat} (h : bt t i = c) : pbeg c t (i + 1) = i + 1 := by rw [pbeg, if_pos h]
theorem pbeg_miss {c : Int} {t : ByteArray} {i : Nat} (h : bt t i ≠ c) : pbeg c t (i + 1) = pbeg c t i := by rw [pbeg, if_neg h]
theorem pdone_hit {c : Int} {t : ByteArray} {i : Nat} (h : bt t i = c) : pdone c t (i + 1) = pdone c t i ++ [(pbeg c t i, t.extract (pbeg c t i) i)] := by rw [pdone, if_pos h]
theorem pdone_miss {c : Int} {t : ByteArray} {i : Nat} (h : bt t i ≠ c) : pdone c t (i + 1) = pdone c t i := by rw [pdone, if_neg h]

theorem pbeg_le (c : Int) (t : ByteArray) : ∀ i, pbeg c t i ≤ i
  | 0 => Nat.le_refl _
  | i + 1 => by
    have := pbeg_le c t i
    rw [pbeg]
    split <;> omega

/-- A piece begins at i just if i is the text's begin or stands behind a byte c. -/
theorem pbeg_here (c : Int) (t : ByteArray) : ∀ i, pbeg c t i = i ↔ i = 0 ∨ bt t (i - 1) = c
  | 0 => by simp [pbeg]
  | i + 1 => by
    have := pbeg_le c t i
    by_cases h : bt t i = c
    · simp [pbeg, h]
    · simp only [pbeg, if_neg h, Nat.add_sub_cancel]
      omega

theorem pdone_len (c : Int) (t : ByteArray) : ∀ i, (pdone c t i).length ≤ i
  | 0 => Nat.le_refl _
  | i + 1 => by
    have := pdone_len c t i
    rw [pdone]
    split
    · simp; omega
    · omega

/-- Over bytes that are no c nothing is ended. -/
theorem piece_skip {c : Int} {t : ByteArray} {i : Nat} : ∀ {d : Nat}, (∀ j, i ≤ j → j < i + d → bt t j ≠ c) → pbeg c t (i + d) = pbeg c t i ∧ pdone c t (i + d) = pdone c t i
  | 0, _ => ⟨rfl, rfl⟩
  | d + 1, h => by
    have ih := piece_skip (d := d) (fun j h1 h2 => h j h1 (by omega))
    have hn := h (i + d) (by omega) (by omega)
    rw [← Nat.add_assoc, pbeg_miss hn, pdone_miss hn]
    exact ih

theorem ext_list (t : ByteArray) (i j : Nat) : (t.extract i j).data.toList = (t.data.toList.take j).drop i := by
  simp [ByteArray.data_extract, List.drop_take]

theorem byte_list (t : ByteArray) (i : Nat) (h : i < t.size) : ∃ b, t.data.toList[i]? = some b ∧ (b.toNat : Int) = bt t i := by
  have h' : i < t.data.size := h
  refine ⟨t.data[i], by simp, ?_⟩
  unfold bt Array.getD
  rw [dif_pos h']
  rfl

theorem size_list (t : ByteArray) : t.data.toList.length = t.size := by rw [Array.length_toList]; rfl

/-- The pieces, each with the byte behind it, are the text up to the last one's end. -/
theorem join_done (cb : UInt8) (t : ByteArray) : ∀ i, i ≤ t.size → (pdone (cb.toNat : Int) t i).flatMap (fun s => s.2.data.toList ++ [cb]) = t.data.toList.take (pbeg (cb.toNat : Int) t i)
  | 0, _ => by simp [pdone, pbeg]
  | i + 1, h => by
    have ih := join_done cb t i (by omega)
    by_cases hc : bt t i = (cb.toNat : Int)
    · obtain ⟨b, hb, hbt⟩ := byte_list t i (by omega)
      have hbc : b = cb := UInt8.toNat_inj.1 (by omega)
      rw [pdone_hit hc, pbeg_hit hc, List.flatMap_append, ih, List.take_add_one, hb, hbc]
      have hle := pbeg_le (cb.toNat : Int) t i
      simp only [List.flatMap_cons, List.flatMap_nil, List.append_nil, Option.toList_some, ext_list, ← List.append_assoc]
      congr 1
      have e : List.take (pbeg (cb.toNat : Int) t i) t.data.toList = List.take (pbeg (cb.toNat : Int) t i) (List.take i t.data.toList) := by rw [List.take_take, Nat.min_eq_left hle]
      rw [e, List.take_append_drop]
    · rw [pdone_miss hc, pbeg_miss hc]
      exact ih

/-- Each piece stands where it is told. -/
theorem piece_place (c : Int) (t : ByteArray) : ∀ i, i ≤ t.size → ∀ s ∈ pdone c t i, s.1 + s.2.size ≤ i ∧ t.extract s.1 (s.1 + s.2.size) = s.2
  | 0, _, s, hs => by simp [pdone] at hs
  | i + 1, h, s, hs => by
    have ih := piece_place c t i (by omega)
    rw [pdone] at hs
    split at hs
    · rcases List.mem_append.1 hs with h1 | h1
      · have := ih s h1
        exact ⟨by omega, this.2⟩
      · have hle := pbeg_le c t i
        simp only [List.mem_singleton] at h1
        subst h1
        have hsz : (t.extract (pbeg c t i) i).size = i - pbeg c t i := by rw [ByteArray.size_extract]; omega
        simp only [hsz]
        have e : pbeg c t i + (i - pbeg c t i) = i := by omega
        rw [e]
        exact ⟨by omega, rfl⟩
    · have := ih s hs
      exact ⟨by omega, this.2⟩

/-- Texts with a blank between two. -/
def joinB : List ByteArray → List UInt8
  | [] => []
  | x :: r => x.data.toList ++ r.flatMap fun s => 32 :: s.data.toList

theorem joinB_snoc {l : List ByteArray} (x : ByteArray) (h : l ≠ []) : joinB (l ++ [x]) = joinB l ++ 32 :: x.data.toList := by
  cases l with
  | nil => exact absurd rfl h
  | cons a l => simp [joinB]

theorem joinB_flat : ∀ (l : List ByteArray) (x : ByteArray), joinB (l ++ [x]) = l.flatMap (fun s => s.data.toList ++ [32]) ++ x.data.toList
  | [], x => by simp [joinB]
  | a :: l, x => by
    have key : ∀ (l : List ByteArray), (l ++ [x]).flatMap (fun s => 32 :: s.data.toList) = 32 :: (l.flatMap (fun s => s.data.toList ++ [32]) ++ x.data.toList) := by
      intro l
      induction l with
      | nil => simp
      | cons b l ih => simp only [List.cons_append, List.flatMap_cons, ih]; simp
    simp only [List.cons_append, joinB, key]
    simp

/-- The byte at i stands wrong in a line of words. -/
def bad (t : ByteArray) (i : Nat) : Prop := bt t i < 32 ∨ 126 < bt t i ∨ (bt t i = 32 ∧ pbeg 32 t i = i)
instance (t : ByteArray) (i : Nat) : Decidable (bad t i) := by unfold bad; infer_instance

def fullW (t : ByteArray) : List Wd := pdone 32 t t.size ++ [(pbeg 32 t t.size, t.extract (pbeg 32 t t.size) t.size)]

/-- What a line is split into: its words, or the place of the byte that stands wrong. -/
def splitV (t : ByteArray) : List Wd × Nat × Int :=
  match (List.range t.size).find? fun i => decide (bad t i) with
  | some i => ([], i, 7)
  | none => if t.size = 0 then ([], 0, 0) else if pbeg 32 t t.size = t.size then ([], t.size, 7) else (fullW t, 0, 0)

theorem split_bad {t : ByteArray} {i : Nat} (h : i < t.size) (hb : bad t i) (hn : ∀ j, j < i → ¬ bad t j) : splitV t = ([], i, 7) := by
  have e : ((List.range t.size).find? fun i => decide (bad t i)) = some i := by
    rw [List.find?_range_eq_some]
    exact ⟨by simpa using hb, by simpa using h, fun j hj => by simpa using hn j hj⟩
  unfold splitV
  rw [e]

theorem find_none {t : ByteArray} (hn : ∀ j, j < t.size → ¬ bad t j) : ((List.range t.size).find? fun i => decide (bad t i)) = none := by
  rw [List.find?_eq_none]
  intro x hx
  simpa using hn x (by simpa using hx)

theorem split_empty {t : ByteArray} (h : t.size = 0) : splitV t = ([], 0, 0) := by
  unfold splitV
  rw [find_none (fun j hj => by omega)]
  simp [h]

theorem split_end {t : ByteArray} (h : t.size ≠ 0) (hn : ∀ j, j < t.size → ¬ bad t j) (he : pbeg 32 t t.size = t.size) : splitV t = ([], t.size, 7) := by
  unfold splitV
  rw [find_none hn]
  simp only [if_neg h, if_pos he]

theorem split_full {t : ByteArray} (h : t.size ≠ 0) (hn : ∀ j, j < t.size → ¬ bad t j) (he : pbeg 32 t t.size ≠ t.size) : splitV t = (fullW t, 0, 0) := by
  unfold splitV
  rw [find_none hn]
  simp only [if_neg h, if_neg he]

theorem full_len (t : ByteArray) : (fullW t).length ≤ t.size + 1 := by
  have := pdone_len 32 t t.size
  unfold fullW
  simp
  omega

theorem split_len (t : ByteArray) : (splitV t).1.length ≤ t.size + 1 := by
  unfold splitV
  split
  · simp
  · split
    · simp
    · split
      · simp
      · exact full_len t

/-- Of a line that is split: each word stands where it is told, and joined they are the line. -/
theorem full_back (t : ByteArray) : (∀ s ∈ fullW t, s.1 + s.2.size ≤ t.size ∧ t.extract s.1 (s.1 + s.2.size) = s.2) ∧ joinB ((fullW t).map (·.2)) = t.data.toList := by
  have hle := pbeg_le 32 t t.size
  constructor
  · intro s hs
    rcases List.mem_append.1 hs with h1 | h1
    · exact piece_place 32 t t.size (Nat.le_refl _) s h1
    · simp only [List.mem_singleton] at h1
      subst h1
      have hsz : (t.extract (pbeg 32 t t.size) t.size).size = t.size - pbeg 32 t t.size := by rw [ByteArray.size_extract]; omega
      simp only [hsz]
      have e : pbeg 32 t t.size + (t.size - pbeg 32 t t.size) = t.size := by omega
      rw [e]
      exact ⟨by omega, rfl⟩
  · unfold fullW
    rw [List.map_append, List.map_singleton, joinB_flat]
    have hj := join_done 32 t t.size (Nat.le_refl _)
    have e : (((32 : UInt8).toNat : Int)) = 32 := rfl
    rw [e] at hj
    rw [List.flatMap_map, hj, ext_list]
    have e2 : List.take t.size t.data.toList = t.data.toList := List.take_of_length_le (Nat.le_of_eq (size_list t))
    rw [e2, List.take_append_drop]

theorem split_back {t : ByteArray} (h : (splitV t).2.2 = 0) : (∀ s ∈ (splitV t).1, s.1 + s.2.size ≤ t.size ∧ t.extract s.1 (s.1 + s.2.size) = s.2) ∧ joinB ((splitV t).1.map (·.2)) = t.data.toList := by
  unfold splitV at h ⊢
  split
  · rename_i i e
    rw [e] at h
    simp at h
  · rename_i e
    rw [e] at h
    split
    · rename_i h0
      refine ⟨by simp, ?_⟩
      simp only [List.map_nil, joinB]
      have : t.data.toList.length = 0 := (size_list t).trans h0
      exact (List.eq_nil_of_length_eq_zero this).symm
    · rename_i h0
      simp only [if_neg h0] at h
      split
      · rename_i h1
        rw [if_pos h1] at h
        simp at h
      · exact full_back t

end Go.Proofs.YtdepglceffpfhaaDoor
