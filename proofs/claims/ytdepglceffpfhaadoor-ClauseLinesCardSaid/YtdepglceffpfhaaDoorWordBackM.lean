/- Numbers and spans are read as they were told. Conditions: none beyond each lemma's own premises. -/
import Derived.Test.YtdepglceffpfhaaDoorWordSpan
namespace Go.Proofs.YtdepglceffpfhaaDoor
open Go.RowKit

theorem number_back {n : Int} (h : 0 ≤ n) : numberV (itoaB n) n = (n, 0) := by
  obtain ⟨h1, h2⟩ := num_itoa h (itoaB_list n)
  rw [number_good h1 (by omega), h2]

theorem number_below {n m : Int} (h : n < 0) : numberV (itoaB n) m = (0, 7) :=
  number_form (num_minus (by rw [itoaB_list, itoa_neg h]))

theorem told_list (x y : Int) : (toldB x y).data.toList = Lib.itoa x ++ 45 :: Lib.itoa y := by
  unfold toldB
  rw [ByteArray.data_append, ByteArray.data_append, Array.toList_append, Array.toList_append, itoaB_list, itoaB_list]
  simp

theorem told_ahead (x y : Int) : (toldB x y).extract 0 (Lib.itoa x).length = itoaB x := by
  apply ba_ext
  rw [ext_list, told_list, itoaB_list]
  simp

theorem told_behind (x y : Int) : (toldB x y).extract ((Lib.itoa x).length + 1) (toldB x y).size = itoaB y := by
  apply ba_ext
  rw [ext_list, itoaB_list, List.take_of_length_le (Nat.le_of_eq (size_list _)), told_list]
  rw [← List.drop_drop]
  simp

theorem told_lt (x y : Int) : (Lib.itoa x).length < (toldB x y).size := by
  rw [← size_list, told_list]
  simp

theorem told_minus (x y : Int) : bt (toldB x y) (Lib.itoa x).length = 45 := by
  have h := (bt_is (told_lt x y) (c := 45)).1 (by rw [told_list]; simp)
  exact h

theorem told_digits {x : Int} (y : Int) (h : 0 ≤ x) {j : Nat} (hj : j < (Lib.itoa x).length) : bt (toldB x y) j ≠ 45 := by
  have hlt := told_lt x y
  obtain ⟨b, hb, hbt⟩ := byte_list (toldB x y) j (by omega)
  rw [told_list, List.getElem?_append_left hj] at hb
  have hm := List.mem_of_getElem? hb
  rw [itoa_pos h] at hm
  have := (dec_dig x.toNat).1 b hm
  omega

theorem told_pair {x y : Int} (h : 0 ≤ x) : spanV (toldB x y) = pairV (itoaB x) (itoaB y) := by
  rw [span_at (told_lt x y) (told_minus x y) (fun j hj => told_digits y h hj), told_ahead, told_behind]

theorem told_neg {x y : Int} (h : x < 0) : spanV (toldB x y) = (0, 0, 7) := by
  have hz : 0 < (toldB x y).size := by have := told_lt x y; omega
  have h0 : bt (toldB x y) 0 = 45 := (bt_is hz (c := 45)).1 (by rw [told_list, itoa_neg h]; rfl)
  rw [span_at hz h0 (fun j hj => by omega)]
  refine pair_form (.inl ?_)
  have e : (toldB x y).extract 0 0 = ⟨#[]⟩ := ba_ext (by rw [ext_list]; simp)
  rw [e]
  exact num_empty

/-- A span that is told is read again, if it is right and ends in time; else none is read. -/
theorem span_back (x y : Int) : (0 ≤ x ∧ x < y ∧ y ≤ 40320 ∧ spanV (toldB x y) = (x, y, 0)) ∨ (¬ (0 ≤ x ∧ x < y ∧ y ≤ 40320) ∧ ∃ g, spanV (toldB x y) = (0, 0, g) ∧ (g != 0) = true) := by
  rcases Int.lt_or_le x 0 with hx | hx
  · exact .inr ⟨by omega, 7, told_neg hx, rfl⟩
  · rw [told_pair hx]
    obtain ⟨a1, a2⟩ := num_itoa hx (itoaB_list x)
    rcases Int.lt_or_le y 0 with hy | hy
    · exact .inr ⟨by omega, 7, pair_form (.inr (num_minus (by rw [itoaB_list, itoa_neg hy]))), rfl⟩
    · obtain ⟨b1, b2⟩ := num_itoa hy (itoaB_list y)
      by_cases hf : 40320 < numV (itoaB x) ∨ 40320 < numV (itoaB y)
      · exact .inr ⟨by omega, 4, pair_far a1 b1 hf, rfl⟩
      · by_cases hs : numV (itoaB y) ≤ numV (itoaB x)
        · exact .inr ⟨by omega, 3, pair_span a1 b1 (by omega) (by omega) hs, rfl⟩
        · refine .inl ⟨by omega, by omega, by omega, ?_⟩
          rw [pair_good a1 b1 (by omega) (by omega) (by omega), a2, b2]

end Go.Proofs.YtdepglceffpfhaaDoor
