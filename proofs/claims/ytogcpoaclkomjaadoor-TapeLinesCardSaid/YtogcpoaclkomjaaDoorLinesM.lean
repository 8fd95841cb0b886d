/- Plain facts on the lines of a text. Conditions: none beyond each lemma's own premises. -/
import Derived.Test.YtogcpoaclkomjaaDoorWordNum
import Derived.Test.YtogcpoaclkomjaaDoorWordPrint
import Derived.Lib.Strings
namespace Go.Proofs.YtogcpoaclkomjaaDoor
open Go.RowKit

/-- The lines of a text, or its length where the last one is not ended. -/
def linesV (t : ByteArray) : List ByteArray × Nat × Int := if pbeg 10 t t.size = t.size then ((pdone 10 t t.size).map (·.2), 0, 0) else ([], t.size, 8)

theorem lines_good {t : ByteArray} (h : pbeg 10 t t.size = t.size) : linesV t = ((pdone 10 t t.size).map (·.2), 0, 0) := by unfold linesV; rw [if_pos h]
theorem lines_bad {t : ByteArray} (h : pbeg 10 t t.size ≠ t.size) : linesV t = ([], t.size, 8) := by unfold linesV; rw [if_neg h]

theorem lines_len (t : ByteArray) : (linesV t).1.length ≤ t.size := by
  have := pdone_len 10 t t.size
  unfold linesV
  split
  · simpa using this
  · simp

/-- A line with the byte that ends it. -/
def ended (t : ByteArray) (s : Wd) : ByteArray := t.extract s.1 (s.1 + s.2.size + 1)

/-- Behind the next line. -/
theorem line_next {t : ByteArray} {p q : Nat} (hq : q < t.size) (hpq : p ≤ q) (hp : pbeg 10 t p = p) (h10 : bt t q = 10) (hn : ∀ j, p ≤ j → j < q → bt t j ≠ 10) :
    pbeg 10 t (q + 1) = q + 1 ∧ pdone 10 t (q + 1) = pdone 10 t p ++ [(p, t.extract p q)] ∧ ended t (p, t.extract p q) = t.extract p (q + 1) := by
  have hs := piece_skip (c := 10) (t := t) (i := p) (d := q - p) (fun j h1 h2 => hn j h1 (by omega))
  have e : p + (q - p) = q := by omega
  rw [e, hp] at hs
  refine ⟨pbeg_hit h10, ?_, ?_⟩
  · rw [pdone_hit h10, hs.1, hs.2]
  · have hz : (t.extract p q).size = q - p := by rw [ByteArray.size_extract]; omega
    unfold ended
    simp only [hz]
    congr 1
    omega

/-- Where the next byte 10 is: there is one, if the text's last line is ended. -/
theorem next_end {t : ByteArray} {p : Nat} (hp : p < t.size) (hb : pbeg 10 t p = p) (he : pbeg 10 t t.size = t.size) : ∃ q, q < t.size ∧ p ≤ q ∧ bt t q = 10 ∧ ∀ j, p ≤ j → j < q → bt t j ≠ 10 := by
  have hl : bt t (t.size - 1) = 10 := by
    rcases (pbeg_here 10 t t.size).1 he with h | h
    · omega
    · exact h
  have key : ∀ d q, q = p + d → q < t.size → bt t q = 10 → ∃ q, q < t.size ∧ p ≤ q ∧ bt t q = 10 ∧ ∀ j, p ≤ j → j < q → bt t j ≠ 10 := by
    intro d
    induction d using Nat.strongRecOn with
    | _ d ih =>
      intro q hq h1 h2
      by_cases hx : ∃ j, p ≤ j ∧ j < q ∧ bt t j = 10
      · obtain ⟨j, j1, j2, j3⟩ := hx
        exact ih (j - p) (by omega) j (by omega) (by omega) j3
      · exact ⟨q, h1, by omega, h2, fun j j1 j2 j3 => hx ⟨j, j1, j2, j3⟩⟩
  exact key (t.size - 1 - p) (t.size - 1) (by omega) (by omega) hl

theorem ext_all (t : ByteArray) (p : Nat) {j : Nat} (hj : j < t.size - p) : (t.extract p t.size).data.toList[j]? = t.data.toList[p + j]? := by
  rw [ext_list, List.getElem?_drop, List.getElem?_take_of_lt (by omega)]

/-- The place of the first byte 10 of what is left. -/
theorem index_next {t : ByteArray} {p q : Nat} (hq : q < t.size) (hpq : p ≤ q) (h10 : bt t q = 10) (hn : ∀ j, p ≤ j → j < q → bt t j ≠ 10) : Lib.indexByte (t.extract p t.size).data.toList 10 = ((q - p : Nat) : Int) := by
  have hge := Lib.indexByte_ge (t.extract p t.size).data.toList 10
  have hat : (t.extract p t.size).data.toList[q - p]? = some 10 := by
    rw [ext_all t p (by omega), show p + (q - p) = q by omega]
    exact (bt_is hq).2 h10
  by_cases h1 : Lib.indexByte (t.extract p t.size).data.toList 10 = -1
  · exact absurd hat (Lib.indexByte_none h1 (q - p))
  · obtain ⟨o, ho⟩ : ∃ o : Nat, Lib.indexByte (t.extract p t.size).data.toList 10 = o := ⟨(Lib.indexByte (t.extract p t.size).data.toList 10).toNat, by omega⟩
    obtain ⟨h2, h3⟩ := Lib.indexByte_some ho
    rw [ho]
    rcases Nat.lt_trichotomy o (q - p) with h | h | h
    · exfalso
      rw [ext_all t p (by omega)] at h2
      exact hn (p + o) (by omega) (by omega) ((bt_is (by omega)).1 h2)
    · rw [h]
    · exact absurd hat (h3 (q - p) h)

theorem ext_head {t : ByteArray} {p q : Nat} (hpq : p ≤ q) : (t.extract p t.size).extract 0 (q - p + 1) = t.extract p (q + 1) := by
  apply ba_ext
  have e : List.take t.size t.data.toList = t.data.toList := List.take_of_length_le (Nat.le_of_eq (size_list t))
  rw [ext_list, ext_list, ext_list, List.drop_zero, e, List.take_drop]
  congr 2
  omega

theorem ext_tail {t : ByteArray} {p q : Nat} (hpq : p ≤ q) : (t.extract p t.size).extract (q - p + 1) (t.extract p t.size).size = t.extract (q + 1) t.size := by
  apply ba_ext
  rw [ext_list, List.take_of_length_le (Nat.le_of_eq (size_list _)), ext_list, ext_list, List.drop_drop]
  congr 1
  omega

/-- Whether the text ends with a byte 10. -/
theorem suffix_is {t : ByteArray} (h : t.size ≠ 0) : Lib.hasSuffix t.data.toList [10] = decide (pbeg 10 t t.size = t.size) := by
  have hl : t.data.toList ≠ [] := fun e => h (by rw [← size_list, e]; rfl)
  have key : Lib.hasSuffix t.data.toList [10] = true ↔ pbeg 10 t t.size = t.size := by
    rw [pbeg_here]
    unfold Lib.hasSuffix
    rw [List.isSuffixOf_iff_suffix]
    have hlt : t.size - 1 < t.size := by omega
    rw [show bt t (t.size - 1) = 10 ↔ t.data.toList[t.size - 1]? = some 10 from (bt_is hlt (c := 10)).symm]
    constructor
    · rintro ⟨r, hr⟩
      right
      have hz : r.length + 1 = t.size := by rw [← size_list, ← hr]; simp
      rw [← hr, show t.size - 1 = r.length by omega]
      simp
    · rintro (h0 | h0)
      · exact absurd h0 h
      · have hz : t.data.toList.length = t.size := size_list t
        refine ⟨t.data.toList.dropLast, ?_⟩
        have := List.dropLast_concat_getLast hl
        rw [List.getLast_eq_getElem] at this
        have e : t.data.toList[t.data.toList.length - 1]'(by omega) = 10 := by
          have h1 := h0
          rw [List.getElem?_eq_getElem (by omega)] at h1
          exact Option.some.inj (by simpa only [hz] using h1)
        rw [e] at this
        exact this
  by_cases hc : pbeg 10 t t.size = t.size
  · rw [key.2 hc, decide_eq_true hc]
  · rw [decide_eq_false hc]
    exact Bool.eq_false_iff.2 (fun h => hc (key.1 h))

end Go.Proofs.YtogcpoaclkomjaaDoor
