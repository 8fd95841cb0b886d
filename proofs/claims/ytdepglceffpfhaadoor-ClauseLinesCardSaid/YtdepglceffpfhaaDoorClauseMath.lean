/- A finding's line in plain words, and what a line is parsed as. Conditions: none beyond each lemma's own premises. -/
import Derived.Test.YtdepglceffpfhaaDoorToldMath
import Derived.Test.YtdepglceffpfhaaDoorClauseNm
import Derived.Test.YtdepglceffpfhaaDoorRecMath
namespace Go.Proofs.YtdepglceffpfhaaDoor
open Go.RowKit

/-! ### Lines -/

/-- The line of a finding that has one. -/
def findB (c x y : Int) : ByteArray := ((((artW ++ artV c) ++ ⟨#[32]⟩) ++ nameV c) ++ ⟨#[32]⟩) ++ toldB x y

def err15 (c x y : Int) : Int := if ¬ isC c then 13 else if y ≤ x then 3 else if x < 0 ∨ 40320 < y then 4 else 0

def line15V (c x y : Int) : ByteArray × Int := if err15 c x y = 0 then (findB c x y, 0) else (⟨#[]⟩, err15 c x y)

theorem err15_none {c x y : Int} (h : ¬ isC c) : err15 c x y = 13 := if_pos h
theorem err15_span {c x y : Int} (h : isC c) (h2 : y ≤ x) : err15 c x y = 3 := by unfold err15; rw [if_neg (fun n => n h), if_pos h2]
theorem err15_range {c x y : Int} (h : isC c) (h2 : ¬ y ≤ x) (h3 : x < 0 ∨ 40320 < y) : err15 c x y = 4 := by unfold err15; rw [if_neg (fun n => n h), if_neg h2, if_pos h3]
theorem err15_ok {c x y : Int} (h : isC c) (h2 : ¬ y ≤ x) (h3 : ¬ (x < 0 ∨ 40320 < y)) : err15 c x y = 0 := by unfold err15; rw [if_neg (fun n => n h), if_neg h2, if_neg h3]
theorem err15_zero {c x y : Int} (h : err15 c x y = 0) : isC c ∧ 0 ≤ x ∧ x < y ∧ y ≤ 40320 := by
  unfold err15 at h
  split at h
  · cases h
  · rename_i h1
    split at h
    · cases h
    · split at h
      · cases h
      · exact ⟨Classical.not_not.1 h1, by omega, by omega, by omega⟩
theorem line15_good {c x y : Int} (h : err15 c x y = 0) : line15V c x y = (findB c x y, 0) := if_pos h
theorem line15_wrong {c x y e : Int} (h : err15 c x y = e) (he : e ≠ 0) : line15V c x y = (⟨#[]⟩, e) := by subst h; exact if_neg he

theorem find_join (c x y : Int) : joinB [artW ++ artV c, nameV c, toldB x y] = (findB c x y).data.toList := by
  unfold findB
  simp [joinB, ByteArray.data_append]

theorem find_size {c x y : Int} (hx0 : -9223372036854775808 ≤ x) (hx1 : x ≤ 9223372036854775807) (hy0 : -9223372036854775808 ≤ y) (hy1 : y ≤ 9223372036854775807) : (artV c).size ≤ 4 ∧ (nameV c).size ≤ 9 ∧ (findB c x y).size ≤ 70 := by
  have h1 := itoaB_size hx0 hx1
  have h2 := itoaB_size hy0 hy1
  have ha : (artV c).size ≤ 4 := by
    unfold artV
    split
    · rename_i h
      obtain ⟨k, hk, rfl⟩ := isC_of h
      exact ar_size k hk
    · exact Nat.zero_le _
  have hn : (nameV c).size ≤ 9 := by
    unfold nameV
    split
    · rename_i h
      obtain ⟨k, hk, rfl⟩ := isC_of h
      exact (nm_size k hk).2
    · exact Nat.zero_le _
  refine ⟨ha, hn, ?_⟩
  unfold findB toldB
  simp only [ByteArray.size_append]
  have e1 : (⟨#[32]⟩ : ByteArray).size = 1 := rfl
  have e2 : (⟨#[45]⟩ : ByteArray).size = 1 := rfl
  have e3 : artW.size = 4 := rfl
  omega

/-- What a line is parsed as: the finding, or the error. -/
noncomputable def parse15V (s : ByteArray) : Rc × Int :=
  match (splitV s).1 with
  | [a, b, c] => if 0 ≤ findV b.2 ∧ (spanV c.2).2.2 = 0 ∧ a.2 = artW ++ artV (findV b.2) then ((findV b.2, (spanV c.2).1, (spanV c.2).2.1), 0) else (rz, 7)
  | _ => (rz, 7)

theorem three_words {α : Type} {l : List α} (h : l.length = 3) : ∃ a b c, l = [a, b, c] := by
  match l, h with
  | [a, b, c], _ => exact ⟨a, b, c, rfl⟩

theorem parse15_len {s : ByteArray} (h : (splitV s).1.length ≠ 3) : parse15V s = (rz, 7) := by
  unfold parse15V
  split
  · rename_i e; rw [e] at h; exact absurd rfl h
  · rfl

theorem parse15_at {s : ByteArray} {a b c : Wd} (h : (splitV s).1 = [a, b, c]) : parse15V s = if 0 ≤ findV b.2 ∧ (spanV c.2).2.2 = 0 ∧ a.2 = artW ++ artV (findV b.2) then ((findV b.2, (spanV c.2).1, (spanV c.2).2.1), 0) else (rz, 7) := by
  unfold parse15V
  rw [h]

theorem parse15_bad {s : ByteArray} {a b c : Wd} (h : (splitV s).1 = [a, b, c]) (h2 : ¬ (0 ≤ findV b.2 ∧ (spanV c.2).2.2 = 0 ∧ a.2 = artW ++ artV (findV b.2))) : parse15V s = (rz, 7) := by rw [parse15_at h, if_neg h2]
theorem parse15_good {s : ByteArray} {a b c : Wd} {k : Nat} (h : (splitV s).1 = [a, b, c]) (hf : findN b.2 = some k) (hs : (spanV c.2).2.2 = 0) (ha : a.2 = artW ++ arB k) : parse15V s = (((k : Int), (spanV c.2).1, (spanV c.2).2.1), 0) := by
  rw [parse15_at h, fnd_some hf, if_pos ⟨by omega, hs, by rw [art_yes (fnd_is hf).1]; exact ha⟩]

theorem split_three0 {s : ByteArray} (h : (splitV s).1.length = 3) : (splitV s).2.2 = 0 := by
  revert h
  unfold splitV
  split
  · intro h; simp at h
  · split
    · intro h; simp at h
    · split
      · intro h; simp at h
      · intro _; rfl

/-- Three words with a blank between two are split into them. -/
theorem split_three {a b d : ByteArray} (ha : a.size ≠ 0) (hb : b.size ≠ 0) (hd : d.size ≠ 0) (wa : ∀ c ∈ a.data.toList, 33 ≤ c.toNat ∧ c.toNat ≤ 126) (wb : ∀ c ∈ b.data.toList, 33 ≤ c.toNat ∧ c.toNat ≤ 126) (wd : ∀ c ∈ d.data.toList, 33 ≤ c.toNat ∧ c.toNat ≤ 126) :
    splitV ((((a ++ ⟨#[32]⟩) ++ b) ++ ⟨#[32]⟩) ++ d) = ([(0, a), (a.size + 1, b), (a.size + 1 + b.size + 1, d)], 0, 0) := by
  obtain ⟨s, hs⟩ : ∃ s, (((a ++ ⟨#[32]⟩) ++ b) ++ ⟨#[32]⟩) ++ d = s := ⟨_, rfl⟩
  rw [hs]
  have hlist : s.data.toList = a.data.toList ++ (32 :: (b.data.toList ++ (32 :: d.data.toList))) := by
    rw [← hs]; simp [ByteArray.data_append]
  have la := size_list a
  have lb := size_list b
  have ld := size_list d
  have hz : s.size = a.size + 1 + b.size + 1 + d.size := by
    rw [← size_list s, hlist]; simp only [List.length_append, List.length_cons, la, lb, ld]; omega
  have at1 : ∀ j, j < a.size → s.data.toList[j]? = a.data.toList[j]? := fun j hj => by rw [hlist, List.getElem?_append_left (by omega)]
  have at2 : ∀ j, j < b.size → s.data.toList[a.size + 1 + j]? = b.data.toList[j]? := fun j hj => by
    rw [hlist, List.getElem?_append_right (by omega), la, show a.size + 1 + j - a.size = j + 1 by omega, List.getElem?_cons_succ, List.getElem?_append_left (by omega)]
  have at3 : ∀ j, j < d.size → s.data.toList[a.size + 1 + b.size + 1 + j]? = d.data.toList[j]? := fun j hj => by
    rw [hlist, List.getElem?_append_right (by omega), la, show a.size + 1 + b.size + 1 + j - a.size = (b.size + 1 + j) + 1 by omega, List.getElem?_cons_succ, List.getElem?_append_right (by omega), lb, show b.size + 1 + j - b.size = j + 1 by omega, List.getElem?_cons_succ]
  have f1 : ∀ j, j < a.size → 33 ≤ bt s j ∧ bt s j ≤ 126 := by
    intro j hj
    obtain ⟨c, hc, hct⟩ := byte_list s j (by omega)
    rw [at1 j hj] at hc
    have := wa c (List.mem_of_getElem? hc)
    omega
  have f2 : bt s a.size = 32 := (bt_is (s := s) (i := a.size) (by omega) (c := 32)).1 (by rw [hlist, List.getElem?_append_right (by omega), la]; simp)
  have f3 : ∀ j, a.size < j → j < a.size + 1 + b.size → 33 ≤ bt s j ∧ bt s j ≤ 126 := by
    intro j h1 h2
    obtain ⟨c, hc, hct⟩ := byte_list s j (by omega)
    obtain ⟨t, rfl⟩ : ∃ t, j = a.size + 1 + t := ⟨j - (a.size + 1), by omega⟩
    rw [at2 t (by omega)] at hc
    have := wb c (List.mem_of_getElem? hc)
    omega
  have f4 : bt s (a.size + 1 + b.size) = 32 := (bt_is (s := s) (i := a.size + 1 + b.size) (by omega) (c := 32)).1 (by
    rw [hlist, List.getElem?_append_right (by omega), la, show a.size + 1 + b.size - a.size = b.size + 1 by omega, List.getElem?_cons_succ, List.getElem?_append_right (by omega), lb]; simp)
  have f5 : ∀ j, a.size + 1 + b.size < j → j < s.size → 33 ≤ bt s j ∧ bt s j ≤ 126 := by
    intro j h1 h2
    obtain ⟨c, hc, hct⟩ := byte_list s j h2
    obtain ⟨t, rfl⟩ : ∃ t, j = a.size + 1 + b.size + 1 + t := ⟨j - (a.size + 1 + b.size + 1), by omega⟩
    rw [at3 t (by omega)] at hc
    have := wd c (List.mem_of_getElem? hc)
    omega
  have p1 := piece_skip (c := 32) (t := s) (i := 0) (d := a.size) (fun j _ hj => by have := f1 j (by omega); omega)
  rw [Nat.zero_add] at p1
  have p2 : pbeg 32 s (a.size + 1) = a.size + 1 := pbeg_hit f2
  have p3 : pdone 32 s (a.size + 1) = [(0, s.extract 0 a.size)] := by rw [pdone_hit f2, p1.1, p1.2]; rfl
  have p4 := piece_skip (c := 32) (t := s) (i := a.size + 1) (d := b.size) (fun j h1 h2 => by have := f3 j (by omega) (by omega); omega)
  rw [p2, p3] at p4
  have p5 : pbeg 32 s (a.size + 1 + b.size + 1) = a.size + 1 + b.size + 1 := pbeg_hit f4
  have p6 : pdone 32 s (a.size + 1 + b.size + 1) = [(0, s.extract 0 a.size), (a.size + 1, s.extract (a.size + 1) (a.size + 1 + b.size))] := by rw [pdone_hit f4, p4.1, p4.2]; rfl
  have p7 := piece_skip (c := 32) (t := s) (i := a.size + 1 + b.size + 1) (d := d.size) (fun j h1 h2 => by have := f5 j (by omega) (by omega); omega)
  rw [← hz, p5, p6] at p7
  have nb : ∀ j, j < s.size → ¬ bad s j := by
    intro j hj hbad
    unfold bad at hbad
    by_cases h1 : j < a.size
    · have := f1 j h1; omega
    · by_cases h2 : j = a.size
      · subst h2
        rw [p1.1, f2] at hbad
        have : pbeg 32 s 0 = 0 := rfl
        omega
      · by_cases h3 : j < a.size + 1 + b.size
        · have := f3 j (by omega) h3; omega
        · by_cases h4 : j = a.size + 1 + b.size
          · rw [h4, p4.1, f4] at hbad
            omega
          · have := f5 j (by omega) hj; omega
  rw [split_full (by omega) nb (by rw [p7.1]; omega)]
  unfold fullW
  rw [p7.1, p7.2]
  have e1 : s.extract 0 a.size = a := ba_ext (by rw [ext_list, hlist]; simp [la])
  have e2 : s.extract (a.size + 1) (a.size + 1 + b.size) = b := ba_ext (by
    apply List.ext_getElem?
    intro j
    rw [ext_list, List.getElem?_drop]
    by_cases hj : j < b.size
    · rw [List.getElem?_take_of_lt (by omega), at2 j hj]
    · rw [List.getElem?_eq_none (by rw [List.length_take]; omega), List.getElem?_eq_none (by omega)])
  have e3 : s.extract (a.size + 1 + b.size + 1) s.size = d := ba_ext (by
    apply List.ext_getElem?
    intro j
    rw [ext_list, List.getElem?_drop]
    by_cases hj : j < d.size
    · rw [List.getElem?_take_of_lt (by omega), at3 j hj]
    · rw [List.getElem?_eq_none (by rw [List.length_take]; omega), List.getElem?_eq_none (by omega)])
  rw [e1, e2, e3]
  rfl

/-- A finding's line is parsed as it. -/
theorem parse_find {c x y : Int} (h : err15 c x y = 0) : parse15V (findB c x y) = ((c, x, y), 0) := by
  obtain ⟨hc, hx, hxy, hy⟩ := err15_zero h
  obtain ⟨k, hk, rfl⟩ := isC_of hc
  have ns := nm_size k hk
  have hs := split_three (a := artW ++ arB k) (b := nmB k) (d := toldB x y) (by rw [ByteArray.size_append]; show 4 + _ ≠ 0; omega) ns.1 (told_size x y) (ar_clean k hk) (nm_clean k hk) (told_bytes hx (by omega))
  have e : findB (k : Int) x y = ((((artW ++ arB k) ++ ⟨#[32]⟩) ++ nmB k) ++ ⟨#[32]⟩) ++ toldB x y := by unfold findB; rw [name_yes hk, art_yes hk]
  rw [← e] at hs
  have hsp : spanV (toldB x y) = (x, y, 0) := by
    rcases span_back x y with ⟨_, _, _, h⟩ | ⟨h, _⟩
    · exact h
    · exact absurd ⟨hx, hxy, hy⟩ h
  have := parse15_good (s := findB (k : Int) x y) (by rw [hs]) (fnd_nm k hk) (by rw [hsp]) rfl
  rw [this, hsp]

end Go.Proofs.YtdepglceffpfhaaDoor
