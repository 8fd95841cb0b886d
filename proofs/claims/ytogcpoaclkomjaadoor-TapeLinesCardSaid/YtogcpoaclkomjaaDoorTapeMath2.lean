/- Plain facts on the text of a timeline: what it is, what a text is parsed as, and that both come back. Conditions: none beyond each lemma's own premises. -/
import Derived.Test.YtogcpoaclkomjaaDoorTapeMath
namespace Go.Proofs.YtogcpoaclkomjaaDoor
open Go.RowKit

/-! ### Of a list of records the last one -/

theorem getD_app_left {o r : List Rc} {j : Nat} (h : j < o.length) : (o ++ r).getD j rz = o.getD j rz := by
  rw [List.getD_eq_getElem?_getD, List.getD_eq_getElem?_getD, List.getElem?_append_left h]

theorem getD_app_last (o : List Rc) (r : Rc) : (o ++ [r]).getD o.length rz = r := by
  rw [List.getD_eq_getElem?_getD, List.getElem?_append_right (Nat.le_refl _), Nat.sub_self]; rfl

theorem fault_app {o r : List Rc} {j : Nat} (h : j < o.length) : faultV (o ++ r) j = faultV o j := by
  unfold faultV
  rw [getD_app_left h, getD_app_left (j := j - 1) (by omega)]

/-- What is wrong with the last record, where those ahead of it are a timeline. -/
theorem check_app {o : List Rc} {r : Rc} (h : ∀ j, j < o.length → faultV o j = 0) : (checkV (o ++ [r])).2 = faultV (o ++ [r]) o.length := by
  by_cases e : faultV (o ++ [r]) o.length = 0
  · rw [check_ok (fun j hj => ?_), e]
    rw [List.length_append, List.length_singleton] at hj
    by_cases hj' : j = o.length
    · subst hj'; exact e
    · rw [fault_app (by omega)]; exact h j (by omega)
  · rw [check_bad (k := o.length) (by simp) (fun j hj => by rw [fault_app hj]; exact h j hj) rfl e]

theorem drop_two {l : List Rc} (h : 2 ≤ l.length) : ∃ o a r, l = o ++ [a, r] ∧ l.drop (l.length - 2) = [a, r] := by
  have hd : (l.drop (l.length - 2)).length = 2 := by rw [List.length_drop]; omega
  obtain ⟨a, r, har⟩ := two_words hd
  exact ⟨l.take (l.length - 2), a, r, by rw [← har, List.take_append_drop], har⟩

/-- To look at the last two is enough. -/
theorem check_last {o : List Rc} {r : Rc} (h : ∀ j, j < o.length → faultV o j = 0) : (checkV ((o ++ [r]).drop ((o ++ [r]).length - 2))).2 = faultV (o ++ [r]) o.length := by
  rcases List.eq_nil_or_concat o with h0 | ⟨o', a, h0⟩
  · subst h0
    exact check_app (o := []) (fun j hj => by cases hj)
  · rw [List.concat_eq_append] at h0
    subst h0
    have e1 : (o' ++ [a] ++ [r]).drop ((o' ++ [a] ++ [r]).length - 2) = [a] ++ [r] := by
      rw [List.append_assoc, List.drop_left']
      simp
    have ha : faultV (o' ++ [a]) o'.length = 0 := h o'.length (by simp)
    have hal := fault_ok ha
    rw [getD_app_last] at hal
    rw [e1, check_app (o := [a]) (fun j hj => by
      obtain rfl : j = 0 := by simp at hj; exact hj
      rw [fault_first (x := a.1) (y := a.2.1) (z := a.2.2) rfl]; exact hal)]
    have hl : (o' ++ [a]).length = o'.length + 1 := by simp
    rw [hl]
    have g1 : (o' ++ [a] ++ [r]).getD (o'.length + 1) rz = r := by rw [← hl]; exact getD_app_last _ _
    have g2 : (o' ++ [a] ++ [r]).getD o'.length rz = a := by rw [getD_app_left (by rw [hl]; omega)]; exact getD_app_last _ _
    have g3 : ([a] ++ [r]).getD [a].length rz = r := rfl
    have g4 : ([a] ++ [r]).getD ([a].length - 1) rz = a := rfl
    unfold faultV
    rw [g1, show o'.length + 1 - 1 = o'.length by omega, g2, g3, g4]
    by_cases hr : aloneV r.1 r.2.1 r.2.2 = 0
    · rw [if_pos ⟨hr, by simp⟩, if_pos ⟨hr, by omega⟩]
    · rw [if_neg (fun c => hr c.1), if_neg (fun c => hr c.1)]

/-! ### Of a list of lines the records -/

noncomputable def recsOf (ls : List ByteArray) : List Rc := ls.map fun s => (readV s).1

theorem recs_len (ls : List ByteArray) : (recsOf ls).length = ls.length := by simp [recsOf]

theorem recs_at {ls : List ByteArray} {k : Nat} {s : ByteArray} (hk : k < ls.length) (hs : ls.getD k ⟨#[]⟩ = s) : (recsOf ls).getD k rz = (readV s).1 := by
  subst hs
  rw [List.getD_eq_getElem?_getD, List.getD_eq_getElem?_getD]
  unfold recsOf
  rw [List.getElem?_map, List.getElem?_eq_getElem hk]
  rfl

theorem recs_take {ls : List ByteArray} {k : Nat} {s : ByteArray} (hk : k < ls.length) (hs : ls.getD k ⟨#[]⟩ = s) : (recsOf ls).take (k + 1) = (recsOf ls).take k ++ [(readV s).1] := by
  have hk' : k < (recsOf ls).length := by rw [recs_len]; exact hk
  rw [List.take_succ_eq_append_getElem hk']
  congr 2
  have := recs_at hk hs
  rw [List.getD_eq_getElem?_getD, List.getElem?_eq_getElem hk'] at this
  exact this

/-- What is wrong with the line at k. -/
noncomputable def lineErr (ls : List ByteArray) (k : Nat) : Int := if (readV (ls.getD k ⟨#[]⟩)).2 = 0 then faultV (recsOf ls) k else (readV (ls.getD k ⟨#[]⟩)).2

def placeL (ls : List ByteArray) (k : Nat) : Nat := ((ls.take k).map fun s => s.size + 1).sum

theorem place_zero (ls : List ByteArray) : placeL ls 0 = 0 := by simp [placeL]

theorem place_more {ls : List ByteArray} {k : Nat} {s : ByteArray} (hk : k < ls.length) (hs : ls.getD k ⟨#[]⟩ = s) : placeL ls (k + 1) = placeL ls k + (s.size + 1) := by
  unfold placeL
  rw [List.take_succ_eq_append_getElem hk, List.map_append, List.sum_append]
  rw [List.getD_eq_getElem?_getD, List.getElem?_eq_getElem hk] at hs
  simp at hs
  simp [hs]

theorem ended_len (ls : List ByteArray) : (endedL ls).length = (ls.map fun s => s.size + 1).sum := by
  induction ls with
  | nil => rfl
  | cons s ls ih =>
    have e : endedL (s :: ls) = (s.data.toList ++ [10]) ++ endedL ls := rfl
    rw [e, List.length_append, List.length_append, size_list, ih]
    simp

theorem place_le (ls : List ByteArray) (k : Nat) : placeL ls k ≤ (endedL ls).length := by
  have e : ls = ls.take k ++ ls.drop k := (List.take_append_drop k ls).symm
  have h : endedL ls = endedL (ls.take k) ++ endedL (ls.drop k) := by
    conv => lhs; rw [e]
    unfold endedL; rw [List.flatMap_append]
  rw [h, List.length_append, ended_len (ls.take k)]
  exact Nat.le_add_right _ _

theorem line_le {ls : List ByteArray} {k : Nat} {s : ByteArray} (hk : k < ls.length) (hs : ls.getD k ⟨#[]⟩ = s) : s.size ≤ (endedL ls).length := by
  have := place_le ls (k + 1)
  rw [place_more hk hs] at this
  omega

/-- What is read of the lines. -/
noncomputable def readAll (ls : List ByteArray) : List Rc × Nat × Int :=
  match (List.range ls.length).find? (fun k => lineErr ls k != 0) with | none => (recsOf ls, 0, 0) | some k => ([], placeL ls k, lineErr ls k)

theorem all_good {ls : List ByteArray} (h : ∀ j, j < ls.length → lineErr ls j = 0) : readAll ls = (recsOf ls, 0, 0) := by
  unfold readAll
  have e : (List.range ls.length).find? (fun k => lineErr ls k != 0) = none := by
    rw [List.find?_eq_none]
    intro j hj
    simp [h j (by simpa using hj)]
  rw [e]

theorem all_bad {ls : List ByteArray} {k : Nat} {e : Int} (hk : k < ls.length) (h : ∀ j, j < k → lineErr ls j = 0) (he : lineErr ls k = e) (hne : e ≠ 0) : readAll ls = ([], placeL ls k, e) := by
  have e1 : (List.range ls.length).find? (fun j => lineErr ls j != 0) = some k := by
    rw [List.find?_range_eq_some]
    refine ⟨by simp [he, hne], by simpa using hk, fun j hj => by simp [h j hj]⟩
  unfold readAll
  rw [e1, ← he]

theorem all_zero {ls : List ByteArray} (h : (readAll ls).2.2 = 0) : ∀ j, j < ls.length → lineErr ls j = 0 := by
  intro j hj
  rcases hf : (List.range ls.length).find? (fun k => lineErr ls k != 0) with _ | k
  · rw [List.find?_eq_none] at hf
    have := hf j (by simpa using hj)
    simpa using this
  · have hk := hf
    rw [List.find?_range_eq_some] at hk
    unfold readAll at h
    rw [hf] at h
    have := hk.1
    simp at this h
    exact absurd h this

theorem err_read {ls : List ByteArray} {k : Nat} {s : ByteArray} (hs : ls.getD k ⟨#[]⟩ = s) (h : (readV s).2 ≠ 0) : lineErr ls k = (readV s).2 := by
  subst hs; unfold lineErr; rw [if_neg h]
theorem err_fault {ls : List ByteArray} {k : Nat} {s : ByteArray} (hs : ls.getD k ⟨#[]⟩ = s) (h : (readV s).2 = 0) : lineErr ls k = faultV (recsOf ls) k := by
  subst hs; unfold lineErr; rw [if_pos h]
theorem err_zero {ls : List ByteArray} {k : Nat} (h : lineErr ls k = 0) : (readV (ls.getD k ⟨#[]⟩)).2 = 0 ∧ faultV (recsOf ls) k = 0 := by
  unfold lineErr at h
  split at h
  · rename_i c; exact ⟨c, h⟩
  · rename_i c; exact absurd h c

theorem fault_take {l : List Rc} {j k : Nat} (hj : j < k) (hk : k ≤ l.length) : faultV (l.take k) j = faultV l j := by
  have e : l = l.take k ++ l.drop k := (List.take_append_drop k l).symm
  conv => rhs; rw [e]
  exact (fault_app (by rw [List.length_take]; omega)).symm

/-- Of the records that are read up to k: the last one's fault, and that it is enough to look at the last two. -/
theorem took_check {ls : List ByteArray} {k : Nat} {s : ByteArray} (hk : k < ls.length) (hs : ls.getD k ⟨#[]⟩ = s) (h : ∀ j, j < k → lineErr ls j = 0) :
    (checkV ((recsOf ls).take k ++ [(readV s).1])).2 = faultV (recsOf ls) k ∧ (checkV (((recsOf ls).take k ++ [(readV s).1]).drop (((recsOf ls).take k ++ [(readV s).1]).length - 2))).2 = faultV (recsOf ls) k := by
  have hl : ((recsOf ls).take k).length = k := by rw [List.length_take, recs_len]; omega
  have h0 : ∀ j, j < ((recsOf ls).take k).length → faultV ((recsOf ls).take k) j = 0 := by
    intro j hj
    rw [hl] at hj
    rw [fault_take hj (by rw [recs_len]; omega)]
    exact (err_zero (h j hj)).2
  have e : faultV ((recsOf ls).take k ++ [(readV s).1]) ((recsOf ls).take k).length = faultV (recsOf ls) k := by
    rw [hl, ← recs_take hk hs]
    exact fault_take (by omega) (by rw [recs_len]; omega)
  exact ⟨(check_app h0).trans e, (check_last h0).trans e⟩

/-! ### Texts -/

/-- The text of a timeline. -/
def lineR (r : Rc) : ByteArray := lineB r.1 r.2.1 r.2.2
def textL (l : List Rc) : List UInt8 := endedL (l.map lineR)

theorem text_nil : textL [] = [] := rfl
theorem text_take {l : List Rc} {k : Nat} {x y z : Int} (hk : k < l.length) (hr : l.getD k rz = (x, y, z)) : textL (l.take (k + 1)) = textL (l.take k) ++ (lineB x y z).data.toList ++ [10] := by
  rw [List.take_succ_eq_append_getElem hk]
  rw [List.getD_eq_getElem?_getD, List.getElem?_eq_getElem hk] at hr
  simp at hr
  rw [hr]
  simp [textL, endedL, lineR]

def printV (l : List Rc) : ByteArray × Int := if (checkV l).2 = 0 then (⟨(textL l).toArray⟩, 0) else (⟨#[]⟩, (checkV l).2)

theorem print_ok {l : List Rc} (h : (checkV l).2 = 0) : printV l = (⟨(textL l).toArray⟩, 0) := if_pos h
theorem print_bad {l : List Rc} (h : (checkV l).2 ≠ 0) : printV l = (⟨#[]⟩, (checkV l).2) := if_neg h

noncomputable def tapeV (t : ByteArray) : List Rc × Nat × Int := if (linesV t).2.2 = 0 then readAll (linesV t).1 else ([], (linesV t).2.1, (linesV t).2.2)

theorem tape_lines {t : ByteArray} (h : (linesV t).2.2 = 0) : tapeV t = readAll (linesV t).1 := if_pos h
theorem tape_bad {t : ByteArray} (h : (linesV t).2.2 ≠ 0) : tapeV t = ([], (linesV t).2.1, (linesV t).2.2) := if_neg h

theorem line_clean {k x y : Int} (h : aloneV k x y = 0) : (10 : UInt8) ∉ (lineB k x y).data.toList := by
  obtain ⟨hk, hx, hxy, hy⟩ := alone_zero.1 h
  have hl := ltB_nat hk.1 hk.2
  have ht := told_bytes hx (by omega : 0 ≤ y)
  rw [line_list]
  intro hm
  have e10 : (10 : UInt8).toNat = 10 := rfl
  rcases List.mem_cons.1 hm with h1 | h1
  · rw [← h1, e10] at hl; omega
  · rcases List.mem_cons.1 h1 with h2 | h2
    · cases h2
    · have := ht 10 h2; omega

theorem getD_mem {l : List Rc} {r : Rc} (h : r ∈ l) : ∃ j, j < l.length ∧ l.getD j rz = r := by
  obtain ⟨j, hj, rfl⟩ := List.getElem_of_mem h
  exact ⟨j, hj, by rw [List.getD_eq_getElem?_getD, List.getElem?_eq_getElem hj]; rfl⟩

/-- A timeline's text is parsed as it. -/
theorem parse_print {l : List Rc} (h : (checkV l).2 = 0) : tapeV ⟨(textL l).toArray⟩ = (l, 0, 0) := by
  have hf := check_zero h
  have hal : ∀ r ∈ l, aloneV r.1 r.2.1 r.2.2 = 0 := by
    intro r hr
    obtain ⟨j, hj, hjr⟩ := getD_mem hr
    have := fault_ok (hf j hj)
    rw [hjr] at this
    exact this
  have hlines : linesV ⟨(textL l).toArray⟩ = (l.map lineR, 0, 0) := by
    refine lines_of (fun s hs => ?_) (by simp [textL])
    obtain ⟨r, hr, rfl⟩ := List.mem_map.1 hs
    exact line_clean (hal r hr)
  have hread : ∀ r ∈ l, readV (lineR r) = (r, 0) := fun r hr => read_line (hal r hr)
  have hrecs : recsOf (l.map lineR) = l := by
    unfold recsOf
    rw [List.map_map]
    conv => rhs; rw [← List.map_id l]
    exact List.map_congr_left fun r hr => by simp [Function.comp, hread r hr]
  rw [tape_lines (by rw [hlines]), hlines, all_good, hrecs]
  intro j hj
  rw [List.length_map] at hj
  have hj' : (l.map lineR).getD j ⟨#[]⟩ = lineR (l[j]) := by
    rw [List.getD_eq_getElem?_getD, List.getElem?_map, List.getElem?_eq_getElem hj]; rfl
  rw [err_fault hj' (by rw [hread _ (List.getElem_mem hj)]), hrecs]
  exact hf j hj

/-- What is parsed is printed as it was. -/
theorem print_parse {t : ByteArray} (h : (tapeV t).2.2 = 0) : printV (tapeV t).1 = (t, 0) := by
  by_cases hl : (linesV t).2.2 = 0
  · rw [tape_lines hl] at h ⊢
    have hz := all_zero h
    rw [all_good hz]
    have hck : (checkV (recsOf (linesV t).1)).2 = 0 := by
      rw [check_ok]
      intro j hj
      rw [recs_len] at hj
      exact (err_zero (hz j hj)).2
    rw [print_ok hck]
    have e : (recsOf (linesV t).1).map lineR = (linesV t).1 := by
      unfold recsOf
      rw [List.map_map]
      conv => rhs; rw [← List.map_id (linesV t).1]
      refine List.map_congr_left fun s hs => ?_
      obtain ⟨j, hj, rfl⟩ := List.getElem_of_mem hs
      have := (err_zero (hz j hj)).1
      rw [List.getD_eq_getElem?_getD, List.getElem?_eq_getElem hj] at this
      exact (read_back this).1
    have : textL (recsOf (linesV t).1) = t.data.toList := by
      unfold textL
      rw [e]
      exact lines_flat hl
    rw [this]
  · rw [tape_bad hl] at h; exact absurd h hl

/-- Where an error is told there are no records. -/
theorem tape_none {t : ByteArray} (h : (tapeV t).2.2 ≠ 0) : (tapeV t).1 = [] := by
  by_cases hl : (linesV t).2.2 = 0
  · rw [tape_lines hl] at h ⊢
    unfold readAll at h ⊢
    split
    · rename_i e; rw [e] at h; exact absurd rfl h
    · rfl
  · rw [tape_bad hl]

theorem tape_len (t : ByteArray) : (tapeV t).1.length ≤ t.size := by
  by_cases hl : (linesV t).2.2 = 0
  · rw [tape_lines hl]
    have h1 := lines_len t
    unfold readAll
    split
    · show (recsOf _).length ≤ _
      rw [recs_len]; exact h1
    · exact Nat.zero_le _
  · rw [tape_bad hl]; exact Nat.zero_le _

end Go.Proofs.YtogcpoaclkomjaaDoor
