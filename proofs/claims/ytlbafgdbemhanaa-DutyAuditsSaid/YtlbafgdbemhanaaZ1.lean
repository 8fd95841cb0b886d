/- Plain facts, several texts in one: ClauseNm, RecMath, SortMath. Conditions: none beyond each lemma's own premises. -/
import Derived.RowKit
import Derived.Lib.Hide
import Derived.Lib.SlicesCompact

/- Clauses in plain words: their names and articles, and sets of them. Conditions: none beyond each lemma's own premises. -/
namespace Go.Proofs.Ytlbafgdbemhanaa
open Go.RowKit

/-! ### Names and articles -/

def nmL : List ByteArray := [⟨#[98, 114, 101, 97, 107]⟩, ⟨#[108, 111, 110, 103, 101, 114]⟩, ⟨#[108, 111, 110, 103, 101, 114, 115]⟩, ⟨#[119, 101, 101, 107]⟩, ⟨#[102, 111, 114, 116, 110, 105, 103, 104, 116]⟩, ⟨#[100, 97, 105, 108, 121]⟩, ⟨#[114, 101, 100, 117, 99, 101, 115]⟩, ⟨#[119, 101, 101, 107, 108, 121]⟩, ⟨#[98, 114, 105, 101, 102]⟩, ⟨#[108, 97, 98, 111, 117, 114]⟩, ⟨#[100, 114, 105, 118, 101]⟩, ⟨#[119, 111, 114, 107]⟩, ⟨#[111, 112, 101, 110]⟩, ⟨#[115, 101, 114, 118, 101]⟩, ⟨#[108, 101, 102, 116]⟩, ⟨#[108, 111, 97, 100]⟩]

def arL : List ByteArray := [⟨#[55]⟩, ⟨#[54, 40, 49, 41]⟩, ⟨#[54, 40, 49, 41]⟩, ⟨#[54, 40, 50, 41]⟩, ⟨#[54, 40, 51, 41]⟩, ⟨#[56, 40, 50, 41]⟩, ⟨#[56, 40, 52, 41]⟩, ⟨#[56, 40, 54, 41]⟩, ⟨#[56, 40, 54, 41]⟩, ⟨#[68, 52]⟩, ⟨#[82, 49]⟩, ⟨#[82, 49]⟩, ⟨#[82, 50]⟩, ⟨#[82, 51]⟩, ⟨#[82, 52]⟩, ⟨#[82, 53]⟩]

def nmB (k : Nat) : ByteArray := nmL.getD k ⟨#[]⟩
def arB (k : Nat) : ByteArray := arL.getD k ⟨#[]⟩
def artW : ByteArray := ⟨#[97, 114, 116, 46]⟩

/-- Is the number a clause's? -/
def isC (c : Int) : Prop := 0 ≤ c ∧ c < 16
instance (c : Int) : Decidable (isC c) := by unfold isC; infer_instance

def nameV (c : Int) : ByteArray := if isC c then nmB c.toNat else ⟨#[]⟩
def artV (c : Int) : ByteArray := if isC c then arB c.toNat else ⟨#[]⟩
def noneV (c : Int) : Int := if isC c then 0 else 13

theorem isC_nat {k : Nat} (h : k < 16) : isC (k : Int) := ⟨by omega, by omega⟩
theorem name_yes {k : Nat} (h : k < 16) : nameV (k : Int) = nmB k := by unfold nameV; rw [if_pos (isC_nat h)]; rfl
theorem art_yes {k : Nat} (h : k < 16) : artV (k : Int) = arB k := by unfold artV; rw [if_pos (isC_nat h)]; rfl
theorem name_no {c : Int} (h : ¬ isC c) : nameV c = ⟨#[]⟩ := if_neg h
theorem art_no {c : Int} (h : ¬ isC c) : artV c = ⟨#[]⟩ := if_neg h
theorem none_yes {c : Int} (h : isC c) : noneV c = 0 := if_pos h
theorem none_no {c : Int} (h : ¬ isC c) : noneV c = 13 := if_neg h
theorem isC_of {c : Int} (h : isC c) : ∃ k : Nat, k < 16 ∧ c = (k : Int) := ⟨c.toNat, by have := h.1; have := h.2; omega, by have := h.1; omega⟩

theorem fin16 {p : Nat → Prop} (h : ∀ k : Fin 16, p k.val) : ∀ k, k < 16 → p k := fun k hk => h ⟨k, hk⟩

theorem nm_size : ∀ k, k < 16 → (nmB k).size ≠ 0 ∧ (nmB k).size ≤ 9 := fin16 (by decide +kernel)
theorem ar_size : ∀ k, k < 16 → (arB k).size ≤ 4 := fin16 (by decide +kernel)
theorem nm_clean : ∀ k, k < 16 → ∀ b ∈ (nmB k).data.toList, 33 ≤ b.toNat ∧ b.toNat ≤ 126 := fin16 (by decide +kernel)
theorem ar_clean : ∀ k, k < 16 → ∀ b ∈ (artW ++ arB k).data.toList, 33 ≤ b.toNat ∧ b.toNat ≤ 126 := fin16 (by decide +kernel)

/-- The clause of that name. -/
def findN (s : ByteArray) : Option Nat := (List.range 16).find? fun k => (nmB k).data.toList == s.data.toList
def findV (s : ByteArray) : Int := match findN s with | some k => k | none => -1

theorem fnd_nm : ∀ k, k < 16 → findN (nmB k) = some k := fin16 (by decide +kernel)

theorem fnd_none {s : ByteArray} (h : findN s = none) : findV s = -1 := by unfold findV; rw [h]
theorem fnd_some {s : ByteArray} {k : Nat} (h : findN s = some k) : findV s = (k : Int) := by unfold findV; rw [h]
theorem fnd_is {s : ByteArray} {k : Nat} (h : findN s = some k) : k < 16 ∧ nmB k = s := by
  unfold findN at h
  have h1 := List.find?_some h
  have h2 := List.mem_of_find?_eq_some h
  exact ⟨by simpa using h2, ByteArray.ext (Array.toList_inj.1 (by simpa using h1))⟩
theorem fnd_at {s : ByteArray} {k : Nat} (hk : k < 16) (h : nmB k = s) : findN s = some k := by subst h; exact fnd_nm k hk
theorem fnd_no {s : ByteArray} (h : ∀ k, k < 16 → nmB k ≠ s) : findN s = none := by
  cases hf : findN s with
  | none => rfl
  | some k => exact absurd (fnd_is hf).2 (h k (fnd_is hf).1)

/-! ### Sets -/

/-- Is the clause k in the set? -/
def bitV (s : Int) (k : Nat) : Bool := s / 2 ^ k % 2 == 1

/-- The clauses of the set below k. -/
def allN (s : Int) (k : Nat) : List Int := ((List.range k).filter (bitV s)).map Int.ofNat

def inV (s c : Int) : Bool := decide (isC c) && bitV s c.toNat

theorem all_yes {s : Int} {k : Nat} (h : bitV s k = true) : allN s (k + 1) = allN s k ++ [(k : Int)] := by
  unfold allN
  rw [List.range_succ, List.filter_append, List.map_append]
  simp [h]
theorem all_no {s : Int} {k : Nat} (h : bitV s k = false) : allN s (k + 1) = allN s k := by
  unfold allN
  rw [List.range_succ, List.filter_append, List.map_append]
  simp [h]
theorem all_len (s : Int) (k : Nat) : (allN s k).length ≤ k := by
  unfold allN
  rw [List.length_map]
  exact Nat.le_trans (List.length_filter_le _ _) (by simp)

theorem all_mem (s c : Int) : c ∈ allN s 16 ↔ isC c ∧ bitV s c.toNat = true := by
  simp only [allN, List.mem_map, List.mem_filter, List.mem_range]
  constructor
  · rintro ⟨k, ⟨hk, hb⟩, rfl⟩
    exact ⟨isC_nat hk, by simpa using hb⟩
  · rintro ⟨h, hb⟩
    obtain ⟨k, hk, rfl⟩ := isC_of h
    exact ⟨k, ⟨hk, by simpa using hb⟩, rfl⟩

theorem all_in (s c : Int) : inV s c = decide (c ∈ allN s 16) := by
  unfold inV
  rw [Bool.eq_iff_iff, Bool.and_eq_true, decide_eq_true_eq, decide_eq_true_eq, all_mem]

/-- The number's lowest 64 bits have the same lowest sixteen ones. -/
theorem bit_low (s : Int) : ∀ k, k < 16 → bitV s k = (s % 18446744073709551616 / 2 ^ k % 2 == 1) := by
  intro k hk
  unfold bitV
  have : k = 0 ∨ k = 1 ∨ k = 2 ∨ k = 3 ∨ k = 4 ∨ k = 5 ∨ k = 6 ∨ k = 7 ∨ k = 8 ∨ k = 9 ∨ k = 10 ∨ k = 11 ∨ k = 12 ∨ k = 13 ∨ k = 14 ∨ k = 15 := by omega
  rcases this with rfl | rfl | rfl | rfl | rfl | rfl | rfl | rfl | rfl | rfl | rfl | rfl | rfl | rfl | rfl | rfl <;> (congr 1; simp only [Int.reducePow]; omega)

end Go.Proofs.Ytlbafgdbemhanaa

/- Timelines in plain words: which record is wrong first, the minutes' kinds, the normal one. Conditions: none beyond each lemma's own premises. -/
namespace Go.Proofs.Ytlbafgdbemhanaa

/-- A record: its kind, its begin, its end. -/
abbrev Rc := Int × Int × Int
def rz : Rc := (0, 0, 0)

/-- What is wrong with a record alone; and by the end of the one ahead. -/
def aloneV (x y z : Int) : Int := if 0 ≤ x ∧ x < 4 then (if (0 ≤ y ∧ y ≤ 40320) ∧ (0 ≤ z ∧ z ≤ 40320) then (if y < z then 0 else 3) else 4) else 2
def behindV (t y : Int) : Int := if t < y then 5 else if y < t then 6 else 0

theorem alone_zero {x y z : Int} : aloneV x y z = 0 ↔ (0 ≤ x ∧ x < 4) ∧ (0 ≤ y ∧ y < z ∧ z ≤ 40320) := by
  unfold aloneV
  repeat' split
  all_goals first | (constructor <;> intro h <;> omega) | (constructor <;> intro h <;> first | omega | (exfalso; omega))

theorem behind_zero {t y : Int} : behindV t y = 0 ↔ y = t := by
  unfold behindV
  repeat' split
  all_goals (constructor <;> intro h <;> omega)

/-- What is wrong with the record at k. -/
def faultV (l : List Rc) (k : Nat) : Int :=
  if aloneV (l.getD k rz).1 (l.getD k rz).2.1 (l.getD k rz).2.2 = 0 ∧ k ≠ 0 then behindV (l.getD (k - 1) rz).2.2 (l.getD k rz).2.1 else aloneV (l.getD k rz).1 (l.getD k rz).2.1 (l.getD k rz).2.2

theorem fault_alone {l : List Rc} {k : Nat} {x y z : Int} (h : l.getD k rz = (x, y, z)) (ha : aloneV x y z ≠ 0) : faultV l k = aloneV x y z := by
  unfold faultV
  rw [h, if_neg (fun c => ha c.1)]

theorem fault_first {l : List Rc} {x y z : Int} (h : l.getD 0 rz = (x, y, z)) : faultV l 0 = aloneV x y z := by
  unfold faultV
  rw [h, if_neg (fun c => c.2 rfl)]

theorem fault_next {l : List Rc} {j : Nat} {x y z a b c : Int} (h : l.getD (j + 1) rz = (x, y, z)) (ha : aloneV x y z = 0) (hp : l.getD j rz = (a, b, c)) : faultV l (j + 1) = behindV c y := by
  unfold faultV
  rw [h, if_pos ⟨ha, by omega⟩, show j + 1 - 1 = j by omega, hp]

/-- The first record that is wrong, and what is wrong. -/
def checkV (l : List Rc) : Nat × Int := match (List.range l.length).find? (fun j => faultV l j != 0) with | none => (0, 0) | some j => (j, faultV l j)

theorem check_ok {l : List Rc} (h : ∀ j, j < l.length → faultV l j = 0) : checkV l = (0, 0) := by
  unfold checkV
  have e : (List.range l.length).find? (fun j => faultV l j != 0) = none := by
    rw [List.find?_eq_none]
    intro j hj
    simp [h j (by simpa using hj)]
  rw [e]

theorem check_bad {l : List Rc} {k : Nat} {e : Int} (hk : k < l.length) (h : ∀ j, j < k → faultV l j = 0) (he : faultV l k = e) (hne : e ≠ 0) : checkV l = (k, e) := by
  unfold checkV
  have e1 : (List.range l.length).find? (fun j => faultV l j != 0) = some k := by
    rw [List.find?_range_eq_some]
    refine ⟨by simp [he, hne], by simpa using hk, fun j hj => by simp [h j hj]⟩
  rw [e1, ← he]

theorem check_zero {l : List Rc} (h : (checkV l).2 = 0) : ∀ j, j < l.length → faultV l j = 0 := by
  intro j hj
  rcases hf : (List.range l.length).find? (fun j => faultV l j != 0) with _ | k
  · rw [List.find?_eq_none] at hf
    have := hf j (by simpa using hj)
    simpa using this
  · have hk := hf
    rw [List.find?_range_eq_some] at hk
    unfold checkV at h
    rw [hf] at h
    have := hk.1
    simp at this h
    exact absurd h this

/-- A timeline from e on. -/
def Tl (e : Int) : List Rc → Prop
  | [] => True
  | r :: l => ((0 ≤ r.1 ∧ r.1 < 4) ∧ (0 ≤ r.2.1 ∧ r.2.1 < r.2.2 ∧ r.2.2 ≤ 40320)) ∧ r.2.1 = e ∧ Tl r.2.2 l

def beg : List Rc → Int
  | [] => 0
  | r :: _ => r.2.1

def fin : List Rc → Int
  | [] => 0
  | [r] => r.2.2
  | _ :: r :: l => fin (r :: l)

theorem Tl.from_ {e : Int} {l : List Rc} (h : Tl e l) : Tl (beg l) l := by
  cases l with
  | nil => trivial
  | cons r l => exact ⟨h.1, rfl, h.2.2⟩

theorem tl_of {l : List Rc} {e : Int} (h1 : ∀ j, j < l.length → (0 ≤ (l.getD j rz).1 ∧ (l.getD j rz).1 < 4) ∧ (0 ≤ (l.getD j rz).2.1 ∧ (l.getD j rz).2.1 < (l.getD j rz).2.2 ∧ (l.getD j rz).2.2 ≤ 40320))
    (h2 : l ≠ [] → (l.getD 0 rz).2.1 = e) (h3 : ∀ j, j + 1 < l.length → (l.getD (j + 1) rz).2.1 = (l.getD j rz).2.2) : Tl e l := by
  induction l generalizing e with
  | nil => trivial
  | cons r l ih =>
    refine ⟨by simpa using h1 0 (by simp), by simpa using h2 (by simp), ih (fun j hj => by simpa using h1 (j + 1) (by simpa using hj)) (fun hne => ?_) (fun j hj => by simpa using h3 (j + 1) (by simpa using hj))⟩
    have := h3 0 (by have := List.length_pos_iff.2 hne; simp; omega)
    simpa using this

theorem fault_ok {l : List Rc} {k : Nat} (h : faultV l k = 0) : aloneV (l.getD k rz).1 (l.getD k rz).2.1 (l.getD k rz).2.2 = 0 := by
  unfold faultV at h
  split at h
  · rename_i c; exact c.1
  · exact h

theorem check_tl {l : List Rc} (h : (checkV l).2 = 0) : Tl (beg l) l := by
  have hf := check_zero h
  refine tl_of (fun j hj => alone_zero.1 (fault_ok (hf j hj))) (fun hne => ?_) (fun j hj => ?_)
  · cases l with
    | nil => exact absurd rfl hne
    | cons r l => rfl
  · have h1 := hf (j + 1) hj
    have h2 := fault_ok h1
    unfold faultV at h1
    rw [if_pos ⟨h2, by omega⟩, show j + 1 - 1 = j by omega] at h1
    exact behind_zero.1 h1

theorem Tl.at_ {l : List Rc} {e : Int} (h : Tl e l) : ∀ j, j < l.length → (0 ≤ (l.getD j rz).1 ∧ (l.getD j rz).1 < 4) ∧ (0 ≤ (l.getD j rz).2.1 ∧ (l.getD j rz).2.1 < (l.getD j rz).2.2 ∧ (l.getD j rz).2.2 ≤ 40320) := by
  induction l generalizing e with
  | nil => intro j hj; cases hj
  | cons r l ih =>
    intro j hj
    cases j with
    | zero => simpa using h.1
    | succ j => simpa using ih h.2.2 j (by simpa using hj)

theorem Tl.chain {l : List Rc} {e : Int} (h : Tl e l) : ∀ j, j + 1 < l.length → (l.getD (j + 1) rz).2.1 = (l.getD j rz).2.2 := by
  induction l generalizing e with
  | nil => intro j hj; cases hj
  | cons r l ih =>
    intro j hj
    cases j with
    | zero =>
      cases l with
      | nil => simp at hj
      | cons s l => simpa using h.2.2.2.1
    | succ j => simpa using ih h.2.2 j (by simpa using hj)

theorem tl_check {l : List Rc} {e : Int} (h : Tl e l) : checkV l = (0, 0) := by
  refine check_ok fun j hj => ?_
  have h1 := alone_zero.2 (h.at_ j hj)
  unfold faultV
  rw [h1]
  split
  · rename_i c
    obtain ⟨k, rfl⟩ : ∃ k, j = k + 1 := ⟨j - 1, by omega⟩
    rw [show k + 1 - 1 = k by omega]
    exact behind_zero.2 (h.chain k hj)
  · rfl

/-- The kind of each minute. -/
def kindsV (l : List Rc) : List Int := l.flatMap fun r => List.replicate (r.2.2 - r.2.1).toNat r.1

theorem kinds_cons (r : Rc) (l : List Rc) : kindsV (r :: l) = List.replicate (r.2.2 - r.2.1).toNat r.1 ++ kindsV l := rfl

theorem kinds_more {l : List Rc} {k : Nat} {x y z : Int} (h : k < l.length) (hr : l.getD k rz = (x, y, z)) : kindsV (l.take (k + 1)) = kindsV (l.take k) ++ List.replicate (z - y).toNat x := by
  have e : l[k]? = some (x, y, z) := by
    rw [List.getElem?_eq_getElem h]
    rw [List.getD_eq_getElem?_getD, List.getElem?_eq_getElem h] at hr
    simpa using hr
  rw [List.take_add_one, e]
  simp [kindsV]

/-- Where it ends. -/
theorem Tl.len {l : List Rc} {e : Int} (h : Tl e l) : l ≠ [] → e + ((kindsV l).length : Int) = fin l ∧ 0 ≤ e ∧ fin l ≤ 40320 := by
  induction l generalizing e with
  | nil => intro h; exact absurd rfl h
  | cons r l ih =>
    intro _
    obtain ⟨⟨h1, h2⟩, h3, h4⟩ := h
    have hr : ((List.replicate (r.2.2 - r.2.1).toNat r.1).length : Int) = r.2.2 - r.2.1 := by simp; omega
    cases l with
    | nil => rw [kinds_cons]; simp [kindsV, fin]; omega
    | cons s l =>
      have := ih h4 (by simp)
      rw [kinds_cons, List.length_append, fin]
      omega

theorem Tl.short {l : List Rc} {e : Int} (h : Tl e l) : (kindsV l).length ≤ 40320 := by
  cases l with
  | nil => simp [kindsV]
  | cons r l => have := h.len (by simp); omega

theorem Tl.bd {l : List Rc} {e : Int} (h : Tl e l) : 0 ≤ beg l ∧ beg l + ((kindsV l).length : Int) ≤ 40320 := by
  cases l with
  | nil => simp [beg, kindsV]
  | cons r l => have := h.from_.len (by simp); omega

theorem kinds_take (l : List Rc) (k : Nat) : (kindsV (l.take k)).length ≤ (kindsV l).length := by
  have e : kindsV l = kindsV (l.take k) ++ kindsV (l.drop k) := by
    unfold kindsV
    rw [← List.flatMap_append, List.take_append_drop]
  rw [e, List.length_append]
  omega

theorem Tl.kinds {l : List Rc} {e : Int} (h : Tl e l) : ∀ x ∈ kindsV l, 0 ≤ x ∧ x < 4 := by
  induction l generalizing e with
  | nil => intro x hx; simp [kindsV] at hx
  | cons r l ih =>
    intro x hx
    rw [kinds_cons, List.mem_append] at hx
    rcases hx with hx | hx
    · rw [List.mem_replicate] at hx; rw [hx.2]; exact h.1.1
    · exact ih h.2.2 x hx

/-! ### The normal timeline -/

/-- One more record behind those that are there: the last one's end is moved, where the kinds are the same. -/
def put (out : List Rc) (k f t : Int) : List Rc :=
  match out.getLast? with
  | some (a, b, _) => if a = k then out.dropLast ++ [(k, b, t)] else out ++ [(k, f, t)]
  | none => out ++ [(k, f, t)]

theorem put_nil (k f t : Int) : put [] k f t = [(k, f, t)] := rfl

theorem put_same (o : List Rc) (b c k f t : Int) : put (o ++ [(k, b, c)]) k f t = o ++ [(k, b, t)] := by
  unfold put; simp

theorem put_other (o : List Rc) {a b c k f t : Int} (h : a ≠ k) : put (o ++ [(a, b, c)]) k f t = o ++ [(a, b, c)] ++ [(k, f, t)] := by
  unfold put; simp [h]

theorem snoc_form {out : List Rc} {j : Nat} {a b c : Int} (hl : out.length = j + 1) (hg : out.getD j rz = (a, b, c)) : ∃ o, out = o ++ [(a, b, c)] ∧ o.length = j := by
  rcases List.eq_nil_or_concat out with rfl | ⟨o, r, rfl⟩
  · cases hl
  · have : o.length = j := by simpa using hl
    subst this
    refine ⟨o, ?_, rfl⟩
    simp at hg
    simp [hg]

theorem put_put (out : List Rc) (k f m n t : Int) : put (put out k f m) k n t = put out k f t := by
  rcases List.eq_nil_or_concat out with rfl | ⟨o, ⟨a, b, c⟩, rfl⟩
  · rw [put_nil, put_nil]; exact put_same [] f m k n t
  · by_cases h : a = k
    · subst h; simp only [List.concat_eq_append]; rw [put_same, put_same, put_same]
    · simp only [List.concat_eq_append]; rw [put_other o h, put_other o h, put_same]

def normV (l : List Rc) : List Rc := l.foldl (fun out r => put out r.1 r.2.1 r.2.2) []

theorem norm_more {l : List Rc} {k : Nat} {x y z : Int} (h : k < l.length) (hr : l.getD k rz = (x, y, z)) : normV (l.take (k + 1)) = put (normV (l.take k)) x y z := by
  have e : l[k]? = some (x, y, z) := by
    rw [List.getElem?_eq_getElem h]
    rw [List.getD_eq_getElem?_getD, List.getElem?_eq_getElem h] at hr
    simpa using hr
  rw [List.take_add_one, e]
  simp [normV]

theorem put_len (out : List Rc) (k f t : Int) : (put out k f t).length ≤ out.length + 1 := by
  rcases List.eq_nil_or_concat out with rfl | ⟨o, ⟨a, b, c⟩, rfl⟩
  · rw [put_nil]; simp
  · by_cases h : a = k
    · subst h; simp only [List.concat_eq_append]; rw [put_same]; simp
    · simp only [List.concat_eq_append]; rw [put_other o h]; simp

/-- The normal timeline of minutes' kinds, the first of which is the minute m. -/
def ofS (s : List Rc × Int) (ks : List Int) : List Rc × Int := ks.foldl (fun s k => (put s.1 k s.2 (s.2 + 1), s.2 + 1)) s
def ofR (at_ : Int) (ks : List Int) : List Rc := (ofS ([], at_) ks).1

theorem of_same (out : List Rc) (k f : Int) : ∀ n, ofS (out, f) (List.replicate (n + 1) k) = (put out k f (f + (n + 1 : Nat)), f + (n + 1 : Nat))
  | 0 => by simp [ofS]
  | n + 1 => by
    rw [List.replicate_succ', ofS, List.foldl_append]
    have := of_same out k f n
    unfold ofS at this
    rw [this]
    simp only [List.foldl_cons, List.foldl_nil, put_put]
    have e : f + ((n + 1 : Nat) : Int) + 1 = f + ((n + 1 + 1 : Nat) : Int) := by omega
    rw [e]

theorem of_norm {l : List Rc} {e : Int} (h : Tl e l) : ∀ out, (ofS (out, e) (kindsV l)).1 = l.foldl (fun out r => put out r.1 r.2.1 r.2.2) out := by
  induction l generalizing e with
  | nil => intro out; rfl
  | cons r l ih =>
    intro out
    obtain ⟨⟨h1, h2⟩, h3, h4⟩ := h
    subst h3
    obtain ⟨n, hn⟩ : ∃ n : Nat, (r.2.2 - r.2.1).toNat = n + 1 := ⟨(r.2.2 - r.2.1).toNat - 1, by omega⟩
    rw [kinds_cons, hn]
    show (List.foldl _ (out, r.2.1) (_ ++ _)).1 = _
    rw [List.foldl_append]
    have := of_same out r.1 r.2.1 n
    unfold ofS at this
    rw [this]
    have e : r.2.1 + ((n + 1 : Nat) : Int) = r.2.2 := by omega
    rw [e]
    exact ih h4 _

theorem norm_of {l : List Rc} {e : Int} (h : Tl e l) : ofR (beg l) (kindsV l) = normV l := of_norm h.from_ []

theorem of_more {ks : List Int} {at_ : Int} {k : Nat} {x : Int} (hx : ks[k]? = some x) : ofR at_ (ks.take (k + 1)) = put (ofR at_ (ks.take k)) x (at_ + k) (at_ + k + 1) := by
  have hm : ∀ (ks : List Int) (s : List Rc × Int), (ofS s ks).2 = s.2 + ks.length := by
    intro ks
    induction ks with
    | nil => intro s; simp [ofS]
    | cons y ks ih =>
      intro s
      show (ofS _ ks).2 = _
      rw [ih]
      simp; omega
  rw [List.take_add_one, hx]
  unfold ofR
  simp only [Option.toList_some]
  rw [ofS, List.foldl_append]
  have h2 := hm (ks.take k) ([], at_)
  have hl : (ks.take k).length = k := by
    have := (List.getElem?_eq_some_iff.1 hx).1
    simp; omega
  rw [hl] at h2
  unfold ofS at h2 ⊢
  simp only [List.foldl_cons, List.foldl_nil]
  rw [h2]

theorem of_len (at_ : Int) (ks : List Int) : (ofR at_ ks).length ≤ ks.length := by
  have : ∀ (ks : List Int) (s : List Rc × Int), (ofS s ks).1.length ≤ s.1.length + ks.length := by
    intro ks
    induction ks with
    | nil => intro s; simp [ofS]
    | cons y ks ih =>
      intro s
      have := ih (put s.1 y s.2 (s.2 + 1), s.2 + 1)
      have h2 := put_len s.1 y s.2 (s.2 + 1)
      show (ofS (put s.1 y s.2 (s.2 + 1), s.2 + 1) ks).1.length ≤ _
      simp at this ⊢
      omega
  have h := this ks ([], at_)
  rw [List.length_nil, Nat.zero_add] at h
  exact h

/-- What Normal tells. -/
def nrmV (l : List Rc) : List Rc := if (checkV l).2 = 0 then normV l else []

theorem nrm_ok {l : List Rc} {e : Int} (h : Tl e l) : nrmV l = normV l := by unfold nrmV; rw [tl_check h]; exact if_pos rfl
theorem nrm_bad {l : List Rc} (h : (checkV l).2 ≠ 0) : nrmV l = [] := if_neg h

theorem norm_len (l : List Rc) : (normV l).length ≤ l.length := by
  have : ∀ (l : List Rc) (out : List Rc), (l.foldl (fun out r => put out r.1 r.2.1 r.2.2) out).length ≤ out.length + l.length := by
    intro l
    induction l with
    | nil => intro out; simp
    | cons r l ih =>
      intro out
      have := ih (put out r.1 r.2.1 r.2.2)
      have h2 := put_len out r.1 r.2.1 r.2.2
      simp only [List.foldl_cons, List.length_cons]
      omega
  have h := this l []
  rw [List.length_nil, Nat.zero_add] at h
  exact h

end Go.Proofs.Ytlbafgdbemhanaa

/- Findings in order, each once: such a list is the only one with its findings; what is sorted and then rid of neighbours that are the same is such a list. Conditions: none beyond each lemma's own premises. -/
namespace Go.Proofs.Ytlbafgdbemhanaa
open Go.RowKit

/-- One triple comes ahead of another one. -/
def ltF (x y : Rc) : Prop := x.1 < y.1 ∨ (x.1 = y.1 ∧ (x.2.1 < y.2.1 ∨ (x.2.1 = y.2.1 ∧ x.2.2 < y.2.2)))
instance (x y : Rc) : Decidable (ltF x y) := by unfold ltF; infer_instance

theorem ltF_irr (x : Rc) : ¬ ltF x x := by unfold ltF; omega
theorem ltF_tr {x y z : Rc} (h : ltF x y) (h2 : ltF y z) : ltF x z := by unfold ltF at *; omega
theorem ltF_as {x y : Rc} (h : ltF x y) : ¬ ltF y x := fun k => ltF_irr x (ltF_tr h k)
theorem ltF_tot {x y : Rc} (h : ¬ ltF x y) (h2 : ¬ ltF y x) : x = y := by
  unfold ltF at *
  obtain ⟨a, b, c⟩ := x
  obtain ⟨d, e, f⟩ := y
  simp only [Prod.mk.injEq] at *
  omega
theorem ltF_nt {x y z : Rc} (h : ¬ ltF x y) (h2 : ¬ ltF y z) : ¬ ltF x z := by unfold ltF at *; omega

/-- The findings of l in order, each once. -/
def SetF (r l : List Rc) : Prop := r.Pairwise ltF ∧ ∀ x, x ∈ r ↔ x ∈ l

theorem sorted_unique : ∀ {r s : List Rc}, r.Pairwise ltF → s.Pairwise ltF → (∀ x, x ∈ r ↔ x ∈ s) → r = s
  | [], [], _, _, _ => rfl
  | [], y :: s, _, _, h => by have := (h y).2 (List.mem_cons_self ..); cases this
  | x :: r, [], _, _, h => by have := (h x).1 (List.mem_cons_self ..); cases this
  | x :: r, y :: s, hr, hs, h => by
    obtain ⟨hx, hr2⟩ := List.pairwise_cons.1 hr
    obtain ⟨hy, hs2⟩ := List.pairwise_cons.1 hs
    have e : x = y := by
      rcases List.mem_cons.1 ((h x).1 (List.mem_cons_self ..)) with e | h1
      · exact e
      · rcases List.mem_cons.1 ((h y).2 (List.mem_cons_self ..)) with e | h2
        · exact e.symm
        · exact absurd (hy x h1) (ltF_as (hx y h2))
    subst e
    have hrs : r = s := sorted_unique hr2 hs2 fun z => by
      have hz := h z
      constructor
      · intro hm
        rcases List.mem_cons.1 (hz.1 (List.mem_cons_of_mem _ hm)) with e | h1
        · subst e; exact absurd (hx z hm) (ltF_irr z)
        · exact h1
      · intro hm
        rcases List.mem_cons.1 (hz.2 (List.mem_cons_of_mem _ hm)) with e | h1
        · subst e; exact absurd (hy z hm) (ltF_irr z)
        · exact h1
    rw [hrs]

theorem setF_unique {r s l : List Rc} (h : SetF r l) (h2 : SetF s l) : r = s := sorted_unique h.1 h2.1 fun x => (h.2 x).trans (h2.2 x).symm
theorem setF_again {r s l : List Rc} (h : SetF r l) (h2 : SetF s r) : s = r := setF_unique h2 ⟨h.1, fun _ => Iff.rfl⟩
theorem setF_perm {r l d : List Rc} (h : SetF r d) (hp : d.Perm l) : SetF r l := ⟨h.1, fun x => (h.2 x).trans hp.mem_iff⟩

theorem pair_nodup {l : List Rc} (h : l.Pairwise ltF) : l.Nodup := h.imp fun hab e => by subst e; exact ltF_irr _ hab

theorem nodup_len : ∀ {o l : List Rc}, o.Nodup → (∀ x ∈ o, x ∈ l) → o.length ≤ l.length
  | [], _, _, _ => Nat.zero_le _
  | x :: o, l, hn, h => by
    obtain ⟨hx, hn2⟩ := List.nodup_cons.1 hn
    have hm := h x (List.mem_cons_self ..)
    have := nodup_len (o := o) (l := l.erase x) hn2 fun y hy => (List.mem_erase_of_ne (fun e => by subst e; exact hx hy)).2 (h y (List.mem_cons_of_mem _ hy))
    rw [List.length_erase_of_mem hm] at this
    have hp := List.length_pos_of_mem hm
    rw [List.length_cons]
    omega

/-! ### What is sorted, rid of neighbours that are the same -/

theorem compact_set {d : Array Rc} (hs : ∀ i j : Nat, i < j → j < d.size → ¬ ltF d[j]! d[i]!) : ∀ m, m ≤ d.size →
    (Lib.compactUpTo d m).Pairwise ltF ∧ ∀ x, x ∈ Lib.compactUpTo d m ↔ ∃ j, j < m ∧ d[j]! = x := by
  intro m
  induction m with
  | zero => intro _; exact ⟨by simp [Lib.compactUpTo], fun x => by simp [Lib.compactUpTo]⟩
  | succ m ih =>
    intro hm
    obtain ⟨ih1, ih2⟩ := ih (by omega)
    rw [Lib.compactUpTo_succ]
    by_cases hk : Lib.keeps d m = true
    · rw [if_pos hk]
      constructor
      · rw [List.pairwise_append]
        refine ⟨ih1, by simp, fun x hx y hy => ?_⟩
        rw [List.mem_singleton] at hy
        subst hy
        obtain ⟨j, hj, rfl⟩ := (ih2 x).1 hx
        have n1 := hs j m hj (by omega)
        by_cases h1 : ltF d[j]! d[m]!
        · exact h1
        · exfalso
          have e := ltF_tot h1 n1
          have hm0 : m ≠ 0 := by omega
          have hne : d[m]! ≠ d[m - 1]! := by
            unfold Lib.keeps at hk
            have := of_decide_eq_true hk
            rcases this with h0 | h0
            · exact absurd h0 hm0
            · exact h0
          have n2 := hs (m - 1) m (by omega) (by omega)
          have n3 : ¬ ltF d[m - 1]! d[j]! := by
            by_cases ej : j = m - 1
            · rw [ej]; exact ltF_irr _
            · exact hs j (m - 1) (by omega) (by omega)
          rw [e] at n3
          exact hne (ltF_tot n2 n3)
      · intro x
        rw [List.mem_append, List.mem_singleton, ih2]
        constructor
        · rintro (⟨j, hj, e⟩ | rfl)
          · exact ⟨j, by omega, e⟩
          · exact ⟨m, by omega, rfl⟩
        · rintro ⟨j, hj, e⟩
          by_cases ej : j = m
          · subst ej; exact .inr e.symm
          · exact .inl ⟨j, by omega, e⟩
    · rw [if_neg hk, List.append_nil]
      refine ⟨ih1, fun x => (ih2 x).trans ⟨fun ⟨j, hj, e⟩ => ⟨j, by omega, e⟩, fun ⟨j, hj, e⟩ => ?_⟩⟩
      by_cases ej : j = m
      · subst ej
        have hm0 : j ≠ 0 := by
          intro h
          subst h
          simp [Lib.keeps] at hk
        have he : d[j]! = d[j - 1]! := by
          unfold Lib.keeps at hk
          simp only [decide_eq_true_eq, not_or] at hk
          exact Classical.not_not.1 hk.2
        exact ⟨j - 1, by omega, by rw [← he]; exact e⟩
      · exact ⟨j, by omega, e⟩

theorem arr_mem (d : Array Rc) (x : Rc) : (∃ j, j < d.size ∧ d[j]! = x) ↔ x ∈ d.toList := by
  rw [List.mem_iff_getElem]
  constructor
  · rintro ⟨j, hj, e⟩
    refine ⟨j, by simpa using hj, ?_⟩
    rw [getElem!_pos d j hj] at e
    simpa using e
  · rintro ⟨j, hj, e⟩
    have hj' : j < d.size := by simpa using hj
    refine ⟨j, hj', ?_⟩
    rw [getElem!_pos d j hj']
    simpa using e

theorem compact_setF {d : Array Rc} (hs : ∀ i j : Nat, i < j → j < d.size → ¬ ltF d[j]! d[i]!) : SetF (Lib.compactUpTo d d.size) d.toList := by
  obtain ⟨h1, h2⟩ := compact_set hs d.size (Nat.le_refl _)
  exact ⟨h1, fun x => (h2 x).trans (arr_mem d x)⟩

/-! ### One by one -/

/-- What is told already: in order, of l, and all of l that does not lie behind it. -/
structure OutF (o l : List Rc) : Prop where
  ord : o.Pairwise ltF
  mem : ∀ x ∈ o, x ∈ l
  all : ∀ y ∈ l, y ∈ o ∨ ∀ x ∈ o, ltF x y

theorem OutF.nil (l : List Rc) : OutF [] l := ⟨List.Pairwise.nil, (fun _ h => by cases h), (fun _ _ => .inr (fun _ h => by cases h))⟩
theorem OutF.len {o l : List Rc} (h : OutF o l) : o.length ≤ l.length := nodup_len (pair_nodup h.ord) h.mem
theorem OutF.set {o l : List Rc} (h : OutF o l) (hn : ∀ y ∈ l, ¬ ∀ x ∈ o, ltF x y) : SetF o l := ⟨h.ord, fun x => ⟨h.mem x, fun hx => (h.all x hx).elim id fun k => absurd k (hn x hx)⟩⟩
theorem OutF.more {o l : List Rc} {b : Rc} (h : OutF o l) (hb : b ∈ l) (hc : ∀ x ∈ o, ltF x b) (hm : ∀ y ∈ l, (∀ x ∈ o, ltF x y) → ¬ ltF y b) : OutF (o ++ [b]) l where
  ord := by
    rw [List.pairwise_append]
    exact ⟨h.ord, by simp, fun x hx y hy => by rw [List.mem_singleton] at hy; subst hy; exact hc x hx⟩
  mem := fun x hx => by
    rcases List.mem_append.1 hx with h1 | h1
    · exact h.mem x h1
    · rw [List.mem_singleton] at h1; subst h1; exact hb
  all := fun y hy => by
    rcases h.all y hy with h1 | h1
    · exact .inl (List.mem_append_left _ h1)
    · by_cases h2 : ltF b y
      · refine .inr fun x hx => ?_
        rcases List.mem_append.1 hx with h3 | h3
        · exact h1 x h3
        · rw [List.mem_singleton] at h3; subst h3; exact h2
      · have := ltF_tot h2 (hm y hy h1)
        subst this
        exact .inl (List.mem_append_right _ (List.mem_singleton.2 rfl))

/-- To lie behind the last one is to lie behind all. -/
theorem behind_last {o : List Rc} {z y : Rc} (h : (o ++ [z]).Pairwise ltF) : (∀ x ∈ o ++ [z], ltF x y) ↔ ltF z y := by
  constructor
  · intro k; exact k z (List.mem_append_right _ (List.mem_singleton.2 rfl))
  · intro k x hx
    rcases List.mem_append.1 hx with h1 | h1
    · rw [List.pairwise_append] at h
      exact ltF_tr (h.2.2 x h1 z (List.mem_singleton.2 rfl)) k
    · rw [List.mem_singleton] at h1; subst h1; exact k

/-- Of the first k of l the least one behind o, if there is one. -/
def BestF (o l : List Rc) (k : Nat) : Bool → Rc → Prop
  | false, _ => ∀ j, j < k → ¬ ∀ x ∈ o, ltF x (l.getD j rz)
  | true, b => b ∈ l ∧ (∀ x ∈ o, ltF x b) ∧ ∀ j, j < k → (∀ x ∈ o, ltF x (l.getD j rz)) → ¬ ltF (l.getD j rz) b

theorem BestF.zero (o l : List Rc) (b : Rc) : BestF o l 0 false b := fun j hj => by omega

theorem getD_in {l : List Rc} {k : Nat} (h : k < l.length) : l.getD k rz ∈ l := by
  rw [List.getD_eq_getElem?_getD, List.getElem?_eq_getElem h]
  exact List.getElem_mem h

theorem in_getD {l : List Rc} {y : Rc} (h : y ∈ l) : ∃ j, j < l.length ∧ l.getD j rz = y := by
  obtain ⟨j, hj, e⟩ := List.mem_iff_getElem.1 h
  exact ⟨j, hj, by rw [List.getD_eq_getElem?_getD, List.getElem?_eq_getElem hj, e]; rfl⟩

/-- The next one does not lie behind o, or is not ahead of the best one: it is passed over. -/
theorem BestF.skip {o l : List Rc} {k : Nat} {f : Bool} {b : Rc} (h : BestF o l k f b) (hn : ¬ ∀ x ∈ o, ltF x (l.getD k rz)) : BestF o l (k + 1) f b := by
  cases f with
  | false =>
    intro j hj
    by_cases e : j = k
    · subst e; exact hn
    · exact h j (by omega)
  | true =>
    refine ⟨h.1, h.2.1, fun j hj hc => ?_⟩
    by_cases e : j = k
    · subst e; exact absurd hc hn
    · exact h.2.2 j (by omega) hc

theorem BestF.pass {o l : List Rc} {k : Nat} {b : Rc} (h : BestF o l k true b) (hn : ¬ ltF (l.getD k rz) b) : BestF o l (k + 1) true b := by
  refine ⟨h.1, h.2.1, fun j hj hc => ?_⟩
  by_cases e : j = k
  · subst e; exact hn
  · exact h.2.2 j (by omega) hc

theorem BestF.take {o l : List Rc} {k : Nat} {f : Bool} {b : Rc} (h : BestF o l k f b) (hk : k < l.length) (hc : ∀ x ∈ o, ltF x (l.getD k rz)) (hf : f = true → ltF (l.getD k rz) b) : BestF o l (k + 1) true (l.getD k rz) := by
  refine ⟨getD_in hk, hc, fun j hj hcj => ?_⟩
  by_cases e : j = k
  · subst e; exact ltF_irr _
  · cases f with
    | false => exact absurd hcj (h j (by omega))
    | true => exact fun k2 => h.2.2 j (by omega) hcj (ltF_tr k2 (hf rfl))

theorem BestF.none {o l : List Rc} {b : Rc} (h : BestF o l l.length false b) (ho : OutF o l) : SetF o l := ho.set fun y hy => by
  obtain ⟨j, hj, e⟩ := in_getD hy
  rw [← e]; exact h j hj
theorem BestF.some {o l : List Rc} {b : Rc} (h : BestF o l l.length true b) (ho : OutF o l) : OutF (o ++ [b]) l := ho.more h.1 h.2.1 fun y hy hc => by
  obtain ⟨j, hj, e⟩ := in_getD hy
  rw [← e] at hc ⊢; exact h.2.2 j hj hc

end Go.Proofs.Ytlbafgdbemhanaa
