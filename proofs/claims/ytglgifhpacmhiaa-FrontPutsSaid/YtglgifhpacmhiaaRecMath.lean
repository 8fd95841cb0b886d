/- Timelines in plain words: which record is wrong first, the minutes' kinds, the normal one. Conditions: none beyond each lemma's own premises. -/
import Derived.RowKit
namespace Go.Proofs.Ytglgifhpacmhiaa

/-- A record: its kind, its begin, its end. -/
abbrev Rc := Int × Int × Int
def rz : Rc := (0, 0, 0)

/-- What is wrong with a record alone; and by the end of the one ahead. -/
def aloneV (x y z : Int) : Int := if 0 ≤ x ∧ x < 4 then (if (0 ≤ y ∧ y ≤ 40320) ∧ (0 ≤ z ∧ z ≤ 40320) then (if y < z then 0 else 3) else 4) else 2
def behindV (t y : Int) : Int := if t < y then 5 else if y < t then 6 else 0

theorem alone_zero {x y z : Int} : aloneV x y z = 0 ↔ (0 ≤ x ∧ x < 4) ∧ (0 ≤ y ∧ y < z ∧ z ≤ 40320) := by
  unfold aloneV
  repeat' split
  all_goals first | (constructor <;> intro h <;> omega) | (constructor <;> intro h <;> first | omega | (exfalso; omega))

theorem behind_zero {t y : Int} : behindV t y = 0 ↔ y = t := by
  unfold behindV
  repeat' split
  all_goals (constructor <;> intro h <;> omega)

/-- What is wrong with the record at k. -/
def faultV (l : List Rc) (k : Nat) : Int :=
  if aloneV (l.getD k rz).1 (l.getD k rz).2.1 (l.getD k rz).2.2 = 0 ∧ k ≠ 0 then behindV (l.getD (k - 1) rz).2.2 (l.getD k rz).2.1 else aloneV (l.getD k rz).1 (l.getD k rz).2.1 (l.getD k rz).2.2

theorem fault_alone {l : List Rc} {k : Nat} {x y z : Int} (h : l.getD k rz = (x, y, z)) (ha : aloneV x y z ≠ 0) : faultV l k = aloneV x y z := by
  unfold faultV
  rw [h, if_neg (fun c => ha c.1)]

theorem fault_first {l : List Rc} {x y z : Int} (h : l.getD 0 rz = (x, y, z)) : faultV l 0 = aloneV x y z := by
  unfold faultV
  rw [h, if_neg (fun c => c.2 rfl)]

theorem fault_next {l : List Rc} {j : Nat} {x y z a b c : Int} (h : l.getD (j + 1) rz = (x, y, z)) (ha : aloneV x y z = 0) (hp : l.getD j rz = (a, b, c)) : faultV l (j + 1) = behindV c y := by
  unfold faultV
  rw [h, if_pos ⟨ha, by omega⟩, show j + 1 - 1 = j by omega, hp]

/-- The first record that is wrong, and what is wrong. -/
def checkV (l : List Rc) : Nat × Int := match (List.range l.length).find? (fun j => faultV l j != 0) with | none => (0, 0) | some j => (j, faultV l j)

theorem check_ok {l : List Rc} (h : ∀ j, j < l.length → faultV l j = 0) : checkV l = (0, 0) := by
  unfold checkV
  have e : (List.range l.length).find? (fun j => faultV l j != 0) = none := by
    rw [List.find?_eq_none]
    intro j hj
    simp [h j (by simpa using hj)]
  rw [e]

theorem check_bad {l : List Rc} {k : Nat} {e : Int} (hk : k < l.length) (h : ∀ j, j < k → faultV l j = 0) (he : faultV l k = e) (hne : e ≠ 0) : checkV l = (k, e) := by
  unfold checkV
  have e1 : (List.range l.length).find? (fun j => faultV l j != 0) = some k := by
    rw [List.find?_range_eq_some]
    refine ⟨by simp [he, hne], by simpa using hk, fun j hj => by simp [h j hj]⟩
  rw [e1, ← he]

theorem check_zero {l : List Rc} (h : (checkV l).2 = 0) : ∀ j, j < l.length → faultV l j = 0 := by
  intro j hj
  rcases hf : (List.range l.length).find? (fun j => faultV l j != 0) with _ | k
  · rw [List.find?_eq_none] at hf
    have := hf j (by simpa using hj)
    simpa using this
  · have hk := hf
    rw [List.find?_range_eq_some] at hk
    unfold checkV at h
    rw [hf] at h
    have := hk.1
    simp at this h
    exact absurd h this

/-- A timeline from e on. -/
def Tl (e : Int) : List Rc → Prop
  | [] => True
  | r :: l => ((0 ≤ r.1 ∧ r.1 < 4) ∧ (0 ≤ r.2.1 ∧ r.2.1 < r.2.2 ∧ r.2.2 ≤ 40320)) ∧ r.2.1 = e ∧ Tl r.2.2 l

def beg : List Rc → Int
  | [] => 0
  | r :: _ => r.2.1

def fin : List Rc → Int
  | [] => 0
  | [r] => r.2.2
  | _ :: r :: l => fin (r :: l)

theorem Tl.from_ {e : Int} {l : List Rc} (h : Tl e l) : Tl (beg l) l := by
  cases l with
  | nil => trivial
  | cons r l => exact ⟨h.1, rfl, h.2.2⟩

theorem tl_of {l : List Rc} {e : Int} (h1 : ∀ j, j < l.length → (0 ≤ (l.getD j rz).1 ∧ (l.getD j rz).1 < 4) ∧ (0 ≤ (l.getD j rz).2.1 ∧ (l.getD j rz).2.1 < (l.getD j rz).2.2 ∧ (l.getD j rz).2.2 ≤ 40320))
    (h2 : l ≠ [] → (l.getD 0 rz).2.1 = e) (h3 : ∀ j, j + 1 < l.length → (l.getD (j + 1) rz).2.1 = (l.getD j rz).2.2) : Tl e l := by
  induction l generalizing e with
  | nil => trivial
  | cons r l ih =>
    refine ⟨by simpa using h1 0 (by simp), by simpa using h2 (by simp), ih (fun j hj => by simpa using h1 (j + 1) (by simpa using hj)) (fun hne => ?_) (fun j hj => by simpa using h3 (j + 1) (by simpa using hj))⟩
    have := h3 0 (by have := List.length_pos_iff.2 hne; simp; omega)
    simpa using this

theorem fault_ok {l : List Rc} {k : Nat} (h : faultV l k = 0) : aloneV (l.getD k rz).1 (l.getD k rz).2.1 (l.getD k rz).2.2 = 0 := by
  unfold faultV at h
  split at h
  · rename_i c; exact c.1
  · exact h

theorem check_tl {l : List Rc} (h : (checkV l).2 = 0) : Tl (beg l) l := by
  have hf := check_zero h
  refine tl_of (fun j hj => alone_zero.1 (fault_ok (hf j hj))) (fun hne => ?_) (fun j hj => ?_)
  · cases l with
    | nil => exact absurd rfl hne
    | cons r l => rfl
  · have h1 := hf (j + 1) hj
    have h2 := fault_ok h1
    unfold faultV at h1
    rw [if_pos ⟨h2, by omega⟩, show j + 1 - 1 = j by omega] at h1
    exact behind_zero.1 h1

theorem Tl.at_ {l : List Rc} {e : Int} (h : Tl e l) : ∀ j, j < l.length → (0 ≤ (l.getD j rz).1 ∧ (l.getD j rz).1 < 4) ∧ (0 ≤ (l.getD j rz).2.1 ∧ (l.getD j rz).2.1 < (l.getD j rz).2.2 ∧ (l.getD j rz).2.2 ≤ 40320) := by
  induction l generalizing e with
  | nil => intro j hj; cases hj
  | cons r l ih =>
    intro j hj
    cases j with
    | zero => simpa using h.1
    | succ j => simpa using ih h.2.2 j (by simpa using hj)

theorem Tl.chain {l : List Rc} {e : Int} (h : Tl e l) : ∀ j, j + 1 < l.length → (l.getD (j + 1) rz).2.1 = (l.getD j rz).2.2 := by
  induction l generalizing e with
  | nil => intro j hj; cases hj
  | cons r l ih =>
    intro j hj
    cases j with
    | zero =>
      cases l with
      | nil => simp at hj
      | cons s l => simpa using h.2.2.2.1
    | succ j => simpa using ih h.2.2 j (by simpa using hj)

theorem tl_check {l : List Rc} {e : Int} (h : Tl e l) : checkV l = (0, 0) := by
  refine check_ok fun j hj => ?_
  have h1 := alone_zero.2 (h.at_ j hj)
  unfold faultV
  rw [h1]
  split
  · rename_i c
    obtain ⟨k, rfl⟩ : ∃ k, j = k + 1 := ⟨j - 1, by omega⟩
    rw [show k + 1 - 1 = k by omega]
    exact behind_zero.2 (h.chain k hj)
  · rfl

/-- The kind of each minute. -/
def kindsV (l : List Rc) : List Int := l.flatMap fun r => List.replicate (r.2.2 - r.2.1).toNat r.1

theorem kinds_cons (r : Rc) (l : List Rc) : kindsV (r :: l) = List.replicate (r.2.2 - r.2.1).toNat r.1 ++ kindsV l := rfl

theorem kinds_more {l : List Rc} {k : Nat} {x y z : Int} (h : k < l.length) (hr : l.getD k rz = (x, y, z)) : kindsV (l.take (k + 1)) = kindsV (l.take k) ++ List.replicate (z - y).toNat x := by
  have e : l[k]? = some (x, y, z) := by
    rw [List.getElem?_eq_getElem h]
    rw [List.getD_eq_getElem?_getD, List.getElem?_eq_getElem h] at hr
    simpa using hr
  rw [List.take_add_one, e]
  simp [kindsV]

/-- Where it ends. -/
theorem Tl.len {l : List Rc} {e : Int} (h : Tl e l) : l ≠ [] → e + ((kindsV l).length : Int) = fin l ∧ 0 ≤ e ∧ fin l ≤ 40320 := by
  induction l generalizing e with
  | nil => intro h; exact absurd rfl h
  | cons r l ih =>
    intro _
    obtain ⟨⟨h1, h2⟩, h3, h4⟩ := h
    have hr : ((List.replicate (r.2.2 - r.2.1).toNat r.1).length : Int) = r.2.2 - r.2.1 := by simp; omega
    cases l with
    | nil => rw [kinds_cons]; simp [kindsV, fin]; omega
    | cons s l =>
      have := ih h4 (by simp)
      rw [kinds_cons, List.length_append, fin]
      omega

theorem Tl.short {l : List Rc} {e : Int} (h : Tl e l) : (kindsV l).length ≤ 40320 := by
  cases l with
  | nil => simp [kindsV]
  | cons r l => have := h.len (by simp); omega

theorem Tl.bd {l : List Rc} {e : Int} (h : Tl e l) : 0 ≤ beg l ∧ beg l + ((kindsV l).length : Int) ≤ 40320 := by
  cases l with
  | nil => simp [beg, kindsV]
  | cons r l => have := h.from_.len (by simp); omega

theorem kinds_take (l : List Rc) (k : Nat) : (kindsV (l.take k)).length ≤ (kindsV l).length := by
  have e : kindsV l = kindsV (l.take k) ++ kindsV (l.drop k) := by
    unfold kindsV
    rw [← List.flatMap_append, List.take_append_drop]
  rw [e, List.length_append]
  omega

theorem Tl.kinds {l : List Rc} {e : Int} (h : Tl e l) : ∀ x ∈ kindsV l, 0 ≤ x ∧ x < 4 := by
  induction l generalizing e with
  | nil => intro x hx; simp [kindsV] at hx
  | cons r l ih =>
    intro x hx
    rw [kinds_cons, List.mem_append] at hx
    rcases hx with hx | hx
    · rw [List.mem_replicate] at hx; rw [hx.2]; exact h.1.1
    · exact ih h.2.2 x hx

/-! ### The normal timeline -/

/-- One more record behind those that are there: the last one's end is moved, where the kinds are the same. -/
def put (out : List Rc) (k f t : Int) : List Rc :=
  match out.getLast? with
  | some (a, b, _) => if a = k then out.dropLast ++ [(k, b, t)] else out ++ [(k, f, t)]
  | none => out ++ [(k, f, t)]

theorem put_nil (k f t : Int) : put [] k f t = [(k, f, t)] := rfl

theorem put_same (o : List Rc) (b c k f t : Int) : put (o ++ [(k, b, c)]) k f t = o ++ [(k, b, t)] := by
  unfold put; simp

theorem put_other (o : List Rc) {a b c k f t : Int} (h : a ≠ k) : put (o ++ [(a, b, c)]) k f t = o ++ [(a, b, c)] ++ [(k, f, t)] := by
  unfold put; simp [h]

theorem snoc_form {out : List Rc} {j : Nat} {a b c : Int} (hl : out.length = j + 1) (hg : out.getD j rz = (a, b, c)) : ∃ o, out = o ++ [(a, b, c)] ∧ o.length = j := by
  rcases List.eq_nil_or_concat out with rfl | ⟨o, r, rfl⟩
  · cases hl
  · have : o.length = j := by simpa using hl
    subst this
    refine ⟨o, ?_, rfl⟩
    simp at hg
    simp [hg]

theorem put_put (out : List Rc) (k f m n t : Int) : put (put out k f m) k n t = put out k f t := by
  rcases List.eq_nil_or_concat out with rfl | ⟨o, ⟨a, b, c⟩, rfl⟩
  · rw [put_nil, put_nil]; exact put_same [] f m k n t
  · by_cases h : a = k
    · subst h; simp only [List.concat_eq_append]; rw [put_same, put_same, put_same]
    · simp only [List.concat_eq_append]; rw [put_other o h, put_other o h, put_same]

def normV (l : List Rc) : List Rc := l.foldl (fun out r => put out r.1 r.2.1 r.2.2) []

theorem norm_more {l : List Rc} {k : Nat} {x y z : Int} (h : k < l.length) (hr : l.getD k rz = (x, y, z)) : normV (l.take (k + 1)) = put (normV (l.take k)) x y z := by
  have e : l[k]? = some (x, y, z) := by
    rw [List.getElem?_eq_getElem h]
    rw [List.getD_eq_getElem?_getD, List.getElem?_eq_getElem h] at hr
    simpa using hr
  rw [List.take_add_one, e]
  simp [normV]

theorem put_len (out : List Rc) (k f t : Int) : (put out k f t).length ≤ out.length + 1 := by
  rcases List.eq_nil_or_concat out with rfl | ⟨o, ⟨a, b, c⟩, rfl⟩
  · rw [put_nil]; simp
  · by_cases h : a = k
    · subst h; simp only [List.concat_eq_append]; rw [put_same]; simp
    · simp only [List.concat_eq_append]; rw [put_other o h]; simp

/-- The normal timeline of minutes' kinds, the first of which is the minute m. -/
def ofS (s : List Rc × Int) (ks : List Int) : List Rc × Int := ks.foldl (fun s k => (put s.1 k s.2 (s.2 + 1), s.2 + 1)) s
def ofR (at_ : Int) (ks : List Int) : List Rc := (ofS ([], at_) ks).1

theorem of_same (out : List Rc) (k f : Int) : ∀ n, ofS (out, f) (List.replicate (n + 1) k) = (put out k f (f + (n + 1 : Nat)), f + (n + 1 : Nat))
  | 0 => by simp [ofS]
  | n + 1 => by
    rw [List.replicate_succ', ofS, List.foldl_append]
    have := of_same out k f n
    unfold ofS at this
    rw [this]
    simp only [List.foldl_cons, List.foldl_nil, put_put]
    have e : f + ((n + 1 : Nat) : Int) + 1 = f + ((n + 1 + 1 : Nat) : Int) := by omega
    rw [e]

theorem of_norm {l : List Rc} {e : Int} (h : Tl e l) : ∀ out, (ofS (out, e) (kindsV l)).1 = l.foldl (fun out r => put out r.1 r.2.1 r.2.2) out := by
  induction l generalizing e with
  | nil => intro out; rfl
  | cons r l ih =>
    intro out
    obtain ⟨⟨h1, h2⟩, h3, h4⟩ := h
    subst h3
    obtain ⟨n, hn⟩ : ∃ n : Nat, (r.2.2 - r.2.1).toNat = n + 1 := ⟨(r.2.2 - r.2.1).toNat - 1, by omega⟩
    rw [kinds_cons, hn]
    show (List.foldl _ (out, r.2.1) (_ ++ _)).1 = _
    rw [List.foldl_append]
    have := of_same out r.1 r.2.1 n
    unfold ofS at this
    rw [this]
    have e : r.2.1 + ((n + 1 : Nat) : Int) = r.2.2 := by omega
    rw [e]
    exact ih h4 _

theorem norm_of {l : List Rc} {e : Int} (h : Tl e l) : ofR (beg l) (kindsV l) = normV l := of_norm h.from_ []

theorem of_more {ks : List Int} {at_ : Int} {k : Nat} {x : Int} (hx : ks[k]? = some x) : ofR at_ (ks.take (k + 1)) = put (ofR at_ (ks.take k)) x (at_ + k) (at_ + k + 1) := by
  have hm : ∀ (ks : List Int) (s : List Rc × Int), (ofS s ks).2 = s.2 + ks.length := by
    intro ks
    induction ks with
    | nil => intro s; simp [ofS]
    | cons y ks ih =>
      intro s
      show (ofS _ ks).2 = _
      rw [ih]
      simp; omega
  rw [List.take_add_one, hx]
  unfold ofR
  simp only [Option.toList_some]
  rw [ofS, List.foldl_append]
  have h2 := hm (ks.take k) ([], at_)
  have hl : (ks.take k).length = k := by
    have := (List.getElem?_eq_some_iff.1 hx).1
    simp; omega
  rw [hl] at h2
  unfold ofS at h2 ⊢
  simp only [List.foldl_cons, List.foldl_nil]
  rw [h2]

theorem of_len (at_ : Int) (ks : List Int) : (ofR at_ ks).length ≤ ks.length := by
  have : ∀ (ks : List Int) (s : List Rc × Int), (ofS s ks).1.length ≤ s.1.length + ks.length := by
    intro ks
    induction ks with
    | nil => intro s; simp [ofS]
    | cons y ks ih =>
      intro s
      have := ih (put s.1 y s.2 (s.2 + 1), s.2 + 1)
      have h2 := put_len s.1 y s.2 (s.2 + 1)
      show (ofS (put s.1 y s.2 (s.2 + 1), s.2 + 1) ks).1.length ≤ _
      simp at this ⊢
      omega
  have h := this ks ([], at_)
  rw [List.length_nil, Nat.zero_add] at h
  exact h

/-- What Normal tells. -/
def nrmV (l : List Rc) : List Rc := if (checkV l).2 = 0 then normV l else []

theorem nrm_ok {l : List Rc} {e : Int} (h : Tl e l) : nrmV l = normV l := by unfold nrmV; rw [tl_check h]; exact if_pos rfl
theorem nrm_bad {l : List Rc} (h : (checkV l).2 ≠ 0) : nrmV l = [] := if_neg h

theorem norm_len (l : List Rc) : (normV l).length ≤ l.length := by
  have : ∀ (l : List Rc) (out : List Rc), (l.foldl (fun out r => put out r.1 r.2.1 r.2.2) out).length ≤ out.length + l.length := by
    intro l
    induction l with
    | nil => intro out; simp
    | cons r l ih =>
      intro out
      have := ih (put out r.1 r.2.1 r.2.2)
      have h2 := put_len out r.1 r.2.1 r.2.2
      simp only [List.foldl_cons, List.length_cons]
      omega
  have h := this l []
  rw [List.length_nil, Nat.zero_add] at h
  exact h

end Go.Proofs.Ytglgifhpacmhiaa
