/- The document's reckoning of layer 21 in whole numbers: loads that may be, the legs, the greatest one, the eased order. Conditions: none beyond each lemma's own premises. -/
import Derived.RowKit
import Derived.IntWalk
import Derived.Lib.Hide
import Derived.Test.YthgdclcmohgciaaMath
namespace Go.Proofs.Ythgdclcmohgciaa
open Go.RowKit

/-- A load that may be. -/
def Few21 (x : Int) : Prop := -1000000 ≤ x ∧ x ≤ 1000000
instance (x : Int) : Decidable (Few21 x) := by unfold Few21; infer_instance
def allF (l : List Int) : Bool := l.all fun x => decide (Few21 x)
/-- The error's number. -/
def chkL (l : List Int) : Int := if 2000 < l.length then 12 else if allF l then 0 else 4

theorem chkL_many {l : List Int} (h : 2000 < l.length) : chkL l = 12 := by unfold chkL; rw [if_pos h]
theorem chkL_wrong {l : List Int} (h : l.length ≤ 2000) {k : Nat} (hk : k < l.length) (hx : ¬ Few21 (l.getD k 0)) : chkL l = 4 := by
  unfold chkL
  rw [if_neg (by omega), if_neg]
  intro ha
  refine hx ?_
  have := List.all_eq_true.1 ha (l.getD k 0) (by simp [List.getD, hk])
  exact of_decide_eq_true this
theorem chkL_right {l : List Int} (h : l.length ≤ 2000) (ha : ∀ j, j < l.length → Few21 (l.getD j 0)) : chkL l = 0 := by
  unfold chkL
  rw [if_neg (by omega), if_pos]
  refine List.all_eq_true.2 fun x hx => ?_
  obtain ⟨i, hi, rfl⟩ := List.getElem_of_mem hx
  have := ha i hi
  simp only [List.getD, List.getElem?_eq_getElem hi, Option.getD_some] at this
  exact decide_eq_true this
theorem chkL_ok {l : List Int} (h : chkL l = 0) : l.length ≤ 2000 ∧ ∀ x ∈ l, Few21 x := by
  unfold chkL at h
  by_cases h1 : 2000 < l.length
  · rw [if_pos h1] at h; cases h
  · rw [if_neg h1] at h
    by_cases h2 : allF l = true
    · exact ⟨by omega, fun x hx => of_decide_eq_true (List.all_eq_true.1 h2 x hx)⟩
    · rw [if_neg h2] at h; cases h
theorem chkL_cases (l : List Int) : chkL l = 0 ∨ chkL l = 12 ∨ chkL l = 4 := by
  unfold chkL
  split
  · exact .inr (.inl rfl)
  · split
    · exact .inl rfl
    · exact .inr (.inr rfl)
theorem few_getD {l : List Int} (h : ∀ x ∈ l, Few21 x) (k : Nat) : Few21 (l.getD k 0) := by
  by_cases hk : k < l.length
  · exact h _ (by simp [List.getD, hk])
  · have : l.getD k 0 = 0 := by simp [List.getD, List.getElem?_eq_none (Nat.le_of_not_lt hk)]
    rw [this]; unfold Few21; omega

/-- A sum. -/
def sm : List Int → Int
  | [] => 0
  | x :: r => x + sm r
theorem sm_app (a b : List Int) : sm (a ++ b) = sm a + sm b := by
  induction a with
  | nil => simp [sm]
  | cons x r ih => rw [List.cons_append, sm, sm, ih]; omega
theorem sm_one (x : Int) : sm [x] = x := by simp [sm]
theorem take_more (l : List Int) {k : Nat} (h : k < l.length) : l.take (k + 1) = l.take k ++ [l.getD k 0] := by
  rw [List.take_add_one, List.getElem?_eq_getElem h]
  simp [List.getD, h]
theorem sm_take (l : List Int) {k : Nat} (h : k < l.length) : sm (l.take (k + 1)) = sm (l.take k) + l.getD k 0 := by
  rw [take_more l h, sm_app, sm_one]
theorem sm_nonneg : ∀ {l : List Int}, (∀ x ∈ l, 0 ≤ x) → 0 ≤ sm l
  | [], _ => by simp [sm]
  | x :: r, h => by
    have h1 := sm_nonneg (l := r) fun y hy => h y (List.mem_cons_of_mem _ hy)
    have h2 := h x (List.mem_cons_self ..)
    rw [sm]; omega
theorem sm_nonpos : ∀ {l : List Int}, (∀ x ∈ l, x ≤ 0) → sm l ≤ 0
  | [], _ => by simp [sm]
  | x :: r, h => by
    have h1 := sm_nonpos (l := r) fun y hy => h y (List.mem_cons_of_mem _ hy)
    have h2 := h x (List.mem_cons_self ..)
    rw [sm]; omega
theorem sm_bd : ∀ {l : List Int}, (∀ x ∈ l, Few21 x) → -(1000000 * (l.length : Int)) ≤ sm l ∧ sm l ≤ 1000000 * (l.length : Int)
  | [], _ => by simp [sm]
  | x :: r, h => by
    have h1 := sm_bd (l := r) fun y hy => h y (List.mem_cons_of_mem _ hy)
    have h2 := h x (List.mem_cons_self ..)
    unfold Few21 at h2
    rw [sm, List.length_cons]; omega
theorem sm_perm {a b : List Int} (h : a.Perm b) : sm a = sm b := by
  induction h with
  | nil => rfl
  | cons x _ ih => rw [sm, sm, ih]
  | swap x y l => simp only [sm]; omega
  | trans _ _ h1 h2 => exact h1.trans h2

/-- What is brought, and the others. -/
def bro (l : List Int) : List Int := l.filter fun x => decide (0 < x)
def oth (l : List Int) : List Int := l.filter fun x => !decide (0 < x)
def easeV (l : List Int) : List Int := bro l ++ oth l
theorem bro_more (l : List Int) {k : Nat} (h : k < l.length) (hx : 0 < l.getD k 0) : bro (l.take (k + 1)) = bro (l.take k) ++ [l.getD k 0] ∧ oth (l.take (k + 1)) = oth (l.take k) := by
  rw [take_more l h]
  unfold bro oth
  rw [List.filter_append, List.filter_append, List.filter_cons_of_pos (by simpa using hx), List.filter_cons_of_neg (by simpa using hx)]
  exact ⟨rfl, by simp⟩
theorem oth_more (l : List Int) {k : Nat} (h : k < l.length) (hx : ¬ 0 < l.getD k 0) : bro (l.take (k + 1)) = bro (l.take k) ∧ oth (l.take (k + 1)) = oth (l.take k) ++ [l.getD k 0] := by
  rw [take_more l h]
  unfold bro oth
  rw [List.filter_append, List.filter_append, List.filter_cons_of_neg (by simpa using hx), List.filter_cons_of_pos (by simpa using hx)]
  exact ⟨by simp, rfl⟩
theorem bro_len (l : List Int) : (bro l).length ≤ l.length := List.length_filter_le ..
theorem oth_len (l : List Int) : (oth l).length ≤ l.length := List.length_filter_le ..
theorem take_len (l : List Int) (k : Nat) : (l.take k).length ≤ k := by rw [List.length_take]; exact Nat.min_le_left ..
theorem bro_pos {l : List Int} {x : Int} (h : x ∈ bro l) : 0 < x ∧ x ∈ l := by
  have := List.mem_filter.1 h
  exact ⟨of_decide_eq_true this.2, this.1⟩
theorem oth_neg {l : List Int} {x : Int} (h : x ∈ oth l) : x ≤ 0 ∧ x ∈ l := by
  have := List.mem_filter.1 h
  have h2 := this.2
  simp at h2
  exact ⟨h2, this.1⟩
theorem ease_perm (l : List Int) : (easeV l).Perm l := List.filter_append_perm _ l

/-- All that is brought; what lies on the truck on a leg; the legs. -/
def upL (l : List Int) : Int := sm (bro l)
def legAt (l : List Int) (k : Nat) : Int := upL l - sm (l.take k)
def legsV (l : List Int) : List Int := (List.range (l.length + 1)).map (legAt l)
def legsTo (l : List Int) (k : Nat) : List Int := (List.range k).map (legAt l)
theorem legsTo_more (l : List Int) (k : Nat) : legsTo l (k + 1) = legsTo l k ++ [legAt l k] := by
  unfold legsTo
  rw [List.range_succ, List.map_append]; rfl
theorem legsTo_len (l : List Int) (k : Nat) : (legsTo l k).length = k := by unfold legsTo; rw [List.length_map, List.length_range]
theorem legsTo_all (l : List Int) : legsTo l (l.length + 1) = legsV l := rfl
theorem legsV_len (l : List Int) : (legsV l).length = l.length + 1 := legsTo_len l _
theorem legsV_at (l : List Int) {k : Nat} (h : k ≤ l.length) : (legsV l).getD k 0 = legAt l k := by
  unfold legsV
  simp [List.getD, show k < l.length + 1 by omega]
theorem legAt_zero (l : List Int) : legAt l 0 = upL l := by unfold legAt; simp [sm]
theorem legAt_more (l : List Int) {k : Nat} (h : k < l.length) : legAt l (k + 1) = legAt l k - l.getD k 0 := by
  unfold legAt
  rw [sm_take l h]; omega
theorem legAt_end (l : List Int) : legAt l l.length = upL l - sm l := by unfold legAt; rw [List.take_length]

theorem upL_app (a b : List Int) : upL (a ++ b) = upL a + upL b := by unfold upL bro; rw [List.filter_append, sm_app]
theorem upL_nonneg (l : List Int) : 0 ≤ upL l := sm_nonneg fun x hx => by have := (bro_pos hx).1; omega
theorem upL_ge (l : List Int) : sm l ≤ upL l := by
  have h1 := sm_perm (ease_perm l)
  unfold easeV at h1
  rw [sm_app] at h1
  have h2 : sm (oth l) ≤ 0 := sm_nonpos fun x hx => (oth_neg hx).1
  unfold upL
  omega
theorem upL_le {l : List Int} (h : ∀ x ∈ l, Few21 x) : upL l ≤ 1000000 * (l.length : Int) := by
  have := (sm_bd (l := bro l) fun x hx => h x (bro_pos hx).2).2
  have := bro_len l
  unfold upL
  omega
theorem upL_perm {a b : List Int} (h : a.Perm b) : upL a = upL b := sm_perm (h.filter _)
theorem upL_take (l : List Int) {k : Nat} (h : k < l.length) : upL (l.take (k + 1)) = upL (l.take k) + max (l.getD k 0) 0 := by
  rw [take_more l h, upL_app]
  congr 1
  unfold upL bro
  by_cases hx : 0 < l.getD k 0
  · rw [List.filter_cons_of_pos (by simpa using hx)]
    simp only [List.filter_nil, sm]; omega
  · rw [List.filter_cons_of_neg (by simpa using hx)]
    simp only [List.filter_nil, sm]; omega
theorem take_few {l : List Int} (h : ∀ x ∈ l, Few21 x) (k : Nat) : ∀ x ∈ l.take k, Few21 x := fun x hx => h x (List.mem_of_mem_take hx)
theorem legAt_nonneg (l : List Int) (k : Nat) : 0 ≤ legAt l k := by
  have h1 := upL_app (l.take k) (l.drop k)
  rw [List.take_append_drop] at h1
  have h2 := upL_ge (l.take k)
  have h3 := upL_nonneg (l.drop k)
  unfold legAt
  omega
theorem legAt_le {l : List Int} (h : ∀ x ∈ l, Few21 x) (hl : l.length ≤ 2000) (k : Nat) : legAt l k ≤ 4000000000 := by
  have h1 := upL_le h
  have h2 := (sm_bd (take_few h k)).1
  have h3 : (l.take k).length ≤ l.length := by rw [List.length_take]; exact Nat.min_le_right ..
  unfold legAt
  omega

/-- What Add of layer 1 tells of what is brought. -/
theorem sums_up : ∀ (b : List Int) (acc : Int), 0 ≤ acc → (∀ x ∈ b, 0 < x ∧ Few21 x) → acc + 1000000 * (b.length : Int) ≤ 9223372036854775807 → sums acc b = (acc + sm b, 0)
  | [], acc, _, _, _ => by rw [sums_nil, sm]; simp
  | x :: r, acc, h0, h, h1 => by
    have hx := h x (List.mem_cons_self ..)
    unfold Few21 at hx
    rw [List.length_cons] at h1
    rw [sums_in _ _ _ (by omega), sums_up r (acc + x) (by omega) (fun y hy => h y (List.mem_cons_of_mem _ hy)) (by omega), sm]
    congr 1
    omega
theorem sums_bro {l : List Int} (h : ∀ x ∈ l, Few21 x) (hl : l.length ≤ 2000) : sums 0 (bro l) = (upL l, 0) := by
  have hb := bro_len l
  rw [sums_up (bro l) 0 (Int.le_refl _) (fun x hx => ⟨(bro_pos hx).1, h x (bro_pos hx).2⟩) (by omega)]
  unfold upL
  rw [Int.zero_add]

/-- A leg as the document reckons it: stop by stop. -/
def rv (leg j : Nat) (x : Int) : Int := if 0 < x ∧ leg ≤ j then x else if x < 0 ∧ j < leg then -x else 0
def refN (l : List Int) (leg : Nat) : Nat → Int
  | 0 => 0
  | i + 1 => refN l leg i + rv leg i (l.getD i 0)
theorem refN_is (l : List Int) (leg : Nat) : ∀ i, i ≤ l.length → refN l leg i = upL (l.take i) - sm (l.take (min leg i))
  | 0, _ => by simp [refN, upL, bro, sm]
  | i + 1, h => by
    have ih := refN_is l leg i (by omega)
    have hu := upL_take l (k := i) (by omega)
    rw [refN, ih, hu]
    unfold rv
    by_cases hlt : i < leg
    · rw [Nat.min_eq_right (by omega), Nat.min_eq_right (by omega), sm_take l (by omega), if_neg (by omega)]
      by_cases hx : l.getD i 0 < 0
      · rw [if_pos ⟨hx, hlt⟩]; omega
      · rw [if_neg (by omega)]; omega
    · rw [Nat.min_eq_left (by omega), Nat.min_eq_left (by omega)]
      by_cases hx : 0 < l.getD i 0
      · rw [if_pos ⟨hx, by omega⟩]; omega
      · rw [if_neg (by omega), if_neg (by omega)]; omega
theorem refN_all (l : List Int) {leg : Nat} (h : leg ≤ l.length) : refN l leg l.length = legAt l leg := by
  rw [refN_is l leg l.length (Nat.le_refl _), Nat.min_eq_left h, List.take_length]; rfl
theorem refN_bd {l : List Int} (h : ∀ x ∈ l, Few21 x) (leg : Nat) : ∀ i, 0 ≤ refN l leg i ∧ refN l leg i ≤ 1000000 * (i : Int)
  | 0 => by simp [refN]
  | i + 1 => by
    have ih := refN_bd h leg i
    have hx := few_getD h i
    unfold Few21 at hx
    rw [refN]
    unfold rv
    split
    · omega
    · split
      · omega
      · omega

/-- The greatest of some numbers, none of which is below 0. -/
def pk (b : List Int) : Nat → Int
  | 0 => 0
  | k + 1 => max (pk b k) (b.getD k 0)
/-- The greatest of some numbers, at least one. -/
def mxL (b : List Int) : Nat → Int
  | 0 => b.getD 0 0
  | k + 1 => max (mxL b k) (b.getD k 0)
theorem mxL_one (b : List Int) : mxL b 1 = b.getD 0 0 := by simp [mxL]
theorem mxL_pk {b : List Int} (h : 0 ≤ b.getD 0 0) : ∀ k, mxL b (k + 1) = pk b (k + 1)
  | 0 => by rw [mxL_one, pk, pk]; omega
  | k + 1 => by
    show max (mxL b (k + 1)) _ = max (pk b (k + 1)) _
    rw [mxL_pk h k]
theorem pk_ge {b : List Int} : ∀ (k : Nat), ∀ j, j < k → b.getD j 0 ≤ pk b k
  | 0, j, h => by omega
  | k + 1, j, h => by
    rw [pk]
    by_cases e : j = k
    · subst e; omega
    · have := pk_ge (b := b) k j (by omega); omega
theorem pk_le {b : List Int} {m : Int} (hm : 0 ≤ m) : ∀ (k : Nat), (∀ j, j < k → b.getD j 0 ≤ m) → pk b k ≤ m
  | 0, _ => hm
  | k + 1, h => by
    rw [pk]
    have h1 := pk_le (b := b) hm k fun j hj => h j (by omega)
    have h2 := h k (by omega)
    omega
def peakV (l : List Int) : Int := pk (legsV l) (l.length + 1)
theorem peakV_mx (l : List Int) : mxL (legsV l) (l.length + 1) = peakV l := mxL_pk (by rw [legsV_at l (Nat.zero_le _)]; exact legAt_nonneg l 0) _
theorem peakV_ge (l : List Int) : upL l ≤ peakV l ∧ upL l - sm l ≤ peakV l := by
  have h1 := pk_ge (b := legsV l) (l.length + 1) 0 (by omega)
  have h2 := pk_ge (b := legsV l) (l.length + 1) l.length (by omega)
  rw [legsV_at l (Nat.zero_le _), legAt_zero] at h1
  rw [legsV_at l (Nat.le_refl _), legAt_end] at h2
  exact ⟨h1, h2⟩
/-- What is brought first: the greatest leg is the first one or the last one. -/
theorem ease_leg (l : List Int) (k : Nat) : legAt (easeV l) k ≤ upL l ∨ legAt (easeV l) k ≤ upL l - sm l := by
  have hu := upL_perm (ease_perm l)
  have hs := sm_perm (ease_perm l)
  unfold legAt
  rw [hu]
  by_cases hk : k ≤ (bro l).length
  · left
    have : (easeV l).take k = (bro l).take k := by unfold easeV; rw [List.take_append_of_le_length hk]
    rw [this]
    have := sm_nonneg (l := (bro l).take k) fun x hx => by have := (bro_pos (List.mem_of_mem_take hx)).1; omega
    omega
  · right
    have h1 : sm ((easeV l).drop k) ≤ 0 := by
      refine sm_nonpos fun x hx => ?_
      unfold easeV at hx
      rw [List.drop_append, List.drop_eq_nil_of_le (by omega), List.nil_append] at hx
      exact (oth_neg (List.mem_of_mem_drop hx)).1
    have h2 := sm_app ((easeV l).take k) ((easeV l).drop k)
    rw [List.take_append_drop] at h2
    omega
theorem ease_least {l m : List Int} (h : m.Perm l) : peakV (easeV l) ≤ peakV m := by
  obtain ⟨h1, h2⟩ := peakV_ge m
  rw [upL_perm h] at h1 h2
  rw [sm_perm h] at h2
  have h0 := upL_nonneg l
  refine pk_le (by omega) _ fun j hj => ?_
  rw [legsV_at _ (by omega)]
  rcases ease_leg l j with h | h <;> omega
theorem chkL_perm {a b : List Int} (h : a.Perm b) : chkL a = chkL b := by
  unfold chkL
  rw [h.length_eq]
  have : allF a = allF b := by
    unfold allF
    rw [Bool.eq_iff_iff]
    simp only [List.all_eq_true]
    exact ⟨fun hh x hx => hh x (h.mem_iff.2 hx), fun hh x hx => hh x (h.mem_iff.1 hx)⟩
  rw [this]

/-- What Legs, Peak and Fits tell of any loads. -/
def legsE (l : List Int) : List Int := if chkL l = 0 then legsV l else []
def peakE (l : List Int) : Int := if chkL l = 0 then peakV l else 0
def fitsE (room : Int) (l : List Int) : Bool := decide (chkL l = 0 ∧ peakV l ≤ room)
theorem legsE_ok {l : List Int} (h : chkL l = 0) : legsE l = legsV l := if_pos h
theorem legsE_no {l : List Int} (h : chkL l ≠ 0) : legsE l = [] := if_neg h
theorem peakE_ok {l : List Int} (h : chkL l = 0) : peakE l = peakV l := if_pos h
theorem peakE_no {l : List Int} (h : chkL l ≠ 0) : peakE l = 0 := if_neg h

/-- Two numbers that change places. -/
theorem swap_perm (o : List Int) {i p : Nat} (hi : i < o.length) (hp : p < o.length) : ((o.set i (o.getD p 0)).set p (o.getD i 0)).Perm o := by
  have e1 : o.getD p 0 = o[p] := by simp [List.getD, hp]
  have e2 : o.getD i 0 = o[i] := by simp [List.getD, hi]
  rw [e1, e2]
  exact List.set_set_perm hi hp

/-- The eased loads as the document finds them: kind by kind. -/
def kin (k : Nat) (x : Int) : Bool := decide (decide (0 < x) = decide (k = 0))
theorem kin_zero (l : List Int) : l.filter (kin 0) = bro l := by
  unfold bro
  congr 1
  funext x
  unfold kin
  by_cases h : 0 < x <;> simp [h]
theorem kin_one (l : List Int) : l.filter (kin 1) = oth l := by
  unfold oth
  congr 1
  funext x
  unfold kin
  by_cases h : 0 < x <;> simp [h]

end Go.Proofs.Ythgdclcmohgciaa
