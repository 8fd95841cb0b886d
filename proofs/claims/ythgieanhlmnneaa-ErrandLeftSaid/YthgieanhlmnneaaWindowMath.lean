/- Windows in plain words: what is wrong with them, the last minute, the next one, and what follows. Conditions: none beyond each lemma's own premises. -/
import Derived.Test.YthgieanhlmnneaaBase
import Derived.Test.YthgieanhlmnneaaIvalsMath
import Derived.Test.YthgieanhlmnneaaIvalsMath2
import Derived.Test.YthgieanhlmnneaaIvalsMath3
namespace Go.Proofs.Ythgieanhlmnneaa

def last1 (acc : Int × Bool) (s : Sp) : Int × Bool :=
  if s.1 < s.2 ∧ (acc.2 = false ∨ acc.1 < s.2 - 1) then (s.2 - 1, true) else acc

def lastL (l : List Sp) : Int × Bool := l.foldl last1 (0, false)

theorem last_more (l : List Sp) (k : Nat) (h : k < l.length) : (l.take (k + 1)).foldl last1 (0, false) = last1 ((l.take k).foldl last1 (0, false)) (l.getD k (0, 0)) := by
  rw [take_more l (0, 0) k h, List.foldl_append]; rfl

theorem last_stop {l : List Sp} {k : Nat} {acc : Int × Bool} (hk : l.length ≤ k) (h : (l.take k).foldl last1 (0, false) = acc) : lastL l = acc := by
  rw [List.take_of_length_le hk] at h; exact h

theorem last_skip {acc : Int × Bool} {s : Sp} (h : ¬ s.1 < s.2) : last1 acc s = acc := by unfold last1; rw [if_neg (fun k => h k.1)]

theorem last_first {z : Int} {s : Sp} (h : s.1 < s.2) : last1 (z, false) s = (s.2 - 1, true) := by unfold last1; rw [if_pos ⟨h, Or.inl rfl⟩]

theorem last_take {z : Int} {s : Sp} (h : s.1 < s.2) (h2 : z < s.2 - 1) : last1 (z, true) s = (s.2 - 1, true) := by unfold last1; rw [if_pos ⟨h, Or.inr h2⟩]

theorem last_leave {z : Int} {s : Sp} (h2 : ¬ z < s.2 - 1) : last1 (z, true) s = (z, true) := by
  unfold last1; rw [if_neg]; rintro ⟨_, k | k⟩
  · cases k
  · exact h2 k

theorem last_from : ∀ (l : List Sp) (acc : Int × Bool),
    ((l.foldl last1 acc).2 = false → acc.2 = false ∧ ∀ s ∈ l, ¬ s.1 < s.2) ∧
    ((l.foldl last1 acc).2 = true → ((acc.2 = true ∧ (l.foldl last1 acc).1 = acc.1) ∨ ∃ s ∈ l, s.1 < s.2 ∧ (l.foldl last1 acc).1 = s.2 - 1) ∧
      (acc.2 = true → acc.1 ≤ (l.foldl last1 acc).1) ∧ ∀ s ∈ l, s.1 < s.2 → s.2 - 1 ≤ (l.foldl last1 acc).1)
  | [], acc => ⟨fun h => ⟨h, by simp⟩, fun h => ⟨Or.inl ⟨h, rfl⟩, fun _ => Int.le_refl _, by simp⟩⟩
  | s :: l, acc => by
    obtain ⟨i1, i2⟩ := last_from l (last1 acc s)
    rw [List.foldl_cons]
    by_cases hs : s.1 < s.2 ∧ (acc.2 = false ∨ acc.1 < s.2 - 1)
    · have e : last1 acc s = (s.2 - 1, true) := if_pos hs
      rw [e] at i1 i2 ⊢
      refine ⟨fun h => absurd (i1 h).1 (by simp), fun h => ?_⟩
      obtain ⟨j1, j2, j3⟩ := i2 h
      refine ⟨Or.inr ?_, fun ha => ?_, fun t ht hr => ?_⟩
      · rcases j1 with ⟨_, j⟩ | ⟨t, ht, j⟩
        · exact ⟨s, List.mem_cons_self .., hs.1, j⟩
        · exact ⟨t, List.mem_cons_of_mem _ ht, j⟩
      · have := j2 rfl
        rcases hs.2 with k | k
        · rw [ha] at k; cases k
        · simp only at this; omega
      · rcases List.mem_cons.1 ht with rfl | ht
        · exact j2 rfl
        · exact j3 t ht hr
    · have e : last1 acc s = acc := if_neg hs
      rw [e] at i1 i2 ⊢
      refine ⟨fun h => ?_, fun h => ?_⟩
      · obtain ⟨a, b⟩ := i1 h
        refine ⟨a, fun t ht => ?_⟩
        rcases List.mem_cons.1 ht with rfl | ht
        · exact fun k => hs ⟨k, Or.inl a⟩
        · exact b t ht
      · obtain ⟨j1, j2, j3⟩ := i2 h
        refine ⟨?_, j2, fun t ht hr => ?_⟩
        · rcases j1 with j | ⟨t, ht, j⟩
          · exact Or.inl j
          · exact Or.inr ⟨t, List.mem_cons_of_mem _ ht, j⟩
        · rcases List.mem_cons.1 ht with rfl | ht
          · have ha : acc.2 = true := by
              cases h2 : acc.2 with
              | true => rfl
              | false => exact absurd ⟨hr, Or.inl h2⟩ hs
            have := j2 ha
            have : ¬ acc.1 < t.2 - 1 := fun k => hs ⟨hr, Or.inr k⟩
            omega
          · exact j3 t ht hr

theorem next_from (m : Int) : ∀ (l : List Sp) (acc : Int × Bool),
    ((l.foldl (next1 m) acc).2 = false → acc.2 = false ∧ ∀ s ∈ l, ¬ (s.1 < s.2 ∧ m < s.2)) ∧
    ((l.foldl (next1 m) acc).2 = true → ((acc.2 = true ∧ (l.foldl (next1 m) acc).1 = acc.1) ∨ ∃ s ∈ l, s.1 ≤ (l.foldl (next1 m) acc).1 ∧ (l.foldl (next1 m) acc).1 < s.2 ∧ m ≤ (l.foldl (next1 m) acc).1) ∧
      (acc.2 = true → (l.foldl (next1 m) acc).1 ≤ acc.1) ∧ ∀ s ∈ l, s.1 < s.2 → m < s.2 → ∀ n, m ≤ n → s.1 ≤ n → (l.foldl (next1 m) acc).1 ≤ n)
  | [], acc => ⟨fun h => ⟨h, by simp⟩, fun h => ⟨Or.inl ⟨h, rfl⟩, fun _ => Int.le_refl _, by simp⟩⟩
  | s :: l, acc => by
    obtain ⟨i1, i2⟩ := next_from m l (next1 m acc s)
    rw [List.foldl_cons]
    by_cases hs : s.1 < s.2 ∧ m < s.2
    · obtain ⟨k, hk⟩ : ∃ k, (if s.1 < m then m else s.1) = k := ⟨_, rfl⟩
      have kb : s.1 ≤ k ∧ m ≤ k ∧ k < s.2 ∧ (k = m ∨ k = s.1) := by
        rw [← hk]; split <;> (refine ⟨?_, ?_, ?_, ?_⟩ <;> omega)
      by_cases hc : acc.2 = false ∨ k < acc.1
      · have e : next1 m acc s = (k, true) := by unfold next1; rw [if_pos hs, hk, if_pos hc]
        rw [e] at i1 i2 ⊢
        refine ⟨fun h => absurd (i1 h).1 (by simp), fun h => ?_⟩
        obtain ⟨j1, j2, j3⟩ := i2 h
        have j2' := j2 rfl
        simp only at j2'
        refine ⟨Or.inr ?_, fun ha => ?_, fun t ht hr hm n h1 h2 => ?_⟩
        · rcases j1 with ⟨_, j⟩ | ⟨t, ht, j⟩
          · simp only at j
            exact ⟨s, List.mem_cons_self .., by omega, by omega, by omega⟩
          · exact ⟨t, List.mem_cons_of_mem _ ht, j⟩
        · rcases hc with c | c
          · rw [ha] at c; cases c
          · omega
        · rcases List.mem_cons.1 ht with rfl | ht
          · omega
          · exact j3 t ht hr hm n h1 h2
      · have e : next1 m acc s = acc := by unfold next1; rw [if_pos hs, hk, if_neg hc]
        have ha : acc.2 = true := by
          cases h2 : acc.2 with
          | true => rfl
          | false => exact absurd (Or.inl h2) hc
        have hk2 : ¬ k < acc.1 := fun h => hc (Or.inr h)
        rw [e] at i1 i2 ⊢
        refine ⟨fun h => absurd (i1 h).1 (by rw [ha]; simp), fun h => ?_⟩
        obtain ⟨j1, j2, j3⟩ := i2 h
        have j2' := j2 ha
        refine ⟨?_, j2, fun t ht hr hm n h1 h2 => ?_⟩
        · rcases j1 with j | ⟨t, ht, j⟩
          · exact Or.inl j
          · exact Or.inr ⟨t, List.mem_cons_of_mem _ ht, j⟩
        · rcases List.mem_cons.1 ht with rfl | ht
          · omega
          · exact j3 t ht hr hm n h1 h2
    · have e : next1 m acc s = acc := by unfold next1; rw [if_neg hs]
      rw [e] at i1 i2 ⊢
      refine ⟨fun h => ?_, fun h => ?_⟩
      · obtain ⟨a, b⟩ := i1 h
        refine ⟨a, fun t ht => ?_⟩
        rcases List.mem_cons.1 ht with rfl | ht
        · exact hs
        · exact b t ht
      · obtain ⟨j1, j2, j3⟩ := i2 h
        refine ⟨?_, j2, fun t ht hr hm => ?_⟩
        · rcases j1 with j | ⟨t, ht, j⟩
          · exact Or.inl j
          · exact Or.inr ⟨t, List.mem_cons_of_mem _ ht, j⟩
        · rcases List.mem_cons.1 ht with rfl | ht
          · exact absurd ⟨hr, hm⟩ hs
          · exact j3 t ht hr hm

theorem last_no {l : List Sp} (h : (lastL l).2 = false) (n : Int) : hasL l n = false := by
  rw [hasL_no]; intro s hs k
  exact ((last_from l (0, false)).1 h).2 s hs (by omega)

theorem last_has {l : List Sp} (h : (lastL l).2 = true) : hasL l (lastL l).1 = true := by
  obtain ⟨j1, _, _⟩ := (last_from l (0, false)).2 h
  rcases j1 with ⟨k, _⟩ | ⟨s, hs, h1, h2⟩
  · cases k
  · rw [hasL_iff]
    refine ⟨s, hs, ?_⟩
    unfold lastL
    omega

theorem last_end {l : List Sp} (h : (lastL l).2 = true) {n : Int} (hn : (lastL l).1 < n) : hasL l n = false := by
  obtain ⟨_, _, j3⟩ := (last_from l (0, false)).2 h
  rw [hasL_no]; intro s hs k
  have := j3 s hs (by omega)
  unfold lastL at hn
  omega

theorem next_no {l : List Sp} {m : Int} (h : (nextL l m).2 = false) {n : Int} (hn : m ≤ n) : hasL l n = false := by
  rw [hasL_no]; intro s hs k
  exact ((next_from m l (0, false)).1 h).2 s hs (by omega)

theorem next_has {l : List Sp} {m : Int} (h : (nextL l m).2 = true) : m ≤ (nextL l m).1 ∧ hasL l (nextL l m).1 = true := by
  obtain ⟨j1, _, _⟩ := (next_from m l (0, false)).2 h
  rcases j1 with ⟨k, _⟩ | ⟨s, hs, h1, h2, h3⟩
  · cases k
  · exact ⟨h3, hasL_iff.2 ⟨s, hs, h1, h2⟩⟩

theorem next_none {l : List Sp} {m : Int} (h : (nextL l m).2 = true) {n : Int} (hn : m ≤ n) (h2 : n < (nextL l m).1) : hasL l n = false := by
  obtain ⟨_, _, j3⟩ := (next_from m l (0, false)).2 h
  rw [hasL_no]; intro s hs k
  have := j3 s hs (by omega) (by omega) n hn k.1
  unfold nextL at h2
  omega

theorem next_last {l : List Sp} {m : Int} (h : (nextL l m).2 = true) : (lastL l).2 = true ∧ (nextL l m).1 ≤ (lastL l).1 := by
  have hh := (next_has h).2
  have ht : (lastL l).2 = true := by
    cases h2 : (lastL l).2 with
    | true => rfl
    | false => rw [last_no h2] at hh; cases hh
  refine ⟨ht, ?_⟩
  rcases Int.lt_or_le (lastL l).1 (nextL l m).1 with k | k
  · rw [last_end ht k] at hh; cases hh
  · exact k

/-- A window that is not right; one that is not within the limits. -/
def wrongS (s : Sp) : Bool := !decide (s.1 < s.2)
def rangeS (s : Sp) : Bool := decide (s.1 < 0) || decide (40320 < s.2)

/-- What is wrong with windows, by the error's number. -/
def checkW (l : List Sp) : Int :=
  if l.length = 0 then 13 else if 8 < l.length then 12 else if l.any wrongS then 3 else if l.any rangeS then 4 else if rightB l then 0 else 6

theorem any_at {p : Sp → Bool} {l : List Sp} {k : Nat} (h : k < l.length) (hp : p (l.getD k (0, 0)) = true) : l.any p = true :=
  List.any_eq_true.2 ⟨_, getD_mem h, hp⟩

theorem any_none {p : Sp → Bool} {l : List Sp} {k : Nat} (hk : l.length ≤ k) (h : ∀ j, j < k → p (l.getD j (0, 0)) = false) : l.any p = false := by
  rw [List.any_eq_false]
  intro s hs
  obtain ⟨j, hj, e⟩ := List.getElem_of_mem hs
  have := h j (by omega)
  rw [List.getD_eq_getElem?_getD, List.getElem?_eq_getElem hj] at this
  simp only [Option.getD_some, e] at this
  rw [this]; simp

theorem check_none {l : List Sp} (h : l.length = 0) : checkW l = 13 := if_pos h
theorem check_many {l : List Sp} (h : 8 < l.length) : checkW l = 12 := by unfold checkW; rw [if_neg (by omega), if_pos h]
theorem check_wrong {l : List Sp} (h0 : l.length ≠ 0) (h : ¬ 8 < l.length) (h1 : l.any wrongS = true) : checkW l = 3 := by unfold checkW; rw [if_neg h0, if_neg h, if_pos h1]
theorem check_range {l : List Sp} (h0 : l.length ≠ 0) (h : ¬ 8 < l.length) (h1 : l.any wrongS = false) (h2 : l.any rangeS = true) : checkW l = 4 := by
  unfold checkW; rw [if_neg h0, if_neg h, if_neg (by rw [h1]; simp), if_pos h2]
theorem check_right {l : List Sp} (h0 : l.length ≠ 0) (h : ¬ 8 < l.length) (h1 : l.any wrongS = false) (h2 : l.any rangeS = false) (h3 : rightB l = true) : checkW l = 0 := by
  unfold checkW; rw [if_neg h0, if_neg h, if_neg (by rw [h1]; simp), if_neg (by rw [h2]; simp), if_pos h3]
theorem check_over {l : List Sp} (h0 : l.length ≠ 0) (h : ¬ 8 < l.length) (h1 : l.any wrongS = false) (h2 : l.any rangeS = false) (h3 : rightB l = false) : checkW l = 6 := by
  unfold checkW; rw [if_neg h0, if_neg h, if_neg (by rw [h1]; simp), if_neg (by rw [h2]; simp), if_neg (by rw [h3]; simp)]

end Go.Proofs.Ythgieanhlmnneaa
