/- Meters at spots, in plain words: what is put where, what stays, and at which spots there is one. Conditions: none beyond each lemma's own premises. -/
import Derived.Test.YtglgifhpacmhiaaRows
import Derived.Test.YtglgifhpacmhiaaBase
import Derived.Test.YtglgifhpacmhiaaRecMath
import Derived.Test.YtglgifhpacmhiaaBelowMath
namespace Go.Proofs.Ytglgifhpacmhiaa
open Go.RowKit

/-- A meter at a spot. -/
abbrev Ad := Rc × Mt

/-- One of l is m, or is under it. -/
noncomputable def hitF (x : Nat → Int) (l : List Mt) (m : Mt) : Bool := l.any fun o => tf (o = m ∨ Un x o m)
/-- Those of l that m is not under. -/
noncomputable def restF (x : Nat → Int) (l : List Mt) (m : Mt) : List Mt := l.filter fun o => !tf (Un x m o)
/-- What is at the spot s. -/
def allF (y : List Ad) (s : Rc) : List Mt := (y.filter fun a => decide (a.1 = s)).map (·.2)
/-- What stays, where m comes to s. -/
noncomputable def leftF (x : Nat → Int) (y : List Ad) (s : Rc) (m : Mt) : List Ad := y.filter fun a => !(decide (a.1 = s) && tf (Un x m a.2))
noncomputable def putF (x : Nat → Int) (y : List Ad) (s : Rc) (m : Mt) : List Ad := if hitF x (allF y s) m then y else leftF x y s m ++ [(s, m)]

theorem allF_nil (s : Rc) : allF [] s = [] := rfl
theorem allF_cons (a : Ad) (y : List Ad) (s : Rc) : allF (a :: y) s = if a.1 = s then a.2 :: allF y s else allF y s := by
  unfold allF
  by_cases h : a.1 = s
  · rw [List.filter_cons_of_pos (by simpa using h), if_pos h, List.map_cons]
  · rw [List.filter_cons_of_neg (by simpa using h), if_neg h]
theorem allF_append (a b : List Ad) (s : Rc) : allF (a ++ b) s = allF a s ++ allF b s := by simp [allF]
theorem allF_one (s t : Rc) (m : Mt) : allF [(t, m)] s = if t = s then [m] else [] := by rw [allF_cons]; rfl
theorem allF_mem {y : List Ad} {s : Rc} {m : Mt} : m ∈ allF y s ↔ (s, m) ∈ y := by
  unfold allF
  rw [List.mem_map]
  constructor
  · rintro ⟨a, ha, rfl⟩
    obtain ⟨h1, h2⟩ := List.mem_filter.1 ha
    have h2 := of_decide_eq_true h2
    subst h2
    exact h1
  · exact fun h => ⟨(s, m), List.mem_filter.2 ⟨h, by simp⟩, rfl⟩
theorem allF_len (y : List Ad) (s : Rc) : (allF y s).length = (y.filter fun a => decide (a.1 = s)).length := by simp [allF]
theorem allF_le (y : List Ad) (s : Rc) : (allF y s).length ≤ y.length := by rw [allF_len]; exact List.length_filter_le _ _

theorem allF_left_same (x : Nat → Int) (y : List Ad) (s : Rc) (m : Mt) : allF (leftF x y s m) s = restF x (allF y s) m := by
  induction y with
  | nil => rfl
  | cons a y ih =>
    unfold leftF at *
    rw [allF_cons]
    by_cases h : a.1 = s
    · rw [if_pos h]
      unfold restF at *
      by_cases hu : tf (Un x m a.2) = true
      · rw [List.filter_cons_of_neg (by simp [h, hu]), List.filter_cons_of_neg (by simp [hu]), ih]
      · rw [List.filter_cons_of_pos (by simp [hu]), List.filter_cons_of_pos (by simpa using hu), allF_cons, if_pos h, ih]
    · rw [if_neg h, List.filter_cons_of_pos (by simp [h]), allF_cons, if_neg h, ih]

theorem allF_left_other {x : Nat → Int} {y : List Ad} {s t : Rc} {m : Mt} (ht : t ≠ s) : allF (leftF x y s m) t = allF y t := by
  induction y with
  | nil => rfl
  | cons a y ih =>
    unfold leftF at *
    by_cases h : a.1 = s
    · have h2 : ¬ a.1 = t := fun e => ht (e ▸ h)
      rw [allF_cons, if_neg h2]
      by_cases hu : tf (Un x m a.2) = true
      · rw [List.filter_cons_of_neg (by simp [h, hu]), ih]
      · rw [List.filter_cons_of_pos (by simp [hu]), allF_cons, if_neg h2, ih]
    · rw [List.filter_cons_of_pos (by simp [h]), allF_cons, allF_cons, ih]

theorem allF_put_same {x : Nat → Int} {y : List Ad} {s : Rc} {m : Mt} (h : hitF x (allF y s) m = false) : allF (putF x y s m) s = restF x (allF y s) m ++ [m] := by
  unfold putF
  rw [if_neg (by simp [h]), allF_append, allF_left_same, allF_one, if_pos rfl]
theorem allF_put_other {x : Nat → Int} {y : List Ad} {s t : Rc} {m : Mt} (ht : t ≠ s) : allF (putF x y s m) t = allF y t := by
  unfold putF
  split
  · rfl
  · rw [allF_append, allF_left_other ht, allF_one, if_neg (fun e => ht e.symm), List.append_nil]
theorem putF_hit {x : Nat → Int} {y : List Ad} {s : Rc} {m : Mt} (h : hitF x (allF y s) m = true) : putF x y s m = y := by unfold putF; rw [if_pos h]
theorem putF_no {x : Nat → Int} {y : List Ad} {s : Rc} {m : Mt} (h : hitF x (allF y s) m = false) : putF x y s m = leftF x y s m ++ [(s, m)] := by unfold putF; rw [if_neg (by simp [h])]
theorem leftF_le (x : Nat → Int) (y : List Ad) (s : Rc) (m : Mt) : (leftF x y s m).length ≤ y.length := List.length_filter_le _ _
theorem putF_le (x : Nat → Int) (y : List Ad) (s : Rc) (m : Mt) : (putF x y s m).length ≤ y.length + 1 := by
  unfold putF
  split
  · omega
  · have := leftF_le x y s m
    rw [List.length_append, List.length_singleton]; omega

theorem hit_is {x : Nat → Int} {y : List Ad} {s : Rc} {m : Mt} : hitF x (allF y s) m = y.any fun a => decide (a.1 = s) && tf (a.2 = m ∨ Un x a.2 m) := by
  unfold hitF
  induction y with
  | nil => rfl
  | cons a y ih =>
    rw [allF_cons, List.any_cons]
    by_cases h : a.1 = s
    · rw [if_pos h, List.any_cons, ih]; simp [h]
    · rw [if_neg h, ih]; simp [h]

/-! ### How many there are -/
theorem filter_or_len {α : Type} (p q : α → Bool) (h : ∀ a, p a = true → q a = false) (l : List α) : (l.filter fun a => p a || q a).length = (l.filter p).length + (l.filter q).length := by
  induction l with
  | nil => rfl
  | cons a l ih =>
    cases hp : p a with
    | true =>
      have hq := h a hp
      rw [List.filter_cons_of_pos (by simp [hp]), List.filter_cons_of_pos (by simp [hp]), List.filter_cons_of_neg (by simp [hq]), List.length_cons, List.length_cons, ih]; omega
    | false =>
      cases hq : q a with
      | true => rw [List.filter_cons_of_pos (by simp [hq]), List.filter_cons_of_neg (by simp [hp]), List.filter_cons_of_pos (by simp [hq]), List.length_cons, List.length_cons, ih]; omega
      | false => rw [List.filter_cons_of_neg (by simp [hp, hq]), List.filter_cons_of_neg (by simp [hp]), List.filter_cons_of_neg (by simp [hq]), ih]

theorem keys_len (y : List Ad) : ∀ ks : List Rc, ks.Nodup → (ks.map fun k => (allF y k).length).sum = (y.filter fun a => decide (a.1 ∈ ks)).length
  | [], _ => by rw [List.filter_eq_nil_iff.2 (fun a _ => by simp)]; rfl
  | k :: ks, h => by
    obtain ⟨h1, h2⟩ := List.nodup_cons.1 h
    rw [List.map_cons, List.sum_cons, keys_len y ks h2, allF_len, ← filter_or_len _ _ (fun a e => ?_)]
    · congr 1
      apply List.filter_congr
      intro a _
      rw [Bool.eq_iff_iff, Bool.or_eq_true, decide_eq_true_eq, decide_eq_true_eq, decide_eq_true_eq, List.mem_cons]
    · have e := of_decide_eq_true e
      rw [e]
      exact decide_eq_false h1

/-- The lengths of all that is at the keys, where each meter's spot is one of them. -/
theorem keys_sum {y : List Ad} {ks : List Rc} (h : ks.Nodup) (hm : ∀ a ∈ y, a.1 ∈ ks) : (ks.map fun k => (allF y k).length).sum = y.length := by
  rw [keys_len y ks h, List.filter_eq_self.2]
  intro a ha
  exact decide_eq_true (hm a ha)

/-! ### What stays -/
/-- One of them is under each that was put, or is it; none is under another one. -/
structure KeepF (x : Nat → Int) (l k : List Mt) : Prop where
  pw : k.Pairwise fun a b => a ≠ b ∧ ¬ Un x a b ∧ ¬ Un x b a
  all : ∀ m ∈ l, ∃ n ∈ k, n = m ∨ Un x n m

theorem KeepF.nil (x : Nat → Int) : KeepF x [] [] := ⟨List.Pairwise.nil, fun _ h => by cases h⟩
theorem KeepF.hit {x : Nat → Int} {l k : List Mt} {m : Mt} (h : KeepF x l k) (hh : hitF x k m = true) : KeepF x (l ++ [m]) k := by
  refine ⟨h.pw, fun a ha => ?_⟩
  rcases List.mem_append.1 ha with h1 | h1
  · exact h.all a h1
  · rw [List.mem_singleton] at h1
    subst h1
    obtain ⟨o, ho, e⟩ := List.any_eq_true.1 hh
    exact ⟨o, ho, tf_iff.1 e⟩
theorem KeepF.put {x : Nat → Int} {l k : List Mt} {m : Mt} (h : KeepF x l k) (hh : hitF x k m = false) : KeepF x (l ++ [m]) (restF x k m ++ [m]) := by
  have hn : ∀ o ∈ k, ¬ (o = m ∨ Un x o m) := fun o ho e => by
    have := List.any_eq_false.1 hh o ho
    exact this (tf_yes e)
  constructor
  · rw [List.pairwise_append]
    refine ⟨h.pw.filter _, List.pairwise_singleton _ _, fun a ha b hb => ?_⟩
    rw [List.mem_singleton] at hb
    subst hb
    obtain ⟨h1, h2⟩ := List.mem_filter.1 ha
    have h3 := hn a h1
    refine ⟨fun e => h3 (.inl e), fun e => h3 (.inr e), fun e => ?_⟩
    rw [tf_yes e] at h2
    cases h2
  · intro a ha
    rcases List.mem_append.1 ha with h1 | h1
    · obtain ⟨n, hk, e⟩ := h.all a h1
      by_cases hu : Un x m n
      · refine ⟨m, by simp, .inr ?_⟩
        rcases e with e | e
        · rw [← e]; exact hu
        · exact hu.trans e
      · exact ⟨n, List.mem_append.2 (.inl (List.mem_filter.2 ⟨hk, by rw [tf_no hu]; rfl⟩)), e⟩
    · rw [List.mem_singleton] at h1
      subst h1
      exact ⟨a, by simp, .inl rfl⟩

theorem KeepF.apart {x : Nat → Int} {l k : List Mt} (h : KeepF x l k) {i j : Nat} (hij : i ≠ j) (hi : i < k.length) (hj : j < k.length) : ¬ (k[i] = k[j] ∨ Un x k[i] k[j]) := by
  have hp := List.pairwise_iff_getElem.1 h.pw
  rcases Nat.lt_or_ge i j with g | g
  · obtain ⟨h1, h2, _⟩ := hp i j hi hj g
    exact fun e => e.elim h1 h2
  · obtain ⟨h1, _, h3⟩ := hp j i hj hi (by omega)
    exact fun e => e.elim (fun e => h1 e.symm) h3

end Go.Proofs.Ytglgifhpacmhiaa
