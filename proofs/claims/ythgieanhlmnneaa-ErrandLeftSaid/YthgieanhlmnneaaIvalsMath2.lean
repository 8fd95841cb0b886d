/- Sets of minutes: the set of a list, what two sets have in common, what is free between, and the reference's way to the set. Conditions: none beyond each lemma's own premises. -/
import Derived.Test.YthgieanhlmnneaaIvalsMath
namespace Go.Proofs.Ythgieanhlmnneaa

/-- The set of a list. -/
def setOf (l : List Sp) : List Sp := putAll ((onlyR l).mergeSort fun a b => decide (a.1 ≤ b.1))

theorem setOf_ok (l : List Sp) : IsSet (setOf l) ∧ ∀ m, hasL (setOf l) m = hasL l m := by
  refine putAll_ok (List.mergeSort_perm _ _) ?_
  have h := List.pairwise_mergeSort (le := fun (a b : Sp) => decide (a.1 ≤ b.1)) (fun a b c h1 h2 => by simp at *; omega) (fun a b => by simp; omega) (onlyR l)
  exact h.imp fun {a b} hab => by simpa using hab

theorem set_is {x l : List Sp} (h : IsSet x) (hm : ∀ m, hasL x m = hasL l m) : x = setOf l :=
  set_unique h (setOf_ok l).1 fun m => by rw [hm, (setOf_ok l).2]

theorem putAll_is {l d : List Sp} (hp : d.Perm (onlyR l)) (hs : d.Pairwise (fun s t => s.1 ≤ t.1)) : putAll d = setOf l :=
  set_is (putAll_ok hp hs).1 (putAll_ok hp hs).2

theorem setOf_set {l : List Sp} (h : IsSet l) : setOf l = l := (set_is h fun _ => rfl).symm

theorem setOf_congr {a b : List Sp} (h : ∀ m, hasL a m = hasL b m) : setOf a = setOf b :=
  set_is (setOf_ok a).1 fun m => by rw [(setOf_ok a).2, h]

theorem foldl_put1_len : ∀ (l set : List Sp), (l.foldl put1 set).length ≤ set.length + l.length
  | [], set => by simp
  | s :: l, set => by
    have h1 := foldl_put1_len l (put1 set s)
    have h2 := put1_len set s
    simp only [List.foldl_cons, List.length_cons]
    omega

theorem onlyR_len (l : List Sp) : (onlyR l).length ≤ l.length := List.length_filter_le _ _

theorem setOf_len (l : List Sp) : (setOf l).length ≤ l.length := by
  have h := foldl_put1_len ((onlyR l).mergeSort fun a b => decide (a.1 ≤ b.1)) []
  have h2 := onlyR_len l
  have h3 : ((onlyR l).mergeSort fun a b => decide (a.1 ≤ b.1)).length = (onlyR l).length := (List.mergeSort_perm _ _).length_eq
  unfold setOf putAll
  simp only [List.length_nil] at h
  omega

theorem no_minutes {l : List Sp} (h : IsSet l) (hm : ∀ m, hasL l m = false) : l = [] :=
  set_unique h IsSet.nil fun m => by rw [hm, hasL_nil]

/-- The greater, and the lesser. -/
def mx (a b : Int) : Int := if b ≤ a then a else b

def mn (a b : Int) : Int := if a ≤ b then a else b

theorem mx_le {a b c : Int} : mx a b ≤ c ↔ a ≤ c ∧ b ≤ c := by unfold mx; split <;> omega

theorem lt_mn {a b c : Int} : c < mn a b ↔ c < a ∧ c < b := by unfold mn; split <;> omega

theorem mx_ge (a b : Int) : a ≤ mx a b ∧ b ≤ mx a b := by unfold mx; split <;> omega

theorem mn_le (a b : Int) : mn a b ≤ a ∧ mn a b ≤ b := by unfold mn; split <;> omega

theorem snoc_ind {P : List Sp → Prop} (nil : P []) (snoc : ∀ l s, P l → P (l ++ [s])) (l : List Sp) : P l := by
  have h : ∀ r : List Sp, P r.reverse := by
    intro r
    induction r with
    | nil => exact nil
    | cons s r ih => rw [List.reverse_cons]; exact snoc _ _ ih
  simpa using h l.reverse

/-- What both have: of the first ones what they have in common, and whichever ends first goes. -/
def bothL (a b : List Sp) : List Sp :=
  match a, b with
  | s :: a, t :: b =>
    (if (mx s.1 t.1) < (mn s.2 t.2) then [((mx s.1 t.1), (mn s.2 t.2))] else []) ++
      (if s.2 < t.2 then bothL a (t :: b) else bothL (s :: a) b)
  | _, _ => []
termination_by a.length + b.length

/-- What the first ones have in common. -/
def both1 (s t : Sp) : List Sp := if (mx s.1 t.1) < (mn s.2 t.2) then [((mx s.1 t.1), (mn s.2 t.2))] else []

theorem bothL_nil_l (b : List Sp) : bothL [] b = [] := by unfold bothL; rfl

theorem bothL_nil_r (a : List Sp) : bothL a [] = [] := by
  cases a <;> (unfold bothL; rfl)

theorem bothL_lt (s t : Sp) (a b : List Sp) (h : s.2 < t.2) : bothL (s :: a) (t :: b) = both1 s t ++ bothL a (t :: b) := by
  rw [bothL, if_pos h]; rfl

theorem bothL_ge (s t : Sp) (a b : List Sp) (h : ¬ s.2 < t.2) : bothL (s :: a) (t :: b) = both1 s t ++ bothL (s :: a) b := by
  rw [bothL, if_neg h]; rfl

theorem both1_mem {s t x : Sp} (h : x ∈ both1 s t) : s.1 ≤ x.1 ∧ t.1 ≤ x.1 ∧ x.1 < x.2 ∧ x.2 ≤ s.2 ∧ x.2 ≤ t.2 := by
  unfold both1 at h
  split at h
  · rename_i hlt
    rw [List.mem_singleton.1 h]
    have h1 := mx_ge s.1 t.1
    have h2 := mn_le s.2 t.2
    exact ⟨h1.1, h1.2, hlt, h2.1, h2.2⟩
  · cases h

theorem both1_has (s t : Sp) (m : Int) : hasL (both1 s t) m = (hasS s m && hasS t m) := by
  unfold both1
  split
  · rw [Bool.eq_iff_iff, Bool.and_eq_true, hasS_iff, hasS_iff, hasL_iff]
    simp only [List.mem_singleton, exists_eq_left, mx_le, lt_mn]
    omega
  · rename_i h
    rw [hasL_nil, Bool.eq_iff_iff, Bool.and_eq_true, hasS_iff, hasS_iff]
    simp only [Bool.false_eq_true, false_iff]
    intro hh
    exact h (Int.lt_of_le_of_lt (mx_le.2 ⟨hh.1.1, hh.2.1⟩) (lt_mn.2 ⟨hh.1.2, hh.2.2⟩))

theorem bothL_from (c : Int) : ∀ (n : Nat) (a b : List Sp), a.length + b.length ≤ n → ((∀ s ∈ a, c < s.1) ∨ (∀ s ∈ b, c < s.1)) → ∀ x ∈ bothL a b, c < x.1
  | n, [], b, _, _, x, hx => by rw [bothL_nil_l] at hx; cases hx
  | n, s :: a, [], _, _, x, hx => by rw [bothL_nil_r] at hx; cases hx
  | 0, s :: a, t :: b, hn, _, _, _ => by simp at hn
  | n + 1, s :: a, t :: b, hn, hc, x, hx => by
    simp only [List.length_cons] at hn
    have h1 : ∀ x ∈ both1 s t, c < x.1 := fun x hx => by
      have := both1_mem hx
      rcases hc with hc | hc
      · have := hc s (List.mem_cons_self ..); omega
      · have := hc t (List.mem_cons_self ..); omega
    by_cases h : s.2 < t.2
    · rw [bothL_lt s t a b h] at hx
      rcases List.mem_append.1 hx with hx | hx
      · exact h1 x hx
      · exact bothL_from c n a (t :: b) (by simp only [List.length_cons]; omega) (hc.imp (fun g u hu => g u (List.mem_cons_of_mem _ hu)) id) x hx
    · rw [bothL_ge s t a b h] at hx
      rcases List.mem_append.1 hx with hx | hx
      · exact h1 x hx
      · exact bothL_from c n (s :: a) b (by simp only [List.length_cons]; omega) (hc.imp id (fun g u hu => g u (List.mem_cons_of_mem _ hu))) x hx

theorem both1_cons {s t : Sp} {l : List Sp} (h : IsSet l) (hl : ∀ x ∈ l, s.2 < x.1 ∨ t.2 < x.1) : IsSet (both1 s t ++ l) := by
  cases hb : both1 s t with
  | nil => exact h
  | cons x r =>
    have hr : r = [] := by
      unfold both1 at hb
      split at hb
      · simp at hb; exact hb.2
      · cases hb
    subst hr
    have hm := both1_mem (s := s) (t := t) (x := x) (by rw [hb]; simp)
    exact h.cons (by omega) fun u hu => by have := hl u hu; omega

theorem bothL_ok : ∀ (n : Nat) (a b : List Sp), a.length + b.length ≤ n → IsSet a → IsSet b → IsSet (bothL a b) ∧ ∀ m, hasL (bothL a b) m = (hasL a m && hasL b m)
  | n, [], b, _, _, _ => by rw [bothL_nil_l]; exact ⟨IsSet.nil, fun m => by simp [hasL]⟩
  | n, s :: a, [], _, _, _ => by rw [bothL_nil_r]; exact ⟨IsSet.nil, fun m => by simp [hasL]⟩
  | 0, s :: a, t :: b, hn, _, _ => by simp at hn
  | n + 1, s :: a, t :: b, hn, ha, hb => by
    simp only [List.length_cons] at hn
    by_cases h : s.2 < t.2
    · have ih := bothL_ok n a (t :: b) (by simp only [List.length_cons]; omega) ha.tail hb
      rw [bothL_lt s t a b h]
      refine ⟨both1_cons ih.1 fun x hx => Or.inl (bothL_from s.2 _ a (t :: b) (Nat.le_refl _) (Or.inl ha.later) x hx), fun m => ?_⟩
      rw [hasL_append, both1_has, ih.2, hasL_cons, hasL_cons]
      cases h1 : hasS s m
      · simp
      · have hs := hasS_iff.1 h1
        have hb0 : hasL b m = false := hasL_no.2 fun x hx hm => by have := hb.later x hx; omega
        have ha0 : hasL a m = false := hasL_no.2 fun x hx hm => by have := ha.later x hx; omega
        simp [hb0, ha0]
    · have ih := bothL_ok n (s :: a) b (by simp only [List.length_cons]; omega) ha hb.tail
      rw [bothL_ge s t a b h]
      refine ⟨both1_cons ih.1 fun x hx => Or.inr (bothL_from t.2 _ (s :: a) b (Nat.le_refl _) (Or.inr hb.later) x hx), fun m => ?_⟩
      rw [hasL_append, both1_has, ih.2, hasL_cons, hasL_cons]
      cases h1 : hasS t m
      · simp
      · have hs := hasS_iff.1 h1
        have hb0 : hasL b m = false := hasL_no.2 fun x hx hm => by have := hb.later x hx; omega
        have ha0 : hasL a m = false := hasL_no.2 fun x hx hm => by have := ha.later x hx; omega
        simp [hb0, ha0]

/-- The set of what both lists have. -/
def bothOf (a b : List Sp) : List Sp := bothL (setOf a) (setOf b)

theorem bothOf_ok (a b : List Sp) : IsSet (bothOf a b) ∧ ∀ m, hasL (bothOf a b) m = (hasL a m && hasL b m) := by
  have h := bothL_ok _ (setOf a) (setOf b) (Nat.le_refl _) (setOf_ok a).1 (setOf_ok b).1
  exact ⟨h.1, fun m => by rw [bothOf, h.2, (setOf_ok a).2, (setOf_ok b).2]⟩

theorem both1_len (s t : Sp) : (both1 s t).length ≤ 1 := by
  unfold both1; split <;> simp

theorem bothL_len : ∀ (n : Nat) (a b : List Sp), a.length + b.length ≤ n → (bothL a b).length ≤ a.length + b.length
  | n, [], b, _ => by rw [bothL_nil_l]; simp
  | n, s :: a, [], _ => by rw [bothL_nil_r]; simp
  | 0, s :: a, t :: b, hn => by simp at hn
  | n + 1, s :: a, t :: b, hn => by
    simp only [List.length_cons] at hn
    have h1 := both1_len s t
    by_cases h : s.2 < t.2
    · have ih := bothL_len n a (t :: b) (by simp only [List.length_cons]; omega)
      rw [bothL_lt s t a b h, List.length_append]
      simp only [List.length_cons] at *
      omega
    · have ih := bothL_len n (s :: a) b (by simp only [List.length_cons]; omega)
      rw [bothL_ge s t a b h, List.length_append]
      simp only [List.length_cons] at *
      omega

theorem bothOf_len (a b : List Sp) : (bothOf a b).length ≤ a.length + b.length := by
  have h := bothL_len _ (setOf a) (setOf b) (Nat.le_refl _)
  have h1 := setOf_len a
  have h2 := setOf_len b
  unfold bothOf
  omega

/-- What is free ahead of each, and where the last one ends. -/
def gap1 (g : List Sp × Int) (s : Sp) : List Sp × Int := (g.1 ++ [(g.2, s.1)], s.2)

def gapTo (lo : Int) (l : List Sp) : List Sp × Int := l.foldl gap1 ([], lo)

theorem gapTo_nil (lo : Int) : gapTo lo [] = ([], lo) := rfl

theorem gapTo_snoc (lo : Int) (l : List Sp) (s : Sp) : gapTo lo (l ++ [s]) = gap1 (gapTo lo l) s := by
  unfold gapTo; rw [List.foldl_append]; rfl

theorem gapTo_len (lo : Int) (l : List Sp) : (gapTo lo l).1.length = l.length := by
  induction l using snoc_ind with
  | nil => rfl
  | snoc l s ih => rw [gapTo_snoc]; simp [gap1, ih]

def gapsOf (lo hi : Int) (b : List Sp) : List Sp := (gapTo lo (setOf b)).1 ++ [((gapTo lo (setOf b)).2, hi)]

theorem gapTo_ok (lo : Int) (l : List Sp) : IsSet l → (∀ s ∈ l, lo ≤ s.1) →
    lo ≤ (gapTo lo l).2 ∧ (∀ s ∈ l, s.2 ≤ (gapTo lo l).2) ∧ ∀ m, lo ≤ m → m < (gapTo lo l).2 → hasL (gapTo lo l).1 m = !hasL l m := by
  induction l using snoc_ind with
  | nil => intro _ _; exact ⟨Int.le_refl _, by simp, fun m h1 h2 => by simp [gapTo] at h2; omega⟩
  | snoc l s ih =>
    intro h hlo
    have hi := h.init
    have ih := ih hi.1 fun u hu => hlo u (List.mem_append_left _ hu)
    have hs : lo ≤ s.1 := hlo s (by simp)
    have hg : (gapTo lo l).2 ≤ s.1 := by
      rcases List.eq_nil_or_concat l with rfl | ⟨l0, t, rfl⟩
      · exact hs
      · rw [List.concat_eq_append, gapTo_snoc] at *
        have := hi.2.2 t (by simp)
        show t.2 ≤ s.1
        omega
    rw [gapTo_snoc]
    refine ⟨by show lo ≤ s.2; omega, fun u hu => ?_, fun m h1 h2 => ?_⟩
    · show u.2 ≤ s.2
      rcases List.mem_append.1 hu with hu | hu
      · have := hi.2.2 u hu; omega
      · rw [List.mem_singleton.1 hu]; exact Int.le_refl _
    · have h2 : m < s.2 := h2
      show hasL ((gapTo lo l).1 ++ [((gapTo lo l).2, s.1)]) m = _
      rw [hasL_append, hasL_append]
      by_cases c : m < (gapTo lo l).2
      · rw [ih.2.2 m h1 c]
        have e1 : hasL [((gapTo lo l).2, s.1)] m = false := hasL_no.2 fun x hx hm => by
          rw [List.mem_singleton.1 hx] at hm; simp only at hm; omega
        have e2 : hasL [s] m = false := hasL_no.2 fun x hx hm => by
          rw [List.mem_singleton.1 hx] at hm; omega
        rw [e1, e2]; simp
      · have e0 : hasL l m = false := hasL_no.2 fun x hx hm => by have := ih.2.1 x hx; omega
        have e1 : hasL (gapTo lo l).1 m = false := by
          have key : ∀ (l : List Sp), IsSet l → (∀ s ∈ l, lo ≤ s.1) → ∀ x ∈ (gapTo lo l).1, x.2 ≤ (gapTo lo l).2 := by
            intro l
            induction l using snoc_ind with
            | nil => intro _ _ x hx; cases hx
            | snoc l s ih =>
              intro h hlo x hx
              have hi := h.init
              rw [gapTo_snoc] at hx ⊢
              show x.2 ≤ s.2
              rcases List.mem_append.1 hx with hx | hx
              · have h1 := ih hi.1 (fun u hu => hlo u (List.mem_append_left _ hu)) x hx
                have h2 : (gapTo lo l).2 ≤ s.1 := by
                  rcases List.eq_nil_or_concat l with rfl | ⟨l0, t, rfl⟩
                  · exact hlo s (by simp)
                  · rw [List.concat_eq_append, gapTo_snoc] at *
                    have := hi.2.2 t (by simp)
                    show t.2 ≤ s.1
                    omega
                omega
              · rw [List.mem_singleton.1 hx]
                have := hi.2.1
                show s.1 ≤ s.2
                omega
          exact hasL_no.2 fun x hx hm => by have := key l hi.1 (fun u hu => hlo u (List.mem_append_left _ hu)) x hx; omega
        rw [e0, e1, Bool.false_or, Bool.false_or]
        simp only [hasL, List.any_cons, List.any_nil, Bool.or_false]
        rw [Bool.eq_iff_iff, Bool.not_eq_true', hasS_iff, hasS_no]
        show _ ↔ _
        simp only
        omega

theorem gapsOf_has (lo hi : Int) (b : List Sp) (h1 : ∀ s ∈ setOf b, lo ≤ s.1) (m : Int) (hm : lo ≤ m) (hm2 : m < hi) : hasL (gapsOf lo hi b) m = !hasL b m := by
  have h := gapTo_ok lo (setOf b) (setOf_ok b).1 h1
  unfold gapsOf
  rw [hasL_append, ← (setOf_ok b).2]
  by_cases c : m < (gapTo lo (setOf b)).2
  · rw [h.2.2 m hm c, hasL_no (l := [((gapTo lo (setOf b)).2, hi)]) |>.2 fun x hx hm => by rw [List.mem_singleton.1 hx] at hm; simp only at hm; omega, Bool.or_false]
  · rw [hasL_iff.2 ⟨_, List.mem_singleton.2 rfl, by simp only; omega⟩, Bool.or_true, hasL_no.2 fun x hx hm => by have := h.2.1 x hx; omega]
    rfl

theorem gapsOf_len (lo hi : Int) (b : List Sp) : (gapsOf lo hi b).length ≤ b.length + 1 := by
  have h := setOf_len b
  unfold gapsOf
  rw [List.length_append, gapTo_len]
  simp; omega

/-- All are numbers of 64 bits. -/
def Bd (l : List Sp) : Prop := ∀ s ∈ l, (-9223372036854775808 ≤ s.1 ∧ s.1 ≤ 9223372036854775807) ∧ (-9223372036854775808 ≤ s.2 ∧ s.2 ≤ 9223372036854775807)

theorem setOf_lo {l : List Sp} {lo : Int} (h : ∀ s ∈ l, lo ≤ s.1) : ∀ s ∈ setOf l, lo ≤ s.1 := fun s hs => by
  have h0 := setOf_ok l
  have h1 : hasL (setOf l) s.1 = true := hasL_iff.2 ⟨s, hs, by have := h0.1.right s hs; omega⟩
  rw [h0.2] at h1
  obtain ⟨t, ht, hm⟩ := hasL_iff.1 h1
  have := h t ht
  omega

/-- The set of what a has and b has not. -/
def minusOf (a b : List Sp) : List Sp := bothOf a (gapsOf (-9223372036854775808) 9223372036854775807 b)

theorem minusOf_ok {a b : List Sp} (ha : Bd a) (hb : Bd b) : IsSet (minusOf a b) ∧ ∀ m, hasL (minusOf a b) m = (hasL a m && !hasL b m) := by
  have h := bothOf_ok a (gapsOf (-9223372036854775808) 9223372036854775807 b)
  refine ⟨h.1, fun m => ?_⟩
  rw [minusOf, h.2]
  cases hm : hasL a m with
  | false => rfl
  | true =>
    obtain ⟨s, hs, h1, h2⟩ := hasL_iff.1 hm
    have := ha s hs
    rw [gapsOf_has _ _ _ (setOf_lo fun t ht => (hb t ht).1.1) m (by omega) (by omega)]

theorem minusOf_len (a b : List Sp) : (minusOf a b).length ≤ a.length + b.length + 1 := by
  have h := bothOf_len a (gapsOf (-9223372036854775808) 9223372036854775807 b)
  have h2 := gapsOf_len (-9223372036854775808) 9223372036854775807 b
  unfold minusOf
  omega

/-- What both have, and what one has alone, are together that one. -/
theorem parts {a b : List Sp} (ha : Bd a) (hb : Bd b) : setOf (bothOf a b ++ minusOf a b) = setOf a :=
  setOf_congr fun m => by
    rw [hasL_append, (bothOf_ok a b).2, (minusOf_ok ha hb).2]
    cases hasL a m <;> cases hasL b m <;> rfl

theorem minus_self {a : List Sp} (ha : Bd a) : minusOf a a = [] :=
  no_minutes (minusOf_ok ha ha).1 fun m => by rw [(minusOf_ok ha ha).2]; cases hasL a m <;> rfl

theorem both_self (a : List Sp) : bothOf a a = setOf a :=
  set_is (bothOf_ok a a).1 fun m => by rw [(bothOf_ok a a).2]; cases hasL a m <;> rfl

/-- The next minute: one span more. -/
def next1 (m : Int) (acc : Int × Bool) (s : Sp) : Int × Bool :=
  if s.1 < s.2 ∧ m < s.2 then
    (if acc.2 = false ∨ (if s.1 < m then m else s.1) < acc.1 then ((if s.1 < m then m else s.1), true) else acc)
  else acc

def nextL (l : List Sp) (m : Int) : Int × Bool := l.foldl (next1 m) (0, false)

end Go.Proofs.Ythgieanhlmnneaa
