/- The reference's way to the set of a list: from one begin to the next, as far as the minutes go on. Conditions: none beyond each lemma's own premises. -/
import Derived.Test.YthgieanhlmnneaaIvalsMath
import Derived.Test.YthgieanhlmnneaaIvalsMath2
namespace Go.Proofs.Ythgieanhlmnneaa

/-- May a span be the next one behind those that are there? -/
def elig (out : List Sp) (s : Sp) : Bool := decide (s.1 < s.2) && (match out.getLast? with | none => true | some t => decide (t.2 < s.1))

def best1 (out : List Sp) (acc : Sp × Bool) (s : Sp) : Sp × Bool := if elig out s = true then (if acc.2 = false ∨ s.1 < acc.1.1 then (s, true) else acc) else acc

def bestOf (out l : List Sp) : Sp × Bool := l.foldl (best1 out) ((0, 0), false)

theorem best_from (out : List Sp) : ∀ (l : List Sp) (acc : Sp × Bool),
    ((l.foldl (best1 out) acc).2 = false → acc.2 = false ∧ ∀ s ∈ l, elig out s = false) ∧
    ((l.foldl (best1 out) acc).2 = true → ((acc.2 = true ∧ (l.foldl (best1 out) acc).1 = acc.1) ∨ ((l.foldl (best1 out) acc).1 ∈ l ∧ elig out (l.foldl (best1 out) acc).1 = true)) ∧
      (acc.2 = true → (l.foldl (best1 out) acc).1.1 ≤ acc.1.1) ∧ ∀ s ∈ l, elig out s = true → (l.foldl (best1 out) acc).1.1 ≤ s.1)
  | [], acc => ⟨fun h => ⟨h, by simp⟩, fun h => ⟨Or.inl ⟨h, rfl⟩, fun _ => Int.le_refl _, by simp⟩⟩
  | s :: l, acc => by
    have ih := best_from out l (best1 out acc s)
    rw [List.foldl_cons]
    by_cases he : elig out s = true
    · by_cases hc : acc.2 = false ∨ s.1 < acc.1.1
      · have e : best1 out acc s = (s, true) := by unfold best1; rw [if_pos he, if_pos hc]
        rw [e] at ih ⊢
        refine ⟨fun h => absurd (ih.1 h).1 (by simp), fun h => ?_⟩
        have i2 := ih.2 h
        have i3 := i2.2.1 rfl
        simp only at i3
        refine ⟨Or.inr ?_, fun ha => ?_, fun u hu hue => ?_⟩
        · rcases i2.1 with ⟨_, h2⟩ | ⟨h2, h3⟩
          · rw [h2]; exact ⟨List.mem_cons_self .., he⟩
          · exact ⟨List.mem_cons_of_mem _ h2, h3⟩
        · rcases hc with hc | hc
          · rw [hc] at ha; cases ha
          · omega
        · rcases List.mem_cons.1 hu with rfl | hu
          · exact i3
          · exact i2.2.2 u hu hue
      · have e : best1 out acc s = acc := by unfold best1; rw [if_pos he, if_neg hc]
        rw [e] at ih ⊢
        have ha : acc.2 = true := by cases h : acc.2 <;> simp_all
        have hs : acc.1.1 ≤ s.1 := by
          rcases Int.lt_or_le s.1 acc.1.1 with h | h
          · exact absurd (Or.inr h) hc
          · exact h
        refine ⟨fun h => absurd (ih.1 h).1 (by simp [ha]), fun h => ?_⟩
        have i2 := ih.2 h
        refine ⟨?_, i2.2.1, fun u hu hue => ?_⟩
        · rcases i2.1 with h2 | ⟨h2, h3⟩
          · exact Or.inl h2
          · exact Or.inr ⟨List.mem_cons_of_mem _ h2, h3⟩
        · rcases List.mem_cons.1 hu with rfl | hu
          · have := i2.2.1 ha; omega
          · exact i2.2.2 u hu hue
    · have e : best1 out acc s = acc := by unfold best1; rw [if_neg he]
      have he' : elig out s = false := by cases h : elig out s <;> simp_all
      rw [e] at ih ⊢
      refine ⟨fun h => ⟨(ih.1 h).1, fun u hu => ?_⟩, fun h => ?_⟩
      · rcases List.mem_cons.1 hu with rfl | hu
        · exact he'
        · exact (ih.1 h).2 u hu
      · have i2 := ih.2 h
        refine ⟨?_, i2.2.1, fun u hu hue => ?_⟩
        · rcases i2.1 with h2 | ⟨h2, h3⟩
          · exact Or.inl h2
          · exact Or.inr ⟨List.mem_cons_of_mem _ h2, h3⟩
        · rcases List.mem_cons.1 hu with rfl | hu
          · rw [he'] at hue; cases hue
          · exact i2.2.2 u hu hue

/-- As far as one span goes on. -/
def grow1 (b s : Sp) : Sp := if s.1 < s.2 ∧ s.1 ≤ b.2 ∧ b.2 < s.2 then (b.1, s.2) else b

def growP (l : List Sp) (b : Sp) : Sp := l.foldl grow1 b

def growN (l : List Sp) : Nat → Sp → Sp
  | 0, b => b
  | n + 1, b => growP l (growN l n b)

/-- Nothing goes on behind it. -/
def Still (l : List Sp) (b : Sp) : Prop := ∀ s ∈ l, s.1 < s.2 → s.1 ≤ b.2 → s.2 ≤ b.2

def beyond (l : List Sp) (x : Int) : Nat := l.countP fun s => decide (x < s.2)

theorem beyond_mono (l : List Sp) {x y : Int} (h : x ≤ y) : beyond l y ≤ beyond l x :=
  List.countP_mono_left fun s _ hs => by simp at *; omega

theorem beyond_lt {l : List Sp} {x y : Int} (h : x < y) (hs : ∃ s ∈ l, s.2 = y) : beyond l y < beyond l x := by
  induction l with
  | nil => obtain ⟨s, hs, _⟩ := hs; cases hs
  | cons t l ih =>
    unfold beyond at *
    rw [List.countP_cons, List.countP_cons]
    have hm : List.countP (fun s : Sp => decide (y < s.2)) l ≤ List.countP (fun s : Sp => decide (x < s.2)) l := beyond_mono l (Int.le_of_lt h)
    obtain ⟨s, hs, he⟩ := hs
    rcases List.mem_cons.1 hs with rfl | hs
    · have e1 : decide (y < s.2) = false := by simp; omega
      have e2 : decide (x < s.2) = true := by simp; omega
      rw [if_neg (by rw [e1]; simp), if_pos e2]
      omega
    · have := ih ⟨s, hs, he⟩
      by_cases c : y < t.2
      · rw [if_pos (by simpa using c), if_pos (by simp; omega)]; omega
      · rw [if_neg (by simpa using c)]; split <;> omega

theorem growP_from (L : List Sp) : ∀ (l : List Sp) (b : Sp), (∀ s ∈ l, s ∈ L) →
    (l.foldl grow1 b).1 = b.1 ∧ b.2 ≤ (l.foldl grow1 b).2 ∧ ((∀ m, b.1 ≤ m → m < b.2 → hasL L m = true) → ∀ m, b.1 ≤ m → m < (l.foldl grow1 b).2 → hasL L m = true) ∧
    (((l.foldl grow1 b).2 = b.2 ∧ ∀ s ∈ l, s.1 < s.2 → s.1 ≤ b.2 → s.2 ≤ b.2) ∨ (b.2 < (l.foldl grow1 b).2 ∧ ∃ s ∈ L, s.2 = (l.foldl grow1 b).2))
  | [], b, _ => ⟨rfl, Int.le_refl _, fun h => h, Or.inl ⟨rfl, by simp⟩⟩
  | s :: l, b, hl => by
    rw [List.foldl_cons]
    have ih := growP_from L l (grow1 b s) fun u hu => hl u (List.mem_cons_of_mem _ hu)
    by_cases hc : s.1 < s.2 ∧ s.1 ≤ b.2 ∧ b.2 < s.2
    · have e : grow1 b s = (b.1, s.2) := by unfold grow1; rw [if_pos hc]
      rw [e] at ih ⊢
      simp only at ih
      refine ⟨ih.1, by omega, fun h m h1 h2 => ?_, Or.inr ⟨by omega, ?_⟩⟩
      · refine ih.2.2.1 (fun m h1 h2 => ?_) m h1 h2
        by_cases c : m < b.2
        · exact h m h1 c
        · exact hasL_iff.2 ⟨s, hl s (List.mem_cons_self ..), by omega⟩
      · rcases ih.2.2.2 with h | h
        · rw [h.1]; exact ⟨s, hl s (List.mem_cons_self ..), rfl⟩
        · exact h.2
    · have e : grow1 b s = b := by unfold grow1; rw [if_neg hc]
      rw [e] at ih ⊢
      refine ⟨ih.1, ih.2.1, ih.2.2.1, ?_⟩
      rcases ih.2.2.2 with h | h
      · refine Or.inl ⟨h.1, fun u hu h1 h2 => ?_⟩
        rcases List.mem_cons.1 hu with rfl | hu
        · omega
        · exact h.2 u hu h1 h2
      · exact Or.inr h

theorem growN_ok (l : List Sp) (b : Sp) (hb : ∀ m, b.1 ≤ m → m < b.2 → hasL l m = true) : ∀ n,
    (growN l n b).1 = b.1 ∧ b.2 ≤ (growN l n b).2 ∧ (∀ m, b.1 ≤ m → m < (growN l n b).2 → hasL l m = true) ∧ (Still l (growN l n b) ∨ beyond l (growN l n b).2 + n ≤ l.length)
  | 0 => ⟨rfl, Int.le_refl _, hb, Or.inr (List.countP_le_length ..)⟩
  | n + 1 => by
    have ih := growN_ok l b hb n
    have g := growP_from l l (growN l n b) (fun _ h => h)
    refine ⟨g.1.trans ih.1, Int.le_trans ih.2.1 g.2.1, fun m h1 h2 => g.2.2.1 (fun m h1 h2 => ih.2.2.1 m (by rw [ih.1] at h1; exact h1) h2) m (by rw [ih.1]; exact h1) h2, ?_⟩
    rcases g.2.2.2 with h | h
    · refine Or.inl fun s hs h1 h2 => ?_
      show s.2 ≤ (l.foldl grow1 (growN l n b)).2
      rw [h.1]
      have h2 : s.1 ≤ (l.foldl grow1 (growN l n b)).2 := h2
      rw [h.1] at h2
      exact h.2 s hs h1 h2
    · rcases ih.2.2.2 with hs | hn
      · obtain ⟨h3, s, hs', he⟩ := h
        exfalso
        have key : ∀ (l' : List Sp) (b : Sp), (∀ s ∈ l', s.1 < s.2 → s.1 ≤ b.2 → s.2 ≤ b.2) → l'.foldl grow1 b = b := by
          intro l'
          induction l' with
          | nil => intro b _; rfl
          | cons u l' ih =>
            intro b h
            have e : grow1 b u = b := by
              unfold grow1
              rw [if_neg fun hc => by have := h u (List.mem_cons_self ..) hc.1 hc.2.1; omega]
            rw [List.foldl_cons, e]
            exact ih b fun v hv => h v (List.mem_cons_of_mem _ hv)
        rw [key l _ hs] at h3
        omega
      · refine Or.inr ?_
        have := beyond_lt h.1 h.2
        show beyond l (l.foldl grow1 (growN l n b)).2 + (n + 1) ≤ l.length
        omega

theorem growN_still (l : List Sp) (b : Sp) (hb : ∀ m, b.1 ≤ m → m < b.2 → hasL l m = true) : Still l (growN l (l.length + 1) b) := by
  rcases (growN_ok l b hb (l.length + 1)).2.2.2 with h | h
  · exact h
  · omega

/-- What the reference's rounds keep. -/
structure RInv (l out : List Sp) : Prop where
  set : IsSet out
  count : out.length + l.countP (elig out) ≤ l.length
  upto : ∀ t, out.getLast? = some t → (∀ m, m ≤ t.2 → hasL out m = hasL l m) ∧ Still l t

theorem RInv.start (l : List Sp) : RInv l [] := ⟨IsSet.nil, by simpa using List.countP_le_length, by simp⟩

theorem elig_nil (s : Sp) : elig [] s = decide (s.1 < s.2) := by simp [elig]

theorem elig_snoc (out : List Sp) (t s : Sp) : elig (out ++ [t]) s = (decide (s.1 < s.2) && decide (t.2 < s.1)) := by simp [elig]

theorem elig_last {out : List Sp} {s : Sp} (h : elig out s = true) : s.1 < s.2 ∧ ∀ t, out.getLast? = some t → t.2 < s.1 := by
  unfold elig at h
  rw [Bool.and_eq_true] at h
  refine ⟨by simpa using h.1, fun t ht => ?_⟩
  have := h.2
  rw [ht] at this
  simpa using this

theorem elig_no {out : List Sp} {s : Sp} (h : elig out s = false) (hs : s.1 < s.2) : ∃ t, out.getLast? = some t ∧ s.1 ≤ t.2 := by
  cases hl : out.getLast? with
  | none => simp [elig, hl, hs] at h
  | some t => simp [elig, hl, hs] at h; exact ⟨t, rfl, h⟩

theorem RInv.done {l out : List Sp} (h : RInv l out) (hb : (bestOf out l).2 = false) : out = setOf l := by
  have hn := ((best_from out l ((0, 0), false)).1 hb).2
  refine set_is h.set fun m => ?_
  rcases List.eq_nil_or_concat out with rfl | ⟨o, t, rfl⟩
  · refine (hasL_no.2 (by simp)).trans (hasL_no.2 fun s hs hm => ?_).symm
    obtain ⟨t, ht, _⟩ := elig_no (hn s hs) (by omega)
    cases ht
  · rw [List.concat_eq_append] at *
    have hu := h.upto t (by simp)
    by_cases c : m ≤ t.2
    · exact hu.1 m c
    · refine (hasL_no.2 fun s hs hm => ?_).trans (hasL_no.2 fun s hs hm => ?_).symm
      · rcases List.mem_append.1 hs with hs | hs
        · have := h.set.init.2.2 s hs
          have := h.set.init.2.1
          omega
        · rw [List.mem_singleton.1 hs] at hm; omega
      · obtain ⟨t', ht, h1⟩ := elig_no (hn s hs) (by omega)
        have e : t' = t := by simpa using ht.symm
        subst e
        have := hu.2 s hs (by omega) h1
        omega

theorem countP_lt {p q : Sp → Bool} {l : List Sp} (h : ∀ s ∈ l, q s = true → p s = true) {x : Sp} (hx : x ∈ l) (h1 : p x = true) (h2 : q x = false) : l.countP q < l.countP p := by
  induction l with
  | nil => cases hx
  | cons t l ih =>
    rw [List.countP_cons, List.countP_cons]
    have hm : l.countP q ≤ l.countP p := List.countP_mono_left fun s hs => h s (List.mem_cons_of_mem _ hs)
    rcases List.mem_cons.1 hx with rfl | hx
    · rw [if_neg (by rw [h2]; simp), if_pos h1]; omega
    · have := ih (fun s hs => h s (List.mem_cons_of_mem _ hs)) hx
      by_cases c : q t = true
      · rw [if_pos c, if_pos (h t (List.mem_cons_self ..) c)]; omega
      · rw [if_neg c]; split <;> omega

theorem RInv.step {l out : List Sp} (h : RInv l out) (hb : (bestOf out l).2 = true) :
    RInv l (out ++ [growN l (l.length + 1) (bestOf out l).1]) ∧ l.countP (elig (out ++ [growN l (l.length + 1) (bestOf out l).1])) < l.countP (elig out) := by
  have hbf := (best_from out l ((0, 0), false)).2 hb
  obtain ⟨hmem, hel⟩ : (bestOf out l).1 ∈ l ∧ elig out (bestOf out l).1 = true := by
    rcases hbf.1 with ⟨h0, _⟩ | h1
    · cases h0
    · exact h1
  have hleast := hbf.2.2
  change ∀ s ∈ l, elig out s = true → (bestOf out l).1.1 ≤ s.1 at hleast
  generalize (bestOf out l).1 = b at *
  have hr := elig_last hel
  have hbm : ∀ m, b.1 ≤ m → m < b.2 → hasL l m = true := fun m h1 h2 => hasL_iff.2 ⟨b, hmem, h1, h2⟩
  have hg := growN_ok l b hbm (l.length + 1)
  have hst := growN_still l b hbm
  generalize growN l (l.length + 1) b = g at *
  have hlt : ∀ t ∈ out, t.2 < g.1 := fun t ht => by
    rcases List.eq_nil_or_concat out with rfl | ⟨o, u, rfl⟩
    · cases ht
    · rw [List.concat_eq_append] at *
      have hu := hr.2 u (by simp)
      rw [hg.1]
      rcases List.mem_append.1 ht with ht | ht
      · have h1 := h.set.init.2.2 t ht
        have h2 := h.set.init.2.1
        omega
      · rw [List.mem_singleton.1 ht]; exact hu
  have hle : ∀ s, elig (out ++ [g]) s = true → elig out s = true := fun s hs => by
    rw [elig_snoc, Bool.and_eq_true] at hs
    have h1 : s.1 < s.2 := by simpa using hs.1
    have h2 : g.2 < s.1 := by simpa using hs.2
    unfold elig
    rw [Bool.and_eq_true]
    refine ⟨by simpa using h1, ?_⟩
    cases hl : out.getLast? with
    | none => rfl
    | some t =>
      have := hlt t (List.mem_of_getLast? hl)
      simp
      omega
  have hcnt : l.countP (elig (out ++ [g])) < l.countP (elig out) :=
    countP_lt (fun s _ => hle s) hmem hel (by rw [elig_snoc]; simp; intro _; omega)
  refine ⟨⟨h.set.snoc (by omega) hlt, ?_, fun t ht => ?_⟩, hcnt⟩
  · have := h.count
    rw [List.length_append, List.length_singleton]
    omega
  · have e : t = g := by simpa using ht.symm
    subst e
    refine ⟨fun m hm => ?_, hst⟩
    rw [hasL_append]
    by_cases c1 : t.1 ≤ m
    · by_cases c2 : m < t.2
      · rw [hasL_iff (l := [t]) |>.2 ⟨t, by simp, c1, c2⟩, Bool.or_true, hg.2.2.1 m (by omega) c2]
      · have em : m = t.2 := by omega
        rw [hasL_no (l := [t]) |>.2 fun x hx hxm => by rw [List.mem_singleton.1 hx] at hxm; omega, Bool.or_false]
        refine (hasL_no.2 fun x hx hxm => ?_).trans (hasL_no.2 fun x hx hxm => ?_).symm
        · have := hlt x hx; omega
        · have := hst x hx (by omega) (by omega); omega
    · rw [hasL_no (l := [t]) |>.2 fun x hx hxm => by rw [List.mem_singleton.1 hx] at hxm; omega, Bool.or_false]
      rcases List.eq_nil_or_concat out with rfl | ⟨o, u, rfl⟩
      · refine (hasL_no.2 (by simp)).trans (hasL_no.2 fun x hx hxm => ?_).symm
        have := hleast x hx (by rw [elig_nil]; exact decide_eq_true (by omega))
        omega
      · rw [List.concat_eq_append] at *
        have hu := h.upto u (by simp)
        by_cases c3 : m ≤ u.2
        · exact hu.1 m c3
        · refine (hasL_no.2 fun x hx hxm => ?_).trans (hasL_no.2 fun x hx hxm => ?_).symm
          · rcases List.mem_append.1 hx with hx | hx
            · have h1 := h.set.init.2.2 x hx
              have h2 := h.set.init.2.1
              omega
            · rw [List.mem_singleton.1 hx] at hxm; omega
          · by_cases c4 : x.1 ≤ u.2
            · have := hu.2 x hx (by omega) c4; omega
            · have := hleast x hx (by rw [elig_snoc, decide_eq_true (show x.1 < x.2 by omega), decide_eq_true (show u.2 < x.1 by omega)]; rfl)
              omega

theorem RInv.len {l out : List Sp} (h : RInv l out) : out.length ≤ l.length := by have := h.count; omega

/-- Prefixes, one more. -/
theorem take_more {α : Type} [Inhabited α] (l : List α) (d : α) (k : Nat) (h : k < l.length) : l.take (k + 1) = l.take k ++ [l.getD k d] := by
  rw [List.take_succ_eq_append_getElem h]; simp [List.getD, h]

theorem best_more (out l : List Sp) (k : Nat) (h : k < l.length) : (l.take (k + 1)).foldl (best1 out) ((0, 0), false) = best1 out ((l.take k).foldl (best1 out) ((0, 0), false)) (l.getD k (0, 0)) := by
  rw [take_more l (0, 0) k h, List.foldl_append]; rfl

theorem grow_more (l : List Sp) (b : Sp) (k : Nat) (h : k < l.length) : (l.take (k + 1)).foldl grow1 b = grow1 ((l.take k).foldl grow1 b) (l.getD k (0, 0)) := by
  rw [take_more l (0, 0) k h, List.foldl_append]; rfl

theorem next_more (l : List Sp) (m : Int) (k : Nat) (h : k < l.length) : (l.take (k + 1)).foldl (next1 m) (0, false) = next1 m ((l.take k).foldl (next1 m) (0, false)) (l.getD k (0, 0)) := by
  rw [take_more l (0, 0) k h, List.foldl_append]; rfl

theorem put_more (l set : List Sp) (k : Nat) (h : k < l.length) : (l.take (k + 1)).foldl put1 set = put1 ((l.take k).foldl put1 set) (l.getD k (0, 0)) := by
  rw [take_more l (0, 0) k h, List.foldl_append]; rfl

theorem only_more (l : List Sp) (k : Nat) (h : k < l.length) : onlyR (l.take (k + 1)) = onlyR (l.take k) ++ if (l.getD k (0, 0)).1 < (l.getD k (0, 0)).2 then [l.getD k (0, 0)] else [] := by
  rw [take_more l (0, 0) k h]
  unfold onlyR
  rw [List.filter_append]
  congr 1
  simp [List.filter_cons]

theorem gap_more (lo : Int) (l : List Sp) (k : Nat) (h : k < l.length) : gapTo lo (l.take (k + 1)) = gap1 (gapTo lo (l.take k)) (l.getD k (0, 0)) := by
  rw [take_more l (0, 0) k h, gapTo_snoc]

theorem getD_mem {l : List Sp} {k : Nat} (h : k < l.length) : l.getD k (0, 0) ∈ l := by
  simp [List.getD, h]

theorem hasL_of (l : List Sp) (m : Int) (k : Nat) (h : k < l.length) (hm : (l.getD k (0, 0)).1 ≤ m ∧ m < (l.getD k (0, 0)).2) : hasL l m = true :=
  hasL_iff.2 ⟨_, getD_mem h, hm⟩

theorem hasL_not (l : List Sp) (m : Int) (k : Nat) (h : k < l.length) (hm : ¬ ((l.getD k (0, 0)).1 ≤ m ∧ m < (l.getD k (0, 0)).2)) (hn : ∀ s ∈ l.take k, ¬ (s.1 ≤ m ∧ m < s.2)) :
    ∀ s ∈ l.take (k + 1), ¬ (s.1 ≤ m ∧ m < s.2) := by
  rw [take_more l (0, 0) k h]
  intro s hs
  rcases List.mem_append.1 hs with hs | hs
  · exact hn s hs
  · rw [List.mem_singleton.1 hs]; exact hm

theorem best_skip {out : List Sp} {acc : Sp × Bool} {s : Sp} (h : elig out s = false) : best1 out acc s = acc := by unfold best1; rw [if_neg (by rw [h]; simp)]

theorem best_take {out : List Sp} {acc : Sp × Bool} {s : Sp} (h : elig out s = true) (h2 : acc.2 = false ∨ s.1 < acc.1.1) : best1 out acc s = (s, true) := by unfold best1; rw [if_pos h, if_pos h2]

theorem best_leave {out : List Sp} {acc : Sp × Bool} {s : Sp} (h : elig out s = true) (h2 : ¬ (acc.2 = false ∨ s.1 < acc.1.1)) : best1 out acc s = acc := by unfold best1; rw [if_pos h, if_neg h2]

theorem elig_wrong {out : List Sp} {s : Sp} (h : ¬ s.1 < s.2) : elig out s = false := by unfold elig; rw [decide_eq_false h]; rfl

theorem elig_first {out : List Sp} {s : Sp} (hn : out.length = 0) (h : s.1 < s.2) : elig out s = true := by
  obtain rfl := List.eq_nil_of_length_eq_zero hn
  rw [elig_nil]; exact decide_eq_true h

theorem elig_at {out : List Sp} {s : Sp} {j : Nat} {t1 t2 : Int} (hn : out.length = j + 1) (ht : out.getD j (0, 0) = (t1, t2)) (h : s.1 < s.2) : elig out s = decide (t2 < s.1) := by
  rcases List.eq_nil_or_concat out with rfl | ⟨o, t, rfl⟩
  · simp at hn
  · rw [List.concat_eq_append] at *
    rw [elig_snoc, decide_eq_true h, Bool.true_and]
    have hj : o.length = j := by simpa using hn
    subst hj
    have e : t = (t1, t2) := by simpa [List.getD] using ht
    rw [e]

theorem grow_skip {b s : Sp} (h : ¬ (s.1 < s.2 ∧ s.1 ≤ b.2 ∧ b.2 < s.2)) : grow1 b s = b := by unfold grow1; rw [if_neg h]

theorem grow_take {b s : Sp} (h : s.1 < s.2 ∧ s.1 ≤ b.2 ∧ b.2 < s.2) : grow1 b s = (b.1, s.2) := by unfold grow1; rw [if_pos h]

end Go.Proofs.Ythgieanhlmnneaa
