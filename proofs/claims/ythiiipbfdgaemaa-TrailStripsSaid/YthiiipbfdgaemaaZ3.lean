/- Plain facts, several texts in one: TrailMath4, TrailWant. Conditions: none beyond each lemma's own premises. -/
import Derived.Test.YthiiipbfdgaemaaZ2
import Derived.Test.YthiiipbfdgaemaaZ1

/- A timeline along tasks in plain words, part four: what follows tasks is, stripped, just their drives and services, and each service that begins in it is one visit. Conditions: none beyond each lemma's own premises. -/
namespace Go.Proofs.Ythiiipbfdgaemaa

/-! ### No minute breaks a clause -/

def NoBr (l : List Tk) : List Int → Int → Pt → Prop
  | [], _, _ => True
  | k :: ks, m, s => (b0 l s k = false ∧ b1 l s k = false ∧ b2 l s m k = false ∧ b3 s k = false) ∧ NoBr l ks (m + 1) (stepT l s k)

theorem note_stay {f m : Int} (b : Bool) (h : 0 ≤ f) : 0 ≤ noteF f b m := by rw [note_old h]; exact h

theorem run_stay {l : List Tk} : ∀ (ks : List Int) (m : Int) (s : Pt) (F : Fs), (0 ≤ F.1 → 0 ≤ (runS l ks m (s, F)).2.1) ∧ (0 ≤ F.2.1 → 0 ≤ (runS l ks m (s, F)).2.2.1) ∧ (0 ≤ F.2.2.1 → 0 ≤ (runS l ks m (s, F)).2.2.2.1) ∧ (0 ≤ F.2.2.2 → 0 ≤ (runS l ks m (s, F)).2.2.2.2)
  | [], _, _, _ => ⟨id, id, id, id⟩
  | k :: ks, m, s, F => by
    have ih := run_stay (l := l) ks (m + 1) (minT l k m (s, F)).1 (minT l k m (s, F)).2
    exact ⟨fun h => ih.1 (note_stay _ h), fun h => ih.2.1 (note_stay _ h), fun h => ih.2.2.1 (note_stay _ h), fun h => ih.2.2.2 (note_stay _ h)⟩

theorem note_still {b : Bool} {m : Int} (hm : 0 ≤ m) (h : ¬ 0 ≤ noteF (-1) b m) : b = false := by
  cases b with
  | false => rfl
  | true => exact absurd (note_set hm) h

theorem nobr_of {l : List Tk} : ∀ (ks : List Int) (m : Int) (s : Pt), 0 ≤ m → (runS l ks m (s, none4)).2 = none4 → NoBr l ks m s
  | [], _, _, _, _ => trivial
  | k :: ks, m, s, hm, h => by
    have st := run_stay (l := l) ks (m + 1) (minT l k m (s, none4)).1 (minT l k m (s, none4)).2
    have e : runS l ks (m + 1) ((minT l k m (s, none4)).1, (minT l k m (s, none4)).2) = runS l (k :: ks) m (s, none4) := rfl
    rw [e, h] at st
    unfold none4 at st
    simp only at st
    have h0 : b0 l s k = false := note_still hm fun c => absurd (st.1 c) (by decide)
    have h1 : b1 l s k = false := note_still hm fun c => absurd (st.2.1 c) (by decide)
    have h2 : b2 l s m k = false := note_still hm fun c => absurd (st.2.2.1 c) (by decide)
    have h3 : b3 s k = false := note_still hm fun c => absurd (st.2.2.2 c) (by decide)
    refine ⟨⟨h0, h1, h2, h3⟩, nobr_of ks (m + 1) (stepT l s k) (by omega) ?_⟩
    have e2 : minT l k m (s, none4) = (stepT l s k, none4) := by
      unfold minT none4
      simp only [h0, h1, h2, h3, note_no]
    rw [← e2]
    exact h

/-! ### What is left to do, minute by minute -/

def dueL (l : List Tk) : List Int := l.flatMap fun t => List.replicate t.1.toNat 1 ++ List.replicate t.2.1.toNat (-1)

def dueT (l : List Tk) (s : Pt) : List Int :=
  if s.1 < l.length then List.replicate ((tk l s.1).1 - s.2.1).toNat 1 ++ List.replicate ((tk l s.1).2.1 - s.2.2).toNat (-1) ++ dueL (l.drop (s.1 + 1).toNat) else []

theorem due_from {l : List Tk} {i : Int} (h0 : 0 ≤ i) : dueT l (i, 0, 0) = dueL (l.drop i.toNat) := by
  unfold dueT
  by_cases h : i < l.length
  · rw [if_pos h, tk_drop h0 h]
    simp [dueL]
  · rw [if_neg h]
    have hd : l.drop i.toNat = [] := by rw [List.drop_eq_nil_iff]; omega
    rw [hd]; rfl

theorem due_full {l : List Tk} {s : Pt} (h0 : 0 ≤ s.1) (h : Full l s) : dueT l s = dueT l (s.1 + 1, 0, 0) := by
  rw [due_from (by omega)]
  obtain ⟨h1, h2, h3⟩ := h
  unfold dueT
  rw [if_pos h1, h2, h3]
  simp

theorem due_past {l : List Tk} : ∀ (n : Nat) (s : Pt), 0 ≤ s.1 → dueT l (pastN l n s) = dueT l s
  | 0, _, _ => rfl
  | n + 1, s, h0 => by
    unfold pastN
    by_cases h : Full l s
    · rw [if_pos h, due_past n _ (by simp only; omega), due_full h0 h]
    · rw [if_neg h]

theorem due_pastT {l : List Tk} {s : Pt} (h0 : 0 ≤ s.1) : dueT l (pastT l s) = dueT l s := due_past _ s h0

theorem no_b0 {l : List Tk} {s : Pt} {k : Int} (h : b0 l s k = false) : k = 3 → CanD l s := by
  unfold b0 at h
  have := of_decide_eq_false h
  intro e
  exact Classical.byContradiction fun c => this ⟨e, c⟩
theorem no_b1 {l : List Tk} {s : Pt} {k : Int} (h : b1 l s k = false) : k = 2 → CanW l s := by
  unfold b1 at h
  have := of_decide_eq_false h
  intro e
  exact Classical.byContradiction fun c => this ⟨e, c⟩
theorem no_b2 {l : List Tk} {s : Pt} {m k : Int} (h : b2 l s m k = false) : k = 2 → CanW l s → s.2.2 = 0 → hasL (tk l s.1).2.2 m = true := by
  unfold b2 at h
  have := of_decide_eq_false h
  intro e c z
  cases hh : hasL (tk l s.1).2.2 m with
  | true => rfl
  | false => exact absurd ⟨e, c, z, hh⟩ this
theorem no_b3 {s : Pt} {k : Int} (h : b3 s k = false) (hk : k ≠ 2) : ¬ 0 < s.2.2 := by
  unfold b3 at h
  have := of_decide_eq_false h
  exact fun c => this ⟨c, hk⟩

/-- A minute that breaks nothing is just the first one of what is left. -/
theorem due_step {l : List Tk} {s : Pt} (h : Fits l s) {k : Int} (h0 : k = 3 → CanD l s) (h1 : k = 2 → CanW l s) : dueT l s = (if dK k = 0 then [] else [dK k]) ++ dueT l (stepT l s k) := by
  have hz := h.1
  by_cases k3 : k = 3
  · subst k3
    have d := h0 rfl
    have e : stepT l s 3 = pastT l (s.1, s.2.1 + 1, s.2.2) := by unfold stepT goT; rw [if_pos ⟨rfl, d⟩]
    rw [e, due_pastT (s := (s.1, s.2.1 + 1, s.2.2)) hz]
    have hd : dK 3 = 1 := rfl
    rw [hd, if_neg (by decide)]
    unfold dueT
    simp only
    rw [if_pos d.1, if_pos d.1]
    have hlt := d.2
    have er : ((tk l s.1).1 - s.2.1).toNat = ((tk l s.1).1 - (s.2.1 + 1)).toNat + 1 := by omega
    rw [er, List.replicate_succ]
    simp
  · by_cases k2 : k = 2
    · subst k2
      have d := h1 rfl
      have e : stepT l s 2 = pastT l (s.1, s.2.1, s.2.2 + 1) := by unfold stepT goT; rw [if_neg (fun c => absurd c.1 (by decide)), if_pos ⟨rfl, d⟩]
      rw [e, due_pastT (s := (s.1, s.2.1, s.2.2 + 1)) hz]
      have hd : dK 2 = -1 := rfl
      rw [hd, if_neg (by decide)]
      unfold dueT
      simp only
      rw [if_pos d.1, if_pos d.1]
      have hlt := d.2.2
      have er : ((tk l s.1).2.1 - s.2.2).toNat = ((tk l s.1).2.1 - (s.2.2 + 1)).toNat + 1 := by omega
      have ez : ((tk l s.1).1 - s.2.1).toNat = 0 := by have := d.2.1; omega
      rw [er, ez, List.replicate_succ]
      simp
    · have hd : dK k = 0 := by unfold dK; rw [if_neg k3, if_neg k2]
      rw [hd, if_pos rfl, step_still h (fun c => k3 c.1) (fun c => k2 c.1)]
      rfl

theorem putK_zero (o : List Int) : putK o 0 = o := by unfold putK; rw [if_pos rfl]

theorem strip_due {l : List Tk} (ok : ∀ t ∈ l, TkOk t) : ∀ (ks : List Int) (m : Int) (s : Pt) (F : Fs) (o : List Int), Fits l s → NoBr l ks m s →
    (dueT l s).foldl putK o = (dueT l (runS l ks m (s, F)).1).foldl putK (ks.foldl (fun o k => putK o (dK k)) o)
  | [], _, _, _, _, _, _ => rfl
  | k :: ks, m, s, F, o, h, hn => by
    obtain ⟨⟨h0, h1, h2, h3⟩, hr⟩ := hn
    rw [due_step h (no_b0 h0) (no_b1 h1), List.foldl_append]
    have e : (if dK k = 0 then [] else [dK k]).foldl putK o = putK o (dK k) := by
      by_cases hd : dK k = 0
      · rw [if_pos hd, hd, putK_zero]; rfl
      · rw [if_neg hd]; rfl
    rw [e, strip_due ok ks (m + 1) (stepT l s k) (minT l k m (s, F)).2 (putK o (dK k)) (step_fits ok h k) hr]
    rfl

/-- What the document's Sum tells. -/
def sumL (o : List Int) (l : List Tk) : List Int := l.foldl (fun o t => putK (putK o t.1) (-t.2.1)) o
def sumT (l : List Tk) (s : Pt) : List Int :=
  if s.1 < l.length then sumL (putK (putK [] ((tk l s.1).1 - s.2.1)) (-((tk l s.1).2.1 - s.2.2))) (l.drop (s.1 + 1).toNat) else []

theorem fold_ones (d : Int) (hd : d = 1 ∨ d = -1) : ∀ (n : Nat) (out : List Int), (List.replicate n d).foldl putK out = putK out (n * d)
  | 0, out => by simp [putK]
  | n + 1, out => by
    rw [List.replicate_succ', List.foldl_append, fold_ones d hd n out]
    simp only [List.foldl_cons, List.foldl_nil]
    by_cases hn : n = 0
    · subst hn
      simp [putK]
    · unfold putK
      rcases hd with rfl | rfl
      · have e2 : ((n + 1 : Nat) : Int) * 1 = (n : Int) * 1 + 1 := by omega
        rw [if_neg (by omega), if_neg (by omega), if_neg (by omega), putN_put _ (by omega), e2]
      · have e2 : ((n + 1 : Nat) : Int) * -1 = (n : Int) * -1 + -1 := by omega
        rw [if_neg (by omega), if_neg (by omega), if_neg (by omega), putN_put _ (by omega), e2]

theorem fold_task {d v : Int} (h0 : 0 ≤ d) (h1 : 0 ≤ v) (o : List Int) : (List.replicate d.toNat 1 ++ List.replicate v.toNat (-1)).foldl putK o = putK (putK o d) (-v) := by
  rw [List.foldl_append, fold_ones 1 (.inl rfl), fold_ones (-1) (.inr rfl)]
  have e1 : ((d.toNat : Nat) : Int) * 1 = d := by omega
  have e2 : ((v.toNat : Nat) : Int) * -1 = -v := by omega
  rw [e1, e2]

theorem fold_due : ∀ {l : List Tk}, (∀ t ∈ l, TkOk t) → ∀ o, (dueL l).foldl putK o = sumL o l
  | [], _, _ => rfl
  | t :: l, ok, o => by
    have h := ok t (List.mem_cons_self ..)
    unfold TkOk at h
    show ((List.replicate t.1.toNat 1 ++ List.replicate t.2.1.toNat (-1)) ++ dueL l).foldl putK o = _
    rw [List.foldl_append, fold_task h.1 h.2.2.1, fold_due fun u hu => ok u (List.mem_cons_of_mem _ hu)]
    rfl

theorem sum_due {l : List Tk} (ok : ∀ t ∈ l, TkOk t) {s : Pt} (h : Fits l s) : sumT l s = (dueT l s).foldl putK [] := by
  unfold sumT dueT
  by_cases hl : s.1 < l.length
  · rw [if_pos hl, if_pos hl, List.foldl_append, fold_due fun u hu => ok u (List.mem_of_mem_drop hu)]
    have := h.2.2.2 hl
    rw [fold_task (by omega) (by omega)]
  · rw [if_neg hl, if_neg hl]; rfl

/-- What follows tasks is, stripped, just these. -/
theorem follow_strip {l : List Tk} (ok : ∀ t ∈ l, TkOk t) {s : Pt} (h : Fits l s) {ks : List Int} {m : Int} (hm : 0 ≤ m) (hr : (runS l ks m (s, none4)).2 = none4) (hd : ¬ (runS l ks m (s, none4)).1.1 < l.length) :
    stripK ks = sumT l s := by
  rw [sum_due ok h, strip_due ok ks m s none4 [] h (nobr_of ks m s hm hr)]
  have e : dueT l (runS l ks m (s, none4)).1 = [] := by unfold dueT; rw [if_neg hd]
  rw [e]
  rfl

/-! ### Each service that begins in it is one visit -/

/-- How many services there are in tasks. -/
def cntS (l : List Tk) : Nat := (l.filter fun t => decide (0 < t.2.1)).length

/-- How many services begin from here on, or go on that began in the timeline. -/
def restC (l : List Tk) (s : Pt) (b : Int) : Nat :=
  if s.1 < l.length then (if 0 < (tk l s.1).2.1 ∧ (s.2.2 = 0 ∨ 0 ≤ b) then 1 else 0) + cntS (l.drop (s.1 + 1).toNat) else 0

theorem rest_from {l : List Tk} {i : Int} (h0 : 0 ≤ i) (b : Int) : restC l (i, 0, 0) b = cntS (l.drop i.toNat) := by
  unfold restC
  by_cases h : i < l.length
  · rw [if_pos h, tk_drop h0 h]
    unfold cntS
    by_cases hs : 0 < (tk l i).2.1
    · simp [hs]; omega
    · simp [hs]
  · rw [if_neg h]
    have hd : l.drop i.toNat = [] := by rw [List.drop_eq_nil_iff]; omega
    rw [hd]; rfl

theorem rest_past {l : List Tk} (b : Int) : ∀ (n : Nat) (s : Pt), 0 ≤ s.1 → s.2.2 = 0 → restC l (pastN l n s) b = restC l s b
  | 0, _, _, _ => rfl
  | n + 1, s, h0, hz => by
    unfold pastN
    by_cases h : Full l s
    · rw [if_pos h, rest_past b n _ (by simp only; omega) rfl, rest_from (by omega)]
      obtain ⟨h1, h2, h3⟩ := h
      unfold restC
      rw [if_pos h1, ← h3, hz]
      simp
    · rw [if_neg h]

/-- How minutes that break nothing stand. -/
structure VI (l : List Tk) (m : Int) (s : Pt) (b : Int) (o : List Vt) (want : Nat) : Prop where
  all : ∀ x ∈ o, 0 ≤ x.1 ∧ x.1 < l.length ∧ x.2.2 - x.2.1 = (tk l x.1).2.1 ∧ hasL (tk l x.1).2.2 x.2.1 = true
  ord : o.Pairwise fun x y => x.1 < y.1 ∧ x.2.2 ≤ y.2.1
  last : ∀ x ∈ o, x.1 < s.1 ∧ x.2.2 ≤ m ∧ (0 < s.2.2 → 0 ≤ b → x.2.2 ≤ b)
  cur : 0 < s.2.2 → 0 ≤ b → m - b = s.2.2 ∧ hasL (tk l s.1).2.2 b = true
  cnt : o.length + restC l s b = want

theorem vi_step {l : List Tk} {m : Int} {s : Pt} {b : Int} {o : List Vt} {want : Nat} (h : Fits l s) (hm : 0 ≤ m) {k : Int} (h0 : k = 3 → CanD l s) (h1 : k = 2 → CanW l s)
    (h2 : k = 2 → CanW l s → s.2.2 = 0 → hasL (tk l s.1).2.2 m = true) (h3 : k ≠ 2 → ¬ 0 < s.2.2) (v : VI l m s b o want) :
    VI l (m + 1) (visT l k m (s, b, o)).1 (visT l k m (s, b, o)).2.1 (visT l k m (s, b, o)).2.2 want := by
  have hz := h.1
  by_cases k2 : k = 2
  · subst k2
    have d := h1 rfl
    have hb := h2 rfl d
    have hs := (h.2.2.2 d.1).2.2.1
    have e2 : stepT l s 2 = pastT l (s.1, s.2.1, s.2.2 + 1) := by
      unfold stepT goT; rw [if_neg (fun c => absurd c.1 (by decide)), if_pos ⟨rfl, d⟩]
    -- with which minute the service began
    obtain ⟨q, hq⟩ : ∃ q, (if s.2.2 = 0 then m else b) = q := ⟨_, rfl⟩
    have hq0 : 0 ≤ q → m - q = s.2.2 ∧ hasL (tk l s.1).2.2 q = true := by
      intro c
      by_cases hz : s.2.2 = 0
      · rw [if_pos hz] at hq; subst hq; exact ⟨by omega, hb hz⟩
      · rw [if_neg hz] at hq; subst hq; exact v.cur (by omega) c
    have hl : ∀ x ∈ o, 0 ≤ q → x.2.2 ≤ q := by
      intro x hx c
      by_cases hz : s.2.2 = 0
      · rw [if_pos hz] at hq; subst hq; exact (v.last x hx).2.1
      · rw [if_neg hz] at hq; subst hq; exact (v.last x hx).2.2 (by omega) c
    have hrc : restC l s b = (if 0 ≤ q then 1 else 0) + cntS (l.drop (s.1 + 1).toNat) := by
      unfold restC
      have hw := d.2.2
      have hp : 0 < (tk l s.1).2.1 := by omega
      rw [if_pos d.1]
      congr 1
      by_cases hz : s.2.2 = 0
      · rw [if_pos hz] at hq; subst hq; rw [if_pos ⟨hp, .inl hz⟩, if_pos hm]
      · rw [if_neg hz] at hq; subst hq
        by_cases c : 0 ≤ b
        · rw [if_pos ⟨hp, .inr c⟩, if_pos c]
        · rw [if_neg (fun k => k.2.elim hz c), if_neg c]
    have hv := v.cnt
    rw [hrc] at hv
    have eT : visT l 2 m (s, b, o) = (pastT l (s.1, s.2.1, s.2.2 + 1), (if s.1 < (pastT l (s.1, s.2.1, s.2.2 + 1)).1 then -1 else q), (if s.1 < (pastT l (s.1, s.2.1, s.2.2 + 1)).1 ∧ 0 ≤ q then o ++ [(s.1, q, m + 1)] else o)) := by
      unfold visT
      simp only
      rw [if_pos ⟨trivial, d⟩, e2, hq]
    rw [eT]
    simp only
    by_cases hf : Full l (s.1, s.2.1, s.2.2 + 1)
    · have hgt := pastT_full hf
      simp only at hgt
      have huns : (pastT l (s.1, s.2.1, s.2.2 + 1)).2.2 = 0 := by rw [pastT_move hf]; exact pastT_unserved rfl
      have hrest : ∀ b, restC l (pastT l (s.1, s.2.1, s.2.2 + 1)) b = cntS (l.drop (s.1 + 1).toNat) := fun b => by
        rw [pastT_move hf]
        unfold pastT
        rw [rest_past b _ _ (by simp only; omega) rfl, rest_from (by simp only; omega)]
      have hfe := hf.2.2
      simp only at hfe
      rw [if_pos hgt]
      by_cases c : 0 ≤ q
      · rw [if_pos ⟨hgt, c⟩]
        obtain ⟨q1, q2⟩ := hq0 c
        rw [if_pos c] at hv
        refine ⟨fun x hx => ?_, ?_, fun x hx => ?_, fun c => by omega, ?_⟩
        · rcases List.mem_append.1 hx with hx | hx
          · exact v.all x hx
          · rw [List.mem_singleton] at hx; subst hx
            exact ⟨hz, d.1, by simp only; omega, q2⟩
        · rw [List.pairwise_append]
          refine ⟨v.ord, List.pairwise_singleton _ _, fun x hx y hy => ?_⟩
          rw [List.mem_singleton] at hy; subst hy
          exact ⟨(v.last x hx).1, hl x hx c⟩
        · rcases List.mem_append.1 hx with hx | hx
          · have := v.last x hx; exact ⟨by omega, by omega, fun c => by omega⟩
          · rw [List.mem_singleton] at hx; subst hx
            exact ⟨hgt, Int.le_refl _, fun c => by omega⟩
        · rw [hrest, List.length_append, List.length_singleton]; omega
      · rw [if_neg (fun k => c k.2)]
        rw [if_neg c] at hv
        refine ⟨v.all, v.ord, fun x hx => ?_, fun c => by omega, by rw [hrest]; omega⟩
        have := v.last x hx; exact ⟨by omega, by omega, fun c => by omega⟩
    · rw [pastT_still hf]
      simp only [Int.lt_irrefl, if_false, false_and]
      refine ⟨v.all, v.ord, fun x hx => ?_, fun _ c => ?_, ?_⟩
      · have := v.last x hx; exact ⟨this.1, by omega, fun _ c => hl x hx c⟩
      · obtain ⟨q1, q2⟩ := hq0 c; exact ⟨by simp only; omega, q2⟩
      · unfold restC
        simp only
        have hw := d.2.2
        rw [if_pos d.1]
        have e : (if 0 < (tk l s.1).2.1 ∧ (s.2.2 + 1 = 0 ∨ 0 ≤ q) then 1 else 0) = (if 0 ≤ q then 1 else 0) := by
          by_cases c : 0 ≤ q
          · rw [if_pos ⟨by omega, .inr c⟩, if_pos c]
          · rw [if_neg (fun k => k.2.elim (by omega) c), if_neg c]
        rw [e]
        exact hv
  · have e : visT l k m (s, b, o) = (stepT l s k, b, o) := by unfold visT; rw [if_neg (fun c => k2 c.1)]
    rw [e]
    simp only
    have n3 := h3 k2
    by_cases k3 : k = 3
    · subst k3
      have d := h0 rfl
      have hu := fits_undriven h d
      have e2 : stepT l s 3 = pastT l (s.1, s.2.1 + 1, s.2.2) := by unfold stepT goT; rw [if_pos ⟨rfl, d⟩]
      rw [e2]
      have hle : s.1 ≤ (pastT l (s.1, s.2.1 + 1, s.2.2)).1 := past_more (l := l) _ (s.1, s.2.1 + 1, s.2.2)
      have huns : (pastT l (s.1, s.2.1 + 1, s.2.2)).2.2 = 0 := pastT_unserved hu
      have hrest : restC l (pastT l (s.1, s.2.1 + 1, s.2.2)) b = restC l s b := by
        unfold pastT
        rw [rest_past b _ (s.1, s.2.1 + 1, s.2.2) hz hu]
        rfl
      refine ⟨v.all, v.ord, fun x hx => ?_, fun c => by omega, by rw [hrest]; exact v.cnt⟩
      have := v.last x hx; exact ⟨by omega, by omega, fun c => by omega⟩
    · rw [step_still h (fun c => k3 c.1) (fun c => k2 c.1)]
      refine ⟨v.all, v.ord, fun x hx => ?_, fun c => absurd c n3, v.cnt⟩
      have := v.last x hx; exact ⟨this.1, by omega, fun c => absurd c n3⟩

theorem vi_run {l : List Tk} (ok : ∀ t ∈ l, TkOk t) : ∀ (ks : List Int) {m : Int} {s : Pt} {b : Int} {o : List Vt} {want : Nat}, Fits l s → 0 ≤ m → NoBr l ks m s → VI l m s b o want →
    VI l (m + ks.length) (visS l ks m (s, b, o)).1 (visS l ks m (s, b, o)).2.1 (visS l ks m (s, b, o)).2.2 want
  | [], m, s, b, o, want, _, _, _, v => by simpa [visS] using v
  | k :: ks, m, s, b, o, want, h, hm, hn, v => by
    obtain ⟨⟨h0, h1, h2, h3⟩, hr⟩ := hn
    have v1 := vi_step h hm (no_b0 h0) (no_b1 h1) (no_b2 h2) (no_b3 h3) v
    have e : visT l k m (s, b, o) = (stepT l s k, (visT l k m (s, b, o)).2.1, (visT l k m (s, b, o)).2.2) := by
      unfold visT; split <;> rfl
    have es : (visT l k m (s, b, o)).1 = stepT l s k := by rw [e]
    rw [es] at v1
    have := vi_run ok ks (step_fits ok h k) (by omega) hr v1
    have el : m + ((k :: ks).length : Int) = m + 1 + ks.length := by simp; omega
    show VI l _ (visS l ks (m + 1) (visT l k m (s, b, o))).1 (visS l ks (m + 1) (visT l k m (s, b, o))).2.1 (visS l ks (m + 1) (visT l k m (s, b, o))).2.2 want
    rw [el, e]
    exact this

/-- The visits of what follows tasks. -/
theorem follow_visits {l : List Tk} (ok : ∀ t ∈ l, TkOk t) {s : Pt} (h : Fits l s) {ks : List Int} {m : Int} (hm : 0 ≤ m) (hr : (runS l ks m (s, none4)).2 = none4) (hd : ¬ (runS l ks m (s, none4)).1.1 < l.length) {o : List Vt}
    (ho : (visS l ks m (s, -1, [])).2.2 = o) :
    (∀ x ∈ o, 0 ≤ x.1 ∧ x.1 < l.length ∧ x.2.2 - x.2.1 = (tk l x.1).2.1 ∧ hasL (tk l x.1).2.2 x.2.1 = true) ∧ o.Pairwise (fun x y => x.1 < y.1 ∧ x.2.2 ≤ y.2.1) ∧ o.length = restC l s (-1) := by
  obtain ⟨want, hw⟩ : ∃ want, restC l s (-1) = want := ⟨_, rfl⟩
  rw [hw]
  have v0 : VI l m s (-1) [] want := ⟨fun x hx => (by cases hx), List.Pairwise.nil, fun x hx => (by cases hx), fun _ c => absurd c (by decide), by simpa using hw⟩
  have v := vi_run ok ks h hm (nobr_of ks m s hm hr) v0
  rw [ho] at v
  refine ⟨v.all, v.ord, ?_⟩
  have hc := v.cnt
  have hs := vis_spot l ks m s (-1) [] none4
  rw [hs] at hc
  unfold restC at hc
  rw [if_neg hd] at hc
  simpa using hc

end Go.Proofs.Ythiiipbfdgaemaa

/- What the law of Strip and Visits counts and looks at, in plain words. Conditions: none beyond each lemma's own premises. -/
namespace Go.Proofs.Ythiiipbfdgaemaa

/-- How many services are still to be counted, when task k is looked at. -/
def restW (l : List Tk) (s : Pt) (i0 k : Nat) : Nat := if k = i0 then restC l s (-1) else cntS (l.drop k)

theorem cnt_drop {l : List Tk} {k : Nat} (hk : k < l.length) : cntS (l.drop k) = (if 0 < (l.getD k tz).2.1 then 1 else 0) + cntS (l.drop (k + 1)) := by
  rw [List.drop_eq_getElem_cons hk]
  have e : l.getD k tz = l[k] := by rw [List.getD_eq_getElem?_getD, List.getElem?_eq_getElem hk]; rfl
  rw [e]
  generalize l[k] = t
  generalize l.drop (k + 1) = d
  unfold cntS
  by_cases h : 0 < t.2.1
  · rw [if_pos h, List.filter_cons_of_pos (by simpa using h), List.length_cons]; omega
  · rw [if_neg h, List.filter_cons_of_neg (by simpa using h)]; omega

theorem restW_step {l : List Tk} {i0 : Nat} {x y : Int} {k : Nat} (h0 : i0 ≤ k) (hk : k < l.length) :
    restW l (i0, x, y) i0 k = (if 0 < (l.getD k tz).2.1 ∧ (i0 < k ∨ y = 0) then 1 else 0) + restW l (i0, x, y) i0 (k + 1) := by
  unfold restW
  rw [if_neg (show ¬ k + 1 = i0 by omega)]
  by_cases h : k = i0
  · subst h
    rw [if_pos rfl]
    unfold restC
    simp only
    rw [if_pos (show ((k : Nat) : Int) < (l.length : Int) by omega), tk_nat rfl, show (((k : Nat) : Int) + 1).toNat = k + 1 by omega]
    congr 1
    generalize (l.getD k tz).2.1 = z
    by_cases a : 0 < z <;> by_cases b : y = 0 <;> simp [a, b]
  · rw [if_neg h, cnt_drop hk]
    congr 1
    generalize (l.getD k tz).2.1 = z
    have hk' : i0 < k := by omega
    simp [hk']

theorem restW_end {l : List Tk} {i0 : Nat} {x y : Int} : restW l (i0, x, y) i0 l.length = 0 := by
  unfold restW
  by_cases h : l.length = i0
  · rw [if_pos h]
    unfold restC
    simp only
    rw [if_neg (by omega)]
  · rw [if_neg h, List.drop_length]
    rfl

theorem vs_at {l : List Tk} {vs : List Vt} (h : ∀ x ∈ vs, 0 ≤ x.1 ∧ x.1 < l.length ∧ x.2.2 - x.2.1 = (tk l x.1).2.1 ∧ hasL (tk l x.1).2.2 x.2.1 = true) {k : Nat} (hk : k < vs.length) {a fr te : Int} (e : vs.getD k rz = (a, fr, te)) :
    0 ≤ a ∧ a < l.length ∧ te - fr = (tk l a).2.1 ∧ hasL (tk l a).2.2 fr = true := by
  have e1 : vs.getD k rz = vs[k] := by rw [List.getD_eq_getElem?_getD, List.getElem?_eq_getElem hk]; rfl
  have := h _ (List.getElem_mem hk)
  rw [← e1, e] at this
  exact this

theorem vs_lt {vs : List Vt} (h : vs.Pairwise (fun x y => x.1 < y.1 ∧ x.2.2 ≤ y.2.1)) {j : Nat} (hk : j + 1 < vs.length) {a fr te a' fr' te' : Int} (e : vs.getD (j + 1) rz = (a, fr, te)) (e' : vs.getD j rz = (a', fr', te')) :
    a' < a ∧ te' ≤ fr := by
  have e1 : vs.getD (j + 1) rz = vs[j + 1] := by rw [List.getD_eq_getElem?_getD, List.getElem?_eq_getElem hk]; rfl
  have e2 : vs.getD j rz = vs[j] := by rw [List.getD_eq_getElem?_getD, List.getElem?_eq_getElem (by omega)]; rfl
  have := List.pairwise_iff_getElem.1 h j (j + 1) (by omega) hk (by omega)
  rw [← e1, ← e2, e, e'] at this
  exact this

theorem hasL_more {o : List Sp} {j : Nat} (hj : j < o.length) {x y m : Int} (e : o.getD j (0, 0) = (x, y)) : hasL (o.take (j + 1)) m = (hasL (o.take j) m || (decide (x ≤ m) && decide (m < y))) := by
  have e1 : o[j]? = some (x, y) := by
    rw [← e, List.getD_eq_getElem?_getD, List.getElem?_eq_getElem hj]; rfl
  unfold hasL
  rw [List.take_add_one, e1, Option.toList_some, List.any_append]
  simp [hasS]

end Go.Proofs.Ythiiipbfdgaemaa
