/- Sets of minutes as lists of spans: plain facts on lists of pairs of numbers. Conditions: none beyond each lemma's own premises. -/
namespace Go.Proofs.Ythgieanhlmnneaa

abbrev Sp := Int × Int

def hasS (s : Sp) (m : Int) : Bool := decide (s.1 ≤ m) && decide (m < s.2)

def hasL (l : List Sp) (m : Int) : Bool := l.any (fun s => hasS s m)

structure IsSet (l : List Sp) : Prop where
  right : ∀ s ∈ l, s.1 < s.2
  rise : l.Pairwise (fun s t => s.2 < t.1)

theorem hasS_iff {s : Sp} {m : Int} : hasS s m = true ↔ s.1 ≤ m ∧ m < s.2 := by simp [hasS]

theorem hasS_no {s : Sp} {m : Int} : hasS s m = false ↔ ¬ (s.1 ≤ m ∧ m < s.2) := by
  rw [← hasS_iff]; simp

theorem hasL_iff {l : List Sp} {m : Int} : hasL l m = true ↔ ∃ s ∈ l, s.1 ≤ m ∧ m < s.2 := by
  simp [hasL, hasS]

theorem hasL_no {l : List Sp} {m : Int} : hasL l m = false ↔ ∀ s ∈ l, ¬ (s.1 ≤ m ∧ m < s.2) := by
  constructor
  · intro h s hs hm
    have : hasL l m = true := hasL_iff.2 ⟨s, hs, hm⟩
    rw [h] at this; cases this
  · intro h
    cases hh : hasL l m with
    | false => rfl
    | true =>
      obtain ⟨s, hs, hm⟩ := hasL_iff.1 hh
      exact absurd hm (h s hs)

theorem hasL_nil (m : Int) : hasL [] m = false := rfl

theorem hasL_cons (s : Sp) (l : List Sp) (m : Int) : hasL (s :: l) m = (hasS s m || hasL l m) := rfl

theorem hasL_append (a b : List Sp) (m : Int) : hasL (a ++ b) m = (hasL a m || hasL b m) := by simp [hasL]

/-- Two lists have the same minutes. -/
theorem hasL_ext {a b : List Sp} {m n : Int} (h : hasL a m = true ↔ hasL b n = true) : hasL a m = hasL b n := by
  cases h1 : hasL a m <;> cases h2 : hasL b n <;> simp_all

theorem IsSet.nil : IsSet [] := ⟨by simp, List.Pairwise.nil⟩

theorem IsSet.tail {s : Sp} {l : List Sp} (h : IsSet (s :: l)) : IsSet l :=
  ⟨fun t ht => h.right t (List.mem_cons_of_mem _ ht), (List.pairwise_cons.1 h.rise).2⟩

theorem IsSet.head {s : Sp} {l : List Sp} (h : IsSet (s :: l)) : s.1 < s.2 := h.right s (List.mem_cons_self ..)

theorem IsSet.later {s : Sp} {l : List Sp} (h : IsSet (s :: l)) : ∀ t ∈ l, s.2 < t.1 := (List.pairwise_cons.1 h.rise).1

theorem IsSet.cons {s : Sp} {l : List Sp} (h : IsSet l) (h1 : s.1 < s.2) (h2 : ∀ t ∈ l, s.2 < t.1) : IsSet (s :: l) :=
  ⟨fun t ht => by
    rcases List.mem_cons.1 ht with rfl | ht
    · exact h1
    · exact h.right t ht, List.pairwise_cons.2 ⟨h2, h.rise⟩⟩

theorem IsSet.snoc {s : Sp} {l : List Sp} (h : IsSet l) (h1 : s.1 < s.2) (h2 : ∀ t ∈ l, t.2 < s.1) : IsSet (l ++ [s]) :=
  ⟨fun t ht => by
    rcases List.mem_append.1 ht with ht | ht
    · exact h.right t ht
    · rw [List.mem_singleton.1 ht]; exact h1, List.pairwise_append.2 ⟨h.rise, List.pairwise_singleton _ _, fun a ha b hb => by
      rw [List.mem_singleton.1 hb]; exact h2 a ha⟩⟩

theorem IsSet.init {s : Sp} {l : List Sp} (h : IsSet (l ++ [s])) : IsSet l ∧ s.1 < s.2 ∧ ∀ t ∈ l, t.2 < s.1 := by
  refine ⟨⟨fun t ht => h.right t (List.mem_append_left _ ht), (List.pairwise_append.1 h.rise).1⟩, h.right s (by simp), fun t ht => (List.pairwise_append.1 h.rise).2.2 t ht s (by simp)⟩

/-- Of each list there is one set with its minutes. -/
theorem set_unique : ∀ {a b : List Sp}, IsSet a → IsSet b → (∀ m, hasL a m = hasL b m) → a = b
  | [], [], _, _, _ => rfl
  | [], t :: b, _, hb, h => by
    have h1 := h t.1
    have : hasL (t :: b) t.1 = true := hasL_iff.2 ⟨t, List.mem_cons_self .., by have := hb.head; omega⟩
    rw [this] at h1; cases h1
  | s :: a, [], ha, _, h => by
    have h1 := h s.1
    have : hasL (s :: a) s.1 = true := hasL_iff.2 ⟨s, List.mem_cons_self .., by have := ha.head; omega⟩
    rw [this] at h1; cases h1
  | s :: a, t :: b, ha, hb, h => by
    have hs := ha.head
    have ht := hb.head
    have la := ha.later
    have lb := hb.later
    have e1 : s.1 = t.1 := by
      have h1 : hasL (t :: b) s.1 = true := by rw [← h]; exact hasL_iff.2 ⟨s, List.mem_cons_self .., by omega⟩
      have h2 : hasL (s :: a) t.1 = true := by rw [h]; exact hasL_iff.2 ⟨t, List.mem_cons_self .., by omega⟩
      obtain ⟨x, hx, hx1, hx2⟩ := hasL_iff.1 h1
      obtain ⟨y, hy, hy1, hy2⟩ := hasL_iff.1 h2
      have c1 : t.1 ≤ s.1 := by
        rcases List.mem_cons.1 hx with rfl | hx
        · exact hx1
        · have := lb x hx; omega
      have c2 : s.1 ≤ t.1 := by
        rcases List.mem_cons.1 hy with rfl | hy
        · exact hy1
        · have := la y hy; omega
      omega
    have e2 : s.2 = t.2 := by
      rcases Int.lt_trichotomy s.2 t.2 with hlt | he | hgt
      · have h1 : hasL (s :: a) s.2 = true := by rw [h]; exact hasL_iff.2 ⟨t, List.mem_cons_self .., by omega⟩
        obtain ⟨x, hx, hx1, hx2⟩ := hasL_iff.1 h1
        rcases List.mem_cons.1 hx with rfl | hx
        · omega
        · have := la x hx; omega
      · exact he
      · have h1 : hasL (t :: b) t.2 = true := by rw [← h]; exact hasL_iff.2 ⟨s, List.mem_cons_self .., by omega⟩
        obtain ⟨x, hx, hx1, hx2⟩ := hasL_iff.1 h1
        rcases List.mem_cons.1 hx with rfl | hx
        · omega
        · have := lb x hx; omega
    have e : s = t := Prod.ext e1 e2
    subst e
    congr 1
    refine set_unique ha.tail hb.tail fun m => ?_
    have hm := h m
    rw [hasL_cons, hasL_cons] at hm
    cases hsm : hasS s m with
    | false => simpa [hsm] using hm
    | true =>
      have hh := hasS_iff.1 hsm
      rw [hasL_no.2 fun x hx hxm => by have := la x hx; omega, hasL_no.2 fun x hx hxm => by have := lb x hx; omega]

/-- What Right asks at place k. -/
def okAt (l : List Sp) (k : Nat) : Bool := decide ((l.getD k (0, 0)).1 < (l.getD k (0, 0)).2) && (decide (k = 0) || decide ((l.getD (k - 1) (0, 0)).2 < (l.getD k (0, 0)).1))

def rightB (l : List Sp) : Bool := (List.range l.length).all (okAt l)

theorem rightB_iff (l : List Sp) : rightB l = true ↔ IsSet l := by
  constructor
  · intro h
    have hk : ∀ k, k < l.length → okAt l k = true := fun k hk => by
      have := List.all_eq_true.1 h k (List.mem_range.2 hk); simpa using this
    have hr : ∀ k (hk : k < l.length), l[k].1 < l[k].2 := fun k hkl => by
      have := hk k hkl
      simp [okAt, List.getD, hkl] at this
      exact this.1
    have hs : ∀ k (h0 : 0 < k) (hk : k < l.length), l[k - 1].2 < l[k].1 := fun k h0 hkl => by
      have := hk k hkl
      have h1 : k - 1 < l.length := by omega
      simp [okAt, List.getD, hkl, h1] at this
      rcases this.2 with h2 | h2
      · omega
      · exact h2
    refine ⟨fun s hs' => ?_, ?_⟩
    · obtain ⟨k, hkl, rfl⟩ := List.mem_iff_getElem.1 hs'
      exact hr k hkl
    · rw [List.pairwise_iff_getElem]
      have key : ∀ (d i : Nat) (hj : i + d + 1 < l.length), (l[i]'(by omega)).2 < l[i + d + 1].1 := by
        intro d
        induction d with
        | zero => intro i hj; exact hs (i + 1) (by omega) hj
        | succ d ih =>
          intro i hj
          have h1 := ih i (by omega)
          have h2 := hr (i + d + 1) (by omega)
          have h3 := hs (i + d + 1 + 1) (by omega) hj
          have h4 : (l[i + d + 1 + 1 - 1]'(by omega)) = l[i + d + 1] := rfl
          rw [h4] at h3
          have h5 : i + (d + 1) + 1 = i + d + 1 + 1 := by omega
          simp only [h5]
          omega
      intro i j hi hj hij
      obtain ⟨d, rfl⟩ : ∃ d, j = i + d + 1 := ⟨j - i - 1, by omega⟩
      exact key d i hj
  · intro h
    refine List.all_eq_true.2 fun k hk => ?_
    have hk := List.mem_range.1 hk
    have h1 := h.right l[k] (List.getElem_mem hk)
    simp only [okAt, List.getD, hk, List.getElem?_eq_getElem, Option.getD_some, h1, decide_true, Bool.true_and, Bool.or_eq_true, decide_eq_true_eq]
    by_cases h0 : k = 0
    · exact Or.inl h0
    · refine Or.inr ?_
      have h2 : k - 1 < l.length := by omega
      have := List.pairwise_iff_getElem.1 h.rise (k - 1) k h2 hk (by omega)
      simpa [h2] using this

theorem rightB_no {l : List Sp} {k : Nat} (hk : k < l.length) (h : okAt l k = false) : rightB l = false := by
  cases hh : rightB l with
  | false => rfl
  | true =>
    have := List.all_eq_true.1 hh k (List.mem_range.2 hk)
    rw [h] at this; cases this

theorem rightB_yes {l : List Sp} (h : ∀ k, k < l.length → okAt l k = true) : rightB l = true :=
  List.all_eq_true.2 fun k hk => h k (List.mem_range.1 hk)

/-- Those that are right. -/
def onlyR (l : List Sp) : List Sp := l.filter fun s => decide (s.1 < s.2)

theorem hasL_onlyR (l : List Sp) (m : Int) : hasL (onlyR l) m = hasL l m := by
  refine hasL_ext ⟨fun h => ?_, fun h => ?_⟩
  · obtain ⟨s, hs, hm⟩ := hasL_iff.1 h
    exact hasL_iff.2 ⟨s, (List.mem_filter.1 hs).1, hm⟩
  · obtain ⟨s, hs, hm⟩ := hasL_iff.1 h
    exact hasL_iff.2 ⟨s, List.mem_filter.2 ⟨hs, by simp; omega⟩, hm⟩

theorem hasL_perm {a b : List Sp} (h : a.Perm b) (m : Int) : hasL a m = hasL b m := by
  refine hasL_ext ⟨fun hh => ?_, fun hh => ?_⟩
  · obtain ⟨s, hs, hm⟩ := hasL_iff.1 hh
    exact hasL_iff.2 ⟨s, h.mem_iff.1 hs, hm⟩
  · obtain ⟨s, hs, hm⟩ := hasL_iff.1 hh
    exact hasL_iff.2 ⟨s, h.mem_iff.2 hs, hm⟩

/-- One span more, put to a set whose last one begins no later. -/
def put1 (set : List Sp) (s : Sp) : List Sp :=
  match set.getLast? with
  | some t => if s.1 ≤ t.2 then set.dropLast ++ [(t.1, if s.2 ≤ t.2 then t.2 else s.2)] else set ++ [s]
  | none => [s]

def putAll (l : List Sp) : List Sp := l.foldl put1 []

theorem put1_nil (s : Sp) : put1 [] s = [s] := rfl

theorem put1_join (a : List Sp) (t s : Sp) (h : s.1 ≤ t.2) : put1 (a ++ [t]) s = a ++ [(t.1, if s.2 ≤ t.2 then t.2 else s.2)] := by
  simp [put1, h]

theorem put1_new (a : List Sp) (t s : Sp) (h : ¬ s.1 ≤ t.2) : put1 (a ++ [t]) s = a ++ [t] ++ [s] := by
  simp [put1, h]

theorem put1_len (set : List Sp) (s : Sp) : (put1 set s).length ≤ set.length + 1 := by
  rcases List.eq_nil_or_concat set with rfl | ⟨a, t, rfl⟩
  · simp [put1_nil]
  · by_cases h : s.1 ≤ t.2
    · simp [List.concat_eq_append, put1_join a t s h]
    · simp [List.concat_eq_append, put1_new a t s h]

theorem put1_ok {set : List Sp} {s : Sp} (h : IsSet set) (hs : s.1 < s.2) (hb : ∀ t ∈ set, t.1 ≤ s.1) :
    IsSet (put1 set s) ∧ (∀ m, hasL (put1 set s) m = (hasL set m || hasS s m)) ∧ (∀ t ∈ put1 set s, t.1 ≤ s.1) := by
  rcases List.eq_nil_or_concat set with rfl | ⟨a, t, rfl⟩
  · rw [put1_nil]
    exact ⟨IsSet.nil.cons hs (by simp), fun m => by simp [hasL], by simp⟩
  · rw [List.concat_eq_append] at *
    have hi := h.init
    have ht1 : t.1 ≤ s.1 := hb t (by simp)
    by_cases c : s.1 ≤ t.2
    · rw [put1_join a t s c]
      refine ⟨hi.1.snoc (s := (t.1, if s.2 ≤ t.2 then t.2 else s.2)) ?_ hi.2.2, fun m => ?_, fun u hu => ?_⟩
      · show t.1 < if s.2 ≤ t.2 then t.2 else s.2
        split <;> omega
      · rw [hasL_append, hasL_append, Bool.or_assoc]
        congr 1
        simp only [hasL, List.any_cons, List.any_nil, Bool.or_false]
        rw [Bool.eq_iff_iff, Bool.or_eq_true, hasS_iff, hasS_iff, hasS_iff]
        show (t.1 ≤ m ∧ m < if s.2 ≤ t.2 then t.2 else s.2) ↔ _
        split <;> omega
      · rcases List.mem_append.1 hu with hu | hu
        · exact hb u (by simp [hu])
        · rw [List.mem_singleton.1 hu]; exact ht1
    · rw [put1_new a t s c]
      refine ⟨h.snoc hs fun u hu => ?_, fun m => ?_, fun u hu => ?_⟩
      · rcases List.mem_append.1 hu with hu | hu
        · have := hi.2.2 u hu; omega
        · rw [List.mem_singleton.1 hu]; omega
      · rw [hasL_append (a ++ [t])]
        simp [hasL]
      · rcases List.mem_append.1 hu with hu | hu
        · exact hb u hu
        · rw [List.mem_singleton.1 hu]; exact Int.le_refl _

theorem putAll_from : ∀ (l set : List Sp), IsSet set → (∀ s ∈ l, s.1 < s.2) → l.Pairwise (fun s t => s.1 ≤ t.1) → (∀ t ∈ set, ∀ s ∈ l, t.1 ≤ s.1) →
    IsSet (l.foldl put1 set) ∧ ∀ m, hasL (l.foldl put1 set) m = (hasL set m || hasL l m)
  | [], set, h, _, _, _ => ⟨h, fun m => by simp [hasL]⟩
  | s :: l, set, h, hr, hp, hb => by
    have hp' := List.pairwise_cons.1 hp
    have h1 := put1_ok h (hr s (List.mem_cons_self ..)) (fun t ht => hb t ht s (List.mem_cons_self ..))
    have h2 := putAll_from l (put1 set s) h1.1 (fun u hu => hr u (List.mem_cons_of_mem _ hu)) hp'.2 (fun t ht u hu => Int.le_trans (h1.2.2 t ht) (hp'.1 u hu))
    refine ⟨h2.1, fun m => ?_⟩
    rw [List.foldl_cons, h2.2, h1.2.1, hasL_cons, Bool.or_assoc]

theorem putAll_ok {l d : List Sp} (hp : d.Perm (onlyR l)) (hs : d.Pairwise (fun s t => s.1 ≤ t.1)) : IsSet (putAll d) ∧ ∀ m, hasL (putAll d) m = hasL l m := by
  have h := putAll_from d [] IsSet.nil (fun s h => by
    have := (List.mem_filter.1 (hp.mem_iff.1 h)).2
    simpa using this) hs (by simp)
  exact ⟨h.1, fun m => by rw [putAll, h.2, hasL_nil, Bool.false_or, hasL_perm hp, hasL_onlyR]⟩

end Go.Proofs.Ythgieanhlmnneaa
