/- Plain facts, several texts in one: IvalsMath, IvalsEnc, IvalsMath2, IvalsMath3, RecMath. Conditions: none beyond each lemma's own premises. -/
import Derived.WalkKit
import Derived.RowKit

/- Sets of minutes as lists of spans: plain facts on lists of pairs of numbers. Conditions: none beyond each lemma's own premises. -/
namespace Go.Proofs.Ytolbihfnogbjaaa

abbrev Sp := Int × Int

def hasS (s : Sp) (m : Int) : Bool := decide (s.1 ≤ m) && decide (m < s.2)

def hasL (l : List Sp) (m : Int) : Bool := l.any (fun s => hasS s m)

structure IsSet (l : List Sp) : Prop where
  right : ∀ s ∈ l, s.1 < s.2
  rise : l.Pairwise (fun s t => s.2 < t.1)

theorem hasS_iff {s : Sp} {m : Int} : hasS s m = true ↔ s.1 ≤ m ∧ m < s.2 := by simp [hasS]

theorem hasS_no {s : Sp} {m : Int} : hasS s m = false ↔ ¬ (s.1 ≤ m ∧ m < s.2) := by
  rw [← hasS_iff]; simp

theorem hasL_iff {l : List Sp} {m : Int} : hasL l m = true ↔ ∃ s ∈ l, s.1 ≤ m ∧ m < s.2 := by
  simp [hasL, hasS]

theorem hasL_no {l : List Sp} {m : Int} : hasL l m = false ↔ ∀ s ∈ l, ¬ (s.1 ≤ m ∧ m < s.2) := by
  constructor
  · intro h s hs hm
    have : hasL l m = true := hasL_iff.2 ⟨s, hs, hm⟩
    rw [h] at this; cases this
  · intro h
    cases hh : hasL l m with
    | false => rfl
    | true =>
      obtain ⟨s, hs, hm⟩ := hasL_iff.1 hh
      exact absurd hm (h s hs)

theorem hasL_nil (m : Int) : hasL [] m = false := rfl

theorem hasL_cons (s : Sp) (l : List Sp) (m : Int) : hasL (s :: l) m = (hasS s m || hasL l m) := rfl

theorem hasL_append (a b : List Sp) (m : Int) : hasL (a ++ b) m = (hasL a m || hasL b m) := by simp [hasL]

/-- Two lists have the same minutes. -/
theorem hasL_ext {a b : List Sp} {m n : Int} (h : hasL a m = true ↔ hasL b n = true) : hasL a m = hasL b n := by
  cases h1 : hasL a m <;> cases h2 : hasL b n <;> simp_all

theorem IsSet.nil : IsSet [] := ⟨by simp, List.Pairwise.nil⟩

theorem IsSet.tail {s : Sp} {l : List Sp} (h : IsSet (s :: l)) : IsSet l :=
  ⟨fun t ht => h.right t (List.mem_cons_of_mem _ ht), (List.pairwise_cons.1 h.rise).2⟩

theorem IsSet.head {s : Sp} {l : List Sp} (h : IsSet (s :: l)) : s.1 < s.2 := h.right s (List.mem_cons_self ..)

theorem IsSet.later {s : Sp} {l : List Sp} (h : IsSet (s :: l)) : ∀ t ∈ l, s.2 < t.1 := (List.pairwise_cons.1 h.rise).1

theorem IsSet.cons {s : Sp} {l : List Sp} (h : IsSet l) (h1 : s.1 < s.2) (h2 : ∀ t ∈ l, s.2 < t.1) : IsSet (s :: l) :=
  ⟨fun t ht => by
    rcases List.mem_cons.1 ht with rfl | ht
    · exact h1
    · exact h.right t ht, List.pairwise_cons.2 ⟨h2, h.rise⟩⟩

theorem IsSet.snoc {s : Sp} {l : List Sp} (h : IsSet l) (h1 : s.1 < s.2) (h2 : ∀ t ∈ l, t.2 < s.1) : IsSet (l ++ [s]) :=
  ⟨fun t ht => by
    rcases List.mem_append.1 ht with ht | ht
    · exact h.right t ht
    · rw [List.mem_singleton.1 ht]; exact h1, List.pairwise_append.2 ⟨h.rise, List.pairwise_singleton _ _, fun a ha b hb => by
      rw [List.mem_singleton.1 hb]; exact h2 a ha⟩⟩

theorem IsSet.init {s : Sp} {l : List Sp} (h : IsSet (l ++ [s])) : IsSet l ∧ s.1 < s.2 ∧ ∀ t ∈ l, t.2 < s.1 := by
  refine ⟨⟨fun t ht => h.right t (List.mem_append_left _ ht), (List.pairwise_append.1 h.rise).1⟩, h.right s (by simp), fun t ht => (List.pairwise_append.1 h.rise).2.2 t ht s (by simp)⟩

/-- Of each list there is one set with its minutes. -/
theorem set_unique : ∀ {a b : List Sp}, IsSet a → IsSet b → (∀ m, hasL a m = hasL b m) → a = b
  | [], [], _, _, _ => rfl
  | [], t :: b, _, hb, h => by
    have h1 := h t.1
    have : hasL (t :: b) t.1 = true := hasL_iff.2 ⟨t, List.mem_cons_self .., by have := hb.head; omega⟩
    rw [this] at h1; cases h1
  | s :: a, [], ha, _, h => by
    have h1 := h s.1
    have : hasL (s :: a) s.1 = true := hasL_iff.2 ⟨s, List.mem_cons_self .., by have := ha.head; omega⟩
    rw [this] at h1; cases h1
  | s :: a, t :: b, ha, hb, h => by
    have hs := ha.head
    have ht := hb.head
    have la := ha.later
    have lb := hb.later
    have e1 : s.1 = t.1 := by
      have h1 : hasL (t :: b) s.1 = true := by rw [← h]; exact hasL_iff.2 ⟨s, List.mem_cons_self .., by omega⟩
      have h2 : hasL (s :: a) t.1 = true := by rw [h]; exact hasL_iff.2 ⟨t, List.mem_cons_self .., by omega⟩
      obtain ⟨x, hx, hx1, hx2⟩ := hasL_iff.1 h1
      obtain ⟨y, hy, hy1, hy2⟩ := hasL_iff.1 h2
      have c1 : t.1 ≤ s.1 := by
        rcases List.mem_cons.1 hx with rfl | hx
        · exact hx1
        · have := lb x hx; omega
      have c2 : s.1 ≤ t.1 := by
        rcases List.mem_cons.1 hy with rfl | hy
        · exact hy1
        · have := la y hy; omega
      omega
    have e2 : s.2 = t.2 := by
      rcases Int.lt_trichotomy s.2 t.2 with hlt | he | hgt
      · have h1 : hasL (s :: a) s.2 = true := by rw [h]; exact hasL_iff.2 ⟨t, List.mem_cons_self .., by omega⟩
        obtain ⟨x, hx, hx1, hx2⟩ := hasL_iff.1 h1
        rcases List.mem_cons.1 hx with rfl | hx
        · omega
        · have := la x hx; omega
      · exact he
      · have h1 : hasL (t :: b) t.2 = true := by rw [← h]; exact hasL_iff.2 ⟨s, List.mem_cons_self .., by omega⟩
        obtain ⟨x, hx, hx1, hx2⟩ := hasL_iff.1 h1
        rcases List.mem_cons.1 hx with rfl | hx
        · omega
        · have := lb x hx; omega
    have e : s = t := Prod.ext e1 e2
    subst e
    congr 1
    refine set_unique ha.tail hb.tail fun m => ?_
    have hm := h m
    rw [hasL_cons, hasL_cons] at hm
    cases hsm : hasS s m with
    | false => simpa [hsm] using hm
    | true =>
      have hh := hasS_iff.1 hsm
      rw [hasL_no.2 fun x hx hxm => by have := la x hx; omega, hasL_no.2 fun x hx hxm => by have := lb x hx; omega]

/-- What Right asks at place k. -/
def okAt (l : List Sp) (k : Nat) : Bool := decide ((l.getD k (0, 0)).1 < (l.getD k (0, 0)).2) && (decide (k = 0) || decide ((l.getD (k - 1) (0, 0)).2 < (l.getD k (0, 0)).1))

def rightB (l : List Sp) : Bool := (List.range l.length).all (okAt l)

theorem rightB_iff (l : List Sp) : rightB l = true ↔ IsSet l := by
  constructor
  · intro h
    have hk : ∀ k, k < l.length → okAt l k = true := fun k hk => by
      have := List.all_eq_true.1 h k (List.mem_range.2 hk); simpa using this
    have hr : ∀ k (hk : k < l.length), l[k].1 < l[k].2 := fun k hkl => by
      have := hk k hkl
      simp [okAt, List.getD, hkl] at this
      exact this.1
    have hs : ∀ k (h0 : 0 < k) (hk : k < l.length), l[k - 1].2 < l[k].1 := fun k h0 hkl => by
      have := hk k hkl
      have h1 : k - 1 < l.length := by omega
      simp [okAt, List.getD, hkl, h1] at this
      rcases this.2 with h2 | h2
      · omega
      · exact h2
    refine ⟨fun s hs' => ?_, ?_⟩
    · obtain ⟨k, hkl, rfl⟩ := List.mem_iff_getElem.1 hs'
      exact hr k hkl
    · rw [List.pairwise_iff_getElem]
      have key : ∀ (d i : Nat) (hj : i + d + 1 < l.length), (l[i]'(by omega)).2 < l[i + d + 1].1 := by
        intro d
        induction d with
        | zero => intro i hj; exact hs (i + 1) (by omega) hj
        | succ d ih =>
          intro i hj
          have h1 := ih i (by omega)
          have h2 := hr (i + d + 1) (by omega)
          have h3 := hs (i + d + 1 + 1) (by omega) hj
          have h4 : (l[i + d + 1 + 1 - 1]'(by omega)) = l[i + d + 1] := rfl
          rw [h4] at h3
          have h5 : i + (d + 1) + 1 = i + d + 1 + 1 := by omega
          simp only [h5]
          omega
      intro i j hi hj hij
      obtain ⟨d, rfl⟩ : ∃ d, j = i + d + 1 := ⟨j - i - 1, by omega⟩
      exact key d i hj
  · intro h
    refine List.all_eq_true.2 fun k hk => ?_
    have hk := List.mem_range.1 hk
    have h1 := h.right l[k] (List.getElem_mem hk)
    simp only [okAt, List.getD, hk, List.getElem?_eq_getElem, Option.getD_some, h1, decide_true, Bool.true_and, Bool.or_eq_true, decide_eq_true_eq]
    by_cases h0 : k = 0
    · exact Or.inl h0
    · refine Or.inr ?_
      have h2 : k - 1 < l.length := by omega
      have := List.pairwise_iff_getElem.1 h.rise (k - 1) k h2 hk (by omega)
      simpa [h2] using this

theorem rightB_no {l : List Sp} {k : Nat} (hk : k < l.length) (h : okAt l k = false) : rightB l = false := by
  cases hh : rightB l with
  | false => rfl
  | true =>
    have := List.all_eq_true.1 hh k (List.mem_range.2 hk)
    rw [h] at this; cases this

theorem rightB_yes {l : List Sp} (h : ∀ k, k < l.length → okAt l k = true) : rightB l = true :=
  List.all_eq_true.2 fun k hk => h k (List.mem_range.1 hk)

/-- Those that are right. -/
def onlyR (l : List Sp) : List Sp := l.filter fun s => decide (s.1 < s.2)

theorem hasL_onlyR (l : List Sp) (m : Int) : hasL (onlyR l) m = hasL l m := by
  refine hasL_ext ⟨fun h => ?_, fun h => ?_⟩
  · obtain ⟨s, hs, hm⟩ := hasL_iff.1 h
    exact hasL_iff.2 ⟨s, (List.mem_filter.1 hs).1, hm⟩
  · obtain ⟨s, hs, hm⟩ := hasL_iff.1 h
    exact hasL_iff.2 ⟨s, List.mem_filter.2 ⟨hs, by simp; omega⟩, hm⟩

theorem hasL_perm {a b : List Sp} (h : a.Perm b) (m : Int) : hasL a m = hasL b m := by
  refine hasL_ext ⟨fun hh => ?_, fun hh => ?_⟩
  · obtain ⟨s, hs, hm⟩ := hasL_iff.1 hh
    exact hasL_iff.2 ⟨s, h.mem_iff.1 hs, hm⟩
  · obtain ⟨s, hs, hm⟩ := hasL_iff.1 hh
    exact hasL_iff.2 ⟨s, h.mem_iff.2 hs, hm⟩

/-- One span more, put to a set whose last one begins no later. -/
def put1 (set : List Sp) (s : Sp) : List Sp :=
  match set.getLast? with
  | some t => if s.1 ≤ t.2 then set.dropLast ++ [(t.1, if s.2 ≤ t.2 then t.2 else s.2)] else set ++ [s]
  | none => [s]

def putAll (l : List Sp) : List Sp := l.foldl put1 []

theorem put1_nil (s : Sp) : put1 [] s = [s] := rfl

theorem put1_join (a : List Sp) (t s : Sp) (h : s.1 ≤ t.2) : put1 (a ++ [t]) s = a ++ [(t.1, if s.2 ≤ t.2 then t.2 else s.2)] := by
  simp [put1, h]

theorem put1_new (a : List Sp) (t s : Sp) (h : ¬ s.1 ≤ t.2) : put1 (a ++ [t]) s = a ++ [t] ++ [s] := by
  simp [put1, h]

theorem put1_len (set : List Sp) (s : Sp) : (put1 set s).length ≤ set.length + 1 := by
  rcases List.eq_nil_or_concat set with rfl | ⟨a, t, rfl⟩
  · simp [put1_nil]
  · by_cases h : s.1 ≤ t.2
    · simp [List.concat_eq_append, put1_join a t s h]
    · simp [List.concat_eq_append, put1_new a t s h]

theorem put1_ok {set : List Sp} {s : Sp} (h : IsSet set) (hs : s.1 < s.2) (hb : ∀ t ∈ set, t.1 ≤ s.1) :
    IsSet (put1 set s) ∧ (∀ m, hasL (put1 set s) m = (hasL set m || hasS s m)) ∧ (∀ t ∈ put1 set s, t.1 ≤ s.1) := by
  rcases List.eq_nil_or_concat set with rfl | ⟨a, t, rfl⟩
  · rw [put1_nil]
    exact ⟨IsSet.nil.cons hs (by simp), fun m => by simp [hasL], by simp⟩
  · rw [List.concat_eq_append] at *
    have hi := h.init
    have ht1 : t.1 ≤ s.1 := hb t (by simp)
    by_cases c : s.1 ≤ t.2
    · rw [put1_join a t s c]
      refine ⟨hi.1.snoc (s := (t.1, if s.2 ≤ t.2 then t.2 else s.2)) ?_ hi.2.2, fun m => ?_, fun u hu => ?_⟩
      · show t.1 < if s.2 ≤ t.2 then t.2 else s.2
        split <;> omega
      · rw [hasL_append, hasL_append, Bool.or_assoc]
        congr 1
        simp only [hasL, List.any_cons, List.any_nil, Bool.or_false]
        rw [Bool.eq_iff_iff, Bool.or_eq_true, hasS_iff, hasS_iff, hasS_iff]
        show (t.1 ≤ m ∧ m < if s.2 ≤ t.2 then t.2 else s.2) ↔ _
        split <;> omega
      · rcases List.mem_append.1 hu with hu | hu
        · exact hb u (by simp [hu])
        · rw [List.mem_singleton.1 hu]; exact ht1
    · rw [put1_new a t s c]
      refine ⟨h.snoc hs fun u hu => ?_, fun m => ?_, fun u hu => ?_⟩
      · rcases List.mem_append.1 hu with hu | hu
        · have := hi.2.2 u hu; omega
        · rw [List.mem_singleton.1 hu]; omega
      · rw [hasL_append (a ++ [t])]
        simp [hasL]
      · rcases List.mem_append.1 hu with hu | hu
        · exact hb u hu
        · rw [List.mem_singleton.1 hu]; exact Int.le_refl _

theorem putAll_from : ∀ (l set : List Sp), IsSet set → (∀ s ∈ l, s.1 < s.2) → l.Pairwise (fun s t => s.1 ≤ t.1) → (∀ t ∈ set, ∀ s ∈ l, t.1 ≤ s.1) →
    IsSet (l.foldl put1 set) ∧ ∀ m, hasL (l.foldl put1 set) m = (hasL set m || hasL l m)
  | [], set, h, _, _, _ => ⟨h, fun m => by simp [hasL]⟩
  | s :: l, set, h, hr, hp, hb => by
    have hp' := List.pairwise_cons.1 hp
    have h1 := put1_ok h (hr s (List.mem_cons_self ..)) (fun t ht => hb t ht s (List.mem_cons_self ..))
    have h2 := putAll_from l (put1 set s) h1.1 (fun u hu => hr u (List.mem_cons_of_mem _ hu)) hp'.2 (fun t ht u hu => Int.le_trans (h1.2.2 t ht) (hp'.1 u hu))
    refine ⟨h2.1, fun m => ?_⟩
    rw [List.foldl_cons, h2.2, h1.2.1, hasL_cons, Bool.or_assoc]

theorem putAll_ok {l d : List Sp} (hp : d.Perm (onlyR l)) (hs : d.Pairwise (fun s t => s.1 ≤ t.1)) : IsSet (putAll d) ∧ ∀ m, hasL (putAll d) m = hasL l m := by
  have h := putAll_from d [] IsSet.nil (fun s h => by
    have := (List.mem_filter.1 (hp.mem_iff.1 h)).2
    simpa using this) hs (by simp)
  exact ⟨h.1, fun m => by rw [putAll, h.2, hasL_nil, Bool.false_or, hasL_perm hp, hasL_onlyR]⟩

end Go.Proofs.Ytolbihfnogbjaaa

/- A span's two cells, as the library's contracts of slices ask for them. Conditions: none. -/
namespace Go.Proofs.Ytolbihfnogbjaaa

def encS (s : Sp) : List Value := [.int .i64 s.1, .int .i64 s.2]

end Go.Proofs.Ytolbihfnogbjaaa

/- Sets of minutes: the set of a list, what two sets have in common, what is free between, and the reference's way to the set. Conditions: none beyond each lemma's own premises. -/
namespace Go.Proofs.Ytolbihfnogbjaaa

/-- The set of a list. -/
def setOf (l : List Sp) : List Sp := putAll ((onlyR l).mergeSort fun a b => decide (a.1 ≤ b.1))

theorem setOf_ok (l : List Sp) : IsSet (setOf l) ∧ ∀ m, hasL (setOf l) m = hasL l m := by
  refine putAll_ok (List.mergeSort_perm _ _) ?_
  have h := List.pairwise_mergeSort (le := fun (a b : Sp) => decide (a.1 ≤ b.1)) (fun a b c h1 h2 => by simp at *; omega) (fun a b => by simp; omega) (onlyR l)
  exact h.imp fun {a b} hab => by simpa using hab

theorem set_is {x l : List Sp} (h : IsSet x) (hm : ∀ m, hasL x m = hasL l m) : x = setOf l :=
  set_unique h (setOf_ok l).1 fun m => by rw [hm, (setOf_ok l).2]

theorem putAll_is {l d : List Sp} (hp : d.Perm (onlyR l)) (hs : d.Pairwise (fun s t => s.1 ≤ t.1)) : putAll d = setOf l :=
  set_is (putAll_ok hp hs).1 (putAll_ok hp hs).2

theorem setOf_set {l : List Sp} (h : IsSet l) : setOf l = l := (set_is h fun _ => rfl).symm

theorem setOf_congr {a b : List Sp} (h : ∀ m, hasL a m = hasL b m) : setOf a = setOf b :=
  set_is (setOf_ok a).1 fun m => by rw [(setOf_ok a).2, h]

theorem foldl_put1_len : ∀ (l set : List Sp), (l.foldl put1 set).length ≤ set.length + l.length
  | [], set => by simp
  | s :: l, set => by
    have h1 := foldl_put1_len l (put1 set s)
    have h2 := put1_len set s
    simp only [List.foldl_cons, List.length_cons]
    omega

theorem onlyR_len (l : List Sp) : (onlyR l).length ≤ l.length := List.length_filter_le _ _

theorem setOf_len (l : List Sp) : (setOf l).length ≤ l.length := by
  have h := foldl_put1_len ((onlyR l).mergeSort fun a b => decide (a.1 ≤ b.1)) []
  have h2 := onlyR_len l
  have h3 : ((onlyR l).mergeSort fun a b => decide (a.1 ≤ b.1)).length = (onlyR l).length := (List.mergeSort_perm _ _).length_eq
  unfold setOf putAll
  simp only [List.length_nil] at h
  omega

theorem no_minutes {l : List Sp} (h : IsSet l) (hm : ∀ m, hasL l m = false) : l = [] :=
  set_unique h IsSet.nil fun m => by rw [hm, hasL_nil]

/-- The greater, and the lesser. -/
def mx (a b : Int) : Int := if b ≤ a then a else b

def mn (a b : Int) : Int := if a ≤ b then a else b

theorem mx_le {a b c : Int} : mx a b ≤ c ↔ a ≤ c ∧ b ≤ c := by unfold mx; split <;> omega

theorem lt_mn {a b c : Int} : c < mn a b ↔ c < a ∧ c < b := by unfold mn; split <;> omega

theorem mx_ge (a b : Int) : a ≤ mx a b ∧ b ≤ mx a b := by unfold mx; split <;> omega

theorem mn_le (a b : Int) : mn a b ≤ a ∧ mn a b ≤ b := by unfold mn; split <;> omega

theorem snoc_ind {P : List Sp → Prop} (nil : P []) (snoc : ∀ l s, P l → P (l ++ [s])) (l : List Sp) : P l := by
  have h : ∀ r : List Sp, P r.reverse := by
    intro r
    induction r with
    | nil => exact nil
    | cons s r ih => rw [List.reverse_cons]; exact snoc _ _ ih
  simpa using h l.reverse

/-- What both have: of the first ones what they have in common, and whichever ends first goes. -/
def bothL (a b : List Sp) : List Sp :=
  match a, b with
  | s :: a, t :: b =>
    (if (mx s.1 t.1) < (mn s.2 t.2) then [((mx s.1 t.1), (mn s.2 t.2))] else []) ++
      (if s.2 < t.2 then bothL a (t :: b) else bothL (s :: a) b)
  | _, _ => []
termination_by a.length + b.length

/-- What the first ones have in common. -/
def both1 (s t : Sp) : List Sp := if (mx s.1 t.1) < (mn s.2 t.2) then [((mx s.1 t.1), (mn s.2 t.2))] else []

theorem bothL_nil_l (b : List Sp) : bothL [] b = [] := by unfold bothL; rfl

theorem bothL_nil_r (a : List Sp) : bothL a [] = [] := by
  cases a <;> (unfold bothL; rfl)

theorem bothL_lt (s t : Sp) (a b : List Sp) (h : s.2 < t.2) : bothL (s :: a) (t :: b) = both1 s t ++ bothL a (t :: b) := by
  rw [bothL, if_pos h]; rfl

theorem bothL_ge (s t : Sp) (a b : List Sp) (h : ¬ s.2 < t.2) : bothL (s :: a) (t :: b) = both1 s t ++ bothL (s :: a) b := by
  rw [bothL, if_neg h]; rfl

theorem both1_mem {s t x : Sp} (h : x ∈ both1 s t) : s.1 ≤ x.1 ∧ t.1 ≤ x.1 ∧ x.1 < x.2 ∧ x.2 ≤ s.2 ∧ x.2 ≤ t.2 := by
  unfold both1 at h
  split at h
  · rename_i hlt
    rw [List.mem_singleton.1 h]
    have h1 := mx_ge s.1 t.1
    have h2 := mn_le s.2 t.2
    exact ⟨h1.1, h1.2, hlt, h2.1, h2.2⟩
  · cases h

theorem both1_has (s t : Sp) (m : Int) : hasL (both1 s t) m = (hasS s m && hasS t m) := by
  unfold both1
  split
  · rw [Bool.eq_iff_iff, Bool.and_eq_true, hasS_iff, hasS_iff, hasL_iff]
    simp only [List.mem_singleton, exists_eq_left, mx_le, lt_mn]
    omega
  · rename_i h
    rw [hasL_nil, Bool.eq_iff_iff, Bool.and_eq_true, hasS_iff, hasS_iff]
    simp only [Bool.false_eq_true, false_iff]
    intro hh
    exact h (Int.lt_of_le_of_lt (mx_le.2 ⟨hh.1.1, hh.2.1⟩) (lt_mn.2 ⟨hh.1.2, hh.2.2⟩))

theorem bothL_from (c : Int) : ∀ (n : Nat) (a b : List Sp), a.length + b.length ≤ n → ((∀ s ∈ a, c < s.1) ∨ (∀ s ∈ b, c < s.1)) → ∀ x ∈ bothL a b, c < x.1
  | n, [], b, _, _, x, hx => by rw [bothL_nil_l] at hx; cases hx
  | n, s :: a, [], _, _, x, hx => by rw [bothL_nil_r] at hx; cases hx
  | 0, s :: a, t :: b, hn, _, _, _ => by simp at hn
  | n + 1, s :: a, t :: b, hn, hc, x, hx => by
    simp only [List.length_cons] at hn
    have h1 : ∀ x ∈ both1 s t, c < x.1 := fun x hx => by
      have := both1_mem hx
      rcases hc with hc | hc
      · have := hc s (List.mem_cons_self ..); omega
      · have := hc t (List.mem_cons_self ..); omega
    by_cases h : s.2 < t.2
    · rw [bothL_lt s t a b h] at hx
      rcases List.mem_append.1 hx with hx | hx
      · exact h1 x hx
      · exact bothL_from c n a (t :: b) (by simp only [List.length_cons]; omega) (hc.imp (fun g u hu => g u (List.mem_cons_of_mem _ hu)) id) x hx
    · rw [bothL_ge s t a b h] at hx
      rcases List.mem_append.1 hx with hx | hx
      · exact h1 x hx
      · exact bothL_from c n (s :: a) b (by simp only [List.length_cons]; omega) (hc.imp id (fun g u hu => g u (List.mem_cons_of_mem _ hu))) x hx

theorem both1_cons {s t : Sp} {l : List Sp} (h : IsSet l) (hl : ∀ x ∈ l, s.2 < x.1 ∨ t.2 < x.1) : IsSet (both1 s t ++ l) := by
  cases hb : both1 s t with
  | nil => exact h
  | cons x r =>
    have hr : r = [] := by
      unfold both1 at hb
      split at hb
      · simp at hb; exact hb.2
      · cases hb
    subst hr
    have hm := both1_mem (s := s) (t := t) (x := x) (by rw [hb]; simp)
    exact h.cons (by omega) fun u hu => by have := hl u hu; omega

theorem bothL_ok : ∀ (n : Nat) (a b : List Sp), a.length + b.length ≤ n → IsSet a → IsSet b → IsSet (bothL a b) ∧ ∀ m, hasL (bothL a b) m = (hasL a m && hasL b m)
  | n, [], b, _, _, _ => by rw [bothL_nil_l]; exact ⟨IsSet.nil, fun m => by simp [hasL]⟩
  | n, s :: a, [], _, _, _ => by rw [bothL_nil_r]; exact ⟨IsSet.nil, fun m => by simp [hasL]⟩
  | 0, s :: a, t :: b, hn, _, _ => by simp at hn
  | n + 1, s :: a, t :: b, hn, ha, hb => by
    simp only [List.length_cons] at hn
    by_cases h : s.2 < t.2
    · have ih := bothL_ok n a (t :: b) (by simp only [List.length_cons]; omega) ha.tail hb
      rw [bothL_lt s t a b h]
      refine ⟨both1_cons ih.1 fun x hx => Or.inl (bothL_from s.2 _ a (t :: b) (Nat.le_refl _) (Or.inl ha.later) x hx), fun m => ?_⟩
      rw [hasL_append, both1_has, ih.2, hasL_cons, hasL_cons]
      cases h1 : hasS s m
      · simp
      · have hs := hasS_iff.1 h1
        have hb0 : hasL b m = false := hasL_no.2 fun x hx hm => by have := hb.later x hx; omega
        have ha0 : hasL a m = false := hasL_no.2 fun x hx hm => by have := ha.later x hx; omega
        simp [hb0, ha0]
    · have ih := bothL_ok n (s :: a) b (by simp only [List.length_cons]; omega) ha hb.tail
      rw [bothL_ge s t a b h]
      refine ⟨both1_cons ih.1 fun x hx => Or.inr (bothL_from t.2 _ (s :: a) b (Nat.le_refl _) (Or.inr hb.later) x hx), fun m => ?_⟩
      rw [hasL_append, both1_has, ih.2, hasL_cons, hasL_cons]
      cases h1 : hasS t m
      · simp
      · have hs := hasS_iff.1 h1
        have hb0 : hasL b m = false := hasL_no.2 fun x hx hm => by have := hb.later x hx; omega
        have ha0 : hasL a m = false := hasL_no.2 fun x hx hm => by have := ha.later x hx; omega
        simp [hb0, ha0]

/-- The set of what both lists have. -/
def bothOf (a b : List Sp) : List Sp := bothL (setOf a) (setOf b)

theorem bothOf_ok (a b : List Sp) : IsSet (bothOf a b) ∧ ∀ m, hasL (bothOf a b) m = (hasL a m && hasL b m) := by
  have h := bothL_ok _ (setOf a) (setOf b) (Nat.le_refl _) (setOf_ok a).1 (setOf_ok b).1
  exact ⟨h.1, fun m => by rw [bothOf, h.2, (setOf_ok a).2, (setOf_ok b).2]⟩

theorem both1_len (s t : Sp) : (both1 s t).length ≤ 1 := by
  unfold both1; split <;> simp

theorem bothL_len : ∀ (n : Nat) (a b : List Sp), a.length + b.length ≤ n → (bothL a b).length ≤ a.length + b.length
  | n, [], b, _ => by rw [bothL_nil_l]; simp
  | n, s :: a, [], _ => by rw [bothL_nil_r]; simp
  | 0, s :: a, t :: b, hn => by simp at hn
  | n + 1, s :: a, t :: b, hn => by
    simp only [List.length_cons] at hn
    have h1 := both1_len s t
    by_cases h : s.2 < t.2
    · have ih := bothL_len n a (t :: b) (by simp only [List.length_cons]; omega)
      rw [bothL_lt s t a b h, List.length_append]
      simp only [List.length_cons] at *
      omega
    · have ih := bothL_len n (s :: a) b (by simp only [List.length_cons]; omega)
      rw [bothL_ge s t a b h, List.length_append]
      simp only [List.length_cons] at *
      omega

theorem bothOf_len (a b : List Sp) : (bothOf a b).length ≤ a.length + b.length := by
  have h := bothL_len _ (setOf a) (setOf b) (Nat.le_refl _)
  have h1 := setOf_len a
  have h2 := setOf_len b
  unfold bothOf
  omega

/-- What is free ahead of each, and where the last one ends. -/
def gap1 (g : List Sp × Int) (s : Sp) : List Sp × Int := (g.1 ++ [(g.2, s.1)], s.2)

def gapTo (lo : Int) (l : List Sp) : List Sp × Int := l.foldl gap1 ([], lo)

theorem gapTo_nil (lo : Int) : gapTo lo [] = ([], lo) := rfl

theorem gapTo_snoc (lo : Int) (l : List Sp) (s : Sp) : gapTo lo (l ++ [s]) = gap1 (gapTo lo l) s := by
  unfold gapTo; rw [List.foldl_append]; rfl

theorem gapTo_len (lo : Int) (l : List Sp) : (gapTo lo l).1.length = l.length := by
  induction l using snoc_ind with
  | nil => rfl
  | snoc l s ih => rw [gapTo_snoc]; simp [gap1, ih]

def gapsOf (lo hi : Int) (b : List Sp) : List Sp := (gapTo lo (setOf b)).1 ++ [((gapTo lo (setOf b)).2, hi)]

theorem gapTo_ok (lo : Int) (l : List Sp) : IsSet l → (∀ s ∈ l, lo ≤ s.1) →
    lo ≤ (gapTo lo l).2 ∧ (∀ s ∈ l, s.2 ≤ (gapTo lo l).2) ∧ ∀ m, lo ≤ m → m < (gapTo lo l).2 → hasL (gapTo lo l).1 m = !hasL l m := by
  induction l using snoc_ind with
  | nil => intro _ _; exact ⟨Int.le_refl _, by simp, fun m h1 h2 => by simp [gapTo] at h2; omega⟩
  | snoc l s ih =>
    intro h hlo
    have hi := h.init
    have ih := ih hi.1 fun u hu => hlo u (List.mem_append_left _ hu)
    have hs : lo ≤ s.1 := hlo s (by simp)
    have hg : (gapTo lo l).2 ≤ s.1 := by
      rcases List.eq_nil_or_concat l with rfl | ⟨l0, t, rfl⟩
      · exact hs
      · rw [List.concat_eq_append, gapTo_snoc] at *
        have := hi.2.2 t (by simp)
        show t.2 ≤ s.1
        omega
    rw [gapTo_snoc]
    refine ⟨by show lo ≤ s.2; omega, fun u hu => ?_, fun m h1 h2 => ?_⟩
    · show u.2 ≤ s.2
      rcases List.mem_append.1 hu with hu | hu
      · have := hi.2.2 u hu; omega
      · rw [List.mem_singleton.1 hu]; exact Int.le_refl _
    · have h2 : m < s.2 := h2
      show hasL ((gapTo lo l).1 ++ [((gapTo lo l).2, s.1)]) m = _
      rw [hasL_append, hasL_append]
      by_cases c : m < (gapTo lo l).2
      · rw [ih.2.2 m h1 c]
        have e1 : hasL [((gapTo lo l).2, s.1)] m = false := hasL_no.2 fun x hx hm => by
          rw [List.mem_singleton.1 hx] at hm; simp only at hm; omega
        have e2 : hasL [s] m = false := hasL_no.2 fun x hx hm => by
          rw [List.mem_singleton.1 hx] at hm; omega
        rw [e1, e2]; simp
      · have e0 : hasL l m = false := hasL_no.2 fun x hx hm => by have := ih.2.1 x hx; omega
        have e1 : hasL (gapTo lo l).1 m = false := by
          have key : ∀ (l : List Sp), IsSet l → (∀ s ∈ l, lo ≤ s.1) → ∀ x ∈ (gapTo lo l).1, x.2 ≤ (gapTo lo l).2 := by
            intro l
            induction l using snoc_ind with
            | nil => intro _ _ x hx; cases hx
            | snoc l s ih =>
              intro h hlo x hx
              have hi := h.init
              rw [gapTo_snoc] at hx ⊢
              show x.2 ≤ s.2
              rcases List.mem_append.1 hx with hx | hx
              · have h1 := ih hi.1 (fun u hu => hlo u (List.mem_append_left _ hu)) x hx
                have h2 : (gapTo lo l).2 ≤ s.1 := by
                  rcases List.eq_nil_or_concat l with rfl | ⟨l0, t, rfl⟩
                  · exact hlo s (by simp)
                  · rw [List.concat_eq_append, gapTo_snoc] at *
                    have := hi.2.2 t (by simp)
                    show t.2 ≤ s.1
                    omega
                omega
              · rw [List.mem_singleton.1 hx]
                have := hi.2.1
                show s.1 ≤ s.2
                omega
          exact hasL_no.2 fun x hx hm => by have := key l hi.1 (fun u hu => hlo u (List.mem_append_left _ hu)) x hx; omega
        rw [e0, e1, Bool.false_or, Bool.false_or]
        simp only [hasL, List.any_cons, List.any_nil, Bool.or_false]
        rw [Bool.eq_iff_iff, Bool.not_eq_true', hasS_iff, hasS_no]
        show _ ↔ _
        simp only
        omega

theorem gapsOf_has (lo hi : Int) (b : List Sp) (h1 : ∀ s ∈ setOf b, lo ≤ s.1) (m : Int) (hm : lo ≤ m) (hm2 : m < hi) : hasL (gapsOf lo hi b) m = !hasL b m := by
  have h := gapTo_ok lo (setOf b) (setOf_ok b).1 h1
  unfold gapsOf
  rw [hasL_append, ← (setOf_ok b).2]
  by_cases c : m < (gapTo lo (setOf b)).2
  · rw [h.2.2 m hm c, hasL_no (l := [((gapTo lo (setOf b)).2, hi)]) |>.2 fun x hx hm => by rw [List.mem_singleton.1 hx] at hm; simp only at hm; omega, Bool.or_false]
  · rw [hasL_iff.2 ⟨_, List.mem_singleton.2 rfl, by simp only; omega⟩, Bool.or_true, hasL_no.2 fun x hx hm => by have := h.2.1 x hx; omega]
    rfl

theorem gapsOf_len (lo hi : Int) (b : List Sp) : (gapsOf lo hi b).length ≤ b.length + 1 := by
  have h := setOf_len b
  unfold gapsOf
  rw [List.length_append, gapTo_len]
  simp; omega

/-- All are numbers of 64 bits. -/
def Bd (l : List Sp) : Prop := ∀ s ∈ l, (-9223372036854775808 ≤ s.1 ∧ s.1 ≤ 9223372036854775807) ∧ (-9223372036854775808 ≤ s.2 ∧ s.2 ≤ 9223372036854775807)

theorem setOf_lo {l : List Sp} {lo : Int} (h : ∀ s ∈ l, lo ≤ s.1) : ∀ s ∈ setOf l, lo ≤ s.1 := fun s hs => by
  have h0 := setOf_ok l
  have h1 : hasL (setOf l) s.1 = true := hasL_iff.2 ⟨s, hs, by have := h0.1.right s hs; omega⟩
  rw [h0.2] at h1
  obtain ⟨t, ht, hm⟩ := hasL_iff.1 h1
  have := h t ht
  omega

/-- The set of what a has and b has not. -/
def minusOf (a b : List Sp) : List Sp := bothOf a (gapsOf (-9223372036854775808) 9223372036854775807 b)

theorem minusOf_ok {a b : List Sp} (ha : Bd a) (hb : Bd b) : IsSet (minusOf a b) ∧ ∀ m, hasL (minusOf a b) m = (hasL a m && !hasL b m) := by
  have h := bothOf_ok a (gapsOf (-9223372036854775808) 9223372036854775807 b)
  refine ⟨h.1, fun m => ?_⟩
  rw [minusOf, h.2]
  cases hm : hasL a m with
  | false => rfl
  | true =>
    obtain ⟨s, hs, h1, h2⟩ := hasL_iff.1 hm
    have := ha s hs
    rw [gapsOf_has _ _ _ (setOf_lo fun t ht => (hb t ht).1.1) m (by omega) (by omega)]

theorem minusOf_len (a b : List Sp) : (minusOf a b).length ≤ a.length + b.length + 1 := by
  have h := bothOf_len a (gapsOf (-9223372036854775808) 9223372036854775807 b)
  have h2 := gapsOf_len (-9223372036854775808) 9223372036854775807 b
  unfold minusOf
  omega

/-- What both have, and what one has alone, are together that one. -/
theorem parts {a b : List Sp} (ha : Bd a) (hb : Bd b) : setOf (bothOf a b ++ minusOf a b) = setOf a :=
  setOf_congr fun m => by
    rw [hasL_append, (bothOf_ok a b).2, (minusOf_ok ha hb).2]
    cases hasL a m <;> cases hasL b m <;> rfl

theorem minus_self {a : List Sp} (ha : Bd a) : minusOf a a = [] :=
  no_minutes (minusOf_ok ha ha).1 fun m => by rw [(minusOf_ok ha ha).2]; cases hasL a m <;> rfl

theorem both_self (a : List Sp) : bothOf a a = setOf a :=
  set_is (bothOf_ok a a).1 fun m => by rw [(bothOf_ok a a).2]; cases hasL a m <;> rfl

/-- The next minute: one span more. -/
def next1 (m : Int) (acc : Int × Bool) (s : Sp) : Int × Bool :=
  if s.1 < s.2 ∧ m < s.2 then
    (if acc.2 = false ∨ (if s.1 < m then m else s.1) < acc.1 then ((if s.1 < m then m else s.1), true) else acc)
  else acc

def nextL (l : List Sp) (m : Int) : Int × Bool := l.foldl (next1 m) (0, false)

end Go.Proofs.Ytolbihfnogbjaaa

/- The reference's way to the set of a list: from one begin to the next, as far as the minutes go on. Conditions: none beyond each lemma's own premises. -/
namespace Go.Proofs.Ytolbihfnogbjaaa

/-- May a span be the next one behind those that are there? -/
def elig (out : List Sp) (s : Sp) : Bool := decide (s.1 < s.2) && (match out.getLast? with | none => true | some t => decide (t.2 < s.1))

def best1 (out : List Sp) (acc : Sp × Bool) (s : Sp) : Sp × Bool := if elig out s = true then (if acc.2 = false ∨ s.1 < acc.1.1 then (s, true) else acc) else acc

def bestOf (out l : List Sp) : Sp × Bool := l.foldl (best1 out) ((0, 0), false)

theorem best_from (out : List Sp) : ∀ (l : List Sp) (acc : Sp × Bool),
    ((l.foldl (best1 out) acc).2 = false → acc.2 = false ∧ ∀ s ∈ l, elig out s = false) ∧
    ((l.foldl (best1 out) acc).2 = true → ((acc.2 = true ∧ (l.foldl (best1 out) acc).1 = acc.1) ∨ ((l.foldl (best1 out) acc).1 ∈ l ∧ elig out (l.foldl (best1 out) acc).1 = true)) ∧
      (acc.2 = true → (l.foldl (best1 out) acc).1.1 ≤ acc.1.1) ∧ ∀ s ∈ l, elig out s = true → (l.foldl (best1 out) acc).1.1 ≤ s.1)
  | [], acc => ⟨fun h => ⟨h, by simp⟩, fun h => ⟨Or.inl ⟨h, rfl⟩, fun _ => Int.le_refl _, by simp⟩⟩
  | s :: l, acc => by
    have ih := best_from out l (best1 out acc s)
    rw [List.foldl_cons]
    by_cases he : elig out s = true
    · by_cases hc : acc.2 = false ∨ s.1 < acc.1.1
      · have e : best1 out acc s = (s, true) := by unfold best1; rw [if_pos he, if_pos hc]
        rw [e] at ih ⊢
        refine ⟨fun h => absurd (ih.1 h).1 (by simp), fun h => ?_⟩
        have i2 := ih.2 h
        have i3 := i2.2.1 rfl
        simp only at i3
        refine ⟨Or.inr ?_, fun ha => ?_, fun u hu hue => ?_⟩
        · rcases i2.1 with ⟨_, h2⟩ | ⟨h2, h3⟩
          · rw [h2]; exact ⟨List.mem_cons_self .., he⟩
          · exact ⟨List.mem_cons_of_mem _ h2, h3⟩
        · rcases hc with hc | hc
          · rw [hc] at ha; cases ha
          · omega
        · rcases List.mem_cons.1 hu with rfl | hu
          · exact i3
          · exact i2.2.2 u hu hue
      · have e : best1 out acc s = acc := by unfold best1; rw [if_pos he, if_neg hc]
        rw [e] at ih ⊢
        have ha : acc.2 = true := by cases h : acc.2 <;> simp_all
        have hs : acc.1.1 ≤ s.1 := by
          rcases Int.lt_or_le s.1 acc.1.1 with h | h
          · exact absurd (Or.inr h) hc
          · exact h
        refine ⟨fun h => absurd (ih.1 h).1 (by simp [ha]), fun h => ?_⟩
        have i2 := ih.2 h
        refine ⟨?_, i2.2.1, fun u hu hue => ?_⟩
        · rcases i2.1 with h2 | ⟨h2, h3⟩
          · exact Or.inl h2
          · exact Or.inr ⟨List.mem_cons_of_mem _ h2, h3⟩
        · rcases List.mem_cons.1 hu with rfl | hu
          · have := i2.2.1 ha; omega
          · exact i2.2.2 u hu hue
    · have e : best1 out acc s = acc := by unfold best1; rw [if_neg he]
      have he' : elig out s = false := by cases h : elig out s <;> simp_all
      rw [e] at ih ⊢
      refine ⟨fun h => ⟨(ih.1 h).1, fun u hu => ?_⟩, fun h => ?_⟩
      · rcases List.mem_cons.1 hu with rfl | hu
        · exact he'
        · exact (ih.1 h).2 u hu
      · have i2 := ih.2 h
        refine ⟨?_, i2.2.1, fun u hu hue => ?_⟩
        · rcases i2.1 with h2 | ⟨h2, h3⟩
          · exact Or.inl h2
          · exact Or.inr ⟨List.mem_cons_of_mem _ h2, h3⟩
        · rcases List.mem_cons.1 hu with rfl | hu
          · rw [he'] at hue; cases hue
          · exact i2.2.2 u hu hue

/-- As far as one span goes on. -/
def grow1 (b s : Sp) : Sp := if s.1 < s.2 ∧ s.1 ≤ b.2 ∧ b.2 < s.2 then (b.1, s.2) else b

def growP (l : List Sp) (b : Sp) : Sp := l.foldl grow1 b

def growN (l : List Sp) : Nat → Sp → Sp
  | 0, b => b
  | n + 1, b => growP l (growN l n b)

/-- Nothing goes on behind it. -/
def Still (l : List Sp) (b : Sp) : Prop := ∀ s ∈ l, s.1 < s.2 → s.1 ≤ b.2 → s.2 ≤ b.2

def beyond (l : List Sp) (x : Int) : Nat := l.countP fun s => decide (x < s.2)

theorem beyond_mono (l : List Sp) {x y : Int} (h : x ≤ y) : beyond l y ≤ beyond l x :=
  List.countP_mono_left fun s _ hs => by simp at *; omega

theorem beyond_lt {l : List Sp} {x y : Int} (h : x < y) (hs : ∃ s ∈ l, s.2 = y) : beyond l y < beyond l x := by
  induction l with
  | nil => obtain ⟨s, hs, _⟩ := hs; cases hs
  | cons t l ih =>
    unfold beyond at *
    rw [List.countP_cons, List.countP_cons]
    have hm : List.countP (fun s : Sp => decide (y < s.2)) l ≤ List.countP (fun s : Sp => decide (x < s.2)) l := beyond_mono l (Int.le_of_lt h)
    obtain ⟨s, hs, he⟩ := hs
    rcases List.mem_cons.1 hs with rfl | hs
    · have e1 : decide (y < s.2) = false := by simp; omega
      have e2 : decide (x < s.2) = true := by simp; omega
      rw [if_neg (by rw [e1]; simp), if_pos e2]
      omega
    · have := ih ⟨s, hs, he⟩
      by_cases c : y < t.2
      · rw [if_pos (by simpa using c), if_pos (by simp; omega)]; omega
      · rw [if_neg (by simpa using c)]; split <;> omega

theorem growP_from (L : List Sp) : ∀ (l : List Sp) (b : Sp), (∀ s ∈ l, s ∈ L) →
    (l.foldl grow1 b).1 = b.1 ∧ b.2 ≤ (l.foldl grow1 b).2 ∧ ((∀ m, b.1 ≤ m → m < b.2 → hasL L m = true) → ∀ m, b.1 ≤ m → m < (l.foldl grow1 b).2 → hasL L m = true) ∧
    (((l.foldl grow1 b).2 = b.2 ∧ ∀ s ∈ l, s.1 < s.2 → s.1 ≤ b.2 → s.2 ≤ b.2) ∨ (b.2 < (l.foldl grow1 b).2 ∧ ∃ s ∈ L, s.2 = (l.foldl grow1 b).2))
  | [], b, _ => ⟨rfl, Int.le_refl _, fun h => h, Or.inl ⟨rfl, by simp⟩⟩
  | s :: l, b, hl => by
    rw [List.foldl_cons]
    have ih := growP_from L l (grow1 b s) fun u hu => hl u (List.mem_cons_of_mem _ hu)
    by_cases hc : s.1 < s.2 ∧ s.1 ≤ b.2 ∧ b.2 < s.2
    · have e : grow1 b s = (b.1, s.2) := by unfold grow1; rw [if_pos hc]
      rw [e] at ih ⊢
      simp only at ih
      refine ⟨ih.1, by omega, fun h m h1 h2 => ?_, Or.inr ⟨by omega, ?_⟩⟩
      · refine ih.2.2.1 (fun m h1 h2 => ?_) m h1 h2
        by_cases c : m < b.2
        · exact h m h1 c
        · exact hasL_iff.2 ⟨s, hl s (List.mem_cons_self ..), by omega⟩
      · rcases ih.2.2.2 with h | h
        · rw [h.1]; exact ⟨s, hl s (List.mem_cons_self ..), rfl⟩
        · exact h.2
    · have e : grow1 b s = b := by unfold grow1; rw [if_neg hc]
      rw [e] at ih ⊢
      refine ⟨ih.1, ih.2.1, ih.2.2.1, ?_⟩
      rcases ih.2.2.2 with h | h
      · refine Or.inl ⟨h.1, fun u hu h1 h2 => ?_⟩
        rcases List.mem_cons.1 hu with rfl | hu
        · omega
        · exact h.2 u hu h1 h2
      · exact Or.inr h

theorem growN_ok (l : List Sp) (b : Sp) (hb : ∀ m, b.1 ≤ m → m < b.2 → hasL l m = true) : ∀ n,
    (growN l n b).1 = b.1 ∧ b.2 ≤ (growN l n b).2 ∧ (∀ m, b.1 ≤ m → m < (growN l n b).2 → hasL l m = true) ∧ (Still l (growN l n b) ∨ beyond l (growN l n b).2 + n ≤ l.length)
  | 0 => ⟨rfl, Int.le_refl _, hb, Or.inr (List.countP_le_length ..)⟩
  | n + 1 => by
    have ih := growN_ok l b hb n
    have g := growP_from l l (growN l n b) (fun _ h => h)
    refine ⟨g.1.trans ih.1, Int.le_trans ih.2.1 g.2.1, fun m h1 h2 => g.2.2.1 (fun m h1 h2 => ih.2.2.1 m (by rw [ih.1] at h1; exact h1) h2) m (by rw [ih.1]; exact h1) h2, ?_⟩
    rcases g.2.2.2 with h | h
    · refine Or.inl fun s hs h1 h2 => ?_
      show s.2 ≤ (l.foldl grow1 (growN l n b)).2
      rw [h.1]
      have h2 : s.1 ≤ (l.foldl grow1 (growN l n b)).2 := h2
      rw [h.1] at h2
      exact h.2 s hs h1 h2
    · rcases ih.2.2.2 with hs | hn
      · obtain ⟨h3, s, hs', he⟩ := h
        exfalso
        have key : ∀ (l' : List Sp) (b : Sp), (∀ s ∈ l', s.1 < s.2 → s.1 ≤ b.2 → s.2 ≤ b.2) → l'.foldl grow1 b = b := by
          intro l'
          induction l' with
          | nil => intro b _; rfl
          | cons u l' ih =>
            intro b h
            have e : grow1 b u = b := by
              unfold grow1
              rw [if_neg fun hc => by have := h u (List.mem_cons_self ..) hc.1 hc.2.1; omega]
            rw [List.foldl_cons, e]
            exact ih b fun v hv => h v (List.mem_cons_of_mem _ hv)
        rw [key l _ hs] at h3
        omega
      · refine Or.inr ?_
        have := beyond_lt h.1 h.2
        show beyond l (l.foldl grow1 (growN l n b)).2 + (n + 1) ≤ l.length
        omega

theorem growN_still (l : List Sp) (b : Sp) (hb : ∀ m, b.1 ≤ m → m < b.2 → hasL l m = true) : Still l (growN l (l.length + 1) b) := by
  rcases (growN_ok l b hb (l.length + 1)).2.2.2 with h | h
  · exact h
  · omega

/-- What the reference's rounds keep. -/
structure RInv (l out : List Sp) : Prop where
  set : IsSet out
  count : out.length + l.countP (elig out) ≤ l.length
  upto : ∀ t, out.getLast? = some t → (∀ m, m ≤ t.2 → hasL out m = hasL l m) ∧ Still l t

theorem RInv.start (l : List Sp) : RInv l [] := ⟨IsSet.nil, by simpa using List.countP_le_length, by simp⟩

theorem elig_nil (s : Sp) : elig [] s = decide (s.1 < s.2) := by simp [elig]

theorem elig_snoc (out : List Sp) (t s : Sp) : elig (out ++ [t]) s = (decide (s.1 < s.2) && decide (t.2 < s.1)) := by simp [elig]

theorem elig_last {out : List Sp} {s : Sp} (h : elig out s = true) : s.1 < s.2 ∧ ∀ t, out.getLast? = some t → t.2 < s.1 := by
  unfold elig at h
  rw [Bool.and_eq_true] at h
  refine ⟨by simpa using h.1, fun t ht => ?_⟩
  have := h.2
  rw [ht] at this
  simpa using this

theorem elig_no {out : List Sp} {s : Sp} (h : elig out s = false) (hs : s.1 < s.2) : ∃ t, out.getLast? = some t ∧ s.1 ≤ t.2 := by
  cases hl : out.getLast? with
  | none => simp [elig, hl, hs] at h
  | some t => simp [elig, hl, hs] at h; exact ⟨t, rfl, h⟩

theorem RInv.done {l out : List Sp} (h : RInv l out) (hb : (bestOf out l).2 = false) : out = setOf l := by
  have hn := ((best_from out l ((0, 0), false)).1 hb).2
  refine set_is h.set fun m => ?_
  rcases List.eq_nil_or_concat out with rfl | ⟨o, t, rfl⟩
  · refine (hasL_no.2 (by simp)).trans (hasL_no.2 fun s hs hm => ?_).symm
    obtain ⟨t, ht, _⟩ := elig_no (hn s hs) (by omega)
    cases ht
  · rw [List.concat_eq_append] at *
    have hu := h.upto t (by simp)
    by_cases c : m ≤ t.2
    · exact hu.1 m c
    · refine (hasL_no.2 fun s hs hm => ?_).trans (hasL_no.2 fun s hs hm => ?_).symm
      · rcases List.mem_append.1 hs with hs | hs
        · have := h.set.init.2.2 s hs
          have := h.set.init.2.1
          omega
        · rw [List.mem_singleton.1 hs] at hm; omega
      · obtain ⟨t', ht, h1⟩ := elig_no (hn s hs) (by omega)
        have e : t' = t := by simpa using ht.symm
        subst e
        have := hu.2 s hs (by omega) h1
        omega

theorem countP_lt {p q : Sp → Bool} {l : List Sp} (h : ∀ s ∈ l, q s = true → p s = true) {x : Sp} (hx : x ∈ l) (h1 : p x = true) (h2 : q x = false) : l.countP q < l.countP p := by
  induction l with
  | nil => cases hx
  | cons t l ih =>
    rw [List.countP_cons, List.countP_cons]
    have hm : l.countP q ≤ l.countP p := List.countP_mono_left fun s hs => h s (List.mem_cons_of_mem _ hs)
    rcases List.mem_cons.1 hx with rfl | hx
    · rw [if_neg (by rw [h2]; simp), if_pos h1]; omega
    · have := ih (fun s hs => h s (List.mem_cons_of_mem _ hs)) hx
      by_cases c : q t = true
      · rw [if_pos c, if_pos (h t (List.mem_cons_self ..) c)]; omega
      · rw [if_neg c]; split <;> omega

theorem RInv.step {l out : List Sp} (h : RInv l out) (hb : (bestOf out l).2 = true) :
    RInv l (out ++ [growN l (l.length + 1) (bestOf out l).1]) ∧ l.countP (elig (out ++ [growN l (l.length + 1) (bestOf out l).1])) < l.countP (elig out) := by
  have hbf := (best_from out l ((0, 0), false)).2 hb
  obtain ⟨hmem, hel⟩ : (bestOf out l).1 ∈ l ∧ elig out (bestOf out l).1 = true := by
    rcases hbf.1 with ⟨h0, _⟩ | h1
    · cases h0
    · exact h1
  have hleast := hbf.2.2
  change ∀ s ∈ l, elig out s = true → (bestOf out l).1.1 ≤ s.1 at hleast
  generalize (bestOf out l).1 = b at *
  have hr := elig_last hel
  have hbm : ∀ m, b.1 ≤ m → m < b.2 → hasL l m = true := fun m h1 h2 => hasL_iff.2 ⟨b, hmem, h1, h2⟩
  have hg := growN_ok l b hbm (l.length + 1)
  have hst := growN_still l b hbm
  generalize growN l (l.length + 1) b = g at *
  have hlt : ∀ t ∈ out, t.2 < g.1 := fun t ht => by
    rcases List.eq_nil_or_concat out with rfl | ⟨o, u, rfl⟩
    · cases ht
    · rw [List.concat_eq_append] at *
      have hu := hr.2 u (by simp)
      rw [hg.1]
      rcases List.mem_append.1 ht with ht | ht
      · have h1 := h.set.init.2.2 t ht
        have h2 := h.set.init.2.1
        omega
      · rw [List.mem_singleton.1 ht]; exact hu
  have hle : ∀ s, elig (out ++ [g]) s = true → elig out s = true := fun s hs => by
    rw [elig_snoc, Bool.and_eq_true] at hs
    have h1 : s.1 < s.2 := by simpa using hs.1
    have h2 : g.2 < s.1 := by simpa using hs.2
    unfold elig
    rw [Bool.and_eq_true]
    refine ⟨by simpa using h1, ?_⟩
    cases hl : out.getLast? with
    | none => rfl
    | some t =>
      have := hlt t (List.mem_of_getLast? hl)
      simp
      omega
  have hcnt : l.countP (elig (out ++ [g])) < l.countP (elig out) :=
    countP_lt (fun s _ => hle s) hmem hel (by rw [elig_snoc]; simp; intro _; omega)
  refine ⟨⟨h.set.snoc (by omega) hlt, ?_, fun t ht => ?_⟩, hcnt⟩
  · have := h.count
    rw [List.length_append, List.length_singleton]
    omega
  · have e : t = g := by simpa using ht.symm
    subst e
    refine ⟨fun m hm => ?_, hst⟩
    rw [hasL_append]
    by_cases c1 : t.1 ≤ m
    · by_cases c2 : m < t.2
      · rw [hasL_iff (l := [t]) |>.2 ⟨t, by simp, c1, c2⟩, Bool.or_true, hg.2.2.1 m (by omega) c2]
      · have em : m = t.2 := by omega
        rw [hasL_no (l := [t]) |>.2 fun x hx hxm => by rw [List.mem_singleton.1 hx] at hxm; omega, Bool.or_false]
        refine (hasL_no.2 fun x hx hxm => ?_).trans (hasL_no.2 fun x hx hxm => ?_).symm
        · have := hlt x hx; omega
        · have := hst x hx (by omega) (by omega); omega
    · rw [hasL_no (l := [t]) |>.2 fun x hx hxm => by rw [List.mem_singleton.1 hx] at hxm; omega, Bool.or_false]
      rcases List.eq_nil_or_concat out with rfl | ⟨o, u, rfl⟩
      · refine (hasL_no.2 (by simp)).trans (hasL_no.2 fun x hx hxm => ?_).symm
        have := hleast x hx (by rw [elig_nil]; exact decide_eq_true (by omega))
        omega
      · rw [List.concat_eq_append] at *
        have hu := h.upto u (by simp)
        by_cases c3 : m ≤ u.2
        · exact hu.1 m c3
        · refine (hasL_no.2 fun x hx hxm => ?_).trans (hasL_no.2 fun x hx hxm => ?_).symm
          · rcases List.mem_append.1 hx with hx | hx
            · have h1 := h.set.init.2.2 x hx
              have h2 := h.set.init.2.1
              omega
            · rw [List.mem_singleton.1 hx] at hxm; omega
          · by_cases c4 : x.1 ≤ u.2
            · have := hu.2 x hx (by omega) c4; omega
            · have := hleast x hx (by rw [elig_snoc, decide_eq_true (show x.1 < x.2 by omega), decide_eq_true (show u.2 < x.1 by omega)]; rfl)
              omega

theorem RInv.len {l out : List Sp} (h : RInv l out) : out.length ≤ l.length := by have := h.count; omega

/-- Prefixes, one more. -/
theorem take_more {α : Type} [Inhabited α] (l : List α) (d : α) (k : Nat) (h : k < l.length) : l.take (k + 1) = l.take k ++ [l.getD k d] := by
  rw [List.take_succ_eq_append_getElem h]; simp [List.getD, h]

theorem best_more (out l : List Sp) (k : Nat) (h : k < l.length) : (l.take (k + 1)).foldl (best1 out) ((0, 0), false) = best1 out ((l.take k).foldl (best1 out) ((0, 0), false)) (l.getD k (0, 0)) := by
  rw [take_more l (0, 0) k h, List.foldl_append]; rfl

theorem grow_more (l : List Sp) (b : Sp) (k : Nat) (h : k < l.length) : (l.take (k + 1)).foldl grow1 b = grow1 ((l.take k).foldl grow1 b) (l.getD k (0, 0)) := by
  rw [take_more l (0, 0) k h, List.foldl_append]; rfl

theorem next_more (l : List Sp) (m : Int) (k : Nat) (h : k < l.length) : (l.take (k + 1)).foldl (next1 m) (0, false) = next1 m ((l.take k).foldl (next1 m) (0, false)) (l.getD k (0, 0)) := by
  rw [take_more l (0, 0) k h, List.foldl_append]; rfl

theorem put_more (l set : List Sp) (k : Nat) (h : k < l.length) : (l.take (k + 1)).foldl put1 set = put1 ((l.take k).foldl put1 set) (l.getD k (0, 0)) := by
  rw [take_more l (0, 0) k h, List.foldl_append]; rfl

theorem only_more (l : List Sp) (k : Nat) (h : k < l.length) : onlyR (l.take (k + 1)) = onlyR (l.take k) ++ if (l.getD k (0, 0)).1 < (l.getD k (0, 0)).2 then [l.getD k (0, 0)] else [] := by
  rw [take_more l (0, 0) k h]
  unfold onlyR
  rw [List.filter_append]
  congr 1
  simp [List.filter_cons]

theorem gap_more (lo : Int) (l : List Sp) (k : Nat) (h : k < l.length) : gapTo lo (l.take (k + 1)) = gap1 (gapTo lo (l.take k)) (l.getD k (0, 0)) := by
  rw [take_more l (0, 0) k h, gapTo_snoc]

theorem getD_mem {l : List Sp} {k : Nat} (h : k < l.length) : l.getD k (0, 0) ∈ l := by
  simp [List.getD, h]

theorem hasL_of (l : List Sp) (m : Int) (k : Nat) (h : k < l.length) (hm : (l.getD k (0, 0)).1 ≤ m ∧ m < (l.getD k (0, 0)).2) : hasL l m = true :=
  hasL_iff.2 ⟨_, getD_mem h, hm⟩

theorem hasL_not (l : List Sp) (m : Int) (k : Nat) (h : k < l.length) (hm : ¬ ((l.getD k (0, 0)).1 ≤ m ∧ m < (l.getD k (0, 0)).2)) (hn : ∀ s ∈ l.take k, ¬ (s.1 ≤ m ∧ m < s.2)) :
    ∀ s ∈ l.take (k + 1), ¬ (s.1 ≤ m ∧ m < s.2) := by
  rw [take_more l (0, 0) k h]
  intro s hs
  rcases List.mem_append.1 hs with hs | hs
  · exact hn s hs
  · rw [List.mem_singleton.1 hs]; exact hm

theorem best_skip {out : List Sp} {acc : Sp × Bool} {s : Sp} (h : elig out s = false) : best1 out acc s = acc := by unfold best1; rw [if_neg (by rw [h]; simp)]

theorem best_take {out : List Sp} {acc : Sp × Bool} {s : Sp} (h : elig out s = true) (h2 : acc.2 = false ∨ s.1 < acc.1.1) : best1 out acc s = (s, true) := by unfold best1; rw [if_pos h, if_pos h2]

theorem best_leave {out : List Sp} {acc : Sp × Bool} {s : Sp} (h : elig out s = true) (h2 : ¬ (acc.2 = false ∨ s.1 < acc.1.1)) : best1 out acc s = acc := by unfold best1; rw [if_pos h, if_neg h2]

theorem elig_wrong {out : List Sp} {s : Sp} (h : ¬ s.1 < s.2) : elig out s = false := by unfold elig; rw [decide_eq_false h]; rfl

theorem elig_first {out : List Sp} {s : Sp} (hn : out.length = 0) (h : s.1 < s.2) : elig out s = true := by
  obtain rfl := List.eq_nil_of_length_eq_zero hn
  rw [elig_nil]; exact decide_eq_true h

theorem elig_at {out : List Sp} {s : Sp} {j : Nat} {t1 t2 : Int} (hn : out.length = j + 1) (ht : out.getD j (0, 0) = (t1, t2)) (h : s.1 < s.2) : elig out s = decide (t2 < s.1) := by
  rcases List.eq_nil_or_concat out with rfl | ⟨o, t, rfl⟩
  · simp at hn
  · rw [List.concat_eq_append] at *
    rw [elig_snoc, decide_eq_true h, Bool.true_and]
    have hj : o.length = j := by simpa using hn
    subst hj
    have e : t = (t1, t2) := by simpa [List.getD] using ht
    rw [e]

theorem grow_skip {b s : Sp} (h : ¬ (s.1 < s.2 ∧ s.1 ≤ b.2 ∧ b.2 < s.2)) : grow1 b s = b := by unfold grow1; rw [if_neg h]

theorem grow_take {b s : Sp} (h : s.1 < s.2 ∧ s.1 ≤ b.2 ∧ b.2 < s.2) : grow1 b s = (b.1, s.2) := by unfold grow1; rw [if_pos h]

end Go.Proofs.Ytolbihfnogbjaaa

/- Timelines in plain words: which record is wrong first, the minutes' kinds, the normal one. Conditions: none beyond each lemma's own premises. -/
namespace Go.Proofs.Ytolbihfnogbjaaa

/-- A record: its kind, its begin, its end. -/
abbrev Rc := Int × Int × Int
def rz : Rc := (0, 0, 0)

/-- What is wrong with a record alone; and by the end of the one ahead. -/
def aloneV (x y z : Int) : Int := if 0 ≤ x ∧ x < 4 then (if (0 ≤ y ∧ y ≤ 40320) ∧ (0 ≤ z ∧ z ≤ 40320) then (if y < z then 0 else 3) else 4) else 2
def behindV (t y : Int) : Int := if t < y then 5 else if y < t then 6 else 0

theorem alone_zero {x y z : Int} : aloneV x y z = 0 ↔ (0 ≤ x ∧ x < 4) ∧ (0 ≤ y ∧ y < z ∧ z ≤ 40320) := by
  unfold aloneV
  repeat' split
  all_goals first | (constructor <;> intro h <;> omega) | (constructor <;> intro h <;> first | omega | (exfalso; omega))

theorem behind_zero {t y : Int} : behindV t y = 0 ↔ y = t := by
  unfold behindV
  repeat' split
  all_goals (constructor <;> intro h <;> omega)

/-- What is wrong with the record at k. -/
def faultV (l : List Rc) (k : Nat) : Int :=
  if aloneV (l.getD k rz).1 (l.getD k rz).2.1 (l.getD k rz).2.2 = 0 ∧ k ≠ 0 then behindV (l.getD (k - 1) rz).2.2 (l.getD k rz).2.1 else aloneV (l.getD k rz).1 (l.getD k rz).2.1 (l.getD k rz).2.2

theorem fault_alone {l : List Rc} {k : Nat} {x y z : Int} (h : l.getD k rz = (x, y, z)) (ha : aloneV x y z ≠ 0) : faultV l k = aloneV x y z := by
  unfold faultV
  rw [h, if_neg (fun c => ha c.1)]

theorem fault_first {l : List Rc} {x y z : Int} (h : l.getD 0 rz = (x, y, z)) : faultV l 0 = aloneV x y z := by
  unfold faultV
  rw [h, if_neg (fun c => c.2 rfl)]

theorem fault_next {l : List Rc} {j : Nat} {x y z a b c : Int} (h : l.getD (j + 1) rz = (x, y, z)) (ha : aloneV x y z = 0) (hp : l.getD j rz = (a, b, c)) : faultV l (j + 1) = behindV c y := by
  unfold faultV
  rw [h, if_pos ⟨ha, by omega⟩, show j + 1 - 1 = j by omega, hp]

/-- The first record that is wrong, and what is wrong. -/
def checkV (l : List Rc) : Nat × Int := match (List.range l.length).find? (fun j => faultV l j != 0) with | none => (0, 0) | some j => (j, faultV l j)

theorem check_ok {l : List Rc} (h : ∀ j, j < l.length → faultV l j = 0) : checkV l = (0, 0) := by
  unfold checkV
  have e : (List.range l.length).find? (fun j => faultV l j != 0) = none := by
    rw [List.find?_eq_none]
    intro j hj
    simp [h j (by simpa using hj)]
  rw [e]

theorem check_bad {l : List Rc} {k : Nat} {e : Int} (hk : k < l.length) (h : ∀ j, j < k → faultV l j = 0) (he : faultV l k = e) (hne : e ≠ 0) : checkV l = (k, e) := by
  unfold checkV
  have e1 : (List.range l.length).find? (fun j => faultV l j != 0) = some k := by
    rw [List.find?_range_eq_some]
    refine ⟨by simp [he, hne], by simpa using hk, fun j hj => by simp [h j hj]⟩
  rw [e1, ← he]

theorem check_zero {l : List Rc} (h : (checkV l).2 = 0) : ∀ j, j < l.length → faultV l j = 0 := by
  intro j hj
  rcases hf : (List.range l.length).find? (fun j => faultV l j != 0) with _ | k
  · rw [List.find?_eq_none] at hf
    have := hf j (by simpa using hj)
    simpa using this
  · have hk := hf
    rw [List.find?_range_eq_some] at hk
    unfold checkV at h
    rw [hf] at h
    have := hk.1
    simp at this h
    exact absurd h this

/-- A timeline from e on. -/
def Tl (e : Int) : List Rc → Prop
  | [] => True
  | r :: l => ((0 ≤ r.1 ∧ r.1 < 4) ∧ (0 ≤ r.2.1 ∧ r.2.1 < r.2.2 ∧ r.2.2 ≤ 40320)) ∧ r.2.1 = e ∧ Tl r.2.2 l

def beg : List Rc → Int
  | [] => 0
  | r :: _ => r.2.1

def fin : List Rc → Int
  | [] => 0
  | [r] => r.2.2
  | _ :: r :: l => fin (r :: l)

theorem Tl.from_ {e : Int} {l : List Rc} (h : Tl e l) : Tl (beg l) l := by
  cases l with
  | nil => trivial
  | cons r l => exact ⟨h.1, rfl, h.2.2⟩

theorem tl_of {l : List Rc} {e : Int} (h1 : ∀ j, j < l.length → (0 ≤ (l.getD j rz).1 ∧ (l.getD j rz).1 < 4) ∧ (0 ≤ (l.getD j rz).2.1 ∧ (l.getD j rz).2.1 < (l.getD j rz).2.2 ∧ (l.getD j rz).2.2 ≤ 40320))
    (h2 : l ≠ [] → (l.getD 0 rz).2.1 = e) (h3 : ∀ j, j + 1 < l.length → (l.getD (j + 1) rz).2.1 = (l.getD j rz).2.2) : Tl e l := by
  induction l generalizing e with
  | nil => trivial
  | cons r l ih =>
    refine ⟨by simpa using h1 0 (by simp), by simpa using h2 (by simp), ih (fun j hj => by simpa using h1 (j + 1) (by simpa using hj)) (fun hne => ?_) (fun j hj => by simpa using h3 (j + 1) (by simpa using hj))⟩
    have := h3 0 (by have := List.length_pos_iff.2 hne; simp; omega)
    simpa using this

theorem fault_ok {l : List Rc} {k : Nat} (h : faultV l k = 0) : aloneV (l.getD k rz).1 (l.getD k rz).2.1 (l.getD k rz).2.2 = 0 := by
  unfold faultV at h
  split at h
  · rename_i c; exact c.1
  · exact h

theorem check_tl {l : List Rc} (h : (checkV l).2 = 0) : Tl (beg l) l := by
  have hf := check_zero h
  refine tl_of (fun j hj => alone_zero.1 (fault_ok (hf j hj))) (fun hne => ?_) (fun j hj => ?_)
  · cases l with
    | nil => exact absurd rfl hne
    | cons r l => rfl
  · have h1 := hf (j + 1) hj
    have h2 := fault_ok h1
    unfold faultV at h1
    rw [if_pos ⟨h2, by omega⟩, show j + 1 - 1 = j by omega] at h1
    exact behind_zero.1 h1

theorem Tl.at_ {l : List Rc} {e : Int} (h : Tl e l) : ∀ j, j < l.length → (0 ≤ (l.getD j rz).1 ∧ (l.getD j rz).1 < 4) ∧ (0 ≤ (l.getD j rz).2.1 ∧ (l.getD j rz).2.1 < (l.getD j rz).2.2 ∧ (l.getD j rz).2.2 ≤ 40320) := by
  induction l generalizing e with
  | nil => intro j hj; cases hj
  | cons r l ih =>
    intro j hj
    cases j with
    | zero => simpa using h.1
    | succ j => simpa using ih h.2.2 j (by simpa using hj)

theorem Tl.chain {l : List Rc} {e : Int} (h : Tl e l) : ∀ j, j + 1 < l.length → (l.getD (j + 1) rz).2.1 = (l.getD j rz).2.2 := by
  induction l generalizing e with
  | nil => intro j hj; cases hj
  | cons r l ih =>
    intro j hj
    cases j with
    | zero =>
      cases l with
      | nil => simp at hj
      | cons s l => simpa using h.2.2.2.1
    | succ j => simpa using ih h.2.2 j (by simpa using hj)

theorem tl_check {l : List Rc} {e : Int} (h : Tl e l) : checkV l = (0, 0) := by
  refine check_ok fun j hj => ?_
  have h1 := alone_zero.2 (h.at_ j hj)
  unfold faultV
  rw [h1]
  split
  · rename_i c
    obtain ⟨k, rfl⟩ : ∃ k, j = k + 1 := ⟨j - 1, by omega⟩
    rw [show k + 1 - 1 = k by omega]
    exact behind_zero.2 (h.chain k hj)
  · rfl

/-- The kind of each minute. -/
def kindsV (l : List Rc) : List Int := l.flatMap fun r => List.replicate (r.2.2 - r.2.1).toNat r.1

theorem kinds_cons (r : Rc) (l : List Rc) : kindsV (r :: l) = List.replicate (r.2.2 - r.2.1).toNat r.1 ++ kindsV l := rfl

theorem kinds_more {l : List Rc} {k : Nat} {x y z : Int} (h : k < l.length) (hr : l.getD k rz = (x, y, z)) : kindsV (l.take (k + 1)) = kindsV (l.take k) ++ List.replicate (z - y).toNat x := by
  have e : l[k]? = some (x, y, z) := by
    rw [List.getElem?_eq_getElem h]
    rw [List.getD_eq_getElem?_getD, List.getElem?_eq_getElem h] at hr
    simpa using hr
  rw [List.take_add_one, e]
  simp [kindsV]

/-- Where it ends. -/
theorem Tl.len {l : List Rc} {e : Int} (h : Tl e l) : l ≠ [] → e + ((kindsV l).length : Int) = fin l ∧ 0 ≤ e ∧ fin l ≤ 40320 := by
  induction l generalizing e with
  | nil => intro h; exact absurd rfl h
  | cons r l ih =>
    intro _
    obtain ⟨⟨h1, h2⟩, h3, h4⟩ := h
    have hr : ((List.replicate (r.2.2 - r.2.1).toNat r.1).length : Int) = r.2.2 - r.2.1 := by simp; omega
    cases l with
    | nil => rw [kinds_cons]; simp [kindsV, fin]; omega
    | cons s l =>
      have := ih h4 (by simp)
      rw [kinds_cons, List.length_append, fin]
      omega

theorem Tl.short {l : List Rc} {e : Int} (h : Tl e l) : (kindsV l).length ≤ 40320 := by
  cases l with
  | nil => simp [kindsV]
  | cons r l => have := h.len (by simp); omega

theorem Tl.bd {l : List Rc} {e : Int} (h : Tl e l) : 0 ≤ beg l ∧ beg l + ((kindsV l).length : Int) ≤ 40320 := by
  cases l with
  | nil => simp [beg, kindsV]
  | cons r l => have := h.from_.len (by simp); omega

theorem kinds_take (l : List Rc) (k : Nat) : (kindsV (l.take k)).length ≤ (kindsV l).length := by
  have e : kindsV l = kindsV (l.take k) ++ kindsV (l.drop k) := by
    unfold kindsV
    rw [← List.flatMap_append, List.take_append_drop]
  rw [e, List.length_append]
  omega

theorem Tl.kinds {l : List Rc} {e : Int} (h : Tl e l) : ∀ x ∈ kindsV l, 0 ≤ x ∧ x < 4 := by
  induction l generalizing e with
  | nil => intro x hx; simp [kindsV] at hx
  | cons r l ih =>
    intro x hx
    rw [kinds_cons, List.mem_append] at hx
    rcases hx with hx | hx
    · rw [List.mem_replicate] at hx; rw [hx.2]; exact h.1.1
    · exact ih h.2.2 x hx

/-! ### The normal timeline -/

/-- One more record behind those that are there: the last one's end is moved, where the kinds are the same. -/
def put (out : List Rc) (k f t : Int) : List Rc :=
  match out.getLast? with
  | some (a, b, _) => if a = k then out.dropLast ++ [(k, b, t)] else out ++ [(k, f, t)]
  | none => out ++ [(k, f, t)]

theorem put_nil (k f t : Int) : put [] k f t = [(k, f, t)] := rfl

theorem put_same (o : List Rc) (b c k f t : Int) : put (o ++ [(k, b, c)]) k f t = o ++ [(k, b, t)] := by
  unfold put; simp

theorem put_other (o : List Rc) {a b c k f t : Int} (h : a ≠ k) : put (o ++ [(a, b, c)]) k f t = o ++ [(a, b, c)] ++ [(k, f, t)] := by
  unfold put; simp [h]

theorem snoc_form {out : List Rc} {j : Nat} {a b c : Int} (hl : out.length = j + 1) (hg : out.getD j rz = (a, b, c)) : ∃ o, out = o ++ [(a, b, c)] ∧ o.length = j := by
  rcases List.eq_nil_or_concat out with rfl | ⟨o, r, rfl⟩
  · cases hl
  · have : o.length = j := by simpa using hl
    subst this
    refine ⟨o, ?_, rfl⟩
    simp at hg
    simp [hg]

theorem put_put (out : List Rc) (k f m n t : Int) : put (put out k f m) k n t = put out k f t := by
  rcases List.eq_nil_or_concat out with rfl | ⟨o, ⟨a, b, c⟩, rfl⟩
  · rw [put_nil, put_nil]; exact put_same [] f m k n t
  · by_cases h : a = k
    · subst h; simp only [List.concat_eq_append]; rw [put_same, put_same, put_same]
    · simp only [List.concat_eq_append]; rw [put_other o h, put_other o h, put_same]

def normV (l : List Rc) : List Rc := l.foldl (fun out r => put out r.1 r.2.1 r.2.2) []

theorem norm_more {l : List Rc} {k : Nat} {x y z : Int} (h : k < l.length) (hr : l.getD k rz = (x, y, z)) : normV (l.take (k + 1)) = put (normV (l.take k)) x y z := by
  have e : l[k]? = some (x, y, z) := by
    rw [List.getElem?_eq_getElem h]
    rw [List.getD_eq_getElem?_getD, List.getElem?_eq_getElem h] at hr
    simpa using hr
  rw [List.take_add_one, e]
  simp [normV]

theorem put_len (out : List Rc) (k f t : Int) : (put out k f t).length ≤ out.length + 1 := by
  rcases List.eq_nil_or_concat out with rfl | ⟨o, ⟨a, b, c⟩, rfl⟩
  · rw [put_nil]; simp
  · by_cases h : a = k
    · subst h; simp only [List.concat_eq_append]; rw [put_same]; simp
    · simp only [List.concat_eq_append]; rw [put_other o h]; simp

/-- The normal timeline of minutes' kinds, the first of which is the minute m. -/
def ofS (s : List Rc × Int) (ks : List Int) : List Rc × Int := ks.foldl (fun s k => (put s.1 k s.2 (s.2 + 1), s.2 + 1)) s
def ofR (at_ : Int) (ks : List Int) : List Rc := (ofS ([], at_) ks).1

theorem of_same (out : List Rc) (k f : Int) : ∀ n, ofS (out, f) (List.replicate (n + 1) k) = (put out k f (f + (n + 1 : Nat)), f + (n + 1 : Nat))
  | 0 => by simp [ofS]
  | n + 1 => by
    rw [List.replicate_succ', ofS, List.foldl_append]
    have := of_same out k f n
    unfold ofS at this
    rw [this]
    simp only [List.foldl_cons, List.foldl_nil, put_put]
    have e : f + ((n + 1 : Nat) : Int) + 1 = f + ((n + 1 + 1 : Nat) : Int) := by omega
    rw [e]

theorem of_norm {l : List Rc} {e : Int} (h : Tl e l) : ∀ out, (ofS (out, e) (kindsV l)).1 = l.foldl (fun out r => put out r.1 r.2.1 r.2.2) out := by
  induction l generalizing e with
  | nil => intro out; rfl
  | cons r l ih =>
    intro out
    obtain ⟨⟨h1, h2⟩, h3, h4⟩ := h
    subst h3
    obtain ⟨n, hn⟩ : ∃ n : Nat, (r.2.2 - r.2.1).toNat = n + 1 := ⟨(r.2.2 - r.2.1).toNat - 1, by omega⟩
    rw [kinds_cons, hn]
    show (List.foldl _ (out, r.2.1) (_ ++ _)).1 = _
    rw [List.foldl_append]
    have := of_same out r.1 r.2.1 n
    unfold ofS at this
    rw [this]
    have e : r.2.1 + ((n + 1 : Nat) : Int) = r.2.2 := by omega
    rw [e]
    exact ih h4 _

theorem norm_of {l : List Rc} {e : Int} (h : Tl e l) : ofR (beg l) (kindsV l) = normV l := of_norm h.from_ []

theorem of_more {ks : List Int} {at_ : Int} {k : Nat} {x : Int} (hx : ks[k]? = some x) : ofR at_ (ks.take (k + 1)) = put (ofR at_ (ks.take k)) x (at_ + k) (at_ + k + 1) := by
  have hm : ∀ (ks : List Int) (s : List Rc × Int), (ofS s ks).2 = s.2 + ks.length := by
    intro ks
    induction ks with
    | nil => intro s; simp [ofS]
    | cons y ks ih =>
      intro s
      show (ofS _ ks).2 = _
      rw [ih]
      simp; omega
  rw [List.take_add_one, hx]
  unfold ofR
  simp only [Option.toList_some]
  rw [ofS, List.foldl_append]
  have h2 := hm (ks.take k) ([], at_)
  have hl : (ks.take k).length = k := by
    have := (List.getElem?_eq_some_iff.1 hx).1
    simp; omega
  rw [hl] at h2
  unfold ofS at h2 ⊢
  simp only [List.foldl_cons, List.foldl_nil]
  rw [h2]

theorem of_len (at_ : Int) (ks : List Int) : (ofR at_ ks).length ≤ ks.length := by
  have : ∀ (ks : List Int) (s : List Rc × Int), (ofS s ks).1.length ≤ s.1.length + ks.length := by
    intro ks
    induction ks with
    | nil => intro s; simp [ofS]
    | cons y ks ih =>
      intro s
      have := ih (put s.1 y s.2 (s.2 + 1), s.2 + 1)
      have h2 := put_len s.1 y s.2 (s.2 + 1)
      show (ofS (put s.1 y s.2 (s.2 + 1), s.2 + 1) ks).1.length ≤ _
      simp at this ⊢
      omega
  have h := this ks ([], at_)
  rw [List.length_nil, Nat.zero_add] at h
  exact h

/-- What Normal tells. -/
def nrmV (l : List Rc) : List Rc := if (checkV l).2 = 0 then normV l else []

theorem nrm_ok {l : List Rc} {e : Int} (h : Tl e l) : nrmV l = normV l := by unfold nrmV; rw [tl_check h]; exact if_pos rfl
theorem nrm_bad {l : List Rc} (h : (checkV l).2 ≠ 0) : nrmV l = [] := if_neg h

theorem norm_len (l : List Rc) : (normV l).length ≤ l.length := by
  have : ∀ (l : List Rc) (out : List Rc), (l.foldl (fun out r => put out r.1 r.2.1 r.2.2) out).length ≤ out.length + l.length := by
    intro l
    induction l with
    | nil => intro out; simp
    | cons r l ih =>
      intro out
      have := ih (put out r.1 r.2.1 r.2.2)
      have h2 := put_len out r.1 r.2.1 r.2.2
      simp only [List.foldl_cons, List.length_cons]
      omega
  have h := this l []
  rw [List.length_nil, Nat.zero_add] at h
  exact h

end Go.Proofs.Ytolbihfnogbjaaa
