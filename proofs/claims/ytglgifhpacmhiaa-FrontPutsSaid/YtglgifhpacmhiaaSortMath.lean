/- Findings in order, each once: such a list is the only one with its findings; what is sorted and then rid of neighbours that are the same is such a list. Conditions: none beyond each lemma's own premises. -/
import Derived.Test.YtglgifhpacmhiaaRecMath
import Derived.Test.YtglgifhpacmhiaaTriLt
import Derived.Lib.SlicesCompact
import Derived.Lib.Hide
namespace Go.Proofs.Ytglgifhpacmhiaa
open Go.RowKit

/-- The findings of l in order, each once. -/
def SetF (r l : List Rc) : Prop := r.Pairwise ltF ∧ ∀ x, x ∈ r ↔ x ∈ l

theorem sorted_unique : ∀ {r s : List Rc}, r.Pairwise ltF → s.Pairwise ltF → (∀ x, x ∈ r ↔ x ∈ s) → r = s
  | [], [], _, _, _ => rfl
  | [], y :: s, _, _, h => by have := (h y).2 (List.mem_cons_self ..); cases this
  | x :: r, [], _, _, h => by have := (h x).1 (List.mem_cons_self ..); cases this
  | x :: r, y :: s, hr, hs, h => by
    obtain ⟨hx, hr2⟩ := List.pairwise_cons.1 hr
    obtain ⟨hy, hs2⟩ := List.pairwise_cons.1 hs
    have e : x = y := by
      rcases List.mem_cons.1 ((h x).1 (List.mem_cons_self ..)) with e | h1
      · exact e
      · rcases List.mem_cons.1 ((h y).2 (List.mem_cons_self ..)) with e | h2
        · exact e.symm
        · exact absurd (hy x h1) (ltF_as (hx y h2))
    subst e
    have hrs : r = s := sorted_unique hr2 hs2 fun z => by
      have hz := h z
      constructor
      · intro hm
        rcases List.mem_cons.1 (hz.1 (List.mem_cons_of_mem _ hm)) with e | h1
        · subst e; exact absurd (hx z hm) (ltF_irr z)
        · exact h1
      · intro hm
        rcases List.mem_cons.1 (hz.2 (List.mem_cons_of_mem _ hm)) with e | h1
        · subst e; exact absurd (hy z hm) (ltF_irr z)
        · exact h1
    rw [hrs]

theorem setF_unique {r s l : List Rc} (h : SetF r l) (h2 : SetF s l) : r = s := sorted_unique h.1 h2.1 fun x => (h.2 x).trans (h2.2 x).symm
theorem setF_again {r s l : List Rc} (h : SetF r l) (h2 : SetF s r) : s = r := setF_unique h2 ⟨h.1, fun _ => Iff.rfl⟩
theorem setF_perm {r l d : List Rc} (h : SetF r d) (hp : d.Perm l) : SetF r l := ⟨h.1, fun x => (h.2 x).trans hp.mem_iff⟩

theorem pair_nodup {l : List Rc} (h : l.Pairwise ltF) : l.Nodup := h.imp fun hab e => by subst e; exact ltF_irr _ hab

theorem nodup_len : ∀ {o l : List Rc}, o.Nodup → (∀ x ∈ o, x ∈ l) → o.length ≤ l.length
  | [], _, _, _ => Nat.zero_le _
  | x :: o, l, hn, h => by
    obtain ⟨hx, hn2⟩ := List.nodup_cons.1 hn
    have hm := h x (List.mem_cons_self ..)
    have := nodup_len (o := o) (l := l.erase x) hn2 fun y hy => (List.mem_erase_of_ne (fun e => by subst e; exact hx hy)).2 (h y (List.mem_cons_of_mem _ hy))
    rw [List.length_erase_of_mem hm] at this
    have hp := List.length_pos_of_mem hm
    rw [List.length_cons]
    omega

/-! ### What is sorted, rid of neighbours that are the same -/

theorem compact_set {d : Array Rc} (hs : ∀ i j : Nat, i < j → j < d.size → ¬ ltF d[j]! d[i]!) : ∀ m, m ≤ d.size →
    (Lib.compactUpTo d m).Pairwise ltF ∧ ∀ x, x ∈ Lib.compactUpTo d m ↔ ∃ j, j < m ∧ d[j]! = x := by
  intro m
  induction m with
  | zero => intro _; exact ⟨by simp [Lib.compactUpTo], fun x => by simp [Lib.compactUpTo]⟩
  | succ m ih =>
    intro hm
    obtain ⟨ih1, ih2⟩ := ih (by omega)
    rw [Lib.compactUpTo_succ]
    by_cases hk : Lib.keeps d m = true
    · rw [if_pos hk]
      constructor
      · rw [List.pairwise_append]
        refine ⟨ih1, by simp, fun x hx y hy => ?_⟩
        rw [List.mem_singleton] at hy
        subst hy
        obtain ⟨j, hj, rfl⟩ := (ih2 x).1 hx
        have n1 := hs j m hj (by omega)
        by_cases h1 : ltF d[j]! d[m]!
        · exact h1
        · exfalso
          have e := ltF_tot h1 n1
          have hm0 : m ≠ 0 := by omega
          have hne : d[m]! ≠ d[m - 1]! := by
            unfold Lib.keeps at hk
            have := of_decide_eq_true hk
            rcases this with h0 | h0
            · exact absurd h0 hm0
            · exact h0
          have n2 := hs (m - 1) m (by omega) (by omega)
          have n3 : ¬ ltF d[m - 1]! d[j]! := by
            by_cases ej : j = m - 1
            · rw [ej]; exact ltF_irr _
            · exact hs j (m - 1) (by omega) (by omega)
          rw [e] at n3
          exact hne (ltF_tot n2 n3)
      · intro x
        rw [List.mem_append, List.mem_singleton, ih2]
        constructor
        · rintro (⟨j, hj, e⟩ | rfl)
          · exact ⟨j, by omega, e⟩
          · exact ⟨m, by omega, rfl⟩
        · rintro ⟨j, hj, e⟩
          by_cases ej : j = m
          · subst ej; exact .inr e.symm
          · exact .inl ⟨j, by omega, e⟩
    · rw [if_neg hk, List.append_nil]
      refine ⟨ih1, fun x => (ih2 x).trans ⟨fun ⟨j, hj, e⟩ => ⟨j, by omega, e⟩, fun ⟨j, hj, e⟩ => ?_⟩⟩
      by_cases ej : j = m
      · subst ej
        have hm0 : j ≠ 0 := by
          intro h
          subst h
          simp [Lib.keeps] at hk
        have he : d[j]! = d[j - 1]! := by
          unfold Lib.keeps at hk
          simp only [decide_eq_true_eq, not_or] at hk
          exact Classical.not_not.1 hk.2
        exact ⟨j - 1, by omega, by rw [← he]; exact e⟩
      · exact ⟨j, by omega, e⟩

theorem arr_mem (d : Array Rc) (x : Rc) : (∃ j, j < d.size ∧ d[j]! = x) ↔ x ∈ d.toList := by
  rw [List.mem_iff_getElem]
  constructor
  · rintro ⟨j, hj, e⟩
    refine ⟨j, by simpa using hj, ?_⟩
    rw [getElem!_pos d j hj] at e
    simpa using e
  · rintro ⟨j, hj, e⟩
    have hj' : j < d.size := by simpa using hj
    refine ⟨j, hj', ?_⟩
    rw [getElem!_pos d j hj']
    simpa using e

theorem compact_setF {d : Array Rc} (hs : ∀ i j : Nat, i < j → j < d.size → ¬ ltF d[j]! d[i]!) : SetF (Lib.compactUpTo d d.size) d.toList := by
  obtain ⟨h1, h2⟩ := compact_set hs d.size (Nat.le_refl _)
  exact ⟨h1, fun x => (h2 x).trans (arr_mem d x)⟩

/-! ### One by one -/

/-- What is told already: in order, of l, and all of l that does not lie behind it. -/
structure OutF (o l : List Rc) : Prop where
  ord : o.Pairwise ltF
  mem : ∀ x ∈ o, x ∈ l
  all : ∀ y ∈ l, y ∈ o ∨ ∀ x ∈ o, ltF x y

theorem OutF.nil (l : List Rc) : OutF [] l := ⟨List.Pairwise.nil, (fun _ h => by cases h), (fun _ _ => .inr (fun _ h => by cases h))⟩
theorem OutF.len {o l : List Rc} (h : OutF o l) : o.length ≤ l.length := nodup_len (pair_nodup h.ord) h.mem
theorem OutF.set {o l : List Rc} (h : OutF o l) (hn : ∀ y ∈ l, ¬ ∀ x ∈ o, ltF x y) : SetF o l := ⟨h.ord, fun x => ⟨h.mem x, fun hx => (h.all x hx).elim id fun k => absurd k (hn x hx)⟩⟩
theorem OutF.more {o l : List Rc} {b : Rc} (h : OutF o l) (hb : b ∈ l) (hc : ∀ x ∈ o, ltF x b) (hm : ∀ y ∈ l, (∀ x ∈ o, ltF x y) → ¬ ltF y b) : OutF (o ++ [b]) l where
  ord := by
    rw [List.pairwise_append]
    exact ⟨h.ord, by simp, fun x hx y hy => by rw [List.mem_singleton] at hy; subst hy; exact hc x hx⟩
  mem := fun x hx => by
    rcases List.mem_append.1 hx with h1 | h1
    · exact h.mem x h1
    · rw [List.mem_singleton] at h1; subst h1; exact hb
  all := fun y hy => by
    rcases h.all y hy with h1 | h1
    · exact .inl (List.mem_append_left _ h1)
    · by_cases h2 : ltF b y
      · refine .inr fun x hx => ?_
        rcases List.mem_append.1 hx with h3 | h3
        · exact h1 x h3
        · rw [List.mem_singleton] at h3; subst h3; exact h2
      · have := ltF_tot h2 (hm y hy h1)
        subst this
        exact .inl (List.mem_append_right _ (List.mem_singleton.2 rfl))

/-- To lie behind the last one is to lie behind all. -/
theorem behind_last {o : List Rc} {z y : Rc} (h : (o ++ [z]).Pairwise ltF) : (∀ x ∈ o ++ [z], ltF x y) ↔ ltF z y := by
  constructor
  · intro k; exact k z (List.mem_append_right _ (List.mem_singleton.2 rfl))
  · intro k x hx
    rcases List.mem_append.1 hx with h1 | h1
    · rw [List.pairwise_append] at h
      exact ltF_tr (h.2.2 x h1 z (List.mem_singleton.2 rfl)) k
    · rw [List.mem_singleton] at h1; subst h1; exact k

/-- Of the first k of l the least one behind o, if there is one. -/
def BestF (o l : List Rc) (k : Nat) : Bool → Rc → Prop
  | false, _ => ∀ j, j < k → ¬ ∀ x ∈ o, ltF x (l.getD j rz)
  | true, b => b ∈ l ∧ (∀ x ∈ o, ltF x b) ∧ ∀ j, j < k → (∀ x ∈ o, ltF x (l.getD j rz)) → ¬ ltF (l.getD j rz) b

theorem BestF.zero (o l : List Rc) (b : Rc) : BestF o l 0 false b := fun j hj => by omega

theorem getD_in {l : List Rc} {k : Nat} (h : k < l.length) : l.getD k rz ∈ l := by
  rw [List.getD_eq_getElem?_getD, List.getElem?_eq_getElem h]
  exact List.getElem_mem h

theorem in_getD {l : List Rc} {y : Rc} (h : y ∈ l) : ∃ j, j < l.length ∧ l.getD j rz = y := by
  obtain ⟨j, hj, e⟩ := List.mem_iff_getElem.1 h
  exact ⟨j, hj, by rw [List.getD_eq_getElem?_getD, List.getElem?_eq_getElem hj, e]; rfl⟩

/-- The next one does not lie behind o, or is not ahead of the best one: it is passed over. -/
theorem BestF.skip {o l : List Rc} {k : Nat} {f : Bool} {b : Rc} (h : BestF o l k f b) (hn : ¬ ∀ x ∈ o, ltF x (l.getD k rz)) : BestF o l (k + 1) f b := by
  cases f with
  | false =>
    intro j hj
    by_cases e : j = k
    · subst e; exact hn
    · exact h j (by omega)
  | true =>
    refine ⟨h.1, h.2.1, fun j hj hc => ?_⟩
    by_cases e : j = k
    · subst e; exact absurd hc hn
    · exact h.2.2 j (by omega) hc

theorem BestF.pass {o l : List Rc} {k : Nat} {b : Rc} (h : BestF o l k true b) (hn : ¬ ltF (l.getD k rz) b) : BestF o l (k + 1) true b := by
  refine ⟨h.1, h.2.1, fun j hj hc => ?_⟩
  by_cases e : j = k
  · subst e; exact hn
  · exact h.2.2 j (by omega) hc

theorem BestF.take {o l : List Rc} {k : Nat} {f : Bool} {b : Rc} (h : BestF o l k f b) (hk : k < l.length) (hc : ∀ x ∈ o, ltF x (l.getD k rz)) (hf : f = true → ltF (l.getD k rz) b) : BestF o l (k + 1) true (l.getD k rz) := by
  refine ⟨getD_in hk, hc, fun j hj hcj => ?_⟩
  by_cases e : j = k
  · subst e; exact ltF_irr _
  · cases f with
    | false => exact absurd hcj (h j (by omega))
    | true => exact fun k2 => h.2.2 j (by omega) hcj (ltF_tr k2 (hf rfl))

theorem BestF.none {o l : List Rc} {b : Rc} (h : BestF o l l.length false b) (ho : OutF o l) : SetF o l := ho.set fun y hy => by
  obtain ⟨j, hj, e⟩ := in_getD hy
  rw [← e]; exact h j hj
theorem BestF.some {o l : List Rc} {b : Rc} (h : BestF o l l.length true b) (ho : OutF o l) : OutF (o ++ [b]) l := ho.more h.1 h.2.1 fun y hy hc => by
  obtain ⟨j, hj, e⟩ := in_getD hy
  rw [← e] at hc ⊢; exact h.2.2 j hj hc

end Go.Proofs.Ytglgifhpacmhiaa
