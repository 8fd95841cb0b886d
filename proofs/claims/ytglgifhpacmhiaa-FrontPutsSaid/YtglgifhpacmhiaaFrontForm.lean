/- All that is put at one spot, one behind the other, in plain words. Conditions: none. -/
import Derived.Test.YtglgifhpacmhiaaRows
import Derived.Test.YtglgifhpacmhiaaBase
import Derived.Test.YtglgifhpacmhiaaRecMath
import Derived.Test.YtglgifhpacmhiaaBelowMath
import Derived.Test.YtglgifhpacmhiaaFrontMath
namespace Go.Proofs.Ytglgifhpacmhiaa
open Go.RowKit

/-- What a front has where the meters of l were put at s. -/
noncomputable def ptsF (x : Nat → Int) (s : Rc) (l : List Mt) : List Ad := l.foldl (fun y m => putF x y s m) []
theorem ptsF_nil (x : Nat → Int) (s : Rc) : ptsF x s [] = [] := rfl
theorem ptsF_snoc (x : Nat → Int) (s : Rc) (l : List Mt) (m : Mt) : ptsF x s (l ++ [m]) = putF x (ptsF x s l) s m := by simp [ptsF, List.foldl_append]
theorem ptsF_take {x : Nat → Int} {s : Rc} {l : List Mt} {k : Nat} {m : Mt} (h : l[k]? = some m) : ptsF x s (l.take (k + 1)) = putF x (ptsF x s (l.take k)) s m := by
  rw [List.take_add_one, h]
  exact ptsF_snoc x s _ m
theorem keepF_put {x : Nat → Int} {s : Rc} {l : List Mt} {y : List Ad} {m : Mt} (h : KeepF x l (allF y s)) : KeepF x (l ++ [m]) (allF (putF x y s m) s) := by
  cases hh : hitF x (allF y s) m with
  | true => rw [putF_hit hh]; exact h.hit hh
  | false => rw [allF_put_same hh]; exact h.put hh
theorem at_put {x : Nat → Int} {s : Rc} {y : List Ad} {m : Mt} (h : ∀ a ∈ y, a.1 = s) : ∀ a ∈ putF x y s m, a.1 = s := by
  intro a ha
  unfold putF at ha
  split at ha
  · exact h a ha
  · rcases List.mem_append.1 ha with h1 | h1
    · exact h a (List.mem_filter.1 h1).1
    · rw [List.mem_singleton] at h1; subst h1; rfl
theorem ptsF_snoc_ind {x : Nat → Int} {s : Rc} (l : List Mt) : KeepF x l (allF (ptsF x s l) s) ∧ (∀ a ∈ ptsF x s l, a.1 = s) ∧ (ptsF x s l).length ≤ l.length := by
  have key : ∀ (r l : List Mt) (y : List Ad), KeepF x l (allF y s) → (∀ a ∈ y, a.1 = s) → y.length ≤ l.length → KeepF x (l ++ r) (allF (r.foldl (fun y m => putF x y s m) y) s) ∧ (∀ a ∈ r.foldl (fun y m => putF x y s m) y, a.1 = s) ∧ (r.foldl (fun y m => putF x y s m) y).length ≤ (l ++ r).length := by
    intro r
    induction r with
    | nil => intro l y h1 h2 h3; rw [List.append_nil]; exact ⟨h1, h2, h3⟩
    | cons m r ih =>
      intro l y h1 h2 h3
      have := ih (l ++ [m]) (putF x y s m) (keepF_put h1) (at_put h2) (by have := putF_le x y s m; rw [List.length_append, List.length_singleton]; omega)
      rw [List.append_assoc, List.singleton_append] at this
      exact this
  have := key l [] [] (KeepF.nil x) (fun _ h => by cases h) (Nat.le_refl _)
  simpa [ptsF] using this
theorem ptsF_le (x : Nat → Int) (s : Rc) (l : List Mt) : (ptsF x s l).length ≤ l.length := (ptsF_snoc_ind l).2.2
theorem ptsF_len (x : Nat → Int) (s : Rc) (l : List Mt) : (ptsF x s l).length = (allF (ptsF x s l) s).length := by
  rw [allF_len, List.filter_eq_self.2]
  intro a ha
  exact decide_eq_true ((ptsF_snoc_ind l).2.1 a ha)
theorem ptsF_keep (x : Nat → Int) (s : Rc) (l : List Mt) : KeepF x l (allF (ptsF x s l) s) := (ptsF_snoc_ind l).1

theorem hitF_take {x : Nat → Int} {l : List Mt} {k : Nat} {o m : Mt} (h : l[k]? = some o) : hitF x (l.take (k + 1)) m = (hitF x (l.take k) m || tf (o = m ∨ Un x o m)) := by
  unfold hitF
  rw [List.take_add_one, h, List.any_append]
  congr 1
  simp
theorem keep_hit {x : Nat → Int} {l k : List Mt} (h : KeepF x l k) {m : Mt} (hm : m ∈ l) : hitF x k m = true := by
  obtain ⟨n, hn, e⟩ := h.all m hm
  exact List.any_eq_true.2 ⟨n, hn, tf_yes e⟩
theorem tf_or {x : Nat → Int} {o m : Mt} (h : tf (m = o) = false) : tf (o = m ∨ Un x o m) = tf (Un x o m) := by
  rw [Bool.eq_iff_iff, tf_iff, tf_iff]
  refine ⟨fun e => e.elim (fun e => ?_) id, .inr⟩
  rw [tf_yes e.symm] at h
  cases h
theorem tf_or_yes {x : Nat → Int} {o m : Mt} (h : tf (m = o) = true) : tf (o = m ∨ Un x o m) = true := tf_yes (.inl (tf_iff.1 h).symm)

end Go.Proofs.Ytglgifhpacmhiaa
