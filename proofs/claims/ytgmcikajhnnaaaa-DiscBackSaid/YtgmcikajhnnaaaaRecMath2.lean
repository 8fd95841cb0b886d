/- Timelines in plain words: totals, the kind of a minute, the part that lies in a span. Conditions: none beyond each lemma's own premises. -/
import Derived.Test.YtgmcikajhnnaaaaRecMath
import Derived.Test.YtgmcikajhnnaaaaIvalTwo
namespace Go.Proofs.Ytgmcikajhnnaaaa

/-! ### Totals -/

theorem count_more {l : List Rc} {k : Nat} {x y z K : Int} (h : k < l.length) (hr : l.getD k rz = (x, y, z)) : (kindsV (l.take (k + 1))).count K = (kindsV (l.take k)).count K + (if x = K then (z - y).toNat else 0) := by
  rw [kinds_more h hr, List.count_append, List.count_replicate]
  by_cases e : x = K <;> simp [e]

theorem count_le (l : List Rc) (k : Nat) (K : Int) {e : Int} (h : Tl e l) : (kindsV (l.take k)).count K ≤ 40320 :=
  Nat.le_trans List.count_le_length (Nat.le_trans (kinds_take l k) h.short)

theorem count_all {ks : List Int} (h : ∀ x ∈ ks, 0 ≤ x ∧ x < 4) : ks.count 0 + ks.count 1 + ks.count 2 + ks.count 3 = ks.length := by
  induction ks with
  | nil => rfl
  | cons x ks ih =>
    have h1 := ih fun y hy => h y (List.mem_cons_of_mem _ hy)
    have h2 := h x List.mem_cons_self
    have h3 : x = 0 ∨ x = 1 ∨ x = 2 ∨ x = 3 := by omega
    rcases h3 with rfl | rfl | rfl | rfl <;> simp <;> omega

theorem count_step {ks : List Int} {k : Nat} {x K : Int} (h : ks[k]? = some x) : (ks.take (k + 1)).count K = (ks.take k).count K + (if x = K then 1 else 0) := by
  rw [List.take_add_one, h, List.count_append]
  by_cases e : x = K
  · subst e; simp
  · rw [if_neg e]; simp [e]

/-! ### The kind of a minute -/

def kindAtV (l : List Rc) (m : Int) : Int × Bool := if (checkV l).2 = 0 ∧ beg l ≤ m ∧ m < beg l + ((kindsV l).length : Int) then ((kindsV l).getD (m - beg l).toNat 0, true) else (0, false)

theorem kind_in {l : List Rc} : ∀ {e m x y z : Int} {j : Nat}, Tl e l → j < l.length → l.getD j rz = (x, y, z) → y ≤ m → m < z → e ≤ m ∧ m < e + ((kindsV l).length : Int) ∧ (kindsV l)[(m - e).toNat]? = some x := by
  induction l with
  | nil => intro e m x y z j _ hj; cases hj
  | cons r l ih =>
    intro e m x y z j ht hj hr h1 h2
    obtain ⟨⟨h3, h4⟩, h5, h6⟩ := ht
    have hl : (List.replicate (r.2.2 - r.2.1).toNat r.1).length = (r.2.2 - r.2.1).toNat := List.length_replicate
    cases j with
    | zero =>
      have e0 : r.1 = x := by simp at hr; rw [hr]
      have e1 : r.2.1 = y := by simp at hr; rw [hr]
      have e2 : r.2.2 = z := by simp at hr; rw [hr]
      refine ⟨by omega, by rw [kinds_cons, List.length_append, hl]; omega, ?_⟩
      rw [kinds_cons, List.getElem?_append_left (by rw [hl]; omega), List.getElem?_replicate, if_pos (by omega), e0]
    | succ j =>
      have := ih h6 (by simpa using hj) (by simpa using hr) h1 h2
      refine ⟨by omega, by rw [kinds_cons, List.length_append, hl]; omega, ?_⟩
      rw [kinds_cons, List.getElem?_append_right (by rw [hl]; omega), hl]
      have e1 : (m - e).toNat - (r.2.2 - r.2.1).toNat = (m - r.2.2).toNat := by omega
      rw [e1]
      exact this.2.2

theorem kind_out {l : List Rc} : ∀ {e m : Int}, Tl e l → (∀ j, j < l.length → ¬ ((l.getD j rz).2.1 ≤ m ∧ m < (l.getD j rz).2.2)) → ¬ (e ≤ m ∧ m < e + ((kindsV l).length : Int)) := by
  induction l with
  | nil => intro e m _ _ h; simp [kindsV] at h; omega
  | cons r l ih =>
    intro e m ht hn h
    obtain ⟨⟨h3, h4⟩, h5, h6⟩ := ht
    have h0 := hn 0 (by simp)
    simp at h0
    have hl : (List.replicate (r.2.2 - r.2.1).toNat r.1).length = (r.2.2 - r.2.1).toNat := List.length_replicate
    rw [kinds_cons, List.length_append, hl] at h
    exact ih h6 (fun j hj => by have := hn (j + 1) (by simpa using hj); simpa using this) (by omega)

theorem kind_hit {l : List Rc} {m x y z : Int} {j : Nat} (hc : (checkV l).2 = 0) (hj : j < l.length) (hr : l.getD j rz = (x, y, z)) (h1 : y ≤ m) (h2 : m < z) : kindAtV l m = (x, true) := by
  have h := kind_in (check_tl hc) hj hr h1 h2
  unfold kindAtV
  rw [if_pos ⟨hc, h.1, h.2.1⟩, List.getD_eq_getElem?_getD, h.2.2]
  rfl

theorem kind_miss {l : List Rc} {m : Int} (hc : (checkV l).2 = 0) (hn : ∀ j, j < l.length → ¬ ((l.getD j rz).2.1 ≤ m ∧ m < (l.getD j rz).2.2)) : kindAtV l m = (0, false) := by
  unfold kindAtV
  rw [if_neg (fun h => kind_out (check_tl hc) hn h.2)]

theorem kind_bad {l : List Rc} {m : Int} (hc : (checkV l).2 ≠ 0) : kindAtV l m = (0, false) := by
  unfold kindAtV
  rw [if_neg (fun h => hc h.1)]

/-! ### The part in a span -/

def withinV (a b : Int) (l : List Rc) : List Rc := l.filterMap fun r => if up2 r.2.1 a < lo2 r.2.2 b then some (r.1, up2 r.2.1 a, lo2 r.2.2 b) else none

theorem within_cons (a b : Int) (r : Rc) (l : List Rc) : withinV a b (r :: l) = (if up2 r.2.1 a < lo2 r.2.2 b then [(r.1, up2 r.2.1 a, lo2 r.2.2 b)] else []) ++ withinV a b l := by
  unfold withinV
  rw [List.filterMap_cons]
  by_cases h : up2 r.2.1 a < lo2 r.2.2 b
  · rw [if_pos h, if_pos h]; rfl
  · rw [if_neg h, if_neg h]; rfl

theorem within_more {a b : Int} {l : List Rc} {k : Nat} {x y z : Int} (h : k < l.length) (hr : l.getD k rz = (x, y, z)) :
    withinV a b (l.take (k + 1)) = withinV a b (l.take k) ++ (if up2 y a < lo2 z b then [(x, up2 y a, lo2 z b)] else []) := by
  have e : l[k]? = some (x, y, z) := by
    rw [List.getElem?_eq_getElem h]
    rw [List.getD_eq_getElem?_getD, List.getElem?_eq_getElem h] at hr
    simpa using hr
  rw [List.take_add_one, e]
  unfold withinV
  rw [List.filterMap_append]
  congr 1
  by_cases h : up2 y a < lo2 z b <;> simp [h]

theorem within_len (a b : Int) (l : List Rc) : (withinV a b l).length ≤ l.length := List.length_filterMap_le _ _

theorem up2_is (a b : Int) : (b ≤ a ∧ up2 a b = a) ∨ (a < b ∧ up2 a b = b) := by
  unfold up2; split <;> omega
theorem lo2_is (a b : Int) : (a ≤ b ∧ lo2 a b = a) ∨ (b < a ∧ lo2 a b = b) := by
  unfold lo2; split <;> omega

theorem within_tl1 {a b : Int} {l : List Rc} : ∀ {e : Int}, Tl e l → a ≤ e → (e < b → Tl e (withinV a b l)) ∧ (b ≤ e → withinV a b l = []) := by
  induction l with
  | nil => intro e _ _; exact ⟨fun _ => trivial, fun _ => rfl⟩
  | cons r l ih =>
    intro e ht hae
    obtain ⟨⟨h1, h2⟩, h3, h4⟩ := ht
    have hu := up2_is r.2.1 a
    have hv := lo2_is r.2.2 b
    have I := ih h4 (by omega)
    rw [within_cons]
    refine ⟨fun hb => ?_, fun hb => ?_⟩
    · rw [if_pos (by omega)]
      refine ⟨⟨h1, by show 0 ≤ up2 _ _ ∧ up2 _ _ < lo2 _ _ ∧ lo2 _ _ ≤ 40320; omega⟩, by show up2 _ _ = e; omega, ?_⟩
      show Tl (lo2 r.2.2 b) (withinV a b l)
      by_cases hc : r.2.2 < b
      · rw [show lo2 r.2.2 b = r.2.2 by omega]; exact I.1 hc
      · rw [I.2 (by omega)]; trivial
    · rw [if_neg (by omega), I.2 (by omega)]; rfl

theorem within_tl {a b : Int} (hab : a < b) {l : List Rc} : ∀ {e : Int}, Tl e l → Tl (beg (withinV a b l)) (withinV a b l) := by
  induction l with
  | nil => intro e _; trivial
  | cons r l ih =>
    intro e ht
    by_cases hae : a ≤ e
    · have h := within_tl1 (a := a) (b := b) ht hae
      by_cases hb : e < b
      · exact (h.1 hb).from_
      · rw [h.2 (by omega)]; trivial
    · obtain ⟨⟨h1, h2⟩, h3, h4⟩ := ht
      have hu := up2_is r.2.1 a
      have hv := lo2_is r.2.2 b
      rw [within_cons]
      by_cases hc : up2 r.2.1 a < lo2 r.2.2 b
      · rw [if_pos hc]
        refine ⟨⟨h1, by show 0 ≤ up2 _ _ ∧ up2 _ _ < lo2 _ _ ∧ lo2 _ _ ≤ 40320; omega⟩, rfl, ?_⟩
        show Tl (lo2 r.2.2 b) (withinV a b l)
        have I := within_tl1 (a := a) (b := b) h4 (by omega)
        by_cases hd : r.2.2 < b
        · rw [show lo2 r.2.2 b = r.2.2 by omega]; exact I.1 hd
        · rw [I.2 (by omega)]; trivial
      · rw [if_neg hc]; exact ih h4

/-- Minute by minute: where the part begins, its kinds, the minute that is next. -/
def cutStep (a b : Int) (s : Int × List Int × Int) (k : Int) : Int × List Int × Int := if a ≤ s.2.2 ∧ s.2.2 < b then ((if s.2.1 = [] then s.2.2 else s.1), s.2.1 ++ [k], s.2.2 + 1) else (s.1, s.2.1, s.2.2 + 1)
def cutS (a b : Int) (s : Int × List Int × Int) (ks : List Int) : Int × List Int × Int := ks.foldl (cutStep a b) s

theorem cutS_more {a b at_ : Int} {ks : List Int} {k : Nat} {x : Int} (h : ks[k]? = some x) : cutS a b (0, [], at_) (ks.take (k + 1)) = cutStep a b (cutS a b (0, [], at_) (ks.take k)) x := by
  rw [List.take_add_one, h]
  unfold cutS
  rw [List.foldl_append]
  rfl

theorem cut_rep (a b f y x : Int) (out : List Int) : ∀ n : Nat, cutS a b (f, out, y) (List.replicate n x) =
    if up2 y a < lo2 (y + n) b then ((if out = [] then up2 y a else f), out ++ List.replicate (lo2 (y + n) b - up2 y a).toNat x, y + n) else (f, out, y + n)
  | 0 => by
    have hu := up2_is y a
    have hv := lo2_is (y + (0 : Nat)) b
    rw [if_neg (by omega)]
    simp [cutS]
  | n + 1 => by
    have ih := cut_rep a b f y x out n
    have hu := up2_is y a
    have hv := lo2_is (y + (n : Int)) b
    have hv1 := lo2_is (y + ((n + 1 : Nat) : Int)) b
    have en : y + (n : Int) + 1 = y + ((n + 1 : Nat) : Int) := by omega
    rw [List.replicate_succ']
    unfold cutS at ih ⊢
    rw [List.foldl_append, ih]
    simp only [List.foldl_cons, List.foldl_nil]
    by_cases hin : a ≤ y + (n : Int) ∧ y + (n : Int) < b
    · rw [if_pos (show up2 y a < lo2 (y + ((n + 1 : Nat) : Int)) b by omega)]
      by_cases hp : up2 y a < lo2 (y + (n : Int)) b
      · rw [if_pos hp]
        unfold cutStep
        simp only
        rw [if_pos hin, en]
        have ho : ¬ (out ++ List.replicate (lo2 (y + (n : Int)) b - up2 y a).toNat x = []) := by
          intro h
          have := congrArg List.length h
          simp at this
          omega
        have eq : (lo2 (y + ((n + 1 : Nat) : Int)) b - up2 y a).toNat = (lo2 (y + (n : Int)) b - up2 y a).toNat + 1 := by omega
        rw [if_neg ho, eq, List.replicate_succ', List.append_assoc]
      · rw [if_neg hp]
        unfold cutStep
        simp only
        rw [if_pos hin, en]
        have e1 : up2 y a = y + (n : Int) := by omega
        have eq : (lo2 (y + ((n + 1 : Nat) : Int)) b - (y + (n : Int))).toNat = 1 := by omega
        rw [e1, eq]
        rfl
    · have hs : (if up2 y a < lo2 (y + ((n + 1 : Nat) : Int)) b then ((if out = [] then up2 y a else f), out ++ List.replicate (lo2 (y + ((n + 1 : Nat) : Int)) b - up2 y a).toNat x, y + ((n + 1 : Nat) : Int)) else (f, out, y + ((n + 1 : Nat) : Int)))
          = (if up2 y a < lo2 (y + (n : Int)) b then ((if out = [] then up2 y a else f), out ++ List.replicate (lo2 (y + (n : Int)) b - up2 y a).toNat x, y + ((n + 1 : Nat) : Int)) else (f, out, y + ((n + 1 : Nat) : Int))) := by
        by_cases hb : b ≤ y + (n : Int)
        · rw [show lo2 (y + ((n + 1 : Nat) : Int)) b = lo2 (y + (n : Int)) b by omega]
        · rw [if_neg (by omega), if_neg (by omega)]
      rw [hs]
      by_cases hp : up2 y a < lo2 (y + (n : Int)) b
      · rw [if_pos hp, if_pos hp]; unfold cutStep; simp only; rw [if_neg hin, en]
      · rw [if_neg hp, if_neg hp]; unfold cutStep; simp only; rw [if_neg hin, en]

theorem cut_all {a b : Int} {l : List Rc} : ∀ {e : Int} (f : Int) (out : List Int), Tl e l →
    (cutS a b (f, out, e) (kindsV l)).1 = (if out = [] ∧ withinV a b l ≠ [] then beg (withinV a b l) else f) ∧ (cutS a b (f, out, e) (kindsV l)).2.1 = out ++ kindsV (withinV a b l) := by
  induction l with
  | nil => intro e f out _; simp [kindsV, withinV, cutS]
  | cons r l ih =>
    intro e f out ht
    obtain ⟨⟨h1, h2⟩, h3, h4⟩ := ht
    subst h3
    have hc := cut_rep a b f r.2.1 r.1 out (r.2.2 - r.2.1).toNat
    have e1 : r.2.1 + ((r.2.2 - r.2.1).toNat : Int) = r.2.2 := by omega
    rw [e1] at hc
    rw [kinds_cons]
    have hs : cutS a b (f, out, r.2.1) (List.replicate (r.2.2 - r.2.1).toNat r.1 ++ kindsV l) = cutS a b (cutS a b (f, out, r.2.1) (List.replicate (r.2.2 - r.2.1).toNat r.1)) (kindsV l) := by
      unfold cutS; rw [List.foldl_append]
    rw [hs, hc, within_cons]
    by_cases hp : up2 r.2.1 a < lo2 r.2.2 b
    · rw [if_pos hp, if_pos hp]
      have I := ih (if out = [] then up2 r.2.1 a else f) (out ++ List.replicate (lo2 r.2.2 b - up2 r.2.1 a).toNat r.1) h4
      have ho : ¬ (out ++ List.replicate (lo2 r.2.2 b - up2 r.2.1 a).toNat r.1 = []) := by
        intro h
        have := congrArg List.length h
        simp at this
        omega
      rw [if_neg (fun c : _ ∧ _ => ho c.1)] at I
      rw [I.1, I.2]
      refine ⟨?_, ?_⟩
      · by_cases he : out = []
        · rw [if_pos he, if_pos ⟨he, by simp⟩]; rfl
        · rw [if_neg he, if_neg (fun c => he c.1)]
      · rw [List.append_assoc]; rfl
    · rw [if_neg hp, if_neg hp]
      exact ih f out h4

theorem cut_is {a b : Int} {l : List Rc} {e : Int} (h : Tl e l) : (cutS a b (0, [], beg l) (kindsV l)).1 = beg (withinV a b l) ∧ (cutS a b (0, [], beg l) (kindsV l)).2.1 = kindsV (withinV a b l) := by
  have I := cut_all (a := a) (b := b) 0 [] h.from_
  refine ⟨?_, by simpa using I.2⟩
  rw [I.1]
  by_cases hw : withinV a b l = []
  · rw [hw]; simp [beg]
  · rw [if_pos ⟨rfl, hw⟩]

theorem cut_next {a b : Int} : ∀ (ks : List Int) (s : Int × List Int × Int), (cutS a b s ks).2.2 = s.2.2 + (ks.length : Int) ∧ (cutS a b s ks).2.1.length ≤ s.2.1.length + ks.length := by
  intro ks
  induction ks with
  | nil => intro s; simp [cutS]
  | cons k ks ih =>
    intro s
    have := ih (cutStep a b s k)
    have e : cutS a b s (k :: ks) = cutS a b (cutStep a b s k) ks := rfl
    rw [e, this.1]
    have h2 := this.2
    refine ⟨?_, ?_⟩
    · unfold cutStep; split <;> simp <;> omega
    · refine Nat.le_trans h2 ?_
      unfold cutStep; split <;> simp <;> omega

/-- What Cut tells. -/
def cutV (a b : Int) (l : List Rc) : List Rc × Int := if (checkV l).2 = 0 then (if a < b then (normV (withinV a b l), 0) else ([], 3)) else ([], (checkV l).2)

def spanTV (l : List Rc) : Int × Int × Bool := if (checkV l).2 = 0 ∧ l ≠ [] then (beg l, fin l, true) else (0, 0, false)

end Go.Proofs.Ytgmcikajhnnaaaa
