/- Plain facts, several texts in one: IvalTwo, RecMath2, ViewMath. Conditions: none beyond each lemma's own premises. -/
import Derived.Test.YtogcpoaclkomjaaDoorRows
import Derived.Test.YtogcpoaclkomjaaDoorZ1
import Derived.Test.YtogcpoaclkomjaaDoorIvalLeaf
import Derived.WalkKit
import Derived.WalkSpells
import Derived.WalkSmall
import Derived.Below
import Derived.Lib.Hide
import Derived.Outline
import Derived.Deep.RegionWith

/- What Both, Hull and Meets of layer 2 return, for any two spans. Conditions: none. -/
namespace Go.Proofs.YtogcpoaclkomjaaDoor
open Go.RowKit

/-- The greater and the lesser of two. -/
def up2 (a b : Int) : Int := if b ≤ a then a else b
def lo2 (a b : Int) : Int := if a ≤ b then a else b

theorem up2_l {a b : Int} (h : b ≤ a) : up2 a b = a := if_pos h
theorem up2_r {a b : Int} (h : ¬ b ≤ a) : up2 a b = b := if_neg h
theorem lo2_l {a b : Int} (h : a ≤ b) : lo2 a b = a := if_pos h
theorem lo2_r {a b : Int} (h : ¬ a ≤ b) : lo2 a b = b := if_neg h

/-- What Both and Hull tell. -/
def bothv (a0 a1 b0 b1 : Int) : Int × Int × Bool := if up2 a0 b0 < lo2 a1 b1 then (up2 a0 b0, lo2 a1 b1, true) else (0, 0, false)
def hullv (a0 a1 b0 b1 : Int) : Int × Int × Bool := if a0 < a1 ∧ b0 < b1 then (lo2 a0 b0, up2 a1 b1, true) else (0, 0, false)

end Go.Proofs.YtogcpoaclkomjaaDoor

/- Timelines in plain words: totals, the kind of a minute, the part that lies in a span. Conditions: none beyond each lemma's own premises. -/
namespace Go.Proofs.YtogcpoaclkomjaaDoor

/-! ### Totals -/

theorem count_more {l : List Rc} {k : Nat} {x y z K : Int} (h : k < l.length) (hr : l.getD k rz = (x, y, z)) : (kindsV (l.take (k + 1))).count K = (kindsV (l.take k)).count K + (if x = K then (z - y).toNat else 0) := by
  rw [kinds_more h hr, List.count_append, List.count_replicate]
  by_cases e : x = K <;> simp [e]

theorem count_le (l : List Rc) (k : Nat) (K : Int) {e : Int} (h : Tl e l) : (kindsV (l.take k)).count K ≤ 40320 :=
  Nat.le_trans List.count_le_length (Nat.le_trans (kinds_take l k) h.short)

theorem count_all {ks : List Int} (h : ∀ x ∈ ks, 0 ≤ x ∧ x < 4) : ks.count 0 + ks.count 1 + ks.count 2 + ks.count 3 = ks.length := by
  induction ks with
  | nil => rfl
  | cons x ks ih =>
    have h1 := ih fun y hy => h y (List.mem_cons_of_mem _ hy)
    have h2 := h x List.mem_cons_self
    have h3 : x = 0 ∨ x = 1 ∨ x = 2 ∨ x = 3 := by omega
    rcases h3 with rfl | rfl | rfl | rfl <;> simp <;> omega

theorem count_step {ks : List Int} {k : Nat} {x K : Int} (h : ks[k]? = some x) : (ks.take (k + 1)).count K = (ks.take k).count K + (if x = K then 1 else 0) := by
  rw [List.take_add_one, h, List.count_append]
  by_cases e : x = K
  · subst e; simp
  · rw [if_neg e]; simp [e]

/-! ### The kind of a minute -/

def kindAtV (l : List Rc) (m : Int) : Int × Bool := if (checkV l).2 = 0 ∧ beg l ≤ m ∧ m < beg l + ((kindsV l).length : Int) then ((kindsV l).getD (m - beg l).toNat 0, true) else (0, false)

theorem kind_in {l : List Rc} : ∀ {e m x y z : Int} {j : Nat}, Tl e l → j < l.length → l.getD j rz = (x, y, z) → y ≤ m → m < z → e ≤ m ∧ m < e + ((kindsV l).length : Int) ∧ (kindsV l)[(m - e).toNat]? = some x := by
  induction l with
  | nil => intro e m x y z j _ hj; cases hj
  | cons r l ih =>
    intro e m x y z j ht hj hr h1 h2
    obtain ⟨⟨h3, h4⟩, h5, h6⟩ := ht
    have hl : (List.replicate (r.2.2 - r.2.1).toNat r.1).length = (r.2.2 - r.2.1).toNat := List.length_replicate
    cases j with
    | zero =>
      have e0 : r.1 = x := by simp at hr; rw [hr]
      have e1 : r.2.1 = y := by simp at hr; rw [hr]
      have e2 : r.2.2 = z := by simp at hr; rw [hr]
      refine ⟨by omega, by rw [kinds_cons, List.length_append, hl]; omega, ?_⟩
      rw [kinds_cons, List.getElem?_append_left (by rw [hl]; omega), List.getElem?_replicate, if_pos (by omega), e0]
    | succ j =>
      have := ih h6 (by simpa using hj) (by simpa using hr) h1 h2
      refine ⟨by omega, by rw [kinds_cons, List.length_append, hl]; omega, ?_⟩
      rw [kinds_cons, List.getElem?_append_right (by rw [hl]; omega), hl]
      have e1 : (m - e).toNat - (r.2.2 - r.2.1).toNat = (m - r.2.2).toNat := by omega
      rw [e1]
      exact this.2.2

theorem kind_out {l : List Rc} : ∀ {e m : Int}, Tl e l → (∀ j, j < l.length → ¬ ((l.getD j rz).2.1 ≤ m ∧ m < (l.getD j rz).2.2)) → ¬ (e ≤ m ∧ m < e + ((kindsV l).length : Int)) := by
  induction l with
  | nil => intro e m _ _ h; simp [kindsV] at h; omega
  | cons r l ih =>
    intro e m ht hn h
    obtain ⟨⟨h3, h4⟩, h5, h6⟩ := ht
    have h0 := hn 0 (by simp)
    simp at h0
    have hl : (List.replicate (r.2.2 - r.2.1).toNat r.1).length = (r.2.2 - r.2.1).toNat := List.length_replicate
    rw [kinds_cons, List.length_append, hl] at h
    exact ih h6 (fun j hj => by have := hn (j + 1) (by simpa using hj); simpa using this) (by omega)

theorem kind_hit {l : List Rc} {m x y z : Int} {j : Nat} (hc : (checkV l).2 = 0) (hj : j < l.length) (hr : l.getD j rz = (x, y, z)) (h1 : y ≤ m) (h2 : m < z) : kindAtV l m = (x, true) := by
  have h := kind_in (check_tl hc) hj hr h1 h2
  unfold kindAtV
  rw [if_pos ⟨hc, h.1, h.2.1⟩, List.getD_eq_getElem?_getD, h.2.2]
  rfl

theorem kind_miss {l : List Rc} {m : Int} (hc : (checkV l).2 = 0) (hn : ∀ j, j < l.length → ¬ ((l.getD j rz).2.1 ≤ m ∧ m < (l.getD j rz).2.2)) : kindAtV l m = (0, false) := by
  unfold kindAtV
  rw [if_neg (fun h => kind_out (check_tl hc) hn h.2)]

theorem kind_bad {l : List Rc} {m : Int} (hc : (checkV l).2 ≠ 0) : kindAtV l m = (0, false) := by
  unfold kindAtV
  rw [if_neg (fun h => hc h.1)]

/-! ### The part in a span -/

def withinV (a b : Int) (l : List Rc) : List Rc := l.filterMap fun r => if up2 r.2.1 a < lo2 r.2.2 b then some (r.1, up2 r.2.1 a, lo2 r.2.2 b) else none

theorem within_cons (a b : Int) (r : Rc) (l : List Rc) : withinV a b (r :: l) = (if up2 r.2.1 a < lo2 r.2.2 b then [(r.1, up2 r.2.1 a, lo2 r.2.2 b)] else []) ++ withinV a b l := by
  unfold withinV
  rw [List.filterMap_cons]
  by_cases h : up2 r.2.1 a < lo2 r.2.2 b
  · rw [if_pos h, if_pos h]; rfl
  · rw [if_neg h, if_neg h]; rfl

theorem within_more {a b : Int} {l : List Rc} {k : Nat} {x y z : Int} (h : k < l.length) (hr : l.getD k rz = (x, y, z)) :
    withinV a b (l.take (k + 1)) = withinV a b (l.take k) ++ (if up2 y a < lo2 z b then [(x, up2 y a, lo2 z b)] else []) := by
  have e : l[k]? = some (x, y, z) := by
    rw [List.getElem?_eq_getElem h]
    rw [List.getD_eq_getElem?_getD, List.getElem?_eq_getElem h] at hr
    simpa using hr
  rw [List.take_add_one, e]
  unfold withinV
  rw [List.filterMap_append]
  congr 1
  by_cases h : up2 y a < lo2 z b <;> simp [h]

theorem within_len (a b : Int) (l : List Rc) : (withinV a b l).length ≤ l.length := List.length_filterMap_le _ _

theorem up2_is (a b : Int) : (b ≤ a ∧ up2 a b = a) ∨ (a < b ∧ up2 a b = b) := by
  unfold up2; split <;> omega
theorem lo2_is (a b : Int) : (a ≤ b ∧ lo2 a b = a) ∨ (b < a ∧ lo2 a b = b) := by
  unfold lo2; split <;> omega

theorem within_tl1 {a b : Int} {l : List Rc} : ∀ {e : Int}, Tl e l → a ≤ e → (e < b → Tl e (withinV a b l)) ∧ (b ≤ e → withinV a b l = []) := by
  induction l with
  | nil => intro e _ _; exact ⟨fun _ => trivial, fun _ => rfl⟩
  | cons r l ih =>
    intro e ht hae
    obtain ⟨⟨h1, h2⟩, h3, h4⟩ := ht
    have hu := up2_is r.2.1 a
    have hv := lo2_is r.2.2 b
    have I := ih h4 (by omega)
    rw [within_cons]
    refine ⟨fun hb => ?_, fun hb => ?_⟩
    · rw [if_pos (by omega)]
      refine ⟨⟨h1, by show 0 ≤ up2 _ _ ∧ up2 _ _ < lo2 _ _ ∧ lo2 _ _ ≤ 40320; omega⟩, by show up2 _ _ = e; omega, ?_⟩
      show Tl (lo2 r.2.2 b) (withinV a b l)
      by_cases hc : r.2.2 < b
      · rw [show lo2 r.2.2 b = r.2.2 by omega]; exact I.1 hc
      · rw [I.2 (by omega)]; trivial
    · rw [if_neg (by omega), I.2 (by omega)]; rfl

theorem within_tl {a b : Int} (hab : a < b) {l : List Rc} : ∀ {e : Int}, Tl e l → Tl (beg (withinV a b l)) (withinV a b l) := by
  induction l with
  | nil => intro e _; trivial
  | cons r l ih =>
    intro e ht
    by_cases hae : a ≤ e
    · have h := within_tl1 (a := a) (b := b) ht hae
      by_cases hb : e < b
      · exact (h.1 hb).from_
      · rw [h.2 (by omega)]; trivial
    · obtain ⟨⟨h1, h2⟩, h3, h4⟩ := ht
      have hu := up2_is r.2.1 a
      have hv := lo2_is r.2.2 b
      rw [within_cons]
      by_cases hc : up2 r.2.1 a < lo2 r.2.2 b
      · rw [if_pos hc]
        refine ⟨⟨h1, by show 0 ≤ up2 _ _ ∧ up2 _ _ < lo2 _ _ ∧ lo2 _ _ ≤ 40320; omega⟩, rfl, ?_⟩
        show Tl (lo2 r.2.2 b) (withinV a b l)
        have I := within_tl1 (a := a) (b := b) h4 (by omega)
        by_cases hd : r.2.2 < b
        · rw [show lo2 r.2.2 b = r.2.2 by omega]; exact I.1 hd
        · rw [I.2 (by omega)]; trivial
      · rw [if_neg hc]; exact ih h4

/-- Minute by minute: where the part begins, its kinds, the minute that is next. -/
def cutStep (a b : Int) (s : Int × List Int × Int) (k : Int) : Int × List Int × Int := if a ≤ s.2.2 ∧ s.2.2 < b then ((if s.2.1 = [] then s.2.2 else s.1), s.2.1 ++ [k], s.2.2 + 1) else (s.1, s.2.1, s.2.2 + 1)
def cutS (a b : Int) (s : Int × List Int × Int) (ks : List Int) : Int × List Int × Int := ks.foldl (cutStep a b) s

theorem cutS_more {a b at_ : Int} {ks : List Int} {k : Nat} {x : Int} (h : ks[k]? = some x) : cutS a b (0, [], at_) (ks.take (k + 1)) = cutStep a b (cutS a b (0, [], at_) (ks.take k)) x := by
  rw [List.take_add_one, h]
  unfold cutS
  rw [List.foldl_append]
  rfl

theorem cut_rep (a b f y x : Int) (out : List Int) : ∀ n : Nat, cutS a b (f, out, y) (List.replicate n x) =
    if up2 y a < lo2 (y + n) b then ((if out = [] then up2 y a else f), out ++ List.replicate (lo2 (y + n) b - up2 y a).toNat x, y + n) else (f, out, y + n)
  | 0 => by
    have hu := up2_is y a
    have hv := lo2_is (y + (0 : Nat)) b
    rw [if_neg (by omega)]
    simp [cutS]
  | n + 1 => by
    have ih := cut_rep a b f y x out n
    have hu := up2_is y a
    have hv := lo2_is (y + (n : Int)) b
    have hv1 := lo2_is (y + ((n + 1 : Nat) : Int)) b
    have en : y + (n : Int) + 1 = y + ((n + 1 : Nat) : Int) := by omega
    rw [List.replicate_succ']
    unfold cutS at ih ⊢
    rw [List.foldl_append, ih]
    simp only [List.foldl_cons, List.foldl_nil]
    by_cases hin : a ≤ y + (n : Int) ∧ y + (n : Int) < b
    · rw [if_pos (show up2 y a < lo2 (y + ((n + 1 : Nat) : Int)) b by omega)]
      by_cases hp : up2 y a < lo2 (y + (n : Int)) b
      · rw [if_pos hp]
        unfold cutStep
        simp only
        rw [if_pos hin, en]
        have ho : ¬ (out ++ List.replicate (lo2 (y + (n : Int)) b - up2 y a).toNat x = []) := by
          intro h
          have := congrArg List.length h
          simp at this
          omega
        have eq : (lo2 (y + ((n + 1 : Nat) : Int)) b - up2 y a).toNat = (lo2 (y + (n : Int)) b - up2 y a).toNat + 1 := by omega
        rw [if_neg ho, eq, List.replicate_succ', List.append_assoc]
      · rw [if_neg hp]
        unfold cutStep
        simp only
        rw [if_pos hin, en]
        have e1 : up2 y a = y + (n : Int) := by omega
        have eq : (lo2 (y + ((n + 1 : Nat) : Int)) b - (y + (n : Int))).toNat = 1 := by omega
        rw [e1, eq]
        rfl
    · have hs : (if up2 y a < lo2 (y + ((n + 1 : Nat) : Int)) b then ((if out = [] then up2 y a else f), out ++ List.replicate (lo2 (y + ((n + 1 : Nat) : Int)) b - up2 y a).toNat x, y + ((n + 1 : Nat) : Int)) else (f, out, y + ((n + 1 : Nat) : Int)))
          = (if up2 y a < lo2 (y + (n : Int)) b then ((if out = [] then up2 y a else f), out ++ List.replicate (lo2 (y + (n : Int)) b - up2 y a).toNat x, y + ((n + 1 : Nat) : Int)) else (f, out, y + ((n + 1 : Nat) : Int))) := by
        by_cases hb : b ≤ y + (n : Int)
        · rw [show lo2 (y + ((n + 1 : Nat) : Int)) b = lo2 (y + (n : Int)) b by omega]
        · rw [if_neg (by omega), if_neg (by omega)]
      rw [hs]
      by_cases hp : up2 y a < lo2 (y + (n : Int)) b
      · rw [if_pos hp, if_pos hp]; unfold cutStep; simp only; rw [if_neg hin, en]
      · rw [if_neg hp, if_neg hp]; unfold cutStep; simp only; rw [if_neg hin, en]

theorem cut_all {a b : Int} {l : List Rc} : ∀ {e : Int} (f : Int) (out : List Int), Tl e l →
    (cutS a b (f, out, e) (kindsV l)).1 = (if out = [] ∧ withinV a b l ≠ [] then beg (withinV a b l) else f) ∧ (cutS a b (f, out, e) (kindsV l)).2.1 = out ++ kindsV (withinV a b l) := by
  induction l with
  | nil => intro e f out _; simp [kindsV, withinV, cutS]
  | cons r l ih =>
    intro e f out ht
    obtain ⟨⟨h1, h2⟩, h3, h4⟩ := ht
    subst h3
    have hc := cut_rep a b f r.2.1 r.1 out (r.2.2 - r.2.1).toNat
    have e1 : r.2.1 + ((r.2.2 - r.2.1).toNat : Int) = r.2.2 := by omega
    rw [e1] at hc
    rw [kinds_cons]
    have hs : cutS a b (f, out, r.2.1) (List.replicate (r.2.2 - r.2.1).toNat r.1 ++ kindsV l) = cutS a b (cutS a b (f, out, r.2.1) (List.replicate (r.2.2 - r.2.1).toNat r.1)) (kindsV l) := by
      unfold cutS; rw [List.foldl_append]
    rw [hs, hc, within_cons]
    by_cases hp : up2 r.2.1 a < lo2 r.2.2 b
    · rw [if_pos hp, if_pos hp]
      have I := ih (if out = [] then up2 r.2.1 a else f) (out ++ List.replicate (lo2 r.2.2 b - up2 r.2.1 a).toNat r.1) h4
      have ho : ¬ (out ++ List.replicate (lo2 r.2.2 b - up2 r.2.1 a).toNat r.1 = []) := by
        intro h
        have := congrArg List.length h
        simp at this
        omega
      rw [if_neg (fun c : _ ∧ _ => ho c.1)] at I
      rw [I.1, I.2]
      refine ⟨?_, ?_⟩
      · by_cases he : out = []
        · rw [if_pos he, if_pos ⟨he, by simp⟩]; rfl
        · rw [if_neg he, if_neg (fun c => he c.1)]
      · rw [List.append_assoc]; rfl
    · rw [if_neg hp, if_neg hp]
      exact ih f out h4

theorem cut_is {a b : Int} {l : List Rc} {e : Int} (h : Tl e l) : (cutS a b (0, [], beg l) (kindsV l)).1 = beg (withinV a b l) ∧ (cutS a b (0, [], beg l) (kindsV l)).2.1 = kindsV (withinV a b l) := by
  have I := cut_all (a := a) (b := b) 0 [] h.from_
  refine ⟨?_, by simpa using I.2⟩
  rw [I.1]
  by_cases hw : withinV a b l = []
  · rw [hw]; simp [beg]
  · rw [if_pos ⟨rfl, hw⟩]

theorem cut_next {a b : Int} : ∀ (ks : List Int) (s : Int × List Int × Int), (cutS a b s ks).2.2 = s.2.2 + (ks.length : Int) ∧ (cutS a b s ks).2.1.length ≤ s.2.1.length + ks.length := by
  intro ks
  induction ks with
  | nil => intro s; simp [cutS]
  | cons k ks ih =>
    intro s
    have := ih (cutStep a b s k)
    have e : cutS a b s (k :: ks) = cutS a b (cutStep a b s k) ks := rfl
    rw [e, this.1]
    have h2 := this.2
    refine ⟨?_, ?_⟩
    · unfold cutStep; split <;> simp <;> omega
    · refine Nat.le_trans h2 ?_
      unfold cutStep; split <;> simp <;> omega

/-- What Cut tells. -/
def cutV (a b : Int) (l : List Rc) : List Rc × Int := if (checkV l).2 = 0 then (if a < b then (normV (withinV a b l), 0) else ([], 3)) else ([], (checkV l).2)

def spanTV (l : List Rc) : Int × Int × Bool := if (checkV l).2 = 0 ∧ l ≠ [] then (beg l, fin l, true) else (0, 0, false)

end Go.Proofs.YtogcpoaclkomjaaDoor

/- Views in plain words: a letter for each kind, a timeline's minutes one by one, spells of a kind. Conditions: none beyond each lemma's own premises. -/
namespace Go.Proofs.YtogcpoaclkomjaaDoor
open Go.RowKit

/-! ### Letters -/

/-- The letter of a kind, as a number; at which place the letters have a byte. -/
def ltN (k : Int) : Int := if k = 0 then 82 else if k = 1 then 65 else if k = 2 then 87 else 68
def idxB (c : Int) : Int := if c = 82 then 0 else if c = 65 then 1 else if c = 87 then 2 else if c = 68 then 3 else -1
def isL (c : Int) : Bool := decide (0 ≤ idxB c)
def kindB (c : Int) : Int := if 0 ≤ idxB c then idxB c else 0

theorem idx_bd (c : Int) : -1 ≤ idxB c ∧ idxB c < 4 := by
  unfold idxB
  repeat' split
  all_goals omega

theorem kindB_bd (c : Int) : 0 ≤ kindB c ∧ kindB c < 4 := by
  have := idx_bd c
  unfold kindB
  split <;> omega

theorem ltN_bd (k : Int) : 0 ≤ ltN k ∧ ltN k ≤ 255 := by
  unfold ltN
  repeat' split
  all_goals omega

theorem idx_lt {k : Int} (h0 : 0 ≤ k) (h1 : k < 4) : idxB (ltN k) = k := by
  have : k = 0 ∨ k = 1 ∨ k = 2 ∨ k = 3 := by omega
  rcases this with rfl | rfl | rfl | rfl <;> decide

theorem lt_idx {c : Int} (h : 0 ≤ idxB c) : ltN (idxB c) = c := by
  unfold idxB at *
  repeat' split
  all_goals first | (subst_vars; decide) | (exfalso; simp_all)

/-- Has the byte that kind? -/
def hasK (k c : Int) : Bool := isL c && decide (kindB c = k)

theorem hasK_letter {k c : Int} (h0 : 0 ≤ k) (h1 : k < 4) : hasK k c = decide (c = ltN k) := by
  unfold hasK isL kindB
  by_cases h : 0 ≤ idxB c
  · rw [decide_eq_true h, if_pos h, Bool.true_and]
    by_cases e : c = ltN k
    · subst e; rw [idx_lt h0 h1]; simp
    · rw [decide_eq_false e, decide_eq_false]
      intro e2
      exact e (by rw [← e2, lt_idx h])
  · rw [decide_eq_false h, Bool.false_and]
    symm
    apply decide_eq_false
    rintro rfl
    rw [idx_lt h0 h1] at h
    omega

theorem hasK_none {k c : Int} (h : ¬ (0 ≤ k ∧ k < 4)) : hasK k c = false := by
  unfold hasK
  have := kindB_bd c
  rw [decide_eq_false (by omega : ¬ kindB c = k), Bool.and_false]

/-- Bytes with the same kind are the same. -/
theorem hasK_same {k b c : Int} (h1 : hasK k b = true) (h2 : hasK k c = true) : b = c := by
  unfold hasK isL kindB at *
  simp only [Bool.and_eq_true, decide_eq_true_eq] at h1 h2
  rw [if_pos h1.1] at h1
  rw [if_pos h2.1] at h2
  rw [← lt_idx h1.1, ← lt_idx h2.1, h1.2, h2.2]

/-- The letters of kinds. -/
def ltB (k : Int) : UInt8 := UInt8.ofNat (ltN k).toNat
def textV (ks : List Int) : ByteArray := ⟨(ks.map ltB).toArray⟩

theorem text_more {ks : List Int} {k : Nat} {x : Int} (h : ks[k]? = some x) : textV (ks.take (k + 1)) = textV (ks.take k) ++ ⟨#[ltB x]⟩ := by
  rw [List.take_add_one, h]
  apply ByteArray.ext
  simp [textV]

theorem text_size (ks : List Int) : (textV ks).size = ks.length := by simp [textV, ByteArray.size]

/-- The kinds of letters; are all letters? -/
def kindsS (s : ByteArray) : List Int := s.data.toList.map fun b => kindB (b.toNat : Int)
def allL (s : ByteArray) : Bool := s.data.toList.all fun b => isL (b.toNat : Int)

theorem kindsS_len (s : ByteArray) : (kindsS s).length = s.size := by simp [kindsS]

theorem bt_get (s : ByteArray) (i : Nat) (h : i < s.size) : s.data.toList[i]? = some (s[i]'h) := by
  have h' : i < s.data.size := h
  rw [Array.getElem?_toList, Array.getElem?_eq_getElem h']
  rfl

theorem bt_at (s : ByteArray) (i : Nat) (h : i < s.size) : ((s[i]'h).toNat : Int) = bt s i := by
  have h' : i < s.data.size := h
  have e : s.data.getD i 0 = s[i]'h := by
    unfold Array.getD
    rw [dif_pos h']
    rfl
  unfold bt
  rw [e]

theorem kindsS_at (s : ByteArray) (i : Nat) (h : i < s.size) : (kindsS s)[i]? = some (kindB (bt s i)) := by
  unfold kindsS
  rw [List.getElem?_map, bt_get s i h, ← bt_at s i h]
  rfl

theorem kindsS_more (s : ByteArray) (i : Nat) (h : i < s.size) : (kindsS s).take (i + 1) = (kindsS s).take i ++ [kindB (bt s i)] := by
  rw [List.take_add_one, kindsS_at s i h]
  rfl

theorem kindsS_bd (s : ByteArray) : ∀ x ∈ kindsS s, 0 ≤ x ∧ x < 4 := by
  intro x hx
  obtain ⟨b, _, rfl⟩ := List.mem_map.1 hx
  exact kindB_bd _

theorem allL_no {s : ByteArray} {i : Nat} (h : i < s.size) (hn : isL (bt s i) = false) : allL s = false := by
  unfold allL
  rw [List.all_eq_false]
  refine ⟨s[i]'h, List.mem_of_getElem? (bt_get s i h), ?_⟩
  rw [bt_at s i h, hn]
  simp

theorem allL_yes {s : ByteArray} (h : ∀ i, i < s.size → isL (bt s i) = true) : allL s = true := by
  unfold allL
  rw [List.all_eq_true]
  intro b hb
  obtain ⟨i, hi⟩ := List.getElem?_of_mem hb
  have hlt : i < s.size := by have := (List.getElem?_eq_some_iff.1 hi).1; simpa using this
  rw [bt_get s i hlt] at hi
  injection hi with hi
  rw [← hi, bt_at s i hlt]
  exact h i hlt

theorem byte_back {b : UInt8} (h : isL (b.toNat : Int) = true) : ltB (kindB (b.toNat : Int)) = b := by
  unfold isL at h
  have h0 := of_decide_eq_true h
  unfold ltB kindB
  rw [if_pos h0, lt_idx h0]
  simp

/-- The letters of letters' kinds are these. -/
theorem text_back {s : ByteArray} (h : allL s = true) : textV (kindsS s) = s := by
  apply ByteArray.ext
  unfold textV kindsS
  rw [List.map_map]
  have e : s.data.toList.map (ltB ∘ fun b => kindB (b.toNat : Int)) = s.data.toList := by
    unfold allL at h
    rw [List.all_eq_true] at h
    exact (List.map_congr_left (g := id) fun b hb => byte_back (h b hb)).trans (List.map_id _)
  rw [e]

/-- The view of records. -/
def viewV (l : List Rc) : Int × ByteArray × Int := if (checkV l).2 = 0 then (beg l, textV (kindsV l), 0) else (0, ⟨#[]⟩, (checkV l).2)

theorem view_ok {l : List Rc} (h : (checkV l).2 = 0) : viewV l = (beg l, textV (kindsV l), 0) := if_pos h
theorem view_bad {l : List Rc} (h : (checkV l).2 ≠ 0) : viewV l = (0, ⟨#[]⟩, (checkV l).2) := if_neg h

/-- The timeline of a view. -/
def fromV (at_ : Int) (s : ByteArray) : List Rc × Int :=
  if at_ < 0 ∨ 40320 < at_ + (s.size : Int) then ([], 4) else if allL s = true then (ofR at_ (kindsS s), 0) else ([], 2)

/-! ### Minutes one by one -/

/-- A record for each minute. -/
def minsR : Int → List Int → List Rc
  | _, [] => []
  | e, k :: ks => (k, e, e + 1) :: minsR (e + 1) ks

theorem minsR_len : ∀ (ks : List Int) (e : Int), (minsR e ks).length = ks.length
  | [], _ => rfl
  | _ :: ks, e => by rw [minsR, List.length_cons, minsR_len ks, List.length_cons]

theorem minsR_snoc : ∀ (ks : List Int) (e k : Int), minsR e (ks ++ [k]) = minsR e ks ++ [(k, e + ks.length, e + ks.length + 1)]
  | [], e, k => by simp [minsR]
  | x :: ks, e, k => by
    rw [List.cons_append, minsR, minsR_snoc ks, minsR, List.cons_append, List.length_cons]
    have : e + 1 + (ks.length : Int) = e + ((ks.length + 1 : Nat) : Int) := by omega
    rw [this]

theorem minsR_tl : ∀ (ks : List Int) (e : Int), (∀ x ∈ ks, 0 ≤ x ∧ x < 4) → 0 ≤ e → e + (ks.length : Int) ≤ 40320 → Tl e (minsR e ks)
  | [], _, _, _, _ => trivial
  | k :: ks, e, h, h0, h1 => by
    rw [List.length_cons] at h1
    exact ⟨⟨h k (List.mem_cons_self ..), by simp; omega⟩, rfl, minsR_tl ks (e + 1) (fun x hx => h x (List.mem_cons_of_mem _ hx)) (by omega) (by omega)⟩

theorem minsR_kinds : ∀ (ks : List Int) (e : Int), kindsV (minsR e ks) = ks
  | [], _ => rfl
  | k :: ks, e => by
    rw [minsR, kinds_cons, minsR_kinds ks]
    have : ((e + 1 - e : Int)).toNat = 1 := by omega
    simp [this]

theorem minsR_norm (ks : List Int) (e : Int) : normV (minsR e ks) = ofR e ks := by
  have : ∀ (ks : List Int) (e : Int) (out : List Rc), (minsR e ks).foldl (fun out r => put out r.1 r.2.1 r.2.2) out = (ofS (out, e) ks).1 := by
    intro ks
    induction ks with
    | nil => intro e out; rfl
    | cons k ks ih =>
      intro e out
      rw [minsR, List.foldl_cons, ih]
      rfl
  exact this ks e []

/-! ### The normal timeline's minutes -/

theorem Tl.snoc {l : List Rc} {e : Int} {r : Rc} (h : Tl e l) (hr : (0 ≤ r.1 ∧ r.1 < 4) ∧ (0 ≤ r.2.1 ∧ r.2.1 < r.2.2 ∧ r.2.2 ≤ 40320)) (hb : r.2.1 = (if l = [] then e else fin l)) : Tl e (l ++ [r]) ∧ fin (l ++ [r]) = r.2.2 := by
  induction l generalizing e with
  | nil => exact ⟨⟨hr, by simpa using hb, trivial⟩, rfl⟩
  | cons s l ih =>
    have h2 := h.2.2
    have := ih h2 (by
      rw [hb, if_neg (by simp)]
      cases l with
      | nil => simp [fin]
      | cons t l => simp [fin])
    refine ⟨⟨h.1, h.2.1, this.1⟩, ?_⟩
    cases l with
    | nil => simp [fin]
    | cons t l => simpa [fin] using this.2

theorem kinds_append (a b : List Rc) : kindsV (a ++ b) = kindsV a ++ kindsV b := by simp [kindsV]

theorem Tl.init {l : List Rc} {e : Int} {r : Rc} (h : Tl e (l ++ [r])) : Tl e l ∧ ((0 ≤ r.1 ∧ r.1 < 4) ∧ (0 ≤ r.2.1 ∧ r.2.1 < r.2.2 ∧ r.2.2 ≤ 40320)) ∧ r.2.1 = (if l = [] then e else fin l) := by
  induction l generalizing e with
  | nil => exact ⟨trivial, h.1, by simpa using h.2.1⟩
  | cons s l ih =>
    obtain ⟨h1, h2, h3⟩ := h
    have := ih h3
    refine ⟨⟨h1, h2, this.1⟩, this.2.1, ?_⟩
    rw [this.2.2]
    cases l with
    | nil => simp [fin]
    | cons t l => simp [fin]

/-- One more record behind those that are there changes no minute. -/
theorem put_tl {out : List Rc} {b k f t : Int} (h : Tl b out) (hk : 0 ≤ k ∧ k < 4) (hf : 0 ≤ f ∧ f < t ∧ t ≤ 40320) (hb : f = (if out = [] then b else fin out)) :
    Tl b (put out k f t) ∧ fin (put out k f t) = t ∧ put out k f t ≠ [] ∧ kindsV (put out k f t) = kindsV out ++ List.replicate (t - f).toNat k := by
  rcases List.eq_nil_or_concat out with rfl | ⟨o, ⟨a, x, y⟩, ho⟩
  · rw [put_nil]
    have := Tl.snoc (r := (k, f, t)) h ⟨hk, hf⟩ hb
    refine ⟨by simpa using this.1, by simp [fin], by simp, ?_⟩
    simp [kindsV]
  · rw [List.concat_eq_append] at ho
    subst ho
    obtain ⟨h1, h2, h3⟩ := h.init
    simp only at h2 h3
    have hfin : fin (o ++ [(a, x, y)]) = y := (Tl.snoc (r := (a, x, y)) h1 h2 h3).2
    rw [if_neg (by simp), hfin] at hb
    by_cases e : a = k
    · subst e
      rw [put_same]
      have := Tl.snoc (r := (a, x, t)) h1 ⟨hk, by simp; omega⟩ h3
      refine ⟨this.1, this.2, by simp, ?_⟩
      rw [kinds_append, kinds_append, List.append_assoc]
      congr 1
      simp only [kindsV, List.flatMap_cons, List.flatMap_nil, List.append_nil, List.replicate_append_replicate]
      congr 1
      omega
    · rw [put_other o e]
      have := Tl.snoc (r := (k, f, t)) h ⟨hk, hf⟩ (by rw [if_neg (by simp), hfin]; exact hb)
      refine ⟨this.1, this.2, by simp, ?_⟩
      rw [kinds_append]
      simp [kindsV]

theorem norm_fold {l : List Rc} : ∀ {e b : Int} (out : List Rc), Tl e l → Tl b out → e = (if out = [] then b else fin out) →
    Tl b (l.foldl (fun out r => put out r.1 r.2.1 r.2.2) out) ∧ kindsV (l.foldl (fun out r => put out r.1 r.2.1 r.2.2) out) = kindsV out ++ kindsV l ∧ (l.foldl (fun out r => put out r.1 r.2.1 r.2.2) out = [] ↔ out = [] ∧ l = []) := by
  induction l with
  | nil => intro e b out _ h _; exact ⟨h, by simp [kindsV], by simp⟩
  | cons r l ih =>
    intro e b out h ho he
    obtain ⟨⟨h1, h2⟩, h3, h4⟩ := h
    obtain ⟨p1, p2, p3, p4⟩ := put_tl ho h1 h2 (h3.trans he)
    have := ih (put out r.1 r.2.1 r.2.2) h4 p1 (by rw [if_neg p3, p2])
    refine ⟨this.1, ?_, ?_⟩
    · rw [List.foldl_cons, this.2.1, p4, kinds_cons, List.append_assoc]
    · rw [List.foldl_cons, this.2.2]
      simp [p3]

theorem norm_tl {l : List Rc} {e : Int} (h : Tl e l) : Tl (beg l) (normV l) ∧ kindsV (normV l) = kindsV l ∧ (normV l = [] ↔ l = []) := by
  have := norm_fold (b := beg l) [] h.from_ (trivial : Tl (beg l) []) (by simp)
  exact ⟨this.1, by rw [show kindsV (normV l) = _ from this.2.1]; simp [kindsV], by rw [show (normV l = [] ↔ _) from this.2.2]; simp⟩

/-! ### Minutes that are handed on -/

/-- Each minute of records with its kind. -/
def minsV (l : List Rc) : List (Int × Int) := l.flatMap fun r => (List.range (r.2.2 - r.2.1).toNat).map fun (i : Nat) => (r.2.1 + (i : Int), r.1)

/-- Kinds with their minutes, from e on. -/
def numb : Int → List Int → List (Int × Int)
  | _, [] => []
  | e, k :: ks => (e, k) :: numb (e + 1) ks

theorem numb_len : ∀ (ks : List Int) (e : Int), (numb e ks).length = ks.length
  | [], _ => rfl
  | _ :: ks, e => by rw [numb, List.length_cons, numb_len ks, List.length_cons]

theorem numb_append : ∀ (a b : List Int) (e : Int), numb e (a ++ b) = numb e a ++ numb (e + a.length) b
  | [], b, e => by simp [numb]
  | k :: a, b, e => by
    rw [List.cons_append, numb, numb_append a, numb, List.cons_append, List.length_cons]
    have : e + 1 + (a.length : Int) = e + ((a.length + 1 : Nat) : Int) := by omega
    rw [this]

theorem numb_rep (k : Int) : ∀ (n : Nat) (e : Int), numb e (List.replicate n k) = (List.range n).map fun (i : Nat) => (e + (i : Int), k)
  | 0, _ => rfl
  | n + 1, e => by
    rw [List.replicate_succ', numb_append, numb_rep k n e, List.range_succ, List.map_append, List.length_replicate]
    rfl

theorem numb_at : ∀ (ks : List Int) (e : Int) (i : Nat), (numb e ks)[i]? = ks[i]?.map fun k => (e + (i : Int), k)
  | [], _, _ => by simp [numb]
  | k :: ks, e, 0 => by simp [numb]
  | k :: ks, e, i + 1 => by
    rw [numb, List.getElem?_cons_succ, numb_at ks (e + 1) i, List.getElem?_cons_succ]
    have : e + 1 + (i : Int) = e + ((i + 1 : Nat) : Int) := by omega
    rw [this]

theorem numb_snd : ∀ (ks : List Int) (e : Int), (numb e ks).map (·.2) = ks
  | [], _ => rfl
  | k :: ks, e => by rw [numb, List.map_cons, numb_snd ks]

theorem mins_numb {l : List Rc} : ∀ {e : Int}, Tl e l → minsV l = numb e (kindsV l) := by
  induction l with
  | nil => intro e _; rfl
  | cons r l ih =>
    intro e h
    obtain ⟨⟨h1, h2⟩, h3, h4⟩ := h
    subst h3
    rw [kinds_cons, numb_append, numb_rep, List.length_replicate]
    have e2 : r.2.1 + (((r.2.2 - r.2.1).toNat : Nat) : Int) = r.2.2 := by omega
    rw [e2, ← ih h4]
    rfl

/-- What Each hands on. -/
theorem each_is {l : List Rc} {e : Int} (h : Tl e l) : minsV (nrmV l) = numb (beg l) (kindsV l) := by
  rw [nrm_ok h]
  have := norm_tl h
  rw [mins_numb this.1, this.2.1]

theorem each_bad {l : List Rc} (h : (checkV l).2 ≠ 0) : minsV (nrmV l) = [] := by rw [nrm_bad h]; rfl

/-! ### What a timeline of a view has -/

theorem of_back {ks : List Int} {e : Int} (h : ∀ x ∈ ks, 0 ≤ x ∧ x < 4) (h0 : 0 ≤ e) (h1 : e + (ks.length : Int) ≤ 40320) :
    Tl (beg (minsR e ks)) (ofR e ks) ∧ kindsV (ofR e ks) = ks ∧ (ks ≠ [] → beg (ofR e ks) = e) := by
  have := norm_tl (minsR_tl ks e h h0 h1)
  rw [minsR_norm, minsR_kinds] at this
  refine ⟨this.1, this.2.1, fun hne => ?_⟩
  have hn : ofR e ks ≠ [] := by
    intro he
    have := this.2.2.1 he
    cases ks with
    | nil => exact hne rfl
    | cons k ks => rw [minsR] at this; cases this
  obtain ⟨k, ks', rfl⟩ : ∃ k ks', ks = k :: ks' := by
    cases ks with
    | nil => exact absurd rfl hne
    | cons k ks => exact ⟨k, ks, rfl⟩
  have ht := this.1
  have hb : beg (minsR e (k :: ks')) = e := rfl
  rw [hb] at ht
  cases hof : ofR e (k :: ks') with
  | nil => exact absurd hof hn
  | cons r l => rw [hof] at ht; exact ht.2.1

/-! ### Spells -/

/-- One more minute of the kind: the last spell's end is moved, where it ends there. -/
def spell (out : List Sp) (i : Nat) : List Sp :=
  match out.getLast? with
  | some (a, b) => if b = (i : Int) then out.dropLast ++ [(a, (i : Int) + 1)] else out ++ [((i : Int), (i : Int) + 1)]
  | none => out ++ [((i : Int), (i : Int) + 1)]

def spells (h : Nat → Bool) : Nat → List Sp
  | 0 => []
  | i + 1 => if h i then spell (spells h i) i else spells h i

theorem spell_nil (i : Nat) : spell [] i = [((i : Int), (i : Int) + 1)] := rfl
theorem spell_same (o : List Sp) (a : Int) (i : Nat) : spell (o ++ [(a, (i : Int))]) i = o ++ [(a, (i : Int) + 1)] := by unfold spell; simp
theorem spell_other (o : List Sp) {a b : Int} {i : Nat} (h : b ≠ i) : spell (o ++ [(a, b)]) i = o ++ [(a, b)] ++ [((i : Int), (i : Int) + 1)] := by unfold spell; simp [h]

theorem spells_yes {h : Nat → Bool} {i : Nat} (e : h i = true) : spells h (i + 1) = spell (spells h i) i := by rw [spells, if_pos e]
theorem spells_no {h : Nat → Bool} {i : Nat} (e : h i = false) : spells h (i + 1) = spells h i := by rw [spells, if_neg (by rw [e]; exact Bool.false_ne_true)]

/-- The last one ends here just if the minute ahead has the kind; no one ends later. -/
theorem spells_last (h : Nat → Bool) : ∀ i : Nat, (∀ (o : List Sp) (a b : Int), spells h i = o ++ [(a, b)] → b ≤ (i : Int) ∧ a < b ∧ (b = (i : Int) ↔ 0 < i ∧ h (i - 1) = true)) ∧ (spells h i = [] → ¬ (0 < i ∧ h (i - 1) = true))
  | 0 => ⟨fun o a b e => by simp [spells] at e, fun _ c => absurd c.1 (by omega)⟩
  | i + 1 => by
    obtain ⟨ih, ih2⟩ := spells_last h i
    rw [Nat.add_sub_cancel]
    cases hi : h i with
    | false =>
      rw [spells_no hi]
      refine ⟨fun o a b e => ?_, fun _ c => absurd c.2 (by simp)⟩
      obtain ⟨h1, h2, _⟩ := ih o a b e
      refine ⟨by omega, h2, ⟨fun e => by exfalso; omega, fun c => absurd c.2 (by simp)⟩⟩
    | true =>
      rw [spells_yes hi]
      have key : ∃ o a, a < (i : Int) + 1 ∧ spell (spells h i) i = o ++ [(a, (i : Int) + 1)] := by
        rcases List.eq_nil_or_concat (spells h i) with e | ⟨o, ⟨a, b⟩, e⟩
        · rw [e]; exact ⟨[], (i : Int), by omega, rfl⟩
        · rw [List.concat_eq_append] at e
          obtain ⟨h1, h2, _⟩ := ih o a b e
          rw [e]
          by_cases hb : b = (i : Int)
          · subst hb; exact ⟨o, a, by omega, spell_same o a i⟩
          · exact ⟨o ++ [(a, b)], (i : Int), by omega, spell_other o hb⟩
      obtain ⟨o, a, ha, e⟩ := key
      rw [e]
      refine ⟨fun o2 a2 b2 e2 => ?_, fun c => by simp at c⟩
      have := List.append_inj' e2 rfl
      simp only [List.cons.injEq, Prod.mk.injEq, and_true] at this
      obtain ⟨_, rfl, rfl⟩ := this
      exact ⟨by omega, ha, ⟨fun _ => ⟨by omega, rfl⟩, fun _ => by omega⟩⟩

theorem spells_len (h : Nat → Bool) : ∀ i, (spells h i).length ≤ i
  | 0 => Nat.le_refl _
  | i + 1 => by
    have ih := spells_len h i
    cases hi : h i with
    | false => rw [spells_no hi]; omega
    | true =>
      rw [spells_yes hi]
      rcases List.eq_nil_or_concat (spells h i) with e | ⟨o, ⟨a, b⟩, e⟩
      · rw [e, spell_nil]; simp
      · rw [List.concat_eq_append] at e
        rw [e] at ih ⊢
        by_cases hb : b = (i : Int)
        · subst hb; rw [spell_same]; simp at ih ⊢; omega
        · rw [spell_other o hb]; simp at ih ⊢; omega

/-- The spells have just the minutes of the kind. -/
theorem spells_has (h : Nat → Bool) : ∀ n (m : Int), hasL (spells h n) m = true ↔ ∃ i : Nat, i < n ∧ m = (i : Int) ∧ h i = true
  | 0, m => by simp [spells, hasL_nil]
  | n + 1, m => by
    have ih := spells_has h n m
    cases hi : h n with
    | false =>
      rw [spells_no hi, ih]
      constructor
      · rintro ⟨i, h1, h2, h3⟩; exact ⟨i, by omega, h2, h3⟩
      · rintro ⟨i, h1, h2, h3⟩
        refine ⟨i, ?_, h2, h3⟩
        rcases Nat.lt_or_ge i n with c | c
        · exact c
        · obtain rfl : i = n := by omega
          rw [hi] at h3; cases h3
    | true =>
      have key : hasL (spell (spells h n) n) m = true ↔ hasL (spells h n) m = true ∨ m = (n : Int) := by
        rcases List.eq_nil_or_concat (spells h n) with e | ⟨o, ⟨a, b⟩, e⟩
        · rw [e, spell_nil, hasL_cons, hasL_nil]
          simp [hasS]
          omega
        · rw [List.concat_eq_append] at e
          obtain ⟨h1, h2, _⟩ := (spells_last h n).1 o a b e
          rw [e]
          by_cases hb : b = (n : Int)
          · subst hb
            rw [spell_same, hasL_append, hasL_append, hasL_cons, hasL_cons, hasL_nil]
            simp only [Bool.or_eq_true, hasS_iff, Bool.false_eq_true, or_false]
            constructor
            · rintro (c | c)
              · exact .inl (.inl c)
              · by_cases hm : m = (n : Int)
                · exact .inr hm
                · exact .inl (.inr (by omega))
            · rintro ((c | c) | c)
              · exact .inl c
              · exact .inr (by omega)
              · exact .inr (by omega)
          · rw [spell_other o hb, hasL_append, hasL_cons, hasL_nil]
            simp only [Bool.or_eq_true, hasS_iff, Bool.false_eq_true, or_false]
            constructor
            · rintro (c | c)
              · exact .inl c
              · exact .inr (by omega)
            · rintro (c | c)
              · exact .inl c
              · exact .inr (by omega)
      rw [spells_yes hi, key, ih]
      constructor
      · rintro (⟨i, h1, h2, h3⟩ | rfl)
        · exact ⟨i, by omega, h2, h3⟩
        · exact ⟨n, by omega, rfl, hi⟩
      · rintro ⟨i, h1, h2, h3⟩
        rcases Nat.lt_or_ge i n with c | c
        · exact .inl ⟨i, c, h2, h3⟩
        · exact .inr (by omega)

theorem spells_none {h : Nat → Bool} (hn : ∀ i, h i = false) : ∀ n, spells h n = []
  | 0 => rfl
  | n + 1 => by rw [spells_no (hn n), spells_none hn n]

/-- The spells of a kind in letters. -/
def spellsV (s : ByteArray) (k : Int) : List Sp := spells (fun i => hasK k (bt s i)) s.size

theorem spellsV_at (s : ByteArray) (k : Int) (i : Nat) (h : i < s.size) : hasL (spellsV s k) i = hasK k (bt s i) := by
  rw [Bool.eq_iff_iff]
  unfold spellsV
  rw [spells_has]
  constructor
  · rintro ⟨j, h1, h2, h3⟩
    obtain rfl : i = j := by omega
    exact h3
  · intro c
    exact ⟨i, h, rfl, c⟩

end Go.Proofs.YtogcpoaclkomjaaDoor
