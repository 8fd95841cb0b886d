/- One meter under another one, in plain words: an order, which a minute that breaks nothing keeps. Conditions: none beyond each lemma's own premises. -/
import Derived.Test.YtglgifhpacmhiaaRows
import Derived.Test.YtglgifhpacmhiaaBase
import Derived.Test.YtglgifhpacmhiaaBookLim
import Derived.Test.YtglgifhpacmhiaaSpellMath
import Derived.Test.YtglgifhpacmhiaaMeterMath
namespace Go.Proofs.Ytglgifhpacmhiaa
open Go.RowKit

open Classical in
/-- Does it hold? -/
noncomputable def tf (p : Prop) : Bool := if p then true else false
theorem tf_yes {p : Prop} (h : p) : tf p = true := by unfold tf; rw [if_pos h]
theorem tf_no {p : Prop} (h : ¬ p) : tf p = false := by unfold tf; rw [if_neg h]
theorem tf_iff {p : Prop} : tf p = true ↔ p := by
  by_cases h : p
  · rw [tf_yes h]; exact ⟨fun _ => h, fun _ => rfl⟩
  · rw [tf_no h]; exact ⟨fun e => (by cases e), fun e => absurd e h⟩
theorem tf_int {p : Prop} [Decidable p] : tf p = decide p := by
  by_cases h : p
  · rw [tf_yes h, decide_eq_true h]
  · rw [tf_no h, decide_eq_false h]

/-- The same minute, in the same spell of rest. -/
def AbrM (s t : Mt) : Prop := s.now = t.now ∧ s.lie = t.lie ∧ s.half = t.half
/-- No more is used up. -/
def SpM (s t : Mt) : Prop := s.acc ≤ t.acc ∧ s.day ≤ t.day ∧ s.reduces ≤ t.reduces ∧ s.week ≤ t.week ∧ s.last ≤ t.last ∧ s.labour ≤ t.labour
/-- The rests are as late, and as good. -/
def RsM (s t : Mt) : Prop := t.dawn ≤ s.dawn ∧ t.sabbath ≤ s.sabbath ∧ (t.split = true → s.split = true) ∧ (s.brief = true → t.brief = true)
/-- No more longer days, and none more to come. -/
def LgM (x : Nat → Int) (s t : Mt) : Prop := s.longers ≤ t.longers ∧ (s.day ≤ x 4 ∧ x 4 < t.day → s.longers < t.longers ∧ s.longers < x 6)
structure UnM (x : Nat → Int) (s t : Mt) : Prop where
  abr : AbrM s t
  sp : SpM s t
  rs : RsM s t
  lg : LgM x s t
/-- Both may be, and the book. -/
def MyM (x : Nat → Int) (s t : Mt) : Prop := May x ∧ MayM s ∧ MayM t
def Un (x : Nat → Int) (s t : Mt) : Prop := UnM x s t ∧ MyM x s t

theorem UnM.refl (x : Nat → Int) (s : Mt) : UnM x s s :=
  ⟨⟨rfl, rfl, rfl⟩, ⟨Int.le_refl _, Int.le_refl _, Int.le_refl _, Int.le_refl _, Int.le_refl _, Int.le_refl _⟩, ⟨Int.le_refl _, Int.le_refl _, id, id⟩, ⟨Int.le_refl _, fun h => by omega⟩⟩
theorem UnM.trans {x : Nat → Int} {s t u : Mt} (h : UnM x s t) (g : UnM x t u) : UnM x s u := by
  obtain ⟨⟨a1, a2, a3⟩, ⟨b1, b2, b3, b4, b5, b6⟩, ⟨c1, c2, c3, c4⟩, ⟨d1, d2⟩⟩ := h
  obtain ⟨⟨a1', a2', a3'⟩, ⟨b1', b2', b3', b4', b5', b6'⟩, ⟨c1', c2', c3', c4'⟩, ⟨d1', d2'⟩⟩ := g
  refine ⟨⟨a1.trans a1', a2.trans a2', a3.trans a3'⟩, ⟨by omega, by omega, by omega, by omega, by omega, by omega⟩, ⟨by omega, by omega, fun h => c3 (c3' h), fun h => c4' (c4 h)⟩, ⟨by omega, fun h => ?_⟩⟩
  by_cases hd : t.day ≤ x 4
  · have := d2' ⟨hd, h.2⟩
    omega
  · have := d2 ⟨h.1, by omega⟩
    omega
theorem bool_anti {a b : Bool} (h : a = true → b = true) (g : b = true → a = true) : a = b := by cases a <;> cases b <;> simp_all
theorem UnM.anti {x : Nat → Int} {s t : Mt} (h : UnM x s t) (g : UnM x t s) : s = t := by
  obtain ⟨⟨a1, a2, a3⟩, ⟨b1, b2, b3, b4, b5, b6⟩, ⟨c1, c2, c3, c4⟩, ⟨d1, d2⟩⟩ := h
  obtain ⟨⟨a1', a2', a3'⟩, ⟨b1', b2', b3', b4', b5', b6'⟩, ⟨c1', c2', c3', c4'⟩, ⟨d1', d2'⟩⟩ := g
  have e7 := bool_anti c3' c3
  have e10 := bool_anti c4 c4'
  obtain ⟨x0, x1, x2, x3, x4, x5, x6, x7, x8, x9, x10, x11, x12, x13⟩ := s
  obtain ⟨y0, y1, y2, y3, y4, y5, y6, y7, y8, y9, y10, y11, y12, y13⟩ := t
  dsimp only at *
  obtain rfl : x1 = y1 := by omega
  obtain rfl : x4 = y4 := by omega
  obtain rfl : x5 = y5 := by omega
  obtain rfl : x6 = y6 := by omega
  obtain rfl : x8 = y8 := by omega
  obtain rfl : x9 = y9 := by omega
  obtain rfl : x11 = y11 := by omega
  obtain rfl : x12 = y12 := by omega
  obtain rfl : x13 = y13 := by omega
  subst a1 a2 a3 e7 e10
  rfl
theorem Un.trans {x : Nat → Int} {s t u : Mt} (h : Un x s t) (g : Un x t u) : Un x s u := ⟨h.1.trans g.1, h.2.1, h.2.2.1, g.2.2.2⟩
theorem Un.anti {x : Nat → Int} {s t : Mt} (h : Un x s t) (g : Un x t s) : s = t := h.1.anti g.1
theorem Un.self {x : Nat → Int} {s : Mt} : Un x s s ↔ May x ∧ MayM s := ⟨fun h => ⟨h.2.1, h.2.2.1⟩, fun h => ⟨.refl x s, h.1, h.2, h.2⟩⟩

/-! ### A minute keeps it -/
theorem UnM.wrap {x : Nat → Int} {s t : Mt} (h : UnM x s t) : UnM x (wrapM x s) (wrapM x t) := by
  obtain ⟨⟨a1, a2, a3⟩, ⟨b1, b2, b3, b4, b5, b6⟩, hr, hl⟩ := h
  obtain ⟨s0, s1, s2, s3, s4, s5, s6, s7, s8, s9, s10, s11, s12, s13⟩ := s
  obtain ⟨t0, t1, t2, t3, t4, t5, t6, t7, t8, t9, t10, t11, t12, t13⟩ := t
  dsimp only at a1
  subst a1
  unfold wrapM
  dsimp only
  split
  · exact ⟨⟨rfl, a2, a3⟩, ⟨b1, b2, b3, Int.le_refl _, b4, Int.le_refl _⟩, hr, hl⟩
  · exact ⟨⟨rfl, a2, a3⟩, ⟨b1, b2, b3, b4, b5, b6⟩, hr, hl⟩

/-- What the spell of rest that ends is worth: reduced for the one that is under only where it is for the other one; all else is the same. -/
theorem worth_un {x : Nat → Int} {s t : Mt} (h : UnM x s t) :
    (endW x s).brk = (endW x t).brk ∧ (endW x s).half = (endW x t).half ∧ (endW x s).part = (endW x t).part ∧ (endW x s).daily = (endW x t).daily ∧ (endW x s).weekly = (endW x t).weekly ∧ (endW x s).brief = (endW x t).brief ∧
      ((endW x s).red = true → (endW x t).red = true) := by
  obtain ⟨⟨a1, a2, a3⟩, -, ⟨c1, -, c3, -⟩, -⟩ := h
  unfold endW ofV ofW
  rw [a1, a2, a3]
  refine ⟨rfl, rfl, rfl, rfl, rfl, rfl, ?_⟩
  dsimp only
  intro hr
  simp only [Bool.and_eq_true, Bool.not_eq_true', lastB, decide_eq_false_iff_not, decide_eq_true_eq] at hr ⊢
  obtain ⟨⟨⟨h1, h2⟩, h3⟩, h4⟩ := hr
  refine ⟨⟨⟨h1, h2⟩, ?_⟩, by omega⟩
  cases hs : t.split
  · rfl
  · rw [c3 hs] at h3; cases h3

/-- A weekly rest is a daily one. -/
theorem weekly_daily {x : Nat → Int} {s : Mt} (hx : May x) (h : (endW x s).weekly = true) : (endW x s).daily = true := by
  have := may_ord hx
  unfold endW ofV ofW at *
  simp only [lastB, decide_eq_true_eq] at h ⊢
  omega

/-- A spell of rest ends. -/
theorem UnM.up {x : Nat → Int} {s t : Mt} (hx : May x) (h : UnM x s t) (h8 : up8 x t = false) (h6 : up6 x t = false) :
    up8 x s = false ∧ up6 x s = false ∧ UnM x (upR x s) (upR x t) := by
  have hw := worth_un h
  have hd := weekly_daily (s := t) hx
  unfold up8 up6 upR at *
  have hab := h.abr
  rw [hab.2.1]
  by_cases hlie : 0 < t.lie
  case neg =>
    rw [if_neg hlie, if_neg hlie]
    simp only [decide_eq_false hlie, Bool.false_and]
    exact ⟨trivial, trivial, h⟩
  rw [if_pos hlie, if_pos hlie]
  simp only [decide_eq_true hlie, Bool.true_and] at h8 h6 ⊢
  generalize endW x s = u at hw
  generalize endW x t = v at hw hd h8 h6
  obtain ⟨u1, u2, u3, u4, u5, u6, u7⟩ := u
  obtain ⟨v1, v2, v3, v4, v5, v6, v7⟩ := v
  obtain ⟨⟨a1, a2, a3⟩, ⟨b1, b2, b3, b4, b5, b6⟩, ⟨g1, g2, g3, g4⟩, ⟨l1, l2⟩⟩ := h
  obtain ⟨s0, s1, s2, s3, s4, s5, s6, s7, s8, s9, s10, s11, s12, s13⟩ := s
  obtain ⟨t0, t1, t2, t3, t4, t5, t6, t7, t8, t9, t10, t11, t12, t13⟩ := t
  dsimp only at *
  obtain ⟨rfl, rfl, rfl, rfl, rfl, rfl, hred⟩ := hw
  subst a1 a2 a3
  refine ⟨?_, ?_, ?_⟩
  · unfold c8 at *
    dsimp only at *
    cases u6 <;> cases u7 <;> cases s10 <;> simp_all
  · unfold c6 e2 e1 at *
    dsimp only at *
    cases u6 <;> cases u5 <;> cases v5 <;> simp_all <;> omega
  · unfold endM e3 e2 e1
    dsimp only
    clear hab h8 h6 hlie
    cases u6 <;> cases u4 <;> cases u5 <;> cases v5 <;> simp_all <;>
      (refine ⟨⟨rfl, rfl, rfl⟩, ⟨?_, ?_, ?_, ?_, ?_, ?_⟩, ⟨?_, ?_, ?_, ?_⟩, ⟨?_, ?_⟩⟩ <;> dsimp only <;>
        first
          | omega
          | (split <;> omega)
          | (intro h; cases t7 <;> cases u3 <;> simp_all)
          | (intro h; cases s10 <;> simp_all)
          | (intro h; have := l2 h.1 h.2; omega))

theorem dec_no {p q : Prop} [Decidable p] [Decidable q] (h : decide q = false) (g : p → q) : decide p = false :=
  decide_eq_false fun hp => of_decide_eq_false h (g hp)

/-- A minute of driving. -/
theorem UnM.drive {x : Nat → Int} {s t : Mt} (h : UnM x s t) (h2 : c2 x t = false) : c2 x s = false ∧ UnM x (driveM x s) (driveM x t) := by
  obtain ⟨⟨a1, a2, a3⟩, ⟨b1, b2, b3, b4, b5, b6⟩, hr, ⟨l1, l2⟩⟩ := h
  unfold c2 at *
  rw [← Bool.decide_and, decide_eq_false_iff_not] at h2 ⊢
  refine ⟨fun ⟨h3, h4⟩ => ?_, ?_⟩
  · by_cases ht : t.day = x 4
    · exact h2 ⟨by omega, by omega⟩
    · have := l2 ⟨by omega, by omega⟩
      omega
  · unfold driveM d2 d1
    dsimp only
    by_cases hs : s.day + 1 = x 4 + 1
    · rw [if_pos hs]
      by_cases ht : t.day + 1 = x 4 + 1
      · rw [if_pos ht]
        exact ⟨⟨a1, a2, a3⟩, ⟨by dsimp only; omega, by dsimp only; omega, b3, by dsimp only; omega, b5, b6⟩, hr, ⟨by dsimp only; omega, fun g => by dsimp only at g; omega⟩⟩
      · rw [if_neg ht]
        have := l2 ⟨by omega, by omega⟩
        exact ⟨⟨a1, a2, a3⟩, ⟨by dsimp only; omega, by dsimp only; omega, b3, by dsimp only; omega, b5, b6⟩, hr, ⟨by dsimp only; omega, fun g => by dsimp only at g; omega⟩⟩
    · rw [if_neg hs]
      by_cases ht : t.day + 1 = x 4 + 1
      · rw [if_pos ht]
        exact ⟨⟨a1, a2, a3⟩, ⟨by dsimp only; omega, by dsimp only; omega, b3, by dsimp only; omega, b5, b6⟩, hr, ⟨by dsimp only; omega, fun g => by dsimp only at g ⊢; omega⟩⟩
      · rw [if_neg ht]
        refine ⟨⟨a1, a2, a3⟩, ⟨by dsimp only; omega, by dsimp only; omega, b3, by dsimp only; omega, b5, b6⟩, hr, ⟨l1, fun g => ?_⟩⟩
        dsimp only at g ⊢
        exact l2 ⟨by omega, by omega⟩
theorem UnM.work {x : Nat → Int} {s t : Mt} (h : UnM x s t) : UnM x (workM s) (workM t) := by
  obtain ⟨ha, ⟨b1, b2, b3, b4, b5, b6⟩, hr, hl⟩ := h
  exact ⟨ha, ⟨b1, b2, b3, b4, b5, by unfold workM; dsimp only; omega⟩, hr, hl⟩
theorem UnM.on {x : Nat → Int} {s t : Mt} (h : UnM x s t) : UnM x { s with now := s.now + 1 } { t with now := t.now + 1 } := by
  obtain ⟨⟨a1, a2, a3⟩, hs, hr, hl⟩ := h
  exact ⟨⟨by dsimp only; omega, a2, a3⟩, hs, hr, hl⟩
theorem UnM.rest {x : Nat → Int} {s t : Mt} (h : UnM x s t) : UnM x { s with lie := s.lie + 1, now := s.now + 1 } { t with lie := t.lie + 1, now := t.now + 1 } := by
  obtain ⟨⟨a1, a2, a3⟩, hs, hr, hl⟩ := h
  exact ⟨⟨by dsimp only; omega, by dsimp only; omega, a3⟩, hs, hr, hl⟩

theorem bitN_no {k : Nat} {b : Bool} (h : bitN k b = 0) : b = false := by
  cases b with
  | false => rfl
  | true => unfold bitN at h; rw [if_pos rfl] at h; have := Nat.two_pow_pos k; omega
theorem Cl.sum_no {c : Cl} (h : c.sum = 0) : c = ⟨false, false, false, false, false, false, false, false, false, false⟩ := by
  obtain ⟨c0, c1, c2, c3, c4, c5, c6, c7, c8, c9⟩ := c
  unfold Cl.sum at h
  dsimp only at h
  have h0 : bitN 8 c0 = 0 := by omega
  have h1 : bitN 6 c1 = 0 := by omega
  have h2 : bitN 5 c2 = 0 := by omega
  have h3 : bitN 7 c3 = 0 := by omega
  have h4 : bitN 0 c4 = 0 := by omega
  have h5 : bitN 2 c5 = 0 := by omega
  have h6 : bitN 1 c6 = 0 := by omega
  have h7 : bitN 3 c7 = 0 := by omega
  have h8 : bitN 4 c8 = 0 := by omega
  have h9 : bitN 9 c9 = 0 := by omega
  rw [bitN_no h0, bitN_no h1, bitN_no h2, bitN_no h3, bitN_no h4, bitN_no h5, bitN_no h6, bitN_no h7, bitN_no h8, bitN_no h9]

/-- A minute that is none of rest. -/
theorem UnM.awake {x : Nat → Int} {s t : Mt} {k : Int} (hx : May x) (h : UnM x s t) (h0 : (upC x t k).sum = 0) : (upC x s k).sum = 0 ∧ UnM x (upM x s k) (upM x t k) := by
  have hc := Cl.sum_no h0
  unfold upC at hc
  dsimp only at hc
  injection hc with e8 e6 e5 e7 e0 e2 e1 e3 e4 e9
  obtain ⟨f8, f6, hu⟩ := h.up hx e8 e6
  unfold upM upC
  dsimp only
  rw [f8, f6]
  generalize upR x s = r at hu
  generalize upR x t = q at hu e5 e7 e0 e2 e1 e3 e4 e9
  have hq := hu
  obtain ⟨⟨a1, a2, a3⟩, ⟨b1, b2, b3, b4, b5, b6⟩, ⟨g1, g2, g3, g4⟩, ⟨l1, l2⟩⟩ := hq
  have f5 : c5 x r = false := dec_no e5 (fun g => by omega)
  have f7 : c7 x r = false := dec_no e7 (fun g => by omega)
  rw [f5, f7]
  by_cases hk : k = 3
  · simp only [hk, decide_true, Bool.true_and, if_true, true_or] at e0 e2 e1 e3 e4 e9 ⊢
    obtain ⟨f2, hd⟩ := hu.drive e2
    have f0 : c0 x r = false := dec_no e0 (fun g => by omega)
    have f1 : c1 x r = false := dec_no e1 (fun g => by omega)
    have f3 : c3 x r = false := dec_no e3 (fun g => by omega)
    have f4 : c4 x r = false := dec_no e4 (fun g => by omega)
    have f9 : c9 x (driveM x r) = false := dec_no e9 (fun g => by have := hd.sp; unfold SpM at this; omega)
    rw [f0, f1, f2, f3, f4, f9]
    exact ⟨rfl, hd.work⟩
  · simp only [hk, decide_false, Bool.false_and, if_false, false_or] at e9 ⊢
    by_cases hk2 : k = 2
    · simp only [hk2, decide_true, Bool.true_and, if_true] at e9 ⊢
      have f9 : c9 x r = false := dec_no e9 (fun g => by omega)
      rw [f9]
      exact ⟨rfl, hu.work⟩
    · simp only [hk2, decide_false, Bool.false_and, if_false]
      exact ⟨rfl, hu⟩

/-- A minute that breaks nothing behind the other one breaks nothing behind the one that is under it, which stays so. -/
theorem UnM.step {x : Nat → Int} {s t : Mt} {k : Int} (hx : May x) (h : UnM x s t) (h0 : stepC x t k = 0) : stepC x s k = 0 ∧ UnM x (stepM x s k) (stepM x t k) := by
  unfold stepC stepM at *
  dsimp only
  by_cases hk : k = 0
  · rw [if_pos hk, if_pos hk, if_pos hk]
    exact ⟨rfl, h.wrap.rest⟩
  · rw [if_neg hk] at h0
    rw [if_neg hk, if_neg hk, if_neg hk]
    have := h.wrap.awake hx h0
    exact ⟨this.1, this.2.on⟩

/-! ### As layer 13's Step tells it -/
theorem meterV_one {x : Nat → Int} {m : Mt} {k : Int} (hx : May x) (hm : MayM m) : meterV x m [k] = if k < 0 ∨ 3 < k then (.zero, 0, 2) else if m.now = 40320 then (.zero, 0, 4) else (stepM x m k, stepC x m k, 0) := by
  unfold meterV
  rw [if_pos hx, if_pos hm, runV_cons]
  split
  · rfl
  split
  · rfl
  · unfold runV
    rw [Nat.zero_or]
theorem un_step {x : Nat → Int} {s t : Mt} {k : Int} (h : Un x s t) (he : (meterV x t [k]).2.2 = 0) (hc : (meterV x t [k]).2.1 = 0) :
    (meterV x s [k]).2.2 = 0 ∧ (meterV x s [k]).2.1 = 0 ∧ Un x (meterV x s [k]).1 (meterV x t [k]).1 := by
  obtain ⟨hu, hx, hs, ht⟩ := h
  rw [meterV_one hx ht] at he hc ⊢
  rw [meterV_one hx hs, hu.abr.1]
  by_cases hk : k < 0 ∨ 3 < k
  · rw [if_pos hk] at he; cases he
  rw [if_neg hk] at he hc ⊢
  rw [if_neg hk]
  by_cases hn : t.now = 40320
  · rw [if_pos hn] at he; cases he
  rw [if_neg hn] at hc ⊢
  rw [if_neg hn]
  have := ht.1
  obtain ⟨g1, g2⟩ := hu.step hx hc
  exact ⟨rfl, g1, g2, hx, (may_step k hs (by rw [hu.abr.1]; omega)).1, (may_step k ht (by omega)).1⟩

end Go.Proofs.Ytglgifhpacmhiaa
