/- What Long, Shift and Order of layer 2 return, for any spans of numbers of 64 bits. Conditions: the ends fit 64 bits. -/
import Derived.Test.YteijjkdfffmikaaRows
import Derived.Test.YteijjkdfffmikaaMath
import Derived.Test.YteijjkdfffmikaaBase
import Derived.Test.YteijjkdfffmikaaLeaf
import Derived.Test.YteijjkdfffmikaaAdd
import Derived.Test.YteijjkdfffmikaaIvalLeaf
import Derived.WalkKit
import Derived.WalkSpells
import Derived.WalkSmall
import Derived.Below
import Derived.Lib.Hide
import Derived.Outline
import Derived.Deep.RegionWith
namespace Go.Proofs.Yteijjkdfffmikaa
open Go.RowKit

/-- What Long, Shift and Order tell. -/
def longv (f t : Int) : Int × Int := if f < t then fit (t - f) else (0, 3)
def shiftv (f t n : Int) : Int × Int × Int := if f < t then (if (-9223372036854775808 ≤ f + n ∧ f + n ≤ 9223372036854775807) ∧ (-9223372036854775808 ≤ t + n ∧ t + n ≤ 9223372036854775807) then (f + n, t + n, 0) else (0, 0, 19)) else (0, 0, 3)
def ordv (a0 a1 b0 b1 : Int) : Int := if a0 = b0 ∧ a1 = b1 then 0 else if a0 < b0 ∨ (a0 = b0 ∧ a1 < b1) then -1 else 1

theorem long_any (f t : Int) (w : World) (hf : -9223372036854775808 ≤ f ∧ f ≤ 9223372036854775807) (ht : -9223372036854775808 ≤ t ∧ t ≤ 9223372036854775807) :
    Calls Try.prog 16 #[.agg #[.int .i64 f, .int .i64 t]] w fun e w' => e = .returned (.tuple #[.int .i64 ((longv f t).1), .int .i64 ((longv f t).2)]) ∧ Below w.heap.size w w' := by
  unfold longv
  by_cases h : f < t
  · rw [if_pos h]
    go_enter Try.func16, Try.ntmps16
    go_wp2_with (first | (go_at_call 11; refine (right_yes _ _ _ (by omega)).mono ?_; rintro e w1 ⟨rfl, hb1⟩; obtain ⟨hc1, hf1⟩ := bcell hb1; have hz1 := hb1.size; (try simp at hz1); have : w.heap.size < w1.heap.size := (by omega)) | (go_at_call 22; refine (sub_any _ _ _ ht hf).mono ?_; rintro e w' ⟨rfl, rfl⟩))
    go_ret2
    refine ⟨rfl, ?_⟩
    (repeat (first | exact Below.refl _ _ | (refine b_st ?_ (by first | (simp; done) | (simp; omega))) | (refine b_al ?_ (Nat.le_refl _) _) | refine b_dn ?_ | refine b_dr ?_ | (refine b_cl ?_ (Nat.le_refl _) (by assumption))))
  · rw [if_neg h]
    go_enter Try.func16, Try.ntmps16
    go_wp2_with (go_at_call 11; refine (right_no _ _ _ (by omega)).mono ?_; rintro e w1 ⟨rfl, hb1⟩; obtain ⟨hc1, hf1⟩ := bcell hb1; have hz1 := hb1.size; (try simp at hz1); have : w.heap.size < w1.heap.size := (by omega))
    go_ret2
    refine ⟨rfl, ?_⟩
    (repeat (first | exact Below.refl _ _ | (refine b_st ?_ (by first | (simp; done) | (simp; omega))) | (refine b_al ?_ (Nat.le_refl _) _) | refine b_dn ?_ | refine b_dr ?_ | (refine b_cl ?_ (Nat.le_refl _) (by assumption))))

theorem reflong_any (f t : Int) (w : World) (hf : -9223372036854775808 ≤ f ∧ f ≤ 9223372036854775807) (ht : -9223372036854775808 ≤ t ∧ t ≤ 9223372036854775807) :
    Calls Try.prog 17 #[.agg #[.int .i64 f, .int .i64 t]] w fun e w' => e = .returned (.tuple #[.int .i64 ((longv f t).1), .int .i64 ((longv f t).2)]) ∧ Below w.heap.size w w' := by
  unfold longv
  by_cases h : f < t
  · rw [if_pos h]
    go_enter Try.func17, Try.ntmps17
    go_wp2_with (first | (go_at_call 12; refine (refright_yes _ _ _ (by omega)).mono ?_; rintro e w1 ⟨rfl, hb1⟩; obtain ⟨hc1, hf1⟩ := bcell hb1; have hz1 := hb1.size; (try simp at hz1); have : w.heap.size < w1.heap.size := (by omega)) | (go_at_call 23; refine (refsub_any _ _ _ ht hf).mono ?_; rintro e w' ⟨rfl, rfl⟩))
    go_ret2
    refine ⟨rfl, ?_⟩
    (repeat (first | exact Below.refl _ _ | (refine b_st ?_ (by first | (simp; done) | (simp; omega))) | (refine b_al ?_ (Nat.le_refl _) _) | refine b_dn ?_ | refine b_dr ?_ | (refine b_cl ?_ (Nat.le_refl _) (by assumption))))
  · rw [if_neg h]
    go_enter Try.func17, Try.ntmps17
    go_wp2_with (go_at_call 12; refine (refright_no _ _ _ (by omega)).mono ?_; rintro e w1 ⟨rfl, hb1⟩; obtain ⟨hc1, hf1⟩ := bcell hb1; have hz1 := hb1.size; (try simp at hz1); have : w.heap.size < w1.heap.size := (by omega))
    go_ret2
    refine ⟨rfl, ?_⟩
    (repeat (first | exact Below.refl _ _ | (refine b_st ?_ (by first | (simp; done) | (simp; omega))) | (refine b_al ?_ (Nat.le_refl _) _) | refine b_dn ?_ | refine b_dr ?_ | (refine b_cl ?_ (Nat.le_refl _) (by assumption))))

theorem order_any (a0 a1 b0 b1 : Int) (w : World) :
    Calls Try.prog 20 #[.agg #[.int .i64 a0, .int .i64 a1], .agg #[.int .i64 b0, .int .i64 b1]] w fun e w' => e = .returned (.int .i64 (ordv a0 a1 b0 b1)) ∧ Below w.heap.size w w' := by
  unfold ordv
  by_cases h0 : a0 = b0
  · obtain rfl := h0
    by_cases h1 : a1 = b1
    · obtain rfl := h1
      rw [if_pos ⟨rfl, rfl⟩]
      go_enter Try.func20, Try.ntmps20
      go_wp2
      go_ret
      refine ⟨rfl, ?_⟩
      (repeat (first | exact Below.refl _ _ | (refine b_st ?_ (by first | (simp; done) | (simp; omega))) | (refine b_al ?_ (Nat.le_refl _) _) | refine b_dn ?_ | refine b_dr ?_ | (refine b_cl ?_ (Nat.le_refl _) (by assumption))))
    · rw [if_neg (fun k => h1 k.2)]
      by_cases h2 : a1 < b1
      · rw [if_pos (.inr ⟨rfl, h2⟩)]
        have e1 : (a1 == b1) = false := by simpa using h1
        have e2 : ¬ a0 < a0 := by omega
        have H := Lib.hid h1
        clear h1
        go_enter Try.func20, Try.ntmps20
        go_wp2
        go_ret
        refine ⟨rfl, ?_⟩
        (repeat (first | exact Below.refl _ _ | (refine b_st ?_ (by first | (simp; done) | (simp; omega))) | (refine b_al ?_ (Nat.le_refl _) _) | refine b_dn ?_ | refine b_dr ?_ | (refine b_cl ?_ (Nat.le_refl _) (by assumption))))
      · rw [if_neg (by omega)]
        have e1 : (a1 == b1) = false := by simpa using h1
        have e2 : ¬ a0 < a0 := by omega
        have H := Lib.hid h1
        clear h1
        go_enter Try.func20, Try.ntmps20
        go_wp2
        go_ret
        refine ⟨rfl, ?_⟩
        (repeat (first | exact Below.refl _ _ | (refine b_st ?_ (by first | (simp; done) | (simp; omega))) | (refine b_al ?_ (Nat.le_refl _) _) | refine b_dn ?_ | refine b_dr ?_ | (refine b_cl ?_ (Nat.le_refl _) (by assumption))))
  · rw [if_neg (fun k => h0 k.1)]
    have e1 : (a0 == b0) = false := by simpa using h0
    by_cases h2 : a0 < b0
    · rw [if_pos (.inl h2)]
      have H := Lib.hid h0
      clear h0
      go_enter Try.func20, Try.ntmps20
      go_wp2
      go_ret
      refine ⟨rfl, ?_⟩
      (repeat (first | exact Below.refl _ _ | (refine b_st ?_ (by first | (simp; done) | (simp; omega))) | (refine b_al ?_ (Nat.le_refl _) _) | refine b_dn ?_ | refine b_dr ?_ | (refine b_cl ?_ (Nat.le_refl _) (by assumption))))
    · rw [if_neg (by omega)]
      have H := Lib.hid h0
      clear h0
      go_enter Try.func20, Try.ntmps20
      go_wp2
      go_ret
      refine ⟨rfl, ?_⟩
      (repeat (first | exact Below.refl _ _ | (refine b_st ?_ (by first | (simp; done) | (simp; omega))) | (refine b_al ?_ (Nat.le_refl _) _) | refine b_dn ?_ | refine b_dr ?_ | (refine b_cl ?_ (Nat.le_refl _) (by assumption))))

theorem reforder_any (a0 a1 b0 b1 : Int) (w : World) :
    Calls Try.prog 21 #[.agg #[.int .i64 a0, .int .i64 a1], .agg #[.int .i64 b0, .int .i64 b1]] w fun e w' => e = .returned (.int .i64 (ordv a0 a1 b0 b1)) ∧ Below w.heap.size w w' := by
  unfold ordv
  by_cases h0 : a0 = b0
  · obtain rfl := h0
    by_cases h1 : a1 = b1
    · obtain rfl := h1
      rw [if_pos ⟨rfl, rfl⟩]
      go_enter Try.func21, Try.ntmps21
      go_wp2
      go_ret
      refine ⟨rfl, ?_⟩
      (repeat (first | exact Below.refl _ _ | (refine b_st ?_ (by first | (simp; done) | (simp; omega))) | (refine b_al ?_ (Nat.le_refl _) _) | refine b_dn ?_ | refine b_dr ?_ | (refine b_cl ?_ (Nat.le_refl _) (by assumption))))
    · rw [if_neg (fun k => h1 k.2)]
      by_cases h2 : a1 < b1
      · rw [if_pos (.inr ⟨rfl, h2⟩)]
        have e1 : (a1 == b1) = false := by simpa using h1
        have e2 : ¬ a0 < a0 := by omega
        have H := Lib.hid h1
        clear h1
        go_enter Try.func21, Try.ntmps21
        go_wp2
        go_ret
        refine ⟨rfl, ?_⟩
        (repeat (first | exact Below.refl _ _ | (refine b_st ?_ (by first | (simp; done) | (simp; omega))) | (refine b_al ?_ (Nat.le_refl _) _) | refine b_dn ?_ | refine b_dr ?_ | (refine b_cl ?_ (Nat.le_refl _) (by assumption))))
      · rw [if_neg (by omega)]
        have e1 : (a1 == b1) = false := by simpa using h1
        have e2 : ¬ a0 < a0 := by omega
        have H := Lib.hid h1
        clear h1
        go_enter Try.func21, Try.ntmps21
        go_wp2
        go_ret
        refine ⟨rfl, ?_⟩
        (repeat (first | exact Below.refl _ _ | (refine b_st ?_ (by first | (simp; done) | (simp; omega))) | (refine b_al ?_ (Nat.le_refl _) _) | refine b_dn ?_ | refine b_dr ?_ | (refine b_cl ?_ (Nat.le_refl _) (by assumption))))
  · rw [if_neg (fun k => h0 k.1)]
    have e1 : (a0 == b0) = false := by simpa using h0
    by_cases h2 : a0 < b0
    · rw [if_pos (.inl h2)]
      have H := Lib.hid h0
      clear h0
      go_enter Try.func21, Try.ntmps21
      go_wp2
      go_ret
      refine ⟨rfl, ?_⟩
      (repeat (first | exact Below.refl _ _ | (refine b_st ?_ (by first | (simp; done) | (simp; omega))) | (refine b_al ?_ (Nat.le_refl _) _) | refine b_dn ?_ | refine b_dr ?_ | (refine b_cl ?_ (Nat.le_refl _) (by assumption))))
    · rw [if_neg (by omega)]
      have H := Lib.hid h0
      clear h0
      go_enter Try.func21, Try.ntmps21
      go_wp2
      go_ret
      refine ⟨rfl, ?_⟩
      (repeat (first | exact Below.refl _ _ | (refine b_st ?_ (by first | (simp; done) | (simp; omega))) | (refine b_al ?_ (Nat.le_refl _) _) | refine b_dn ?_ | refine b_dr ?_ | (refine b_cl ?_ (Nat.le_refl _) (by assumption))))

theorem add_in (b cap : Nat) (x y : Int) (w : World) (h0 : w.cell? ⟨b, 0, none⟩ = some (.int .i64 x)) (h1 : w.cell? ⟨b, 1, none⟩ = some (.int .i64 y))
    (hx : -9223372036854775808 ≤ x ∧ x ≤ 9223372036854775807) (hy : -9223372036854775808 ≤ y ∧ y ≤ 9223372036854775807) (h : -9223372036854775808 ≤ x + y ∧ x + y ≤ 9223372036854775807) :
    Calls Try.prog 24 #[.slice (some ⟨b, 0, none⟩) 2 cap] w fun e w' => e = .returned (.tuple #[.int .i64 (x + y), .int .i64 0]) ∧ w = w' := by
  have k := add_two b cap x y w h0 h1 hx hy
  rwa [fit_in _ h.1 h.2] at k

theorem add_out (b cap : Nat) (x y : Int) (w : World) (h0 : w.cell? ⟨b, 0, none⟩ = some (.int .i64 x)) (h1 : w.cell? ⟨b, 1, none⟩ = some (.int .i64 y))
    (hx : -9223372036854775808 ≤ x ∧ x ≤ 9223372036854775807) (hy : -9223372036854775808 ≤ y ∧ y ≤ 9223372036854775807) (h : ¬ (-9223372036854775808 ≤ x + y ∧ x + y ≤ 9223372036854775807)) :
    Calls Try.prog 24 #[.slice (some ⟨b, 0, none⟩) 2 cap] w fun e w' => e = .returned (.tuple #[.int .i64 0, .int .i64 19]) ∧ w = w' := by
  have k := add_two b cap x y w h0 h1 hx hy
  rwa [fit_out _ h] at k

theorem shift_no (f t n : Int) (w : World)  (h : ¬ f < t) :
    Calls Try.prog 18 #[.agg #[.int .i64 f, .int .i64 t], .int .i64 n] w fun e w' => e = .returned (.tuple #[.agg #[.int .i64 0, .int .i64 0], .int .i64 3]) ∧ Below w.heap.size w w' := by
  go_enter Try.func18, Try.ntmps18
  go_wp2_with (go_at_call 11; refine (right_no _ _ _ (by omega)).mono ?_; rintro e w1 ⟨rfl, hb1⟩; obtain ⟨hc1, hf1⟩ := bcell hb1; have hz1 := hb1.size; (try simp at hz1); have : w.heap.size < w1.heap.size := (by omega); have : w.heap.size + 1 < w1.heap.size := (by omega))
  refine bodyPost_ret (v := .tuple #[.agg #[.int .i64 0, .int .i64 0], .int .i64 3]) (by simp [results, Try.results18, go_sem, *]) rfl ⟨rfl, ?_⟩
  (repeat (first | exact Below.refl _ _ | (refine b_st ?_ (by first | (simp; done) | (simp; omega))) | (refine b_al ?_ (Nat.le_refl _) _) | refine b_dn ?_ | refine b_dr ?_ | (refine b_cl ?_ (Nat.le_refl _) (by assumption))))

theorem shift_out1 (f t n : Int) (w : World) (hf : -9223372036854775808 ≤ f ∧ f ≤ 9223372036854775807) (hn : -9223372036854775808 ≤ n ∧ n ≤ 9223372036854775807) (h : f < t) (k1 : ¬ (-9223372036854775808 ≤ f + n ∧ f + n ≤ 9223372036854775807)) :
    Calls Try.prog 18 #[.agg #[.int .i64 f, .int .i64 t], .int .i64 n] w fun e w' => e = .returned (.tuple #[.agg #[.int .i64 0, .int .i64 0], .int .i64 19]) ∧ Below w.heap.size w w' := by
  have K1 := Lib.hid k1
  clear k1
  have tokf : True := trivial
  go_enter Try.func18, Try.ntmps18
  go_wp2_with (first | (go_at_call 11; refine (right_yes _ _ _ (by omega)).mono ?_; rintro e w1 ⟨rfl, hb1⟩; obtain ⟨hc1, hf1⟩ := bcell hb1; have hz1 := hb1.size; (try simp at hz1); have : w.heap.size < w1.heap.size := (by omega); have : w.heap.size + 1 < w1.heap.size := (by omega)) | (go_at_call 24; have _t := tokf; go_must (refine (add_out _ _ f n _ ?_ ?_ hf hn K1.out).mono ?_; (focus simp); (focus simp)); rintro e w' ⟨rfl, rfl⟩; clear tokf))
  refine bodyPost_ret (v := .tuple #[.agg #[.int .i64 0, .int .i64 0], .int .i64 19]) (by simp [results, Try.results18, go_sem, *]) rfl ⟨rfl, ?_⟩
  (repeat (first | exact Below.refl _ _ | (refine b_st ?_ (by first | (simp; done) | (simp; omega))) | (refine b_al ?_ (Nat.le_refl _) _) | refine b_dn ?_ | refine b_dr ?_ | (refine b_cl ?_ (Nat.le_refl _) (by assumption))))

theorem shift_out2 (f t n : Int) (w : World) (hf : -9223372036854775808 ≤ f ∧ f ≤ 9223372036854775807) (hn : -9223372036854775808 ≤ n ∧ n ≤ 9223372036854775807) (ht : -9223372036854775808 ≤ t ∧ t ≤ 9223372036854775807) (h : f < t) (k1 : -9223372036854775808 ≤ f + n ∧ f + n ≤ 9223372036854775807) (k2 : ¬ (-9223372036854775808 ≤ t + n ∧ t + n ≤ 9223372036854775807)) :
    Calls Try.prog 18 #[.agg #[.int .i64 f, .int .i64 t], .int .i64 n] w fun e w' => e = .returned (.tuple #[.agg #[.int .i64 0, .int .i64 0], .int .i64 19]) ∧ Below w.heap.size w w' := by
  have K1 := Lib.hid k1
  clear k1
  have K2 := Lib.hid k2
  clear k2
  have tokf : True := trivial
  have tokt : True := trivial
  go_enter Try.func18, Try.ntmps18
  go_wp2_with (first | (go_at_call 11; refine (right_yes _ _ _ (by omega)).mono ?_; rintro e w1 ⟨rfl, hb1⟩; obtain ⟨hc1, hf1⟩ := bcell hb1; have hz1 := hb1.size; (try simp at hz1); have : w.heap.size < w1.heap.size := (by omega); have : w.heap.size + 1 < w1.heap.size := (by omega)) | (go_at_call 24; have _t := tokf; go_must (refine (add_in _ _ f n _ ?_ ?_ hf hn K1.out).mono ?_; (focus simp); (focus simp)); rintro e w' ⟨rfl, rfl⟩; clear tokf) | (go_at_call 24; have _t := tokt; go_must (refine (add_out _ _ t n _ ?_ ?_ ht hn K2.out).mono ?_; (focus simp); (focus simp)); rintro e w' ⟨rfl, rfl⟩; clear tokt))
  refine bodyPost_ret (v := .tuple #[.agg #[.int .i64 0, .int .i64 0], .int .i64 19]) (by simp [results, Try.results18, go_sem, *]) rfl ⟨rfl, ?_⟩
  (repeat (first | exact Below.refl _ _ | (refine b_st ?_ (by first | (simp; done) | (simp; omega))) | (refine b_al ?_ (Nat.le_refl _) _) | refine b_dn ?_ | refine b_dr ?_ | (refine b_cl ?_ (Nat.le_refl _) (by assumption))))

theorem shift_in (f t n : Int) (w : World) (hf : -9223372036854775808 ≤ f ∧ f ≤ 9223372036854775807) (hn : -9223372036854775808 ≤ n ∧ n ≤ 9223372036854775807) (ht : -9223372036854775808 ≤ t ∧ t ≤ 9223372036854775807) (h : f < t) (k1 : -9223372036854775808 ≤ f + n ∧ f + n ≤ 9223372036854775807) (k2 : -9223372036854775808 ≤ t + n ∧ t + n ≤ 9223372036854775807) :
    Calls Try.prog 18 #[.agg #[.int .i64 f, .int .i64 t], .int .i64 n] w fun e w' => e = .returned (.tuple #[.agg #[.int .i64 (f + n), .int .i64 (t + n)], .int .i64 0]) ∧ Below w.heap.size w w' := by
  have K1 := Lib.hid k1
  clear k1
  have K2 := Lib.hid k2
  clear k2
  have tokf : True := trivial
  have tokt : True := trivial
  go_enter Try.func18, Try.ntmps18
  go_wp2_with (first | (go_at_call 11; refine (right_yes _ _ _ (by omega)).mono ?_; rintro e w1 ⟨rfl, hb1⟩; obtain ⟨hc1, hf1⟩ := bcell hb1; have hz1 := hb1.size; (try simp at hz1); have : w.heap.size < w1.heap.size := (by omega); have : w.heap.size + 1 < w1.heap.size := (by omega)) | (go_at_call 24; have _t := tokf; go_must (refine (add_in _ _ f n _ ?_ ?_ hf hn K1.out).mono ?_; (focus simp); (focus simp)); rintro e w' ⟨rfl, rfl⟩; clear tokf) | (go_at_call 24; have _t := tokt; go_must (refine (add_in _ _ t n _ ?_ ?_ ht hn K2.out).mono ?_; (focus simp); (focus simp)); rintro e w' ⟨rfl, rfl⟩; clear tokt))
  refine bodyPost_ret (v := .tuple #[.agg #[.int .i64 (f + n), .int .i64 (t + n)], .int .i64 0]) (by simp [results, Try.results18, go_sem, *]) rfl ⟨rfl, ?_⟩
  (repeat (first | exact Below.refl _ _ | (refine b_st ?_ (by first | (simp; done) | (simp; omega))) | (refine b_al ?_ (Nat.le_refl _) _) | refine b_dn ?_ | refine b_dr ?_ | (refine b_cl ?_ (Nat.le_refl _) (by assumption))))

theorem shift_any (f t n : Int) (w : World) (hf : -9223372036854775808 ≤ f ∧ f ≤ 9223372036854775807) (ht : -9223372036854775808 ≤ t ∧ t ≤ 9223372036854775807) (hn : -9223372036854775808 ≤ n ∧ n ≤ 9223372036854775807) :
    Calls Try.prog 18 #[.agg #[.int .i64 f, .int .i64 t], .int .i64 n] w fun e w' => e = .returned (.tuple #[.agg #[.int .i64 ((shiftv f t n).1), .int .i64 ((shiftv f t n).2.1)], .int .i64 ((shiftv f t n).2.2)]) ∧ Below w.heap.size w w' := by
  unfold shiftv
  by_cases h : f < t
  · rw [if_pos h]
    by_cases k1 : -9223372036854775808 ≤ f + n ∧ f + n ≤ 9223372036854775807
    · by_cases k2 : -9223372036854775808 ≤ t + n ∧ t + n ≤ 9223372036854775807
      · rw [if_pos ⟨k1, k2⟩]; exact shift_in f t n w hf hn ht h k1 k2
      · rw [if_neg (fun k => k2 k.2)]; exact shift_out2 f t n w hf hn ht h k1 k2
    · rw [if_neg (fun k => k1 k.1)]; exact shift_out1 f t n w hf hn h k1
  · rw [if_neg h]; exact shift_no f t n w h

theorem refshift_no (f t n : Int) (w : World)  (h : ¬ f < t) :
    Calls Try.prog 19 #[.agg #[.int .i64 f, .int .i64 t], .int .i64 n] w fun e w' => e = .returned (.tuple #[.agg #[.int .i64 0, .int .i64 0], .int .i64 3]) ∧ Below w.heap.size w w' := by
  go_enter Try.func19, Try.ntmps19
  go_wp2_with (go_at_call 12; refine (refright_no _ _ _ (by omega)).mono ?_; rintro e w1 ⟨rfl, hb1⟩; obtain ⟨hc1, hf1⟩ := bcell hb1; have hz1 := hb1.size; (try simp at hz1); have : w.heap.size < w1.heap.size := (by omega); have : w.heap.size + 1 < w1.heap.size := (by omega))
  refine bodyPost_ret (v := .tuple #[.agg #[.int .i64 0, .int .i64 0], .int .i64 3]) (by simp [results, Try.results19, go_sem, *]) rfl ⟨rfl, ?_⟩
  (repeat (first | exact Below.refl _ _ | (refine b_st ?_ (by first | (simp; done) | (simp; omega))) | (refine b_al ?_ (Nat.le_refl _) _) | refine b_dn ?_ | refine b_dr ?_ | (refine b_cl ?_ (Nat.le_refl _) (by assumption))))

theorem refshift_out1 (f t n : Int) (w : World) (hf : -9223372036854775808 ≤ f ∧ f ≤ 9223372036854775807) (hn : -9223372036854775808 ≤ n ∧ n ≤ 9223372036854775807) (ht : -9223372036854775808 ≤ t ∧ t ≤ 9223372036854775807) (h : f < t) (k1 : ¬ (-9223372036854775808 ≤ f + n ∧ f + n ≤ 9223372036854775807)) :
    Calls Try.prog 19 #[.agg #[.int .i64 f, .int .i64 t], .int .i64 n] w fun e w' => e = .returned (.tuple #[.agg #[.int .i64 0, .int .i64 0], .int .i64 19]) ∧ Below w.heap.size w w' := by
  have K1 := Lib.hid k1
  clear k1
  have tokf : True := trivial
  have tokt : True := trivial
  go_enter Try.func19, Try.ntmps19
  go_wp2_with (first | (go_at_call 12; refine (refright_yes _ _ _ (by omega)).mono ?_; rintro e w1 ⟨rfl, hb1⟩; obtain ⟨hc1, hf1⟩ := bcell hb1; have hz1 := hb1.size; (try simp at hz1); have : w.heap.size < w1.heap.size := (by omega); have : w.heap.size + 1 < w1.heap.size := (by omega)) | (go_at_call 25; have _t := tokf; refine (two_out f n _ hf hn K1.out).mono ?_; rintro e w' ⟨rfl, rfl⟩; clear tokf) | (go_at_call 25; have _t := tokt; refine (two_any t n _ ht hn).mono ?_; rintro e w' ⟨rfl, rfl⟩; clear tokt))
  refine bodyPost_ret (v := .tuple #[.agg #[.int .i64 0, .int .i64 0], .int .i64 19]) (by simp [results, Try.results19, go_sem, *]) rfl ⟨rfl, ?_⟩
  (repeat (first | exact Below.refl _ _ | (refine b_st ?_ (by first | (simp; done) | (simp; omega))) | (refine b_al ?_ (Nat.le_refl _) _) | refine b_dn ?_ | refine b_dr ?_ | (refine b_cl ?_ (Nat.le_refl _) (by assumption))))

theorem refshift_out2 (f t n : Int) (w : World) (hf : -9223372036854775808 ≤ f ∧ f ≤ 9223372036854775807) (hn : -9223372036854775808 ≤ n ∧ n ≤ 9223372036854775807) (ht : -9223372036854775808 ≤ t ∧ t ≤ 9223372036854775807) (h : f < t) (k1 : -9223372036854775808 ≤ f + n ∧ f + n ≤ 9223372036854775807) (k2 : ¬ (-9223372036854775808 ≤ t + n ∧ t + n ≤ 9223372036854775807)) :
    Calls Try.prog 19 #[.agg #[.int .i64 f, .int .i64 t], .int .i64 n] w fun e w' => e = .returned (.tuple #[.agg #[.int .i64 0, .int .i64 0], .int .i64 19]) ∧ Below w.heap.size w w' := by
  have K1 := Lib.hid k1
  clear k1
  have K2 := Lib.hid k2
  clear k2
  have tokf : True := trivial
  have tokt : True := trivial
  go_enter Try.func19, Try.ntmps19
  go_wp2_with (first | (go_at_call 12; refine (refright_yes _ _ _ (by omega)).mono ?_; rintro e w1 ⟨rfl, hb1⟩; obtain ⟨hc1, hf1⟩ := bcell hb1; have hz1 := hb1.size; (try simp at hz1); have : w.heap.size < w1.heap.size := (by omega); have : w.heap.size + 1 < w1.heap.size := (by omega)) | (go_at_call 25; have _t := tokf; refine (two_in f n _ hf hn K1.out).mono ?_; rintro e w' ⟨rfl, rfl⟩; clear tokf) | (go_at_call 25; have _t := tokt; refine (two_out t n _ ht hn K2.out).mono ?_; rintro e w' ⟨rfl, rfl⟩; clear tokt))
  refine bodyPost_ret (v := .tuple #[.agg #[.int .i64 0, .int .i64 0], .int .i64 19]) (by simp [results, Try.results19, go_sem, *]) rfl ⟨rfl, ?_⟩
  (repeat (first | exact Below.refl _ _ | (refine b_st ?_ (by first | (simp; done) | (simp; omega))) | (refine b_al ?_ (Nat.le_refl _) _) | refine b_dn ?_ | refine b_dr ?_ | (refine b_cl ?_ (Nat.le_refl _) (by assumption))))

theorem refshift_in (f t n : Int) (w : World) (hf : -9223372036854775808 ≤ f ∧ f ≤ 9223372036854775807) (hn : -9223372036854775808 ≤ n ∧ n ≤ 9223372036854775807) (ht : -9223372036854775808 ≤ t ∧ t ≤ 9223372036854775807) (h : f < t) (k1 : -9223372036854775808 ≤ f + n ∧ f + n ≤ 9223372036854775807) (k2 : -9223372036854775808 ≤ t + n ∧ t + n ≤ 9223372036854775807) :
    Calls Try.prog 19 #[.agg #[.int .i64 f, .int .i64 t], .int .i64 n] w fun e w' => e = .returned (.tuple #[.agg #[.int .i64 (f + n), .int .i64 (t + n)], .int .i64 0]) ∧ Below w.heap.size w w' := by
  have K1 := Lib.hid k1
  clear k1
  have K2 := Lib.hid k2
  clear k2
  have tokf : True := trivial
  have tokt : True := trivial
  go_enter Try.func19, Try.ntmps19
  go_wp2_with (first | (go_at_call 12; refine (refright_yes _ _ _ (by omega)).mono ?_; rintro e w1 ⟨rfl, hb1⟩; obtain ⟨hc1, hf1⟩ := bcell hb1; have hz1 := hb1.size; (try simp at hz1); have : w.heap.size < w1.heap.size := (by omega); have : w.heap.size + 1 < w1.heap.size := (by omega)) | (go_at_call 25; have _t := tokf; refine (two_in f n _ hf hn K1.out).mono ?_; rintro e w' ⟨rfl, rfl⟩; clear tokf) | (go_at_call 25; have _t := tokt; refine (two_in t n _ ht hn K2.out).mono ?_; rintro e w' ⟨rfl, rfl⟩; clear tokt))
  refine bodyPost_ret (v := .tuple #[.agg #[.int .i64 (f + n), .int .i64 (t + n)], .int .i64 0]) (by simp [results, Try.results19, go_sem, *]) rfl ⟨rfl, ?_⟩
  (repeat (first | exact Below.refl _ _ | (refine b_st ?_ (by first | (simp; done) | (simp; omega))) | (refine b_al ?_ (Nat.le_refl _) _) | refine b_dn ?_ | refine b_dr ?_ | (refine b_cl ?_ (Nat.le_refl _) (by assumption))))

theorem refshift_any (f t n : Int) (w : World) (hf : -9223372036854775808 ≤ f ∧ f ≤ 9223372036854775807) (ht : -9223372036854775808 ≤ t ∧ t ≤ 9223372036854775807) (hn : -9223372036854775808 ≤ n ∧ n ≤ 9223372036854775807) :
    Calls Try.prog 19 #[.agg #[.int .i64 f, .int .i64 t], .int .i64 n] w fun e w' => e = .returned (.tuple #[.agg #[.int .i64 ((shiftv f t n).1), .int .i64 ((shiftv f t n).2.1)], .int .i64 ((shiftv f t n).2.2)]) ∧ Below w.heap.size w w' := by
  unfold shiftv
  by_cases h : f < t
  · rw [if_pos h]
    by_cases k1 : -9223372036854775808 ≤ f + n ∧ f + n ≤ 9223372036854775807
    · by_cases k2 : -9223372036854775808 ≤ t + n ∧ t + n ≤ 9223372036854775807
      · rw [if_pos ⟨k1, k2⟩]; exact refshift_in f t n w hf hn ht h k1 k2
      · rw [if_neg (fun k => k2 k.2)]; exact refshift_out2 f t n w hf hn ht h k1 k2
    · rw [if_neg (fun k => k1 k.1)]; exact refshift_out1 f t n w hf hn ht h k1
  · rw [if_neg h]; exact refshift_no f t n w h

end Go.Proofs.Yteijjkdfffmikaa
