/- What Span of layer 6 returns, and the document's own, for any text. Conditions: as each theorem says; the program's listed variables are laid. -/
import Derived.Test.YtdepglceffpfhaaDoorWordTold
namespace Go.Proofs.YtdepglceffpfhaaDoor
open Go.RowKit

/-- The six ways of a span: of the numbers and errors of both texts, which span and which error is told. -/
def Ways (n1 e1 n2 e2 x y g : Int) : Prop :=
  ((e1 == 7) = true ∧ x = 0 ∧ y = 0 ∧ g = 7) ∨
  ((e1 == 7) = false ∧ (e2 == 7) = true ∧ x = 0 ∧ y = 0 ∧ g = 7) ∨
  ((e1 == 7) = false ∧ (e2 == 7) = false ∧ (e1 != 0) = true ∧ x = 0 ∧ y = 0 ∧ g = 4) ∨
  ((e1 == 7) = false ∧ (e2 == 7) = false ∧ (e1 != 0) = false ∧ (e2 != 0) = true ∧ x = 0 ∧ y = 0 ∧ g = 4) ∨
  ((e1 == 7) = false ∧ (e2 == 7) = false ∧ (e1 != 0) = false ∧ (e2 != 0) = false ∧ n2 ≤ n1 ∧ x = 0 ∧ y = 0 ∧ g = 3) ∨
  ((e1 == 7) = false ∧ (e2 == 7) = false ∧ (e1 != 0) = false ∧ (e2 != 0) = false ∧ ¬ n2 ≤ n1 ∧ x = n1 ∧ y = n2 ∧ g = 0)

theorem pair_ways (a b : ByteArray) : Ways (numberV a 40320).1 (numberV a 40320).2 (numberV b 40320).1 (numberV b 40320).2 (pairV a b).1 (pairV a b).2.1 (pairV a b).2.2 := by
  by_cases ha : numOk a
  · by_cases hb : numOk b
    · by_cases h1 : numV a ≤ 40320
      · by_cases h2 : numV b ≤ 40320
        · rw [number_good ha (by omega), number_good hb (by omega)]
          by_cases h : numV b ≤ numV a
          · rw [pair_span ha hb h1 h2 h]
            exact .inr (.inr (.inr (.inr (.inl ⟨rfl, rfl, rfl, rfl, by simp only []; omega, rfl, rfl, rfl⟩))))
          · rw [pair_good ha hb h1 h2 (by omega)]
            exact .inr (.inr (.inr (.inr (.inr ⟨rfl, rfl, rfl, rfl, by simp only []; omega, rfl, rfl, rfl⟩))))
        · rw [number_good ha (by omega), number_far hb (by omega), pair_far ha hb (by omega)]
          exact .inr (.inr (.inr (.inl ⟨rfl, rfl, rfl, rfl, rfl, rfl, rfl⟩)))
      · rw [number_far ha (by omega), pair_far ha hb (by omega)]
        by_cases h2 : numV b ≤ 40320
        · rw [number_good hb (by omega)]
          exact .inr (.inr (.inl ⟨rfl, rfl, rfl, rfl, rfl, rfl⟩))
        · rw [number_far hb (by omega)]
          exact .inr (.inr (.inl ⟨rfl, rfl, rfl, rfl, rfl, rfl⟩))
    · rw [number_form hb, pair_form (.inr hb)]
      by_cases h1 : numV a ≤ 40320
      · rw [number_good ha (by omega)]
        exact .inr (.inl ⟨rfl, rfl, rfl, rfl, rfl⟩)
      · rw [number_far ha (by omega)]
        exact .inr (.inl ⟨rfl, rfl, rfl, rfl, rfl⟩)
  · rw [number_form ha, pair_form (.inl ha)]
    exact .inl ⟨rfl, rfl, rfl, rfl⟩

theorem cut_sizes (s : ByteArray) : (ahead s).size ≤ s.size ∧ (behind s).size ≤ s.size := by
  by_cases h : ∃ p, p < s.size ∧ bt s p = 45
  · obtain ⟨p, hp, hb, hn⟩ : ∃ p, p < s.size ∧ bt s p = 45 ∧ ∀ j, j < p → bt s j ≠ 45 := by
      obtain ⟨p, hp, hb⟩ := h
      induction p using Nat.strongRecOn with
      | _ p ih =>
        by_cases hj : ∃ j, j < p ∧ bt s j = 45
        · obtain ⟨j, hj, hjb⟩ := hj
          exact ih j hj (by omega) hjb
        · exact ⟨p, hp, hb, fun j hj2 hjb => hj ⟨j, hj2, hjb⟩⟩
    obtain ⟨e1, e2⟩ := cut_at hp hb hn
    rw [e1, e2, ByteArray.size_extract, ByteArray.size_extract]
    omega
  · obtain ⟨e1, e2⟩ := cut_none (s := s) (fun j hj hb => h ⟨j, hj, hb⟩)
    rw [e1, e2]
    exact ⟨Nat.le_refl _, Nat.zero_le _⟩

theorem cuts_any (s : ByteArray) (w : World) (hl : Laid6 w) (hs : s.size < 4294967281) :
    Calls Tryd.prog 49 #[.string s, .string ⟨#[45]⟩] w fun e w' => (∃ g, e = .returned (.tuple #[.string (ahead s), .string (behind s), .bool g])) ∧ Below w.heap.size w w' := by
  obtain ⟨m, hm⟩ := hl.most
  exact (cut_any s ⟨#[45]⟩ m w hs hm).mono fun e w' ⟨he, n, hw⟩ => ⟨⟨_, he⟩, by rw [hw]; exact b_dn (Below.refl _ _)⟩

set_option maxHeartbeats 1000000 in
theorem span_any (s : ByteArray) (w : World) (hl : Laid6 w) (hs : s.size ≤ 1000000) :
    Calls Tryd.prog 35 #[.string s] w fun e w' => e = .returned (.tuple #[.agg #[.int .i64 (spanV s).1, .int .i64 (spanV s).2.1], .int .i64 (spanV s).2.2]) ∧ Below w.heap.size w w' := by
  have hz := cut_sizes s
  have C0 := fun W (h : Laid6 W) => cuts_any s W h (by omega)
  have C1 := fun W (h : Laid6 W) => number_any (ahead s) 40320 W h (by omega) (by omega)
  have C2 := fun W (h : Laid6 W) => number_any (behind s) 40320 W h (by omega) (by omega)
  have H := pair_ways (ahead s) (behind s)
  have e0 : spanV s = pairV (ahead s) (behind s) := rfl
  rw [← e0] at H
  clear e0 hz
  have L0 : Laid6 (w.alloc (.cells #[.int .i64 0, .int .i64 0] 60)) := hl.below ((Below.refl _ _).alloc (Nat.le_refl _) _)
  clear hl
  generalize ahead s = a at C0 C1 H
  generalize behind s = b at C0 C2 H
  generalize (numberV a 40320).1 = n1 at C1 H
  generalize (numberV a 40320).2 = e1 at C1 H
  generalize (numberV b 40320).1 = n2 at C2 H
  generalize (numberV b 40320).2 = e2 at C2 H
  generalize (spanV s).1 = x at H
  generalize (spanV s).2.1 = y at H
  generalize (spanV s).2.2 = g at H
  unfold Ways at H
  rcases H with ⟨q1, rfl, rfl, rfl⟩ | ⟨q1, q2, rfl, rfl, rfl⟩ | ⟨q1, q2, q3, rfl, rfl, rfl⟩ | ⟨q1, q2, q3, q4, rfl, rfl, rfl⟩ | ⟨q1, q2, q3, q4, q5, rfl, rfl, rfl⟩ | ⟨q1, q2, q3, q4, q5, hx, hy, rfl⟩
  · go_enter Tryd.func35, Tryd.ntmps35
    go_wp2_with (first
    | (go_at_call 49; (with_reducible refine (C0 _ L0).mono ?_); rintro e w1 ⟨⟨gg, rfl⟩, hb1⟩; obtain ⟨hc1, hf1⟩ := bcell hb1; have hz1 := hb1.size; (try simp at hz1); have hlt1 : w.heap.size < w1.heap.size := (by omega); have L1 := L0.below hb1)
    | (go_at_call 50; (with_reducible refine (C1 _ L1).mono ?_); rintro e w2 ⟨rfl, hb2⟩; obtain ⟨hc2, hf2⟩ := bcell hb2; have hz2 := hb2.size; (try simp at hz2); have hlt2 : w.heap.size < w2.heap.size := (by omega); have L2 := L1.below hb2)
    | (go_at_call 50; (with_reducible refine (C2 _ L2).mono ?_); rintro e w3 ⟨rfl, hb3⟩; obtain ⟨hc3, hf3⟩ := bcell hb3; have hz3 := hb3.size; (try simp at hz3); have hlt3 : w.heap.size < w3.heap.size := (by omega)))
    refine bodyPost_ret (v := .tuple #[.agg #[.int .i64 0, .int .i64 0], .int .i64 7]) (by simp [results, Tryd.results35, go_sem, *]) rfl ⟨rfl, ?_⟩
    (repeat (first | assumption | exact Below.refl _ _ | (refine b_st ?_ (by first | (simp; done) | (simp; omega))) | (refine b_al ?_ (Nat.le_refl _) _) | refine b_dn ?_ | refine b_dr ?_ | (refine b_cl ?_ (Nat.le_refl _) (by assumption))))
  · go_enter Tryd.func35, Tryd.ntmps35
    go_wp2_with (first
    | (go_at_call 49; (with_reducible refine (C0 _ L0).mono ?_); rintro e w1 ⟨⟨gg, rfl⟩, hb1⟩; obtain ⟨hc1, hf1⟩ := bcell hb1; have hz1 := hb1.size; (try simp at hz1); have hlt1 : w.heap.size < w1.heap.size := (by omega); have L1 := L0.below hb1)
    | (go_at_call 50; (with_reducible refine (C1 _ L1).mono ?_); rintro e w2 ⟨rfl, hb2⟩; obtain ⟨hc2, hf2⟩ := bcell hb2; have hz2 := hb2.size; (try simp at hz2); have hlt2 : w.heap.size < w2.heap.size := (by omega); have L2 := L1.below hb2)
    | (go_at_call 50; (with_reducible refine (C2 _ L2).mono ?_); rintro e w3 ⟨rfl, hb3⟩; obtain ⟨hc3, hf3⟩ := bcell hb3; have hz3 := hb3.size; (try simp at hz3); have hlt3 : w.heap.size < w3.heap.size := (by omega)))
    refine bodyPost_ret (v := .tuple #[.agg #[.int .i64 0, .int .i64 0], .int .i64 7]) (by simp [results, Tryd.results35, go_sem, *]) rfl ⟨rfl, ?_⟩
    (repeat (first | assumption | exact Below.refl _ _ | (refine b_st ?_ (by first | (simp; done) | (simp; omega))) | (refine b_al ?_ (Nat.le_refl _) _) | refine b_dn ?_ | refine b_dr ?_ | (refine b_cl ?_ (Nat.le_refl _) (by assumption))))
  · go_enter Tryd.func35, Tryd.ntmps35
    go_wp2_with (first
    | (go_at_call 49; (with_reducible refine (C0 _ L0).mono ?_); rintro e w1 ⟨⟨gg, rfl⟩, hb1⟩; obtain ⟨hc1, hf1⟩ := bcell hb1; have hz1 := hb1.size; (try simp at hz1); have hlt1 : w.heap.size < w1.heap.size := (by omega); have L1 := L0.below hb1)
    | (go_at_call 50; (with_reducible refine (C1 _ L1).mono ?_); rintro e w2 ⟨rfl, hb2⟩; obtain ⟨hc2, hf2⟩ := bcell hb2; have hz2 := hb2.size; (try simp at hz2); have hlt2 : w.heap.size < w2.heap.size := (by omega); have L2 := L1.below hb2)
    | (go_at_call 50; (with_reducible refine (C2 _ L2).mono ?_); rintro e w3 ⟨rfl, hb3⟩; obtain ⟨hc3, hf3⟩ := bcell hb3; have hz3 := hb3.size; (try simp at hz3); have hlt3 : w.heap.size < w3.heap.size := (by omega)))
    refine bodyPost_ret (v := .tuple #[.agg #[.int .i64 0, .int .i64 0], .int .i64 4]) (by simp [results, Tryd.results35, go_sem, *]) rfl ⟨rfl, ?_⟩
    (repeat (first | assumption | exact Below.refl _ _ | (refine b_st ?_ (by first | (simp; done) | (simp; omega))) | (refine b_al ?_ (Nat.le_refl _) _) | refine b_dn ?_ | refine b_dr ?_ | (refine b_cl ?_ (Nat.le_refl _) (by assumption))))
  · go_enter Tryd.func35, Tryd.ntmps35
    go_wp2_with (first
    | (go_at_call 49; (with_reducible refine (C0 _ L0).mono ?_); rintro e w1 ⟨⟨gg, rfl⟩, hb1⟩; obtain ⟨hc1, hf1⟩ := bcell hb1; have hz1 := hb1.size; (try simp at hz1); have hlt1 : w.heap.size < w1.heap.size := (by omega); have L1 := L0.below hb1)
    | (go_at_call 50; (with_reducible refine (C1 _ L1).mono ?_); rintro e w2 ⟨rfl, hb2⟩; obtain ⟨hc2, hf2⟩ := bcell hb2; have hz2 := hb2.size; (try simp at hz2); have hlt2 : w.heap.size < w2.heap.size := (by omega); have L2 := L1.below hb2)
    | (go_at_call 50; (with_reducible refine (C2 _ L2).mono ?_); rintro e w3 ⟨rfl, hb3⟩; obtain ⟨hc3, hf3⟩ := bcell hb3; have hz3 := hb3.size; (try simp at hz3); have hlt3 : w.heap.size < w3.heap.size := (by omega)))
    refine bodyPost_ret (v := .tuple #[.agg #[.int .i64 0, .int .i64 0], .int .i64 4]) (by simp [results, Tryd.results35, go_sem, *]) rfl ⟨rfl, ?_⟩
    (repeat (first | assumption | exact Below.refl _ _ | (refine b_st ?_ (by first | (simp; done) | (simp; omega))) | (refine b_al ?_ (Nat.le_refl _) _) | refine b_dn ?_ | refine b_dr ?_ | (refine b_cl ?_ (Nat.le_refl _) (by assumption))))
  · go_enter Tryd.func35, Tryd.ntmps35
    go_wp2_with (first
    | (go_at_call 49; (with_reducible refine (C0 _ L0).mono ?_); rintro e w1 ⟨⟨gg, rfl⟩, hb1⟩; obtain ⟨hc1, hf1⟩ := bcell hb1; have hz1 := hb1.size; (try simp at hz1); have hlt1 : w.heap.size < w1.heap.size := (by omega); have L1 := L0.below hb1)
    | (go_at_call 50; (with_reducible refine (C1 _ L1).mono ?_); rintro e w2 ⟨rfl, hb2⟩; obtain ⟨hc2, hf2⟩ := bcell hb2; have hz2 := hb2.size; (try simp at hz2); have hlt2 : w.heap.size < w2.heap.size := (by omega); have L2 := L1.below hb2)
    | (go_at_call 50; (with_reducible refine (C2 _ L2).mono ?_); rintro e w3 ⟨rfl, hb3⟩; obtain ⟨hc3, hf3⟩ := bcell hb3; have hz3 := hb3.size; (try simp at hz3); have hlt3 : w.heap.size < w3.heap.size := (by omega)))
    refine bodyPost_ret (v := .tuple #[.agg #[.int .i64 0, .int .i64 0], .int .i64 3]) (by simp [results, Tryd.results35, go_sem, *]) rfl ⟨rfl, ?_⟩
    (repeat (first | assumption | exact Below.refl _ _ | (refine b_st ?_ (by first | (simp; done) | (simp; omega))) | (refine b_al ?_ (Nat.le_refl _) _) | refine b_dn ?_ | refine b_dr ?_ | (refine b_cl ?_ (Nat.le_refl _) (by assumption))))
  · subst hx hy
    go_enter Tryd.func35, Tryd.ntmps35
    go_wp2_with (first
    | (go_at_call 49; (with_reducible refine (C0 _ L0).mono ?_); rintro e w1 ⟨⟨gg, rfl⟩, hb1⟩; obtain ⟨hc1, hf1⟩ := bcell hb1; have hz1 := hb1.size; (try simp at hz1); have hlt1 : w.heap.size < w1.heap.size := (by omega); have L1 := L0.below hb1)
    | (go_at_call 50; (with_reducible refine (C1 _ L1).mono ?_); rintro e w2 ⟨rfl, hb2⟩; obtain ⟨hc2, hf2⟩ := bcell hb2; have hz2 := hb2.size; (try simp at hz2); have hlt2 : w.heap.size < w2.heap.size := (by omega); have L2 := L1.below hb2)
    | (go_at_call 50; (with_reducible refine (C2 _ L2).mono ?_); rintro e w3 ⟨rfl, hb3⟩; obtain ⟨hc3, hf3⟩ := bcell hb3; have hz3 := hb3.size; (try simp at hz3); have hlt3 : w.heap.size < w3.heap.size := (by omega)))
    refine bodyPost_ret (v := .tuple #[.agg #[.int .i64 x, .int .i64 y], .int .i64 0]) (by simp [results, Tryd.results35, go_sem, *]) rfl ⟨rfl, ?_⟩
    (repeat (first | assumption | exact Below.refl _ _ | (refine b_st ?_ (by first | (simp; done) | (simp; omega))) | (refine b_al ?_ (Nat.le_refl _) _) | refine b_dn ?_ | refine b_dr ?_ | (refine b_cl ?_ (Nat.le_refl _) (by assumption))))

end Go.Proofs.YtdepglceffpfhaaDoor
