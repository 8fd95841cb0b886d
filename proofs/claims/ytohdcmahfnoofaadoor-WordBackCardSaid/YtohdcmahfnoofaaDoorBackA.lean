/- WordBack where the line is wrong and the number is from 0 on. Conditions: as the theorem says; the program's listed variables are laid. -/
import Derived.Test.YtohdcmahfnoofaaDoorWordAlive
import Derived.Test.YtohdcmahfnoofaaDoorWordJoin
import Derived.Test.YtohdcmahfnoofaaDoorWordBackM
namespace Go.Proofs.YtohdcmahfnoofaaDoor
open Go.RowKit
set_option linter.unusedVariables false

set_option maxHeartbeats 4000000 in
set_option maxRecDepth 20000 in
theorem back_a (w : World) (hl : Laid6 w) (s : ByteArray) (a b c : Int) (hs : s.size ≤ 2000) (hE : (splitV s).2.2 ≠ 0) (ha0 : -9223372036854775808 ≤ a) (ha1 : a ≤ 9223372036854775807) (hn : 0 ≤ a)
    (hb0 : -9223372036854775808 ≤ b) (hb1 : b ≤ 9223372036854775807) (hc0 : -9223372036854775808 ≤ c) (hc1 : c ≤ 9223372036854775807) :
    Calls Tryd.prog 5 #[.string s, .int .i64 a, .agg #[.int .i64 b, .int .i64 c]] w fun e w' => e = .returned (.bool true) ∧ Below w.heap.size w w' := by
  have hs' : (s.size : Int) ≤ 2000 := by omega
  have C1 := fun W => split_any s W (by omega)
  have HW := Lib.hid (span_back b c)
  have itz := Lib.itoa_length_le a ha0 ha1
  have C5 := fun W (h : Laid6 W) => print_any a W h ha0 ha1
  have C6 := fun W (h : Laid6 W) => number_any (itoaB a) a W h ha1 (by rw [← size_list, itoaB_list]; omega)
  rw [number_back hn] at C6
  have C7 := fun W (h : Laid6 W) => told_any b c W h hb0 hb1 hc0 hc1
  have C8 := fun W (h : Laid6 W) => span_any (toldB b c) W h (by
    have h1 := Lib.itoa_length_le b hb0 hb1
    have h2 := Lib.itoa_length_le c hc0 hc1
    rw [← size_list, told_list]
    simp
    omega)
  have C9 := fun W (h : Laid6 W) => alive6_any W h
  have HV := Lib.hid (split_len s)
  obtain ⟨V, hV⟩ : ∃ V, splitV s = V := ⟨_, rfl⟩
  rw [hV] at C1 HV hE
  clear hV
  obtain ⟨l, at1, er⟩ := V
  simp only [] at C1 HV hE
  generalize itoaB a = t1 at C5 C6
  have L0 : Laid6 (w.alloc (.cells #[.int .i64 b, .int .i64 c] 36)) := hl.below ((Below.refl _ _).alloc (Nat.le_refl _) _)
  clear hl itz
  have hE' : (er == 0) = false := by simpa using hE
  clear hE
  have W4 : ∃ (rx ry rg : Int), spanV (toldB b c) = (rx, ry, rg) ∧ ((0 ≤ b ∧ b < c ∧ c ≤ 40320 ∧ rx = b ∧ ry = c ∧ rg = 0) ∨ (b < 0 ∧ rx = 0 ∧ ry = 0 ∧ (rg != 0) = true) ∨ (0 ≤ b ∧ ¬ b < c ∧ rx = 0 ∧ ry = 0 ∧ (rg != 0) = true) ∨ (0 ≤ b ∧ b < c ∧ ¬ c ≤ 40320 ∧ rx = 0 ∧ ry = 0 ∧ (rg != 0) = true)) := by
    rcases HW.out with ⟨h1, h2, h3, h4⟩ | ⟨h1, g, h4, h5⟩
    · exact ⟨b, c, 0, h4, .inl ⟨h1, h2, h3, rfl, rfl, rfl⟩⟩
    · refine ⟨0, 0, g, h4, .inr ?_⟩
      by_cases q1 : b < 0
      · exact .inl ⟨q1, rfl, rfl, h5⟩
      · by_cases q2 : b < c
        · exact .inr (.inr ⟨by omega, q2, by omega, rfl, rfl, h5⟩)
        · exact .inr (.inl ⟨by omega, q2, rfl, rfl, h5⟩)
  obtain ⟨rx, ry, rg, hsp, W4⟩ := W4
  rw [hsp] at C8
  generalize toldB b c = t2 at C7 C8
  clear hsp HW
  go_enter Tryd.func5, Tryd.ntmps5
  rcases W4 with ⟨c1, c2, c3, rfl, rfl, rfl⟩ | ⟨c1, rfl, rfl, c4⟩ | ⟨c1, c2, rfl, rfl, c4⟩ | ⟨c1, c2, c3, rfl, rfl, c4⟩
  · go_wp2_with (first
      | (go_at_call 9; (with_reducible refine (C1 _).mono ?_); rintro e w1 ⟨v1, rfl, ho1, hb1⟩; obtain ⟨hc1', hf1⟩ := bcell hb1; have hz1' := hb1.size; (try simp at hz1'); have hlt1 : w.heap.size < w1.heap.size := (by omega); have L1 := L0.below hb1)
      | (go_at_call 16; (with_reducible refine (C5 _ L1).mono ?_); rintro e w5 ⟨rfl, hb5⟩; obtain ⟨hc5, hf5⟩ := bcell hb5; have hz5 := hb5.size; (try simp at hz5); have : w.heap.size < w5.heap.size := (by omega); have L5 := L1.below hb5)
      | (go_at_call 12; (with_reducible refine (C6 _ L5).mono ?_); rintro e w6 ⟨rfl, hb6⟩; obtain ⟨hc6, hf6⟩ := bcell hb6; have hz6 := hb6.size; (try simp at hz6); have : w.heap.size < w6.heap.size := (by omega); have L6 := L5.below hb6)
      | (go_at_call 18; (with_reducible refine (C7 _ L6).mono ?_); rintro e w7 ⟨rfl, hb7⟩; obtain ⟨hc7, hf7⟩ := bcell hb7; have hz7 := hb7.size; (try simp at hz7); have : w.heap.size < w7.heap.size := (by omega); have L7 := L6.below hb7)
      | (go_at_call 14; (with_reducible refine (C8 _ L7).mono ?_); rintro e w8 ⟨rfl, hb8⟩; obtain ⟨hc8, hf8⟩ := bcell hb8; have hz8 := hb8.size; (try simp at hz8); have : w.heap.size < w8.heap.size := (by omega); have L8 : Laid6 (w8.alloc (.cells #[.int .i64 rx, .int .i64 ry] 36)) := (L7.below hb8).below ((Below.refl _ _).alloc (Nat.le_refl _) _))
      | (go_at_call 6; (with_reducible refine (C9 _ L8).mono ?_); rintro e w9 ⟨rfl, hb9⟩))
    go_ret
    refine ⟨rfl, ?_⟩
    (repeat (first | assumption | exact Below.refl _ _ | (refine b_st ?_ (by first | (simp; done) | (simp; omega))) | (refine b_al ?_ (Nat.le_refl _) _) | refine b_dn ?_ | refine b_dr ?_ | (refine b_cl ?_ (Nat.le_refl _) (by assumption))))
  · go_wp2_with (first
      | (go_at_call 9; (with_reducible refine (C1 _).mono ?_); rintro e w1 ⟨v1, rfl, ho1, hb1⟩; obtain ⟨hc1', hf1⟩ := bcell hb1; have hz1' := hb1.size; (try simp at hz1'); have hlt1 : w.heap.size < w1.heap.size := (by omega); have L1 := L0.below hb1)
      | (go_at_call 16; (with_reducible refine (C5 _ L1).mono ?_); rintro e w5 ⟨rfl, hb5⟩; obtain ⟨hc5, hf5⟩ := bcell hb5; have hz5 := hb5.size; (try simp at hz5); have : w.heap.size < w5.heap.size := (by omega); have L5 := L1.below hb5)
      | (go_at_call 12; (with_reducible refine (C6 _ L5).mono ?_); rintro e w6 ⟨rfl, hb6⟩; obtain ⟨hc6, hf6⟩ := bcell hb6; have hz6 := hb6.size; (try simp at hz6); have : w.heap.size < w6.heap.size := (by omega); have L6 := L5.below hb6)
      | (go_at_call 18; (with_reducible refine (C7 _ L6).mono ?_); rintro e w7 ⟨rfl, hb7⟩; obtain ⟨hc7, hf7⟩ := bcell hb7; have hz7 := hb7.size; (try simp at hz7); have : w.heap.size < w7.heap.size := (by omega); have L7 := L6.below hb7)
      | (go_at_call 14; (with_reducible refine (C8 _ L7).mono ?_); rintro e w8 ⟨rfl, hb8⟩; obtain ⟨hc8, hf8⟩ := bcell hb8; have hz8 := hb8.size; (try simp at hz8); have : w.heap.size < w8.heap.size := (by omega); have L8 : Laid6 (w8.alloc (.cells #[.int .i64 0, .int .i64 0] 36)) := (L7.below hb8).below ((Below.refl _ _).alloc (Nat.le_refl _) _))
      | (go_at_call 6; (with_reducible refine (C9 _ L8).mono ?_); rintro e w9 ⟨rfl, hb9⟩))
    go_ret
    refine ⟨rfl, ?_⟩
    (repeat (first | assumption | exact Below.refl _ _ | (refine b_st ?_ (by first | (simp; done) | (simp; omega))) | (refine b_al ?_ (Nat.le_refl _) _) | refine b_dn ?_ | refine b_dr ?_ | (refine b_cl ?_ (Nat.le_refl _) (by assumption))))
  · go_wp2_with (first
      | (go_at_call 9; (with_reducible refine (C1 _).mono ?_); rintro e w1 ⟨v1, rfl, ho1, hb1⟩; obtain ⟨hc1', hf1⟩ := bcell hb1; have hz1' := hb1.size; (try simp at hz1'); have hlt1 : w.heap.size < w1.heap.size := (by omega); have L1 := L0.below hb1)
      | (go_at_call 16; (with_reducible refine (C5 _ L1).mono ?_); rintro e w5 ⟨rfl, hb5⟩; obtain ⟨hc5, hf5⟩ := bcell hb5; have hz5 := hb5.size; (try simp at hz5); have : w.heap.size < w5.heap.size := (by omega); have L5 := L1.below hb5)
      | (go_at_call 12; (with_reducible refine (C6 _ L5).mono ?_); rintro e w6 ⟨rfl, hb6⟩; obtain ⟨hc6, hf6⟩ := bcell hb6; have hz6 := hb6.size; (try simp at hz6); have : w.heap.size < w6.heap.size := (by omega); have L6 := L5.below hb6)
      | (go_at_call 18; (with_reducible refine (C7 _ L6).mono ?_); rintro e w7 ⟨rfl, hb7⟩; obtain ⟨hc7, hf7⟩ := bcell hb7; have hz7 := hb7.size; (try simp at hz7); have : w.heap.size < w7.heap.size := (by omega); have L7 := L6.below hb7)
      | (go_at_call 14; (with_reducible refine (C8 _ L7).mono ?_); rintro e w8 ⟨rfl, hb8⟩; obtain ⟨hc8, hf8⟩ := bcell hb8; have hz8 := hb8.size; (try simp at hz8); have : w.heap.size < w8.heap.size := (by omega); have L8 : Laid6 (w8.alloc (.cells #[.int .i64 0, .int .i64 0] 36)) := (L7.below hb8).below ((Below.refl _ _).alloc (Nat.le_refl _) _))
      | (go_at_call 6; (with_reducible refine (C9 _ L8).mono ?_); rintro e w9 ⟨rfl, hb9⟩))
    go_ret
    refine ⟨rfl, ?_⟩
    (repeat (first | assumption | exact Below.refl _ _ | (refine b_st ?_ (by first | (simp; done) | (simp; omega))) | (refine b_al ?_ (Nat.le_refl _) _) | refine b_dn ?_ | refine b_dr ?_ | (refine b_cl ?_ (Nat.le_refl _) (by assumption))))
  · go_wp2_with (first
      | (go_at_call 9; (with_reducible refine (C1 _).mono ?_); rintro e w1 ⟨v1, rfl, ho1, hb1⟩; obtain ⟨hc1', hf1⟩ := bcell hb1; have hz1' := hb1.size; (try simp at hz1'); have hlt1 : w.heap.size < w1.heap.size := (by omega); have L1 := L0.below hb1)
      | (go_at_call 16; (with_reducible refine (C5 _ L1).mono ?_); rintro e w5 ⟨rfl, hb5⟩; obtain ⟨hc5, hf5⟩ := bcell hb5; have hz5 := hb5.size; (try simp at hz5); have : w.heap.size < w5.heap.size := (by omega); have L5 := L1.below hb5)
      | (go_at_call 12; (with_reducible refine (C6 _ L5).mono ?_); rintro e w6 ⟨rfl, hb6⟩; obtain ⟨hc6, hf6⟩ := bcell hb6; have hz6 := hb6.size; (try simp at hz6); have : w.heap.size < w6.heap.size := (by omega); have L6 := L5.below hb6)
      | (go_at_call 18; (with_reducible refine (C7 _ L6).mono ?_); rintro e w7 ⟨rfl, hb7⟩; obtain ⟨hc7, hf7⟩ := bcell hb7; have hz7 := hb7.size; (try simp at hz7); have : w.heap.size < w7.heap.size := (by omega); have L7 := L6.below hb7)
      | (go_at_call 14; (with_reducible refine (C8 _ L7).mono ?_); rintro e w8 ⟨rfl, hb8⟩; obtain ⟨hc8, hf8⟩ := bcell hb8; have hz8 := hb8.size; (try simp at hz8); have : w.heap.size < w8.heap.size := (by omega); have L8 : Laid6 (w8.alloc (.cells #[.int .i64 0, .int .i64 0] 36)) := (L7.below hb8).below ((Below.refl _ _).alloc (Nat.le_refl _) _))
      | (go_at_call 6; (with_reducible refine (C9 _ L8).mono ?_); rintro e w9 ⟨rfl, hb9⟩))
    go_ret
    refine ⟨rfl, ?_⟩
    (repeat (first | assumption | exact Below.refl _ _ | (refine b_st ?_ (by first | (simp; done) | (simp; omega))) | (refine b_al ?_ (Nat.le_refl _) _) | refine b_dn ?_ | refine b_dr ?_ | (refine b_cl ?_ (Nat.le_refl _) (by assumption))))

end Go.Proofs.YtohdcmahfnoofaaDoor
