/- What the document's Span of layer 6 returns, for any text. Conditions: as each theorem says. -/
import Derived.Test.YtdepglceffpfhaaDoorWordSpan
namespace Go.Proofs.YtdepglceffpfhaaDoor
open Go.RowKit

/-- What the loop knows of the place of the only minus so far. -/
def AtR (s : ByteArray) (k : Nat) (a : Int) : Prop := (a = -1 ∧ ∀ j, j < k → bt s j ≠ 45) ∨ ∃ p : Nat, a = p ∧ p < k ∧ bt s p = 45 ∧ (∀ j, j < p → bt s j ≠ 45) ∧ ∀ j, p < j → j < k → bt s j ≠ 45

theorem AtR.skip {s : ByteArray} {k : Nat} {a : Int} (h : AtR s k a) (hc : bt s k ≠ 45) : AtR s (k + 1) a := by
  rcases h with ⟨h1, h2⟩ | ⟨p, h1, h2, h3, h4, h5⟩
  · refine .inl ⟨h1, fun j hj => ?_⟩
    by_cases e : j = k
    · subst e; exact hc
    · exact h2 j (by omega)
  · refine .inr ⟨p, h1, by omega, h3, h4, fun j hp hj => ?_⟩
    by_cases e : j = k
    · subst e; exact hc
    · exact h5 j hp (by omega)

theorem AtR.hit {s : ByteArray} {k : Nat} (h : AtR s k (-1)) (hc : bt s k = 45) : AtR s (k + 1) k := by
  rcases h with ⟨_, h2⟩ | ⟨p, h1, _⟩
  · exact .inr ⟨k, rfl, by omega, hc, h2, fun j hp hj => by omega⟩
  · omega

theorem ret_span {x y g a b c : Int} (h : (x, y, g) = (a, b, c)) : Ending.returned (.tuple #[.agg #[.int .i64 a, .int .i64 b], .int .i64 c]) = Ending.returned (.tuple #[.agg #[.int .i64 x, .int .i64 y], .int .i64 g]) := by
  simp only [Prod.mk.injEq] at h
  obtain ⟨rfl, rfl, rfl⟩ := h
  rfl

set_option maxHeartbeats 2000000 in
theorem refspan_any (s : ByteArray) (w : World) (hs : s.size ≤ 1000000) :
    Calls Tryd.prog 37 #[.string s] w fun e w' => e = .returned (.tuple #[.agg #[.int .i64 (spanV s).1, .int .i64 (spanV s).2.1], .int .i64 (spanV s).2.2]) ∧ Below w.heap.size w w' := by
  obtain ⟨v, hv⟩ : ∃ v, spanV s = v := ⟨_, rfl⟩
  have HV := Lib.hid hv
  rw [hv]
  clear hv
  go_enter Tryd.func37, Tryd.ntmps37
  go_wp2
  go_loop [4, 5] (fun av i => ∃ (k : Nat) (a : Int), k ≤ s.size ∧ av = .int .i64 a ∧ i = .int .i64 k ∧ Hid (AtR s k a)) (fun _ i => s.size - (intOf i).toNat)
  case atStart => exact ⟨0, -1, Nat.zero_le _, rfl, rfl, Lib.hid (.inl ⟨rfl, fun j hj => by omega⟩)⟩
  case round =>
    obtain ⟨k, a, hk, rfl, rfl, HA⟩ := hrel
    by_cases hlt : k < s.size
    · by_cases hc : bt s k = 45
      · have HC := Lib.hid hc
        rw [← byte_bt s k hlt] at hc
        have c1 : (((s[k]'hlt).toNat : Int) == 45) = true := by simp; omega
        clear hc
        rcases HA.out with ⟨rfl, h2⟩ | ⟨p, rfl, hp, h3, h4, h5⟩
        · have HN := Lib.hid (AtR.hit HA.out HC.out)
          clear h2
          go_wp2
          go_round
          case rel => exact ⟨k + 1, k, by omega, rfl, by go_num, HN⟩
          case measure => simp [intOf]; omega
        · have HE := Lib.hid (span_two hlt hp h3 h4 HC.out)
          clear h3 h4 h5
          have p0 : (0 : Int) ≤ (p : Int) := by omega
          go_wp2
          refine bodyPost_ret (v := .tuple #[.agg #[.int .i64 0, .int .i64 0], .int .i64 7]) (by simp [results, Tryd.results37, go_sem, *]) rfl ⟨?_, ?_⟩
          · exact ret_span (by rw [← HV.out, HE.out])
          · (repeat (first | assumption | exact Below.refl _ _ | (refine b_st ?_ (by first | (simp; done) | (simp; omega))) | (refine b_al ?_ (Nat.le_refl _) _) | refine b_dn ?_ | refine b_dr ?_ | (refine b_cl ?_ (Nat.le_refl _) (by assumption))))
      · have HN := Lib.hid (AtR.skip HA.out hc)
        rw [← byte_bt s k hlt] at hc
        have c1 : (((s[k]'hlt).toNat : Int) == 45) = false := by simp; omega
        clear hc
        go_wp2
        go_round
        case rel => exact ⟨k + 1, a, by omega, rfl, by go_num, HN⟩
        case measure => simp [intOf]; omega
    · obtain rfl : k = s.size := by omega
      rcases HA.out with ⟨rfl, h2⟩ | ⟨p, rfl, hp, h3, h4, h5⟩
      · have HE := Lib.hid (span_none h2)
        clear h2
        go_wp2
        refine bodyPost_ret (v := .tuple #[.agg #[.int .i64 0, .int .i64 0], .int .i64 7]) (by simp [results, Tryd.results37, go_sem, *]) rfl ⟨?_, ?_⟩
        · exact ret_span (by rw [← HV.out, HE.out])
        · (repeat (first | assumption | exact Below.refl _ _ | (refine b_st ?_ (by first | (simp; done) | (simp; omega))) | (refine b_al ?_ (Nat.le_refl _) _) | refine b_dn ?_ | refine b_dr ?_ | (refine b_cl ?_ (Nat.le_refl _) (by assumption))))
      · have HE := Lib.hid (span_at hp h3 h4)
        clear h3 h4 h5
        have p0 : ¬ (p : Int) < 0 := by omega
        have p1 : (p : Int) ≤ (s.size : Int) := by omega
        have p2 : (p : Int) + 1 ≤ (s.size : Int) := by omega
        have p3 : ((p : Int) + 1).toNat = p + 1 := by omega
        have p4 : p ≤ s.size := by omega
        have p5 : p + 1 ≤ s.size := by omega
        have hz1 : (s.extract 0 p).size ≤ 1000000 := by rw [ByteArray.size_extract]; omega
        have hz2 : (s.extract (p + 1) s.size).size ≤ 1000000 := by rw [ByteArray.size_extract]; omega
        have C1 := fun W => refnumber_any (s.extract 0 p) 40320 W (by omega) (by unfold maxLen; omega)
        have C2 := fun W => refnumber_any (s.extract (p + 1) s.size) 40320 W (by omega) (by unfold maxLen; omega)
        by_cases ha : numOk (s.extract 0 p)
        · have T1 := fun W => text_yes (s.extract 0 p) W (by unfold maxLen; omega) ha
          by_cases hb : numOk (s.extract (p + 1) s.size)
          · have T2 := fun W => text_yes (s.extract (p + 1) s.size) W (by unfold maxLen; omega) hb
            have H := pair_ways (s.extract 0 p) (s.extract (p + 1) s.size)
            have n7 : ∀ x, numOk x → ((numberV x 40320).2 == 7) = false := fun x hx => by
              by_cases h : numV x ≤ 40320
              · rw [number_good hx (by omega)]; rfl
              · rw [number_far hx (by omega)]; rfl
            have N1 := n7 _ ha
            have N2 := n7 _ hb
            have HE2 := Lib.hid (HE.out.symm.trans HV.out)
            generalize pairV (s.extract 0 p) (s.extract (p + 1) s.size) = r at H HE2
            clear ha hb n7 HE HV HA
            generalize (numberV (s.extract 0 p) 40320).1 = n1 at C1 H
            generalize (numberV (s.extract 0 p) 40320).2 = e1 at C1 H N1
            generalize (numberV (s.extract (p + 1) s.size) 40320).1 = n2 at C2 H
            generalize (numberV (s.extract (p + 1) s.size) 40320).2 = e2 at C2 H N2
            obtain ⟨x, y, g⟩ := r
            unfold Ways at H
            simp only [] at H
            rcases H with ⟨q1, rfl, rfl, rfl⟩ | ⟨q1, q2, rfl, rfl, rfl⟩ | ⟨q1, q2, q3, rfl, rfl, rfl⟩ | ⟨q1, q2, q3, q4, rfl, rfl, rfl⟩ | ⟨q1, q2, q3, q4, q5, rfl, rfl, rfl⟩ | ⟨q1, q2, q3, q4, q5, hx, hy, rfl⟩
            · rw [N1] at q1; cases q1
            · rw [N2] at q2; cases q2
            · go_wp2_with (first
              | (go_at_call 51; (with_reducible refine (T1 _).mono ?_); rintro e w' ⟨rfl, rfl⟩)
              | (go_at_call 51; (with_reducible refine (T2 _).mono ?_); rintro e w' ⟨rfl, rfl⟩)
              | (go_at_call 52; (with_reducible refine (C1 _).mono ?_); rintro e w' ⟨rfl, rfl⟩)
              | (go_at_call 52; (with_reducible refine (C2 _).mono ?_); rintro e w' ⟨rfl, rfl⟩))
              refine bodyPost_ret (v := .tuple #[.agg #[.int .i64 0, .int .i64 0], .int .i64 4]) (by simp [results, Tryd.results37, go_sem, *]) rfl ⟨?_, ?_⟩
              · exact ret_span HE2.out.symm
              · (repeat (first | assumption | exact Below.refl _ _ | (refine b_st ?_ (by first | (simp; done) | (simp; omega))) | (refine b_al ?_ (Nat.le_refl _) _) | refine b_dn ?_ | refine b_dr ?_ | (refine b_cl ?_ (Nat.le_refl _) (by assumption))))
            · go_wp2_with (first
              | (go_at_call 51; (with_reducible refine (T1 _).mono ?_); rintro e w' ⟨rfl, rfl⟩)
              | (go_at_call 51; (with_reducible refine (T2 _).mono ?_); rintro e w' ⟨rfl, rfl⟩)
              | (go_at_call 52; (with_reducible refine (C1 _).mono ?_); rintro e w' ⟨rfl, rfl⟩)
              | (go_at_call 52; (with_reducible refine (C2 _).mono ?_); rintro e w' ⟨rfl, rfl⟩))
              refine bodyPost_ret (v := .tuple #[.agg #[.int .i64 0, .int .i64 0], .int .i64 4]) (by simp [results, Tryd.results37, go_sem, *]) rfl ⟨?_, ?_⟩
              · exact ret_span HE2.out.symm
              · (repeat (first | assumption | exact Below.refl _ _ | (refine b_st ?_ (by first | (simp; done) | (simp; omega))) | (refine b_al ?_ (Nat.le_refl _) _) | refine b_dn ?_ | refine b_dr ?_ | (refine b_cl ?_ (Nat.le_refl _) (by assumption))))
            · go_wp2_with (first
              | (go_at_call 51; (with_reducible refine (T1 _).mono ?_); rintro e w' ⟨rfl, rfl⟩)
              | (go_at_call 51; (with_reducible refine (T2 _).mono ?_); rintro e w' ⟨rfl, rfl⟩)
              | (go_at_call 52; (with_reducible refine (C1 _).mono ?_); rintro e w' ⟨rfl, rfl⟩)
              | (go_at_call 52; (with_reducible refine (C2 _).mono ?_); rintro e w' ⟨rfl, rfl⟩))
              refine bodyPost_ret (v := .tuple #[.agg #[.int .i64 0, .int .i64 0], .int .i64 3]) (by simp [results, Tryd.results37, go_sem, *]) rfl ⟨?_, ?_⟩
              · exact ret_span HE2.out.symm
              · (repeat (first | assumption | exact Below.refl _ _ | (refine b_st ?_ (by first | (simp; done) | (simp; omega))) | (refine b_al ?_ (Nat.le_refl _) _) | refine b_dn ?_ | refine b_dr ?_ | (refine b_cl ?_ (Nat.le_refl _) (by assumption))))
            · subst hx hy
              go_wp2_with (first
              | (go_at_call 51; (with_reducible refine (T1 _).mono ?_); rintro e w' ⟨rfl, rfl⟩)
              | (go_at_call 51; (with_reducible refine (T2 _).mono ?_); rintro e w' ⟨rfl, rfl⟩)
              | (go_at_call 52; (with_reducible refine (C1 _).mono ?_); rintro e w' ⟨rfl, rfl⟩)
              | (go_at_call 52; (with_reducible refine (C2 _).mono ?_); rintro e w' ⟨rfl, rfl⟩))
              refine bodyPost_ret (v := .tuple #[.agg #[.int .i64 x, .int .i64 y], .int .i64 0]) (by simp [results, Tryd.results37, go_sem, *]) rfl ⟨?_, ?_⟩
              · exact ret_span HE2.out.symm
              · (repeat (first | assumption | exact Below.refl _ _ | (refine b_st ?_ (by first | (simp; done) | (simp; omega))) | (refine b_al ?_ (Nat.le_refl _) _) | refine b_dn ?_ | refine b_dr ?_ | (refine b_cl ?_ (Nat.le_refl _) (by assumption))))
          · have T2 := fun W => text_no (s.extract (p + 1) s.size) W (by unfold maxLen; omega) hb
            have HE2 := Lib.hid ((pair_form (.inr hb)).symm.trans (HE.out.symm.trans HV.out))
            clear ha hb HE HV HA C1 C2
            go_wp2_with (first
              | (go_at_call 51; (with_reducible refine (T1 _).mono ?_); rintro e w' ⟨rfl, rfl⟩)
              | (go_at_call 51; (with_reducible refine (T2 _).mono ?_); rintro e w' ⟨rfl, rfl⟩))
            refine bodyPost_ret (v := .tuple #[.agg #[.int .i64 0, .int .i64 0], .int .i64 7]) (by simp [results, Tryd.results37, go_sem, *]) rfl ⟨?_, ?_⟩
            · exact ret_span HE2.out.symm
            · (repeat (first | assumption | exact Below.refl _ _ | (refine b_st ?_ (by first | (simp; done) | (simp; omega))) | (refine b_al ?_ (Nat.le_refl _) _) | refine b_dn ?_ | refine b_dr ?_ | (refine b_cl ?_ (Nat.le_refl _) (by assumption))))
        · have T1 := fun W => text_no (s.extract 0 p) W (by unfold maxLen; omega) ha
          have HE2 := Lib.hid ((pair_form (.inl ha)).symm.trans (HE.out.symm.trans HV.out))
          clear ha HE HV HA C1 C2
          go_wp2_with (go_at_call 51; (with_reducible refine (T1 _).mono ?_); rintro e w' ⟨rfl, rfl⟩)
          refine bodyPost_ret (v := .tuple #[.agg #[.int .i64 0, .int .i64 0], .int .i64 7]) (by simp [results, Tryd.results37, go_sem, *]) rfl ⟨?_, ?_⟩
          · exact ret_span HE2.out.symm
          · (repeat (first | assumption | exact Below.refl _ _ | (refine b_st ?_ (by first | (simp; done) | (simp; omega))) | (refine b_al ?_ (Nat.le_refl _) _) | refine b_dn ?_ | refine b_dr ?_ | (refine b_cl ?_ (Nat.le_refl _) (by assumption))))

end Go.Proofs.YtdepglceffpfhaaDoor
