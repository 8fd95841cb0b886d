/- What Split of layer 6 returns, for any line. Conditions: the line has at most a million bytes. -/
import Derived.Test.YtdepglceffpfhaaDoorWordLeaf
import Derived.Test.YtdepglceffpfhaaDoorWordHeap
namespace Go.Proofs.YtdepglceffpfhaaDoor
open Go.RowKit

theorem not_bad {t : ByteArray} {k : Nat} (h : ∀ j, j < k → ¬ bad t j) (hk : ¬ bad t k) : ∀ j, j < k + 1 → ¬ bad t j := fun j hj => by
  by_cases e : j = k
  · subst e; exact hk
  · exact h j (by omega)

set_option maxHeartbeats 2000000 in
theorem split_any (s : ByteArray) (w : World) (hs : s.size ≤ 1000000) :
    Calls Tryd.prog 34 #[.string s] w fun e w' => ∃ v, e = .returned (.tuple #[v, .int .i64 ((splitV s).2.1 : Nat), .int .i64 (splitV s).2.2]) ∧ OwnW 65 w.heap.size w' v (splitV s).1 ∧ Below w.heap.size w w' := by
  obtain ⟨i0, hi, hz0, hz1, hz2⟩ := info_parts info_word
  by_cases h0 : s.size = 0
  · rw [split_empty h0]
    obtain rfl : s = ⟨#[]⟩ := ByteArray.ext (Array.eq_empty_of_size_eq_zero h0)
    go_enter Tryd.func34, Tryd.ntmps34
    go_wp2
    go_ret3
    exact ⟨_, rfl, OwnW.nil _ _ _, Below.refl _ _⟩
  · have hne := not_empty h0
    have H0 := Lib.hid h0
    obtain ⟨V, hV⟩ : ∃ V, splitV s = V := ⟨_, rfl⟩
    have HV := Lib.hid hV
    rw [hV]
    clear hV
    go_enter Tryd.func34, Tryd.ntmps34
    go_wp2
    go_loopw [5, 6, 12] (fun v bv i wr => ∃ k bg : Nat, k ≤ s.size ∧ i = .int .i64 k ∧ bv = .int .i64 bg ∧ bg ≤ k ∧ Hid (pbeg 32 s k = bg) ∧ Hid (OwnW 65 w.heap.size wr v (pdone 32 s k)) ∧ Below w.heap.size w wr ∧ Hid (∀ j, j < k → ¬ bad s j)) (fun _ _ i _ => s.size - (intOf i).toNat)
    case atStart => exact ⟨0, 0, Nat.zero_le _, rfl, rfl, Nat.le_refl _, Lib.hid rfl, Lib.hid (OwnW.nil _ _ _), Below.refl _ _, Lib.hid (fun j hj => by omega)⟩
    case round =>
      obtain ⟨k, bg, hk, rfl, rfl, hbk, HG, HO, hb, HN⟩ := hrel
      have hwz := hb.size
      have hpl := pdone_len 32 s k
      by_cases hlt : k < s.size
      · by_cases hc : bt s k = 32
        · have HC := Lib.hid hc
          rw [← byte_bt s k hlt] at hc
          have c1 : (((s[k]'hlt).toNat : Int) != 32) = false := by simp; omega
          clear hc
          by_cases he : k = bg
          · have HE := Lib.hid (split_bad hlt (.inr (.inr ⟨HC.out, by rw [HG.out]; exact he.symm⟩)) HN.out)
            have c2 : ((k : Int) == (bg : Int)) = true := by simp; omega
            clear he
            go_wp2
            go_ret3
            rw [← HV.out, HE.out]
            exact ⟨_, rfl, OwnW.nil _ _ _, hb⟩
          · have c2 : ((k : Int) == (bg : Int)) = false := by simp; omega
            have hnb : ¬ bad s k := by
              have := HC.out
              have h2 := HG.out
              rintro (h | h | ⟨_, h⟩) <;> omega
            have HN2 := Lib.hid (not_bad HN.out hnb)
            have HP1 := Lib.hid (pbeg_hit HC.out)
            have HP2 := Lib.hid (pdone_hit HC.out)
            have i1 : (bg : Int) ≤ (k : Int) := by omega
            clear hnb
            go_wp2_with (first
          | (go_at_call 48; refine (piece_any s bg k _ (by omega) (by omega) (by omega)).mono ?_; rintro e w1 ⟨rfl, hb1⟩; have HO1 := Lib.hid (row_below HO.out hb1); have hz1' := hb1.size; have HB1 := Lib.hid (b_cl hb (Nat.le_refl _) hb1); clear hb1)
          | (at_builtin; refine wpList_append_own _ rfl _ _ 61 rfl w.heap.size 65 i0 (.agg #[.int .i64 0, .string ⟨#[]⟩]) 2 24 Tryd.underlying61 hi hz0 hz1 hz2 rfl (by decide) _ _ _ rfl (World.ownsRow.alloc HO1.out _) ⟨w1.heap.size, 0, none⟩ 1 1 [.int .i64 bg, .string (s.extract bg k)] rfl rfl (word_news rfl) word_cells (by unfold maxLen; omega) (by omega) (by simp; omega) ?_; intro v5 w5 hown5 hgrow5 _; have HS := Lib.hid (OwnW.snoc hown5); have HB5 := Lib.hid ((b_al HB1.out (Nat.le_refl _) (.cells #[.int .i64 bg, .string (s.extract bg k)] 65)).grown hgrow5 (by simp; omega) (fun q hq => (World.ownsRow.lt HO1.out q hq).1)); clear hown5 hgrow5))
            go_roundw
            case rel => exact ⟨k + 1, k + 1, by omega, by go_num, by go_num, by omega, HP1, Lib.hid (by rw [HP2.out, HG.out]; exact HS.out), HB5.out, HN2⟩
            case measure => simp [intOf]; omega
        · have HC := Lib.hid hc
          rw [← byte_bt s k hlt] at hc
          have c1 : (((s[k]'hlt).toNat : Int) != 32) = true := by simp; omega
          clear hc
          by_cases hw : 33 ≤ ((s[k]'hlt).toNat : Int) ∧ ((s[k]'hlt).toNat : Int) ≤ 126
          · obtain ⟨d1, d2⟩ := hw
            have hnb : ¬ bad s k := by
              have e := byte_bt s k hlt
              rintro (h | h | ⟨h, _⟩) <;> omega
            have HN2 := Lib.hid (not_bad HN.out hnb)
            have HP1 := Lib.hid (pbeg_miss HC.out)
            have HP2 := Lib.hid (pdone_miss HC.out)
            clear hnb
            go_wp2_with (go_at_call 47; (with_reducible refine (ofWord_yes _ _ d1 d2).mono ?_); rintro e w' ⟨rfl, rfl⟩)
            go_roundw
            case rel => exact ⟨k + 1, bg, by omega, by go_num, rfl, by omega, Lib.hid (by rw [HP1.out]; exact HG.out), Lib.hid (by rw [HP2.out]; exact HO.out), hb, HN2⟩
            case measure => simp [intOf]; omega
          · have d : ((s[k]'hlt).toNat : Int) < 33 ∨ 126 < ((s[k]'hlt).toNat : Int) := by omega
            have HE := Lib.hid (split_bad hlt (by
              have e := byte_bt s k hlt
              have := HC.out
              rcases d with d | d
              · exact .inl (by omega)
              · exact .inr (.inl (by omega))) HN.out)
            have HD := Lib.hid d
            clear d hw
            go_wp2_with (go_at_call 47; (with_reducible refine (ofWord_no _ _ HD.out).mono ?_); rintro e w' ⟨rfl, rfl⟩)
            go_ret3
            rw [← HV.out, HE.out]
            exact ⟨_, rfl, OwnW.nil _ _ _, hb⟩
      · obtain rfl : k = s.size := by omega
        by_cases he : bg = s.size
        · have HE := Lib.hid (split_end H0.out HN.out (by rw [HG.out]; exact he))
          subst he
          go_wp2
          go_ret3
          rw [← HV.out, HE.out]
          exact ⟨_, rfl, OwnW.nil _ _ _, hb⟩
        · have HE := Lib.hid (split_full H0.out HN.out (by rw [HG.out]; exact he))
          have c2 : ((bg : Int) == (s.size : Int)) = false := by simp; omega
          have i1 : (bg : Int) ≤ (s.size : Int) := by omega
          clear he
          go_wp2_with (first
          | (go_at_call 48; refine (piece_any s bg s.size _ (by omega) (by omega) (by omega)).mono ?_; rintro e w1 ⟨rfl, hb1⟩; have HO1 := Lib.hid (row_below HO.out hb1); have hz1' := hb1.size; have HB1 := Lib.hid (b_cl hb (Nat.le_refl _) hb1); clear hb1)
          | (at_builtin; refine wpList_append_own _ rfl _ _ 61 rfl w.heap.size 65 i0 (.agg #[.int .i64 0, .string ⟨#[]⟩]) 2 24 Tryd.underlying61 hi hz0 hz1 hz2 rfl (by decide) _ _ _ rfl (World.ownsRow.alloc HO1.out _) ⟨w1.heap.size, 0, none⟩ 1 1 [.int .i64 bg, .string (s.extract bg s.size)] rfl rfl (word_news rfl) word_cells (by unfold maxLen; omega) (by omega) (by simp; omega) ?_; intro v5 w5 hown5 hgrow5 _; have HS := Lib.hid (OwnW.snoc hown5); have HB5 := Lib.hid ((b_al HB1.out (Nat.le_refl _) (.cells #[.int .i64 bg, .string (s.extract bg s.size)] 65)).grown hgrow5 (by simp; omega) (fun q hq => (World.ownsRow.lt HO1.out q hq).1)); clear hown5 hgrow5))
          go_ret3
          rw [← HV.out, HE.out]
          exact ⟨_, rfl, (by have h := HS.out; unfold fullW; rw [HG.out]; exact h), HB5.out⟩

end Go.Proofs.YtdepglceffpfhaaDoor
