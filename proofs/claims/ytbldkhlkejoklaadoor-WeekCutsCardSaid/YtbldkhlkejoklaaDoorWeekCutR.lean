/- What the document's own Cut of layer 4 returns, for any span and any length. Conditions: the arguments fit 64 bits. -/
import Derived.Test.YtbldkhlkejoklaaDoorRows
import Derived.Test.YtbldkhlkejoklaaDoorBase
import Derived.Test.YtbldkhlkejoklaaDoorIvalsWords
import Derived.Test.YtbldkhlkejoklaaDoorIvalsOwn
import Derived.Test.YtbldkhlkejoklaaDoorOwnMore
import Derived.Test.YtbldkhlkejoklaaDoorIvalLeaf
import Derived.Test.YtbldkhlkejoklaaDoorWeekMath2
import Derived.Test.YtbldkhlkejoklaaDoorWeekOfC
import Derived.Test.YtbldkhlkejoklaaDoorWeekCutC
import Derived.WalkKit
import Derived.WalkSpells
import Derived.WalkSmall
import Derived.Below
import Derived.Outline
import Derived.OwnWalk
import Derived.Lib.Hide
import Derived.BigQuiet
import Derived.Deep.QuietTactic
import Derived.RegionTactic
namespace Go.Proofs.YtbldkhlkejoklaaDoor
open Go.RowKit

theorem refcut_short (a b l : Int) (w : World) (h : l < 1) :
    Calls Tryd.prog 12 #[.agg #[.int .i64 a, .int .i64 b], .int .i64 l] w fun e w' => e = .returned (.tuple #[.slice none 0 0, .int .i64 1]) ∧ Below w.heap.size w w' := by
  go_enter Tryd.func12, Tryd.ntmps12
  go_wp2
  go_ret2
  exact ⟨rfl, by (repeat (first | exact Below.refl _ _ | (refine b_st ?_ (by first | (simp; done) | (simp; omega))) | (refine b_al ?_ (Nat.le_refl _) _) | refine b_dn ?_ | refine b_dr ?_ | (refine b_cl ?_ (Nat.le_refl _) (by assumption))))⟩

theorem refcut_wrong (a b l : Int) (w : World) (h : 1 ≤ l) (hab : ¬ a < b) :
    Calls Tryd.prog 12 #[.agg #[.int .i64 a, .int .i64 b], .int .i64 l] w fun e w' => e = .returned (.tuple #[.slice none 0 0, .int .i64 3]) ∧ Below w.heap.size w w' := by
  have C := fun W => refright_no a b W hab
  clear hab
  go_enter Tryd.func12, Tryd.ntmps12
  go_wp2_with (go_at_call 23; (with_reducible refine (C _).mono ?_); rintro e w1 ⟨rfl, hb1⟩; obtain ⟨hc1, hf1⟩ := bcell hb1; have hz1 := hb1.size; (try simp at hz1))
  go_ret2
  exact ⟨rfl, by (repeat (first | exact Below.refl _ _ | (refine b_st ?_ (by first | (simp; done) | (simp; omega))) | (refine b_al ?_ (Nat.le_refl _) _) | refine b_dn ?_ | refine b_dr ?_ | (refine b_cl ?_ (Nat.le_refl _) (by assumption))))⟩

theorem refcut_far (a b l : Int) (w : World) (h : 1 ≤ l) (hab : a < b) (hr : ¬ (0 ≤ a ∧ b ≤ 40320)) :
    Calls Tryd.prog 12 #[.agg #[.int .i64 a, .int .i64 b], .int .i64 l] w fun e w' => e = .returned (.tuple #[.slice none 0 0, .int .i64 4]) ∧ Below w.heap.size w w' := by
  have C := fun W => refright_yes a b W hab
  by_cases h0 : a < 0
  · clear hr
    go_enter Tryd.func12, Tryd.ntmps12
    go_wp2_with (go_at_call 23; (with_reducible refine (C _).mono ?_); rintro e w1 ⟨rfl, hb1⟩; obtain ⟨hc1, hf1⟩ := bcell hb1; have hz1 := hb1.size; (try simp at hz1); have hz1' : w.heap.size < w1.heap.size := (by omega))
    go_ret2
    exact ⟨rfl, by (repeat (first | exact Below.refl _ _ | (refine b_st ?_ (by first | (simp; done) | (simp; omega))) | (refine b_al ?_ (Nat.le_refl _) _) | refine b_dn ?_ | refine b_dr ?_ | (refine b_cl ?_ (Nat.le_refl _) (by assumption))))⟩
  · have h1 : 40320 < b := by omega
    have h2 : 0 ≤ a := by omega
    clear hr h0
    go_enter Tryd.func12, Tryd.ntmps12
    go_wp2_with (go_at_call 23; (with_reducible refine (C _).mono ?_); rintro e w1 ⟨rfl, hb1⟩; obtain ⟨hc1, hf1⟩ := bcell hb1; have hz1 := hb1.size; (try simp at hz1); have hz1' : w.heap.size < w1.heap.size := (by omega))
    go_ret2
    exact ⟨rfl, by (repeat (first | exact Below.refl _ _ | (refine b_st ?_ (by first | (simp; done) | (simp; omega))) | (refine b_al ?_ (Nat.le_refl _) _) | refine b_dn ?_ | refine b_dr ?_ | (refine b_cl ?_ (Nat.le_refl _) (by assumption))))⟩

/-- A minute goes on the last piece. -/
theorem cut_more {l a : Int} {k j : Nat} (hk : k ≠ 0) (hm : (a + k) % l ≠ 0) (hn : (cutN l a k).length = j + 1) :
    (cutN l a (k + 1)).length = (cutN l a k).length ∧ flat (cutN l a (k + 1)) = (flat (cutN l a k)).set (j * 2 + 1) (.int .i64 (a + k + 1)) := by
  rw [cut_on (fun e => by rcases e with e | e; exact hk e; exact hm e)]
  obtain ⟨i, rfl⟩ : ∃ i, k = i + 1 := ⟨k - 1, by omega⟩
  obtain ⟨o, x, ho⟩ := cut_last l a i
  rw [ho] at hn ⊢
  have hj : o.length = j := by simpa using hn
  subst hj
  rw [endAt_snoc]
  exact ⟨by simp, (flat_set o x _ _).symm⟩

theorem cut_pos {l a : Int} {k : Nat} (hk : k ≠ 0) : 0 < (cutN l a k).length := by
  obtain ⟨i, rfl⟩ : ∃ i, k = i + 1 := ⟨k - 1, by omega⟩
  obtain ⟨o, x, ho⟩ := cut_last l a i
  rw [ho]
  simp

set_option maxRecDepth 100000 in
set_option maxHeartbeats 2000000 in
theorem refcut_walk (a b l : Int) (w : World) (h : 1 ≤ l) (hl : l ≤ 9223372036854775807) (hab : a < b) (ha : 0 ≤ a) (hb : b ≤ 40320) :
    Calls Tryd.prog 12 #[.agg #[.int .i64 a, .int .i64 b], .int .i64 l] w fun e w' => ∃ v, e = .returned (.tuple #[v, .int .i64 0]) ∧ Own w.heap.size w' v (cutN l a (b - a).toNat) ∧ Below w.heap.size w w' := by
  obtain ⟨i0, hi, hz0, hz1, hz2⟩ := info_parts info_span
  have C := fun W => refright_yes a b W hab
  go_enter Tryd.func12, Tryd.ntmps12
  go_wp2_with (go_at_call 23; (with_reducible refine (C _).mono ?_); rintro e w1 ⟨rfl, hb1⟩; obtain ⟨hc1, hf1⟩ := bcell hb1; have hz1' := hb1.size; (try simp at hz1'); have hx1 : w.heap.size < w1.heap.size := (by omega))
  have hca : w1.cell? ⟨w.heap.size, 0, none⟩ = some (.int .i64 a) := by rw [hc1 _ _ (by simp)]; simp
  have hcb : w1.cell? ⟨w.heap.size, 1, none⟩ = some (.int .i64 b) := by rw [hc1 _ _ (by simp)]; simp
  have hbs : Below w.heap.size w w1 := by (repeat (first | exact Below.refl _ _ | (refine b_st ?_ (by first | (simp; done) | (simp; omega))) | (refine b_al ?_ (Nat.le_refl _) _) | refine b_dn ?_ | refine b_dr ?_ | (refine b_cl ?_ (Nat.le_refl _) (by assumption))))
  clear hc1 hf1 hb1 hz1'
  go_loopw [6, 7] (fun v i wr => ∃ (k n : Nat) (A2 : Option Addr) (c2 : Nat) (m : Int), i = .int .i64 m ∧ v = .slice A2 n c2 ∧ Hid ((cutN l a k).length = n) ∧ n ≤ k ∧ a ≤ m ∧ m ≤ b ∧ Hid (m = a + k) ∧
      Hid (Own w1.heap.size wr (.slice A2 n c2) (cutN l a k)) ∧ Below w1.heap.size w1 wr) (fun _ i _ => b.toNat - (intOf i).toNat)
  case atStart => exact ⟨0, 0, none, 0, a, rfl, rfl, Lib.hid rfl, Nat.le_refl _, Int.le_refl _, by omega, Lib.hid (by simp), Lib.hid (Own.nil _ _), Below.refl _ _⟩
  case round =>
    obtain ⟨k, n, A2, c2, m, rfl, rfl, hln, hnk, ham, hmb, hm, hown, hbl⟩ := hrel
    obtain ⟨w4, rfl⟩ : ∃ w4 : World, w4 = wr := ⟨_, rfl⟩
    have hsz := hbl.size
    have hca4 := c_cl hca hbl
    have hcb4 := c_cl hcb hbl
    have HON := Lib.hid hln.out
    have hkb : (k : Int) ≤ b - a := by have := hm.out; omega
    have hnb : (cutN l a k).length ≤ 40320 := by have := hln.out; omega
    by_cases hlt : m < b
    · by_cases hk0 : k = 0
      · have CN : Hid (cutN l a (k + 1) = cutN l a k ++ [(m, m + 1)]) := by rw [hm.out]; exact Lib.hid (cut_new (Or.inl hk0))
        have t1 : (m == a) = true := by have := hm.out; simp; omega
        clear hk0
        go_wp2_with (at_builtin; refine wpList_append_own _ rfl _ _ 29 rfl w1.heap.size 28 i0 (.agg #[.int .i64 0, .int .i64 0]) 2 16 Tryd.underlying29 hi hz0 hz1 hz2 rfl (by decide) _ _ _ rfl (hown.out.alloc _) ⟨w4.heap.size, 0, none⟩ 1 1 [.int .i64 (m), .int .i64 (m + 1)] rfl rfl one_news one_cell2 (by unfold maxLen; omega) (by omega) (by simp; omega) ?_; intro v1 w5 hown5 hgrow5 _)
        have HS := Lib.hid (Own.snoc hown5)
        have HBel := (hbl.alloc hbl.size (.cells #[.int .i64 m, .int .i64 (m + 1)] 28)).grown hgrow5 (by simp; omega) (fun k hk => (World.ownsRow.lt hown.out k hk).1)
        clear hown5 hgrow5
        obtain ⟨A5, c5, rfl, hrd5, _, _⟩ := HS.out.form
        have HL5 := Lib.hid (show (cutN l a k ++ [(m, m + 1)]).length = n + 1 by rw [List.length_append, HON.out]; rfl)
        go_wp2
        go_roundw
        case rel => exact ⟨k + 1, n + 1, A5, c5, m + 1, rfl, by rw [HL5.out], Lib.hid (by rw [CN.out, HL5.out]), by omega, by omega, by omega, Lib.hid (by have := hm.out; omega), Lib.hid (by rw [CN.out]; have := HS.out; rw [HL5.out] at this; exact this), HBel⟩
        case measure => simp [intOf]; omega
      · have hma : (m == a) = false := by have := hm.out; simp; omega
        by_cases hz : m % l = 0
        · have CN : Hid (cutN l a (k + 1) = cutN l a k ++ [(m, m + 1)]) := by rw [hm.out]; exact Lib.hid (cut_new (Or.inr (by rw [← hm.out]; exact hz)))
          have t1 : (m % l == 0) = true := by simpa using hz
          clear hz hk0
          go_wp2_with (at_builtin; refine wpList_append_own _ rfl _ _ 29 rfl w1.heap.size 28 i0 (.agg #[.int .i64 0, .int .i64 0]) 2 16 Tryd.underlying29 hi hz0 hz1 hz2 rfl (by decide) _ _ _ rfl (hown.out.alloc _) ⟨w4.heap.size, 0, none⟩ 1 1 [.int .i64 (m), .int .i64 (m + 1)] rfl rfl one_news one_cell2 (by unfold maxLen; omega) (by omega) (by simp; omega) ?_; intro v1 w5 hown5 hgrow5 _)
          have HS := Lib.hid (Own.snoc hown5)
          have HBel := (hbl.alloc hbl.size (.cells #[.int .i64 m, .int .i64 (m + 1)] 28)).grown hgrow5 (by simp; omega) (fun k hk => (World.ownsRow.lt hown.out k hk).1)
          clear hown5 hgrow5
          obtain ⟨A5, c5, rfl, hrd5, _, _⟩ := HS.out.form
          have HL5 := Lib.hid (show (cutN l a k ++ [(m, m + 1)]).length = n + 1 by rw [List.length_append, HON.out]; rfl)
          go_wp2
          go_roundw
          case rel => exact ⟨k + 1, n + 1, A5, c5, m + 1, rfl, by rw [HL5.out], Lib.hid (by rw [CN.out, HL5.out]), by omega, by omega, by omega, Lib.hid (by have := hm.out; omega), Lib.hid (by rw [CN.out]; have := HS.out; rw [HL5.out] at this; exact this), HBel⟩
          case measure => simp [intOf]; omega
        · have t1 : (m % l == 0) = false := by simpa using hz
          have hpos := cut_pos (l := l) (a := a) hk0
          obtain ⟨j, hj⟩ : ∃ j, n = j + 1 := ⟨n - 1, by have := hln.out; omega⟩
          have CM := Lib.hid (cut_more hk0 (by rw [← hm.out]; exact hz) (hln.out.trans hj))
          have hnj : (n : Int) - 1 = (j : Int) := by omega
          have hjn : j < n := by omega
          obtain ⟨A3, c3, he3, hrd3, _, _⟩ := hown.out.form
          injection he3 with e1 e2 e3
          subst e1 e3
          obtain ⟨bo, oo, t0, t2, rfl, hbo, hd1, hd2, ht⟩ := hrd3.at_ (k := j) (by rw [hln.out]; omega)
          obtain ⟨rfl, hgb, hfz⟩ := own_some hown.out
          rw [Nat.zero_add] at hd1 hd2
          have hfz2 := hfz (j * 2 + 1)
          have hne : bo ≠ w.heap.size := by omega
          clear hj hz hk0 hpos e2 hrd3 hfz hd1
          go_wp2
          go_roundw
          case rel =>
            have hj := own_joined (z := m + 1) hown.out hln.out CM.out.1 (by rw [CM.out.2, hm.out])
            exact ⟨k + 1, n, _, _, m + 1, rfl, rfl, Lib.hid (by rw [CM.out.1]; exact hln.out), by omega, by omega, by omega, Lib.hid (by have := hm.out; omega), Lib.hid hj, hbl.setCell hgb _⟩
          case measure => simp [intOf]; omega
    · have hkb' : (b - a).toNat = k := by have := hm.out; omega
      have HK := Lib.hid hkb'
      clear hkb'
      go_wp2
      go_ret2
      exact ⟨_, rfl, by rw [HK.out]; exact hown.out.more hbs.size, b_cl hbs (Nat.le_refl _) hbl⟩

end Go.Proofs.YtbldkhlkejoklaaDoor
