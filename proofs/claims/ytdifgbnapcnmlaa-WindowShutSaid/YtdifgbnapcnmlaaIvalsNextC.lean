/- What Next of layer 3, and the reference's, return, for any slice of spans that can be read. Conditions: as each theorem says. -/
import Derived.Test.YtdifgbnapcnmlaaRows
import Derived.Test.YtdifgbnapcnmlaaBase
import Derived.Test.YtdifgbnapcnmlaaIvalsWords
import Derived.Test.YtdifgbnapcnmlaaIvalLeaf
import Derived.Test.YtdifgbnapcnmlaaIvalTwo
import Derived.WalkKit
import Derived.WalkSpells
import Derived.WalkSmall
import Derived.Below
import Derived.Outline
import Derived.Lib.Hide
namespace Go.Proofs.Ytdifgbnapcnmlaa
open Go.RowKit

theorem next_skip {m x y : Int} {acc : Int × Bool} (h : ¬ (x < y ∧ m < y)) : next1 m acc (x, y) = acc := by unfold next1; rw [if_neg h]

theorem next_take {m x y z : Int} {acc : Int × Bool} (h : x < y ∧ m < y) (hz : (if x < m then m else x) = z) (h2 : acc.2 = false ∨ z < acc.1) : next1 m acc (x, y) = (z, true) := by
  unfold next1; rw [if_pos h]; simp only [hz]; rw [if_pos h2]

theorem next_leave {m x y z : Int} {acc : Int × Bool} (h : x < y ∧ m < y) (hz : (if x < m then m else x) = z) (h2 : ¬ (acc.2 = false ∨ z < acc.1)) : next1 m acc (x, y) = acc := by
  unfold next1; rw [if_pos h]; simp only [hz]; rw [if_neg h2]

theorem next_end {l : List Sp} {m : Int} {k : Nat} {acc : Int × Bool} (hk : l.length ≤ k) (h : (l.take k).foldl (next1 m) (0, false) = acc) : nextL l m = acc := by
  rw [List.take_of_length_le hk] at h; exact h

set_option maxHeartbeats 1600000 in
theorem refnext_any (A : Option Addr) (c : Nat) (l : List Sp) (m : Int) (w : World) (h : RdS w A l) (hl : l.length ≤ 4611686018427387904) :
    Calls Try.prog 8 #[.slice A l.length c, .int .i64 m] w fun e w' => e = .returned (.tuple #[.int .i64 (nextL l m).1, .bool (nextL l m).2]) ∧ Below w.heap.size w w' := by
  go_enter Try.func8, Try.ntmps8
  go_wp2
  go_loopw [6, 7, 8] (fun n f i wr => ∃ (k : Nat) (z : Int) (g : Bool), k ≤ l.length ∧ n = .int .i64 z ∧ f = .bool g ∧ i = .int .i64 k ∧ Below w.heap.size w wr ∧ Hid ((l.take k).foldl (next1 m) (0, false) = (z, g))) (fun _ _ i _ => l.length - (intOf i).toNat)
  case atStart => exact ⟨0, 0, false, Nat.zero_le _, rfl, rfl, rfl, Below.refl _ _, Lib.hid rfl⟩
  case round =>
    obtain ⟨k, z, g, hk, rfl, rfl, rfl, hb, hn⟩ := hrel
    have hsz := hb.size
    by_cases hlt : k < l.length
    · obtain ⟨b, off, x, y, rfl, hbb, hc1, hc2, hs⟩ := h.at_ hlt
      rw [← hb.cell (p := ⟨b, _, none⟩) hbb] at hc1 hc2
      have hbr : b < wr.heap.size := by omega
      have NM := Lib.hid (next_more l m k hlt)
      by_cases hxy : x < y
      · by_cases hmy : y ≤ m
        · go_wp2_with (go_at_call 19; refine (refright_yes _ _ _ hxy).mono ?_; rintro e w1 ⟨rfl, hb1⟩; obtain ⟨hc1, hf1⟩ := bcell hb1; have hz1 := hb1.size; (try simp at hz1))
          go_roundw
          case rel => exact ⟨k + 1, z, g, by omega, rfl, rfl, by go_num, by ((repeat (first | assumption | exact Below.refl _ _ | (refine b_st ?_ (by first | (simp; done) | (simp; omega))) | (refine b_al ?_ (Nat.le_refl _) _) | refine b_dn ?_ | refine b_dr ?_ | (refine b_cl ?_ (Nat.le_refl _) (by assumption))))), Lib.hid (by rw [NM.out, hn.out, hs.out, next_skip (by omega)])⟩
          case measure => simp [intOf]; omega
        · obtain ⟨s, hsz'⟩ : ∃ s, (if x < m then m else x) = s := ⟨_, rfl⟩
          have HZ := Lib.hid hsz'
          clear hsz'
          cases g with
          | false =>
            have HT := Lib.hid (next_take (acc := (z, false)) (m := m) (x := x) (y := y) (by omega) HZ.out (Or.inl rfl))
            by_cases hxm : x < m
            · go_wp2_with (go_at_call 19; refine (refright_yes _ _ _ hxy).mono ?_; rintro e w1 ⟨rfl, hb1⟩; obtain ⟨hc1, hf1⟩ := bcell hb1; have hz1 := hb1.size; (try simp at hz1))
              go_roundw
              case rel => exact ⟨k + 1, s, true, by omega, by have := HZ.out; rw [if_pos hxm] at this; rw [this], rfl, by go_num, by ((repeat (first | assumption | exact Below.refl _ _ | (refine b_st ?_ (by first | (simp; done) | (simp; omega))) | (refine b_al ?_ (Nat.le_refl _) _) | refine b_dn ?_ | refine b_dr ?_ | (refine b_cl ?_ (Nat.le_refl _) (by assumption))))), Lib.hid (by rw [NM.out, hn.out, hs.out, HT.out])⟩
              case measure => simp [intOf]; omega
            · go_wp2_with (go_at_call 19; refine (refright_yes _ _ _ hxy).mono ?_; rintro e w1 ⟨rfl, hb1⟩; obtain ⟨hc1, hf1⟩ := bcell hb1; have hz1 := hb1.size; (try simp at hz1))
              go_roundw
              case rel => exact ⟨k + 1, s, true, by omega, by have := HZ.out; rw [if_neg (by omega)] at this; rw [this], rfl, by go_num, by ((repeat (first | assumption | exact Below.refl _ _ | (refine b_st ?_ (by first | (simp; done) | (simp; omega))) | (refine b_al ?_ (Nat.le_refl _) _) | refine b_dn ?_ | refine b_dr ?_ | (refine b_cl ?_ (Nat.le_refl _) (by assumption))))), Lib.hid (by rw [NM.out, hn.out, hs.out, HT.out])⟩
              case measure => simp [intOf]; omega
          | true =>
            by_cases hsl : s < z
            · have HT := Lib.hid (next_take (acc := (z, true)) (m := m) (x := x) (y := y) (by omega) HZ.out (Or.inr hsl))
              by_cases hxm : x < m
              · have e := HZ.out
                rw [if_pos hxm] at e
                subst e
                go_wp2_with (go_at_call 19; refine (refright_yes _ _ _ hxy).mono ?_; rintro e w1 ⟨rfl, hb1⟩; obtain ⟨hc1, hf1⟩ := bcell hb1; have hz1 := hb1.size; (try simp at hz1))
                go_roundw
                case rel => exact ⟨k + 1, m, true, by omega, rfl, rfl, by go_num, by ((repeat (first | assumption | exact Below.refl _ _ | (refine b_st ?_ (by first | (simp; done) | (simp; omega))) | (refine b_al ?_ (Nat.le_refl _) _) | refine b_dn ?_ | refine b_dr ?_ | (refine b_cl ?_ (Nat.le_refl _) (by assumption))))), Lib.hid (by rw [NM.out, hn.out, hs.out, HT.out])⟩
                case measure => simp [intOf]; omega
              · have e := HZ.out
                rw [if_neg hxm] at e
                subst e
                go_wp2_with (go_at_call 19; refine (refright_yes _ _ _ hxy).mono ?_; rintro e w1 ⟨rfl, hb1⟩; obtain ⟨hc1, hf1⟩ := bcell hb1; have hz1 := hb1.size; (try simp at hz1))
                go_roundw
                case rel => exact ⟨k + 1, x, true, by omega, rfl, rfl, by go_num, by ((repeat (first | assumption | exact Below.refl _ _ | (refine b_st ?_ (by first | (simp; done) | (simp; omega))) | (refine b_al ?_ (Nat.le_refl _) _) | refine b_dn ?_ | refine b_dr ?_ | (refine b_cl ?_ (Nat.le_refl _) (by assumption))))), Lib.hid (by rw [NM.out, hn.out, hs.out, HT.out])⟩
                case measure => simp [intOf]; omega
            · have HT := Lib.hid (next_leave (acc := (z, true)) (m := m) (x := x) (y := y) (by omega) HZ.out (by simp; omega))
              by_cases hxm : x < m
              · have e := HZ.out
                rw [if_pos hxm] at e
                subst e
                go_wp2_with (go_at_call 19; refine (refright_yes _ _ _ hxy).mono ?_; rintro e w1 ⟨rfl, hb1⟩; obtain ⟨hc1, hf1⟩ := bcell hb1; have hz1 := hb1.size; (try simp at hz1))
                go_roundw
                case rel => exact ⟨k + 1, z, true, by omega, rfl, rfl, by go_num, by ((repeat (first | assumption | exact Below.refl _ _ | (refine b_st ?_ (by first | (simp; done) | (simp; omega))) | (refine b_al ?_ (Nat.le_refl _) _) | refine b_dn ?_ | refine b_dr ?_ | (refine b_cl ?_ (Nat.le_refl _) (by assumption))))), Lib.hid (by rw [NM.out, hn.out, hs.out, HT.out])⟩
                case measure => simp [intOf]; omega
              · have e := HZ.out
                rw [if_neg hxm] at e
                subst e
                go_wp2_with (go_at_call 19; refine (refright_yes _ _ _ hxy).mono ?_; rintro e w1 ⟨rfl, hb1⟩; obtain ⟨hc1, hf1⟩ := bcell hb1; have hz1 := hb1.size; (try simp at hz1))
                go_roundw
                case rel => exact ⟨k + 1, z, true, by omega, rfl, rfl, by go_num, by ((repeat (first | assumption | exact Below.refl _ _ | (refine b_st ?_ (by first | (simp; done) | (simp; omega))) | (refine b_al ?_ (Nat.le_refl _) _) | refine b_dn ?_ | refine b_dr ?_ | (refine b_cl ?_ (Nat.le_refl _) (by assumption))))), Lib.hid (by rw [NM.out, hn.out, hs.out, HT.out])⟩
                case measure => simp [intOf]; omega
      · have HX := Lib.hid hxy
        go_wp2_with (go_at_call 19; refine (refright_no _ _ _ HX.out).mono ?_; rintro e w1 ⟨rfl, hb1⟩; obtain ⟨hc1, hf1⟩ := bcell hb1; have hz1 := hb1.size; (try simp at hz1))
        go_roundw
        case rel => exact ⟨k + 1, z, g, by omega, rfl, rfl, by go_num, by ((repeat (first | assumption | exact Below.refl _ _ | (refine b_st ?_ (by first | (simp; done) | (simp; omega))) | (refine b_al ?_ (Nat.le_refl _) _) | refine b_dn ?_ | refine b_dr ?_ | (refine b_cl ?_ (Nat.le_refl _) (by assumption))))), Lib.hid (by rw [NM.out, hn.out, hs.out, next_skip (by omega)])⟩
        case measure => simp [intOf]; omega
    · have hk2 : l.length ≤ k := by omega
      have HE := Lib.hid (next_end hk2 hn.out)
      go_wp2
      go_ret2
      rw [HE.out]
      exact ⟨rfl, hb⟩

theorem up2_next (x m : Int) : (if x < m then m else x) = up2 x m := by
  unfold up2; by_cases h : x < m
  · rw [if_pos h, if_neg (by omega)]
  · rw [if_neg h, if_pos (by omega)]

theorem both_next {x y m : Int} (hy : y ≤ 9223372036854775807) : (up2 x m < lo2 y 9223372036854775807) ↔ (x < y ∧ m < y) := by
  unfold up2 lo2; rw [if_pos hy]; split <;> omega

set_option maxHeartbeats 1600000 in
theorem nextl_any (A : Option Addr) (c : Nat) (l : List Sp) (m : Int) (w : World) (h : RdS w A l) (hl : l.length ≤ 4611686018427387904) (bd : Bd l) :
    Calls Try.prog 18 #[.slice A l.length c, .int .i64 m] w fun e w' => e = .returned (.tuple #[.int .i64 (nextL l m).1, .bool (nextL l m).2]) ∧ Below w.heap.size w w' := by
  have BD := Lib.hid bd
  clear bd
  go_enter Try.func18, Try.ntmps18
  go_wp2
  go_loopw [7, 8, 17] (fun n f i wr => ∃ (k : Nat) (z : Int) (g : Bool), k ≤ l.length ∧ n = .int .i64 z ∧ f = .bool g ∧ i = .int .i64 k ∧
      (wr.cell? ⟨w.heap.size, 0, none⟩ = some (.int .i64 m) ∧ wr.cell? ⟨w.heap.size, 1, none⟩ = some (.int .i64 9223372036854775807) ∧ w.heap.size < wr.heap.size) ∧ Below w.heap.size w wr ∧ Hid ((l.take k).foldl (next1 m) (0, false) = (z, g))) (fun _ _ i _ => l.length - (intOf i).toNat)
  case atStart => exact ⟨0, 0, false, Nat.zero_le _, rfl, rfl, rfl, ⟨by simp, by simp, by simp⟩, (Below.refl _ _).alloc (Nat.le_refl _) _, Lib.hid rfl⟩
  case round =>
    obtain ⟨k, z, g, hk, rfl, rfl, rfl, ⟨hm1, hm2, hm3⟩, hb, hn⟩ := hrel
    have hsz := hb.size
    by_cases hlt : k < l.length
    · obtain ⟨b, off, x, y, rfl, hbb, hc1, hc2, hs⟩ := h.at_ hlt
      rw [← hb.cell (p := ⟨b, _, none⟩) hbb] at hc1 hc2
      have hbr : b < wr.heap.size := by omega
      have hne : ¬ b = w.heap.size := by omega
      have NM := Lib.hid (next_more l m k hlt)
      have BN := Lib.hid (both_next (x := x) (y := y) (m := m) (by have := BD.out _ (getD_mem hlt); rw [hs.out] at this; exact this.2.2))
      by_cases hxy : x < y ∧ m < y
      · obtain ⟨s, hsz'⟩ : ∃ s, up2 x m = s := ⟨_, rfl⟩
        have HZ := Lib.hid hsz'
        clear hsz'
        have hby := fun W => both_yes x y m 9223372036854775807 W (BN.out.2 hxy)
        rw [HZ.out] at hby
        generalize lo2 y 9223372036854775807 = t at hby
        have HU := Lib.hid ((up2_next x m).trans HZ.out)
        cases g with
        | false =>
          have HT := Lib.hid (next_take (acc := (z, false)) (m := m) (x := x) (y := y) hxy HU.out (Or.inl rfl))
          go_wp2_with (go_at_call 28; refine (hby _).mono ?_; rintro e w1 ⟨rfl, hb1⟩; obtain ⟨hc1, hf1⟩ := bcell hb1; have hz1 := hb1.size; (try simp at hz1))
          go_roundw
          case rel => exact ⟨k + 1, s, true, by omega, rfl, rfl, by go_num, ⟨c_al _ (c_cl (c_al _ hm1) hb1), c_al _ (c_cl (c_al _ hm2) hb1), by simp; omega⟩, by ((repeat (first | assumption | exact Below.refl _ _ | (refine b_st ?_ (by first | (simp; done) | (simp; omega))) | (refine b_al ?_ (Nat.le_refl _) _) | refine b_dn ?_ | refine b_dr ?_ | (refine b_cl ?_ (Nat.le_refl _) (by assumption))))), Lib.hid (by rw [NM.out, hn.out, hs.out, HT.out])⟩
          case measure => simp [intOf]; omega
        | true =>
          by_cases hsl : s < z
          · have HT := Lib.hid (next_take (acc := (z, true)) (m := m) (x := x) (y := y) hxy HU.out (Or.inr hsl))
            go_wp2_with (go_at_call 28; refine (hby _).mono ?_; rintro e w1 ⟨rfl, hb1⟩; obtain ⟨hc1, hf1⟩ := bcell hb1; have hz1 := hb1.size; (try simp at hz1))
            go_roundw
            case rel => exact ⟨k + 1, s, true, by omega, rfl, rfl, by go_num, ⟨c_al _ (c_cl (c_al _ hm1) hb1), c_al _ (c_cl (c_al _ hm2) hb1), by simp; omega⟩, by ((repeat (first | assumption | exact Below.refl _ _ | (refine b_st ?_ (by first | (simp; done) | (simp; omega))) | (refine b_al ?_ (Nat.le_refl _) _) | refine b_dn ?_ | refine b_dr ?_ | (refine b_cl ?_ (Nat.le_refl _) (by assumption))))), Lib.hid (by rw [NM.out, hn.out, hs.out, HT.out])⟩
            case measure => simp [intOf]; omega
          · have HT := Lib.hid (next_leave (acc := (z, true)) (m := m) (x := x) (y := y) hxy HU.out (by simp; omega))
            go_wp2_with (go_at_call 28; refine (hby _).mono ?_; rintro e w1 ⟨rfl, hb1⟩; obtain ⟨hc1, hf1⟩ := bcell hb1; have hz1 := hb1.size; (try simp at hz1))
            go_roundw
            case rel => exact ⟨k + 1, z, true, by omega, rfl, rfl, by go_num, ⟨c_al _ (c_cl (c_al _ hm1) hb1), c_al _ (c_cl (c_al _ hm2) hb1), by simp; omega⟩, by ((repeat (first | assumption | exact Below.refl _ _ | (refine b_st ?_ (by first | (simp; done) | (simp; omega))) | (refine b_al ?_ (Nat.le_refl _) _) | refine b_dn ?_ | refine b_dr ?_ | (refine b_cl ?_ (Nat.le_refl _) (by assumption))))), Lib.hid (by rw [NM.out, hn.out, hs.out, HT.out])⟩
            case measure => simp [intOf]; omega
      · have HX := Lib.hid hxy
        clear hxy
        go_wp2_with (go_at_call 28; refine (both_no _ _ _ _ _ (fun hh => HX.out (BN.out.1 hh))).mono ?_; rintro e w1 ⟨rfl, hb1⟩; obtain ⟨hc1, hf1⟩ := bcell hb1; have hz1 := hb1.size; (try simp at hz1))
        go_roundw
        case rel => exact ⟨k + 1, z, g, by omega, rfl, rfl, by go_num, ⟨c_al _ (c_cl (c_al _ hm1) hb1), c_al _ (c_cl (c_al _ hm2) hb1), by simp; omega⟩, by ((repeat (first | assumption | exact Below.refl _ _ | (refine b_st ?_ (by first | (simp; done) | (simp; omega))) | (refine b_al ?_ (Nat.le_refl _) _) | refine b_dn ?_ | refine b_dr ?_ | (refine b_cl ?_ (Nat.le_refl _) (by assumption))))), Lib.hid (by rw [NM.out, hn.out, hs.out, next_skip HX.out])⟩
        case measure => simp [intOf]; omega
    · have hk2 : l.length ≤ k := by omega
      have HE := Lib.hid (next_end hk2 hn.out)
      go_wp2
      go_ret2
      rw [HE.out]
      exact ⟨rfl, hb⟩

end Go.Proofs.Ytdifgbnapcnmlaa
