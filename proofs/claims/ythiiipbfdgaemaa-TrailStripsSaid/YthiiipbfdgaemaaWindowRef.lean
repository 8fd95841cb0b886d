/- What Last of windows returns, and what the document says of Check and Last, of any slice of spans that can be read. Conditions: as each theorem says. -/
import Derived.Test.YthiiipbfdgaemaaRows
import Derived.Test.YthiiipbfdgaemaaZ1
import Derived.Test.YthiiipbfdgaemaaZ2
import Derived.WalkKit
import Derived.WalkSpells
import Derived.WalkSmall
import Derived.Below
import Derived.Lib.Hide
import Derived.Outline
import Derived.BigQuiet
import Derived.Deep.QuietTactic
namespace Go.Proofs.Ythiiipbfdgaemaa
open Go.RowKit

set_option maxHeartbeats 1600000 in
theorem refcheck18_any (A : Option Addr) (c : Nat) (l : List Sp) (w : World) (h : RdS w A l) (hl : l.length ≤ 4611686018427387904) :
    Calls Try.prog 48 #[.slice A l.length c] w fun e w' => e = .returned (.int .i64 (checkW l)) ∧ Below w.heap.size w w' := by
  by_cases h0 : l.length = 0
  · have h0' : ((l.length : Int) == 0) = true := by simp [h0]
    rw [check_none h0]
    go_enter Try.func48, Try.ntmps48
    go_wp2
    go_ret
    exact ⟨rfl, Below.refl _ _⟩
  · have h0' : ((l.length : Int) == 0) = false := by simp [h0]
    by_cases h8 : 8 < l.length
    · have h8' : (8 : Int) < (l.length : Int) := by omega
      rw [check_many h8]
      go_enter Try.func48, Try.ntmps48
      go_wp2
      go_ret
      exact ⟨rfl, Below.refl _ _⟩
    · have h8' : ¬ (8 : Int) < (l.length : Int) := by omega
      go_enter Try.func48, Try.ntmps48
      go_wp2
      go_loopw [3] (fun i wr => ∃ k : Nat, k ≤ l.length ∧ i = .int .i64 k ∧ Below w.heap.size w wr ∧ Hid (∀ j, j < k → wrongS (l.getD j (0, 0)) = false)) (fun i _ => l.length - (intOf i).toNat)
      case atStart => exact ⟨0, Nat.zero_le _, rfl, Below.refl _ _, Lib.hid (by omega)⟩
      case round =>
        obtain ⟨k, hk, rfl, hb, hn⟩ := hrel
        have hsz := hb.size
        by_cases hlt : k < l.length
        · obtain ⟨b, off, x, y, rfl, hbb, hc1, hc2, hs⟩ := h.at_ hlt
          rw [← hb.cell (p := ⟨b, _, none⟩) hbb] at hc1 hc2
          have hbr : b < wr.heap.size := by omega
          by_cases hxy : x < y
          · have HW := Lib.hid (show wrongS (l.getD k (0, 0)) = false by rw [hs.out]; unfold wrongS; simp [hxy])
            go_wp2_with (go_at_call 61; refine (refright_yes _ _ _ hxy).mono ?_; rintro e w1 ⟨rfl, hb1⟩; obtain ⟨hc1, hf1⟩ := bcell hb1; have hz1 := hb1.size; (try simp at hz1))
            go_roundw
            case rel => exact ⟨k + 1, by omega, by go_num, by ((repeat (first | exact Below.refl _ _ | (refine b_st ?_ (by first | (simp; done) | (simp; omega))) | (refine b_al ?_ (Nat.le_refl _) _) | refine b_dn ?_ | refine b_dr ?_ | (refine b_cl ?_ (Nat.le_refl _) (by assumption))))), Lib.hid (fun j hj => by
              by_cases e : j = k
              · subst e; exact HW.out
              · exact hn.out j (by omega))⟩
            case measure => simp [intOf]; omega
          · have HW := Lib.hid (show wrongS (l.getD k (0, 0)) = true by rw [hs.out]; unfold wrongS; simp [hxy])
            go_wp2_with (go_at_call 61; refine (refright_no _ _ _ hxy).mono ?_; rintro e w1 ⟨rfl, hb1⟩; obtain ⟨hc1, hf1⟩ := bcell hb1; have hz1 := hb1.size; (try simp at hz1))
            go_ret
            refine ⟨?_, by ((repeat (first | exact Below.refl _ _ | (refine b_st ?_ (by first | (simp; done) | (simp; omega))) | (refine b_al ?_ (Nat.le_refl _) _) | refine b_dn ?_ | refine b_dr ?_ | (refine b_cl ?_ (Nat.le_refl _) (by assumption)))))⟩
            rw [check_wrong h0 h8 (any_at hlt HW.out)]; rfl
        · have HA := Lib.hid (any_none (p := wrongS) (by omega) hn.out)
          obtain ⟨w1, rfl⟩ : ∃ w1 : World, w1 = wr := ⟨_, rfl⟩
          clear hn
          go_wp2
          go_loopw [4] (fun i wr => ∃ k : Nat, k ≤ l.length ∧ i = .int .i64 k ∧ Below w.heap.size w wr ∧ Hid (∀ j, j < k → rangeS (l.getD j (0, 0)) = false)) (fun i _ => l.length - (intOf i).toNat)
          case atStart => exact ⟨0, Nat.zero_le _, rfl, hb, Lib.hid (by omega)⟩
          case round =>
            clear hb hsz
            obtain ⟨k, hk, rfl, hb, hn⟩ := hrel
            have hsz := hb.size
            by_cases hlt : k < l.length
            · obtain ⟨b, off, x, y, rfl, hbb, hc1, hc2, hs⟩ := h.at_ hlt
              rw [← hb.cell (p := ⟨b, _, none⟩) hbb] at hc1 hc2
              have hbr : b < wr.heap.size := by omega
              by_cases hx : x < 0
              · have HW := Lib.hid (show rangeS (l.getD k (0, 0)) = true by rw [hs.out]; unfold rangeS; simp [hx])
                have hd : decide (x < 0) = true := decide_eq_true hx
                go_wp2
                go_ret
                refine ⟨?_, by ((repeat (first | exact Below.refl _ _ | (refine b_st ?_ (by first | (simp; done) | (simp; omega))) | (refine b_al ?_ (Nat.le_refl _) _) | refine b_dn ?_ | refine b_dr ?_ | (refine b_cl ?_ (Nat.le_refl _) (by assumption)))))⟩
                rw [check_range h0 h8 HA.out (any_at hlt HW.out)]; rfl
              · have hd : decide (x < 0) = false := decide_eq_false hx
                by_cases hy : 40320 < y
                · have HW := Lib.hid (show rangeS (l.getD k (0, 0)) = true by rw [hs.out]; unfold rangeS; simp [hy])
                  have hd2 : decide (40320 < y) = true := decide_eq_true hy
                  go_wp2
                  go_ret
                  refine ⟨?_, by ((repeat (first | exact Below.refl _ _ | (refine b_st ?_ (by first | (simp; done) | (simp; omega))) | (refine b_al ?_ (Nat.le_refl _) _) | refine b_dn ?_ | refine b_dr ?_ | (refine b_cl ?_ (Nat.le_refl _) (by assumption)))))⟩
                  rw [check_range h0 h8 HA.out (any_at hlt HW.out)]; rfl
                · have HW := Lib.hid (show rangeS (l.getD k (0, 0)) = false by rw [hs.out]; unfold rangeS; simp; omega)
                  have hd2 : decide (40320 < y) = false := decide_eq_false hy
                  go_wp2
                  go_roundw
                  case rel => exact ⟨k + 1, by omega, by go_num, by ((repeat (first | exact Below.refl _ _ | (refine b_st ?_ (by first | (simp; done) | (simp; omega))) | (refine b_al ?_ (Nat.le_refl _) _) | refine b_dn ?_ | refine b_dr ?_ | (refine b_cl ?_ (Nat.le_refl _) (by assumption))))), Lib.hid (fun j hj => by
                    by_cases e : j = k
                    · subst e; exact HW.out
                    · exact hn.out j (by omega))⟩
                  case measure => simp [intOf]; omega
            · have HA2 := Lib.hid (any_none (p := rangeS) (by omega) hn.out)
              have CR := fun W (h : RdS W A l) => refrightl_any A c l W h hl
              obtain ⟨g, hg⟩ : ∃ g, rightB l = g := ⟨_, rfl⟩
              rw [hg] at CR
              have HG := Lib.hid hg
              clear hg
              cases g with
              | false =>
                go_wp2_with (go_at_call 62; refine (CR _ (h.below (hb.mono (Nat.le_refl _)))).mono ?_; rintro e w2 ⟨rfl, hb2⟩)
                go_ret
                refine ⟨?_, by ((repeat (first | exact Below.refl _ _ | (refine b_st ?_ (by first | (simp; done) | (simp; omega))) | (refine b_al ?_ (Nat.le_refl _) _) | refine b_dn ?_ | refine b_dr ?_ | (refine b_cl ?_ (Nat.le_refl _) (by assumption)))))⟩
                rw [check_over h0 h8 HA.out HA2.out HG.out]; rfl
              | true =>
                go_wp2_with (go_at_call 62; refine (CR _ (h.below (hb.mono (Nat.le_refl _)))).mono ?_; rintro e w2 ⟨rfl, hb2⟩)
                go_ret
                refine ⟨?_, by ((repeat (first | exact Below.refl _ _ | (refine b_st ?_ (by first | (simp; done) | (simp; omega))) | (refine b_al ?_ (Nat.le_refl _) _) | refine b_dn ?_ | refine b_dr ?_ | (refine b_cl ?_ (Nat.le_refl _) (by assumption)))))⟩
                rw [check_right h0 h8 HA.out HA2.out HG.out]; rfl

end Go.Proofs.Ythiiipbfdgaemaa
