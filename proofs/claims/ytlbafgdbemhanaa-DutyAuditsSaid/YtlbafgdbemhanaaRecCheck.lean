/- What Check of layer 8 returns: the first record that is wrong, and what is wrong with it. Conditions: the records can be read. -/
import Derived.Test.YtlbafgdbemhanaaRows
import Derived.Test.YtlbafgdbemhanaaBase
import Derived.Test.YtlbafgdbemhanaaZ2
import Derived.Test.YtlbafgdbemhanaaZ1
import Derived.Test.YtlbafgdbemhanaaRecLeaf
import Derived.WalkKit
import Derived.WalkSpells
import Derived.WalkSmall
import Derived.Below
import Derived.Outline
import Derived.OwnWalk
import Derived.Lib.Hide
import Derived.BigQuiet
import Derived.Deep.QuietTactic
namespace Go.Proofs.Ytlbafgdbemhanaa
open Go.RowKit

theorem fault_one {l : List Rc} (h : faultV l 0 = 0) : ∀ j, j < 0 + 1 → faultV l j = 0 := fun j hj => by
  obtain rfl : j = 0 := by omega
  exact h

set_option maxRecDepth 100000 in
set_option maxHeartbeats 2000000 in
theorem rcheck_any (A : Option Addr) (c : Nat) (l : List Rc) (w : World) (h : RdR w A l) (hl : l.length ≤ 4611686018427387904) :
    Calls Try.prog 34 #[.slice A l.length c] w fun e w' => e = .returned (.tuple #[.int .i64 ((checkV l).1 : Nat), .int .i64 (checkV l).2]) ∧ Below w.heap.size w w' := by
  obtain ⟨V, hV⟩ : ∃ V, checkV l = V := ⟨_, rfl⟩
  have HV := Lib.hid hV
  rw [hV]
  clear hV
  go_enter Try.func34, Try.ntmps34
  go_wp2
  go_loopw [9] (fun i wr => ∃ k : Nat, k ≤ l.length ∧ i = .int .i64 k ∧ Below w.heap.size w wr ∧ Hid (∀ j, j < k → faultV l j = 0)) (fun i _ => l.length - (intOf i).toNat)
  case atStart => exact ⟨0, Nat.zero_le _, rfl, Below.refl _ _, Lib.hid (fun j hj => by omega)⟩
  case round =>
    obtain ⟨k, hk, rfl, hb, hn⟩ := hrel
    obtain ⟨w2, rfl⟩ : ∃ w2 : World, w2 = wr := ⟨_, rfl⟩
    have hsz := hb.size
    by_cases hlt : k < l.length
    · obtain ⟨b, off, x, y, z, rfl, hbb, hc0, hc1, hc2, hs⟩ := h.at_ hlt
      have AL := fun W => alone_any x y z W
      obtain ⟨a, ha⟩ : ∃ a, aloneV x y z = a := ⟨_, rfl⟩
      rw [ha] at AL
      have HA := Lib.hid ha
      have HX := Lib.hid h
      clear ha
      rw [← hb.cell (p := ⟨b, _, none⟩) hbb] at hc0 hc1 hc2
      have hbr : b < w2.heap.size := by omega
      by_cases ha0 : a = 0
      · subst ha0
        by_cases hk0 : k = 0
        · subst hk0
          simp only [Nat.zero_mul, Nat.add_zero] at hc0 hc1 hc2
          have HN := Lib.hid (fault_one (by rw [fault_first hs.out, HA.out]))
          go_wp2_with (go_at_call 59; (with_reducible refine (AL _).mono ?_); rintro e w1 ⟨rfl, hb1⟩)
          go_roundw
          case rel => exact ⟨0 + 1, by omega, by go_num, (hb.alloc hsz _).trans (hb1.mono (by simp; omega)), HN⟩
          case measure => simp [intOf]; omega
        · obtain ⟨j, hj⟩ : ∃ j, k = j + 1 := ⟨k - 1, by omega⟩
          have HJ := Lib.hid hj
          have hkj : (k : Int) - 1 = (j : Int) := by omega
          have hjl : j < l.length := by omega
          have hg1 : (0 : Int) < (k : Int) := by omega
          clear hj hk0
          obtain ⟨b2, off2, p_, q, r, he2, _, hd0, hd1, hd2, ht⟩ := HX.out.at_ hjl
          simp only [Option.some.injEq, Addr.mk.injEq, and_true] at he2
          obtain ⟨rfl, rfl⟩ := he2
          rw [← hb.cell (p := ⟨b, _, none⟩) hbb] at hd0 hd1 hd2
          have BE := fun W => behind_any x y z p_ q r W
          obtain ⟨d, hd⟩ : ∃ d, behindV r y = d := ⟨_, rfl⟩
          rw [hd] at BE
          have HF := Lib.hid (show faultV l k = d by rw [HJ.out, fault_next (by rw [← HJ.out]; exact hs.out) HA.out ht.out, hd])
          clear hd HX HJ
          go_wp2_with (go_at_call 59; (with_reducible refine (AL _).mono ?_); rintro e w1 ⟨rfl, hb1⟩; have q1 : ∀ p : BelowOf w1, p.world.cell? ⟨w2.heap.size, 0, none⟩ = some (.int .i64 x) := (fun p => p.cell (c_cl (by simp) hb1)); have q2 : ∀ p : BelowOf w1, p.world.cell? ⟨w2.heap.size, 1, none⟩ = some (.int .i64 y) := (fun p => p.cell (c_cl (by simp) hb1)); have q3 : ∀ p : BelowOf w1, p.world.cell? ⟨w2.heap.size, 2, none⟩ = some (.int .i64 z) := (fun p => p.cell (c_cl (by simp) hb1)); have q4 : ∀ p : BelowOf w1, p.world.cell? ⟨b, off + j * 3, none⟩ = some (.int .i64 p_) := (fun p => p.cell (c_cl (c_al _ hd0) hb1)); have q5 : ∀ p : BelowOf w1, p.world.cell? ⟨b, off + j * 3 + 1, none⟩ = some (.int .i64 q) := (fun p => p.cell (c_cl (c_al _ hd1) hb1)); have q6 : ∀ p : BelowOf w1, p.world.cell? ⟨b, off + j * 3 + 2, none⟩ = some (.int .i64 r) := (fun p => p.cell (c_cl (c_al _ hd2) hb1)))
          refine wp_region_bel (by kernel_rfl) (by kernel_rfl) ?_
          repeat (go_big_quiet_step (first | (go_at_call 60; exact Calls.bel_of (BE _))))
          refine wpQuiet_nil ?_
          refine bel_all fun wq hbq => ?_
          clear q1 q2 q3 q4 q5 q6
          have HB := (hb.alloc hsz (.cells #[.int .i64 x, .int .i64 y, .int .i64 z] 48)).trans (hb1.mono (by simp; omega))
          have HBQ := HB.trans (hbq.mono HB.size)
          by_cases hd0 : d = 0
          · subst hd0
            have HN := Lib.hid (show ∀ i, i < k + 1 → faultV l i = 0 from fun i hi => by
              by_cases e : i = k
              · rw [e, HF.out]
              · exact hn.out i (by omega))
            go_wp2
            go_roundw
            case rel => exact ⟨k + 1, by omega, by go_num, HBQ, HN⟩
            case measure => simp [intOf]; omega
          · have e1 : (d == 0) = false := by simpa using hd0
            have e2 : (d != 0) = true := by simpa using hd0
            have HE := Lib.hid (check_bad hlt hn.out HF.out hd0)
            clear hd0
            go_wp2
            go_ret2
            rw [← HV.out, HE.out]
            exact ⟨rfl, HBQ⟩
      · have e1 : (a == 0) = false := by simpa using ha0
        have e2 : (a != 0) = true := by simpa using ha0
        have HE := Lib.hid (check_bad hlt hn.out (by rw [fault_alone hs.out (by rw [HA.out]; exact ha0), HA.out]) ha0)
        clear ha0
        go_wp2_with (go_at_call 59; (with_reducible refine (AL _).mono ?_); rintro e w1 ⟨rfl, hb1⟩)
        go_ret2
        rw [← HV.out, HE.out]
        exact ⟨rfl, (hb.alloc hsz _).trans (hb1.mono (by simp; omega))⟩
    · have hkl : k = l.length := by omega
      have HE := Lib.hid (check_ok (l := l) (fun j hj => hn.out j (by omega)))
      go_wp2
      go_ret2
      rw [← HV.out, HE.out]
      exact ⟨rfl, hb⟩

end Go.Proofs.Ytlbafgdbemhanaa
