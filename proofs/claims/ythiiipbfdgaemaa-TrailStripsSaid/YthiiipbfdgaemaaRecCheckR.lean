/- What the document's own Check of layer 8 returns: the first record that is wrong, and what is wrong with it. Conditions: the records can be read. -/
import Derived.Test.YthiiipbfdgaemaaRows
import Derived.Test.YthiiipbfdgaemaaZ1
import Derived.Test.YthiiipbfdgaemaaZ2
import Derived.WalkKit
import Derived.WalkSpells
import Derived.WalkSmall
import Derived.Below
import Derived.Outline
import Derived.OwnWalk
import Derived.Lib.Hide
import Derived.BigQuiet
import Derived.Deep.QuietTactic
namespace Go.Proofs.Ythiiipbfdgaemaa
open Go.RowKit

theorem fault_is {l : List Rc} {k : Nat} {x y z e : Int} (h : l.getD k rz = (x, y, z)) (ha : aloneV x y z = e) (he : e ≠ 0) : faultV l k = e := by
  rw [fault_alone h (by rw [ha]; exact he), ha]

set_option maxRecDepth 100000 in
set_option maxHeartbeats 4000000 in
theorem refrcheck_any (A : Option Addr) (c : Nat) (l : List Rc) (w : World) (h : RdR w A l) (hl : l.length ≤ 4611686018427387904) :
    Calls Try.prog 14 #[.slice A l.length c] w fun e w' => e = .returned (.tuple #[.int .i64 ((checkV l).1 : Nat), .int .i64 (checkV l).2]) ∧ Below w.heap.size w w' := by
  obtain ⟨V, hV⟩ : ∃ V, checkV l = V := ⟨_, rfl⟩
  have HV := Lib.hid hV
  rw [hV]
  clear hV
  go_enter Try.func14, Try.ntmps14
  go_wp2
  go_loopw [4] (fun i wr => ∃ k : Nat, k ≤ l.length ∧ i = .int .i64 k ∧ Below w.heap.size w wr ∧ Hid (∀ j, j < k → faultV l j = 0)) (fun i _ => l.length - (intOf i).toNat)
  case atStart => exact ⟨0, Nat.zero_le _, rfl, Below.refl _ _, Lib.hid (fun j hj => by omega)⟩
  case round =>
    obtain ⟨k, hk, rfl, hb, hn⟩ := hrel
    obtain ⟨w2, rfl⟩ : ∃ w2 : World, w2 = wr := ⟨_, rfl⟩
    have hsz := hb.size
    by_cases hlt : k < l.length
    · obtain ⟨b, off, x, y, z, rfl, hbb, hc0, hc1, hc2, hs⟩ := h.at_ hlt
      have HX := Lib.hid h
      rw [← hb.cell (p := ⟨b, _, none⟩) hbb] at hc0 hc1 hc2
      have hbr : b < w2.heap.size := by omega
      by_cases hh0 : x < 0
      · have HE := Lib.hid (check_bad hlt hn.out (fault_is hs.out (e := 2) (by unfold aloneV; rw [if_neg (by omega)]) (by decide)) (by decide))
        go_wp2
        go_ret2
        rw [← HV.out, HE.out]
        exact ⟨rfl, hb.alloc hsz _⟩
      · have hm0 : 0 ≤ x := by omega
        clear hh0
        by_cases hh1 : 3 < x
        · have HE := Lib.hid (check_bad hlt hn.out (fault_is hs.out (e := 2) (by unfold aloneV; rw [if_neg (by omega)]) (by decide)) (by decide))
          go_wp2
          go_ret2
          rw [← HV.out, HE.out]
          exact ⟨rfl, hb.alloc hsz _⟩
        · have hm1 : x ≤ 3 := by omega
          clear hh1
          by_cases hh2 : y < 0
          · have HE := Lib.hid (check_bad hlt hn.out (fault_is hs.out (e := 4) (by unfold aloneV; rw [if_pos (by omega), if_neg (by omega)]) (by decide)) (by decide))
            go_wp2
            go_ret2
            rw [← HV.out, HE.out]
            exact ⟨rfl, hb.alloc hsz _⟩
          · have hm2 : 0 ≤ y := by omega
            clear hh2
            by_cases hh3 : 40320 < y
            · have HE := Lib.hid (check_bad hlt hn.out (fault_is hs.out (e := 4) (by unfold aloneV; rw [if_pos (by omega), if_neg (by omega)]) (by decide)) (by decide))
              go_wp2
              go_ret2
              rw [← HV.out, HE.out]
              exact ⟨rfl, hb.alloc hsz _⟩
            · have hm3 : y ≤ 40320 := by omega
              clear hh3
              by_cases hh4 : z < 0
              · have HE := Lib.hid (check_bad hlt hn.out (fault_is hs.out (e := 4) (by unfold aloneV; rw [if_pos (by omega), if_neg (by omega)]) (by decide)) (by decide))
                go_wp2
                go_ret2
                rw [← HV.out, HE.out]
                exact ⟨rfl, hb.alloc hsz _⟩
              · have hm4 : 0 ≤ z := by omega
                clear hh4
                by_cases hh5 : 40320 < z
                · have HE := Lib.hid (check_bad hlt hn.out (fault_is hs.out (e := 4) (by unfold aloneV; rw [if_pos (by omega), if_neg (by omega)]) (by decide)) (by decide))
                  go_wp2
                  go_ret2
                  rw [← HV.out, HE.out]
                  exact ⟨rfl, hb.alloc hsz _⟩
                · have hm5 : z ≤ 40320 := by omega
                  clear hh5
                  by_cases hh6 : z ≤ y
                  · have HE := Lib.hid (check_bad hlt hn.out (fault_is hs.out (e := 3) (by unfold aloneV; rw [if_pos (by omega), if_pos (by omega), if_neg (by omega)]) (by decide)) (by decide))
                    go_wp2
                    go_ret2
                    rw [← HV.out, HE.out]
                    exact ⟨rfl, hb.alloc hsz _⟩
                  · have hm6 : y < z := by omega
                    clear hh6
                    have HA := Lib.hid (alone_zero.2 (show (0 ≤ x ∧ x < 4) ∧ (0 ≤ y ∧ y < z ∧ z ≤ 40320) by omega))
                    have q1 : ∀ p : BelowOf (w2.alloc (.cells #[.int .i64 x, .int .i64 y, .int .i64 z] 59)), p.world.cell? ⟨w2.heap.size, 0, none⟩ = some (.int .i64 x) := fun p => p.cell (by simp)
                    have q2 : ∀ p : BelowOf (w2.alloc (.cells #[.int .i64 x, .int .i64 y, .int .i64 z] 59)), p.world.cell? ⟨w2.heap.size, 1, none⟩ = some (.int .i64 y) := fun p => p.cell (by simp)
                    have q3 : ∀ p : BelowOf (w2.alloc (.cells #[.int .i64 x, .int .i64 y, .int .i64 z] 59)), p.world.cell? ⟨w2.heap.size, 2, none⟩ = some (.int .i64 z) := fun p => p.cell (by simp)
                    by_cases hk0 : k = 0
                    · subst hk0
                      simp only [Nat.zero_mul, Nat.add_zero] at hc0 hc1 hc2
                      have HN := Lib.hid (fault_one (by rw [fault_first hs.out, HA.out]))
                      have hg : decide ((0 : Int) < 0) = false := by decide
                      go_wp2
                      refine wp_region_bel (by kernel_rfl) (by kernel_rfl) ?_
                      repeat (go_big_quiet_step (first | (fail)))
                      refine wpQuiet_nil ?_
                      refine bel_all fun wq hbq => ?_
                      clear q1 q2 q3
                      have HB := (hb.alloc hsz (.cells #[.int .i64 x, .int .i64 y, .int .i64 z] 59)).trans (hbq.mono (by simp; omega))
                      go_wp2
                      refine wp_region_bel (by kernel_rfl) (by kernel_rfl) ?_
                      repeat (go_big_quiet_step (fail))
                      refine wpQuiet_nil ?_
                      refine bel_all fun wq2 hbq2 => ?_
                      go_wp2
                      go_roundw
                      case rel => exact ⟨0 + 1, by omega, by go_num, HB.trans (hbq2.mono HB.size), HN⟩
                      case measure => simp [intOf]; omega
                    · obtain ⟨j, hj⟩ : ∃ j, k = j + 1 := ⟨k - 1, by omega⟩
                      have HJ := Lib.hid hj
                      have hkj : (k : Int) - 1 = (j : Int) := by omega
                      have hjl : j < l.length := by omega
                      have hg1 : (0 : Int) < (k : Int) := by omega
                      have hg2 : decide (0 < k) = true := decide_eq_true (by omega)
                      clear hj hk0
                      obtain ⟨b2, off2, p_, q, r, he2, _, hd0, hd1, hd2, ht⟩ := HX.out.at_ hjl
                      simp only [Option.some.injEq, Addr.mk.injEq, and_true] at he2
                      obtain ⟨rfl, rfl⟩ := he2
                      rw [← hb.cell (p := ⟨b, _, none⟩) hbb] at hd0 hd1 hd2
                      have HF := Lib.hid (show faultV l k = behindV r y by rw [HJ.out, fault_next (by rw [← HJ.out]; exact hs.out) HA.out ht.out])
                      clear HX HJ
                      have q4 : ∀ p : BelowOf (w2.alloc (.cells #[.int .i64 x, .int .i64 y, .int .i64 z] 59)), p.world.cell? ⟨b, off + j * 3 + 2, none⟩ = some (.int .i64 r) := fun p => p.cell (c_al _ hd2)
                      have HB0 := hb.alloc hsz (.cells #[.int .i64 x, .int .i64 y, .int .i64 z] 59)
                      by_cases h8 : r < y
                      · have h8d : decide (r < y) = true := decide_eq_true h8
                        have HE := Lib.hid (check_bad hlt hn.out (HF.out.trans (show behindV r y = 5 by unfold behindV; rw [if_pos h8])) (by decide))
                        go_wp2
                        refine wp_region_bel (by kernel_rfl) (by kernel_rfl) ?_
                        repeat (go_big_quiet_step (first | (fail)))
                        refine wpQuiet_nil ?_
                        refine bel_all fun wq hbq => ?_
                        clear q1 q2 q3 q4
                        go_wp2
                        go_ret2
                        rw [← HV.out, HE.out]
                        exact ⟨rfl, HB0.trans (hbq.mono HB0.size)⟩
                      · have h8d : decide (r < y) = false := decide_eq_false h8
                        have h8' : y ≤ r := by omega
                        by_cases h9 : y < r
                        · have h9d : decide (y < r) = true := decide_eq_true h9
                          have HE := Lib.hid (check_bad hlt hn.out (HF.out.trans (show behindV r y = 6 by unfold behindV; rw [if_neg h8, if_pos h9])) (by decide))
                          clear h8
                          go_wp2
                          refine wp_region_bel (by kernel_rfl) (by kernel_rfl) ?_
                          repeat (go_big_quiet_step (first | (fail)))
                          refine wpQuiet_nil ?_
                          refine bel_all fun wq hbq => ?_
                          clear q1 q2 q3 q4
                          have q5 : ∀ p : BelowOf wq, p.world.cell? ⟨w2.heap.size, 1, none⟩ = some (.int .i64 y) := fun p => p.cell (c_cl (by simp) hbq)
                          have q6 : ∀ p : BelowOf wq, p.world.cell? ⟨b, off + j * 3 + 2, none⟩ = some (.int .i64 r) := fun p => p.cell (c_cl (c_al _ hd2) hbq)
                          go_wp2
                          refine wp_region_bel (by kernel_rfl) (by kernel_rfl) ?_
                          repeat (go_big_quiet_step (fail))
                          refine wpQuiet_nil ?_
                          refine bel_all fun wq2 hbq2 => ?_
                          clear q5 q6
                          go_wp2
                          go_ret2
                          rw [← HV.out, HE.out]
                          exact ⟨rfl, b_cl (HB0.trans (hbq.mono HB0.size)) (Nat.le_refl _) hbq2⟩
                        · have h9d : decide (y < r) = false := decide_eq_false h9
                          have h9' : r ≤ y := by omega
                          have HN := Lib.hid (show ∀ i, i < k + 1 → faultV l i = 0 from fun i hi => by
                            by_cases e : i = k
                            · rw [e, HF.out]; unfold behindV; rw [if_neg h8, if_neg h9]
                            · exact hn.out i (by omega))
                          clear h8 h9
                          go_wp2
                          refine wp_region_bel (by kernel_rfl) (by kernel_rfl) ?_
                          repeat (go_big_quiet_step (first | (fail)))
                          refine wpQuiet_nil ?_
                          refine bel_all fun wq hbq => ?_
                          clear q1 q2 q3 q4
                          have q5 : ∀ p : BelowOf wq, p.world.cell? ⟨w2.heap.size, 1, none⟩ = some (.int .i64 y) := fun p => p.cell (c_cl (by simp) hbq)
                          have q6 : ∀ p : BelowOf wq, p.world.cell? ⟨b, off + j * 3 + 2, none⟩ = some (.int .i64 r) := fun p => p.cell (c_cl (c_al _ hd2) hbq)
                          go_wp2
                          refine wp_region_bel (by kernel_rfl) (by kernel_rfl) ?_
                          repeat (go_big_quiet_step (fail))
                          refine wpQuiet_nil ?_
                          refine bel_all fun wq2 hbq2 => ?_
                          clear q5 q6
                          go_wp2
                          go_roundw
                          case rel => exact ⟨k + 1, by omega, by go_num, b_cl (HB0.trans (hbq.mono HB0.size)) (Nat.le_refl _) hbq2, HN⟩
                          case measure => simp [intOf]; omega
    · have hkl : k = l.length := by omega
      have HE := Lib.hid (check_ok (l := l) (fun j hj => hn.out j (by omega)))
      go_wp2
      go_ret2
      rw [← HV.out, HE.out]
      exact ⟨rfl, hb⟩

end Go.Proofs.Ythiiipbfdgaemaa
