/- What Span and IsNormal of layer 8 return. Conditions: the records can be read; IsNormal: at most a million. -/
import Derived.Test.YtgmcikajhnnaaaaRows
import Derived.Test.YtgmcikajhnnaaaaBase
import Derived.Test.YtgmcikajhnnaaaaRow
import Derived.Test.YtgmcikajhnnaaaaRecMath
import Derived.Test.YtgmcikajhnnaaaaRecMath2
import Derived.Test.YtgmcikajhnnaaaaRecHeap
import Derived.Test.YtgmcikajhnnaaaaRecLeaf
import Derived.Test.YtgmcikajhnnaaaaRecCheck
import Derived.Test.YtgmcikajhnnaaaaRecSmall
import Derived.Test.YtgmcikajhnnaaaaRecSame
import Derived.Test.YtgmcikajhnnaaaaRecNormal
import Derived.WalkKit
import Derived.WalkSpells
import Derived.WalkSmall
import Derived.Below
import Derived.Outline
import Derived.OwnWalk
import Derived.Lib.Hide
import Derived.BigQuiet
import Derived.Deep.QuietTactic
import Derived.RegionTactic
namespace Go.Proofs.Ytgmcikajhnnaaaa
open Go.RowKit

set_option maxRecDepth 100000 in
set_option maxHeartbeats 2000000 in
theorem spant_any (A : Option Addr) (c n : Nat) (l : List Rc) (w : World) (hn : Hid (l.length = n)) (h : RdR w A l) (hl : n ≤ 4611686018427387904) :
    Calls Try.prog 18 #[.slice A n c] w fun e w' => e = .returned (.tuple #[.agg #[.int .i64 (spanTV l).1, .int .i64 (spanTV l).2.1], .bool (spanTV l).2.2]) ∧ Below w.heap.size w w' := by
  by_cases h0 : n = 0
  · subst h0
    obtain rfl : l = [] := List.eq_nil_of_length_eq_zero hn.out
    have e0 : spanTV [] = (0, 0, false) := by unfold spanTV; rw [if_neg (fun k => k.2 rfl)]
    rw [e0]
    go_enter Try.func18, Try.ntmps18
    go_wp2
    refine bodyPost_ret (v := .tuple #[.agg #[.int .i64 0, .int .i64 0], .bool false]) (by simp [results, Try.results18, go_sem, *]) rfl ⟨rfl, ?_⟩
    (repeat (first | exact Below.refl _ _ | (refine b_st ?_ (by first | (simp; done) | (simp; omega))) | (refine b_al ?_ (Nat.le_refl _) _) | refine b_dn ?_ | refine b_dr ?_ | (refine b_cl ?_ (Nat.le_refl _) (by assumption))))
  · have IT := fun W (hr : RdR W A l) => istime_any A c l W hr (by rw [hn.out]; exact hl)
    rw [hn.out] at IT
    have HR1 := Lib.hid (h.below ((Below.refl _ _).alloc (Nat.le_refl _) (.cells #[.int .i64 0, .int .i64 0] 45)))
    have hne : ((n : Int) == 0) = false := by simp; omega
    obtain ⟨j, hj⟩ : ∃ j, n = j + 1 := ⟨n - 1, by omega⟩
    have hnj : (n : Int) - 1 = (j : Int) := by omega
    have hjn : j < n := by omega
    have hn0 : 0 < n := by omega
    have hn1 : (0 : Int) < (n : Int) := by omega
    by_cases hc : (checkV l).2 = 0
    · have e1 : ((checkV l).2 == 0) = true := by simpa using hc
      rw [e1] at IT
      obtain ⟨b, off, x, y, z, rfl, hbb, hc0, hc1, hc2, hs⟩ := h.at_ (k := 0) (by rw [hn.out]; omega)
      obtain ⟨b2, off2, x2, y2, z2, he2, _, hd0, hd1, hd2, hs2⟩ := h.at_ (k := j) (by rw [hn.out]; omega)
      simp only [Option.some.injEq, Addr.mk.injEq, and_true] at he2
      obtain ⟨rfl, rfl⟩ := he2
      simp only [Nat.zero_mul, Nat.add_zero] at hc0 hc1 hc2
      have e0 : spanTV l = (y, z2, true) := by
        unfold spanTV
        rw [if_pos ⟨hc, nonnil (k := 0) (by rw [hn.out]; omega)⟩, beg_at hn.out (by omega) hs.out, fin_at (hn.out.trans hj) hs2.out]
      rw [e0]
      clear h h0 hj hc e1 e0 hc0 hc2 hd0 hd1
      go_enter Try.func18, Try.ntmps18
      go_wp2_with (go_at_call 37; (with_reducible refine (IT _ HR1.out).mono ?_); rintro e w1 ⟨rfl, hb1⟩; obtain ⟨hcc, hff⟩ := bcell hb1; have hz1 := hb1.size; (try simp at hz1); have hx1 : w.heap.size < w1.heap.size := (by omega); have f1 : w1.cell? ⟨b, off + 1, none⟩ = some (.int .i64 y) := (c_cl (c_al _ hc1) hb1); have f2 : w1.cell? ⟨b, off + j * 3 + 2, none⟩ = some (.int .i64 z2) := (c_cl (c_al _ hd2) hb1); have g0 : w1.cell? ⟨w.heap.size, 0, none⟩ = some (.int .i64 0) := (c_cl (by simp) hb1); have g1 : w1.cell? ⟨w.heap.size, 1, none⟩ = some (.int .i64 0) := (c_cl (by simp) hb1); have u0 : w1.frozen? ⟨w.heap.size, 0, none⟩ = false := (by rw [hff _ _ (by simp)]; simp); have u1 : w1.frozen? ⟨w.heap.size, 1, none⟩ = false := (by rw [hff _ _ (by simp)]; simp))
      go_region
      all_goals
        go_wp2
        refine bodyPost_ret (v := .tuple #[.agg #[.int .i64 y, .int .i64 z2], .bool true]) (by simp [results, Try.results18, go_sem, *]) rfl ⟨rfl, ?_⟩
        (repeat (first | exact Below.refl _ _ | (refine b_st ?_ (by first | (simp; done) | (simp; omega))) | (refine b_al ?_ (Nat.le_refl _) _) | refine b_dn ?_ | refine b_dr ?_ | (refine b_cl ?_ (Nat.le_refl _) (by assumption))))
    · have e1 : ((checkV l).2 == 0) = false := by simpa using hc
      rw [e1] at IT
      have e0 : spanTV l = (0, 0, false) := by unfold spanTV; rw [if_neg (fun k => hc k.1)]
      rw [e0]
      clear h h0 hj hc e1 e0
      go_enter Try.func18, Try.ntmps18
      go_wp2_with (go_at_call 37; (with_reducible refine (IT _ HR1.out).mono ?_); rintro e w1 ⟨rfl, hb1⟩; obtain ⟨hcc, hff⟩ := bcell hb1; have hz1 := hb1.size; (try simp at hz1); have hx1 : w.heap.size < w1.heap.size := (by omega))
      refine bodyPost_ret (v := .tuple #[.agg #[.int .i64 0, .int .i64 0], .bool false]) (by simp [results, Try.results18, go_sem, *]) rfl ⟨rfl, ?_⟩
      (repeat (first | exact Below.refl _ _ | (refine b_st ?_ (by first | (simp; done) | (simp; omega))) | (refine b_al ?_ (Nat.le_refl _) _) | refine b_dn ?_ | refine b_dr ?_ | (refine b_cl ?_ (Nat.le_refl _) (by assumption))))

/-- What IsNormal tells. -/
def isnV (l : List Rc) : Bool := (checkV l).2 == 0 && decide (l = nrmV l)

end Go.Proofs.Ytgmcikajhnnaaaa
