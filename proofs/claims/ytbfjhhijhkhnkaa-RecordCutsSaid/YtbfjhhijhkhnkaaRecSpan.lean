/- What Span and IsNormal of layer 8 return. Conditions: the records can be read; IsNormal: at most a million. -/
import Derived.Test.YtbfjhhijhkhnkaaRows
import Derived.Test.YtbfjhhijhkhnkaaBase
import Derived.Test.YtbfjhhijhkhnkaaRow
import Derived.Test.YtbfjhhijhkhnkaaRecMath
import Derived.Test.YtbfjhhijhkhnkaaRecMath2
import Derived.Test.YtbfjhhijhkhnkaaRecHeap
import Derived.Test.YtbfjhhijhkhnkaaRecLeaf
import Derived.Test.YtbfjhhijhkhnkaaRecCheck
import Derived.Test.YtbfjhhijhkhnkaaRecSmall
import Derived.Test.YtbfjhhijhkhnkaaRecSame
import Derived.Test.YtbfjhhijhkhnkaaRecNormal
import Derived.WalkKit
import Derived.WalkSpells
import Derived.WalkSmall
import Derived.Below
import Derived.Outline
import Derived.OwnWalk
import Derived.Lib.Hide
import Derived.BigQuiet
import Derived.Deep.QuietTactic
import Derived.RegionTactic
namespace Go.Proofs.Ytbfjhhijhkhnkaa
open Go.RowKit

set_option maxRecDepth 100000 in
set_option maxHeartbeats 2000000 in
theorem spant_any (A : Option Addr) (c n : Nat) (l : List Rc) (w : World) (hn : Hid (l.length = n)) (h : RdR w A l) (hl : n ≤ 4611686018427387904) :
    Calls Try.prog 16 #[.slice A n c] w fun e w' => e = .returned (.tuple #[.agg #[.int .i64 (spanTV l).1, .int .i64 (spanTV l).2.1], .bool (spanTV l).2.2]) ∧ Below w.heap.size w w' := by
  by_cases h0 : n = 0
  · subst h0
    obtain rfl : l = [] := List.eq_nil_of_length_eq_zero hn.out
    have e0 : spanTV [] = (0, 0, false) := by unfold spanTV; rw [if_neg (fun k => k.2 rfl)]
    rw [e0]
    go_enter Try.func16, Try.ntmps16
    go_wp2
    refine bodyPost_ret (v := .tuple #[.agg #[.int .i64 0, .int .i64 0], .bool false]) (by simp [results, Try.results16, go_sem, *]) rfl ⟨rfl, ?_⟩
    (repeat (first | exact Below.refl _ _ | (refine b_st ?_ (by first | (simp; done) | (simp; omega))) | (refine b_al ?_ (Nat.le_refl _) _) | refine b_dn ?_ | refine b_dr ?_ | (refine b_cl ?_ (Nat.le_refl _) (by assumption))))
  · have IT := fun W (hr : RdR W A l) => istime_any A c l W hr (by rw [hn.out]; exact hl)
    rw [hn.out] at IT
    have HR1 := Lib.hid (h.below ((Below.refl _ _).alloc (Nat.le_refl _) (.cells #[.int .i64 0, .int .i64 0] 32)))
    have hne : ((n : Int) == 0) = false := by simp; omega
    obtain ⟨j, hj⟩ : ∃ j, n = j + 1 := ⟨n - 1, by omega⟩
    have hnj : (n : Int) - 1 = (j : Int) := by omega
    have hjn : j < n := by omega
    have hn0 : 0 < n := by omega
    have hn1 : (0 : Int) < (n : Int) := by omega
    by_cases hc : (checkV l).2 = 0
    · have e1 : ((checkV l).2 == 0) = true := by simpa using hc
      rw [e1] at IT
      obtain ⟨b, off, x, y, z, rfl, hbb, hc0, hc1, hc2, hs⟩ := h.at_ (k := 0) (by rw [hn.out]; omega)
      obtain ⟨b2, off2, x2, y2, z2, he2, _, hd0, hd1, hd2, hs2⟩ := h.at_ (k := j) (by rw [hn.out]; omega)
      simp only [Option.some.injEq, Addr.mk.injEq, and_true] at he2
      obtain ⟨rfl, rfl⟩ := he2
      simp only [Nat.zero_mul, Nat.add_zero] at hc0 hc1 hc2
      have e0 : spanTV l = (y, z2, true) := by
        unfold spanTV
        rw [if_pos ⟨hc, nonnil (k := 0) (by rw [hn.out]; omega)⟩, beg_at hn.out (by omega) hs.out, fin_at (hn.out.trans hj) hs2.out]
      rw [e0]
      clear h h0 hj hc e1 e0 hc0 hc2 hd0 hd1
      go_enter Try.func16, Try.ntmps16
      go_wp2_with (go_at_call 33; (with_reducible refine (IT _ HR1.out).mono ?_); rintro e w1 ⟨rfl, hb1⟩; obtain ⟨hcc, hff⟩ := bcell hb1; have hz1 := hb1.size; (try simp at hz1); have hx1 : w.heap.size < w1.heap.size := (by omega); have f1 : w1.cell? ⟨b, off + 1, none⟩ = some (.int .i64 y) := (c_cl (c_al _ hc1) hb1); have f2 : w1.cell? ⟨b, off + j * 3 + 2, none⟩ = some (.int .i64 z2) := (c_cl (c_al _ hd2) hb1); have g0 : w1.cell? ⟨w.heap.size, 0, none⟩ = some (.int .i64 0) := (c_cl (by simp) hb1); have g1 : w1.cell? ⟨w.heap.size, 1, none⟩ = some (.int .i64 0) := (c_cl (by simp) hb1); have u0 : w1.frozen? ⟨w.heap.size, 0, none⟩ = false := (by rw [hff _ _ (by simp)]; simp); have u1 : w1.frozen? ⟨w.heap.size, 1, none⟩ = false := (by rw [hff _ _ (by simp)]; simp))
      go_region
      all_goals
        go_wp2
        refine bodyPost_ret (v := .tuple #[.agg #[.int .i64 y, .int .i64 z2], .bool true]) (by simp [results, Try.results16, go_sem, *]) rfl ⟨rfl, ?_⟩
        (repeat (first | exact Below.refl _ _ | (refine b_st ?_ (by first | (simp; done) | (simp; omega))) | (refine b_al ?_ (Nat.le_refl _) _) | refine b_dn ?_ | refine b_dr ?_ | (refine b_cl ?_ (Nat.le_refl _) (by assumption))))
    · have e1 : ((checkV l).2 == 0) = false := by simpa using hc
      rw [e1] at IT
      have e0 : spanTV l = (0, 0, false) := by unfold spanTV; rw [if_neg (fun k => hc k.1)]
      rw [e0]
      clear h h0 hj hc e1 e0
      go_enter Try.func16, Try.ntmps16
      go_wp2_with (go_at_call 33; (with_reducible refine (IT _ HR1.out).mono ?_); rintro e w1 ⟨rfl, hb1⟩; obtain ⟨hcc, hff⟩ := bcell hb1; have hz1 := hb1.size; (try simp at hz1); have hx1 : w.heap.size < w1.heap.size := (by omega))
      refine bodyPost_ret (v := .tuple #[.agg #[.int .i64 0, .int .i64 0], .bool false]) (by simp [results, Try.results16, go_sem, *]) rfl ⟨rfl, ?_⟩
      (repeat (first | exact Below.refl _ _ | (refine b_st ?_ (by first | (simp; done) | (simp; omega))) | (refine b_al ?_ (Nat.le_refl _) _) | refine b_dn ?_ | refine b_dr ?_ | (refine b_cl ?_ (Nat.le_refl _) (by assumption))))

/-- What IsNormal tells. -/
def isnV (l : List Rc) : Bool := (checkV l).2 == 0 && decide (l = nrmV l)

theorem isnormal_any (A : Option Addr) (c : Nat) (l : List Rc) (w : World) (h : RdR w A l) (hl : l.length ≤ 1000000) :
    Calls Try.prog 13 #[.slice A l.length c] w fun e w' => e = .returned (.bool (isnV l)) ∧ Below w.heap.size w w' := by
  have NM := fun W (hr : RdR W A l) => normal_any A c l W hr hl
  have HR := Lib.hid h
  by_cases hc : (checkV l).2 = 0
  · have EQ := fun B d W (ha : RdR W A l) (hb : RdR W B (nrmV l)) => equalR_any A B c d l.length (nrmV l).length l (nrmV l) W (Lib.hid rfl) (Lib.hid rfl) ha hb (by omega)
    have e0 : isnV l = decide (l = nrmV l) := by unfold isnV; rw [hc]; rfl
    rw [e0]
    rw [hc] at NM
    generalize hg : decide (l = nrmV l) = g at EQ ⊢
    generalize nrmV l = t at NM EQ
    clear h hc e0 hg
    go_enter Try.func13, Try.ntmps13
    go_wp2_with (first
      | (go_at_call 10; (with_reducible refine (NM _ HR.out).mono ?_); rintro e w1 ⟨v1, rfl, ho1, hb1⟩; obtain ⟨A1, c1, rfl, hr1, _⟩ := ho1.read; have H1 := Lib.hid hr1; clear ho1 hr1)
      | (go_at_call 27; (with_reducible refine (EQ A1 c1 _ (HR.out.below hb1) H1.out).mono ?_); rintro e w2 ⟨rfl, hb2⟩))
    go_ret
    exact ⟨rfl, b_tr hb1 hb2⟩
  · have e0 : isnV l = false := by
      unfold isnV
      have : ((checkV l).2 == 0) = false := by simpa using hc
      rw [this]; rfl
    rw [e0]
    obtain ⟨p, e, hv⟩ : ∃ p e, checkV l = (p, e) := ⟨_, _, rfl⟩
    rw [hv] at NM hc
    have e1 : (e == 0) = false := by simpa using hc
    have e2 : (e != 0) = true := by simpa using hc
    clear h hc e0 hv
    go_enter Try.func13, Try.ntmps13
    go_wp2_with (go_at_call 10; (with_reducible refine (NM _ HR.out).mono ?_); rintro e w1 ⟨v1, rfl, ho1, hb1⟩)
    go_ret
    exact ⟨rfl, hb1⟩

end Go.Proofs.Ytbfjhhijhkhnkaa
