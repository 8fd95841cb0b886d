/- Whether a spot is right, by the code and by the document; what is wrong with tasks or a spot. Conditions: the tasks can be read. -/
import Derived.Test.YtolbihfnogbjaaaRows
import Derived.Test.YtolbihfnogbjaaaBase
import Derived.Test.YtolbihfnogbjaaaZ2
import Derived.Test.YtolbihfnogbjaaaZ3
import Derived.Test.YtolbihfnogbjaaaZ1
import Derived.Test.YtolbihfnogbjaaaErrandLeaf
import Derived.Test.YtolbihfnogbjaaaErrandChk
import Derived.Test.YtolbihfnogbjaaaZ7
import Derived.WalkKit
import Derived.WalkSpells
import Derived.WalkSmall
import Derived.Below
import Derived.Lib.Hide
import Derived.Outline
import Derived.Deep.DeepCutAuto
import Derived.OwnWalk
import Derived.BigQuiet
import Derived.Deep.QuietTactic
import Derived.Deep.LoopGhost
import Derived.WalkMore
namespace Go.Proofs.Ytolbihfnogbjaaa
open Go.RowKit

theorem fits_lo {l : List Tk} {i x y : Int} (h : i < 0) : ¬ Fits l (i, x, y) := fun c => by have := c.1; simp only at this; omega
theorem fits_hi {l : List Tk} {i x y : Int} (h : (l.length : Int) < i) : ¬ Fits l (i, x, y) := fun c => by have := c.2.1; simp only at this; omega
theorem fits_end {l : List Tk} {i x y : Int} (h : i = (l.length : Int)) : Fits l (i, x, y) ↔ x = 0 ∧ y = 0 := by
  subst h
  exact ⟨fun c => c.2.2.1 rfl, fun c => ⟨by simp, by simp, fun _ => c, fun k => by simp at k⟩⟩
theorem fits_in {l : List Tk} {k : Nat} {x y d v : Int} (h : k < l.length) (hd : (tk l k).1 = d) (hv : (tk l k).2.1 = v) : Fits l (k, x, y) ↔ (0 ≤ x ∧ x ≤ d ∧ 0 ≤ y ∧ y ≤ v ∧ (y = 0 ∨ x = d) ∧ ¬ (x = d ∧ y = v)) := by
  subst hd hv
  exact ⟨fun c => c.2.2.2 (by simp only; omega), fun c => ⟨by simp, by simp only; omega, fun k => by simp only at k; omega, fun _ => c⟩⟩

set_option maxRecDepth 20000 in
set_option maxHeartbeats 2000000 in
theorem right19_any (A : Option Addr) (n c : Nat) (l : List Tk) (hn : l.length = n) (i x y : Int) (w : World) (h : RdK w A l) (ok : ∀ t ∈ l, TkOk t) (hx : -9223372036854775808 ≤ x ∧ x ≤ 9223372036854775807) (hy : -9223372036854775808 ≤ y ∧ y ≤ 9223372036854775807) :
    Calls Try.prog 49 #[.slice A n c, .agg #[.int .i64 i, .int .i64 x, .int .i64 y]] w fun e w' => e = .returned (.bool (decide (Fits l (i, x, y)))) ∧ Below w.heap.size w w' := by
  by_cases c0 : i < 0
  case pos =>
    rw [decide_eq_false (show ¬ Fits l _ from fits_lo c0)]
    have e0 : (i == (n : Int)) = false := by simp; omega
    clear h ok hn
    go_enter Try.func49, Try.ntmps49
    go_wp2
    go_ret
    exact ⟨rfl, by (repeat (first | exact Below.refl _ _ | (refine b_st ?_ (by first | (simp; done) | (simp; omega))) | (refine b_al ?_ (Nat.le_refl _) _) | refine b_dn ?_ | refine b_dr ?_ | (refine b_cl ?_ (Nat.le_refl _) (by assumption))))⟩
  have m0 : 0 ≤ i := by omega
  clear c0
  by_cases c1 : (n : Int) ≤ i
  case pos =>
    by_cases c2 : i = (n : Int)
    · have FE := fits_end (l := l) (i := i) (x := x) (y := y) (by rw [hn]; exact c2)
      have e0 : (i == (n : Int)) = true := by simp [c2]
      by_cases c3 : x = 0
      · have e1 : (x == 0) = true := by simp [c3]
        by_cases c4 : y = 0
        · have e2 : (y == 0) = true := by simp [c4]
          rw [decide_eq_true (show Fits l _ from (FE.2 ⟨c3, c4⟩))]
          clear FE c2 c3 c4
          clear h ok hn
          go_enter Try.func49, Try.ntmps49
          go_wp2
          go_ret
          exact ⟨rfl, by (repeat (first | exact Below.refl _ _ | (refine b_st ?_ (by first | (simp; done) | (simp; omega))) | (refine b_al ?_ (Nat.le_refl _) _) | refine b_dn ?_ | refine b_dr ?_ | (refine b_cl ?_ (Nat.le_refl _) (by assumption))))⟩
        · have e2 : (y == 0) = false := by simp [c4]
          rw [decide_eq_false (show ¬ Fits l _ from (fun k => c4 (FE.1 k).2))]
          clear FE c2 c3 c4
          clear h ok hn
          go_enter Try.func49, Try.ntmps49
          go_wp2
          go_ret
          exact ⟨rfl, by (repeat (first | exact Below.refl _ _ | (refine b_st ?_ (by first | (simp; done) | (simp; omega))) | (refine b_al ?_ (Nat.le_refl _) _) | refine b_dn ?_ | refine b_dr ?_ | (refine b_cl ?_ (Nat.le_refl _) (by assumption))))⟩
      · have e1 : (x == 0) = false := by simp [c3]
        rw [decide_eq_false (show ¬ Fits l _ from (fun k => c3 (FE.1 k).1))]
        clear FE c2 c3
        clear h ok hn
        go_enter Try.func49, Try.ntmps49
        go_wp2
        go_ret
        exact ⟨rfl, by (repeat (first | exact Below.refl _ _ | (refine b_st ?_ (by first | (simp; done) | (simp; omega))) | (refine b_al ?_ (Nat.le_refl _) _) | refine b_dn ?_ | refine b_dr ?_ | (refine b_cl ?_ (Nat.le_refl _) (by assumption))))⟩
    · rw [decide_eq_false (show ¬ Fits l _ from fits_hi (by omega))]
      have e0 : (i == (n : Int)) = false := by simp [c2]
      clear c2
      clear h ok hn
      go_enter Try.func49, Try.ntmps49
      go_wp2
      go_ret
      exact ⟨rfl, by (repeat (first | exact Below.refl _ _ | (refine b_st ?_ (by first | (simp; done) | (simp; omega))) | (refine b_al ?_ (Nat.le_refl _) _) | refine b_dn ?_ | refine b_dr ?_ | (refine b_cl ?_ (Nat.le_refl _) (by assumption))))⟩
  have m1 : i < (n : Int) := by omega
  clear c1
  obtain ⟨k, rfl⟩ : ∃ k : Nat, i = k := ⟨i.toNat, by omega⟩
  have hk : k < n := by omega
  have tok : TkOk (tk l k) := ok _ (tk_mem (by omega) (by omega))
  obtain ⟨d, hd⟩ : ∃ d, (tk l k).1 = d := ⟨_, rfl⟩
  obtain ⟨v, hv⟩ : ∃ v, (tk l k).2.1 = v := ⟨_, rfl⟩
  have FI := fits_in (l := l) (k := k) (x := x) (y := y) (by omega) hd hv
  have CL := fun W (h : RdK W A l) => left19_in A n c l hn k x y W h hk
  rw [hd, hv] at CL
  obtain ⟨z1, z2, z3, z4⟩ := tok
  rw [hd] at z1 z2
  rw [hv] at z3 z4
  clear hd hv m0 ok
  have HR := Lib.hid h
  by_cases c2 : x < 0
  case pos =>
    rw [decide_eq_false (show ¬ Fits l _ from (fun k => by have := FI.1 k; omega))]
    generalize wrap64 (d - x) = p at CL
    generalize wrap64 (v - y) = q at CL
    clear FI
    clear h
    go_enter Try.func49, Try.ntmps49
    go_wp2_with (go_at_call 56; refine (CL _ (HR.out.below (by (repeat (first | exact Below.refl _ _ | (refine b_st ?_ (by first | (simp; done) | (simp; omega))) | (refine b_al ?_ (Nat.le_refl _) _) | refine b_dn ?_ | refine b_dr ?_ | (refine b_cl ?_ (Nat.le_refl _) (by assumption))))))).mono ?_; rintro e w1 ⟨rfl, hb1⟩; obtain ⟨hc1, hf1⟩ := bcell hb1; have hz1 := hb1.size; (try simp at hz1); have : w.heap.size < w1.heap.size := (by omega))
    go_ret
    exact ⟨rfl, by (repeat (first | exact Below.refl _ _ | (refine b_st ?_ (by first | (simp; done) | (simp; omega))) | (refine b_al ?_ (Nat.le_refl _) _) | refine b_dn ?_ | refine b_dr ?_ | (refine b_cl ?_ (Nat.le_refl _) (by assumption))))⟩
  have m2 : 0 ≤ x := by omega
  clear c2
  by_cases c3 : y < 0
  case pos =>
    rw [decide_eq_false (show ¬ Fits l _ from (fun k => by have := FI.1 k; omega))]
    generalize wrap64 (d - x) = p at CL
    generalize wrap64 (v - y) = q at CL
    clear FI
    clear h
    go_enter Try.func49, Try.ntmps49
    go_wp2_with (go_at_call 56; refine (CL _ (HR.out.below (by (repeat (first | exact Below.refl _ _ | (refine b_st ?_ (by first | (simp; done) | (simp; omega))) | (refine b_al ?_ (Nat.le_refl _) _) | refine b_dn ?_ | refine b_dr ?_ | (refine b_cl ?_ (Nat.le_refl _) (by assumption))))))).mono ?_; rintro e w1 ⟨rfl, hb1⟩; obtain ⟨hc1, hf1⟩ := bcell hb1; have hz1 := hb1.size; (try simp at hz1); have : w.heap.size < w1.heap.size := (by omega))
    go_ret
    exact ⟨rfl, by (repeat (first | exact Below.refl _ _ | (refine b_st ?_ (by first | (simp; done) | (simp; omega))) | (refine b_al ?_ (Nat.le_refl _) _) | refine b_dn ?_ | refine b_dr ?_ | (refine b_cl ?_ (Nat.le_refl _) (by assumption))))⟩
  have m3 : 0 ≤ y := by omega
  clear c3
  rw [IntWalk.wrap64_in _ (by omega), IntWalk.wrap64_in _ (by omega)] at CL
  obtain ⟨p, hp⟩ : ∃ p, d - x = p := ⟨_, rfl⟩
  obtain ⟨q, hq⟩ : ∃ q, v - y = q := ⟨_, rfl⟩
  rw [hp, hq] at CL
  by_cases c4 : 0 < p
  case pos =>
    by_cases c5 : y = 0
    · have e1 : (y == 0) = true := by simp [c5]
      rw [decide_eq_true (show Fits l _ from (FI.2 (by omega)))]
      clear FI c5 hp hq
      clear h
      go_enter Try.func49, Try.ntmps49
      go_wp2_with (go_at_call 56; refine (CL _ (HR.out.below (by (repeat (first | exact Below.refl _ _ | (refine b_st ?_ (by first | (simp; done) | (simp; omega))) | (refine b_al ?_ (Nat.le_refl _) _) | refine b_dn ?_ | refine b_dr ?_ | (refine b_cl ?_ (Nat.le_refl _) (by assumption))))))).mono ?_; rintro e w1 ⟨rfl, hb1⟩; obtain ⟨hc1, hf1⟩ := bcell hb1; have hz1 := hb1.size; (try simp at hz1); have : w.heap.size < w1.heap.size := (by omega))
      go_ret
      exact ⟨rfl, by (repeat (first | exact Below.refl _ _ | (refine b_st ?_ (by first | (simp; done) | (simp; omega))) | (refine b_al ?_ (Nat.le_refl _) _) | refine b_dn ?_ | refine b_dr ?_ | (refine b_cl ?_ (Nat.le_refl _) (by assumption))))⟩
    · have e1 : (y == 0) = false := by simp [c5]
      rw [decide_eq_false (show ¬ Fits l _ from (fun k => by have := FI.1 k; omega))]
      clear FI c5 hp hq
      clear h
      go_enter Try.func49, Try.ntmps49
      go_wp2_with (go_at_call 56; refine (CL _ (HR.out.below (by (repeat (first | exact Below.refl _ _ | (refine b_st ?_ (by first | (simp; done) | (simp; omega))) | (refine b_al ?_ (Nat.le_refl _) _) | refine b_dn ?_ | refine b_dr ?_ | (refine b_cl ?_ (Nat.le_refl _) (by assumption))))))).mono ?_; rintro e w1 ⟨rfl, hb1⟩; obtain ⟨hc1, hf1⟩ := bcell hb1; have hz1 := hb1.size; (try simp at hz1); have : w.heap.size < w1.heap.size := (by omega))
      go_ret
      exact ⟨rfl, by (repeat (first | exact Below.refl _ _ | (refine b_st ?_ (by first | (simp; done) | (simp; omega))) | (refine b_al ?_ (Nat.le_refl _) _) | refine b_dn ?_ | refine b_dr ?_ | (refine b_cl ?_ (Nat.le_refl _) (by assumption))))⟩
  have m4 : p ≤ 0 := by omega
  clear c4
  by_cases c5 : p = 0
  case neg =>
    have e1 : (p == 0) = false := by simp [c5]
    rw [decide_eq_false (show ¬ Fits l _ from (fun k => by have := FI.1 k; omega))]
    clear FI c5 hp hq
    clear h
    go_enter Try.func49, Try.ntmps49
    go_wp2_with (go_at_call 56; refine (CL _ (HR.out.below (by (repeat (first | exact Below.refl _ _ | (refine b_st ?_ (by first | (simp; done) | (simp; omega))) | (refine b_al ?_ (Nat.le_refl _) _) | refine b_dn ?_ | refine b_dr ?_ | (refine b_cl ?_ (Nat.le_refl _) (by assumption))))))).mono ?_; rintro e w1 ⟨rfl, hb1⟩; obtain ⟨hc1, hf1⟩ := bcell hb1; have hz1 := hb1.size; (try simp at hz1); have : w.heap.size < w1.heap.size := (by omega))
    go_ret
    exact ⟨rfl, by (repeat (first | exact Below.refl _ _ | (refine b_st ?_ (by first | (simp; done) | (simp; omega))) | (refine b_al ?_ (Nat.le_refl _) _) | refine b_dn ?_ | refine b_dr ?_ | (refine b_cl ?_ (Nat.le_refl _) (by assumption))))⟩
  have e1 : (p == 0) = true := by simp [c5]
  by_cases c6 : 0 < q
  case pos =>
    rw [decide_eq_true (show Fits l _ from (FI.2 (by omega)))]
    have e2 : decide (0 < q) = true := decide_eq_true c6
    clear FI c5 hp hq
    clear h
    go_enter Try.func49, Try.ntmps49
    go_wp2_with (go_at_call 56; refine (CL _ (HR.out.below (by (repeat (first | exact Below.refl _ _ | (refine b_st ?_ (by first | (simp; done) | (simp; omega))) | (refine b_al ?_ (Nat.le_refl _) _) | refine b_dn ?_ | refine b_dr ?_ | (refine b_cl ?_ (Nat.le_refl _) (by assumption))))))).mono ?_; rintro e w1 ⟨rfl, hb1⟩; obtain ⟨hc1, hf1⟩ := bcell hb1; have hz1 := hb1.size; (try simp at hz1); have : w.heap.size < w1.heap.size := (by omega))
    go_ret
    exact ⟨rfl, by (repeat (first | exact Below.refl _ _ | (refine b_st ?_ (by first | (simp; done) | (simp; omega))) | (refine b_al ?_ (Nat.le_refl _) _) | refine b_dn ?_ | refine b_dr ?_ | (refine b_cl ?_ (Nat.le_refl _) (by assumption))))⟩
  rw [decide_eq_false (show ¬ Fits l _ from (fun k => by have := FI.1 k; omega))]
  have e2 : decide (0 < q) = false := decide_eq_false c6
  clear FI c5 hp hq
  clear h
  go_enter Try.func49, Try.ntmps49
  go_wp2_with (go_at_call 56; refine (CL _ (HR.out.below (by (repeat (first | exact Below.refl _ _ | (refine b_st ?_ (by first | (simp; done) | (simp; omega))) | (refine b_al ?_ (Nat.le_refl _) _) | refine b_dn ?_ | refine b_dr ?_ | (refine b_cl ?_ (Nat.le_refl _) (by assumption))))))).mono ?_; rintro e w1 ⟨rfl, hb1⟩; obtain ⟨hc1, hf1⟩ := bcell hb1; have hz1 := hb1.size; (try simp at hz1); have : w.heap.size < w1.heap.size := (by omega))
  go_ret
  exact ⟨rfl, by (repeat (first | exact Below.refl _ _ | (refine b_st ?_ (by first | (simp; done) | (simp; omega))) | (refine b_al ?_ (Nat.le_refl _) _) | refine b_dn ?_ | refine b_dr ?_ | (refine b_cl ?_ (Nat.le_refl _) (by assumption))))⟩

end Go.Proofs.Ytolbihfnogbjaaa
