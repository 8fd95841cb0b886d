/- What checkTask, checkRecord and left of layer 19 return. Conditions: as each theorem says. -/
import Derived.Test.YtolbihfnogbjaaaRows
import Derived.Test.YtolbihfnogbjaaaBase
import Derived.Test.YtolbihfnogbjaaaZ2
import Derived.Test.YtolbihfnogbjaaaZ3
import Derived.Test.YtolbihfnogbjaaaZ1
import Derived.Test.YtolbihfnogbjaaaWindowC
import Derived.WalkKit
import Derived.WalkSpells
import Derived.WalkSmall
import Derived.Below
import Derived.Lib.Hide
import Derived.Outline
import Derived.Deep.DeepCutAuto
import Derived.OwnWalk
import Derived.BigQuiet
import Derived.Deep.QuietTactic
namespace Go.Proofs.Ytolbihfnogbjaaa
open Go.RowKit

set_option maxRecDepth 20000 in
set_option maxHeartbeats 2000000 in
theorem task19_any (d v : Int) (B : Option Addr) (n c : Nat) (o : List Sp) (hn : o.length = n) (w : World) (h : RdS w B o) (hl : n ≤ 4611686018427387904) :
    Calls Try.prog 55 #[.agg #[.int .i64 d, .int .i64 v, .slice B n c]] w fun e w' => e = .returned (.int .i64 (taskV (d, v, o))) ∧ Below w.heap.size w w' := by
  by_cases c0 : d < 0
  case pos =>
    rw [task_low (by omega)]
    go_enter Try.func55, Try.ntmps55
    go_wp2
    go_ret
    exact ⟨rfl, by (repeat (first | exact Below.refl _ _ | (refine b_st ?_ (by first | (simp; done) | (simp; omega))) | (refine b_al ?_ (Nat.le_refl _) _) | refine b_dn ?_ | refine b_dr ?_ | (refine b_cl ?_ (Nat.le_refl _) (by assumption))))⟩
  have m0 : 0 ≤ d := by omega
  clear c0
  by_cases c1 : 10080 < d
  case pos =>
    rw [task_low (by omega)]
    go_enter Try.func55, Try.ntmps55
    go_wp2
    go_ret
    exact ⟨rfl, by (repeat (first | exact Below.refl _ _ | (refine b_st ?_ (by first | (simp; done) | (simp; omega))) | (refine b_al ?_ (Nat.le_refl _) _) | refine b_dn ?_ | refine b_dr ?_ | (refine b_cl ?_ (Nat.le_refl _) (by assumption))))⟩
  have m1 : d ≤ 10080 := by omega
  clear c1
  by_cases c2 : v < 0
  case pos =>
    rw [task_low (by omega)]
    go_enter Try.func55, Try.ntmps55
    go_wp2
    go_ret
    exact ⟨rfl, by (repeat (first | exact Below.refl _ _ | (refine b_st ?_ (by first | (simp; done) | (simp; omega))) | (refine b_al ?_ (Nat.le_refl _) _) | refine b_dn ?_ | refine b_dr ?_ | (refine b_cl ?_ (Nat.le_refl _) (by assumption))))⟩
  have m2 : 0 ≤ v := by omega
  clear c2
  by_cases c3 : 1440 < v
  case pos =>
    rw [task_low (by omega)]
    go_enter Try.func55, Try.ntmps55
    go_wp2
    go_ret
    exact ⟨rfl, by (repeat (first | exact Below.refl _ _ | (refine b_st ?_ (by first | (simp; done) | (simp; omega))) | (refine b_al ?_ (Nat.le_refl _) _) | refine b_dn ?_ | refine b_dr ?_ | (refine b_cl ?_ (Nat.le_refl _) (by assumption))))⟩
  have m3 : v ≤ 1440 := by omega
  clear c3
  by_cases c4 : 0 < v
  case pos =>
    rw [task_win (by omega) c4]
    have CW := fun W (h : RdS W B o) => check18_any B c o W h (by omega)
    rw [hn] at CW
    have HR := Lib.hid h
    generalize checkW o = q at CW
    clear h hn
    go_enter Try.func55, Try.ntmps55
    go_wp2_with (go_at_call 62; refine (CW _ (HR.out.below (by (repeat (first | exact Below.refl _ _ | (refine b_st ?_ (by first | (simp; done) | (simp; omega))) | (refine b_al ?_ (Nat.le_refl _) _) | refine b_dn ?_ | refine b_dr ?_ | (refine b_cl ?_ (Nat.le_refl _) (by assumption))))))).mono ?_; rintro e w1 ⟨rfl, hb1⟩)
    go_ret
    exact ⟨rfl, by (repeat (first | exact Below.refl _ _ | (refine b_st ?_ (by first | (simp; done) | (simp; omega))) | (refine b_al ?_ (Nat.le_refl _) _) | refine b_dn ?_ | refine b_dr ?_ | (refine b_cl ?_ (Nat.le_refl _) (by assumption))))⟩
  have m4 : v ≤ 0 := by omega
  have HR := Lib.hid (⟨h, hn⟩ : RdS w B o ∧ o.length = n)
  by_cases c5 : 0 < n
  case pos =>
    rw [task_arg (by omega) c4 (by omega)]
    have c6 : (0 : Int) < (n : Int) := by omega
    clear c4 h hn
    go_enter Try.func55, Try.ntmps55
    go_wp2
    go_ret
    exact ⟨rfl, by (repeat (first | exact Below.refl _ _ | (refine b_st ?_ (by first | (simp; done) | (simp; omega))) | (refine b_al ?_ (Nat.le_refl _) _) | refine b_dn ?_ | refine b_dr ?_ | (refine b_cl ?_ (Nat.le_refl _) (by assumption))))⟩
  rw [task_ok (by omega) c4 (by omega)]
  have c6 : (n : Int) ≤ 0 := by omega
  clear c4 h hn
  go_enter Try.func55, Try.ntmps55
  go_wp2
  go_ret
  exact ⟨rfl, by (repeat (first | exact Below.refl _ _ | (refine b_st ?_ (by first | (simp; done) | (simp; omega))) | (refine b_al ?_ (Nat.le_refl _) _) | refine b_dn ?_ | refine b_dr ?_ | (refine b_cl ?_ (Nat.le_refl _) (by assumption))))⟩

set_option maxRecDepth 20000 in
set_option maxHeartbeats 2000000 in
theorem record19_any (x y z : Int) (w : World) :
    Calls Try.prog 58 #[.agg #[.int .i64 x, .int .i64 y, .int .i64 z]] w fun e w' => e = .returned (.int .i64 (aloneV x y z)) ∧ Below w.heap.size w w' := by
  by_cases c0 : x < 0
  case pos =>
    have e0 : aloneV x y z = 2 := by
      unfold aloneV; repeat' split
      all_goals first | rfl | omega
    rw [e0]
    clear e0
    go_enter Try.func58, Try.ntmps58
    go_wp2
    go_ret
    exact ⟨rfl, by (repeat (first | exact Below.refl _ _ | (refine b_st ?_ (by first | (simp; done) | (simp; omega))) | (refine b_al ?_ (Nat.le_refl _) _) | refine b_dn ?_ | refine b_dr ?_ | (refine b_cl ?_ (Nat.le_refl _) (by assumption))))⟩
  have m0 : 0 ≤ x := by omega
  clear c0
  by_cases c1 : 4 ≤ x
  case pos =>
    have e0 : aloneV x y z = 2 := by
      unfold aloneV; repeat' split
      all_goals first | rfl | omega
    rw [e0]
    clear e0
    go_enter Try.func58, Try.ntmps58
    go_wp2
    go_ret
    exact ⟨rfl, by (repeat (first | exact Below.refl _ _ | (refine b_st ?_ (by first | (simp; done) | (simp; omega))) | (refine b_al ?_ (Nat.le_refl _) _) | refine b_dn ?_ | refine b_dr ?_ | (refine b_cl ?_ (Nat.le_refl _) (by assumption))))⟩
  have m1 : x < 4 := by omega
  clear c1
  by_cases c2 : y < 0
  case pos =>
    have e0 : aloneV x y z = 4 := by
      unfold aloneV; repeat' split
      all_goals first | rfl | omega
    rw [e0]
    clear e0
    go_enter Try.func58, Try.ntmps58
    go_wp2
    go_ret
    exact ⟨rfl, by (repeat (first | exact Below.refl _ _ | (refine b_st ?_ (by first | (simp; done) | (simp; omega))) | (refine b_al ?_ (Nat.le_refl _) _) | refine b_dn ?_ | refine b_dr ?_ | (refine b_cl ?_ (Nat.le_refl _) (by assumption))))⟩
  have m2 : 0 ≤ y := by omega
  clear c2
  by_cases c3 : 40320 < y
  case pos =>
    have e0 : aloneV x y z = 4 := by
      unfold aloneV; repeat' split
      all_goals first | rfl | omega
    rw [e0]
    clear e0
    go_enter Try.func58, Try.ntmps58
    go_wp2
    go_ret
    exact ⟨rfl, by (repeat (first | exact Below.refl _ _ | (refine b_st ?_ (by first | (simp; done) | (simp; omega))) | (refine b_al ?_ (Nat.le_refl _) _) | refine b_dn ?_ | refine b_dr ?_ | (refine b_cl ?_ (Nat.le_refl _) (by assumption))))⟩
  have m3 : y ≤ 40320 := by omega
  clear c3
  by_cases c4 : z < 0
  case pos =>
    have e0 : aloneV x y z = 4 := by
      unfold aloneV; repeat' split
      all_goals first | rfl | omega
    rw [e0]
    clear e0
    go_enter Try.func58, Try.ntmps58
    go_wp2
    go_ret
    exact ⟨rfl, by (repeat (first | exact Below.refl _ _ | (refine b_st ?_ (by first | (simp; done) | (simp; omega))) | (refine b_al ?_ (Nat.le_refl _) _) | refine b_dn ?_ | refine b_dr ?_ | (refine b_cl ?_ (Nat.le_refl _) (by assumption))))⟩
  have m4 : 0 ≤ z := by omega
  clear c4
  by_cases c5 : 40320 < z
  case pos =>
    have e0 : aloneV x y z = 4 := by
      unfold aloneV; repeat' split
      all_goals first | rfl | omega
    rw [e0]
    clear e0
    go_enter Try.func58, Try.ntmps58
    go_wp2
    go_ret
    exact ⟨rfl, by (repeat (first | exact Below.refl _ _ | (refine b_st ?_ (by first | (simp; done) | (simp; omega))) | (refine b_al ?_ (Nat.le_refl _) _) | refine b_dn ?_ | refine b_dr ?_ | (refine b_cl ?_ (Nat.le_refl _) (by assumption))))⟩
  have m5 : z ≤ 40320 := by omega
  clear c5
  by_cases c6 : z ≤ y
  case pos =>
    have e0 : aloneV x y z = 3 := by
      unfold aloneV; repeat' split
      all_goals first | rfl | omega
    rw [e0]
    clear e0
    go_enter Try.func58, Try.ntmps58
    go_wp2
    go_ret
    exact ⟨rfl, by (repeat (first | exact Below.refl _ _ | (refine b_st ?_ (by first | (simp; done) | (simp; omega))) | (refine b_al ?_ (Nat.le_refl _) _) | refine b_dn ?_ | refine b_dr ?_ | (refine b_cl ?_ (Nat.le_refl _) (by assumption))))⟩
  have m6 : y < z := by omega
  clear c6
  have e0 : aloneV x y z = 0 := by
    unfold aloneV; repeat' split
    all_goals first | rfl | omega
  rw [e0]
  clear e0
  go_enter Try.func58, Try.ntmps58
  go_wp2
  go_ret
  exact ⟨rfl, by (repeat (first | exact Below.refl _ _ | (refine b_st ?_ (by first | (simp; done) | (simp; omega))) | (refine b_al ?_ (Nat.le_refl _) _) | refine b_dn ?_ | refine b_dr ?_ | (refine b_cl ?_ (Nat.le_refl _) (by assumption))))⟩

set_option maxRecDepth 20000 in
set_option maxHeartbeats 2000000 in
theorem left19_end (A : Option Addr) (n c : Nat) (i x y : Int) (w : World) (hi : i = (n : Int)) :
    Calls Try.prog 56 #[.slice A n c, .agg #[.int .i64 i, .int .i64 x, .int .i64 y]] w fun e w' => e = .returned (.tuple #[.int .i64 0, .int .i64 0]) ∧ Below w.heap.size w w' := by
  have h0 : (i == (n : Int)) = true := by simp [hi]
  clear hi
  go_enter Try.func56, Try.ntmps56
  go_wp2
  go_ret2
  exact ⟨rfl, by (repeat (first | exact Below.refl _ _ | (refine b_st ?_ (by first | (simp; done) | (simp; omega))) | (refine b_al ?_ (Nat.le_refl _) _) | refine b_dn ?_ | refine b_dr ?_ | (refine b_cl ?_ (Nat.le_refl _) (by assumption))))⟩

set_option maxRecDepth 20000 in
set_option maxHeartbeats 2000000 in
theorem left19_in (A : Option Addr) (n c : Nat) (l : List Tk) (hn : l.length = n) (k : Nat) (x y : Int) (w : World) (h : RdK w A l) (hk : k < n) :
    Calls Try.prog 56 #[.slice A n c, .agg #[.int .i64 (k : Int), .int .i64 x, .int .i64 y]] w fun e w' => e = .returned (.tuple #[.int .i64 (wrap64 ((tk l k).1 - x)), .int .i64 (wrap64 ((tk l k).2.1 - y))]) ∧ Below w.heap.size w w' := by
  obtain ⟨b, off, d, v, B, m, q, rfl, hb, h0, h1, h2, hs⟩ := h.at_ (k := k) (by omega)
  obtain ⟨o, ho, _, _⟩ := hs.out
  have e1 : (tk l (k : Int)) = (d, v, o) := ho
  rw [e1]
  clear hs ho e1 h hn
  have hne : ((k : Int) == (n : Int)) = false := by simp; omega
  go_enter Try.func56, Try.ntmps56
  go_upto_region 4 with fail
  go_quiet (fail)
  go_wp2
  go_ret2
  exact ⟨rfl, by (repeat (first | exact Below.refl _ _ | (refine b_st ?_ (by first | (simp; done) | (simp; omega))) | (refine b_al ?_ (Nat.le_refl _) _) | refine b_dn ?_ | refine b_dr ?_ | (refine b_cl ?_ (Nat.le_refl _) (by assumption))))⟩

end Go.Proofs.Ytolbihfnogbjaaa
