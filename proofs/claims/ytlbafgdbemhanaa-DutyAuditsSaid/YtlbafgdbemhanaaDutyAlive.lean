/- The example of layer 16 holds in every world. Conditions: none. -/
import Derived.Test.YtlbafgdbemhanaaRows
import Derived.Test.YtlbafgdbemhanaaBase
import Derived.Test.YtlbafgdbemhanaaZ2
import Derived.Test.YtlbafgdbemhanaaBookLim
import Derived.Test.YtlbafgdbemhanaaBookLeaf
import Derived.Test.YtlbafgdbemhanaaZ3
import Derived.Test.YtlbafgdbemhanaaZ1
import Derived.Test.YtlbafgdbemhanaaDutySet
import Derived.Test.YtlbafgdbemhanaaDutyAudit
import Derived.WalkKit
import Derived.WalkSpells
import Derived.WalkSmall
import Derived.Below
import Derived.Lib.Hide
import Derived.OwnWalk
import Derived.Outline
import Derived.Great.BuildSlice
namespace Go.Proofs.Ytlbafgdbemhanaa
open Go.RowKit

/-- A fresh driver's meter behind j minutes of driving. -/
def frD (j : Nat) : Mt := ⟨j, j, false, 0, 0, j, 0, false, 0, 0, false, j, 0, j⟩
theorem Mt.eq_of16 {s u : Mt} (h : s.eqB u = true) : s = u := by
  obtain ⟨a0, a1, a2, a3, a4, a5, a6, a7, a8, a9, a10, a11, a12, a13⟩ := s
  obtain ⟨b0, b1, b2, b3, b4, b5, b6, b7, b8, b9, b10, b11, b12, b13⟩ := u
  simp only [Mt.eqB, Bool.and_eq_true, beq_iff_eq] at h
  obtain ⟨rfl, rfl, rfl, rfl, rfl, rfl, rfl, rfl, rfl, rfl, rfl, rfl, rfl, rfl⟩ := h
  rfl
set_option maxRecDepth 100000 in
theorem eu_free16 : ∀ j : Fin 270, stepC euV (frD j.1) 3 = 0 ∧ (stepM euV (frD j.1) 3).eqB (frD (j.1 + 1)) = true := by decide +kernel
theorem eu_last16 : stepC euV (frD 270) 3 = 1 := by decide +kernel
theorem recF_zero (F : Fd) (v : Nat → Int × Int) : recF 0 F v = F := by funext c; simp [recF]
theorem eu_run : ∀ j, j ≤ 270 → Au.zero.run euV (List.replicate j 3) = ⟨frD j, 0, fun _ => none⟩
  | 0, _ => rfl
  | j + 1, h => by
    rw [List.replicate_succ', Au.run_snoc, eu_run j (by omega)]
    obtain ⟨e1, e2⟩ := eu_free16 ⟨j, by omega⟩
    dsimp only at e1 e2
    unfold Au.step
    dsimp only
    rw [e1, recF_zero, Mt.eq_of16 e2]
    rfl
theorem eu_audit : auditV euV [(3, 0, 271)] = ([(0, 0, 271)], 0) := by
  unfold auditV
  rw [if_pos (dcheck_tl may_eu (by unfold Tl; exact ⟨by decide, rfl, trivial⟩))]
  have e : kindsV [(3, 0, 271)] = List.replicate 271 3 := by rw [kinds_cons]; exact List.append_nil _
  have e2 : Au.zero.run euV (List.replicate 271 3) = Au.step euV ⟨frD 270, 0, fun _ => none⟩ 3 := by
    rw [show (271 : Nat) = 270 + 1 from rfl, List.replicate_succ', Au.run_snoc, eu_run 270 (Nat.le_refl _)]
  rw [e, e2]
  unfold Au.step
  dsimp only
  rw [eu_last16]
  rfl

theorem one_rec (w : World) (k y z : Int) (t : TypeId) : RdR (w.alloc (.cells #[.int .i64 k, .int .i64 y, .int .i64 z] t)) (some ⟨w.heap.size, 0, none⟩) [(k, y, z)] := fun _ =>
  ⟨w.heap.size, 0, rfl, by simp, fun j hj => by
    obtain rfl : j = 0 := by simpa using hj
    refine ⟨?_, ?_, ?_⟩ <;> simp [List.getD]⟩

set_option maxRecDepth 100000 in
set_option maxHeartbeats 4000000 in
theorem alive16_any (w : World) :
    Calls Try.prog 9 #[] w fun e w' => e = .returned (.bool true) ∧ Below w.heap.size w w' := by
  have FA : ∀ g W, RdR W (some ⟨g, 0, none⟩) [(3, 0, 271)] → Calls Try.prog 10 #[.agg (bk euV), .slice (some ⟨g, 0, none⟩) 1 1] W fun e w' => ∃ g2 off c', e = .returned (.tuple #[.slice (some ⟨g2, off, none⟩) 1 c', .int .i64 0]) ∧ (w'.cell? ⟨g2, off, none⟩ = some (.int .i64 0) ∧ w'.cell? ⟨g2, off + 1, none⟩ = some (.int .i64 0) ∧ w'.cell? ⟨g2, off + 2, none⟩ = some (.int .i64 271)) ∧ Below W.heap.size W w' := fun g W h => by
    refine (audit16_any euV (some ⟨g, 0, none⟩) 1 [(3, 0, 271)] W h (by simp)).mono fun e w' ⟨A', m, c', h1, h2, h3, h4, h5⟩ => ?_
    rw [eu_audit] at h1 h2 h3
    obtain ⟨b, off, x, y, z, rfl, _, q0, q1, q2, hq⟩ := h3.at_ (k := 0) (by simp)
    have hq := hq.out
    simp [List.getD] at hq
    obtain ⟨rfl, rfl, rfl⟩ := hq
    obtain rfl : m = 1 := h2.symm
    simp only [Nat.zero_mul, Nat.add_zero] at q0 q1 q2
    exact ⟨b, off, c', h1, ⟨q0, q1, q2⟩, h5⟩
  go_enter Try.func9, Try.ntmps9
  go_wp2_with (first
    | go_skip
    | (go_at_call 21; (with_reducible refine (refeurope_any _).mono ?_); rintro e w1 ⟨rfl, hb1⟩)
    | (go_at_call 10; (with_reducible refine (FA _ _ (one_rec _ _ _ _ _)).mono ?_); rintro e w2 ⟨g2, off, c', rfl, ⟨q0, q1, q2⟩, hb2⟩))
  go_ret
  exact ⟨rfl, b_cl (b_al hb1 (Nat.le_refl _) _) (Nat.le_refl _) hb2⟩

end Go.Proofs.Ytlbafgdbemhanaa
