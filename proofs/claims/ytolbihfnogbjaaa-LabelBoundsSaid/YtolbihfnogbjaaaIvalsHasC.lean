/- What Has of layer 3 returns, for any slice of spans that can be read. Conditions: as each theorem says. -/
import Derived.Test.YtolbihfnogbjaaaRows
import Derived.Test.YtolbihfnogbjaaaBase
import Derived.Test.YtolbihfnogbjaaaZ2
import Derived.Test.YtolbihfnogbjaaaZ1
import Derived.Test.YtolbihfnogbjaaaIvalLeaf
import Derived.Test.YtolbihfnogbjaaaShelf
import Derived.WalkKit
import Derived.WalkSpells
import Derived.WalkSmall
import Derived.Below
import Derived.Outline
import Derived.Lib.Hide
namespace Go.Proofs.Ytolbihfnogbjaaa
open Go.RowKit

theorem pred_has (m : Int) (B : Nat) (w : World) (hB : B < w.heap.size) (hcell : w.cell? ⟨B, 0, none⟩ = some (.int .i64 m)) :
    PredBelow Try.prog 78 #[.pointer (some ⟨B, 0, none⟩)] (fun s => .agg (encS s).toArray) (fun s => hasS s m) w := fun W s hb => by
  have hc : W.cell? ⟨B, 0, none⟩ = some (.int .i64 m) := (hb.cell (p := ⟨B, 0, none⟩) hB).trans hcell
  have hBW : B < W.heap.size := Nat.lt_of_lt_of_le hB hb.size
  have hne : B ≠ W.heap.size := by omega
  obtain ⟨x, y⟩ := s
  show Calls Try.prog 78 #[.agg #[.int .i64 x, .int .i64 y], .pointer (some ⟨B, 0, none⟩)] W _
  have hh := fun W => has_any x y m W
  have e : hasS (x, y) m = (decide (x ≤ m) && decide (m < y)) := rfl
  rw [← e] at hh
  clear e
  obtain ⟨g, hg⟩ : ∃ g, hasS (x, y) m = g := ⟨_, rfl⟩
  rw [hg] at hh
  have HG := Lib.hid hg
  clear hg
  go_enter Try.func78, Try.ntmps78
  go_wp2_with (go_at_call 79; refine (hh _).mono ?_; rintro e w1 ⟨rfl, hb1⟩)
  go_ret
  have h1 := hb.alloc hb.size (.cells #[.int .i64 x, .int .i64 y] 102)
  exact ⟨by show _ = Ending.returned (.bool (hasS (x, y) m)); rw [HG.out]; rfl, h1.trans (hb1.mono h1.size)⟩

set_option maxHeartbeats 400000 in
theorem indexf_empty (A : Option Addr) (c : Nat) (fv : Value) (w : World) :
    Calls Try.prog 75 #[.slice A 0 c, fv] w fun e w' => e = .returned (.int .i64 (-1)) ∧ w' = w := by
  go_enter Try.func75, Try.ntmps75
  go_wp2
  refine wp_loop_rounds 1 ?_
  rw [rounds_succ]
  go_wp2
  go_ret
  exact ⟨rfl, rfl⟩

theorem containsf_empty (A : Option Addr) (c : Nat) (fv : Value) (w : World) :
    Calls Try.prog 68 #[.slice A 0 c, fv] w fun e w' => e = .returned (.bool false) ∧ Below w.heap.size w w' := by
  go_enter Try.func68, Try.ntmps68
  go_wp2_with (go_at_call 75; refine (indexf_empty _ _ _ _).mono ?_; rintro e w' ⟨rfl, rfl⟩)
  go_ret
  exact ⟨rfl, Below.refl _ _⟩

theorem containsf_any (A : Option Addr) (c : Nat) (l : List Sp) (m : Int) (B : Nat) (w : World) (h : RdS w A l) (hl : l.length ≤ 4611686018427387904) (hB : B < w.heap.size) (hcell : w.cell? ⟨B, 0, none⟩ = some (.int .i64 m)) :
    Calls Try.prog 68 #[.slice A l.length c, .func (.func 78) #[] #[.pointer (some ⟨B, 0, none⟩)]] w fun e w' => e = .returned (.bool (hasL l m)) ∧ Below w.heap.size w w' := by
  by_cases hne : l = []
  · subst hne
    exact containsf_empty A c _ w
  · obtain ⟨b, off, rfl, hb, hc⟩ := h hne
    have eg : ∀ args w, (callFunc 78 args).run Try.prog w = .ok (.enter 78 args) w := enters_of Try.func78 (by kernel_rfl) rfl
    have hcon := AnyQ.slices_ContainsFunc hasFL 2 Try.isAgg102 Try.sizeOf102 encS (fun _ => rfl) (fun s => hasS s m) 78 #[.pointer (some ⟨B, 0, none⟩)] eg b off l.length c l w
      (pred_has m B w hB hcell) (Nat.le_refl _) (by omega) hb (fun j hj i v hi => by
        have h1 := hc j hj
        have e : l[j]! = l.getD j (0, 0) := by simp [List.getD, hj]
        rw [e] at hi
        generalize l.getD j (0, 0) = y at hi h1
        match i, hi with
        | 0, hi => simp [encS] at hi; rw [← hi]; exact h1.1
        | 1, hi => simp [encS] at hi; rw [← hi]; exact h1.2
        | i + 2, hi => simp [encS] at hi)
    rw [List.take_of_length_le (Nat.le_refl _)] at hcon
    exact hcon

theorem hasl_any (A : Option Addr) (c : Nat) (l : List Sp) (m : Int) (w : World) (h : RdS w A l) (hl : l.length ≤ 4611686018427387904) :
    Calls Try.prog 74 #[.slice A l.length c, .int .i64 m] w fun e w' => e = .returned (.bool (hasL l m)) ∧ Below w.heap.size w w' := by
  have hcon := containsf_any A c l m w.heap.size (w.alloc (.cells #[.int .i64 m] 3)) (h.below ((Below.refl _ _).alloc (Nat.le_refl _) _)) hl (by simp) (by simp)
  have HC := Lib.hid hcon
  clear hcon
  generalize hasL l m = g at HC ⊢
  go_enter Try.func74, Try.ntmps74
  go_wp2_with (go_at_call 68; refine HC.out.mono ?_; rintro e w1 ⟨rfl, hb1⟩)
  go_ret
  exact ⟨rfl, ((Below.refl _ w).alloc (Nat.le_refl _) _).trans (hb1.mono (by simp))⟩

end Go.Proofs.Ytolbihfnogbjaaa
