/- What the statements' Light answers. Conditions: the tasks can be read. -/
import Derived.Test.YthiiipbfdgaemaaRows
import Derived.Test.YthiiipbfdgaemaaZ1
import Derived.Test.YthiiipbfdgaemaaZ2
import Derived.WalkKit
import Derived.WalkSpells
import Derived.WalkSmall
import Derived.Below
import Derived.Lib.Hide
import Derived.Outline
import Derived.Deep.DeepCutAuto
import Derived.OwnWalk
import Derived.BigQuiet
import Derived.Deep.QuietTactic
import Derived.Deep.LoopGhost
import Derived.WalkMore
namespace Go.Proofs.Ythiiipbfdgaemaa
open Go.RowKit

/-- At most forty tasks, each with at most twenty windows. -/
def LightK (l : List Tk) : Prop := l.length ≤ 40 ∧ ∀ j, j < l.length → (l.getD j tz).2.2.length ≤ 20
theorem LightK.few {l : List Tk} (h : LightK l) : Few l := fun t ht => by
  obtain ⟨i, hi, rfl⟩ := List.getElem_of_mem ht
  have := h.2 i hi
  rw [List.getD_eq_getElem?_getD, List.getElem?_eq_getElem hi] at this
  simp only [Option.getD_some] at this
  omega

open Classical in
set_option maxRecDepth 20000 in
set_option maxHeartbeats 2000000 in
theorem light19_any (A : Option Addr) (n c : Nat) (l : List Tk) (hn : l.length = n) (w : World) (h : RdK w A l) :
    Calls Try.prog 21 #[.slice A n c] w fun e w' => e = .returned (.bool (decide (LightK l))) ∧ Below w.heap.size w w' := by
  by_cases hm : 40 < n
  case pos =>
    rw [decide_eq_false (show ¬ LightK l from fun k => by have := k.1; omega)]
    have hm' : (40 : Int) < (n : Int) := by omega
    clear h
    go_enter Try.func21, Try.ntmps21
    go_wp2
    go_ret
    exact ⟨rfl, by (repeat (first | exact Below.refl _ _ | (refine b_st ?_ (by first | (simp; done) | (simp; omega))) | (refine b_al ?_ (Nat.le_refl _) _) | refine b_dn ?_ | refine b_dr ?_ | (refine b_cl ?_ (Nat.le_refl _) (by assumption))))⟩
  have hm' : (n : Int) ≤ 40 := by omega
  obtain ⟨V, hV⟩ : ∃ V, decide (LightK l) = V := ⟨_, rfl⟩
  have HV := Lib.hid hV
  rw [hV]
  clear hV
  have HN := Lib.hid hn
  go_enter Try.func21, Try.ntmps21
  go_wp2
  go_loopw [10] (fun i wr => ∃ k : Nat, k ≤ n ∧ i = .int .i64 k ∧ Below w.heap.size w wr ∧ Hid (∀ j, j < k → (l.getD j tz).2.2.length ≤ 20)) (fun i _ => n - (intOf i).toNat)
  case atStart => exact ⟨0, Nat.zero_le _, rfl, Below.refl _ _, Lib.hid (fun j hj => by omega)⟩
  case round =>
    obtain ⟨k, hk, rfl, hb, hA⟩ := hrel
    obtain ⟨w2, rfl⟩ : ∃ w2 : World, w2 = wr := ⟨_, rfl⟩
    have hsz := hb.size
    by_cases hlt : k < n
    · obtain ⟨b, off, d, v, B, q, u, rfl, hbb, h0, h1, h2, hs⟩ := (h.below hb).at_ (k := k) (by omega)
      obtain ⟨o, ho, hq, hr⟩ := hs.out
      have HO := Lib.hid (show (l.getD k tz).2.2.length = q by rw [ho]; exact hq)
      clear hs ho hq hr hn
      by_cases hq : 20 < q
      · have hq' : (20 : Int) < (q : Int) := by omega
        have HE := Lib.hid (decide_eq_false (show ¬ LightK l from fun c => by have h1 := c.2 k (by have := HN.out; omega); have h2 := HO.out; omega))
        go_wp2
        go_ret
        refine ⟨?_, by (repeat (first | exact Below.refl _ _ | (refine b_st ?_ (by first | (simp; done) | (simp; omega))) | (refine b_al ?_ (Nat.le_refl _) _) | refine b_dn ?_ | refine b_dr ?_ | (refine b_cl ?_ (Nat.le_refl _) (by assumption))))⟩
        rw [← HV.out, HE.out]; rfl
      · have hq' : (q : Int) ≤ 20 := by omega
        have HX := Lib.hid (show (l.getD k tz).2.2.length ≤ 20 by have := HO.out; omega)
        go_wp2
        go_roundw
        case rel => exact ⟨k + 1, by omega, by go_num, by (repeat (first | exact Below.refl _ _ | (refine b_st ?_ (by first | (simp; done) | (simp; omega))) | (refine b_al ?_ (Nat.le_refl _) _) | refine b_dn ?_ | refine b_dr ?_ | (refine b_cl ?_ (Nat.le_refl _) (by assumption)))), Lib.hid (fun j hj => by
          by_cases e : j = k
          · subst e; exact HX.out
          · exact hA.out j (by omega))⟩
        case measure => simp [intOf]; omega
    · have HE := Lib.hid (decide_eq_true (show LightK l from ⟨by have := HN.out; omega, fun j hj => hA.out j (by have := HN.out; omega)⟩))
      go_wp2
      go_ret
      refine ⟨?_, hb⟩
      rw [← HV.out, HE.out]; rfl

end Go.Proofs.Ythiiipbfdgaemaa
