/- What Len of a front returns. Conditions: the front has its meters; at most ten thousand million. -/
import Derived.Test.YtglgifhpacmhiaaRows
import Derived.Test.YtglgifhpacmhiaaBase
import Derived.Test.YtglgifhpacmhiaaRow
import Derived.Test.YtglgifhpacmhiaaBookRow
import Derived.Test.YtglgifhpacmhiaaRecMath
import Derived.Test.YtglgifhpacmhiaaBox
import Derived.Test.YtglgifhpacmhiaaChg
import Derived.Test.YtglgifhpacmhiaaMeterMath
import Derived.Test.YtglgifhpacmhiaaWide
import Derived.Test.YtglgifhpacmhiaaFrontMath
import Derived.Test.YtglgifhpacmhiaaFrontEq
import Derived.Test.YtglgifhpacmhiaaFrontMap
import Derived.Test.YtglgifhpacmhiaaFrontHeap
import Derived.Test.YtglgifhpacmhiaaFrontSet
import Derived.WalkKit
import Derived.WalkSpells
import Derived.WalkSmall
import Derived.Below
import Derived.Lib.Hide
import Derived.OwnWalk
import Derived.Outline
import Derived.Maps.RangeWalk
import Derived.Deep.LoopGhost
namespace Go.Proofs.Ytglgifhpacmhiaa
open Go.RowKit

/-- How long a slice is. -/
def lenG : Value → Nat
  | .slice _ n _ => n
  | _ => 0

theorem perm_sum {a b : List Nat} (h : a.Perm b) : a.sum = b.sum := by
  induction h with
  | nil => rfl
  | cons x _ ih => rw [List.sum_cons, List.sum_cons, ih]
  | swap x y l => rw [List.sum_cons, List.sum_cons, List.sum_cons, List.sum_cons]; omega
  | trans _ _ h1 h2 => rw [h1, h2]

theorem len24_nil (w : World) : Calls Try.prog 8 #[.pointer none] w fun e w' => e = .returned (.int .i64 0) ∧ Below w.heap.size w w' := by
  go_enter Try.func8, Try.ntmps8
  go_wp2
  go_ret
  exact ⟨rfl, Below.refl _ _⟩

theorem len24_none {w : World} {g : Nat} {x : Nat → Int} (hg : Bx w g 55 (fc x none)) :
    Calls Try.prog 8 #[.pointer (some ⟨g, 0, none⟩)] w fun e w' => e = .returned (.int .i64 0) ∧ Below w.heap.size w w' := by
  have q0 := hg.cell (k := 19) (fc_map x none)
  have B0 := Lib.hid ((Below.refl w.heap.size w).alloc (Nat.le_refl _) (.mapIter none 0 #[] 0))
  clear hg
  go_enter Try.func8, Try.ntmps8
  go_wp2_with (first
    | (at_range; refine wpList_range_none rfl _ rfl rfl ?_))
  (try go_frame)
  refine wp_loop_rounds 1 ?_
  rw [rounds_succ]
  go_wp2_with (first
    | (at_next; refine wpList_next_none rfl _ rfl w rfl rfl ?_))
  go_ret
  exact ⟨rfl, B0.out⟩

set_option maxRecDepth 100000 in
set_option maxHeartbeats 2000000 in
theorem len24_some {w : World} {g b : Nat} {x : Nat → Int} {L : List (Rc × Value)} {n : Nat} (hg : Bx w g 55 (fc x (some b))) (hm : Mp w b L) (hL : ∀ p ∈ L, ∃ A k c, p.2 = .slice A k c) (hn : (L.map fun p => lenG p.2).sum = n) (hl : n ≤ 10000000000) :
    Calls Try.prog 8 #[.pointer (some ⟨g, 0, none⟩)] w fun e w' => e = .returned (.int .i64 n) ∧ Below w.heap.size w w' := by
  have q0 := hg.cell (k := 19) (fc_map x (some b))
  have HM := Lib.hid hm
  have HL := Lib.hid hL
  have HN := Lib.hid hn
  clear hg hm hL hn
  go_enter Try.func8, Try.ntmps8
  go_wp2_with (first
    | (at_range; refine wpList_range_sp rfl _ rfl b L rfl HM.out (fun w1 rg1 _ hb1 => ?_)))
  (try go_frame)
  have HR := Lib.hid rg1
  have HB := Lib.hid hb1
  clear rg1 hb1
  go_loopg [3, 5, 13, 14, 15, 16, 17, 18, 19, 20] L.length (fun gg s3 _ _ _ _ _ _ _ _ _ wr => ∃ (k : Nat) (left : List (Rc × Value)), s3 = .int .i64 k ∧ left.length ≤ gg ∧ k ≤ n ∧ Hid (Rg wr w.heap.size b left) ∧ Hid (k + (left.map fun p => lenG p.2).sum = n) ∧ Hid (∀ p ∈ left, ∃ A k c, p.2 = .slice A k c) ∧ Hid (Below w.heap.size w wr))
  case atStart => exact ⟨0, L, rfl, Nat.le_refl _, Nat.zero_le _, HR, Lib.hid (by rw [Nat.zero_add]; exact HN.out), HL, HB⟩
  case round =>
    obtain ⟨k, left, rfl, hgg, hkn, HG, HS, HV, HW⟩ := hrel
    go_wp2_with (first
      | (at_next; refine wpList_next_sp rfl _ rfl w.heap.size b left rfl HG.out (fun h0 => ?_) (fun p left' w2 hp rg2 hen hs2 ho2 hb2 => ?_)))
    · have HS' := HS.out
      rw [h0] at HS'
      have : k = n := by simpa using HS'
      subst this
      go_wp2
      go_ret
      exact ⟨rfl, HW.out⟩
    · obtain ⟨s, v⟩ := p
      obtain ⟨A, j, c, hv⟩ := HV.out (s, v) (hp.symm.subset (by simp))
      dsimp only at hv hen
      subst hv
      have hlen := hp.length_eq
      have HS' := HS.out
      rw [perm_sum (hp.map fun p => lenG p.2)] at HS'
      have hsum : k + (j + (left'.map fun p => lenG p.2).sum) = n := by simpa [lenG] using HS'
      simp only [List.length_cons] at hlen
      have HG2 := Lib.hid rg2
      have HW2 := Lib.hid (HW.out.trans (hb2 _ (Nat.le_refl _)))
      have HV2 := Lib.hid (fun p (hq : p ∈ left') => HV.out p (hp.symm.subset (List.mem_cons_of_mem _ hq)))
      have HS2 : Hid (k + j + (left'.map fun p => lenG p.2).sum = n) := Lib.hid (by omega)
      have hjn : k + j ≤ n := by omega
      clear rg2 hs2 ho2 hb2 HS' hp hsum
      go_wp2
      go_roundg left'.length
      case measure => omega
      case rel => exact ⟨k + j, left', by go_num, Nat.le_refl _, hjn, HG2, HS2, HV2, HW2⟩

/-- Len: how many meters there are. -/
theorem len24_any {w : World} {g : Nat} {x : Nat → Int} {y : List Ad} {B : List Nat} (h : Fr w g x y B) (hl : y.length ≤ 10000000000) :
    Calls Try.prog 8 #[.pointer (some ⟨g, 0, none⟩)] w fun e w' => e = .returned (.int .i64 y.length) ∧ Below w.heap.size w w' := by
  rcases h with ⟨h1, rfl, rfl⟩ | ⟨b, E, h1, h2, rfl⟩
  · exact len24_none h1
  · refine len24_some h1 h2.mp (fun p hp => ?_) ?_ hl
    · obtain ⟨q, _, rfl⟩ := List.mem_map.1 hp
      exact ⟨_, _, _, rfl⟩
    · rw [List.map_map, ← h2.sum]
      rfl

end Go.Proofs.Ytglgifhpacmhiaa
