/- What Drain of layer 23 takes out of a heap. Conditions: the heap lies as it is told, and has a million million items at most. -/
import Derived.Test.YtpfmkggnnilknaaRows
import Derived.Test.YtpfmkggnnilknaaBase
import Derived.Test.YtpfmkggnnilknaaRow
import Derived.Test.YtpfmkggnnilknaaRecMath
import Derived.Test.YtpfmkggnnilknaaTriLt
import Derived.Test.YtpfmkggnnilknaaBox
import Derived.Test.YtpfmkggnnilknaaFindHeap
import Derived.Test.YtpfmkggnnilknaaTriHeap
import Derived.Test.YtpfmkggnnilknaaHeapMath
import Derived.Test.YtpfmkggnnilknaaHeapHeap
import Derived.Test.YtpfmkggnnilknaaHeapLeaf
import Derived.Test.YtpfmkggnnilknaaHeapApp
import Derived.Test.YtpfmkggnnilknaaHeapPile
import Derived.Test.YtpfmkggnnilknaaHeapLib
import Derived.Test.YtpfmkggnnilknaaHeapPush
import Derived.Test.YtpfmkggnnilknaaHeapLib2
import Derived.Test.YtpfmkggnnilknaaHeapC
import Derived.Test.YtpfmkggnnilknaaHeapC2
import Derived.WalkKit
import Derived.WalkSpells
import Derived.WalkSmall
import Derived.Below
import Derived.Lib.Hide
import Derived.BigQuiet
import Derived.Outline
import Derived.OwnWalk
import Derived.Deep.QuietTactic
import Derived.Deep.DeepCutAuto
import Derived.Deep.RegionWith
import Derived.Deep.LoopGhost
import Derived.Laws.CopyRow
import Derived.Laws.OwnMore
namespace Go.Proofs.Ytpfmkggnnilknaa
open Go.RowKit

theorem Pl.kept {w w' : World} {g b : Nat} {l : List Rc} (h : Pl w g b l) (e1 : w'.heap[g]? = w.heap[g]?) (e2 : w'.heap[b]? = w.heap[b]?) : Pl w' g b l := by
  obtain ⟨c, b1, r1⟩ := h
  exact ⟨c, e1.trans b1, r1.kept e2⟩

theorem Hs.kept {w w' : World} {g b : Nat} {s : List Rc} (h : Hs w g b s) (e1 : w'.heap[g]? = w.heap[g]?) (e2 : w'.heap[b]? = w.heap[b]?) : Hs w' g b s := by
  obtain ⟨l, p, r⟩ := h
  exact ⟨l, p.kept e1 e2, r⟩

theorem Mv.fresh {w W w' : World} {g b b' : Nat} {row : Option Nat} (m : Mv w g b b' W) (h : W.grownBy w' row) (hr : ∀ q, row = some q → w.heap.size ≤ q) : Mv w g b b' w' :=
  ⟨Nat.le_trans m.size h.size, fun k k1 k2 k3 => (h.block k (Nat.lt_of_lt_of_le k3 m.size) (fun e => by have := hr k e.symm; omega)).trans (m.other k k1 k2 k3),
    fun n n1 n2 n3 => (m.bel n n1 n2 n3).trans ((Below.refl n W).grown h (Nat.le_trans n3 m.size) (fun k e => by have := hr k e; omega)), m.new⟩

theorem drop_some {s : List Rc} {k : Nat} {y : Rc} {r : List Rc} (h : s.drop k = y :: r) : s.take (k + 1) = s.take k ++ [y] ∧ s.drop (k + 1) = r ∧ k < s.length := by
  have hk : k < s.length := by
    rcases Nat.lt_or_ge k s.length with h1 | h1
    · exact h1
    · rw [List.drop_of_length_le h1] at h; cases h
  rw [List.drop_eq_getElem_cons hk] at h
  injection h with h1 h2
  exact ⟨by rw [← List.take_append_getElem hk, h1], h2, hk⟩

set_option maxHeartbeats 3200000 in
theorem drain23_any {w : World} {g b : Nat} {s : List Rc} (h : Hs w g b s) (hl : s.length ≤ 1000000000000) (most : Int) :
    Calls Try.prog 11 #[.pointer (some ⟨g, 0, none⟩), .int .i64 most] w fun e w' => ∃ v, e = .returned v ∧ OwnT 28 w.heap.size w' v (s.take most.toNat) ∧ Hs w' g b (s.drop most.toNat) ∧ Mv w g b b w' := by
  have hlt := h.lt
  obtain ⟨l1, l2, l3⟩ := hlt
  go_enter Try.func11, Try.ntmps11
  go_wp2
  go_loopw [5, 9] (fun s5 i wr => ∃ (k : Nat) (v : Value), v = s5 ∧ i = .int .i64 k ∧ k ≤ most.toNat ∧ Hid (k ≤ s.length) ∧ Hid (OwnT 28 w.heap.size wr v (s.take k) ∧ Hs wr g b (s.drop k) ∧ Mv w g b b wr)) (fun _ i _ => most.toNat - (intOf i).toNat)
  case atStart => exact ⟨0, _, rfl, rfl, Nat.zero_le _, Lib.hid (Nat.zero_le _), Lib.hid ⟨OwnT.nil _ _ _, h, Mv.refl _ _ _⟩⟩
  case round =>
    clear h
    obtain ⟨k, v, rfl, rfl, hk, KL, HR⟩ := hrel
    by_cases hm : most ≤ (k : Int)
    · have HE := Lib.hid (show most.toNat = k by omega)
      go_wp2
      go_ret
      refine ⟨v, rfl, ?_⟩
      rw [HE.out]
      exact HR.out
    · have hm' : (k : Int) < most := by omega
      have kb : (k : Int) ≤ 1000000000000 := by have := KL.out; omega
      have hr := HR.out
      obtain ⟨o1, o2, o3⟩ := hr
      cases hd : s.drop k with
      | nil =>
        rw [hd] at o2
        have CP := fun (W : World) (hb : Below wr.heap.size wr W) => pop23_none (o2.below hb)
        unfold itV rz at CP
        simp only at CP
        have hsk : s.length ≤ k := by simpa using hd
        have e1 : s.take most.toNat = s.take k := by rw [List.take_of_length_le (by omega), List.take_of_length_le hsk]
        have e2 : s.drop most.toNat = s.drop k := by rw [List.drop_of_length_le (by omega), List.drop_of_length_le hsk]
        have HE := Lib.hid (And.intro e1 e2)
        clear o1 o2 o3 hd hsk e1 e2
        go_wp2_with (go_at_call 8; refine (CP _ (Below.refl _ _)).mono ?_; rintro e w2 ⟨rfl, hb2⟩; have HB2 := Lib.hid hb2; clear hb2)
        go_ret
        rw [HE.out.1, HE.out.2]
        have hb3 := b_al HB2.out (Nat.le_refl _) (.cells #[.int .i64 0, .int .i64 0, .int .i64 0] 28)
        exact ⟨_, rfl, HR.out.1.below hb3, HR.out.2.1.below hb3, HR.out.2.2.below hb3⟩
      | cons y r =>
        rw [hd] at o2
        obtain ⟨t1, t2, t3⟩ := drop_some hd
        have CP := pop23_some o2 (by have := congrArg List.length hd; simp at this; omega)
        have HT := Lib.hid (And.intro t1 (And.intro t2 t3))
        obtain ⟨y0, y1, y2⟩ := y
        unfold itV at CP
        simp only at CP
        have o1' := o1
        have OL := Lib.hid (show ∀ q, v.ownBlock = some q → q ≠ g ∧ q ≠ b from fun q hq => by have := (World.ownsRow.lt o1' q hq).1; omega)
        clear o1 o1' o2 o3 hd t1 t2 t3
        go_wp2_with (first
          | (go_at_call 8; refine CP.mono ?_; rintro e w2 ⟨rfl, p1, p2⟩; have P1 := Lib.hid p1; have P2 := Lib.hid p2; have O2 := Lib.hid (HR.out.1.mv p2 OL.out); clear p1 p2)
          | (refine wpList_app3 (by rfl) 32 28 Try.underlying32 info_item _ _ rfl w.heap.size v (s.take k) rfl (OwnT.alloc (OwnT.alloc O2.out _) _) (some ⟨w2.heap.size + 1, 0, none⟩) 1 1 [(y0, y1, y2)] (by first | rfl | simp) rfl (RdF.one (Bx.new _ _ (by simp))) (fun h => by cases h) (by have := KL.out; simp; omega) (by have := P2.out.size; have := HR.out.2.2.size; simp; omega) (fun v5 w5 o5 g5 a5 => ?_)))
        go_roundw
        case rel =>
          have hb2 : Below w2.heap.size w2 ((w2.alloc (.cells #[.int .i64 y0, .int .i64 y1, .int .i64 y2] 28)).alloc (.cells #[.int .i64 y0, .int .i64 y1, .int .i64 y2] 28)) := b_al (b_al (Below.refl _ _) (Nat.le_refl _) _) (Nat.le_refl _) _
          have H2 := P1.out.below hb2
          have M2 := (HR.out.2.2.trans P2.out).below hb2
          have OV := OL.out
          exact ⟨k + 1, v5, rfl, by go_num, by omega, Lib.hid (by have := HT.out.2.2; omega), Lib.hid ⟨by rw [HT.out.1]; exact o5, by
            rw [HT.out.2.1]
            exact H2.kept (g5.block g H2.lt.1 (fun e => (OV g e.symm).1 rfl)) (g5.block b H2.lt.2.1 (fun e => (OV b e.symm).2 rfl)), M2.fresh g5 (fun q hq => (World.ownsRow.lt HR.out.1 q hq).1)⟩⟩
        case measure => simp [intOf]; omega

theorem drain23_nil (most : Int) (w : World) :
    Calls Try.prog 11 #[.pointer none, .int .i64 most] w fun e w' => e = .returned (.slice none 0 0) ∧ Below w.heap.size w w' := by
  go_enter Try.func11, Try.ntmps11
  go_wp2
  go_loopw [5, 9] (fun s5 i wr => s5 = .slice none 0 0 ∧ i = .int .i64 0 ∧ w = wr) (fun _ _ _ => 0)
  case atStart => exact ⟨rfl, rfl, rfl⟩
  case round =>
    obtain ⟨rfl, rfl, rfl⟩ := hrel
    by_cases hm : most ≤ 0
    · go_wp2
      go_ret
      exact ⟨rfl, Below.refl _ _⟩
    · have CP := pop23_nil w
      unfold itV rz at CP
      simp only at CP
      go_wp2_with (go_at_call 8; refine CP.mono ?_; rintro e w2 ⟨rfl, hb2⟩; have HB2 := Lib.hid hb2; clear hb2)
      go_ret
      exact ⟨rfl, b_al HB2.out (Nat.le_refl _) _⟩

end Go.Proofs.Ytpfmkggnnilknaa
