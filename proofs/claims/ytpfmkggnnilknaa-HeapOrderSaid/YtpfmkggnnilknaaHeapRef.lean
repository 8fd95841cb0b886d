/- The document's Push of layer 23: a list with one more. Conditions: the list can be read, and has a million million items at most. -/
import Derived.Test.YtpfmkggnnilknaaRows
import Derived.Test.YtpfmkggnnilknaaBase
import Derived.Test.YtpfmkggnnilknaaRow
import Derived.Test.YtpfmkggnnilknaaRecMath
import Derived.Test.YtpfmkggnnilknaaTriLt
import Derived.Test.YtpfmkggnnilknaaBox
import Derived.Test.YtpfmkggnnilknaaFindHeap
import Derived.Test.YtpfmkggnnilknaaTriHeap
import Derived.Test.YtpfmkggnnilknaaHeapMath
import Derived.Test.YtpfmkggnnilknaaHeapHeap
import Derived.Test.YtpfmkggnnilknaaHeapLeaf
import Derived.Test.YtpfmkggnnilknaaHeapApp
import Derived.WalkKit
import Derived.WalkSpells
import Derived.WalkSmall
import Derived.Below
import Derived.Lib.Hide
import Derived.BigQuiet
import Derived.Outline
import Derived.OwnWalk
import Derived.Deep.QuietTactic
import Derived.Deep.DeepCutAuto
import Derived.Deep.RegionWith
import Derived.Deep.LoopGhost
import Derived.Laws.CopyRow
import Derived.Laws.OwnMore
namespace Go.Proofs.Ytpfmkggnnilknaa
open Go.RowKit

theorem RdF.take {w : World} {A : Option Addr} {l : List Rc} (h : RdF w A l) (k : Nat) : RdF w A (l.take k) := fun hl => by
  have hne : l ≠ [] := fun e => hl (by rw [e]; simp)
  obtain ⟨b, off, hA, hb, hc⟩ := h hne
  refine ⟨b, off, hA, hb, fun j hj => ?_⟩
  have hj' : j < k ∧ j < l.length := by rw [List.length_take] at hj; omega
  have e : (l.take k).getD j rz = l.getD j rz := by simp [List.getD, hj'.1]
  rw [e]
  exact hc j hj'.2

theorem RdF.drop {w : World} {b off : Nat} {l : List Rc} (h : RdF w (some ⟨b, off, none⟩) l) (k : Nat) : RdF w (some ⟨b, off + k * 3, none⟩) (l.drop k) := fun hl => by
  have hk : k < l.length := by
    rcases Nat.lt_or_ge k l.length with h1 | h1
    · exact h1
    · exact absurd (List.drop_of_length_le h1) hl
  obtain ⟨b', off', hA, hb, hc⟩ := h (nonnil hk)
  simp only [Option.some.injEq, Addr.mk.injEq, and_true] at hA
  obtain ⟨rfl, rfl⟩ := hA
  refine ⟨b, off + k * 3, rfl, hb, fun j hj => ?_⟩
  have hj' : k + j < l.length := by rw [List.length_drop] at hj; omega
  have e : (l.drop k).getD j rz = l.getD (k + j) rz := by simp [List.getD]
  rw [e, show off + k * 3 + j * 3 = off + (k + j) * 3 by omega]
  exact hc (k + j) hj'

theorem OwnT.form {T : TypeId} {base : Nat} {w : World} {v : Value} {l : List Rc} (h : OwnT T base w v l) : ∃ A c, v = .slice A l.length c ∧ RdF w A l ∧ (A = none → c = 0) ∧ l.length ≤ c ∧ (A = none ∨ ∃ b, A = some ⟨b, 0, none⟩ ∧ base ≤ b ∧ b < w.heap.size) := by
  obtain ⟨A, c, e, hr, hz⟩ := h.read
  refine ⟨A, c, e, hr, hz, ?_⟩
  rcases h.2 with ⟨h', hn⟩ | ⟨g, cap, cur, h', hb, hg, h1, _⟩
  · rw [e] at h'
    simp only [Value.slice.injEq] at h'
    obtain ⟨rfl, hn, rfl⟩ := h'
    exact ⟨by omega, .inl rfl⟩
  · rw [e] at h'
    simp only [Value.slice.injEq] at h'
    obtain ⟨rfl, _, rfl⟩ := h'
    exact ⟨h1, .inr ⟨g, rfl, hb, (Array.getElem?_eq_some_iff.1 hg).1⟩⟩

set_option maxHeartbeats 3200000 in
theorem refpush23_any (A : Option Addr) (n c : Nat) (s : List Rc) (x : Rc) (w : World) (hn : s.length = n) (hr : RdF w A s) (hz : A = none → c = 0) (hc : n ≤ c) (hA : A = none ∨ ∃ b off, A = some ⟨b, off, none⟩) (hl : n ≤ 1000000000000) :
    Calls Try.prog 15 #[.slice A n c, itV x] w fun e w' => ∃ v, e = .returned v ∧ OwnT 37 w.heap.size w' v (ins x s) ∧ Below w.heap.size w w' := by
  obtain ⟨x0, x1, x2⟩ := x
  have CL := fun (y : Rc) W => refless23_any (x0, x1, x2) y W
  unfold itV at CL ⊢
  simp only at CL ⊢
  have HQ := Lib.hid (Bx.new (W := w) 37 #[.int .i64 x0, .int .i64 x1, .int .i64 x2] rfl)
  have HB := Lib.hid (show Below w.heap.size w (w.alloc (.cells #[.int .i64 x0, .int .i64 x1, .int .i64 x2] 37)) from b_al (Below.refl _ _) (Nat.le_refl _) _)
  have hws : (w.alloc (.cells #[.int .i64 x0, .int .i64 x1, .int .i64 x2] 37)).heap.size = w.heap.size + 1 := by simp
  have HR := Lib.hid hr
  have HN := Lib.hid hn
  have HZ := Lib.hid hz
  obtain ⟨W0, hW0⟩ : ∃ W0, W0 = w.alloc (.cells #[.int .i64 x0, .int .i64 x1, .int .i64 x2] 37) := ⟨_, rfl⟩
  rw [← hW0] at HQ HB hws
  clear hr hn hz
  go_enter Try.func15, Try.ntmps15
  go_wp2
  rw [← hW0]
  go_loopw [5] (fun i wr => ∃ k : Nat, k ≤ n ∧ i = .int .i64 k ∧ Below W0.heap.size W0 wr ∧ Hid (∀ j, j < k → ¬ ltF (x0, x1, x2) (s.getD j rz))) (fun i _ => n - (intOf i).toNat)
  case atStart => exact ⟨0, Nat.zero_le _, rfl, Below.refl _ _, Lib.hid (by omega)⟩
  case round =>
    clear hW0
    obtain ⟨k, hk, rfl, hbw, HF⟩ := hrel
    have hsz := hbw.size
    have HQr := Lib.hid (HQ.out.below hbw)
    have p0 : ∀ p : BelowOf wr, p.world.cell? ⟨w.heap.size, 0, none⟩ = some (.int .i64 x0) := fun p => p.cell (HQr.out.cell (k := 0) rfl)
    have p1 : ∀ p : BelowOf wr, p.world.cell? ⟨w.heap.size, 1, none⟩ = some (.int .i64 x1) := fun p => p.cell (HQr.out.cell (k := 1) rfl)
    have p2 : ∀ p : BelowOf wr, p.world.cell? ⟨w.heap.size, 2, none⟩ = some (.int .i64 x2) := fun p => p.cell (HQr.out.cell (k := 2) rfl)
    by_cases hlt : k < n
    · obtain ⟨b, off, y0, y1, y2, rfl, hbb, hc0, hc1, hc2, hs⟩ := HR.out.at_ (k := k) (by rw [HN.out]; exact hlt)
      have hbw2 := HB.out.trans (hbw.mono (by omega))
      rw [← hbw2.cell (p := ⟨b, _, none⟩) hbb] at hc0 hc1 hc2
      have q0 : ∀ p : BelowOf wr, p.world.cell? ⟨b, off + k * 3, none⟩ = some (.int .i64 y0) := fun p => p.cell hc0
      have q1 : ∀ p : BelowOf wr, p.world.cell? ⟨b, off + k * 3 + 1, none⟩ = some (.int .i64 y1) := fun p => p.cell hc1
      have q2 : ∀ p : BelowOf wr, p.world.cell? ⟨b, off + k * 3 + 2, none⟩ = some (.int .i64 y2) := fun p => p.cell hc2
      have CK := CL (y0, y1, y2)
      simp only at CK
      have hlt' : (k : Int) < n := by omega
      clear hc0 hc1 hc2 CL
      by_cases hx : ltF (x0, x1, x2) (y0, y1, y2)
      · simp only [decide_eq_true hx] at CK
        have HI := Lib.hid (ins_at (x0, x1, x2) s k (by rw [HN.out]; exact hk) HF.out (fun _ => by rw [hs.out]; exact hx))
        clear hx
        by_cases hkc : k < c
        · have hkc2 : (k : Int) < c := by omega
          go_wp2
          refine wp_region_bel (by kernel_rfl) (by kernel_rfl) ?_
          repeat (go_big_quiet_step ((go_at_call 20; (with_reducible exact Calls.bel_of (CK _)))))
          refine wpQuiet_nil ?_
          refine bel_all fun wq hbq => ?_
          clear q0 q1 q2
          have HBQ := Lib.hid (HB.out.trans ((hbw.trans (hbq.mono hsz)).mono (show w.heap.size ≤ W0.heap.size by omega)))
          have HQq := Lib.hid (HQr.out.below hbq)
          clear p0 p1 p2 hbq hbw HQr HQ HB HF
          go_wp2_with (first
            | (refine wpList_app3 (by rfl) 22 37 Try.underlying22 info_ritem _ _ rfl w.heap.size (.slice none 0 0) [] rfl (OwnT.nil _ _ _) _ _ _ (s.take k) rfl (by have := HN.out; simp; omega) (((HR.out.below HBQ.out).take k)) (fun h => by first | (cases h; done) | (have := HZ.out; simp at *; omega)) (by simp; omega) HBQ.out.size (fun v5 w5 o5 g5 a5 => ?_);
                have O5 := Lib.hid o5; have HB5 := Lib.hid (HBQ.out.grown g5 HBQ.out.size (fun k e => by cases e)); have HQ5 := Lib.hid (show Bx w5 w.heap.size 37 #[.int .i64 x0, .int .i64 x1, .int .i64 x2] from (g5.block _ HQq.out.lt (fun e => by cases e)).trans HQq.out);
                have r0 := HQ5.out.cell (k := 0) rfl; have r1 := HQ5.out.cell (k := 1) rfl; have r2 := HQ5.out.cell (k := 2) rfl; have l5 := HB5.out.size; clear o5 g5 a5)
            | (refine wpList_app3 (by rfl) 22 37 Try.underlying22 info_ritem _ _ rfl w.heap.size v5 ([] ++ s.take k) rfl (OwnT.alloc O5.out _) (some ⟨w5.heap.size, 0, none⟩) 1 1 [(x0, x1, x2)] rfl rfl (RdF.one (Bx.new _ _ rfl)) (fun h => by cases h) (by simp; omega) (by simp; omega) (fun v7 w7 o7 g7 a7 => ?_);
                have O7 := Lib.hid o7; have HB7 := Lib.hid ((b_al HB5.out (Nat.le_refl _) (.cells #[.int .i64 x0, .int .i64 x1, .int .i64 x2] 37)).grown g7 (by simp; omega) (fun q hq => (World.ownsRow.lt O5.out q hq).1)); have l7 := HB7.out.size; clear o7 g7 a7)
            | (refine wpList_app3 (by rfl) 22 37 Try.underlying22 info_ritem _ _ rfl w.heap.size v7 (([] ++ s.take k) ++ [(x0, x1, x2)]) rfl O7.out _ _ _ (s.drop k) rfl (by have := HN.out; simp; omega) (((HR.out.below HB7.out).drop k)) (fun h => by first | (cases h; done) | (have := HZ.out; simp at *; omega)) (by have := HN.out; simp; omega) HB7.out.size (fun v9 w9 o9 g9 a9 => ?_);
                have O9 := Lib.hid o9; have HB9 := Lib.hid (HB7.out.grown g9 HB7.out.size (fun q hq => (World.ownsRow.lt O7.out q hq).1)); clear o9 g9 a9))
          go_ret
          refine ⟨_, rfl, ?_, HB9.out⟩
          rw [HI.out]
          have h9 := O9.out
          simp only [List.nil_append, List.append_assoc, List.singleton_append] at h9
          exact h9
        · exact absurd hkc (by omega)
      · simp only [decide_eq_false hx] at CK
        have HX := Lib.hid hx
        clear hx
        go_wp2
        refine wp_region_bel (by kernel_rfl) (by kernel_rfl) ?_
        repeat (go_big_quiet_step ((go_at_call 20; (with_reducible exact Calls.bel_of (CK _)))))
        refine wpQuiet_nil ?_
        refine bel_all fun wq hbq => ?_
        clear q0 q1 q2 p0 p1 p2
        go_wp2
        go_roundw
        case rel => exact ⟨k + 1, by omega, by go_num, hbw.trans (hbq.mono hsz), Lib.hid (fun j hj => by
          by_cases e : j = k
          · subst e; rw [hs.out]; exact HX.out
          · exact HF.out j (by omega))⟩
        case measure => simp [intOf]; omega
    · have hkn : k = n := by omega
      subst hkn
      have HI := Lib.hid (ins_at (x0, x1, x2) s k (by rw [HN.out]; exact Nat.le_refl _) HF.out (fun h => absurd h (by rw [HN.out]; omega)))
      have hnil : s.drop k = [] := List.drop_of_length_le (by rw [HN.out]; exact Nat.le_refl _)
      have HD := Lib.hid hnil
      clear hnil
      rcases hA with rfl | ⟨b, off, rfl⟩
      · have hc0 : c = 0 := HZ.out rfl
        subst hc0
        have hk0 : k = 0 := by omega
        subst hk0
        go_wp2
        refine wp_region_bel (by kernel_rfl) (by kernel_rfl) ?_
        repeat (go_big_quiet_step (fail))
        refine wpQuiet_nil ?_
        refine bel_all fun wq hbq => ?_
        have HBQ := Lib.hid (HB.out.trans ((hbw.trans (hbq.mono hsz)).mono (show w.heap.size ≤ W0.heap.size by omega)))
        have HQq := Lib.hid (HQr.out.below hbq)
        have r0 := HQq.out.cell (k := 0) rfl
        have r1 := HQq.out.cell (k := 1) rfl
        have r2 := HQq.out.cell (k := 2) rfl
        have l5 := HBQ.out.size
        clear p0 p1 p2 hbq hbw HQr HQ HB HF
        go_wp2_with (first
          | (refine wpList_app3 (by rfl) 22 37 Try.underlying22 info_ritem _ _ rfl w.heap.size (.slice none 0 0) [] rfl (OwnT.nil _ _ _) (some ⟨wq.heap.size, 0, none⟩) 1 1 [(x0, x1, x2)] rfl rfl (RdF.one (Bx.new _ _ rfl)) (fun h => by cases h) (by simp) (by simp; omega) (fun v7 w7 o7 g7 a7 => ?_);
              have O7 := Lib.hid o7; have HB7 := Lib.hid ((b_al HBQ.out (Nat.le_refl _) (.cells #[.int .i64 x0, .int .i64 x1, .int .i64 x2] 37)).grown g7 (by simp; omega) (fun q hq => by cases hq)); have l7 := HB7.out.size; clear o7 g7 a7)
          | (refine wpList_app3 (by rfl) 22 37 Try.underlying22 info_ritem _ _ rfl w.heap.size v7 ([] ++ [(x0, x1, x2)]) rfl O7.out _ _ _ (s.drop 0) rfl (by rw [HD.out]; rfl) (by rw [HD.out]; exact RdF.nil _ _) (fun _ => rfl) (by simp) HB7.out.size (fun v9 w9 o9 g9 a9 => ?_);
              have O9 := Lib.hid o9; have HB9 := Lib.hid (HB7.out.grown g9 HB7.out.size (fun q hq => (World.ownsRow.lt O7.out q hq).1)); clear o9 g9 a9))
        go_ret
        refine ⟨_, rfl, ?_, HB9.out⟩
        rw [HI.out]
        have h9 := O9.out
        simp only [List.nil_append, List.singleton_append] at h9
        exact h9
      · by_cases hkc : k = c
        · subst hkc
          go_wp2
          refine wp_region_bel (by kernel_rfl) (by kernel_rfl) ?_
          repeat (go_big_quiet_step (fail))
          refine wpQuiet_nil ?_
          refine bel_all fun wq hbq => ?_
          have HBQ := Lib.hid (HB.out.trans ((hbw.trans (hbq.mono hsz)).mono (show w.heap.size ≤ W0.heap.size by omega)))
          have HQq := Lib.hid (HQr.out.below hbq)
          clear p0 p1 p2 hbq hbw HQr HQ HB HF
          go_wp2_with (first
            | (refine wpList_app3 (by rfl) 22 37 Try.underlying22 info_ritem _ _ rfl w.heap.size (.slice none 0 0) [] rfl (OwnT.nil _ _ _) _ _ _ (s.take k) rfl (by have := HN.out; simp; omega) (((HR.out.below HBQ.out).take k)) (fun h => by first | (cases h; done) | (have := HZ.out; simp at *; omega)) (by simp; omega) HBQ.out.size (fun v5 w5 o5 g5 a5 => ?_);
                have O5 := Lib.hid o5; have HB5 := Lib.hid (HBQ.out.grown g5 HBQ.out.size (fun k e => by cases e)); have HQ5 := Lib.hid (show Bx w5 w.heap.size 37 #[.int .i64 x0, .int .i64 x1, .int .i64 x2] from (g5.block _ HQq.out.lt (fun e => by cases e)).trans HQq.out);
                have r0 := HQ5.out.cell (k := 0) rfl; have r1 := HQ5.out.cell (k := 1) rfl; have r2 := HQ5.out.cell (k := 2) rfl; have l5 := HB5.out.size; clear o5 g5 a5)
            | (refine wpList_app3 (by rfl) 22 37 Try.underlying22 info_ritem _ _ rfl w.heap.size v5 ([] ++ s.take k) rfl (OwnT.alloc O5.out _) (some ⟨w5.heap.size, 0, none⟩) 1 1 [(x0, x1, x2)] rfl rfl (RdF.one (Bx.new _ _ rfl)) (fun h => by cases h) (by simp; omega) (by simp; omega) (fun v7 w7 o7 g7 a7 => ?_);
                have O7 := Lib.hid o7; have HB7 := Lib.hid ((b_al HB5.out (Nat.le_refl _) (.cells #[.int .i64 x0, .int .i64 x1, .int .i64 x2] 37)).grown g7 (by simp; omega) (fun q hq => (World.ownsRow.lt O5.out q hq).1)); have l7 := HB7.out.size; clear o7 g7 a7)
            | (refine wpList_app3 (by rfl) 22 37 Try.underlying22 info_ritem _ _ rfl w.heap.size v7 (([] ++ s.take k) ++ [(x0, x1, x2)]) rfl O7.out _ _ _ (s.drop k) rfl (by have := HN.out; simp; omega) ((by rw [HD.out]; exact RdF.nil _ _)) (fun h => by first | (cases h; done) | (have := HZ.out; simp at *; omega)) (by have := HN.out; simp; omega) HB7.out.size (fun v9 w9 o9 g9 a9 => ?_);
                have O9 := Lib.hid o9; have HB9 := Lib.hid (HB7.out.grown g9 HB7.out.size (fun q hq => (World.ownsRow.lt O7.out q hq).1)); clear o9 g9 a9))
          go_ret
          refine ⟨_, rfl, ?_, HB9.out⟩
          rw [HI.out]
          have h9 := O9.out
          simp only [List.nil_append, List.append_assoc, List.singleton_append] at h9
          exact h9
        · have hkc2 : k < c := by omega
          have hkc3 : (k : Int) < c := by omega
          go_wp2
          refine wp_region_bel (by kernel_rfl) (by kernel_rfl) ?_
          repeat (go_big_quiet_step (fail))
          refine wpQuiet_nil ?_
          refine bel_all fun wq hbq => ?_
          have HBQ := Lib.hid (HB.out.trans ((hbw.trans (hbq.mono hsz)).mono (show w.heap.size ≤ W0.heap.size by omega)))
          have HQq := Lib.hid (HQr.out.below hbq)
          clear p0 p1 p2 hbq hbw HQr HQ HB HF
          go_wp2_with (first
            | (refine wpList_app3 (by rfl) 22 37 Try.underlying22 info_ritem _ _ rfl w.heap.size (.slice none 0 0) [] rfl (OwnT.nil _ _ _) _ _ _ (s.take k) rfl (by have := HN.out; simp; omega) (((HR.out.below HBQ.out).take k)) (fun h => by first | (cases h; done) | (have := HZ.out; simp at *; omega)) (by simp; omega) HBQ.out.size (fun v5 w5 o5 g5 a5 => ?_);
                have O5 := Lib.hid o5; have HB5 := Lib.hid (HBQ.out.grown g5 HBQ.out.size (fun k e => by cases e)); have HQ5 := Lib.hid (show Bx w5 w.heap.size 37 #[.int .i64 x0, .int .i64 x1, .int .i64 x2] from (g5.block _ HQq.out.lt (fun e => by cases e)).trans HQq.out);
                have r0 := HQ5.out.cell (k := 0) rfl; have r1 := HQ5.out.cell (k := 1) rfl; have r2 := HQ5.out.cell (k := 2) rfl; have l5 := HB5.out.size; clear o5 g5 a5)
            | (refine wpList_app3 (by rfl) 22 37 Try.underlying22 info_ritem _ _ rfl w.heap.size v5 ([] ++ s.take k) rfl (OwnT.alloc O5.out _) (some ⟨w5.heap.size, 0, none⟩) 1 1 [(x0, x1, x2)] rfl rfl (RdF.one (Bx.new _ _ rfl)) (fun h => by cases h) (by simp; omega) (by simp; omega) (fun v7 w7 o7 g7 a7 => ?_);
                have O7 := Lib.hid o7; have HB7 := Lib.hid ((b_al HB5.out (Nat.le_refl _) (.cells #[.int .i64 x0, .int .i64 x1, .int .i64 x2] 37)).grown g7 (by simp; omega) (fun q hq => (World.ownsRow.lt O5.out q hq).1)); have l7 := HB7.out.size; clear o7 g7 a7)
            | (refine wpList_app3 (by rfl) 22 37 Try.underlying22 info_ritem _ _ rfl w.heap.size v7 (([] ++ s.take k) ++ [(x0, x1, x2)]) rfl O7.out _ _ _ (s.drop k) rfl (by have := HN.out; simp; omega) ((by rw [HD.out]; exact RdF.nil _ _)) (fun h => by first | (cases h; done) | (have := HZ.out; simp at *; omega)) (by have := HN.out; simp; omega) HB7.out.size (fun v9 w9 o9 g9 a9 => ?_);
                have O9 := Lib.hid o9; have HB9 := Lib.hid (HB7.out.grown g9 HB7.out.size (fun q hq => (World.ownsRow.lt O7.out q hq).1)); clear o9 g9 a9))
          go_ret
          refine ⟨_, rfl, ?_, HB9.out⟩
          rw [HI.out]
          have h9 := O9.out
          simp only [List.nil_append, List.append_assoc, List.singleton_append] at h9
          exact h9

end Go.Proofs.Ytpfmkggnnilknaa
