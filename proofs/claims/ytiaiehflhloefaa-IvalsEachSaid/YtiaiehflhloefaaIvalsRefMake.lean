/- What the reference's Make of layer 3 returns: the set of the list. Conditions: the spans can be read; at most a thousand. -/
import Derived.Test.YtiaiehflhloefaaRows
import Derived.Test.YtiaiehflhloefaaBase
import Derived.Test.YtiaiehflhloefaaIvalsWords
import Derived.Test.YtiaiehflhloefaaIvalsOwn
import Derived.Test.YtiaiehflhloefaaIvalLeaf
import Derived.WalkKit
import Derived.WalkSpells
import Derived.WalkSmall
import Derived.Below
import Derived.Outline
import Derived.OwnWalk
import Derived.Lib.Hide
import Derived.BigQuiet
import Derived.Deep.QuietTactic
namespace Go.Proofs.Ytiaiehflhloefaa
open Go.RowKit

set_option maxRecDepth 100000 in
set_option maxHeartbeats 4000000 in
theorem refmake_any (A : Option Addr) (c : Nat) (l : List Sp) (w : World) (h : RdS w A l) (hl : l.length ≤ 1000) :
    Calls Try.prog 11 #[.slice A l.length c] w fun e w' => ∃ v, e = .returned v ∧ Own w.heap.size w' v (setOf l) ∧ Below w.heap.size w w' := by
  obtain ⟨i0, hi, hz0, hz1, hz2⟩ := info_parts info_span
  go_enter Try.func11, Try.ntmps11
  go_wp2
  go_loopw [3] (fun v wr => ∃ (out : List Sp) (n : Nat) (A' : Option Addr) (c' : Nat), v = .slice A' n c' ∧ Hid (out.length = n) ∧ n ≤ l.length ∧ Hid (RdS wr A' out ∧ Own w.heap.size wr (.slice A' n c') out) ∧ Hid (RInv l out) ∧ Below w.heap.size w wr) (fun v _ => l.length + 1 - lenOf v)
  case atStart => exact ⟨[], 0, none, 0, rfl, Lib.hid rfl, Nat.zero_le _, Lib.hid ⟨RdS.nil _ _, Own.nil _ _⟩, Lib.hid (RInv.start l), Below.refl _ _⟩
  case round =>
    obtain ⟨out, n, A', c', rfl, hln, hnl, hown2, hinv, hb⟩ := hrel
    have hlt0 : (n : Int) ≤ (l.length : Int) := by omega
    obtain ⟨wo, rfl⟩ : ∃ wo : World, wo = wr := ⟨_, rfl⟩
    go_wp2
    go_loopw [5, 6] (fun f i w2 => ∃ (k : Nat) (b0 b1 : Int) (g : Bool), k ≤ l.length ∧ f = .bool g ∧ i = .int .i64 k ∧ Box2 w2 wo.heap.size b0 b1 ∧ Below wo.heap.size wo w2 ∧ Hid ((l.take k).foldl (best1 out) ((0, 0), false) = ((b0, b1), g))) (fun _ i _ => l.length - (intOf i).toNat)
    case atStart => exact ⟨0, 0, 0, false, Nat.zero_le _, rfl, rfl, Box2.new _ _ _ _, (Below.refl _ _).alloc (Nat.le_refl _) _, Lib.hid rfl⟩
    case round =>
      obtain ⟨k, b0, b1, g, hk, rfl, rfl, hbox, hb2, hn⟩ := hrel
      obtain ⟨w2, rfl⟩ : ∃ w2 : World, w2 = wr := ⟨_, rfl⟩
      have hsz2 := hb2.size
      have hBlt := hbox.lt
      by_cases hlt : k < l.length
      · obtain ⟨b, off, x, y, rfl, hbb, hc1, hc2, hs⟩ := h.at_ hlt
        rw [← hb.cell (p := ⟨b, _, none⟩) hbb, ← hb2.cell (p := ⟨b, _, none⟩) (show b < wo.heap.size by have := hb.size; omega)] at hc1 hc2
        have hbr : b < w2.heap.size := by have := hb.size; omega
        have BM := Lib.hid (best_more out l k hlt)
        have q1 : ∀ p : BelowOf (w2.alloc (.cells #[.int .i64 x, .int .i64 y] 33)), p.world.cell? ⟨w2.heap.size, 0, none⟩ = some (.int .i64 x) := fun p => p.cell (by simp)
        have q2 : ∀ p : BelowOf (w2.alloc (.cells #[.int .i64 x, .int .i64 y] 33)), p.world.cell? ⟨w2.heap.size, 1, none⟩ = some (.int .i64 y) := fun p => p.cell (by simp)
        by_cases hxy : x < y
        · by_cases hn0 : n = 0
          · subst hn0
            have hg : decide ((0 : Int) < 0) = false := by decide
            go_wp2
            refine wp_region_bel (by kernel_rfl) (by kernel_rfl) ?_
            repeat (go_big_quiet_step (first | (go_at_call 26; exact Calls.bel_of (refright_yes _ _ _ hxy))))
            refine wpQuiet_nil ?_
            refine bel_all fun wq hbq => ?_
            clear q1 q2
            have hB := (hbox.alloc _).below hbq
            have hS := (Box2.new w2 x y 33).below hbq
            have hzq := hbq.size
            simp only [World.size_alloc] at hzq
            have hbw : Below wo.heap.size wo wq := ((hb2.alloc hb2.size _).trans (hbq.mono (by simp; have := hb2.size; omega)))
            obtain ⟨B0, B1, B2, B3⟩ := hB
            obtain ⟨S0, S1, S2, S3⟩ := hS
            clear hbq
            have HE := Lib.hid (elig_first (s := (x, y)) hln.out hxy)
            cases g with
            | false =>
              have HT := Lib.hid (best_take (acc := ((b0, b1), false)) (s := (x, y)) HE.out (Or.inl rfl))
              go_wp2
              go_roundw
              case rel => exact ⟨k + 1, x, y, true, by omega, rfl, by go_num, Box2.set1 (Box2.set0 ⟨B0, B1, B2, B3⟩ x) y, (hbw.setCell (Nat.le_refl _) _).setCell (Nat.le_refl _) _, Lib.hid (by rw [BM.out, hn.out, hs.out, HT.out])⟩
              case measure => simp [intOf]; omega
            | true =>
              by_cases hlt2 : x < b0
              · have HT := Lib.hid (best_take (acc := ((b0, b1), true)) (s := (x, y)) HE.out (Or.inr hlt2))
                go_wp2
                go_roundw
                case rel => exact ⟨k + 1, x, y, true, by omega, rfl, by go_num, Box2.set1 (Box2.set0 ⟨B0, B1, B2, B3⟩ x) y, (hbw.setCell (Nat.le_refl _) _).setCell (Nat.le_refl _) _, Lib.hid (by rw [BM.out, hn.out, hs.out, HT.out])⟩
                case measure => simp [intOf]; omega
              · have HT := Lib.hid (best_leave (acc := ((b0, b1), true)) (s := (x, y)) HE.out (by simp; omega))
                go_wp2
                go_roundw
                case rel => exact ⟨k + 1, b0, b1, true, by omega, rfl, by go_num, ⟨B0, B1, B2, B3⟩, hbw, Lib.hid (by rw [BM.out, hn.out, hs.out, HT.out])⟩
                case measure => simp [intOf]; omega
          · obtain ⟨j, hj⟩ : ∃ j, n = j + 1 := ⟨n - 1, by omega⟩
            have HLJ := Lib.hid (hln.out.trans hj)
            have hnj : (n : Int) - 1 = (j : Int) := by omega
            have hjn : j < n := by omega
            clear hj
            obtain ⟨bo, oo, t1, t2, rfl, hbo, hd1, hd2, ht⟩ := hown2.out.1.at_ (k := j) (by rw [hln.out]; omega)
            rw [← hb2.cell (p := ⟨bo, _, none⟩) hbo] at hd2
            have q3 : ∀ p : BelowOf (w2.alloc (.cells #[.int .i64 x, .int .i64 y] 33)), p.world.cell? ⟨bo, oo + j * 2 + 1, none⟩ = some (.int .i64 t2) := fun p => p.cell (c_al _ hd2)
            have hg : decide (0 < n) = true := decide_eq_true (by omega)
            have EA := Lib.hid (elig_at (s := (x, y)) HLJ.out ht.out hxy)
            clear hd1 hd2
            by_cases hxt : x ≤ t2
            · go_wp2
              refine wp_region_bel (by kernel_rfl) (by kernel_rfl) ?_
              repeat (go_big_quiet_step (first | (go_at_call 26; exact Calls.bel_of (refright_yes _ _ _ hxy))))
              refine wpQuiet_nil ?_
              refine bel_all fun wq hbq => ?_
              clear q1 q2 q3
              have hB := (hbox.alloc _).below hbq
              have hS := (Box2.new w2 x y 33).below hbq
              have hzq := hbq.size
              simp only [World.size_alloc] at hzq
              have hbw : Below wo.heap.size wo wq := ((hb2.alloc hb2.size _).trans (hbq.mono (by simp; have := hb2.size; omega)))
              obtain ⟨B0, B1, B2, B3⟩ := hB
              obtain ⟨S0, S1, S2, S3⟩ := hS
              clear hbq
              have HE : elig out (x, y) = false := by rw [EA.out]; exact decide_eq_false (by simp; omega)
              have HE2 := Lib.hid HE
              clear HE
              go_wp2
              go_roundw
              case rel => exact ⟨k + 1, b0, b1, g, by omega, rfl, by go_num, ⟨B0, B1, B2, B3⟩, hbw, Lib.hid (by rw [BM.out, hn.out, hs.out, best_skip HE2.out])⟩
              case measure => simp [intOf]; omega
            · go_wp2
              refine wp_region_bel (by kernel_rfl) (by kernel_rfl) ?_
              repeat (go_big_quiet_step (first | (go_at_call 26; exact Calls.bel_of (refright_yes _ _ _ hxy))))
              refine wpQuiet_nil ?_
              refine bel_all fun wq hbq => ?_
              clear q1 q2 q3
              have hB := (hbox.alloc _).below hbq
              have hS := (Box2.new w2 x y 33).below hbq
              have hzq := hbq.size
              simp only [World.size_alloc] at hzq
              have hbw : Below wo.heap.size wo wq := ((hb2.alloc hb2.size _).trans (hbq.mono (by simp; have := hb2.size; omega)))
              obtain ⟨B0, B1, B2, B3⟩ := hB
              obtain ⟨S0, S1, S2, S3⟩ := hS
              clear hbq
              have HE := Lib.hid (EA.out.trans (decide_eq_true (show t2 < x by omega)))
              cases g with
              | false =>
                have HT := Lib.hid (best_take (acc := ((b0, b1), false)) (s := (x, y)) HE.out (Or.inl rfl))
                go_wp2
                go_roundw
                case rel => exact ⟨k + 1, x, y, true, by omega, rfl, by go_num, Box2.set1 (Box2.set0 ⟨B0, B1, B2, B3⟩ x) y, (hbw.setCell (Nat.le_refl _) _).setCell (Nat.le_refl _) _, Lib.hid (by rw [BM.out, hn.out, hs.out, HT.out])⟩
                case measure => simp [intOf]; omega
              | true =>
                by_cases hlt2 : x < b0
                · have HT := Lib.hid (best_take (acc := ((b0, b1), true)) (s := (x, y)) HE.out (Or.inr hlt2))
                  go_wp2
                  go_roundw
                  case rel => exact ⟨k + 1, x, y, true, by omega, rfl, by go_num, Box2.set1 (Box2.set0 ⟨B0, B1, B2, B3⟩ x) y, (hbw.setCell (Nat.le_refl _) _).setCell (Nat.le_refl _) _, Lib.hid (by rw [BM.out, hn.out, hs.out, HT.out])⟩
                  case measure => simp [intOf]; omega
                · have HT := Lib.hid (best_leave (acc := ((b0, b1), true)) (s := (x, y)) HE.out (by simp; omega))
                  go_wp2
                  go_roundw
                  case rel => exact ⟨k + 1, b0, b1, true, by omega, rfl, by go_num, ⟨B0, B1, B2, B3⟩, hbw, Lib.hid (by rw [BM.out, hn.out, hs.out, HT.out])⟩
                  case measure => simp [intOf]; omega
        · have hyx : y ≤ x := by omega
          clear hxy
          go_wp2
          refine wp_region_bel (by kernel_rfl) (by kernel_rfl) ?_
          repeat (go_big_quiet_step (first | (go_at_call 26; exact Calls.bel_of (refright_no _ _ _ (by first | assumption | omega)))))
          refine wpQuiet_nil ?_
          refine bel_all fun wq hbq => ?_
          clear q1 q2
          have hB := (hbox.alloc _).below hbq
          have hS := (Box2.new w2 x y 33).below hbq
          have hzq := hbq.size
          simp only [World.size_alloc] at hzq
          have hbw : Below wo.heap.size wo wq := ((hb2.alloc hb2.size _).trans (hbq.mono (by simp; have := hb2.size; omega)))
          obtain ⟨B0, B1, B2, B3⟩ := hB
          obtain ⟨S0, S1, S2, S3⟩ := hS
          clear hbq
          go_wp2
          go_roundw
          case rel => exact ⟨k + 1, b0, b1, g, by omega, rfl, by go_num, ⟨B0, B1, B2, B3⟩, hbw, Lib.hid (by rw [BM.out, hn.out, hs.out, best_skip (elig_wrong (show ¬ x < y by omega))])⟩
          case measure => simp [intOf]; omega
      · have hkl : k = l.length := by omega
        subst hkl
        have hbest := hn.out
        rw [List.take_of_length_le (Nat.le_refl _)] at hbest
        have HB := Lib.hid (show bestOf out l = ((b0, b1), g) from hbest)
        clear hbest hn
        cases g with
        | false =>
          have HD := Lib.hid (hinv.out.done (by rw [HB.out]))
          go_wp2
          go_ret
          have ho := (hown2.out.2.below (hb2.mono (Nat.le_refl _)))
          rw [← hln.out, HD.out] at *
          exact ⟨_, rfl, ho, hb.trans (hb2.mono hb.size)⟩
        | true =>
          have RS := Lib.hid (hinv.out.step (by rw [HB.out])).1
          rw [HB.out] at RS
          go_wp2
          go_loopw [8] (fun i w3 => ∃ (a : Nat) (g0 g1 : Int), a ≤ l.length + 1 ∧ i = .int .i64 a ∧ Box2 w3 wo.heap.size g0 g1 ∧ Below wo.heap.size wo w3 ∧ Hid (growN l a (b0, b1) = (g0, g1))) (fun i _ => l.length + 1 - (intOf i).toNat)
          case atStart => exact ⟨0, b0, b1, Nat.zero_le _, rfl, hbox, hb2, Lib.hid rfl⟩
          case round =>
            clear hbox hb2 hsz2 hBlt
            obtain ⟨a, g0, g1, ha, rfl, hbox, hb3, hgr⟩ := hrel
            obtain ⟨w3, rfl⟩ : ∃ w3 : World, w3 = wr := ⟨_, rfl⟩
            have hsz3 := hb3.size
            have hBlt := hbox.lt
            by_cases hal : a ≤ l.length
            · go_wp2
              go_loopw [9] (fun i w4 => ∃ (k : Nat) (h0 h1 : Int), k ≤ l.length ∧ i = .int .i64 k ∧ Box2 w4 wo.heap.size h0 h1 ∧ Below wo.heap.size wo w4 ∧ Hid ((l.take k).foldl grow1 (g0, g1) = (h0, h1))) (fun i _ => l.length - (intOf i).toNat)
              case atStart => exact ⟨0, g0, g1, Nat.zero_le _, rfl, hbox, hb3, Lib.hid rfl⟩
              case round =>
                clear hbox hb3 hsz3 hBlt
                obtain ⟨k, h0, h1, hk, rfl, hbox, hb4, hn⟩ := hrel
                obtain ⟨w4, rfl⟩ : ∃ w4 : World, w4 = wr := ⟨_, rfl⟩
                have hsz4 := hb4.size
                have hBlt := hbox.lt
                by_cases hlt : k < l.length
                · obtain ⟨b, off, x, y, rfl, hbb, hc1, hc2, hs⟩ := h.at_ hlt
                  rw [← hb.cell (p := ⟨b, _, none⟩) hbb, ← hb4.cell (p := ⟨b, _, none⟩) (show b < wo.heap.size by have := hb.size; omega)] at hc1 hc2
                  have GM := Lib.hid (grow_more l (g0, g1) k hlt)
                  have q1 : ∀ p : BelowOf w4, p.world.cell? ⟨b, off + k * 2, none⟩ = some (.int .i64 x) := fun p => p.cell hc1
                  have q2 : ∀ p : BelowOf w4, p.world.cell? ⟨b, off + k * 2 + 1, none⟩ = some (.int .i64 y) := fun p => p.cell hc2
                  have q3 : ∀ p : BelowOf w4, p.world.cell? ⟨wo.heap.size, 1, none⟩ = some (.int .i64 h1) := fun p => p.cell hbox.c1
                  by_cases hxy : x < y
                  · by_cases hxh : x ≤ h1
                    · have hd1 : decide (x ≤ h1) = true := decide_eq_true hxh
                      by_cases hhy : h1 < y
                      · have hd2 : decide (h1 < y) = true := decide_eq_true hhy
                        go_wp2
                        refine wp_region_bel (by kernel_rfl) (by kernel_rfl) ?_
                        repeat (go_big_quiet_step (first | (go_at_call 26; exact Calls.bel_of (refright_yes _ _ _ hxy))))
                        refine wpQuiet_nil ?_
                        refine bel_all fun wq hbq => ?_
                        clear q1 q2 q3
                        have hB := hbox.below hbq
                        have hbw : Below wo.heap.size wo wq := hb4.trans (hbq.mono hb4.size)
                        have e1 := (hbq.cell (p := ⟨b, off + k * 2 + 1, none⟩) (by have := hb.size; show b < w4.heap.size; omega)).trans hc2
                        obtain ⟨B0, B1, B2, B3⟩ := hB
                        clear hbq
                        have HT := Lib.hid (grow_take (b := (h0, h1)) (s := (x, y)) (show x < y ∧ x ≤ h1 ∧ h1 < y by omega))
                        go_wp2
                        go_roundw
                        case rel => exact ⟨k + 1, h0, y, by omega, by go_num, Box2.set1 ⟨B0, B1, B2, B3⟩ y, hbw.setCell (Nat.le_refl _) _, Lib.hid (by rw [GM.out, hn.out, hs.out, HT.out])⟩
                        case measure => simp [intOf]; omega
                      · have hd2 : decide (h1 < y) = false := decide_eq_false hhy
                        go_wp2
                        refine wp_region_bel (by kernel_rfl) (by kernel_rfl) ?_
                        repeat (go_big_quiet_step (first | (go_at_call 26; exact Calls.bel_of (refright_yes _ _ _ hxy))))
                        refine wpQuiet_nil ?_
                        refine bel_all fun wq hbq => ?_
                        clear q1 q2 q3
                        have hB := hbox.below hbq
                        have hbw : Below wo.heap.size wo wq := hb4.trans (hbq.mono hb4.size)
                        have e1 := (hbq.cell (p := ⟨b, off + k * 2 + 1, none⟩) (by have := hb.size; show b < w4.heap.size; omega)).trans hc2
                        obtain ⟨B0, B1, B2, B3⟩ := hB
                        clear hbq
                        have HT := Lib.hid (grow_skip (b := (h0, h1)) (s := (x, y)) (show ¬ (x < y ∧ x ≤ h1 ∧ h1 < y) by omega))
                        go_wp2
                        go_roundw
                        case rel => exact ⟨k + 1, h0, h1, by omega, by go_num, ⟨B0, B1, B2, B3⟩, hbw, Lib.hid (by rw [GM.out, hn.out, hs.out, HT.out])⟩
                        case measure => simp [intOf]; omega
                    · have hd1 : decide (x ≤ h1) = false := decide_eq_false hxh
                      go_wp2
                      refine wp_region_bel (by kernel_rfl) (by kernel_rfl) ?_
                      repeat (go_big_quiet_step (first | (go_at_call 26; exact Calls.bel_of (refright_yes _ _ _ hxy))))
                      refine wpQuiet_nil ?_
                      refine bel_all fun wq hbq => ?_
                      clear q1 q2 q3
                      have hB := hbox.below hbq
                      have hbw : Below wo.heap.size wo wq := hb4.trans (hbq.mono hb4.size)
                      have e1 := (hbq.cell (p := ⟨b, off + k * 2 + 1, none⟩) (by have := hb.size; show b < w4.heap.size; omega)).trans hc2
                      obtain ⟨B0, B1, B2, B3⟩ := hB
                      clear hbq
                      have HT := Lib.hid (grow_skip (b := (h0, h1)) (s := (x, y)) (show ¬ (x < y ∧ x ≤ h1 ∧ h1 < y) by omega))
                      go_wp2
                      go_roundw
                      case rel => exact ⟨k + 1, h0, h1, by omega, by go_num, ⟨B0, B1, B2, B3⟩, hbw, Lib.hid (by rw [GM.out, hn.out, hs.out, HT.out])⟩
                      case measure => simp [intOf]; omega
                  · have hyx : y ≤ x := by omega
                    clear hxy
                    go_wp2
                    refine wp_region_bel (by kernel_rfl) (by kernel_rfl) ?_
                    repeat (go_big_quiet_step (first | (go_at_call 26; exact Calls.bel_of (refright_no _ _ _ (by first | assumption | omega)))))
                    refine wpQuiet_nil ?_
                    refine bel_all fun wq hbq => ?_
                    clear q1 q2 q3
                    have hB := hbox.below hbq
                    have hbw : Below wo.heap.size wo wq := hb4.trans (hbq.mono hb4.size)
                    have e1 := (hbq.cell (p := ⟨b, off + k * 2 + 1, none⟩) (by have := hb.size; show b < w4.heap.size; omega)).trans hc2
                    obtain ⟨B0, B1, B2, B3⟩ := hB
                    clear hbq
                    have HT := Lib.hid (grow_skip (b := (h0, h1)) (s := (x, y)) (show ¬ (x < y ∧ x ≤ h1 ∧ h1 < y) by omega))
                    go_wp2
                    go_roundw
                    case rel => exact ⟨k + 1, h0, h1, by omega, by go_num, ⟨B0, B1, B2, B3⟩, hbw, Lib.hid (by rw [GM.out, hn.out, hs.out, HT.out])⟩
                    case measure => simp [intOf]; omega
                · have hkl : k = l.length := by omega
                  subst hkl
                  have hgn := hn.out
                  rw [List.take_of_length_le (Nat.le_refl _)] at hgn
                  have HG := Lib.hid (show growN l (a + 1) (b0, b1) = (h0, h1) by show growP l (growN l a (b0, b1)) = _; rw [hgr.out]; exact hgn)
                  clear hgn
                  go_wp2
                  go_roundw
                  case rel => exact ⟨a + 1, h0, h1, by omega, by go_num, hbox, hb4, HG⟩
                  case measure => simp [intOf]; omega
            · have hal2 : a = l.length + 1 := by omega
              subst hal2
              have HO := Lib.hid (hown2.out.2.below hb3)
              have hon : out.length = n := hln.out
              have hnb := hon ▸ hnl
              have HON := Lib.hid hon
              clear hon
              rw [hgr.out] at RS
              obtain ⟨C0, C1, C2, C3⟩ := hbox
              go_wp2_with (at_builtin; refine wpList_append_own _ rfl _ _ 22 rfl w.heap.size 33 i0 (.agg #[.int .i64 0, .int .i64 0]) 2 16 Try.underlying22 hi hz0 hz1 hz2 rfl (by decide) _ _ _ rfl (HO.out.alloc _) ⟨w3.heap.size, 0, none⟩ 1 1 [.int .i64 g0, .int .i64 g1] rfl rfl one_news one_cell2 (by unfold maxLen; omega) (by omega) (by have := hb.size; have := hb3.size; simp; omega) ?_; intro v1 w5 hown5 hgrow5 _)
              have HS := Lib.hid (Own.snoc hown5)
              have HBel := ((hb.trans (hb3.mono hb.size)).alloc (by have := hb.size; have := hb3.size; omega) (.cells #[.int .i64 g0, .int .i64 g1] 33)).grown hgrow5 (by have := hb.size; have := hb3.size; simp; omega) (fun k hk => (World.ownsRow.lt HO.out k hk).1)
              clear hown5 hgrow5
              obtain ⟨A5, c5, rfl, hrd5, _, _⟩ := HS.out.form
              go_wp2
              go_roundw
              case rel => exact ⟨out ++ [(g0, g1)], n + 1, A5, c5, by rw [List.length_append, HON.out]; rfl, Lib.hid (by rw [List.length_append, HON.out]; rfl), by have := RS.out.len; rw [List.length_append, HON.out] at this; exact this, Lib.hid ⟨hrd5, by have := HS.out; rw [List.length_append, HON.out] at this; exact this⟩, RS, HBel⟩
              case measure => simp only [lenOf_slice, List.length_append, List.length_singleton]; have h1 := RS.out.len; have h2 := HON.out; simp only [List.length_append, List.length_singleton] at h1; omega

end Go.Proofs.Ytiaiehflhloefaa
