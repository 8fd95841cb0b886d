/- What the document's own Strip of layer 20 returns. Conditions: the records can be read and are a timeline. -/
import Derived.Test.YthiiipbfdgaemaaRows
import Derived.Test.YthiiipbfdgaemaaZ1
import Derived.Test.YthiiipbfdgaemaaZ2
import Derived.Test.YthiiipbfdgaemaaTrailStrip
import Derived.WalkKit
import Derived.WalkSpells
import Derived.WalkSmall
import Derived.Below
import Derived.Lib.Hide
import Derived.Outline
import Derived.Deep.DeepCutAuto
import Derived.OwnWalk
import Derived.BigQuiet
import Derived.Deep.QuietTactic
import Derived.Deep.LoopGhost
import Derived.WalkMore
import Derived.OrdersHeld
import Derived.Deep.RegionHeld3
import Derived.Laws.AppendOwn
namespace Go.Proofs.Ythiiipbfdgaemaa
open Go.RowKit

set_option maxRecDepth 20000 in
set_option maxHeartbeats 2000000 in
theorem rstrip20_any (A' : Option Addr) (n' c' : Nat) (r : List Rc) (hn' : r.length = n') (w : World) (hr : RdR w A' r) (hl : n' ≤ 4611686018427387904) {e0 : Int} (tl : Tl e0 r) {M : Nat} (hM : (stripK (kindsV r)).length = M) :
    Calls Try.prog 17 #[.slice A' n' c'] w fun e w' => ∃ A2 c2, e = .returned (.slice A2 M c2) ∧ RdN w' A2 (stripK (kindsV r)) ∧ Below w.heap.size w w' := by
  have CK := fun W (h : RdR W A' r) => refkinds_any A' c' r W h tl (by omega)
  rw [hn'] at CK
  have HR := Lib.hid hr
  obtain ⟨N1, hN1⟩ : ∃ N1, (kindsV r).length = N1 := ⟨_, rfl⟩
  have HKL := Lib.hid hN1
  have N1le : N1 ≤ 40320 := by rw [← hN1]; exact tl.short
  have HMM := Lib.hid hM
  obtain ⟨i1, hj, hy0, hy1, hy2⟩ := info_parts info_int
  clear hr hn' hN1 hM
  go_enter Try.func17, Try.ntmps17
  go_wp2_with (go_at_call 29; refine (CK _ HR.out).mono ?_; rintro e w1 ⟨v, rfl, hown, hb1⟩; obtain ⟨A1, c1, rfl, hrd1⟩ := hown.read; rw [HKL.out]; have HRD := Lib.hid hrd1; have HB1 := Lib.hid hb1; clear hown hrd1 hb1)
  go_loopw [4, 5] (fun s4 s5 wr => ∃ (k m : Nat) (A2 : Option Addr) (c2 : Nat), k ≤ N1 ∧ s5 = .int .i64 (k : Int) ∧ s4 = .slice A2 m c2 ∧ Hid ((stripK ((kindsV r).take k)).length = m) ∧ Hid (OwnN (w1.heap.size) wr (.slice A2 m c2) (stripK ((kindsV r).take k))) ∧ Below (w1.heap.size) w1 wr) (fun _ s5 _ => N1 - (intOf s5).toNat)
  case atStart => exact ⟨0, 0, none, 0, Nat.zero_le _, rfl, rfl, Lib.hid rfl, Lib.hid (OwnN.nil _ _), Below.refl _ _⟩
  case round =>
    obtain ⟨k, m, A2, c2, hk, rfl, rfl, HON, HO, hb⟩ := hrel
    obtain ⟨w2, rfl⟩ : ∃ w2 : World, w2 = wr := ⟨_, rfl⟩
    have hsz := hb.size
    by_cases hlt : k < N1
    · obtain ⟨b, off, q, rfl, hbb, c0, hq⟩ := HRD.out.at_ (k := k) (by rw [HKL.out]; exact hlt)
      rw [← hb.cell (p := ⟨b, _, none⟩) hbb] at c0
      have hbr : b < w2.heap.size := by omega
      have HM0 := Lib.hid (stripK_more hq.out)
      have hlen := stripK_len ((kindsV r).take k)
      have hlen0 : (stripK ((kindsV r).take k)).length ≤ 40320 := by rw [List.length_take] at hlen; omega
      have hlen2 := hlen0
      rw [HON.out] at hlen2
      have HNZ := Lib.hid (show NzN (stripK ((kindsV r).take k)) 40320 from fun y hy => by
        have := stripK_nz ((kindsV r).take k) y hy
        have e1 : (((kindsV r).take k).length : Int) ≤ 40320 := by rw [List.length_take]; omega
        exact ⟨this.1, by omega, by omega⟩)
      clear hq hlen
      by_cases h3 : q = 3
      · have HM := Lib.hid (show stripK ((kindsV r).take (k + 1)) = putN (stripK ((kindsV r).take k)) 1 by rw [HM0.out, h3, dK_three, putK_nz (by decide)])
        have g3 : (q == 3) = true := by simp [h3]
        have g2 : (q == 2) = false := by simp [h3]
        clear HM0 h3
        by_cases hm0 : m = 0
        · subst hm0
          have hnil : stripK ((kindsV r).take k) = [] := List.eq_nil_of_length_eq_zero HON.out
          have HE := Lib.hid (show stripK ((kindsV r).take (k + 1)) = stripK ((kindsV r).take k) ++ [1] by rw [HM.out, hnil]; rfl)
          have HL5 := Lib.hid (show (stripK ((kindsV r).take (k + 1))).length = 0 + 1 by rw [HE.out, List.length_append, HON.out]; rfl)
          go_wp2_with (first | go_skip | (at_builtin; refine wpList_append_own _ rfl _ _ 37 rfl (w1.heap.size) 3 i1 (.int .i64 0) 1 8 Try.underlying37 hj hy0 hy1 hy2 rfl (by decide) _ _ _ rfl (OwnN.alloc HO.out _) ⟨w2.heap.size, 0, none⟩ 1 1 [.int .i64 1] rfl rfl (int_news (by simp)) int_cells (by unfold maxLen; omega) (by omega) (by simp; omega) ?_; intro v5 w5 hown5 hgrow5 _; have HS := Lib.hid (OwnN.snoc hown5); have HB5 := Lib.hid ((hb.alloc hsz (.cells #[.int .i64 1] 3)).grown hgrow5 (by simp; omega) (fun q hq => (World.ownsRow.lt HO.out q hq).1)); obtain ⟨A5, c5, rfl, _⟩ := HS.out.read; clear hown5 hgrow5))
          have HS2 := Lib.hid (show OwnN (w1.heap.size) w5 (.slice A5 (0 + 1) c5) (stripK ((kindsV r).take (k + 1))) by
            have := HS.out
            rw [← HE.out, HL5.out] at this
            exact this)
          have HX := Lib.hid (show (stripK ((kindsV r).take k) ++ [1]).length = 0 + 1 by rw [List.length_append, HON.out]; rfl)
          clear HS
          go_wp2
          go_roundw
          case rel => exact ⟨k + 1, 0 + 1, A5, c5, by omega, by go_num, (by first | rfl | (rw [HX.out]) | (congr 1; omega)), HL5, HS2, HB5.out⟩
          case measure => simp [intOf]; omega
        · have hm1 : (0 : Int) < (m : Int) := by omega
          obtain ⟨o, v, hov, hom⟩ := last_form HON.out hm0
          obtain ⟨j, hoj⟩ : ∃ j, o.length = j := ⟨_, rfl⟩
          have hjm : j < m := by omega
          have hj1 : (m : Int) - 1 = (j : Int) := by omega
          obtain ⟨g, hA2, hgb, hgl⟩ : ∃ g, A2 = some ⟨g, 0, none⟩ ∧ (w1.heap.size) ≤ g ∧ g < w2.heap.size := by
            obtain ⟨A', c', hA, hf, _⟩ := row_form (show w2.ownsRow (w1.heap.size) 3 1 (.slice A2 m c2) (stripK ((kindsV r).take k)).length _ from HO.out)
            injection hA with h1 h2 h3
            obtain ⟨g, hg1, hg2, hg3⟩ := hf (by rw [HON.out]; exact hm0)
            exact ⟨g, h1.trans hg1, hg2, hg3⟩
          subst hA2
          have hcell : w2.cell? ⟨g, j, none⟩ = some (.int .i64 v) := by
            obtain ⟨A', c', hA, hrd⟩ := HO.out.read
            injection hA with h1 h2 h3
            subst h1
            obtain ⟨b', off', x', hA', _, hc', hx'⟩ := hrd.at_ (k := j) (by rw [HON.out]; exact hjm)
            simp only [Option.some.injEq, Addr.mk.injEq, and_true] at hA'
            obtain ⟨rfl, rfl⟩ := hA'
            rw [Nat.zero_add] at hc'
            rw [hc']
            have := hx'.out
            rw [hov, ← hoj, List.getElem?_append_right (Nat.le_refl _), Nat.sub_self] at this
            have h4 : v = x' := by simpa using this
            rw [h4]
          have hfree : w2.frozen? ⟨g, j, none⟩ = false := (row_some (show w2.ownsRow (w1.heap.size) 3 1 (.slice (some ⟨g, 0, none⟩) m c2) m _ by have := HO.out; unfold OwnN at this; rw [HON.out] at this; exact this)).2.2 j
          obtain ⟨v0, v1, v2⟩ := HNZ.out v (by rw [hov]; simp)
          by_cases hv : 0 < v
          · have hv' : decide (0 < v) = true := decide_eq_true hv
            have HE := Lib.hid (show stripK ((kindsV r).take (k + 1)) = o ++ [v + 1] by rw [HM.out, hov, putN_same o (by omega)])
            have HL5 := Lib.hid (show (stripK ((kindsV r).take (k + 1))).length = m by rw [HE.out, List.length_append]; exact hom)
            have hv1 : -9223372036854775808 ≤ v + 1 ∧ v + 1 ≤ 9223372036854775807 := by omega
            obtain ⟨hv2, hv3⟩ := hv1
            have HO6 := Lib.hid (show OwnN (w1.heap.size) (w2.setCell ⟨g, j, none⟩ (.int .i64 (v + 1))) (.slice (some ⟨g, 0, none⟩) m c2) (stripK ((kindsV r).take (k + 1))) by
              rw [HE.out]
              have := OwnN.set (o := o) (v := v) (by rw [← hov]; exact HO.out) hom.symm (v + 1)
              rw [hoj] at this
              exact this)
            have HB6 := Lib.hid (show Below (w1.heap.size) w1 (w2.setCell ⟨g, j, none⟩ (.int .i64 (v + 1))) from hb.setCell (show (w1.heap.size) ≤ g from hgb) _)
            go_wp2_with go_skip
            go_roundw
            case rel => exact ⟨k + 1, m, (some ⟨g, 0, none⟩), c2, by omega, by go_num, rfl, HL5, HO6, HB6.out⟩
            case measure => simp [intOf]; omega
          · have hv' : decide (0 < v) = false := decide_eq_false hv
            have HE := Lib.hid (show stripK ((kindsV r).take (k + 1)) = stripK ((kindsV r).take k) ++ [1] by rw [HM.out, hov, putN_other o (by omega)])
            have HL5 := Lib.hid (show (stripK ((kindsV r).take (k + 1))).length = m + 1 by rw [HE.out, List.length_append, HON.out]; rfl)
            go_wp2_with (first | go_skip | (at_builtin; refine wpList_append_own _ rfl _ _ 37 rfl (w1.heap.size) 3 i1 (.int .i64 0) 1 8 Try.underlying37 hj hy0 hy1 hy2 rfl (by decide) _ _ _ rfl (OwnN.alloc HO.out _) ⟨w2.heap.size, 0, none⟩ 1 1 [.int .i64 1] rfl rfl (int_news (by simp)) int_cells (by unfold maxLen; omega) (by omega) (by simp; omega) ?_; intro v5 w5 hown5 hgrow5 _; have HS := Lib.hid (OwnN.snoc hown5); have HB5 := Lib.hid ((hb.alloc hsz (.cells #[.int .i64 1] 3)).grown hgrow5 (by simp; omega) (fun q hq => (World.ownsRow.lt HO.out q hq).1)); obtain ⟨A5, c5, rfl, _⟩ := HS.out.read; clear hown5 hgrow5))
            have HS2 := Lib.hid (show OwnN (w1.heap.size) w5 (.slice A5 (m + 1) c5) (stripK ((kindsV r).take (k + 1))) by
              have := HS.out
              rw [← HE.out, HL5.out] at this
              exact this)
            have HX := Lib.hid (show (stripK ((kindsV r).take k) ++ [1]).length = m + 1 by rw [List.length_append, HON.out]; rfl)
            clear HS
            go_wp2
            go_roundw
            case rel => exact ⟨k + 1, m + 1, A5, c5, by omega, by go_num, (by first | rfl | (rw [HX.out]) | (congr 1; omega)), HL5, HS2, HB5.out⟩
            case measure => simp [intOf]; omega
      · have g3 : (q == 3) = false := by simp [h3]
        by_cases h2 : q = 2
        · have HM := Lib.hid (show stripK ((kindsV r).take (k + 1)) = putN (stripK ((kindsV r).take k)) (-1) by rw [HM0.out, h2, dK_two, putK_nz (by decide)])
          have g2 : (q == 2) = true := by simp [h2]
          clear HM0 h2 h3
          by_cases hm0 : m = 0
          · subst hm0
            have hnil : stripK ((kindsV r).take k) = [] := List.eq_nil_of_length_eq_zero HON.out
            have HE := Lib.hid (show stripK ((kindsV r).take (k + 1)) = stripK ((kindsV r).take k) ++ [(-1)] by rw [HM.out, hnil]; rfl)
            have HL5 := Lib.hid (show (stripK ((kindsV r).take (k + 1))).length = 0 + 1 by rw [HE.out, List.length_append, HON.out]; rfl)
            go_wp2_with (first | go_skip | (at_builtin; refine wpList_append_own _ rfl _ _ 37 rfl (w1.heap.size) 3 i1 (.int .i64 0) 1 8 Try.underlying37 hj hy0 hy1 hy2 rfl (by decide) _ _ _ rfl (OwnN.alloc HO.out _) ⟨w2.heap.size, 0, none⟩ 1 1 [.int .i64 (-1)] rfl rfl (int_news (by simp)) int_cells (by unfold maxLen; omega) (by omega) (by simp; omega) ?_; intro v5 w5 hown5 hgrow5 _; have HS := Lib.hid (OwnN.snoc hown5); have HB5 := Lib.hid ((hb.alloc hsz (.cells #[.int .i64 (-1)] 3)).grown hgrow5 (by simp; omega) (fun q hq => (World.ownsRow.lt HO.out q hq).1)); obtain ⟨A5, c5, rfl, _⟩ := HS.out.read; clear hown5 hgrow5))
            have HS2 := Lib.hid (show OwnN (w1.heap.size) w5 (.slice A5 (0 + 1) c5) (stripK ((kindsV r).take (k + 1))) by
              have := HS.out
              rw [← HE.out, HL5.out] at this
              exact this)
            have HX := Lib.hid (show (stripK ((kindsV r).take k) ++ [(-1)]).length = 0 + 1 by rw [List.length_append, HON.out]; rfl)
            clear HS
            go_wp2
            go_roundw
            case rel => exact ⟨k + 1, 0 + 1, A5, c5, by omega, by go_num, (by first | rfl | (rw [HX.out]) | (congr 1; omega)), HL5, HS2, HB5.out⟩
            case measure => simp [intOf]; omega
          · have hm1 : (0 : Int) < (m : Int) := by omega
            obtain ⟨o, v, hov, hom⟩ := last_form HON.out hm0
            obtain ⟨j, hoj⟩ : ∃ j, o.length = j := ⟨_, rfl⟩
            have hjm : j < m := by omega
            have hj1 : (m : Int) - 1 = (j : Int) := by omega
            obtain ⟨g, hA2, hgb, hgl⟩ : ∃ g, A2 = some ⟨g, 0, none⟩ ∧ (w1.heap.size) ≤ g ∧ g < w2.heap.size := by
              obtain ⟨A', c', hA, hf, _⟩ := row_form (show w2.ownsRow (w1.heap.size) 3 1 (.slice A2 m c2) (stripK ((kindsV r).take k)).length _ from HO.out)
              injection hA with h1 h2 h3
              obtain ⟨g, hg1, hg2, hg3⟩ := hf (by rw [HON.out]; exact hm0)
              exact ⟨g, h1.trans hg1, hg2, hg3⟩
            subst hA2
            have hcell : w2.cell? ⟨g, j, none⟩ = some (.int .i64 v) := by
              obtain ⟨A', c', hA, hrd⟩ := HO.out.read
              injection hA with h1 h2 h3
              subst h1
              obtain ⟨b', off', x', hA', _, hc', hx'⟩ := hrd.at_ (k := j) (by rw [HON.out]; exact hjm)
              simp only [Option.some.injEq, Addr.mk.injEq, and_true] at hA'
              obtain ⟨rfl, rfl⟩ := hA'
              rw [Nat.zero_add] at hc'
              rw [hc']
              have := hx'.out
              rw [hov, ← hoj, List.getElem?_append_right (Nat.le_refl _), Nat.sub_self] at this
              have h4 : v = x' := by simpa using this
              rw [h4]
            have hfree : w2.frozen? ⟨g, j, none⟩ = false := (row_some (show w2.ownsRow (w1.heap.size) 3 1 (.slice (some ⟨g, 0, none⟩) m c2) m _ by have := HO.out; unfold OwnN at this; rw [HON.out] at this; exact this)).2.2 j
            obtain ⟨v0, v1, v2⟩ := HNZ.out v (by rw [hov]; simp)
            by_cases hv : 0 < v
            · have hv' : decide (0 < v) = true := decide_eq_true hv
              have HE := Lib.hid (show stripK ((kindsV r).take (k + 1)) = stripK ((kindsV r).take k) ++ [(-1)] by rw [HM.out, hov, putN_other o (by omega)])
              have HL5 := Lib.hid (show (stripK ((kindsV r).take (k + 1))).length = m + 1 by rw [HE.out, List.length_append, HON.out]; rfl)
              go_wp2_with (first | go_skip | (at_builtin; refine wpList_append_own _ rfl _ _ 37 rfl (w1.heap.size) 3 i1 (.int .i64 0) 1 8 Try.underlying37 hj hy0 hy1 hy2 rfl (by decide) _ _ _ rfl (OwnN.alloc HO.out _) ⟨w2.heap.size, 0, none⟩ 1 1 [.int .i64 (-1)] rfl rfl (int_news (by simp)) int_cells (by unfold maxLen; omega) (by omega) (by simp; omega) ?_; intro v5 w5 hown5 hgrow5 _; have HS := Lib.hid (OwnN.snoc hown5); have HB5 := Lib.hid ((hb.alloc hsz (.cells #[.int .i64 (-1)] 3)).grown hgrow5 (by simp; omega) (fun q hq => (World.ownsRow.lt HO.out q hq).1)); obtain ⟨A5, c5, rfl, _⟩ := HS.out.read; clear hown5 hgrow5))
              have HS2 := Lib.hid (show OwnN (w1.heap.size) w5 (.slice A5 (m + 1) c5) (stripK ((kindsV r).take (k + 1))) by
                have := HS.out
                rw [← HE.out, HL5.out] at this
                exact this)
              have HX := Lib.hid (show (stripK ((kindsV r).take k) ++ [(-1)]).length = m + 1 by rw [List.length_append, HON.out]; rfl)
              clear HS
              go_wp2
              go_roundw
              case rel => exact ⟨k + 1, m + 1, A5, c5, by omega, by go_num, (by first | rfl | (rw [HX.out]) | (congr 1; omega)), HL5, HS2, HB5.out⟩
              case measure => simp [intOf]; omega
            · have hv' : decide (0 < v) = false := decide_eq_false hv
              have HE := Lib.hid (show stripK ((kindsV r).take (k + 1)) = o ++ [v + (-1)] by rw [HM.out, hov, putN_same o (by omega)])
              have HL5 := Lib.hid (show (stripK ((kindsV r).take (k + 1))).length = m by rw [HE.out, List.length_append]; exact hom)
              have hv1 : -9223372036854775808 ≤ v + (-1) ∧ v + (-1) ≤ 9223372036854775807 := by omega
              obtain ⟨hv2, hv3⟩ := hv1
              have HO6 := Lib.hid (show OwnN (w1.heap.size) (w2.setCell ⟨g, j, none⟩ (.int .i64 (v + (-1)))) (.slice (some ⟨g, 0, none⟩) m c2) (stripK ((kindsV r).take (k + 1))) by
                rw [HE.out]
                have := OwnN.set (o := o) (v := v) (by rw [← hov]; exact HO.out) hom.symm (v + (-1))
                rw [hoj] at this
                exact this)
              have HB6 := Lib.hid (show Below (w1.heap.size) w1 (w2.setCell ⟨g, j, none⟩ (.int .i64 (v + (-1)))) from hb.setCell (show (w1.heap.size) ≤ g from hgb) _)
              go_wp2_with go_skip
              go_roundw
              case rel => exact ⟨k + 1, m, (some ⟨g, 0, none⟩), c2, by omega, by go_num, rfl, HL5, HO6, HB6.out⟩
              case measure => simp [intOf]; omega
        · have HE := Lib.hid (show stripK ((kindsV r).take (k + 1)) = stripK ((kindsV r).take k) by rw [HM0.out, dK_else h2 h3, putK, if_pos rfl])
          have g2 : (q == 2) = false := by simp [h2]
          clear HM0 h2 h3
          go_wp2_with go_skip
          go_roundw
          case rel => exact ⟨k + 1, m, A2, c2, by omega, by go_num, rfl, Lib.hid (by rw [HE.out]; exact HON.out), Lib.hid (by rw [HE.out]; exact HO.out), hb⟩
          case measure => simp [intOf]; omega
    · have HT := Lib.hid (show (kindsV r).take k = kindsV r from List.take_of_length_le (by rw [HKL.out]; omega))
      rw [HT.out] at HON HO
      have hme : m = M := by rw [← HON.out, HMM.out]
      go_wp2
      go_ret
      obtain ⟨A3, c3, hA, hrd⟩ := HO.out.read
      injection hA with h1 h2 h3
      exact ⟨A2, c2, by rw [hme]; rfl, h1 ▸ hrd, HB1.out.trans (hb.mono HB1.out.size)⟩

end Go.Proofs.Ythiiipbfdgaemaa
