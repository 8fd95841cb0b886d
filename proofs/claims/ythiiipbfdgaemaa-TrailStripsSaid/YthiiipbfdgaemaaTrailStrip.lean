/- What Strip of layer 20 returns. Conditions: the records can be read. -/
import Derived.Test.YthiiipbfdgaemaaRows
import Derived.Test.YthiiipbfdgaemaaZ1
import Derived.Test.YthiiipbfdgaemaaZ2
import Derived.WalkKit
import Derived.WalkSpells
import Derived.WalkSmall
import Derived.Below
import Derived.Lib.Hide
import Derived.Outline
import Derived.Deep.DeepCutAuto
import Derived.OwnWalk
import Derived.BigQuiet
import Derived.Deep.QuietTactic
import Derived.Deep.LoopGhost
import Derived.WalkMore
import Derived.OrdersHeld
import Derived.Deep.RegionHeld3
import Derived.Laws.AppendOwn
namespace Go.Proofs.Ythiiipbfdgaemaa
open Go.RowKit

theorem OwnN.set {base : Nat} {w : World} {b n c : Nat} {o : List Int} {v : Int} (h : OwnN base w (.slice (some ⟨b, 0, none⟩) n c) (o ++ [v])) (hn : n = o.length + 1) (x : Int) : OwnN base (w.setCell ⟨b, o.length, none⟩ (.int .i64 x)) (.slice (some ⟨b, 0, none⟩) n c) (o ++ [x]) := by
  have e1 : (o ++ [v]).length = n := by rw [hn]; simp
  have e2 : (o ++ [x]).length = n := by rw [hn]; simp
  unfold OwnN at *
  rw [e1] at h
  rw [e2]
  have h2 := (World.ownsRow.stored h o.length (.int .i64 x)).1
  have e3 : ((o ++ [v]).map (Value.int .i64)).set o.length (.int .i64 x) = (o ++ [x]).map (Value.int .i64) := by
    rw [List.map_append, List.set_append_right _ _ (by simp)]
    simp
  rw [e3] at h2
  exact h2

/-- What Strip tells: the numbers, the error. -/
def stripV (r : List Rc) : List Int × Int := if (checkV r).2 = 0 then (stripR r, 0) else ([], (checkV r).2)

theorem last_form {l : List Int} {m : Nat} (h : l.length = m) (h0 : m ≠ 0) : ∃ (o : List Int) (v : Int), l = o ++ [v] ∧ o.length + 1 = m := by
  rcases List.eq_nil_or_concat l with rfl | ⟨o, v, rfl⟩
  · exact absurd h.symm h0
  · exact ⟨o, v, by simp, by simpa using h⟩
theorem dK_two : dK 2 = -1 := rfl
theorem dK_three : dK 3 = 1 := rfl
theorem dK_else {k : Int} (h2 : k ≠ 2) (h3 : k ≠ 3) : dK k = 0 := by unfold dK; rw [if_neg h3, if_neg h2]
theorem putK_nz {o : List Int} {x : Int} (h : x ≠ 0) : putK o x = putN o x := by unfold putK; rw [if_neg h]

set_option maxRecDepth 20000 in
set_option maxHeartbeats 2000000 in
theorem strip20_good (A' : Option Addr) (n' c' : Nat) (r : List Rc) (hn' : r.length = n') (w : World) (hr : RdR w A' r) (hl : n' ≤ 4611686018427387904) (he : (checkV r).2 = 0) :
    Calls Try.prog 13 #[.slice A' n' c'] w fun e w' => ∃ A2 c2 m, e = .returned (.tuple #[.slice A2 m c2, .int .i64 0]) ∧ (stripR r).length = m ∧ RdN w' A2 (stripR r) ∧ Below w.heap.size w w' := by
  have CR := fun W (h : RdR W A' r) => rcheck_any A' c' r W h (by omega)
  rw [hn', he] at CR
  obtain ⟨e2, he2⟩ : ∃ e2, (checkV r).1 = e2 := ⟨_, rfl⟩
  rw [he2] at CR
  have HR := Lib.hid hr
  have TL := Lib.hid (check_tl he)
  have HN := Lib.hid hn'
  obtain ⟨i1, hj, hy0, hy1, hy2⟩ := info_parts info_int
  clear hr he he2 hn'
  go_enter Try.func13, Try.ntmps13
  go_wp2_with (go_at_call 34; refine (CR _ HR.out).mono ?_; rintro e w1 ⟨rfl, hb1⟩)
  go_loopw [6, 21] (fun s6 s21 wr => ∃ (k m : Nat) (A2 : Option Addr) (c2 : Nat), k ≤ n' ∧ s21 = .int .i64 (k : Int) ∧ s6 = .slice A2 m c2 ∧ Hid ((stripR (r.take k)).length = m) ∧ Hid (OwnN w.heap.size wr (.slice A2 m c2) (stripR (r.take k))) ∧ Below w.heap.size w wr) (fun _ s21 _ => n' - (intOf s21).toNat)
  case atStart => exact ⟨0, 0, none, 0, Nat.zero_le _, rfl, rfl, Lib.hid rfl, Lib.hid (OwnN.nil _ _), hb1⟩
  case round =>
    clear hb1
    obtain ⟨k, m, A2, c2, hk, rfl, rfl, HON, HO, hb⟩ := hrel
    obtain ⟨w2, rfl⟩ : ∃ w2 : World, w2 = wr := ⟨_, rfl⟩
    have hsz := hb.size
    by_cases hlt : k < n'
    · obtain ⟨b, off, q, y, z, rfl, hbb, c0, c1, c2', hs⟩ := HR.out.at_ (k := k) (by rw [HN.out]; exact hlt)
      rw [← hb.cell (p := ⟨b, _, none⟩) hbb] at c0 c1 c2'
      have hbr : b < w2.heap.size := by omega
      have HM0 := Lib.hid (stripR_more (by rw [HN.out]; exact hlt) hs.out)
      have bd := TL.out.at_ k (by rw [HN.out]; exact hlt)
      rw [hs.out] at bd
      obtain ⟨_, y0, yz, z3⟩ := bd
      simp only at y0 yz z3
      have hml := (stripR_nz TL.out k).2
      have hml2 := hml
      rw [HON.out] at hml2
      have lw2 : w2.heap.size < (w2.alloc (.cells #[.int .i64 q, .int .i64 y, .int .i64 z] 59)).heap.size := by simp
      clear hs
      by_cases h3 : q = 3
      · have HM := Lib.hid (show stripR (r.take (k + 1)) = putN (stripR (r.take k)) (z - y) by rw [HM0.out, h3, dK_three, Int.mul_one, putK_nz (by omega)])
        have e2q : (q == 2) = false := by simp [h3]
        have n2q : (q != 2) = true := by simp [h3]
        have n3q : (q != 3) = false := by simp [h3]
        have dn : decide (z - y < 0) = false := decide_eq_false (by omega)
        have dn2 : decide (z < y) = false := decide_eq_false (by omega)
        clear HM0 h3
        by_cases hm0 : m = 0
        · subst hm0
          have hnil : stripR (r.take k) = [] := List.eq_nil_of_length_eq_zero HON.out
          have HE := Lib.hid (show stripR (r.take (k + 1)) = stripR (r.take k) ++ [(z - y)] by rw [HM.out, hnil]; rfl)
          have HL5 := Lib.hid (show (stripR (r.take (k + 1))).length = 0 + 1 by rw [HE.out, List.length_append, HON.out]; rfl)
          go_wp2_with (first | go_skip | (at_builtin; refine wpList_append_own _ rfl _ _ 37 rfl w.heap.size 3 i1 (.int .i64 0) 1 8 Try.underlying37 hj hy0 hy1 hy2 rfl (by decide) _ _ _ rfl (OwnN.alloc (OwnN.alloc HO.out (.cells #[.int .i64 q, .int .i64 y, .int .i64 z] 59)) _) ⟨w2.heap.size + 1, 0, none⟩ 1 1 [.int .i64 (z - y)] rfl rfl (int_news (by simp)) int_cells (by unfold maxLen; omega) (by omega) (by simp; omega) ?_; intro v5 w5 hown5 hgrow5 _; have HS := Lib.hid (OwnN.snoc hown5); have HB5 := Lib.hid (((hb.alloc hsz (.cells #[.int .i64 q, .int .i64 y, .int .i64 z] 59)).alloc (by simp; omega) (.cells #[.int .i64 (z - y)] 3)).grown hgrow5 (by simp; omega) (fun q hq => (World.ownsRow.lt HO.out q hq).1)); obtain ⟨A5, c5, rfl, _⟩ := HS.out.read; clear hown5 hgrow5))
          have HS2 := Lib.hid (show OwnN w.heap.size w5 (.slice A5 (0 + 1) c5) (stripR (r.take (k + 1))) by
            have := HS.out
            rw [← HE.out, HL5.out] at this
            exact this)
          have HX := Lib.hid (show (stripR (r.take k) ++ [(z - y)]).length = 0 + 1 by rw [List.length_append, HON.out]; rfl)
          clear HS
          go_wp2
          go_roundw
          case rel => exact ⟨k + 1, 0 + 1, A5, c5, by omega, by go_num, (by first | rfl | (rw [HX.out]) | (congr 1; omega)), HL5, HS2, HB5.out⟩
          case measure => simp [intOf]; omega
        · have hm1 : (0 : Int) ≤ (m : Int) - 1 := by omega
          obtain ⟨o, v, hov, hom⟩ := last_form HON.out hm0
          obtain ⟨j, hoj⟩ : ∃ j, o.length = j := ⟨_, rfl⟩
          have hjm : j < m := by omega
          have hj1 : (m : Int) - 1 = (j : Int) := by omega
          obtain ⟨g, hA2, hgb, hgl⟩ : ∃ g, A2 = some ⟨g, 0, none⟩ ∧ w.heap.size ≤ g ∧ g < w2.heap.size := by
            obtain ⟨A', c', hA, hf, _⟩ := row_form (show w2.ownsRow w.heap.size 3 1 (.slice A2 m c2) (stripR (r.take k)).length _ from HO.out)
            injection hA with h1 h2 h3
            obtain ⟨g, hg1, hg2, hg3⟩ := hf (by rw [HON.out]; exact hm0)
            exact ⟨g, h1.trans hg1, hg2, hg3⟩
          subst hA2
          have hcell : w2.cell? ⟨g, j, none⟩ = some (.int .i64 v) := by
            obtain ⟨A', c', hA, hrd⟩ := HO.out.read
            injection hA with h1 h2 h3
            subst h1
            obtain ⟨b', off', x', hA', _, hc', hx'⟩ := hrd.at_ (k := j) (by rw [HON.out]; exact hjm)
            simp only [Option.some.injEq, Addr.mk.injEq, and_true] at hA'
            obtain ⟨rfl, rfl⟩ := hA'
            rw [Nat.zero_add] at hc'
            rw [hc']
            have := hx'.out
            rw [hov, ← hoj, List.getElem?_append_right (Nat.le_refl _), Nat.sub_self] at this
            have h4 : v = x' := by simpa using this
            rw [h4]
          have hfree : w2.frozen? ⟨g, j, none⟩ = false := (row_some (show w2.ownsRow w.heap.size 3 1 (.slice (some ⟨g, 0, none⟩) m c2) m _ by have := HO.out; unfold OwnN at this; rw [HON.out] at this; exact this)).2.2 j
          have hvb := (stripR_nz TL.out k).1 v (by rw [hov]; simp)
          obtain ⟨v0, v1, v2⟩ := hvb
          by_cases hv : v < 0
          · have hv' : decide (v < 0) = true := decide_eq_true hv
            have HE := Lib.hid (show stripR (r.take (k + 1)) = stripR (r.take k) ++ [(z - y)] by rw [HM.out, hov, putN_other o (by omega)])
            have HL5 := Lib.hid (show (stripR (r.take (k + 1))).length = m + 1 by rw [HE.out, List.length_append, HON.out]; rfl)
            go_wp2_with (first | go_skip | (at_builtin; refine wpList_append_own _ rfl _ _ 37 rfl w.heap.size 3 i1 (.int .i64 0) 1 8 Try.underlying37 hj hy0 hy1 hy2 rfl (by decide) _ _ _ rfl (OwnN.alloc (OwnN.alloc HO.out (.cells #[.int .i64 q, .int .i64 y, .int .i64 z] 59)) _) ⟨w2.heap.size + 1, 0, none⟩ 1 1 [.int .i64 (z - y)] rfl rfl (int_news (by simp)) int_cells (by unfold maxLen; omega) (by omega) (by simp; omega) ?_; intro v5 w5 hown5 hgrow5 _; have HS := Lib.hid (OwnN.snoc hown5); have HB5 := Lib.hid (((hb.alloc hsz (.cells #[.int .i64 q, .int .i64 y, .int .i64 z] 59)).alloc (by simp; omega) (.cells #[.int .i64 (z - y)] 3)).grown hgrow5 (by simp; omega) (fun q hq => (World.ownsRow.lt HO.out q hq).1)); obtain ⟨A5, c5, rfl, _⟩ := HS.out.read; clear hown5 hgrow5))
            have HS2 := Lib.hid (show OwnN w.heap.size w5 (.slice A5 (m + 1) c5) (stripR (r.take (k + 1))) by
              have := HS.out
              rw [← HE.out, HL5.out] at this
              exact this)
            have HX := Lib.hid (show (stripR (r.take k) ++ [(z - y)]).length = m + 1 by rw [List.length_append, HON.out]; rfl)
            clear HS
            go_wp2
            go_roundw
            case rel => exact ⟨k + 1, m + 1, A5, c5, by omega, by go_num, (by first | rfl | (rw [HX.out]) | (congr 1; omega)), HL5, HS2, HB5.out⟩
            case measure => simp [intOf]; omega
          · have hv' : decide (v < 0) = false := decide_eq_false hv
            have HE := Lib.hid (show stripR (r.take (k + 1)) = o ++ [v + (z - y)] by rw [HM.out, hov, putN_same o (by omega)])
            have HL5 := Lib.hid (show (stripR (r.take (k + 1))).length = m by rw [HE.out, List.length_append]; exact hom)
            have hv1 : -9223372036854775808 ≤ v + (z - y) ∧ v + (z - y) ≤ 9223372036854775807 := by omega
            obtain ⟨hv2, hv3⟩ := hv1
            have HO6 := Lib.hid (show OwnN w.heap.size ((w2.setCell ⟨g, j, none⟩ (.int .i64 (v + (z - y)))).alloc (.cells #[.int .i64 q, .int .i64 y, .int .i64 z] 59)) (.slice (some ⟨g, 0, none⟩) m c2) (stripR (r.take (k + 1))) by
              rw [HE.out]
              have := OwnN.set (o := o) (v := v) (by rw [← hov]; exact HO.out) hom.symm (v + (z - y))
              rw [hoj] at this
              exact OwnN.alloc this _)
            have HB6 := Lib.hid (show Below w.heap.size w ((w2.setCell ⟨g, j, none⟩ (.int .i64 (v + (z - y)))).alloc (.cells #[.int .i64 q, .int .i64 y, .int .i64 z] 59)) from (hb.setCell (show w.heap.size ≤ g from hgb) _).alloc (by simp; omega) _)
            go_wp2_with go_skip
            go_roundw
            case rel => exact ⟨k + 1, m, some ⟨g, 0, none⟩, c2, by omega, by go_num, rfl, HL5, HO6, HB6.out⟩
            case measure => simp [intOf]; omega
      · by_cases h2 : q = 2
        · have HM := Lib.hid (show stripR (r.take (k + 1)) = putN (stripR (r.take k)) (-(z - y)) by rw [HM0.out, h2, dK_two, Int.mul_neg, Int.mul_one, putK_nz (by omega)])
          have e2q : (q == 2) = true := by simp [h2]
          have n2q : (q != 2) = false := by simp [h2]
          have dn : decide (-(z - y) < 0) = true := decide_eq_true (by omega)
          clear HM0 h2 h3
          by_cases hm0 : m = 0
          · subst hm0
            have hnil : stripR (r.take k) = [] := List.eq_nil_of_length_eq_zero HON.out
            have HE := Lib.hid (show stripR (r.take (k + 1)) = stripR (r.take k) ++ [(-(z - y))] by rw [HM.out, hnil]; rfl)
            have HL5 := Lib.hid (show (stripR (r.take (k + 1))).length = 0 + 1 by rw [HE.out, List.length_append, HON.out]; rfl)
            go_wp2_with (first | go_skip | (at_builtin; refine wpList_append_own _ rfl _ _ 37 rfl w.heap.size 3 i1 (.int .i64 0) 1 8 Try.underlying37 hj hy0 hy1 hy2 rfl (by decide) _ _ _ rfl (OwnN.alloc (OwnN.alloc HO.out (.cells #[.int .i64 q, .int .i64 y, .int .i64 z] 59)) _) ⟨w2.heap.size + 1, 0, none⟩ 1 1 [.int .i64 (-(z - y))] rfl rfl (int_news (by simp)) int_cells (by unfold maxLen; omega) (by omega) (by simp; omega) ?_; intro v5 w5 hown5 hgrow5 _; have HS := Lib.hid (OwnN.snoc hown5); have HB5 := Lib.hid (((hb.alloc hsz (.cells #[.int .i64 q, .int .i64 y, .int .i64 z] 59)).alloc (by simp; omega) (.cells #[.int .i64 (-(z - y))] 3)).grown hgrow5 (by simp; omega) (fun q hq => (World.ownsRow.lt HO.out q hq).1)); obtain ⟨A5, c5, rfl, _⟩ := HS.out.read; clear hown5 hgrow5))
            have HS2 := Lib.hid (show OwnN w.heap.size w5 (.slice A5 (0 + 1) c5) (stripR (r.take (k + 1))) by
              have := HS.out
              rw [← HE.out, HL5.out] at this
              exact this)
            have HX := Lib.hid (show (stripR (r.take k) ++ [(-(z - y))]).length = 0 + 1 by rw [List.length_append, HON.out]; rfl)
            clear HS
            go_wp2
            go_roundw
            case rel => exact ⟨k + 1, 0 + 1, A5, c5, by omega, by go_num, (by first | rfl | (rw [HX.out]) | (congr 1; omega)), HL5, HS2, HB5.out⟩
            case measure => simp [intOf]; omega
          · have hm1 : (0 : Int) ≤ (m : Int) - 1 := by omega
            obtain ⟨o, v, hov, hom⟩ := last_form HON.out hm0
            obtain ⟨j, hoj⟩ : ∃ j, o.length = j := ⟨_, rfl⟩
            have hjm : j < m := by omega
            have hj1 : (m : Int) - 1 = (j : Int) := by omega
            obtain ⟨g, hA2, hgb, hgl⟩ : ∃ g, A2 = some ⟨g, 0, none⟩ ∧ w.heap.size ≤ g ∧ g < w2.heap.size := by
              obtain ⟨A', c', hA, hf, _⟩ := row_form (show w2.ownsRow w.heap.size 3 1 (.slice A2 m c2) (stripR (r.take k)).length _ from HO.out)
              injection hA with h1 h2 h3
              obtain ⟨g, hg1, hg2, hg3⟩ := hf (by rw [HON.out]; exact hm0)
              exact ⟨g, h1.trans hg1, hg2, hg3⟩
            subst hA2
            have hcell : w2.cell? ⟨g, j, none⟩ = some (.int .i64 v) := by
              obtain ⟨A', c', hA, hrd⟩ := HO.out.read
              injection hA with h1 h2 h3
              subst h1
              obtain ⟨b', off', x', hA', _, hc', hx'⟩ := hrd.at_ (k := j) (by rw [HON.out]; exact hjm)
              simp only [Option.some.injEq, Addr.mk.injEq, and_true] at hA'
              obtain ⟨rfl, rfl⟩ := hA'
              rw [Nat.zero_add] at hc'
              rw [hc']
              have := hx'.out
              rw [hov, ← hoj, List.getElem?_append_right (Nat.le_refl _), Nat.sub_self] at this
              have h4 : v = x' := by simpa using this
              rw [h4]
            have hfree : w2.frozen? ⟨g, j, none⟩ = false := (row_some (show w2.ownsRow w.heap.size 3 1 (.slice (some ⟨g, 0, none⟩) m c2) m _ by have := HO.out; unfold OwnN at this; rw [HON.out] at this; exact this)).2.2 j
            have hvb := (stripR_nz TL.out k).1 v (by rw [hov]; simp)
            obtain ⟨v0, v1, v2⟩ := hvb
            by_cases hv : v < 0
            · have hv' : decide (v < 0) = true := decide_eq_true hv
              have HE := Lib.hid (show stripR (r.take (k + 1)) = o ++ [v + (-(z - y))] by rw [HM.out, hov, putN_same o (by omega)])
              have HL5 := Lib.hid (show (stripR (r.take (k + 1))).length = m by rw [HE.out, List.length_append]; exact hom)
              have hv1 : -9223372036854775808 ≤ v + (-(z - y)) ∧ v + (-(z - y)) ≤ 9223372036854775807 := by omega
              obtain ⟨hv2, hv3⟩ := hv1
              have HO6 := Lib.hid (show OwnN w.heap.size ((w2.setCell ⟨g, j, none⟩ (.int .i64 (v + (-(z - y))))).alloc (.cells #[.int .i64 q, .int .i64 y, .int .i64 z] 59)) (.slice (some ⟨g, 0, none⟩) m c2) (stripR (r.take (k + 1))) by
                rw [HE.out]
                have := OwnN.set (o := o) (v := v) (by rw [← hov]; exact HO.out) hom.symm (v + (-(z - y)))
                rw [hoj] at this
                exact OwnN.alloc this _)
              have HB6 := Lib.hid (show Below w.heap.size w ((w2.setCell ⟨g, j, none⟩ (.int .i64 (v + (-(z - y))))).alloc (.cells #[.int .i64 q, .int .i64 y, .int .i64 z] 59)) from (hb.setCell (show w.heap.size ≤ g from hgb) _).alloc (by simp; omega) _)
              go_wp2_with go_skip
              go_roundw
              case rel => exact ⟨k + 1, m, some ⟨g, 0, none⟩, c2, by omega, by go_num, rfl, HL5, HO6, HB6.out⟩
              case measure => simp [intOf]; omega
            · have hv' : decide (v < 0) = false := decide_eq_false hv
              have HE := Lib.hid (show stripR (r.take (k + 1)) = stripR (r.take k) ++ [(-(z - y))] by rw [HM.out, hov, putN_other o (by omega)])
              have HL5 := Lib.hid (show (stripR (r.take (k + 1))).length = m + 1 by rw [HE.out, List.length_append, HON.out]; rfl)
              go_wp2_with (first | go_skip | (at_builtin; refine wpList_append_own _ rfl _ _ 37 rfl w.heap.size 3 i1 (.int .i64 0) 1 8 Try.underlying37 hj hy0 hy1 hy2 rfl (by decide) _ _ _ rfl (OwnN.alloc (OwnN.alloc HO.out (.cells #[.int .i64 q, .int .i64 y, .int .i64 z] 59)) _) ⟨w2.heap.size + 1, 0, none⟩ 1 1 [.int .i64 (-(z - y))] rfl rfl (int_news (by simp)) int_cells (by unfold maxLen; omega) (by omega) (by simp; omega) ?_; intro v5 w5 hown5 hgrow5 _; have HS := Lib.hid (OwnN.snoc hown5); have HB5 := Lib.hid (((hb.alloc hsz (.cells #[.int .i64 q, .int .i64 y, .int .i64 z] 59)).alloc (by simp; omega) (.cells #[.int .i64 (-(z - y))] 3)).grown hgrow5 (by simp; omega) (fun q hq => (World.ownsRow.lt HO.out q hq).1)); obtain ⟨A5, c5, rfl, _⟩ := HS.out.read; clear hown5 hgrow5))
              have HS2 := Lib.hid (show OwnN w.heap.size w5 (.slice A5 (m + 1) c5) (stripR (r.take (k + 1))) by
                have := HS.out
                rw [← HE.out, HL5.out] at this
                exact this)
              have HX := Lib.hid (show (stripR (r.take k) ++ [(-(z - y))]).length = m + 1 by rw [List.length_append, HON.out]; rfl)
              clear HS
              go_wp2
              go_roundw
              case rel => exact ⟨k + 1, m + 1, A5, c5, by omega, by go_num, (by first | rfl | (rw [HX.out]) | (congr 1; omega)), HL5, HS2, HB5.out⟩
              case measure => simp [intOf]; omega
        · have HE := Lib.hid (show stripR (r.take (k + 1)) = stripR (r.take k) by rw [HM0.out, dK_else h2 h3, Int.mul_zero, putK, if_pos rfl])
          have e2q : (q == 2) = false := by simp [h2]
          have n2q : (q != 2) = true := by simp [h2]
          have n3q : (q != 3) = true := by simp [h3]
          have HB5 := Lib.hid (hb.alloc hsz (.cells #[.int .i64 q, .int .i64 y, .int .i64 z] 59))
          have HO5 := Lib.hid (OwnN.alloc HO.out (.cells #[.int .i64 q, .int .i64 y, .int .i64 z] 59))
          clear HM0 h2 h3
          go_wp2_with go_skip
          go_roundw
          case rel => exact ⟨k + 1, m, A2, c2, by omega, by go_num, rfl, Lib.hid (by rw [HE.out]; exact HON.out), Lib.hid (by rw [HE.out]; exact HO5.out), HB5.out⟩
          case measure => simp [intOf]; omega
    · have hkn : k = n' := by omega
      have HT := Lib.hid (show r.take k = r from List.take_of_length_le (by rw [HN.out]; omega))
      rw [HT.out] at HON HO
      clear hkn
      go_wp2
      go_ret2
      obtain ⟨A3, c3, hA, hrd⟩ := HO.out.read
      injection hA with h1 h2 h3
      exact ⟨A2, c2, m, rfl, HON.out, h1 ▸ hrd, hb⟩

theorem strip20_any (A' : Option Addr) (n' c' : Nat) (r : List Rc) (hn' : r.length = n') (w : World) (hr : RdR w A' r) (hl : n' ≤ 4611686018427387904) {vl : List Int} {er : Int} (hV : stripV r = (vl, er)) {m : Nat} (hm : vl.length = m) :
    Calls Try.prog 13 #[.slice A' n' c'] w fun e w' => ∃ A2 c2, e = .returned (.tuple #[.slice A2 m c2, .int .i64 er]) ∧ RdN w' A2 vl ∧ Below w.heap.size w w' := by
  by_cases he : (checkV r).2 = 0
  · unfold stripV at hV
    rw [if_pos he] at hV
    injection hV with h1 h2
    subst h1 h2
    refine (strip20_good A' n' c' r hn' w hr hl he).mono ?_
    rintro e w' ⟨A2, c2, m2, rfl, h1, h2, h3⟩
    rw [hm] at h1
    subst h1
    exact ⟨A2, c2, rfl, h2, h3⟩
  · unfold stripV at hV
    rw [if_neg he] at hV
    injection hV with h1 h2
    subst h1 h2
    obtain rfl : m = 0 := hm.symm
    have CR := fun W (h : RdR W A' r) => rcheck_any A' c' r W h (by omega)
    rw [hn'] at CR
    obtain ⟨e1, he1⟩ : ∃ e1, (checkV r).2 = e1 := ⟨_, rfl⟩
    obtain ⟨e2, he2⟩ : ∃ e2, (checkV r).1 = e2 := ⟨_, rfl⟩
    rw [he1, he2] at CR
    rw [he1] at he ⊢
    have hne' : (e1 != 0) = true := by simp [he]
    have HR := Lib.hid hr
    clear hr he he1 he2 hn' hm
    go_enter Try.func13, Try.ntmps13
    go_wp2_with (go_at_call 34; refine (CR _ HR.out).mono ?_; rintro e w1 ⟨rfl, hb1⟩)
    go_ret2
    exact ⟨none, 0, rfl, fun h => absurd rfl h, hb1⟩

end Go.Proofs.Ythiiipbfdgaemaa
