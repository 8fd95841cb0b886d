/- What the library's Compact makes of findings: of neighbours that are the same the first one is kept. Conditions: the findings may be written; at most a million. -/
import Derived.Test.YthiiipbfdgaemaaSortRow
import Derived.Outline
import Derived.OwnWalk
import Derived.BigQuiet
import Derived.Deep.QuietTactic
namespace Go.Proofs.Ythiiipbfdgaemaa
open Go.RowKit

theorem comp_take {d dk : Array Rc} {m k : Nat} (h : Lib.CompInv d m k dk) (hm : m ≤ d.size) : Lib.compactUpTo d m = dk.toList.take k := by
  have hk := h.lt
  have hs := h.size
  apply List.ext_getElem?
  intro j
  by_cases hj : j < k
  · rw [h.low j hj, List.getElem?_take_of_lt hj, getElem!_pos dk j (by omega)]
    simp [show j < dk.size by omega]
  · rw [List.getElem?_eq_none (by rw [h.len]; omega), List.getElem?_eq_none (by rw [List.length_take]; omega)]

theorem comp_all {d : Array Rc} {n : Nat} (hn : d.size = n) (h : ∀ j, j < n → Lib.keeps d j = true) : Lib.compactUpTo d n = d.toList := by
  subst hn
  rw [Lib.compactUpTo_all d _ h, Lib.range_map_get]

set_option maxRecDepth 100000 in
set_option maxHeartbeats 8000000 in
theorem compactF_any (g c n : Nat) (d : Array Rc) (w : World) (hd : d.size = n) (hR : RwA w g d) (hnc : n ≤ c) (hl : n ≤ 1000000) :
    Calls Try.prog 43 #[.slice (some ⟨g, 0, none⟩) n c] w fun e w' => ∃ m, e = .returned (.slice (some ⟨g, 0, none⟩) m c) ∧ (Lib.compactUpTo d n).length = m ∧ RwA w' g (Lib.compactUpTo d n).toArray ∧ ∀ N, N ≤ g → Below N w w' := by
  by_cases h2 : n < 2
  · have HE := Lib.hid (comp_all hd (fun j hj => Lib.keeps_lt_one d j (by omega)))
    have HD := Lib.hid hd
    have HR := Lib.hid hR
    clear hd hR
    go_enter Try.func43, Try.ntmps43
    go_wp2
    go_ret
    refine ⟨n, rfl, by rw [HE.out, Array.length_toList, HD.out], by rw [HE.out]; exact HR.out, fun N _ => Below.refl _ _⟩
  · have HD := Lib.hid hd
    have h2b : ¬ (n : Int) < 2 := by omega
    have hgw0 := hR.lt
    clear hd
    go_enter Try.func43, Try.ntmps43
    go_wp2
    go_loopw [3] (fun i wr => ∃ k : Nat, 1 ≤ k ∧ k ≤ n ∧ i = .int .i64 k ∧ Below w.heap.size w wr ∧ Hid (∀ j, j < k → Lib.keeps d j = true)) (fun i _ => n - (intOf i).toNat)
    case atStart => exact ⟨1, Nat.le_refl _, by omega, rfl, Below.refl _ _, Lib.hid (Lib.keeps_lt_one d)⟩
    case round =>
      obtain ⟨k, hk1, hk, rfl, hb, HA⟩ := hrel
      obtain ⟨w2, rfl⟩ : ∃ w2 : World, w2 = wr := ⟨_, rfl⟩
      have hsz := hb.size
      have hds0 := HD.out
      by_cases hlt : k < n
      · have cx := (hR.below hb).cell k (by omega)
        have cy := (hR.below hb).cell (k - 1) (by omega)
        obtain ⟨j1, hj1⟩ : ∃ j1 : Nat, (k : Int) - 1 = (j1 : Int) := ⟨k - 1, by omega⟩
        rw [show k - 1 = j1 by omega] at cy
        obtain ⟨x1, x2, x3, hx⟩ : ∃ x1 x2 x3, d[k]! = (x1, x2, x3) := ⟨_, _, _, rfl⟩
        obtain ⟨y1, y2, y3, hy⟩ : ∃ y1 y2 y3, d[j1]! = (y1, y2, y3) := ⟨_, _, _, rfl⟩
        rw [hx] at cx
        rw [hy] at cy
        have HX := Lib.hid hx
        have HY : Hid (d[k - 1]! = (y1, y2, y3)) := Lib.hid (by rw [show k - 1 = j1 by omega]; exact hy)
        clear hx hy hds0
        have g3 : ((j1 : Nat) : Int) < (n : Int) := by omega
        have q0 : ∀ p : BelowOf w2, p.world.cell? ⟨g, k * 3, none⟩ = some (.int .i64 x1) := fun p => p.cell cx.1
        have q1 : ∀ p : BelowOf w2, p.world.cell? ⟨g, k * 3 + 1, none⟩ = some (.int .i64 x2) := fun p => p.cell cx.2.1
        have q2 : ∀ p : BelowOf w2, p.world.cell? ⟨g, k * 3 + 2, none⟩ = some (.int .i64 x3) := fun p => p.cell cx.2.2
        have q3 : ∀ p : BelowOf w2, p.world.cell? ⟨g, j1 * 3, none⟩ = some (.int .i64 y1) := fun p => p.cell cy.1
        have q4 : ∀ p : BelowOf w2, p.world.cell? ⟨g, j1 * 3 + 1, none⟩ = some (.int .i64 y2) := fun p => p.cell cy.2.1
        have q5 : ∀ p : BelowOf w2, p.world.cell? ⟨g, j1 * 3 + 2, none⟩ = some (.int .i64 y3) := fun p => p.cell cy.2.2
        clear cx cy
        by_cases h1 : x1 = y1
        · subst h1
          by_cases h2 : x2 = y2
          · subst h2
            by_cases h3 : x3 = y3
            · subst h3
              go_wp2
              refine wp_region_bel (by kernel_rfl) (by kernel_rfl) ?_
              repeat (go_big_quiet_step (first | (fail)))
              refine wpQuiet_nil ?_
              refine bel_all fun wq hbq => ?_
              clear q0 q1 q2 q3 q4 q5
              have HS := Lib.hid (Lib.CompInv.start HA.out (Lib.keeps_neg (by omega) (by rw [HX.out, HY.out])))
              have HRq := Lib.hid ((hR.below hb).below hbq)
              have HBq := Lib.hid (hb.trans (hbq.mono hsz))
              have kc : ¬ c = k := by omega
              go_wp2
              clear hb hbq
              go_loopw [3, 5] (fun a3 a5 wr => ∃ (kk k2 : Nat) (dk : Array Rc), a3 = .int .i64 kk ∧ a5 = .int .i64 k2 ∧ 1 ≤ k2 ∧ k + k2 ≤ n ∧ RwA wr g dk ∧ Hid (Lib.CompInv d (k + k2) kk dk) ∧ Below g w wr) (fun _ a5 _ => n - (intOf a5).toNat)
              case atStart => exact ⟨k, 1, d, rfl, rfl, Nat.le_refl _, by omega, HRq.out, Lib.hid HS.out, HBq.out.mono (Nat.le_of_lt hR.lt)⟩
              case round =>
                clear HX HY
                obtain ⟨kk, k2, dk, rfl, rfl, h1, hle, hRk, HI, hbk⟩ := hrel
                obtain ⟨wk, rfl⟩ : ∃ wk : World, wk = wr := ⟨_, rfl⟩
                have HRk := Lib.hid hRk
                have hkk := HI.out.lt
                have hds := HI.out.size
                have hdn := HD.out
                have hdk : dk.size = n := by omega
                clear hds hdn
                have hszk := hbk.size
                have hgw := hR.lt
                by_cases hlt2 : k + k2 < n
                · have cx := hRk.cell (k + k2) (by omega)
                  have cy := hRk.cell (k + k2 - 1) (by omega)
                  rw [HI.out.high (k + k2) (by omega), Nat.add_mul] at cx
                  rw [HI.out.high (k + k2 - 1) (by omega)] at cy
                  obtain ⟨j2, hj2⟩ : ∃ j2 : Nat, (k2 : Int) - 1 = (j2 : Int) := ⟨k2 - 1, by omega⟩
                  rw [show k + k2 - 1 = k + j2 by omega, Nat.add_mul] at cy
                  obtain ⟨x1, x2, x3, hx⟩ : ∃ x1 x2 x3, d[k + k2]! = (x1, x2, x3) := ⟨_, _, _, rfl⟩
                  obtain ⟨y1, y2, y3, hy⟩ : ∃ y1 y2 y3, d[k + j2]! = (y1, y2, y3) := ⟨_, _, _, rfl⟩
                  rw [hx] at cx
                  rw [hy] at cy
                  have HX := Lib.hid hx
                  have HY : Hid (d[k + k2 - 1]! = (y1, y2, y3)) := Lib.hid (by rw [show k + k2 - 1 = k + j2 by omega]; exact hy)
                  clear hx hy hRk
                  have q0 : ∀ p : BelowOf wk, p.world.cell? ⟨g, k * 3 + k2 * 3, none⟩ = some (.int .i64 x1) := fun p => p.cell cx.1
                  have q1 : ∀ p : BelowOf wk, p.world.cell? ⟨g, k * 3 + k2 * 3 + 1, none⟩ = some (.int .i64 x2) := fun p => p.cell cx.2.1
                  have q2 : ∀ p : BelowOf wk, p.world.cell? ⟨g, k * 3 + k2 * 3 + 2, none⟩ = some (.int .i64 x3) := fun p => p.cell cx.2.2
                  have q3 : ∀ p : BelowOf wk, p.world.cell? ⟨g, k * 3 + j2 * 3, none⟩ = some (.int .i64 y1) := fun p => p.cell cy.1
                  have q4 : ∀ p : BelowOf wk, p.world.cell? ⟨g, k * 3 + j2 * 3 + 1, none⟩ = some (.int .i64 y2) := fun p => p.cell cy.2.1
                  have q5 : ∀ p : BelowOf wk, p.world.cell? ⟨g, k * 3 + j2 * 3 + 2, none⟩ = some (.int .i64 y3) := fun p => p.cell cy.2.2
                  have g2 : (k2 : Int) < ((n - k : Nat) : Int) := by omega
                  have g3 : ((j2 : Nat) : Int) < ((n - k : Nat) : Int) := by omega
                  clear cx cy
                  by_cases h1 : x1 = y1
                  · subst h1
                    by_cases h2 : x2 = y2
                    · subst h2
                      by_cases h3 : x3 = y3
                      · subst h3
                        go_wp2
                        refine wp_region_bel (by kernel_rfl) (by kernel_rfl) ?_
                        repeat (go_big_quiet_step (first | (fail)))
                        refine wpQuiet_nil ?_
                        refine bel_all fun wq hbq => ?_
                        clear q0 q1 q2 q3 q4 q5
                        go_wp2
                        go_roundw
                        case rel => exact ⟨kk, k2 + 1, dk, rfl, by go_num, by omega, by omega, HRk.out.below hbq, Lib.hid (HI.out.skip (Lib.keeps_neg (by omega) (by rw [HX.out, HY.out]))), hbk.trans (hbq.mono (by omega))⟩
                        case measure => simp [intOf]; omega
                      · have e1 : (x3 == y3) = false := by simpa using h3
                        have H := Lib.hid h3
                        clear h3
                        go_wp2
                        refine wp_region_bel (by kernel_rfl) (by kernel_rfl) ?_
                        repeat (go_big_quiet_step (first | (fail)))
                        refine wpQuiet_nil ?_
                        refine bel_all fun wq hbq => ?_
                        have u0 : wq.cell? ⟨g, k * 3 + k2 * 3, none⟩ = some (.int .i64 x1) := q0 ⟨wq, hbq⟩
                        have u1 : wq.cell? ⟨g, k * 3 + k2 * 3 + 1, none⟩ = some (.int .i64 x2) := q1 ⟨wq, hbq⟩
                        have u2 : wq.cell? ⟨g, k * 3 + k2 * 3 + 2, none⟩ = some (.int .i64 x3) := q2 ⟨wq, hbq⟩
                        clear q0 q1 q2 q3 q4 q5
                        have HR2 := Lib.hid (HRk.out.below hbq)
                        go_wp2_with (refine wpList_store3 (by rfl) _ _ rfl g kk (x1, x2, x3) dk rfl rfl HR2.out (by omega) ?_; intro W2 hR2 hb2)
                        go_roundw
                        case rel => exact ⟨kk + 1, k2 + 1, dk.setIfInBounds kk (x1, x2, x3), by go_num, by go_num, by omega, by omega, hR2, Lib.hid (by have := HI.out.keep (by have := HD.out; omega) (Lib.keeps_pos (by rw [HX.out, HY.out]; intro e; simp only [Prod.mk.injEq] at e; exact H.out (by first | exact e.1 | exact e.2.1 | exact e.2.2))); rwa [HX.out] at this), (hbk.trans (hbq.mono (by omega))).trans (hb2 _ (by omega))⟩
                        case measure => simp [intOf]; omega
                    · have e1 : (x2 == y2) = false := by simpa using h2
                      have H := Lib.hid h2
                      clear h2
                      go_wp2
                      refine wp_region_bel (by kernel_rfl) (by kernel_rfl) ?_
                      repeat (go_big_quiet_step (first | (fail)))
                      refine wpQuiet_nil ?_
                      refine bel_all fun wq hbq => ?_
                      have u0 : wq.cell? ⟨g, k * 3 + k2 * 3, none⟩ = some (.int .i64 x1) := q0 ⟨wq, hbq⟩
                      have u1 : wq.cell? ⟨g, k * 3 + k2 * 3 + 1, none⟩ = some (.int .i64 x2) := q1 ⟨wq, hbq⟩
                      have u2 : wq.cell? ⟨g, k * 3 + k2 * 3 + 2, none⟩ = some (.int .i64 x3) := q2 ⟨wq, hbq⟩
                      clear q0 q1 q2 q3 q4 q5
                      have HR2 := Lib.hid (HRk.out.below hbq)
                      go_wp2_with (refine wpList_store3 (by rfl) _ _ rfl g kk (x1, x2, x3) dk rfl rfl HR2.out (by omega) ?_; intro W2 hR2 hb2)
                      go_roundw
                      case rel => exact ⟨kk + 1, k2 + 1, dk.setIfInBounds kk (x1, x2, x3), by go_num, by go_num, by omega, by omega, hR2, Lib.hid (by have := HI.out.keep (by have := HD.out; omega) (Lib.keeps_pos (by rw [HX.out, HY.out]; intro e; simp only [Prod.mk.injEq] at e; exact H.out (by first | exact e.1 | exact e.2.1 | exact e.2.2))); rwa [HX.out] at this), (hbk.trans (hbq.mono (by omega))).trans (hb2 _ (by omega))⟩
                      case measure => simp [intOf]; omega
                  · have e1 : (x1 == y1) = false := by simpa using h1
                    have H := Lib.hid h1
                    clear h1
                    go_wp2
                    refine wp_region_bel (by kernel_rfl) (by kernel_rfl) ?_
                    repeat (go_big_quiet_step (first | (fail)))
                    refine wpQuiet_nil ?_
                    refine bel_all fun wq hbq => ?_
                    have u0 : wq.cell? ⟨g, k * 3 + k2 * 3, none⟩ = some (.int .i64 x1) := q0 ⟨wq, hbq⟩
                    have u1 : wq.cell? ⟨g, k * 3 + k2 * 3 + 1, none⟩ = some (.int .i64 x2) := q1 ⟨wq, hbq⟩
                    have u2 : wq.cell? ⟨g, k * 3 + k2 * 3 + 2, none⟩ = some (.int .i64 x3) := q2 ⟨wq, hbq⟩
                    clear q0 q1 q2 q3 q4 q5
                    have HR2 := Lib.hid (HRk.out.below hbq)
                    go_wp2_with (refine wpList_store3 (by rfl) _ _ rfl g kk (x1, x2, x3) dk rfl rfl HR2.out (by omega) ?_; intro W2 hR2 hb2)
                    go_roundw
                    case rel => exact ⟨kk + 1, k2 + 1, dk.setIfInBounds kk (x1, x2, x3), by go_num, by go_num, by omega, by omega, hR2, Lib.hid (by have := HI.out.keep (by have := HD.out; omega) (Lib.keeps_pos (by rw [HX.out, HY.out]; intro e; simp only [Prod.mk.injEq] at e; exact H.out (by first | exact e.1 | exact e.2.1 | exact e.2.2))); rwa [HX.out] at this), (hbk.trans (hbq.mono (by omega))).trans (hb2 _ (by omega))⟩
                    case measure => simp [intOf]; omega
                · have hend : k + k2 = n := by omega
                  obtain ⟨m, hm⟩ : ∃ m, kk + (m + 1) = n := ⟨n - kk - 1, by omega⟩
                  have hm2 : n - kk = m + 1 := by omega
                  obtain ⟨W2, hcl, hR2, hb2⟩ := run_clear3 (c := c - kk) hRk (k := kk) (m := m) (by omega)
                  rw [← hm2] at hcl
                  have HR2 := Lib.hid hR2
                  have HM := Lib.hid (show Lib.compactUpTo d n = dk.toList.take kk by rw [← hend]; exact comp_take HI.out (by have := HD.out; omega))
                  have HL := Lib.hid (show (Lib.compactUpTo d n).length = kk by rw [← hend]; exact HI.out.len)
                  have HB2 := Lib.hid (fun N (hN : N ≤ g) => (hbk.mono hN).trans (hb2 N hN))
                  have g2 : ¬ (k2 : Int) < ((n - k : Nat) : Int) := by omega
                  have kc2 : ¬ c = kk := by omega
                  clear hRk hbk hR2 hb2 hm2
                  go_wp2
                  go_ret
                  exact ⟨kk, rfl, HL.out, by rw [HM.out]; exact HR2.out, HB2.out⟩
            · have e1 : (x3 == y3) = false := by simpa using h3
              have H := Lib.hid h3
              clear h3
              go_wp2
              refine wp_region_bel (by kernel_rfl) (by kernel_rfl) ?_
              repeat (go_big_quiet_step (first | (fail)))
              refine wpQuiet_nil ?_
              refine bel_all fun wq hbq => ?_
              clear q0 q1 q2 q3 q4 q5
              go_wp2
              go_roundw
              case rel => exact ⟨k + 1, by omega, by omega, by go_num, hb.trans (hbq.mono hsz), Lib.hid (fun j hj => by
                by_cases e : j = k
                · subst e; exact Lib.keeps_pos (by rw [HX.out, HY.out]; intro e; simp only [Prod.mk.injEq] at e; exact H.out (by first | exact e.1 | exact e.2.1 | exact e.2.2))
                · exact HA.out j (by omega))⟩
              case measure => simp [intOf]; omega
          · have e1 : (x2 == y2) = false := by simpa using h2
            have H := Lib.hid h2
            clear h2
            go_wp2
            refine wp_region_bel (by kernel_rfl) (by kernel_rfl) ?_
            repeat (go_big_quiet_step (first | (fail)))
            refine wpQuiet_nil ?_
            refine bel_all fun wq hbq => ?_
            clear q0 q1 q2 q3 q4 q5
            go_wp2
            go_roundw
            case rel => exact ⟨k + 1, by omega, by omega, by go_num, hb.trans (hbq.mono hsz), Lib.hid (fun j hj => by
              by_cases e : j = k
              · subst e; exact Lib.keeps_pos (by rw [HX.out, HY.out]; intro e; simp only [Prod.mk.injEq] at e; exact H.out (by first | exact e.1 | exact e.2.1 | exact e.2.2))
              · exact HA.out j (by omega))⟩
            case measure => simp [intOf]; omega
        · have e1 : (x1 == y1) = false := by simpa using h1
          have H := Lib.hid h1
          clear h1
          go_wp2
          refine wp_region_bel (by kernel_rfl) (by kernel_rfl) ?_
          repeat (go_big_quiet_step (first | (fail)))
          refine wpQuiet_nil ?_
          refine bel_all fun wq hbq => ?_
          clear q0 q1 q2 q3 q4 q5
          go_wp2
          go_roundw
          case rel => exact ⟨k + 1, by omega, by omega, by go_num, hb.trans (hbq.mono hsz), Lib.hid (fun j hj => by
            by_cases e : j = k
            · subst e; exact Lib.keeps_pos (by rw [HX.out, HY.out]; intro e; simp only [Prod.mk.injEq] at e; exact H.out (by first | exact e.1 | exact e.2.1 | exact e.2.2))
            · exact HA.out j (by omega))⟩
          case measure => simp [intOf]; omega
      · obtain rfl : k = n := by omega
        have HE := Lib.hid (comp_all hds0 HA.out)
        clear hds0
        go_wp2
        go_ret
        refine ⟨k, rfl, by rw [HE.out, Array.length_toList, HD.out], by rw [HE.out]; exact (hR.below hb), fun N hN => hb.mono (by omega)⟩

end Go.Proofs.Ythiiipbfdgaemaa
