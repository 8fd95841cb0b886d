/- What the document's own Before and Sort of layer 15 return. Conditions: the findings can be read; at most ten thousand. -/
import Derived.Test.YtdepglceffpfhaaDoorRows
import Derived.Test.YtdepglceffpfhaaDoorBase
import Derived.Test.YtdepglceffpfhaaDoorRow
import Derived.Test.YtdepglceffpfhaaDoorBox
import Derived.Test.YtdepglceffpfhaaDoorFindHeap
import Derived.Test.YtdepglceffpfhaaDoorSortMath
import Derived.WalkKit
import Derived.WalkSpells
import Derived.WalkSmall
import Derived.Below
import Derived.Outline
import Derived.OwnWalk
import Derived.Lib.Hide
import Derived.BigQuiet
import Derived.Deep.QuietTactic
namespace Go.Proofs.YtdepglceffpfhaaDoor
open Go.RowKit

theorem ltF_mk {a b c d e f : Int} : ltF (a, b, c) (d, e, f) ↔ a < d ∨ (a = d ∧ (b < e ∨ (b = e ∧ c < f))) := Iff.rfl

theorem before_any (a b c d e f : Int) (w : World) :
    Calls Tryd.prog 30 #[.agg #[.int .i64 a, .int .i64 b, .int .i64 c], .agg #[.int .i64 d, .int .i64 e, .int .i64 f]] w fun r w' => r = .returned (.bool (decide (ltF (a, b, c) (d, e, f)))) ∧ Below w.heap.size w w' := by
  by_cases h1 : a = d
  · subst h1
    by_cases h2 : b = e
    · subst h2
      rw [show decide (ltF (a, b, c) (a, b, f)) = decide (c < f) from decide_eq_decide.2 (by rw [ltF_mk]; omega)]
      go_enter Tryd.func30, Tryd.ntmps30
      go_wp2
      go_ret
      refine ⟨rfl, ?_⟩
      (repeat (first | assumption | exact Below.refl _ _ | (refine b_st ?_ (by first | (simp; done) | (simp; omega))) | (refine b_al ?_ (Nat.le_refl _) _) | refine b_dn ?_ | refine b_dr ?_ | (refine b_cl ?_ (Nat.le_refl _) (by assumption))))
    · have e2 : (b != e) = true := by simpa using h2
      rw [show decide (ltF (a, b, c) (a, e, f)) = decide (b < e) from decide_eq_decide.2 (by rw [ltF_mk]; omega)]
      clear h2
      go_enter Tryd.func30, Tryd.ntmps30
      go_wp2
      go_ret
      refine ⟨rfl, ?_⟩
      (repeat (first | assumption | exact Below.refl _ _ | (refine b_st ?_ (by first | (simp; done) | (simp; omega))) | (refine b_al ?_ (Nat.le_refl _) _) | refine b_dn ?_ | refine b_dr ?_ | (refine b_cl ?_ (Nat.le_refl _) (by assumption))))
  · have e1 : (a != d) = true := by simpa using h1
    rw [show decide (ltF (a, b, c) (d, e, f)) = decide (a < d) from decide_eq_decide.2 (by rw [ltF_mk]; omega)]
    clear h1
    go_enter Tryd.func30, Tryd.ntmps30
    go_wp2
    go_ret
    refine ⟨rfl, ?_⟩
    (repeat (first | assumption | exact Below.refl _ _ | (refine b_st ?_ (by first | (simp; done) | (simp; omega))) | (refine b_al ?_ (Nat.le_refl _) _) | refine b_dn ?_ | refine b_dr ?_ | (refine b_cl ?_ (Nat.le_refl _) (by assumption))))

def lenV : Value → Nat
  | .slice _ n _ => n
  | _ => 0

theorem last_split {o : List Rc} {m : Nat} (h : o.length = m + 1) : ∃ p z, o = p ++ [z] ∧ o.getD m rz = z := by
  rcases List.eq_nil_or_concat o with e | ⟨p, z, e⟩
  · subst e; cases h
  · rw [List.concat_eq_append] at e
    subst e
    have hp : p.length = m := by simpa using h
    exact ⟨p, z, rfl, by simp [List.getD, ← hp]⟩

theorem three_one (a b c : Int) : (#[.int .i64 a, .int .i64 b, .int .i64 c] : Array Value).all (·.oneCell') = true := by simp [Value.oneCell']

theorem size_find : (Tryd.prog.info? 41).map (·.size) = some 3 := by kernel_rfl

set_option maxRecDepth 100000 in
set_option maxHeartbeats 8000000 in
theorem refsort15_any (A : Option Addr) (c n : Nat) (l : List Rc) (w : World) (hn : l.length = n) (hr : RdF w A l) (hl : n ≤ 10000) :
    Calls Tryd.prog 19 #[.slice A n c] w fun e w' => ∃ v r, e = .returned v ∧ OwnF w.heap.size w' v r ∧ SetF r l ∧ Below w.heap.size w w' := by
  obtain ⟨i0, hi, hz0, hz1, hz2⟩ := info_parts info_find
  have HNL := Lib.hid hn
  have HR := Lib.hid hr
  clear hn hr
  go_enter Tryd.func19, Tryd.ntmps19
  go_wp2
  go_loopw [3] (fun v wr => ∃ (o : List Rc) (m : Nat) (A' : Option Addr) (c' : Nat), v = .slice A' m c' ∧ m ≤ n ∧ Hid (o.length = m) ∧ Hid (OwnF w.heap.size wr (.slice A' m c') o) ∧ Hid (OutF o l) ∧ Below w.heap.size w wr) (fun v _ => n + 1 - lenV v)
  case atStart => exact ⟨[], 0, none, 0, rfl, Nat.zero_le _, Lib.hid rfl, Lib.hid (OwnF.nil _ _), Lib.hid (OutF.nil l), Below.refl _ _⟩
  case round =>
    obtain ⟨o, m, A', c', rfl, hmn, HM, HO, HOF, hb⟩ := hrel
    have hsz := hb.size
    obtain ⟨wo, rfl⟩ : ∃ wo : World, wo = wr := ⟨_, rfl⟩
    have gm : (m : Int) ≤ (n : Int) := by omega
    go_wp2
    go_loopw [5, 6] (fun a5 a6 wi => ∃ (k : Nat) (ff : Bool) (v1 v2 v3 : Int), k ≤ n ∧ a6 = .int .i64 k ∧ a5 = .bool ff ∧ Bx wi wo.heap.size 41 #[.int .i64 v1, .int .i64 v2, .int .i64 v3] ∧ Hid (BestF o l k ff (v1, v2, v3)) ∧ Below wo.heap.size wo wi) (fun _ a6 _ => n - (intOf a6).toNat)
    case atStart => exact ⟨0, false, 0, 0, 0, Nat.zero_le _, rfl, rfl, Bx.new _ _ rfl, Lib.hid (BestF.zero _ _ _), (Below.refl _ _).alloc (Nat.le_refl _) _⟩
    case round =>
      obtain ⟨k, ff, v1, v2, v3, hk, rfl, rfl, hbox, HBE, hbi⟩ := hrel
      obtain ⟨wi, rfl⟩ : ∃ wi : World, wi = wr := ⟨_, rfl⟩
      have hszi := hbi.size
      have vc0 : wi.cell? ⟨wo.heap.size, 0, none⟩ = some (.int .i64 v1) := hbox.cell rfl
      have vc1 : wi.cell? ⟨wo.heap.size, 1, none⟩ = some (.int .i64 v2) := hbox.cell rfl
      have vc2 : wi.cell? ⟨wo.heap.size, 2, none⟩ = some (.int .i64 v3) := hbox.cell rfl
      by_cases hlt : k < n
      · obtain ⟨b1, off, y1, y2, y3, rfl, hbb, hc0, hc1, hc2, HY⟩ := HR.out.at_ (k := k) (by rw [HNL.out]; exact hlt)
        have yc0 := c_cl (c_cl hc0 hb) hbi
        have yc1 := c_cl (c_cl hc1 hb) hbi
        have yc2 := c_cl (c_cl hc2 hb) hbi
        clear hc0 hc1 hc2
        have qy0 : ∀ p : BelowOf wi, p.world.cell? ⟨b1, off + k * 3, none⟩ = some (.int .i64 y1) := fun p => p.cell yc0
        have qy1 : ∀ p : BelowOf wi, p.world.cell? ⟨b1, off + k * 3 + 1, none⟩ = some (.int .i64 y2) := fun p => p.cell yc1
        have qy2 : ∀ p : BelowOf wi, p.world.cell? ⟨b1, off + k * 3 + 2, none⟩ = some (.int .i64 y3) := fun p => p.cell yc2
        have qv0 : ∀ p : BelowOf wi, p.world.cell? ⟨wo.heap.size, 0, none⟩ = some (.int .i64 v1) := fun p => p.cell vc0
        have qv1 : ∀ p : BelowOf wi, p.world.cell? ⟨wo.heap.size, 1, none⟩ = some (.int .i64 v2) := fun p => p.cell vc1
        have qv2 : ∀ p : BelowOf wi, p.world.cell? ⟨wo.heap.size, 2, none⟩ = some (.int .i64 v3) := fun p => p.cell vc2
        clear yc0 yc1 yc2 vc0 vc1 vc2
        by_cases h0 : m = 0
        · have em : ((m : Int) == 0) = true := by simp; omega
          have HO0 := Lib.hid (List.eq_nil_of_length_eq_zero (HM.out.trans h0))
          clear h0
          cases ff with
          | false =>
            go_wp2
            refine wp_region_bel (by kernel_rfl) (by kernel_rfl) ?_
            repeat (go_big_quiet_step (first
              | fail))
            refine wpQuiet_nil ?_
            refine bel_all fun wq hbq => ?_
            have u0 : wq.cell? ⟨b1, off + k * 3, none⟩ = some (.int .i64 y1) := qy0 ⟨wq, hbq⟩
            have u1 : wq.cell? ⟨b1, off + k * 3 + 1, none⟩ = some (.int .i64 y2) := qy1 ⟨wq, hbq⟩
            have u2 : wq.cell? ⟨b1, off + k * 3 + 2, none⟩ = some (.int .i64 y3) := qy2 ⟨wq, hbq⟩
            have HBq := Lib.hid (hbox.below hbq)
            clear qy0 qy1 qy2 qv0 qv1 qv2
            go_wp2_with (refine wpList_store_box rfl 41 _ _ rfl wo.heap.size #[.int .i64 y1, .int .i64 y2, .int .i64 y3] rfl rfl 41 _ HBq.out size_find rfl (three_one _ _ _) ?_; intro W2 hu)
            go_roundw
            case rel => exact ⟨k + 1, true, y1, y2, y3, by omega, by go_num, rfl, hu.box, Lib.hid (by have := HBE.out.take (by rw [HNL.out]; omega) ((by intro x hx; rw [HO0.out] at hx; cases hx)) (by intro h; cases h); rwa [HY.out] at this), (hbi.trans (hbq.mono hszi)).trans (hu.bel _ (Nat.le_refl _))⟩
            case measure => simp [intOf]; omega
          | true =>
            have C2 := fun (p : BelowOf wi) => before_any y1 y2 y3 v1 v2 v3 p.world
            by_cases h2 : ltF (y1, y2, y3) (v1, v2, v3)
            · rw [decide_eq_true h2] at C2
              have H2 := Lib.hid h2
              clear h2
              go_wp2
              refine wp_region_bel (by kernel_rfl) (by kernel_rfl) ?_
              repeat (go_big_quiet_step (first
                | (go_at_call 30; (with_reducible exact Calls.bel_of (C2 _)))))
              refine wpQuiet_nil ?_
              refine bel_all fun wq hbq => ?_
              have u0 : wq.cell? ⟨b1, off + k * 3, none⟩ = some (.int .i64 y1) := qy0 ⟨wq, hbq⟩
              have u1 : wq.cell? ⟨b1, off + k * 3 + 1, none⟩ = some (.int .i64 y2) := qy1 ⟨wq, hbq⟩
              have u2 : wq.cell? ⟨b1, off + k * 3 + 2, none⟩ = some (.int .i64 y3) := qy2 ⟨wq, hbq⟩
              have HBq := Lib.hid (hbox.below hbq)
              clear qy0 qy1 qy2 qv0 qv1 qv2 C2
              go_wp2_with (refine wpList_store_box rfl 41 _ _ rfl wo.heap.size #[.int .i64 y1, .int .i64 y2, .int .i64 y3] rfl rfl 41 _ HBq.out size_find rfl (three_one _ _ _) ?_; intro W2 hu)
              go_roundw
              case rel => exact ⟨k + 1, true, y1, y2, y3, by omega, by go_num, rfl, hu.box, Lib.hid (by have := HBE.out.take (by rw [HNL.out]; omega) ((by intro x hx; rw [HO0.out] at hx; cases hx)) (by intro _; rw [HY.out]; exact H2.out); rwa [HY.out] at this), (hbi.trans (hbq.mono hszi)).trans (hu.bel _ (Nat.le_refl _))⟩
              case measure => simp [intOf]; omega
            · rw [decide_eq_false h2] at C2
              have H2 := Lib.hid h2
              clear h2
              go_wp2
              refine wp_region_bel (by kernel_rfl) (by kernel_rfl) ?_
              repeat (go_big_quiet_step (first
                | (go_at_call 30; (with_reducible exact Calls.bel_of (C2 _)))))
              refine wpQuiet_nil ?_
              refine bel_all fun wq hbq => ?_
              have HBq := Lib.hid (hbox.below hbq)
              clear qy0 qy1 qy2 qv0 qv1 qv2 C2
              go_wp2
              go_roundw
              case rel => exact ⟨k + 1, true, v1, v2, v3, by omega, by go_num, rfl, HBq.out, Lib.hid (HBE.out.pass (by rw [HY.out]; exact H2.out)), hbi.trans (hbq.mono hszi)⟩
              case measure => simp [intOf]; omega
        · obtain ⟨j, hj⟩ : ∃ j : Nat, (m : Int) - 1 = (j : Int) := ⟨m - 1, by omega⟩
          have hj2 : m = j + 1 := by omega
          obtain ⟨po, z, hoz, hgz⟩ := last_split (o := o) (m := j) (by rw [HM.out]; exact hj2)
          have HOZ := Lib.hid hoz
          have HOR : Hid ((po ++ [z]).Pairwise ltF) := Lib.hid (by rw [← hoz]; exact HOF.out.ord)
          obtain ⟨b2, off2, z1, z2, z3, hA2, hbb2, hd0, hd1, hd2, HZ⟩ := HO.out.rd.at_ (k := j) (by rw [HM.out]; omega)
          subst hA2
          have hz : z = (z1, z2, z3) := by rw [← hgz]; exact HZ.out
          subst hz
          have zc0 := c_cl hd0 hbi
          have zc1 := c_cl hd1 hbi
          have zc2 := c_cl hd2 hbi
          have gj : ((j : Nat) : Int) < (m : Int) := by omega
          have em : ((m : Int) == 0) = false := by simp; omega
          clear hd0 hd1 hd2 hoz hgz hj2 h0 HZ
          have qz0 : ∀ p : BelowOf wi, p.world.cell? ⟨b2, off2 + j * 3, none⟩ = some (.int .i64 z1) := fun p => p.cell zc0
          have qz1 : ∀ p : BelowOf wi, p.world.cell? ⟨b2, off2 + j * 3 + 1, none⟩ = some (.int .i64 z2) := fun p => p.cell zc1
          have qz2 : ∀ p : BelowOf wi, p.world.cell? ⟨b2, off2 + j * 3 + 2, none⟩ = some (.int .i64 z3) := fun p => p.cell zc2
          clear zc0 zc1 zc2
          have C1 := fun (p : BelowOf wi) => before_any z1 z2 z3 y1 y2 y3 p.world
          by_cases h1 : ltF (z1, z2, z3) (y1, y2, y3)
          · rw [decide_eq_true h1] at C1
            have HC := Lib.hid h1
            clear h1
            cases ff with
            | false =>
              go_wp2
              refine wp_region_bel (by kernel_rfl) (by kernel_rfl) ?_
              repeat (go_big_quiet_step (first
                | (go_at_call 30; (with_reducible exact Calls.bel_of (C1 _)))))
              refine wpQuiet_nil ?_
              refine bel_all fun wq hbq => ?_
              have u0 : wq.cell? ⟨b1, off + k * 3, none⟩ = some (.int .i64 y1) := qy0 ⟨wq, hbq⟩
              have u1 : wq.cell? ⟨b1, off + k * 3 + 1, none⟩ = some (.int .i64 y2) := qy1 ⟨wq, hbq⟩
              have u2 : wq.cell? ⟨b1, off + k * 3 + 2, none⟩ = some (.int .i64 y3) := qy2 ⟨wq, hbq⟩
              have HBq := Lib.hid (hbox.below hbq)
              clear qy0 qy1 qy2 qv0 qv1 qv2 qz0 qz1 qz2 C1
              go_wp2_with (refine wpList_store_box rfl 41 _ _ rfl wo.heap.size #[.int .i64 y1, .int .i64 y2, .int .i64 y3] rfl rfl 41 _ HBq.out size_find rfl (three_one _ _ _) ?_; intro W2 hu)
              go_roundw
              case rel => exact ⟨k + 1, true, y1, y2, y3, by omega, by go_num, rfl, hu.box, Lib.hid (by have := HBE.out.take (by rw [HNL.out]; omega) ((by rw [HY.out, HOZ.out]; exact (behind_last (HOR.out)).2 HC.out)) (by intro h; cases h); rwa [HY.out] at this), (hbi.trans (hbq.mono hszi)).trans (hu.bel _ (Nat.le_refl _))⟩
              case measure => simp [intOf]; omega
            | true =>
              have C2 := fun (p : BelowOf wi) => before_any y1 y2 y3 v1 v2 v3 p.world
              by_cases h2 : ltF (y1, y2, y3) (v1, v2, v3)
              · rw [decide_eq_true h2] at C2
                have H2 := Lib.hid h2
                clear h2
                go_wp2
                refine wp_region_bel (by kernel_rfl) (by kernel_rfl) ?_
                repeat (go_big_quiet_step (first
                  | (go_at_call 30; (with_reducible exact Calls.bel_of (C1 _)))
                  | (go_at_call 30; (with_reducible exact Calls.bel_of (C2 _)))))
                refine wpQuiet_nil ?_
                refine bel_all fun wq hbq => ?_
                have u0 : wq.cell? ⟨b1, off + k * 3, none⟩ = some (.int .i64 y1) := qy0 ⟨wq, hbq⟩
                have u1 : wq.cell? ⟨b1, off + k * 3 + 1, none⟩ = some (.int .i64 y2) := qy1 ⟨wq, hbq⟩
                have u2 : wq.cell? ⟨b1, off + k * 3 + 2, none⟩ = some (.int .i64 y3) := qy2 ⟨wq, hbq⟩
                have HBq := Lib.hid (hbox.below hbq)
                clear qy0 qy1 qy2 qv0 qv1 qv2 qz0 qz1 qz2 C1 C2
                go_wp2_with (refine wpList_store_box rfl 41 _ _ rfl wo.heap.size #[.int .i64 y1, .int .i64 y2, .int .i64 y3] rfl rfl 41 _ HBq.out size_find rfl (three_one _ _ _) ?_; intro W2 hu)
                go_roundw
                case rel => exact ⟨k + 1, true, y1, y2, y3, by omega, by go_num, rfl, hu.box, Lib.hid (by have := HBE.out.take (by rw [HNL.out]; omega) ((by rw [HY.out, HOZ.out]; exact (behind_last (HOR.out)).2 HC.out)) (by intro _; rw [HY.out]; exact H2.out); rwa [HY.out] at this), (hbi.trans (hbq.mono hszi)).trans (hu.bel _ (Nat.le_refl _))⟩
                case measure => simp [intOf]; omega
              · rw [decide_eq_false h2] at C2
                have H2 := Lib.hid h2
                clear h2
                go_wp2
                refine wp_region_bel (by kernel_rfl) (by kernel_rfl) ?_
                repeat (go_big_quiet_step (first
                  | (go_at_call 30; (with_reducible exact Calls.bel_of (C1 _)))
                  | (go_at_call 30; (with_reducible exact Calls.bel_of (C2 _)))))
                refine wpQuiet_nil ?_
                refine bel_all fun wq hbq => ?_
                have HBq := Lib.hid (hbox.below hbq)
                clear qy0 qy1 qy2 qv0 qv1 qv2 qz0 qz1 qz2 C1 C2
                go_wp2
                go_roundw
                case rel => exact ⟨k + 1, true, v1, v2, v3, by omega, by go_num, rfl, HBq.out, Lib.hid (HBE.out.pass (by rw [HY.out]; exact H2.out)), hbi.trans (hbq.mono hszi)⟩
                case measure => simp [intOf]; omega
          · rw [decide_eq_false h1] at C1
            have HC := Lib.hid h1
            clear h1
            go_wp2
            refine wp_region_bel (by kernel_rfl) (by kernel_rfl) ?_
            repeat (go_big_quiet_step (first
              | (go_at_call 30; (with_reducible exact Calls.bel_of (C1 _)))))
            refine wpQuiet_nil ?_
            refine bel_all fun wq hbq => ?_
            have HBq := Lib.hid (hbox.below hbq)
            clear qy0 qy1 qy2 qv0 qv1 qv2 qz0 qz1 qz2 C1
            go_wp2
            go_roundw
            case rel => exact ⟨k + 1, ff, v1, v2, v3, by omega, by go_num, rfl, HBq.out, Lib.hid (HBE.out.skip (by rw [HY.out, HOZ.out]; exact fun q => HC.out ((behind_last HOR.out).1 q))), hbi.trans (hbq.mono hszi)⟩
            case measure => simp [intOf]; omega
      · obtain rfl : k = n := by omega
        have HBE2 : Hid (BestF o l l.length ff (v1, v2, v3)) := Lib.hid (by rw [HNL.out]; exact HBE.out)
        have HO2 := Lib.hid (HO.out.below hbi)
        clear HBE
        cases ff with
        | false =>
          have HSET := Lib.hid (HBE2.out.none HOF.out)
          go_wp2
          go_ret
          exact ⟨_, o, rfl, HO2.out, HSET.out, hb.trans (hbi.mono hsz)⟩
        | true =>
          have HOF2 := Lib.hid (HBE2.out.some HOF.out)
          have hlen := HOF2.out.len
          rw [List.length_append, HM.out, HNL.out] at hlen
          have hlen2 : m + 1 ≤ k := hlen
          have HL5 := Lib.hid (show (o ++ [(v1, v2, v3)]).length = m + 1 by rw [List.length_append, HM.out]; rfl)
          have hnb : o.length ≤ 10000 := by have := HM.out; omega
          have HBW := Lib.hid (hb.trans (hbi.mono hsz))
          have hzw : w.heap.size ≤ wi.heap.size := by omega
          clear hlen HBE2 hb hbi
          go_wp2_with (at_builtin; refine wpList_append_own _ rfl _ _ 35 rfl w.heap.size 41 i0 (.agg #[.int .i64 0, .int .i64 0, .int .i64 0]) 3 24 Tryd.underlying35 hi hz0 hz1 hz2 rfl (by decide) _ _ _ rfl (OwnF.alloc HO2.out _) ⟨wi.heap.size, 0, none⟩ 1 1 [.int .i64 v1, .int .i64 v2, .int .i64 v3] rfl rfl (find_news rfl) find_cells (by unfold maxLen; omega) (by omega) (by simp; omega) ?_; intro v5 w5 hown5 hgrow5 _; have HS := Lib.hid (OwnF.snoc hown5); have HB5 := Lib.hid ((HBW.out.alloc HBW.out.size (.cells #[.int .i64 v1, .int .i64 v2, .int .i64 v3] 41)).grown hgrow5 (by simp; omega) (fun q hq => (World.ownsRow.lt HO2.out q hq).1)); clear hown5 hgrow5)
          obtain ⟨A5, c5, rfl, _, _⟩ := HS.out.read
          go_wp2
          go_roundw
          case rel => exact ⟨o ++ [(v1, v2, v3)], m + 1, A5, c5, by rw [HL5.out], hlen2, HL5, Lib.hid (by have := HS.out; rw [HL5.out] at this; exact this), HOF2, HB5.out⟩
          case measure => simp [lenV, HL5.out]; omega

end Go.Proofs.YtdepglceffpfhaaDoor
