/- What the document's Tighter returns, for any two books. Conditions: none. -/
import Derived.Test.YtlbafgdbemhanaaRows
import Derived.Test.YtlbafgdbemhanaaBase
import Derived.Test.YtlbafgdbemhanaaZ2
import Derived.Test.YtlbafgdbemhanaaBookLeaf
import Derived.Test.YtlbafgdbemhanaaBookNum
import Derived.Test.YtlbafgdbemhanaaBookOrd
import Derived.Test.YtlbafgdbemhanaaBookLim
import Derived.Test.YtlbafgdbemhanaaZ3
import Derived.WalkKit
import Derived.WalkSpells
import Derived.WalkSmall
import Derived.Below
import Derived.Lib.Hide
import Derived.Outline
import Derived.Great.BuildSlice
import Derived.BigQuiet
import Derived.Deep.QuietTactic
import Derived.Deep.RegionHeld3
namespace Go.Proofs.Ytlbafgdbemhanaa
open Go.RowKit

set_option maxRecDepth 20000 in
set_option maxHeartbeats 4000000 in
open Classical in
theorem reftighter7_any (x y : Nat → Int) (w : World) :
    Calls Try.prog 19 #[.agg (bk x), .agg (bk y)] w fun e w' => e = .returned (.bool (if Tig x y then true else false)) ∧ Below w.heap.size w w' := by
  obtain ⟨v, hv⟩ : ∃ v, (if Tig x y then true else false) = v := ⟨_, rfl⟩
  rw [hv]
  have HV := Lib.hid hv
  clear hv
  have r1 : RdI ((w.alloc (.cells (bk x) 23)).alloc (.cells (bk y) 23)) w.heap.size 0 x := (RdI.new x _ rfl).alloc _
  have r2 : RdI ((w.alloc (.cells (bk x) 23)).alloc (.cells (bk y) 23)) (w.heap.size + 1) 0 y := RdI.new y _ (by simp)
  have hB0 : Below w.heap.size w ((w.alloc (.cells (bk x) 23)).alloc (.cells (bk y) 23)) := b_al (b_al (Below.refl _ _) (Nat.le_refl _) _) (Nat.le_refl _) _
  go_enter Try.func19, Try.ntmps19
  go_wp2_with fail
  refine wp_region_noPanic ?_
  refine wp_region_held_drew (S := fun w' => RdI w' w.heap.size 0 x ∧ RdI w' (w.heap.size + 1) 0 y) (by kernel_rfl) ?_ (fun hHeld => ?_)
  · exact ⟨r1.below (b_dr (Below.refl _ _)), r2.below (b_dr (Below.refl _ _))⟩
  refine wpAnyH_take (i := 0) (oi := ⟨some 9, _, _, _, _, _⟩) (v := .agg (bk x)) rfl (by kernel_rfl) (by kernel_rfl) (by kernel_rfl) (fun _ _ _ h => h) (yieldsIf_exec (by rfl) (fun w' hSw => exec_load w.heap.size 0 x _ w' rfl rfl (hSw.1) Try.underlying23 rfl (by kernel_rfl))) (by assumption) ?_
  (try simp only [Act.put, List.setIfInBounds_toArray, List.set_cons_zero, List.set_cons_succ])
  refine wpAnyH_take (i := 2) (oi := ⟨some 11, _, _, _, _, _⟩) (v := .agg (bk y)) rfl (by kernel_rfl) (by kernel_rfl) (by kernel_rfl) (fun _ _ _ h => h) (yieldsIf_exec (by rfl) (fun w' hSw => exec_load (w.heap.size + 1) 0 y _ w' rfl rfl (hSw.2) Try.underlying23 rfl (by kernel_rfl))) (by assumption) ?_
  (try simp only [Act.put, List.setIfInBounds_toArray, List.set_cons_zero, List.set_cons_succ])
  refine wpAnyH_ready (rs := [1]) (by kernel_rfl) (by simp) ?_
  refine AllReadyH.cons (o := ⟨some 10, _, _, _, _, _⟩) rfl (fun K hK => ?_) AllReadyH.nil
  go_simp
  (go_at_call 37; (with_reducible refine (refnum_any x _).mono ?_); rintro e w3 ⟨g3, rfl, hg3, q3, hb3⟩)
  go_wp2_with fail
  refine hK.out _ _ (⟨hHeld.1.below hb3, hHeld.2.below hb3⟩) (fun hHeld => ?_)
  clear hK K
  (try simp only [Act.put, List.setIfInBounds_toArray, List.set_cons_zero, List.set_cons_succ])
  refine wpAnyH_ready (rs := [3]) (by kernel_rfl) (by simp) ?_
  refine AllReadyH.cons (o := ⟨some 12, _, _, _, _, _⟩) rfl (fun K hK => ?_) AllReadyH.nil
  go_simp
  (go_at_call 37; (with_reducible refine (refnum_any y _).mono ?_); rintro e w4 ⟨g4, rfl, hg4, q4, hb4⟩)
  go_wp2_with fail
  refine hK.out _ _ (⟨hHeld.1.below hb4, hHeld.2.below hb4⟩) (fun hHeld => ?_)
  clear hK K
  (try simp only [Act.put, List.setIfInBounds_toArray, List.set_cons_zero, List.set_cons_succ])
  refine wpAnyH_take (i := 4) (oi := ⟨some 5, _, _, _, _, _⟩) (v := ?_) rfl (by kernel_rfl) (by kernel_rfl) (by kernel_rfl) (fun _ _ _ h => h) (yieldsIf_exec (by rfl) ?_) (by assumption) ?_
  rotate_left
  · (intro w' hSw; clear hSw; go_simp; try (with_reducible rfl))
  (try simp only [Act.put, List.setIfInBounds_toArray, List.set_cons_zero, List.set_cons_succ])
  refine wpAnyH_take (i := 5) (oi := ⟨some 6, _, _, _, _, _⟩) (v := ?_) rfl (by kernel_rfl) (by kernel_rfl) (by kernel_rfl) (fun _ _ _ h => h) (yieldsIf_exec (by rfl) ?_) (by assumption) ?_
  rotate_left
  · (intro w' hSw; clear hSw; go_simp; try (with_reducible rfl))
  (try simp only [Act.put, List.setIfInBounds_toArray, List.set_cons_zero, List.set_cons_succ])
  refine wpAnyH_done (by kernel_rfl) ?_ _
  refine NoPanic.normal ?_
  have hB4 : Below w.heap.size w w4 := b_cl (b_cl (b_dr hB0) (Nat.le_refl _) hb3) (Nat.le_refl _) hb4
  have r3 := q3.below hb4
  clear hb3 hb4 r1 r2 hB0 hHeld q3 hg3 hg4
  go_wp2
  go_loopw [7] (fun i wr => ∃ k : Nat, k ≤ 19 ∧ i = .int .i64 k ∧ Below w4.heap.size w4 wr ∧ Hid ((∀ j, j < k → sm j = true → x j = y j) ∧ ∀ j, j < k → x j ≤ y j)) (fun i _ => 19 - (intOf i).toNat)
  case atStart => exact ⟨0, Nat.zero_le _, rfl, Below.refl _ _, Lib.hid ⟨fun j hj => by omega, fun j hj => by omega⟩⟩
  case round =>
    obtain ⟨k, hk, rfl, hbw0, H⟩ := hrel
    have hbw : Below w.heap.size w wr := hB4.trans (hbw0.mono hB4.size)
    have hsz := hbw.size
    by_cases hlt : k < 19
    case neg =>
      have hk19 : k = 19 := by omega
      subst hk19
      go_wp2
      go_ret
      refine ⟨?_, hbw⟩
      rw [← HV.out, if_pos ⟨H.out.1, H.out.2⟩]; rfl
    have hc := (r3.below hbw0).2 k hlt
    have hd := (q4.below hbw0).2 k hlt
    rw [Nat.zero_add] at hc hd
    obtain ⟨n, hn⟩ : ∃ n, x k = n := ⟨_, rfl⟩
    obtain ⟨m, hm⟩ : ∃ m, y k = m := ⟨_, rfl⟩
    rw [hn] at hc
    rw [hm] at hd
    have hn := Lib.hid hn
    have hm := Lib.hid hm
    have q1 : ∀ p : BelowOf wr, p.world.cell? ⟨g3, k, none⟩ = some (.int .i64 n) := fun p => p.cell hc
    have q2 : ∀ p : BelowOf wr, p.world.cell? ⟨g4, k, none⟩ = some (.int .i64 m) := fun p => p.cell hd
    by_cases k0 : k = 1
    case pos =>
      have e0 : ((k : Int) == 1) = true := by simp; omega
      have hsm := Lib.hid (show sm k = true by rw [k0]; rfl)
      clear k0
      by_cases hnm : n = m
      case pos =>
        subst hnm
        go_wp2
        refine wp_region_bel (by kernel_rfl) (by kernel_rfl) ?_
        repeat (go_big_quiet_step (fail))
        refine wpQuiet_nil ?_
        rintro _ ⟨⟨wq, hbq⟩, rfl⟩
        clear q1 q2
        go_wp2
        go_roundw
        case rel => exact ⟨k + 1, by omega, by go_num, hbw0.trans (hbq.mono hbw0.size), Lib.hid ⟨fun j hj => by
            by_cases e : j = k
            · subst e; intro _; rw [hn.out, hm.out]
            · exact H.out.1 j (by omega), fun j hj => by
            by_cases e : j = k
            · subst e; rw [hn.out, hm.out]; exact Int.le_refl _
            · exact H.out.2 j (by omega)⟩⟩
        case measure => simp [intOf]; omega

      have en : (n == m) = false := by simpa using hnm
      have en2 : (n != m) = true := bne_iff_ne.2 hnm
      have LN := Lib.hid hnm
      clear hnm
      go_wp2
      refine wp_region_bel (by kernel_rfl) (by kernel_rfl) ?_
      repeat (go_big_quiet_step (fail))
      refine wpQuiet_nil ?_
      rintro _ ⟨⟨wq, hbq⟩, rfl⟩
      clear q1 q2
      go_wp2
      go_ret
      refine ⟨?_, hbw.trans (hbq.mono hsz)⟩
      rw [← HV.out, if_neg (fun h => LN.out (by have := h.1 k hlt hsm.out; rwa [hn.out, hm.out] at this))]; rfl

    have e0 : ((k : Int) == 1) = false := by simp; omega
    by_cases k1 : k = 2
    case pos =>
      have e1 : ((k : Int) == 2) = true := by simp; omega
      have hsm := Lib.hid (show sm k = true by rw [k1]; rfl)
      clear k1
      by_cases hnm : n = m
      case pos =>
        subst hnm
        go_wp2
        refine wp_region_bel (by kernel_rfl) (by kernel_rfl) ?_
        repeat (go_big_quiet_step (fail))
        refine wpQuiet_nil ?_
        rintro _ ⟨⟨wq, hbq⟩, rfl⟩
        clear q1 q2
        go_wp2
        go_roundw
        case rel => exact ⟨k + 1, by omega, by go_num, hbw0.trans (hbq.mono hbw0.size), Lib.hid ⟨fun j hj => by
            by_cases e : j = k
            · subst e; intro _; rw [hn.out, hm.out]
            · exact H.out.1 j (by omega), fun j hj => by
            by_cases e : j = k
            · subst e; rw [hn.out, hm.out]; exact Int.le_refl _
            · exact H.out.2 j (by omega)⟩⟩
        case measure => simp [intOf]; omega

      have en : (n == m) = false := by simpa using hnm
      have en2 : (n != m) = true := bne_iff_ne.2 hnm
      have LN := Lib.hid hnm
      clear hnm
      go_wp2
      refine wp_region_bel (by kernel_rfl) (by kernel_rfl) ?_
      repeat (go_big_quiet_step (fail))
      refine wpQuiet_nil ?_
      rintro _ ⟨⟨wq, hbq⟩, rfl⟩
      clear q1 q2
      go_wp2
      go_ret
      refine ⟨?_, hbw.trans (hbq.mono hsz)⟩
      rw [← HV.out, if_neg (fun h => LN.out (by have := h.1 k hlt hsm.out; rwa [hn.out, hm.out] at this))]; rfl

    have e1 : ((k : Int) == 2) = false := by simp; omega
    by_cases k2 : k = 3
    case pos =>
      have e2 : ((k : Int) == 3) = true := by simp; omega
      have hsm := Lib.hid (show sm k = true by rw [k2]; rfl)
      clear k2
      by_cases hnm : n = m
      case pos =>
        subst hnm
        go_wp2
        refine wp_region_bel (by kernel_rfl) (by kernel_rfl) ?_
        repeat (go_big_quiet_step (fail))
        refine wpQuiet_nil ?_
        rintro _ ⟨⟨wq, hbq⟩, rfl⟩
        clear q1 q2
        go_wp2
        go_roundw
        case rel => exact ⟨k + 1, by omega, by go_num, hbw0.trans (hbq.mono hbw0.size), Lib.hid ⟨fun j hj => by
            by_cases e : j = k
            · subst e; intro _; rw [hn.out, hm.out]
            · exact H.out.1 j (by omega), fun j hj => by
            by_cases e : j = k
            · subst e; rw [hn.out, hm.out]; exact Int.le_refl _
            · exact H.out.2 j (by omega)⟩⟩
        case measure => simp [intOf]; omega

      have en : (n == m) = false := by simpa using hnm
      have en2 : (n != m) = true := bne_iff_ne.2 hnm
      have LN := Lib.hid hnm
      clear hnm
      go_wp2
      refine wp_region_bel (by kernel_rfl) (by kernel_rfl) ?_
      repeat (go_big_quiet_step (fail))
      refine wpQuiet_nil ?_
      rintro _ ⟨⟨wq, hbq⟩, rfl⟩
      clear q1 q2
      go_wp2
      go_ret
      refine ⟨?_, hbw.trans (hbq.mono hsz)⟩
      rw [← HV.out, if_neg (fun h => LN.out (by have := h.1 k hlt hsm.out; rwa [hn.out, hm.out] at this))]; rfl

    have e2 : ((k : Int) == 3) = false := by simp; omega
    by_cases k3 : k = 7
    case pos =>
      have e3 : ((k : Int) == 7) = true := by simp; omega
      have hsm := Lib.hid (show sm k = true by rw [k3]; rfl)
      clear k3
      by_cases hnm : n = m
      case pos =>
        subst hnm
        go_wp2
        refine wp_region_bel (by kernel_rfl) (by kernel_rfl) ?_
        repeat (go_big_quiet_step (fail))
        refine wpQuiet_nil ?_
        rintro _ ⟨⟨wq, hbq⟩, rfl⟩
        clear q1 q2
        go_wp2
        go_roundw
        case rel => exact ⟨k + 1, by omega, by go_num, hbw0.trans (hbq.mono hbw0.size), Lib.hid ⟨fun j hj => by
            by_cases e : j = k
            · subst e; intro _; rw [hn.out, hm.out]
            · exact H.out.1 j (by omega), fun j hj => by
            by_cases e : j = k
            · subst e; rw [hn.out, hm.out]; exact Int.le_refl _
            · exact H.out.2 j (by omega)⟩⟩
        case measure => simp [intOf]; omega

      have en : (n == m) = false := by simpa using hnm
      have en2 : (n != m) = true := bne_iff_ne.2 hnm
      have LN := Lib.hid hnm
      clear hnm
      go_wp2
      refine wp_region_bel (by kernel_rfl) (by kernel_rfl) ?_
      repeat (go_big_quiet_step (fail))
      refine wpQuiet_nil ?_
      rintro _ ⟨⟨wq, hbq⟩, rfl⟩
      clear q1 q2
      go_wp2
      go_ret
      refine ⟨?_, hbw.trans (hbq.mono hsz)⟩
      rw [← HV.out, if_neg (fun h => LN.out (by have := h.1 k hlt hsm.out; rwa [hn.out, hm.out] at this))]; rfl

    have e3 : ((k : Int) == 7) = false := by simp; omega
    by_cases k4 : k = 8
    case pos =>
      have e4 : ((k : Int) == 8) = true := by simp; omega
      have hsm := Lib.hid (show sm k = true by rw [k4]; rfl)
      clear k4
      by_cases hnm : n = m
      case pos =>
        subst hnm
        go_wp2
        refine wp_region_bel (by kernel_rfl) (by kernel_rfl) ?_
        repeat (go_big_quiet_step (fail))
        refine wpQuiet_nil ?_
        rintro _ ⟨⟨wq, hbq⟩, rfl⟩
        clear q1 q2
        go_wp2
        go_roundw
        case rel => exact ⟨k + 1, by omega, by go_num, hbw0.trans (hbq.mono hbw0.size), Lib.hid ⟨fun j hj => by
            by_cases e : j = k
            · subst e; intro _; rw [hn.out, hm.out]
            · exact H.out.1 j (by omega), fun j hj => by
            by_cases e : j = k
            · subst e; rw [hn.out, hm.out]; exact Int.le_refl _
            · exact H.out.2 j (by omega)⟩⟩
        case measure => simp [intOf]; omega

      have en : (n == m) = false := by simpa using hnm
      have en2 : (n != m) = true := bne_iff_ne.2 hnm
      have LN := Lib.hid hnm
      clear hnm
      go_wp2
      refine wp_region_bel (by kernel_rfl) (by kernel_rfl) ?_
      repeat (go_big_quiet_step (fail))
      refine wpQuiet_nil ?_
      rintro _ ⟨⟨wq, hbq⟩, rfl⟩
      clear q1 q2
      go_wp2
      go_ret
      refine ⟨?_, hbw.trans (hbq.mono hsz)⟩
      rw [← HV.out, if_neg (fun h => LN.out (by have := h.1 k hlt hsm.out; rwa [hn.out, hm.out] at this))]; rfl

    have e4 : ((k : Int) == 8) = false := by simp; omega
    by_cases k5 : k = 10
    case pos =>
      have e5 : ((k : Int) == 10) = true := by simp; omega
      have hsm := Lib.hid (show sm k = true by rw [k5]; rfl)
      clear k5
      by_cases hnm : n = m
      case pos =>
        subst hnm
        go_wp2
        refine wp_region_bel (by kernel_rfl) (by kernel_rfl) ?_
        repeat (go_big_quiet_step (fail))
        refine wpQuiet_nil ?_
        rintro _ ⟨⟨wq, hbq⟩, rfl⟩
        clear q1 q2
        go_wp2
        go_roundw
        case rel => exact ⟨k + 1, by omega, by go_num, hbw0.trans (hbq.mono hbw0.size), Lib.hid ⟨fun j hj => by
            by_cases e : j = k
            · subst e; intro _; rw [hn.out, hm.out]
            · exact H.out.1 j (by omega), fun j hj => by
            by_cases e : j = k
            · subst e; rw [hn.out, hm.out]; exact Int.le_refl _
            · exact H.out.2 j (by omega)⟩⟩
        case measure => simp [intOf]; omega

      have en : (n == m) = false := by simpa using hnm
      have en2 : (n != m) = true := bne_iff_ne.2 hnm
      have LN := Lib.hid hnm
      clear hnm
      go_wp2
      refine wp_region_bel (by kernel_rfl) (by kernel_rfl) ?_
      repeat (go_big_quiet_step (fail))
      refine wpQuiet_nil ?_
      rintro _ ⟨⟨wq, hbq⟩, rfl⟩
      clear q1 q2
      go_wp2
      go_ret
      refine ⟨?_, hbw.trans (hbq.mono hsz)⟩
      rw [← HV.out, if_neg (fun h => LN.out (by have := h.1 k hlt hsm.out; rwa [hn.out, hm.out] at this))]; rfl

    have e5 : ((k : Int) == 10) = false := by simp; omega
    by_cases k6 : k = 12
    case pos =>
      have e6 : ((k : Int) == 12) = true := by simp; omega
      have hsm := Lib.hid (show sm k = true by rw [k6]; rfl)
      clear k6
      by_cases hnm : n = m
      case pos =>
        subst hnm
        go_wp2
        refine wp_region_bel (by kernel_rfl) (by kernel_rfl) ?_
        repeat (go_big_quiet_step (fail))
        refine wpQuiet_nil ?_
        rintro _ ⟨⟨wq, hbq⟩, rfl⟩
        clear q1 q2
        go_wp2
        go_roundw
        case rel => exact ⟨k + 1, by omega, by go_num, hbw0.trans (hbq.mono hbw0.size), Lib.hid ⟨fun j hj => by
            by_cases e : j = k
            · subst e; intro _; rw [hn.out, hm.out]
            · exact H.out.1 j (by omega), fun j hj => by
            by_cases e : j = k
            · subst e; rw [hn.out, hm.out]; exact Int.le_refl _
            · exact H.out.2 j (by omega)⟩⟩
        case measure => simp [intOf]; omega

      have en : (n == m) = false := by simpa using hnm
      have en2 : (n != m) = true := bne_iff_ne.2 hnm
      have LN := Lib.hid hnm
      clear hnm
      go_wp2
      refine wp_region_bel (by kernel_rfl) (by kernel_rfl) ?_
      repeat (go_big_quiet_step (fail))
      refine wpQuiet_nil ?_
      rintro _ ⟨⟨wq, hbq⟩, rfl⟩
      clear q1 q2
      go_wp2
      go_ret
      refine ⟨?_, hbw.trans (hbq.mono hsz)⟩
      rw [← HV.out, if_neg (fun h => LN.out (by have := h.1 k hlt hsm.out; rwa [hn.out, hm.out] at this))]; rfl

    have e6 : ((k : Int) == 12) = false := by simp; omega
    by_cases k7 : k = 13
    case pos =>
      have e7 : ((k : Int) == 13) = true := by simp; omega
      have hsm := Lib.hid (show sm k = true by rw [k7]; rfl)
      clear k7
      by_cases hnm : n = m
      case pos =>
        subst hnm
        go_wp2
        refine wp_region_bel (by kernel_rfl) (by kernel_rfl) ?_
        repeat (go_big_quiet_step (fail))
        refine wpQuiet_nil ?_
        rintro _ ⟨⟨wq, hbq⟩, rfl⟩
        clear q1 q2
        go_wp2
        go_roundw
        case rel => exact ⟨k + 1, by omega, by go_num, hbw0.trans (hbq.mono hbw0.size), Lib.hid ⟨fun j hj => by
            by_cases e : j = k
            · subst e; intro _; rw [hn.out, hm.out]
            · exact H.out.1 j (by omega), fun j hj => by
            by_cases e : j = k
            · subst e; rw [hn.out, hm.out]; exact Int.le_refl _
            · exact H.out.2 j (by omega)⟩⟩
        case measure => simp [intOf]; omega

      have en : (n == m) = false := by simpa using hnm
      have en2 : (n != m) = true := bne_iff_ne.2 hnm
      have LN := Lib.hid hnm
      clear hnm
      go_wp2
      refine wp_region_bel (by kernel_rfl) (by kernel_rfl) ?_
      repeat (go_big_quiet_step (fail))
      refine wpQuiet_nil ?_
      rintro _ ⟨⟨wq, hbq⟩, rfl⟩
      clear q1 q2
      go_wp2
      go_ret
      refine ⟨?_, hbw.trans (hbq.mono hsz)⟩
      rw [← HV.out, if_neg (fun h => LN.out (by have := h.1 k hlt hsm.out; rwa [hn.out, hm.out] at this))]; rfl

    have e7 : ((k : Int) == 13) = false := by simp; omega
    by_cases k8 : k = 18
    case pos =>
      have e8 : ((k : Int) == 18) = true := by simp; omega
      have hsm := Lib.hid (show sm k = true by rw [k8]; rfl)
      clear k8
      by_cases hnm : n = m
      case pos =>
        subst hnm
        go_wp2
        refine wp_region_bel (by kernel_rfl) (by kernel_rfl) ?_
        repeat (go_big_quiet_step (fail))
        refine wpQuiet_nil ?_
        rintro _ ⟨⟨wq, hbq⟩, rfl⟩
        clear q1 q2
        go_wp2
        go_roundw
        case rel => exact ⟨k + 1, by omega, by go_num, hbw0.trans (hbq.mono hbw0.size), Lib.hid ⟨fun j hj => by
            by_cases e : j = k
            · subst e; intro _; rw [hn.out, hm.out]
            · exact H.out.1 j (by omega), fun j hj => by
            by_cases e : j = k
            · subst e; rw [hn.out, hm.out]; exact Int.le_refl _
            · exact H.out.2 j (by omega)⟩⟩
        case measure => simp [intOf]; omega

      have en : (n == m) = false := by simpa using hnm
      have en2 : (n != m) = true := bne_iff_ne.2 hnm
      have LN := Lib.hid hnm
      clear hnm
      go_wp2
      refine wp_region_bel (by kernel_rfl) (by kernel_rfl) ?_
      repeat (go_big_quiet_step (fail))
      refine wpQuiet_nil ?_
      rintro _ ⟨⟨wq, hbq⟩, rfl⟩
      clear q1 q2
      go_wp2
      go_ret
      refine ⟨?_, hbw.trans (hbq.mono hsz)⟩
      rw [← HV.out, if_neg (fun h => LN.out (by have := h.1 k hlt hsm.out; rwa [hn.out, hm.out] at this))]; rfl

    have e8 : ((k : Int) == 18) = false := by simp; omega
    have hsm := Lib.hid (show sm k = false by simp [sm]; omega)
    clear k0 k1 k2 k3 k4 k5 k6 k7 k8
    by_cases hle : n ≤ m
    case pos =>
      have dl : decide (m < n) = false := decide_eq_false (by omega)
      have LY := Lib.hid hle
      clear hle
      go_wp2
      refine wp_region_bel (by kernel_rfl) (by kernel_rfl) ?_
      repeat (go_big_quiet_step (fail))
      refine wpQuiet_nil ?_
      rintro _ ⟨⟨wq, hbq⟩, rfl⟩
      clear q1 q2
      go_wp2
      go_roundw
      case rel => exact ⟨k + 1, by omega, by go_num, hbw0.trans (hbq.mono hbw0.size), Lib.hid ⟨fun j hj => by
          by_cases e : j = k
          · subst e; intro hs; exact absurd hs (by rw [hsm.out]; decide)
          · exact H.out.1 j (by omega), fun j hj => by
          by_cases e : j = k
          · subst e; rw [hn.out, hm.out]; exact LY.out
          · exact H.out.2 j (by omega)⟩⟩
      case measure => simp [intOf]; omega

    have dl : decide (m < n) = true := decide_eq_true (by omega)
    have LN := Lib.hid hle
    clear hle
    go_wp2
    refine wp_region_bel (by kernel_rfl) (by kernel_rfl) ?_
    repeat (go_big_quiet_step (fail))
    refine wpQuiet_nil ?_
    rintro _ ⟨⟨wq, hbq⟩, rfl⟩
    clear q1 q2
    go_wp2
    go_ret
    refine ⟨?_, hbw.trans (hbq.mono hsz)⟩
    rw [← HV.out, if_neg (fun h => by have h2 := h.2 k hlt; rw [hn.out, hm.out] at h2; have h3 := LN.out; omega)]; rfl

end Go.Proofs.Ytlbafgdbemhanaa
