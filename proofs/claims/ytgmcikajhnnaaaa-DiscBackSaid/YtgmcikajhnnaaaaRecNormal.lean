/- What Normal of layer 8 returns: the normal timeline of the same minutes, or Check's error. Conditions: the records can be read; at most a million. -/
import Derived.Test.YtgmcikajhnnaaaaRows
import Derived.Test.YtgmcikajhnnaaaaBase
import Derived.Test.YtgmcikajhnnaaaaRow
import Derived.Test.YtgmcikajhnnaaaaRecMath
import Derived.Test.YtgmcikajhnnaaaaRecHeap
import Derived.Test.YtgmcikajhnnaaaaRecCheck
import Derived.WalkKit
import Derived.WalkSpells
import Derived.WalkSmall
import Derived.Below
import Derived.Outline
import Derived.OwnWalk
import Derived.Lib.Hide
import Derived.BigQuiet
import Derived.Deep.QuietTactic
namespace Go.Proofs.Ytgmcikajhnnaaaa
open Go.RowKit

set_option maxRecDepth 100000 in
set_option maxHeartbeats 4000000 in
theorem normal_any (A : Option Addr) (c : Nat) (l : List Rc) (w : World) (h : RdR w A l) (hl : l.length ≤ 1000000) :
    Calls Try.prog 55 #[.slice A l.length c] w fun e w' => ∃ v, e = .returned (.tuple #[v, .int .i64 (checkV l).2]) ∧ OwnR w.heap.size w' v (nrmV l) ∧ Below w.heap.size w w' := by
  obtain ⟨i0, hi, hz0, hz1, hz2⟩ := info_parts info_rec
  have CK := fun W (hr : RdR W A l) => rcheck_any A c l W hr (by omega)
  have HR := Lib.hid h
  by_cases h0 : (checkV l).2 = 0
  · rw [nrm_ok (check_tl h0)]
    rw [tl_check (check_tl h0)] at CK ⊢
    clear h h0
    go_enter Try.func55, Try.ntmps55
    go_wp2_with (go_at_call 17; (with_reducible refine (CK _ HR.out).mono ?_); rintro e w1 ⟨rfl, hb1⟩)
    have HR1 := Lib.hid (HR.out.below hb1)
    go_loopw [6, 20] (fun v i wr => ∃ (k n : Nat) (A' : Option Addr) (c' : Nat), k ≤ l.length ∧ i = .int .i64 k ∧ v = .slice A' n c' ∧ Hid ((normV (l.take k)).length = n) ∧ n ≤ k ∧
        Hid (OwnR w1.heap.size wr (.slice A' n c') (normV (l.take k))) ∧ Below w1.heap.size w1 wr) (fun _ i _ => l.length - (intOf i).toNat)
    case atStart => exact ⟨0, 0, none, 0, Nat.zero_le _, rfl, rfl, Lib.hid rfl, Nat.le_refl _, Lib.hid (OwnR.nil _ _), Below.refl _ _⟩
    case round =>
      obtain ⟨k, n, A', c', hk, rfl, rfl, HON, hnk, hown, hb⟩ := hrel
      obtain ⟨w2, rfl⟩ : ∃ w2 : World, w2 = wr := ⟨_, rfl⟩
      have hsz := hb.size
      by_cases hlt : k < l.length
      · obtain ⟨b, off, x, y, z, rfl, hbb, hc0, hc1, hc2, hs⟩ := HR1.out.at_ hlt
        rw [← hb.cell (p := ⟨b, _, none⟩) hbb] at hc0 hc1 hc2
        have hbr : b < w2.heap.size := by omega
        have PM := Lib.hid (norm_more hlt hs.out)
        obtain ⟨out, hout⟩ : ∃ out, normV (l.take k) = out := ⟨_, rfl⟩
        rw [hout] at HON hown PM
        clear hout hs
        have q0 : ∀ p : BelowOf (w2.alloc (.cells #[.int .i64 x, .int .i64 y, .int .i64 z] 73)), p.world.cell? ⟨w2.heap.size, 0, none⟩ = some (.int .i64 x) := fun p => p.cell (by simp)
        have q1 : ∀ p : BelowOf (w2.alloc (.cells #[.int .i64 x, .int .i64 y, .int .i64 z] 73)), p.world.cell? ⟨w2.heap.size, 1, none⟩ = some (.int .i64 y) := fun p => p.cell (by simp)
        by_cases hn0 : n = 0
        · subst hn0
          have HP := Lib.hid (show put out x y z = out ++ [(x, y, z)] by obtain rfl : out = [] := List.eq_nil_of_length_eq_zero HON.out; rfl)
          have q2 : True := trivial
          have hg : decide ((0 : Int) ≤ -1) = false := by decide
          have HN0 := Lib.hid HON.out
          go_wp2
          refine wp_region_bel (by kernel_rfl) (by kernel_rfl) ?_
          repeat (go_big_quiet_step (first | (fail)))
          refine wpQuiet_nil ?_
          refine bel_all fun wq hbq => ?_
          clear q0 q1 q2
          have HO := Lib.hid ((hown.out.alloc (.cells #[.int .i64 x, .int .i64 y, .int .i64 z] 73)).below hbq)
          have hzq := hbq.size
          simp only [World.size_alloc] at hzq
          have hbw : Below w1.heap.size w1 wq := ((hb.alloc hb.size _).trans (hbq.mono (by simp; omega)))
          obtain ⟨S0, S1, S2⟩ := (BoxR.new w2 x y z 73).below hbq
          have hnb : out.length ≤ 1000000 := by have := HON.out; omega
          clear hbq
          go_wp2_with (at_builtin; refine wpList_append_own _ rfl _ _ 29 rfl w1.heap.size 73 i0 (.agg #[.int .i64 0, .int .i64 0, .int .i64 0]) 3 24 Try.underlying29 hi hz0 hz1 hz2 rfl (by decide) _ _ _ rfl (OwnR.alloc HO.out _) ⟨wq.heap.size, 0, none⟩ 1 1 [.int .i64 x, .int .i64 y, .int .i64 z] rfl rfl (rec_news rfl) rec_cells (by unfold maxLen; omega) (by omega) (by have := hbw.size; simp; omega) ?_; intro v5 w5 hown5 hgrow5 _; have HS := Lib.hid (OwnR.snoc hown5); have HB5 := Lib.hid ((hbw.alloc hbw.size (.cells #[.int .i64 x, .int .i64 y, .int .i64 z] 73)).grown hgrow5 (by have := hbw.size; simp; omega) (fun q hq => (World.ownsRow.lt HO.out q hq).1)); clear hown5 hgrow5)
          obtain ⟨A5, c5, rfl, _, _⟩ := HS.out.read
          have HL5 := Lib.hid (show (out ++ [(x, y, z)]).length = 0 + 1 by rw [List.length_append, HON.out]; rfl)
          go_wp2
          go_roundw
          case rel => exact ⟨k + 1, 0 + 1, A5, c5, by omega, by go_num, by rw [HL5.out], Lib.hid (by rw [PM.out, HP.out]; exact HL5.out), by omega, Lib.hid (by rw [PM.out, HP.out]; have := HS.out; rw [HL5.out] at this; exact this), HB5.out⟩
          case measure => simp [intOf]; omega
        · obtain ⟨j, hj⟩ : ∃ j, n = j + 1 := ⟨n - 1, by omega⟩
          have HLJ := Lib.hid (HON.out.trans hj)
          have hnj : (n : Int) - 1 = (j : Int) := by omega
          have hjn : j < n := by omega
          have hg : decide ((0 : Int) ≤ (j : Int)) = true := decide_eq_true (by omega)
          clear hj hn0
          obtain ⟨bo, oo, s0, s1, s2, rfl, hbo, hd0, hd1, hd2, ht⟩ := hown.out.rd.at_ (k := j) (by rw [HON.out]; omega)
          obtain ⟨rfl, hgb, hfz⟩ := hown.out.some_
          rw [Nat.zero_add] at hd0 hd1 hd2
          have q2 : ∀ p : BelowOf (w2.alloc (.cells #[.int .i64 x, .int .i64 y, .int .i64 z] 73)), p.world.cell? ⟨bo, j * 3, none⟩ = some (.int .i64 s0) := fun p => p.cell (c_al _ hd0)
          obtain ⟨o, ho, hol⟩ := snoc_form HLJ.out ht.out
          have HOO := Lib.hid ho
          have HOL := Lib.hid hol
          clear ho hol
          by_cases hx : s0 = x
          · subst hx
            have HP := Lib.hid (show put out s0 y z = o ++ [(s0, s1, z)] by rw [HOO.out, put_same])
            have e1 : (s0 == s0) = true := by simp
            go_wp2
            refine wp_region_bel (by kernel_rfl) (by kernel_rfl) ?_
            repeat (go_big_quiet_step (first | (fail)))
            refine wpQuiet_nil ?_
            refine bel_all fun wq hbq => ?_
            clear q0 q1 q2
            have HO := Lib.hid ((hown.out.alloc (.cells #[.int .i64 s0, .int .i64 y, .int .i64 z] 73)).below hbq)
            have hzq := hbq.size
            simp only [World.size_alloc] at hzq
            have hbw : Below w1.heap.size w1 wq := ((hb.alloc hb.size _).trans (hbq.mono (by simp; omega)))
            obtain ⟨S0, S1, S2⟩ := (BoxR.new w2 s0 y z 73).below hbq
            have hnb : out.length ≤ 1000000 := by have := HON.out; omega
            have D2 : wq.cell? ⟨bo, j * 3 + 2, none⟩ = some (.int .i64 s2) := c_cl (c_al _ hd2) hbq
            have F2 : wq.frozen? ⟨bo, j * 3 + 2, none⟩ = false := HO.out.some_.2.2 _
            clear hbq
            go_wp2
            go_roundw
            case rel =>
              have hst : OwnR w1.heap.size (wq.setCell ⟨bo, j * 3 + 2, none⟩ (.int .i64 z)) (.slice (some ⟨bo, 0, none⟩) n c') (o ++ [(s0, s1, z)]) := by
                have h1 := HO.out
                rw [HOO.out] at h1
                have h2 := h1.stored (z := z) (by rw [HOL.out]; rw [← HON.out, HLJ.out])
                rw [HOL.out] at h2
                exact h2
              exact ⟨k + 1, n, _, c', by omega, by go_num, rfl, Lib.hid (by rw [PM.out, HP.out, List.length_append, HOL.out, ← HON.out, HLJ.out]; rfl), by omega, Lib.hid (by rw [PM.out, HP.out]; exact hst), hbw.setCell (by exact hgb) _⟩
            case measure => simp [intOf]; omega
          · have HP := Lib.hid (show put out x y z = out ++ [(x, y, z)] by rw [HOO.out]; exact put_other o hx)
            have e1 : (s0 == x) = false := by simpa using hx
            clear hx
            go_wp2
            refine wp_region_bel (by kernel_rfl) (by kernel_rfl) ?_
            repeat (go_big_quiet_step (first | (fail)))
            refine wpQuiet_nil ?_
            refine bel_all fun wq hbq => ?_
            clear q0 q1 q2
            have HO := Lib.hid ((hown.out.alloc (.cells #[.int .i64 x, .int .i64 y, .int .i64 z] 73)).below hbq)
            have hzq := hbq.size
            simp only [World.size_alloc] at hzq
            have hbw : Below w1.heap.size w1 wq := ((hb.alloc hb.size _).trans (hbq.mono (by simp; omega)))
            obtain ⟨S0, S1, S2⟩ := (BoxR.new w2 x y z 73).below hbq
            have hnb : out.length ≤ 1000000 := by have := HON.out; omega
            clear hbq
            go_wp2_with (at_builtin; refine wpList_append_own _ rfl _ _ 29 rfl w1.heap.size 73 i0 (.agg #[.int .i64 0, .int .i64 0, .int .i64 0]) 3 24 Try.underlying29 hi hz0 hz1 hz2 rfl (by decide) _ _ _ rfl (OwnR.alloc HO.out _) ⟨wq.heap.size, 0, none⟩ 1 1 [.int .i64 x, .int .i64 y, .int .i64 z] rfl rfl (rec_news rfl) rec_cells (by unfold maxLen; omega) (by omega) (by have := hbw.size; simp; omega) ?_; intro v5 w5 hown5 hgrow5 _; have HS := Lib.hid (OwnR.snoc hown5); have HB5 := Lib.hid ((hbw.alloc hbw.size (.cells #[.int .i64 x, .int .i64 y, .int .i64 z] 73)).grown hgrow5 (by have := hbw.size; simp; omega) (fun q hq => (World.ownsRow.lt HO.out q hq).1)); clear hown5 hgrow5)
            obtain ⟨A5, c5, rfl, _, _⟩ := HS.out.read
            have HL5 := Lib.hid (show (out ++ [(x, y, z)]).length = n + 1 by rw [List.length_append, HON.out]; rfl)
            go_wp2
            go_roundw
            case rel => exact ⟨k + 1, n + 1, A5, c5, by omega, by go_num, by rw [HL5.out], Lib.hid (by rw [PM.out, HP.out]; exact HL5.out), by omega, Lib.hid (by rw [PM.out, HP.out]; have := HS.out; rw [HL5.out] at this; exact this), HB5.out⟩
            case measure => simp [intOf]; omega
      · have hkl : k = l.length := by omega
        subst hkl
        have HE := Lib.hid (show normV (l.take l.length) = normV l by rw [List.take_of_length_le (Nat.le_refl _)])
        rw [HE.out] at hown
        go_wp2
        go_ret2
        exact ⟨_, rfl, hown.out.more hb1.size, b_cl hb1 (Nat.le_refl _) hb⟩
  · rw [nrm_bad h0]
    obtain ⟨p, e, hv⟩ : ∃ p e, checkV l = (p, e) := ⟨_, _, rfl⟩
    rw [hv] at CK h0 ⊢
    have e1 : (e == 0) = false := by simpa using h0
    have e2 : (e != 0) = true := by simpa using h0
    clear h0 hv h
    go_enter Try.func55, Try.ntmps55
    go_wp2_with (go_at_call 17; (with_reducible refine (CK _ HR.out).mono ?_); rintro e w1 ⟨rfl, hb1⟩)
    go_ret2
    exact ⟨_, rfl, OwnR.nil _ _, hb1⟩

end Go.Proofs.Ytgmcikajhnnaaaa
