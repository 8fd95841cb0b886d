/- What the document's own Of and Normal of layer 8 return. Conditions: what comes in can be read; Of: the minutes lie within the limits. -/
import Derived.Test.YtgmcikajhnnaaaaRows
import Derived.Test.YtgmcikajhnnaaaaBase
import Derived.Test.YtgmcikajhnnaaaaRow
import Derived.Test.YtgmcikajhnnaaaaRecMath
import Derived.Test.YtgmcikajhnnaaaaRecHeap
import Derived.Test.YtgmcikajhnnaaaaRecCheckR
import Derived.Test.YtgmcikajhnnaaaaRecSmall
import Derived.Test.YtgmcikajhnnaaaaRecKinds
import Derived.WalkKit
import Derived.WalkSpells
import Derived.WalkSmall
import Derived.Below
import Derived.Outline
import Derived.OwnWalk
import Derived.Lib.Hide
import Derived.BigQuiet
import Derived.Deep.QuietTactic
namespace Go.Proofs.Ytgmcikajhnnaaaa
open Go.RowKit

set_option maxRecDepth 100000 in
set_option maxHeartbeats 4000000 in
theorem refofR_any (A : Option Addr) (c m : Nat) (ks : List Int) (at_ : Int) (w : World) (hm : Hid (ks.length = m)) (h : RdN w A ks) (ha : 0 ≤ at_) (ham : at_ + (m : Int) ≤ 40320) :
    Calls Try.prog 34 #[.int .i64 at_, .slice A m c] w fun e w' => ∃ v, e = .returned v ∧ OwnR w.heap.size w' v (ofR at_ ks) ∧ Below w.heap.size w w' := by
  obtain ⟨i0, hi, hz0, hz1, hz2⟩ := info_parts info_rec
  have HR := Lib.hid h
  clear h
  go_enter Try.func34, Try.ntmps34
  go_wp2
  go_loopw [5, 6] (fun v i wr => ∃ (k n : Nat) (A' : Option Addr) (c' : Nat), k ≤ m ∧ i = .int .i64 k ∧ v = .slice A' n c' ∧ Hid ((ofR at_ (ks.take k)).length = n) ∧ n ≤ k ∧
      Hid (OwnR w.heap.size wr (.slice A' n c') (ofR at_ (ks.take k))) ∧ Below w.heap.size w wr) (fun _ i _ => m - (intOf i).toNat)
  case atStart => exact ⟨0, 0, none, 0, Nat.zero_le _, rfl, rfl, Lib.hid rfl, Nat.le_refl _, Lib.hid (OwnR.nil _ _), Below.refl _ _⟩
  case round =>
    obtain ⟨k, n, A', c', hk, rfl, rfl, HON, hnk, hown, hb⟩ := hrel
    obtain ⟨w2, rfl⟩ : ∃ w2 : World, w2 = wr := ⟨_, rfl⟩
    have hsz := hb.size
    by_cases hlt : k < m
    · obtain ⟨b, off, x, rfl, hbb, hc0, hs⟩ := HR.out.at_ (k := k) (by rw [hm.out]; exact hlt)
      rw [← hb.cell (p := ⟨b, _, none⟩) hbb] at hc0
      have hbr : b < w2.heap.size := by omega
      have PM := Lib.hid (of_more (at_ := at_) hs.out)
      obtain ⟨out, hout⟩ : ∃ out, ofR at_ (ks.take k) = out := ⟨_, rfl⟩
      rw [hout] at HON hown PM
      clear hout hs
      have q0 : ∀ p : BelowOf w2, p.world.cell? ⟨b, off + k, none⟩ = some (.int .i64 x) := fun p => p.cell hc0
      by_cases hn0 : n = 0
      · subst hn0
        have HP := Lib.hid (show put out x (at_ + (k : Int)) (at_ + (k : Int) + 1) = out ++ [(x, at_ + (k : Int), at_ + (k : Int) + 1)] by obtain rfl : out = [] := List.eq_nil_of_length_eq_zero HON.out; rfl)
        have q2 : True := trivial
        have hg : decide ((0 : Int) < 0) = false := by decide
        go_wp2
        refine wp_region_bel (by kernel_rfl) (by kernel_rfl) ?_
        repeat (go_big_quiet_step (first | (fail)))
        refine wpQuiet_nil ?_
        refine bel_all fun wq hbq => ?_
        clear q0 q2
        have HO := Lib.hid (hown.out.below hbq)
        have hzq := hbq.size
        have hbw : Below w.heap.size w wq := hb.trans (hbq.mono hb.size)
        have hc := c_cl hc0 hbq
        have hbrq : b < wq.heap.size := by omega
        have hnb : out.length ≤ 1000000 := by have := HON.out; omega
        clear hbq
        go_wp2_with (at_builtin; refine wpList_append_own _ rfl _ _ 29 rfl w.heap.size 73 i0 (.agg #[.int .i64 0, .int .i64 0, .int .i64 0]) 3 24 Try.underlying29 hi hz0 hz1 hz2 rfl (by decide) _ _ _ rfl (OwnR.alloc HO.out _) ⟨wq.heap.size, 0, none⟩ 1 1 [.int .i64 x, .int .i64 (at_ + (k : Int)), .int .i64 (at_ + (k : Int) + 1)] rfl rfl (rec_news rfl) rec_cells (by unfold maxLen; omega) (by omega) (by have := hbw.size; simp; omega) ?_; intro v5 w5 hown5 hgrow5 _; have HS := Lib.hid (OwnR.snoc hown5); have HB5 := Lib.hid ((hbw.alloc hbw.size (.cells #[.int .i64 x, .int .i64 (at_ + (k : Int)), .int .i64 (at_ + (k : Int) + 1)] 73)).grown hgrow5 (by have := hbw.size; simp; omega) (fun q hq => (World.ownsRow.lt HO.out q hq).1)); clear hown5 hgrow5)
        obtain ⟨A5, c5, rfl, _, _⟩ := HS.out.read
        have HL5 := Lib.hid (show (out ++ [(x, at_ + (k : Int), at_ + (k : Int) + 1)]).length = 0 + 1 by rw [List.length_append, HON.out]; rfl)
        go_wp2
        go_roundw
        case rel => exact ⟨k + 1, 0 + 1, A5, c5, by omega, by go_num, by rw [HL5.out], Lib.hid (by rw [PM.out, HP.out]; exact HL5.out), by omega, Lib.hid (by rw [PM.out, HP.out]; have := HS.out; rw [HL5.out] at this; exact this), HB5.out⟩
        case measure => simp [intOf]; omega
      · obtain ⟨j, hj⟩ : ∃ j, n = j + 1 := ⟨n - 1, by omega⟩
        have HLJ := Lib.hid (HON.out.trans hj)
        have hnj : (n : Int) - 1 = (j : Int) := by omega
        have hjn : j < n := by omega
        have hg : decide (0 < n) = true := decide_eq_true (by omega)
        have hg2 : (0 : Int) < (n : Int) := by omega
        clear hj hn0
        obtain ⟨bo, oo, s0, s1, s2, rfl, hbo, hd0, hd1, hd2, ht⟩ := hown.out.rd.at_ (k := j) (by rw [HON.out]; omega)
        obtain ⟨rfl, hgb, hfz⟩ := hown.out.some_
        rw [Nat.zero_add] at hd0 hd1 hd2
        have q2 : ∀ p : BelowOf w2, p.world.cell? ⟨bo, j * 3, none⟩ = some (.int .i64 s0) := fun p => p.cell hd0
        obtain ⟨o, ho, hol⟩ := snoc_form HLJ.out ht.out
        have HOO := Lib.hid ho
        have HOL := Lib.hid hol
        clear ho hol
        by_cases hx : s0 = x
        · subst hx
          have HP := Lib.hid (show put out s0 (at_ + (k : Int)) (at_ + (k : Int) + 1) = o ++ [(s0, s1, at_ + (k : Int) + 1)] by rw [HOO.out, put_same])
          have e1 : (s0 == s0) = true := by simp
          go_wp2
          refine wp_region_bel (by kernel_rfl) (by kernel_rfl) ?_
          repeat (go_big_quiet_step (first | (fail)))
          refine wpQuiet_nil ?_
          refine bel_all fun wq hbq => ?_
          clear q0 q2
          have HO := Lib.hid (hown.out.below hbq)
          have hzq := hbq.size
          have hbw : Below w.heap.size w wq := hb.trans (hbq.mono hb.size)
          have hc := c_cl hc0 hbq
          have hbrq : b < wq.heap.size := by omega
          have hnb : out.length ≤ 1000000 := by have := HON.out; omega
          have D2 : wq.cell? ⟨bo, j * 3 + 2, none⟩ = some (.int .i64 s2) := c_cl hd2 hbq
          have F2 : wq.frozen? ⟨bo, j * 3 + 2, none⟩ = false := HO.out.some_.2.2 _
          clear hbq
          go_wp2
          go_roundw
          case rel =>
            have hst : OwnR w.heap.size (wq.setCell ⟨bo, j * 3 + 2, none⟩ (.int .i64 (at_ + (k : Int) + 1))) (.slice (some ⟨bo, 0, none⟩) n c') (o ++ [(s0, s1, at_ + (k : Int) + 1)]) := by
              have h1 := HO.out
              rw [HOO.out] at h1
              have h2 := h1.stored (z := at_ + (k : Int) + 1) (by rw [HOL.out]; rw [← HON.out, HLJ.out])
              rw [HOL.out] at h2
              exact h2
            exact ⟨k + 1, n, _, c', by omega, by go_num, rfl, Lib.hid (by rw [PM.out, HP.out, List.length_append, HOL.out, ← HON.out, HLJ.out]; rfl), by omega, Lib.hid (by rw [PM.out, HP.out]; exact hst), hbw.setCell (by exact hgb) _⟩
          case measure => simp [intOf]; omega
        · have HP := Lib.hid (show put out x (at_ + (k : Int)) (at_ + (k : Int) + 1) = out ++ [(x, at_ + (k : Int), at_ + (k : Int) + 1)] by rw [HOO.out]; exact put_other o hx)
          have e1 : (s0 == x) = false := by simpa using hx
          clear hx
          go_wp2
          refine wp_region_bel (by kernel_rfl) (by kernel_rfl) ?_
          repeat (go_big_quiet_step (first | (fail)))
          refine wpQuiet_nil ?_
          refine bel_all fun wq hbq => ?_
          clear q0 q2
          have HO := Lib.hid (hown.out.below hbq)
          have hzq := hbq.size
          have hbw : Below w.heap.size w wq := hb.trans (hbq.mono hb.size)
          have hc := c_cl hc0 hbq
          have hbrq : b < wq.heap.size := by omega
          have hnb : out.length ≤ 1000000 := by have := HON.out; omega
          clear hbq
          go_wp2_with (at_builtin; refine wpList_append_own _ rfl _ _ 29 rfl w.heap.size 73 i0 (.agg #[.int .i64 0, .int .i64 0, .int .i64 0]) 3 24 Try.underlying29 hi hz0 hz1 hz2 rfl (by decide) _ _ _ rfl (OwnR.alloc HO.out _) ⟨wq.heap.size, 0, none⟩ 1 1 [.int .i64 x, .int .i64 (at_ + (k : Int)), .int .i64 (at_ + (k : Int) + 1)] rfl rfl (rec_news rfl) rec_cells (by unfold maxLen; omega) (by omega) (by have := hbw.size; simp; omega) ?_; intro v5 w5 hown5 hgrow5 _; have HS := Lib.hid (OwnR.snoc hown5); have HB5 := Lib.hid ((hbw.alloc hbw.size (.cells #[.int .i64 x, .int .i64 (at_ + (k : Int)), .int .i64 (at_ + (k : Int) + 1)] 73)).grown hgrow5 (by have := hbw.size; simp; omega) (fun q hq => (World.ownsRow.lt HO.out q hq).1)); clear hown5 hgrow5)
          obtain ⟨A5, c5, rfl, _, _⟩ := HS.out.read
          have HL5 := Lib.hid (show (out ++ [(x, at_ + (k : Int), at_ + (k : Int) + 1)]).length = n + 1 by rw [List.length_append, HON.out]; rfl)
          go_wp2
          go_roundw
          case rel => exact ⟨k + 1, n + 1, A5, c5, by omega, by go_num, by rw [HL5.out], Lib.hid (by rw [PM.out, HP.out]; exact HL5.out), by omega, Lib.hid (by rw [PM.out, HP.out]; have := HS.out; rw [HL5.out] at this; exact this), HB5.out⟩
          case measure => simp [intOf]; omega
    · have hkm : k = m := by omega
      have HE := Lib.hid (show ofR at_ (ks.take k) = ofR at_ ks by rw [List.take_of_length_le (by rw [hm.out]; omega)])
      rw [HE.out] at hown
      clear HE
      go_wp2
      go_ret
      exact ⟨_, rfl, hown.out, hb⟩

theorem refnormal_any (A : Option Addr) (c : Nat) (l : List Rc) (w : World) (h : RdR w A l) (hl : l.length ≤ 4611686018427387904) :
    Calls Try.prog 13 #[.slice A l.length c] w fun e w' => ∃ v, e = .returned (.tuple #[v, .int .i64 (checkV l).2]) ∧ OwnR w.heap.size w' v (nrmV l) ∧ Below w.heap.size w w' := by
  have CK := fun W (hr : RdR W A l) => refrcheck_any A c l W hr hl
  have HR := Lib.hid h
  by_cases h0 : (checkV l).2 = 0
  · have T := Lib.hid (check_tl h0)
    rw [nrm_ok T.out, ← norm_of T.out]
    rw [tl_check T.out] at CK ⊢
    have HL := Lib.hid (rfl : l.length = l.length)
    have bd := T.out.bd
    have BG := fun W (hr : RdR W A l) => refbeg_any A c l.length l W HL hr hl
    have KD := fun W (hr : RdR W A l) => refkinds_any A c l W hr T.out hl
    generalize beg l = at_ at BG bd ⊢
    generalize kindsV l = ks at KD bd ⊢
    obtain ⟨bd0, bd1⟩ := bd
    clear h h0 T
    go_enter Try.func13, Try.ntmps13
    go_wp2_with (first
      | (go_at_call 26; (with_reducible refine (CK _ HR.out).mono ?_); rintro e w1 ⟨rfl, hb1⟩; have HR1 := Lib.hid (HR.out.below hb1))
      | (go_at_call 27; (with_reducible refine (BG _ HR1.out).mono ?_); rintro e w' ⟨rfl, rfl⟩)
      | (go_at_call 28; (with_reducible refine (KD _ HR1.out).mono ?_); rintro e w2 ⟨v2, rfl, ho2, hb2⟩; obtain ⟨A2, c2, rfl, hr2⟩ := ho2.read; have HK := Lib.hid hr2; clear ho2 hr2)
      | (go_at_call 34; refine (refofR_any A2 c2 _ ks at_ _ (Lib.hid rfl) HK.out bd0 bd1).mono ?_; rintro e w3 ⟨v3, rfl, ho3, hb3⟩; have HO3 := Lib.hid ho3; clear ho3))
    go_ret2
    have hbs := b_tr hb1 hb2
    exact ⟨_, rfl, HO3.out.more hbs.size, b_tr hbs hb3⟩
  · rw [nrm_bad h0]
    obtain ⟨p, e, hv⟩ : ∃ p e, checkV l = (p, e) := ⟨_, _, rfl⟩
    rw [hv] at CK h0 ⊢
    have e1 : (e == 0) = false := by simpa using h0
    have e2 : (e != 0) = true := by simpa using h0
    clear h0 hv h
    go_enter Try.func13, Try.ntmps13
    go_wp2_with (go_at_call 26; (with_reducible refine (CK _ HR.out).mono ?_); rintro e w1 ⟨rfl, hb1⟩)
    go_ret2
    exact ⟨_, rfl, OwnR.nil _ _, hb1⟩

end Go.Proofs.Ytgmcikajhnnaaaa
