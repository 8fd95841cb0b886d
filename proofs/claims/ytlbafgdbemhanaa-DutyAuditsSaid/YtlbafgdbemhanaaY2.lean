/- Several texts in one: DutyBrk0, DutyBrk1, DutyBrk2, DutyBrk3. Conditions: none beyond each lemma's own premises. -/
import Derived.Test.YtlbafgdbemhanaaRows
import Derived.Test.YtlbafgdbemhanaaBase
import Derived.Test.YtlbafgdbemhanaaZ2
import Derived.Test.YtlbafgdbemhanaaBookLim
import Derived.Test.YtlbafgdbemhanaaZ1
import Derived.Test.YtlbafgdbemhanaaY1
import Derived.Test.YtlbafgdbemhanaaZ3
import Derived.Test.YtlbafgdbemhanaaZ4
import Derived.Outline
import Derived.Deep.DeepCutAuto
import Derived.StillTailTactics
import Derived.WalkKit
import Derived.WalkSpells
import Derived.WalkSmall
import Derived.Below
import Derived.OwnWalk
import Derived.BigQuiet
import Derived.Deep.QuietTactic
import Derived.BigRegion
import Derived.Lib.Hide

/- What the document's Breaks of layer 16 tells of clause 0. Conditions: the kinds can be read; the book may be. -/
namespace Go.Proofs.Ytlbafgdbemhanaa
open Go.RowKit

set_option maxRecDepth 20000 in
set_option maxHeartbeats 8000000 in
theorem breaks16_0 (x : Nat → Int) (A : Option Addr) (c n m : Nat) (ks : List Int) (w : World) (hk : ks.length = n) (hr : RdN w A ks) (h4 : n ≤ 40320) (hm : m < n) (hx : May x) :
    Calls Try.prog 30 #[.agg (bk x), .slice A n c, .int .i64 (m : Nat), .int .i64 0] w fun e w' => e = .returned (.bool (docBreaks x ks m 0)) ∧ Below w.heap.size w w' := by
  have RC := fun W h => rests16_any A c n m ks W hk h (by omega) (by omega)
  have HK := Lib.hid hk
  have hfull := full_ok ks m
  have hlen := rests_len ks m
  change Lk (restsL ks m) _ at hfull
  obtain ⟨L, hL⟩ : ∃ L, restsL ks m = L := ⟨_, rfl⟩
  rw [hL] at hfull hlen
  have HT : Hid (InT L) := Lib.hid fun q hq => by have := hfull.each q hq; omega
  have HI : Hid (∀ q ∈ L, q.2 ≤ n) := Lib.hid fun q hq => by have := hfull.each q hq; omega
  have HX := Lib.hid hx
  have HLL := Lib.hid hL
  rw [hL] at RC
  have hx18 : 1 ≤ x 18 ∧ x 18 ≤ 40320 := by
    have := hx.1 18 (by omega)
    unfold lim at this
    split at this <;> omega
  obtain ⟨hx18a, hx18b⟩ := hx18
  have RB : RdI (w.alloc (.cells (bk x) 23)) w.heap.size 0 x := RdI.new x 23 rfl
  have hB0 : Below w.heap.size w (w.alloc (.cells (bk x) 23)) := b_al (Below.refl _ _) (Nat.le_refl _) _
  have h0 := hr.below hB0
  clear hL hfull hr hx hk
  go_enter Try.func30, Try.ntmps30
  go_wp2_with (go_at_call 49; (with_reducible refine (RC _ h0).mono ?_); rintro e w1 ⟨v, rfl, hown, hb1⟩; obtain ⟨A5, c5, rfl, hrd, hcap, _⟩ := hown.form; clear hown)
  have RB1 := RB.below hb1
  have HK1 := Lib.hid (h0.below hb1)
  have HB1 := Lib.hid (b_cl hB0 (Nat.le_refl _) hb1)
  have HRD := Lib.hid hrd
  have L8 := last_bd (long := x 8) (cut := (m : Int)) HT.out
  have L13 := last_bd (long := x 13) (cut := (m : Int)) HT.out
  have HLN : Hid (L.length = L.length) := Lib.hid rfl
  obtain ⟨q, hq⟩ : ∃ q, L.length = q := ⟨_, rfl⟩
  rw [hq] at hlen hcap ⊢
  have HQ := Lib.hid hq
  have CL1 := fun p : BelowOf w1 => last16_any A5 c5 q L (x 8) (m : Int) p.world HQ.out (HRD.out.below p.ok) HT.out (by omega)
  have CL2 := fun p : BelowOf w1 => last16_any A5 c5 q L (x 13) (m : Int) p.world HQ.out (HRD.out.below p.ok) HT.out (by omega)
  obtain ⟨dw, hdw⟩ : ∃ dw, docLast L (x 8) (m : Int) = dw := ⟨_, rfl⟩
  obtain ⟨sb, hsb⟩ : ∃ sb, docLast L (x 13) (m : Int) = sb := ⟨_, rfl⟩
  have HDW := Lib.hid hdw
  have HSB := Lib.hid hsb
  rw [hdw] at CL1 L8
  rw [hsb] at CL2 L13
  have q8 : ∀ p : BelowOf w1, p.world.cell? ⟨w.heap.size, 8, none⟩ = some (.int .i64 (x 8)) := fun p => p.cell (RB1.2 8 (by omega))
  have q13 : ∀ p : BelowOf w1, p.world.cell? ⟨w.heap.size, 13, none⟩ = some (.int .i64 (x 13)) := fun p => p.cell (RB1.2 13 (by omega))
  clear hdw hsb hq RB h0 hB0 hb1 hrd RC HLN
  refine wp_region_bel (by kernel_rfl) (by kernel_rfl) ?_
  repeat (go_big_quiet_step (first | (go_at_call 50; (with_reducible exact Calls.bel_of (CL1 _))) | (go_at_call 50; (with_reducible exact Calls.bel_of (CL2 _)))))
  refine wpQuiet_nil ?_
  refine bel_all fun w2 hb2 => ?_
  have RB2 := RB1.below hb2
  have HK2 := Lib.hid (HK1.out.below hb2)
  have HRD2 := Lib.hid (HRD.out.below hb2)
  have HB2 := Lib.hid (HB1.out.trans (hb2.mono HB1.out.size))
  clear q8 q13 CL1 CL2 RB1 HK1 HRD HB1 hb2
  have hil : m < ks.length := by rw [HK.out]; exact hm
  obtain ⟨ba, ka, rfl, hba, hkc⟩ := HK2.out (nonnil hil)
  have hkm := hkc m hil
  rw [show ks.getD m 0 = kAt ks m from rfl] at hkm
  obtain ⟨kv, hkv⟩ : ∃ kv, kAt ks m = kv := ⟨_, rfl⟩
  rw [hkv] at hkm
  have HKV := Lib.hid hkv
  have f18 : w2.cell? ⟨w.heap.size, 18, none⟩ = some (.int .i64 (x 18)) := RB2.2 18 (by omega)
  have m0 : (0 : Int) ≤ (m : Int) := by omega
  have m1 : (m : Int) < (n : Int) := by omega
  have ne18 : (x 18 == 0) = false := by simp; omega
  have ne18b : ¬ x 18 = 0 := by omega
  have hr0 := Int.emod_nonneg (m : Int) (show x 18 ≠ 0 by omega)
  have hr1 := mod_le (show (0 : Int) ≤ (m : Int) by omega) hx18a
  have etm : (m : Int).tmod (x 18) = (m : Int) % x 18 := Int.tmod_eq_emod_of_nonneg (by omega)
  obtain ⟨rm, hrm⟩ : ∃ rm, (m : Int) % x 18 = rm := ⟨_, rfl⟩
  rw [hrm] at hr0 hr1 etm
  have HRM := Lib.hid hrm
  have hwrm := wrap14 rm (by omega) (by omega)
  have hww : IntKind.i64.wrap ((m : Int) - rm) = (m : Int) - rm := wrap14 _ (by omega) (by omega)
  clear hkv hrm hkc
  go_upto_region 5 with fail
  clear f18 etm hwrm hww ne18 ne18b
  (try go_frame)
  go_cut [14] (fun u14 wx => u14 = .bool (endsB L m) ∧ Below w2.heap.size w2 wx)
  case first =>
    rcases Nat.eq_zero_or_pos q with hq0 | hq0
    case inl =>
      subst hq0
      have he : endsB L m = false := by unfold endsB; rw [HQ.out]; rfl
      have HE := Lib.hid he
      have d0 : decide ((0 : Int) < 0) = false := by decide
      clear he
      go_wp2
      go_meet
      exact ⟨by rw [HE.out], Below.refl _ _⟩
    case inr =>
      obtain ⟨j, rfl⟩ : ∃ j, q = j + 1 := ⟨q - 1, by omega⟩
      have hjl : j < L.length := by rw [HQ.out]; omega
      obtain ⟨b, off, f, t, rfl, hbb, hc0, hc1, hs⟩ := HRD2.out.at_ hjl
      have he : endsB L m = (t == (m : Int)) := by
        unfold endsB; rw [HQ.out, Nat.add_sub_cancel, hs.out]; simp
      have HE := Lib.hid he
      have d0 : decide ((0 : Int) < (j : Int) + 1) = true := decide_eq_true (by omega)
      have d1 : (j : Int) + 1 - 1 = (j : Int) := by omega
      have j0 : (0 : Int) ≤ (j : Int) := by omega
      have j1 : (j : Int) < (j : Int) + 1 := by omega
      clear he hs
      go_wp2
      go_meet
      exact ⟨by rw [HE.out], Below.refl _ _⟩
  case rest =>
  obtain ⟨rfl, hb3⟩ := hcut
  rename World => w4
  have RB4 := RB2.below hb3
  have HK4 := Lib.hid (HK2.out.below hb3)
  have HR4 := Lib.hid (HRD2.out.below hb3)
  have HB4 := Lib.hid (HB2.out.trans (hb3.mono HB2.out.size))
  rw [← hb3.cell (p := ⟨ba, _, none⟩) hba] at hkm
  have hbw : ba < w4.heap.size := by have := hb3.size; omega
  have RQ : ∀ w', (∃ p : BelowOf w4, w' = p.world) → RdI w' w.heap.size 0 x := fun _ ⟨p, e⟩ => e ▸ RB4.below p.ok
  have CC := fun (a b lo hi : Int) (p : BelowOf w4) a1 a2 a3 a4 => (count16_any _ c n ks a b lo hi p.world HK.out (HK4.out.below p.ok) a1 a2 a3 a4 (by omega)).mono fun e w' (q : e = _ ∧ p.world = w') => (⟨q.1, q.2 ▸ Below.refl _ _⟩ : e = .returned (.int .i64 (cntK ks a b lo (hi + 1).toNat)) ∧ Below p.world.heap.size p.world w')
  have CB := fun p : BelowOf w4 => brkend16_any x A5 c5 q L p.world HQ.out (HR4.out.below p.ok) HT.out (by omega)
  have em : ((m : Int) + 1).toNat = m + 1 := by omega
  clear hb3 HK2 HRD2 HB2 RB2 hba
  have HD := Lib.hid (show docBreaks x ks m 0 = (decide (kv = 3) && decide (x 0 < cntK ks 3 3 (docBrk x L).1 (m + 1))) by
    have hdoc : docBreaks x ks m 0 = (decide (kAt ks m = 3) && decide (x 0 < cntK ks 3 3 (docBrk x (restsL ks m)).1 (m + 1))) := rfl
    rw [hdoc, HKV.out, HLL.out])
  have bb := brk_bd (x := x) HT.out
  obtain ⟨bv, hbv⟩ : ∃ bv, (docBrk x L).1 = bv := ⟨_, rfl⟩
  rw [hbv] at bb CB HD
  clear hbv
  by_cases hk3 : kv = 3
  case neg =>
    have e3 : (kv == 3) = false := by simpa using hk3
    have HV := Lib.hid (show docBreaks x ks m 0 = false by rw [HD.out, decide_eq_false hk3]; rfl)
    clear hk3 HD CC CB
    rw [e3]
    go_wp2
    refine wp_region_bel (by kernel_rfl) (by kernel_rfl) ?_
    repeat (go_big_quiet_step (first | (fail)))
    refine wpQuiet_nil ?_
    refine bel_all fun w5 hb5 => ?_
    go_wp2
    go_ret
    exact ⟨by rw [HV.out]; try rfl, HB4.out.trans (hb5.mono HB4.out.size)⟩
  have e3 : (kv == 3) = true := by simpa using hk3
  rw [e3]
  have HD := Lib.hid (show _ = _ from HD.out)
  rw [decide_eq_true hk3, Bool.true_and] at HD
  clear hk3
  have CN := fun p : BelowOf w4 => CC 3 3 bv (m : Int) p (by omega) (by omega) (by omega) (by omega)
  rw [em] at CN
  obtain ⟨cv, hcv⟩ : ∃ cv, cntK ks 3 3 bv (m + 1) = cv := ⟨_, rfl⟩
  rw [hcv] at CN HD
  have HV := Lib.hid (show docBreaks x ks m 0 = decide (x 0 < cv) from HD.out)
  have q0 : ∀ p : BelowOf w4, p.world.cell? ⟨w.heap.size, 0, none⟩ = some (.int .i64 (x 0)) := fun p => p.cell (RB4.2 0 (by omega))
  clear HD hcv CC
  go_wp2
  refine wp_region_bel (by kernel_rfl) (by kernel_rfl) ?_
  repeat (go_big_quiet_step (first | (go_at_call 51; (with_reducible exact Calls.bel_of (CN _))) | (go_at_call 52; (with_reducible exact Calls.bel_of (CB _)))))
  refine wpQuiet_load_bk (by rfl) 23 _ rfl _ _ rfl x _ RQ Try.underlying23 rfl (by kernel_rfl) ?_
  go_frame
  repeat (go_big_quiet_step (first | (go_at_call 51; (with_reducible exact Calls.bel_of (CN _))) | (go_at_call 52; (with_reducible exact Calls.bel_of (CB _)))))
  refine wpQuiet_nil ?_
  refine bel_all fun w5 hb5 => ?_
  go_wp2
  go_ret
  exact ⟨by rw [HV.out]; try rfl, HB4.out.trans (hb5.mono HB4.out.size)⟩

end Go.Proofs.Ytlbafgdbemhanaa

/- What the document's Breaks of layer 16 tells of clause 1. Conditions: the kinds can be read; the book may be. -/
namespace Go.Proofs.Ytlbafgdbemhanaa
open Go.RowKit

set_option maxRecDepth 20000 in
set_option maxHeartbeats 8000000 in
theorem breaks16_1 (x : Nat → Int) (A : Option Addr) (c n m : Nat) (ks : List Int) (w : World) (hk : ks.length = n) (hr : RdN w A ks) (h4 : n ≤ 40320) (hm : m < n) (hx : May x) :
    Calls Try.prog 30 #[.agg (bk x), .slice A n c, .int .i64 (m : Nat), .int .i64 1] w fun e w' => e = .returned (.bool (docBreaks x ks m 1)) ∧ Below w.heap.size w w' := by
  have RC := fun W h => rests16_any A c n m ks W hk h (by omega) (by omega)
  have HK := Lib.hid hk
  have hfull := full_ok ks m
  have hlen := rests_len ks m
  change Lk (restsL ks m) _ at hfull
  obtain ⟨L, hL⟩ : ∃ L, restsL ks m = L := ⟨_, rfl⟩
  rw [hL] at hfull hlen
  have HT : Hid (InT L) := Lib.hid fun q hq => by have := hfull.each q hq; omega
  have HI : Hid (∀ q ∈ L, q.2 ≤ n) := Lib.hid fun q hq => by have := hfull.each q hq; omega
  have HX := Lib.hid hx
  have HLL := Lib.hid hL
  rw [hL] at RC
  have hx18 : 1 ≤ x 18 ∧ x 18 ≤ 40320 := by
    have := hx.1 18 (by omega)
    unfold lim at this
    split at this <;> omega
  obtain ⟨hx18a, hx18b⟩ := hx18
  have RB : RdI (w.alloc (.cells (bk x) 23)) w.heap.size 0 x := RdI.new x 23 rfl
  have hB0 : Below w.heap.size w (w.alloc (.cells (bk x) 23)) := b_al (Below.refl _ _) (Nat.le_refl _) _
  have h0 := hr.below hB0
  clear hL hfull hr hx hk
  go_enter Try.func30, Try.ntmps30
  go_wp2_with (go_at_call 49; (with_reducible refine (RC _ h0).mono ?_); rintro e w1 ⟨v, rfl, hown, hb1⟩; obtain ⟨A5, c5, rfl, hrd, hcap, _⟩ := hown.form; clear hown)
  have RB1 := RB.below hb1
  have HK1 := Lib.hid (h0.below hb1)
  have HB1 := Lib.hid (b_cl hB0 (Nat.le_refl _) hb1)
  have HRD := Lib.hid hrd
  have L8 := last_bd (long := x 8) (cut := (m : Int)) HT.out
  have L13 := last_bd (long := x 13) (cut := (m : Int)) HT.out
  have HLN : Hid (L.length = L.length) := Lib.hid rfl
  obtain ⟨q, hq⟩ : ∃ q, L.length = q := ⟨_, rfl⟩
  rw [hq] at hlen hcap ⊢
  have HQ := Lib.hid hq
  have CL1 := fun p : BelowOf w1 => last16_any A5 c5 q L (x 8) (m : Int) p.world HQ.out (HRD.out.below p.ok) HT.out (by omega)
  have CL2 := fun p : BelowOf w1 => last16_any A5 c5 q L (x 13) (m : Int) p.world HQ.out (HRD.out.below p.ok) HT.out (by omega)
  obtain ⟨dw, hdw⟩ : ∃ dw, docLast L (x 8) (m : Int) = dw := ⟨_, rfl⟩
  obtain ⟨sb, hsb⟩ : ∃ sb, docLast L (x 13) (m : Int) = sb := ⟨_, rfl⟩
  have HDW := Lib.hid hdw
  have HSB := Lib.hid hsb
  rw [hdw] at CL1 L8
  rw [hsb] at CL2 L13
  have q8 : ∀ p : BelowOf w1, p.world.cell? ⟨w.heap.size, 8, none⟩ = some (.int .i64 (x 8)) := fun p => p.cell (RB1.2 8 (by omega))
  have q13 : ∀ p : BelowOf w1, p.world.cell? ⟨w.heap.size, 13, none⟩ = some (.int .i64 (x 13)) := fun p => p.cell (RB1.2 13 (by omega))
  clear hdw hsb hq RB h0 hB0 hb1 hrd RC HLN
  refine wp_region_bel (by kernel_rfl) (by kernel_rfl) ?_
  repeat (go_big_quiet_step (first | (go_at_call 50; (with_reducible exact Calls.bel_of (CL1 _))) | (go_at_call 50; (with_reducible exact Calls.bel_of (CL2 _)))))
  refine wpQuiet_nil ?_
  refine bel_all fun w2 hb2 => ?_
  have RB2 := RB1.below hb2
  have HK2 := Lib.hid (HK1.out.below hb2)
  have HRD2 := Lib.hid (HRD.out.below hb2)
  have HB2 := Lib.hid (HB1.out.trans (hb2.mono HB1.out.size))
  clear q8 q13 CL1 CL2 RB1 HK1 HRD HB1 hb2
  have hil : m < ks.length := by rw [HK.out]; exact hm
  obtain ⟨ba, ka, rfl, hba, hkc⟩ := HK2.out (nonnil hil)
  have hkm := hkc m hil
  rw [show ks.getD m 0 = kAt ks m from rfl] at hkm
  obtain ⟨kv, hkv⟩ : ∃ kv, kAt ks m = kv := ⟨_, rfl⟩
  rw [hkv] at hkm
  have HKV := Lib.hid hkv
  have f18 : w2.cell? ⟨w.heap.size, 18, none⟩ = some (.int .i64 (x 18)) := RB2.2 18 (by omega)
  have m0 : (0 : Int) ≤ (m : Int) := by omega
  have m1 : (m : Int) < (n : Int) := by omega
  have ne18 : (x 18 == 0) = false := by simp; omega
  have ne18b : ¬ x 18 = 0 := by omega
  have hr0 := Int.emod_nonneg (m : Int) (show x 18 ≠ 0 by omega)
  have hr1 := mod_le (show (0 : Int) ≤ (m : Int) by omega) hx18a
  have etm : (m : Int).tmod (x 18) = (m : Int) % x 18 := Int.tmod_eq_emod_of_nonneg (by omega)
  obtain ⟨rm, hrm⟩ : ∃ rm, (m : Int) % x 18 = rm := ⟨_, rfl⟩
  rw [hrm] at hr0 hr1 etm
  have HRM := Lib.hid hrm
  have hwrm := wrap14 rm (by omega) (by omega)
  have hww : IntKind.i64.wrap ((m : Int) - rm) = (m : Int) - rm := wrap14 _ (by omega) (by omega)
  clear hkv hrm hkc
  go_upto_region 5 with fail
  clear f18 etm hwrm hww ne18 ne18b
  (try go_frame)
  go_cut [14] (fun u14 wx => u14 = .bool (endsB L m) ∧ Below w2.heap.size w2 wx)
  case first =>
    rcases Nat.eq_zero_or_pos q with hq0 | hq0
    case inl =>
      subst hq0
      have he : endsB L m = false := by unfold endsB; rw [HQ.out]; rfl
      have HE := Lib.hid he
      have d0 : decide ((0 : Int) < 0) = false := by decide
      clear he
      go_wp2
      go_meet
      exact ⟨by rw [HE.out], Below.refl _ _⟩
    case inr =>
      obtain ⟨j, rfl⟩ : ∃ j, q = j + 1 := ⟨q - 1, by omega⟩
      have hjl : j < L.length := by rw [HQ.out]; omega
      obtain ⟨b, off, f, t, rfl, hbb, hc0, hc1, hs⟩ := HRD2.out.at_ hjl
      have he : endsB L m = (t == (m : Int)) := by
        unfold endsB; rw [HQ.out, Nat.add_sub_cancel, hs.out]; simp
      have HE := Lib.hid he
      have d0 : decide ((0 : Int) < (j : Int) + 1) = true := decide_eq_true (by omega)
      have d1 : (j : Int) + 1 - 1 = (j : Int) := by omega
      have j0 : (0 : Int) ≤ (j : Int) := by omega
      have j1 : (j : Int) < (j : Int) + 1 := by omega
      clear he hs
      go_wp2
      go_meet
      exact ⟨by rw [HE.out], Below.refl _ _⟩
  case rest =>
  obtain ⟨rfl, hb3⟩ := hcut
  rename World => w4
  have RB4 := RB2.below hb3
  have HK4 := Lib.hid (HK2.out.below hb3)
  have HR4 := Lib.hid (HRD2.out.below hb3)
  have HB4 := Lib.hid (HB2.out.trans (hb3.mono HB2.out.size))
  rw [← hb3.cell (p := ⟨ba, _, none⟩) hba] at hkm
  have hbw : ba < w4.heap.size := by have := hb3.size; omega
  have RQ : ∀ w', (∃ p : BelowOf w4, w' = p.world) → RdI w' w.heap.size 0 x := fun _ ⟨p, e⟩ => e ▸ RB4.below p.ok
  have CC := fun (a b lo hi : Int) (p : BelowOf w4) a1 a2 a3 a4 => (count16_any _ c n ks a b lo hi p.world HK.out (HK4.out.below p.ok) a1 a2 a3 a4 (by omega)).mono fun e w' (q : e = _ ∧ p.world = w') => (⟨q.1, q.2 ▸ Below.refl _ _⟩ : e = .returned (.int .i64 (cntK ks a b lo (hi + 1).toNat)) ∧ Below p.world.heap.size p.world w')
  have CB := fun p : BelowOf w4 => brkend16_any x A5 c5 q L p.world HQ.out (HR4.out.below p.ok) HT.out (by omega)
  have em : ((m : Int) + 1).toNat = m + 1 := by omega
  clear hb3 HK2 HRD2 HB2 RB2 hba
  have HD := Lib.hid (show docBreaks x ks m 1 = (decide (kv = 3) && decide (x 5 < cntK ks 3 3 dw (m + 1))) by
    have hdoc : docBreaks x ks m 1 = (decide (kAt ks m = 3) && decide (x 5 < cntK ks 3 3 (docLast (restsL ks m) (x 8) m) (m + 1))) := rfl
    rw [hdoc, HKV.out, HLL.out, HDW.out])
  by_cases hk3 : kv = 3
  case neg =>
    have e3 : (kv == 3) = false := by simpa using hk3
    have HV := Lib.hid (show docBreaks x ks m 1 = false by rw [HD.out, decide_eq_false hk3]; rfl)
    clear hk3 HD CC CB
    rw [e3]
    go_wp2
    refine wp_region_bel (by kernel_rfl) (by kernel_rfl) ?_
    repeat (go_big_quiet_step (first | (fail)))
    refine wpQuiet_nil ?_
    refine bel_all fun w5 hb5 => ?_
    go_wp2
    go_ret
    exact ⟨by rw [HV.out]; try rfl, HB4.out.trans (hb5.mono HB4.out.size)⟩
  have e3 : (kv == 3) = true := by simpa using hk3
  rw [e3]
  have HD := Lib.hid (show _ = _ from HD.out)
  rw [decide_eq_true hk3, Bool.true_and] at HD
  clear hk3
  have CN := fun p : BelowOf w4 => CC 3 3 dw (m : Int) p (by omega) (by omega) (by omega) (by omega)
  rw [em] at CN
  obtain ⟨cv, hcv⟩ : ∃ cv, cntK ks 3 3 dw (m + 1) = cv := ⟨_, rfl⟩
  rw [hcv] at CN HD
  have HV := Lib.hid (show docBreaks x ks m 1 = decide (x 5 < cv) from HD.out)
  have q5 : ∀ p : BelowOf w4, p.world.cell? ⟨w.heap.size, 5, none⟩ = some (.int .i64 (x 5)) := fun p => p.cell (RB4.2 5 (by omega))
  clear HD hcv CC CB
  go_wp2
  refine wp_region_bel (by kernel_rfl) (by kernel_rfl) ?_
  repeat (go_big_quiet_step (first | (go_at_call 51; (with_reducible exact Calls.bel_of (CN _)))))
  refine wpQuiet_nil ?_
  refine bel_all fun w5 hb5 => ?_
  go_wp2
  go_ret
  exact ⟨by rw [HV.out]; try rfl, HB4.out.trans (hb5.mono HB4.out.size)⟩

end Go.Proofs.Ytlbafgdbemhanaa

/- What the document's Breaks of layer 16 tells of clause 2. Conditions: the kinds can be read; the book may be. -/
namespace Go.Proofs.Ytlbafgdbemhanaa
open Go.RowKit

set_option maxRecDepth 20000 in
set_option maxHeartbeats 8000000 in
theorem breaks16_2 (x : Nat → Int) (A : Option Addr) (c n m : Nat) (ks : List Int) (w : World) (hk : ks.length = n) (hr : RdN w A ks) (h4 : n ≤ 40320) (hm : m < n) (hx : May x) :
    Calls Try.prog 30 #[.agg (bk x), .slice A n c, .int .i64 (m : Nat), .int .i64 2] w fun e w' => e = .returned (.bool (docBreaks x ks m 2)) ∧ Below w.heap.size w w' := by
  have RC := fun W h => rests16_any A c n m ks W hk h (by omega) (by omega)
  have HK := Lib.hid hk
  have hfull := full_ok ks m
  have hlen := rests_len ks m
  change Lk (restsL ks m) _ at hfull
  obtain ⟨L, hL⟩ : ∃ L, restsL ks m = L := ⟨_, rfl⟩
  rw [hL] at hfull hlen
  have HT : Hid (InT L) := Lib.hid fun q hq => by have := hfull.each q hq; omega
  have HI : Hid (∀ q ∈ L, q.2 ≤ n) := Lib.hid fun q hq => by have := hfull.each q hq; omega
  have HX := Lib.hid hx
  have HLL := Lib.hid hL
  rw [hL] at RC
  have hx18 : 1 ≤ x 18 ∧ x 18 ≤ 40320 := by
    have := hx.1 18 (by omega)
    unfold lim at this
    split at this <;> omega
  obtain ⟨hx18a, hx18b⟩ := hx18
  have RB : RdI (w.alloc (.cells (bk x) 23)) w.heap.size 0 x := RdI.new x 23 rfl
  have hB0 : Below w.heap.size w (w.alloc (.cells (bk x) 23)) := b_al (Below.refl _ _) (Nat.le_refl _) _
  have h0 := hr.below hB0
  clear hL hfull hr hx hk
  go_enter Try.func30, Try.ntmps30
  go_wp2_with (go_at_call 49; (with_reducible refine (RC _ h0).mono ?_); rintro e w1 ⟨v, rfl, hown, hb1⟩; obtain ⟨A5, c5, rfl, hrd, hcap, _⟩ := hown.form; clear hown)
  have RB1 := RB.below hb1
  have HK1 := Lib.hid (h0.below hb1)
  have HB1 := Lib.hid (b_cl hB0 (Nat.le_refl _) hb1)
  have HRD := Lib.hid hrd
  have L8 := last_bd (long := x 8) (cut := (m : Int)) HT.out
  have L13 := last_bd (long := x 13) (cut := (m : Int)) HT.out
  have HLN : Hid (L.length = L.length) := Lib.hid rfl
  obtain ⟨q, hq⟩ : ∃ q, L.length = q := ⟨_, rfl⟩
  rw [hq] at hlen hcap ⊢
  have HQ := Lib.hid hq
  have CL1 := fun p : BelowOf w1 => last16_any A5 c5 q L (x 8) (m : Int) p.world HQ.out (HRD.out.below p.ok) HT.out (by omega)
  have CL2 := fun p : BelowOf w1 => last16_any A5 c5 q L (x 13) (m : Int) p.world HQ.out (HRD.out.below p.ok) HT.out (by omega)
  obtain ⟨dw, hdw⟩ : ∃ dw, docLast L (x 8) (m : Int) = dw := ⟨_, rfl⟩
  obtain ⟨sb, hsb⟩ : ∃ sb, docLast L (x 13) (m : Int) = sb := ⟨_, rfl⟩
  have HDW := Lib.hid hdw
  have HSB := Lib.hid hsb
  rw [hdw] at CL1 L8
  rw [hsb] at CL2 L13
  have q8 : ∀ p : BelowOf w1, p.world.cell? ⟨w.heap.size, 8, none⟩ = some (.int .i64 (x 8)) := fun p => p.cell (RB1.2 8 (by omega))
  have q13 : ∀ p : BelowOf w1, p.world.cell? ⟨w.heap.size, 13, none⟩ = some (.int .i64 (x 13)) := fun p => p.cell (RB1.2 13 (by omega))
  clear hdw hsb hq RB h0 hB0 hb1 hrd RC HLN
  refine wp_region_bel (by kernel_rfl) (by kernel_rfl) ?_
  repeat (go_big_quiet_step (first | (go_at_call 50; (with_reducible exact Calls.bel_of (CL1 _))) | (go_at_call 50; (with_reducible exact Calls.bel_of (CL2 _)))))
  refine wpQuiet_nil ?_
  refine bel_all fun w2 hb2 => ?_
  have RB2 := RB1.below hb2
  have HK2 := Lib.hid (HK1.out.below hb2)
  have HRD2 := Lib.hid (HRD.out.below hb2)
  have HB2 := Lib.hid (HB1.out.trans (hb2.mono HB1.out.size))
  clear q8 q13 CL1 CL2 RB1 HK1 HRD HB1 hb2
  have hil : m < ks.length := by rw [HK.out]; exact hm
  obtain ⟨ba, ka, rfl, hba, hkc⟩ := HK2.out (nonnil hil)
  have hkm := hkc m hil
  rw [show ks.getD m 0 = kAt ks m from rfl] at hkm
  obtain ⟨kv, hkv⟩ : ∃ kv, kAt ks m = kv := ⟨_, rfl⟩
  rw [hkv] at hkm
  have HKV := Lib.hid hkv
  have f18 : w2.cell? ⟨w.heap.size, 18, none⟩ = some (.int .i64 (x 18)) := RB2.2 18 (by omega)
  have m0 : (0 : Int) ≤ (m : Int) := by omega
  have m1 : (m : Int) < (n : Int) := by omega
  have ne18 : (x 18 == 0) = false := by simp; omega
  have ne18b : ¬ x 18 = 0 := by omega
  have hr0 := Int.emod_nonneg (m : Int) (show x 18 ≠ 0 by omega)
  have hr1 := mod_le (show (0 : Int) ≤ (m : Int) by omega) hx18a
  have etm : (m : Int).tmod (x 18) = (m : Int) % x 18 := Int.tmod_eq_emod_of_nonneg (by omega)
  obtain ⟨rm, hrm⟩ : ∃ rm, (m : Int) % x 18 = rm := ⟨_, rfl⟩
  rw [hrm] at hr0 hr1 etm
  have HRM := Lib.hid hrm
  have hwrm := wrap14 rm (by omega) (by omega)
  have hww : IntKind.i64.wrap ((m : Int) - rm) = (m : Int) - rm := wrap14 _ (by omega) (by omega)
  clear hkv hrm hkc
  go_upto_region 5 with fail
  clear f18 etm hwrm hww ne18 ne18b
  (try go_frame)
  go_cut [14] (fun u14 wx => u14 = .bool (endsB L m) ∧ Below w2.heap.size w2 wx)
  case first =>
    rcases Nat.eq_zero_or_pos q with hq0 | hq0
    case inl =>
      subst hq0
      have he : endsB L m = false := by unfold endsB; rw [HQ.out]; rfl
      have HE := Lib.hid he
      have d0 : decide ((0 : Int) < 0) = false := by decide
      clear he
      go_wp2
      go_meet
      exact ⟨by rw [HE.out], Below.refl _ _⟩
    case inr =>
      obtain ⟨j, rfl⟩ : ∃ j, q = j + 1 := ⟨q - 1, by omega⟩
      have hjl : j < L.length := by rw [HQ.out]; omega
      obtain ⟨b, off, f, t, rfl, hbb, hc0, hc1, hs⟩ := HRD2.out.at_ hjl
      have he : endsB L m = (t == (m : Int)) := by
        unfold endsB; rw [HQ.out, Nat.add_sub_cancel, hs.out]; simp
      have HE := Lib.hid he
      have d0 : decide ((0 : Int) < (j : Int) + 1) = true := decide_eq_true (by omega)
      have d1 : (j : Int) + 1 - 1 = (j : Int) := by omega
      have j0 : (0 : Int) ≤ (j : Int) := by omega
      have j1 : (j : Int) < (j : Int) + 1 := by omega
      clear he hs
      go_wp2
      go_meet
      exact ⟨by rw [HE.out], Below.refl _ _⟩
  case rest =>
  obtain ⟨rfl, hb3⟩ := hcut
  rename World => w4
  have RB4 := RB2.below hb3
  have HK4 := Lib.hid (HK2.out.below hb3)
  have HR4 := Lib.hid (HRD2.out.below hb3)
  have HB4 := Lib.hid (HB2.out.trans (hb3.mono HB2.out.size))
  rw [← hb3.cell (p := ⟨ba, _, none⟩) hba] at hkm
  have hbw : ba < w4.heap.size := by have := hb3.size; omega
  have RQ : ∀ w', (∃ p : BelowOf w4, w' = p.world) → RdI w' w.heap.size 0 x := fun _ ⟨p, e⟩ => e ▸ RB4.below p.ok
  have CC := fun (a b lo hi : Int) (p : BelowOf w4) a1 a2 a3 a4 => (count16_any _ c n ks a b lo hi p.world HK.out (HK4.out.below p.ok) a1 a2 a3 a4 (by omega)).mono fun e w' (q : e = _ ∧ p.world = w') => (⟨q.1, q.2 ▸ Below.refl _ _⟩ : e = .returned (.int .i64 (cntK ks a b lo (hi + 1).toNat)) ∧ Below p.world.heap.size p.world w')
  have CB := fun p : BelowOf w4 => brkend16_any x A5 c5 q L p.world HQ.out (HR4.out.below p.ok) HT.out (by omega)
  have em : ((m : Int) + 1).toNat = m + 1 := by omega
  clear hb3 HK2 HRD2 HB2 RB2 hba
  have HD := Lib.hid (show docBreaks x ks m 2 = (decide (kv = 3) && (decide (cntK ks 3 3 dw (m + 1) = x 4 + 1) && decide (x 6 < longN x ks L sb m))) by
    have hdoc : docBreaks x ks m 2 = (decide (kAt ks m = 3) && (decide (cntK ks 3 3 (docLast (restsL ks m) (x 8) m) (m + 1) = x 4 + 1) && decide (x 6 < longN x ks (restsL ks m) (docLast (restsL ks m) (x 13) m) m))) := rfl
    rw [hdoc, HLL.out, HKV.out, HDW.out, HSB.out])
  by_cases hk3 : kv = 3
  case neg =>
    have e3 : (kv == 3) = false := by simpa using hk3
    have HV := Lib.hid (show docBreaks x ks m 2 = false by rw [HD.out, decide_eq_false hk3]; rfl)
    clear hk3 HD CC CB
    rw [e3]
    go_wp2
    refine wp_region_bel (by kernel_rfl) (by kernel_rfl) ?_
    repeat (go_big_quiet_step (first | (fail)))
    refine wpQuiet_nil ?_
    refine bel_all fun w5 hb5 => ?_
    go_wp2
    go_ret
    exact ⟨by rw [HV.out]; try rfl, HB4.out.trans (hb5.mono HB4.out.size)⟩
  have e3 : (kv == 3) = true := by simpa using hk3
  rw [e3]
  have HD := Lib.hid (show _ = _ from HD.out)
  rw [decide_eq_true hk3, Bool.true_and] at HD
  clear hk3
  have t4 := may_time HX.out 4 (by omega)
  have hw1 := wrap14 (x 4 + 1) (by omega) (by omega)
  have CN := fun p : BelowOf w4 => CC 3 3 dw (m : Int) p (by omega) (by omega) (by omega) (by omega)
  rw [em] at CN
  have CG := fun p : BelowOf w4 => longers16_any x _ A5 c n c5 q m ks L sb p.world HK.out (HK4.out.below p.ok) HQ.out (HR4.out.below p.ok) HT.out HI.out h4 (by omega) hm L13.1 L13.2
  obtain ⟨cv, hcv⟩ : ∃ cv, cntK ks 3 3 dw (m + 1) = cv := ⟨_, rfl⟩
  obtain ⟨lv, hlv⟩ : ∃ lv, longN x ks L sb m = lv := ⟨_, rfl⟩
  rw [hcv] at CN HD
  rw [hlv] at CG HD
  have q4 : ∀ p : BelowOf w4, p.world.cell? ⟨w.heap.size, 4, none⟩ = some (.int .i64 (x 4)) := fun p => p.cell (RB4.2 4 (by omega))
  have q6 : ∀ p : BelowOf w4, p.world.cell? ⟨w.heap.size, 6, none⟩ = some (.int .i64 (x 6)) := fun p => p.cell (RB4.2 6 (by omega))
  clear hcv hlv CC CB
  by_cases g1 : cv = x 4 + 1
  case neg =>
    have e1 : (cv == x 4 + 1) = false := by simpa using g1
    have HV := Lib.hid (show docBreaks x ks m 2 = false by rw [HD.out, decide_eq_false g1]; rfl)
    clear HD g1
    go_wp2
    refine wp_region_bel (by kernel_rfl) (by kernel_rfl) ?_
    repeat (go_big_quiet_step (first | (go_at_call 51; (with_reducible exact Calls.bel_of (CN _))) | (go_at_call 53; (with_reducible exact Calls.bel_of (CG _)))))
    refine wpQuiet_nil ?_
    refine bel_all fun w5 hb5 => ?_
    go_wp2
    go_ret
    exact ⟨by rw [HV.out]; try rfl, HB4.out.trans (hb5.mono HB4.out.size)⟩
  have e1 : (cv == x 4 + 1) = true := by simpa using g1
  have HV := Lib.hid (show docBreaks x ks m 2 = decide (x 6 < lv) by rw [HD.out, decide_eq_true g1]; rfl)
  clear HD g1
  go_wp2
  refine wp_region_bel (by kernel_rfl) (by kernel_rfl) ?_
  repeat (go_big_quiet_step (first | (go_at_call 51; (with_reducible exact Calls.bel_of (CN _))) | (go_at_call 53; (with_reducible exact Calls.bel_of (CG _)))))
  refine wpQuiet_load_bk (by rfl) 23 _ rfl _ _ rfl x _ RQ Try.underlying23 rfl (by kernel_rfl) ?_
  go_frame
  repeat (go_big_quiet_step (first | (go_at_call 51; (with_reducible exact Calls.bel_of (CN _))) | (go_at_call 53; (with_reducible exact Calls.bel_of (CG _)))))
  refine wpQuiet_nil ?_
  refine bel_all fun w5 hb5 => ?_
  go_wp2
  go_ret
  exact ⟨by rw [HV.out]; try rfl, HB4.out.trans (hb5.mono HB4.out.size)⟩

end Go.Proofs.Ytlbafgdbemhanaa

/- What the document's Breaks of layer 16 tells of clause 3. Conditions: the kinds can be read; the book may be. -/
namespace Go.Proofs.Ytlbafgdbemhanaa
open Go.RowKit

set_option maxRecDepth 20000 in
set_option maxHeartbeats 8000000 in
theorem breaks16_3 (x : Nat → Int) (A : Option Addr) (c n m : Nat) (ks : List Int) (w : World) (hk : ks.length = n) (hr : RdN w A ks) (h4 : n ≤ 40320) (hm : m < n) (hx : May x) :
    Calls Try.prog 30 #[.agg (bk x), .slice A n c, .int .i64 (m : Nat), .int .i64 3] w fun e w' => e = .returned (.bool (docBreaks x ks m 3)) ∧ Below w.heap.size w w' := by
  have RC := fun W h => rests16_any A c n m ks W hk h (by omega) (by omega)
  have HK := Lib.hid hk
  have hfull := full_ok ks m
  have hlen := rests_len ks m
  change Lk (restsL ks m) _ at hfull
  obtain ⟨L, hL⟩ : ∃ L, restsL ks m = L := ⟨_, rfl⟩
  rw [hL] at hfull hlen
  have HT : Hid (InT L) := Lib.hid fun q hq => by have := hfull.each q hq; omega
  have HI : Hid (∀ q ∈ L, q.2 ≤ n) := Lib.hid fun q hq => by have := hfull.each q hq; omega
  have HX := Lib.hid hx
  have HLL := Lib.hid hL
  rw [hL] at RC
  have hx18 : 1 ≤ x 18 ∧ x 18 ≤ 40320 := by
    have := hx.1 18 (by omega)
    unfold lim at this
    split at this <;> omega
  obtain ⟨hx18a, hx18b⟩ := hx18
  have RB : RdI (w.alloc (.cells (bk x) 23)) w.heap.size 0 x := RdI.new x 23 rfl
  have hB0 : Below w.heap.size w (w.alloc (.cells (bk x) 23)) := b_al (Below.refl _ _) (Nat.le_refl _) _
  have h0 := hr.below hB0
  clear hL hfull hr hx hk
  go_enter Try.func30, Try.ntmps30
  go_wp2_with (go_at_call 49; (with_reducible refine (RC _ h0).mono ?_); rintro e w1 ⟨v, rfl, hown, hb1⟩; obtain ⟨A5, c5, rfl, hrd, hcap, _⟩ := hown.form; clear hown)
  have RB1 := RB.below hb1
  have HK1 := Lib.hid (h0.below hb1)
  have HB1 := Lib.hid (b_cl hB0 (Nat.le_refl _) hb1)
  have HRD := Lib.hid hrd
  have L8 := last_bd (long := x 8) (cut := (m : Int)) HT.out
  have L13 := last_bd (long := x 13) (cut := (m : Int)) HT.out
  have HLN : Hid (L.length = L.length) := Lib.hid rfl
  obtain ⟨q, hq⟩ : ∃ q, L.length = q := ⟨_, rfl⟩
  rw [hq] at hlen hcap ⊢
  have HQ := Lib.hid hq
  have CL1 := fun p : BelowOf w1 => last16_any A5 c5 q L (x 8) (m : Int) p.world HQ.out (HRD.out.below p.ok) HT.out (by omega)
  have CL2 := fun p : BelowOf w1 => last16_any A5 c5 q L (x 13) (m : Int) p.world HQ.out (HRD.out.below p.ok) HT.out (by omega)
  obtain ⟨dw, hdw⟩ : ∃ dw, docLast L (x 8) (m : Int) = dw := ⟨_, rfl⟩
  obtain ⟨sb, hsb⟩ : ∃ sb, docLast L (x 13) (m : Int) = sb := ⟨_, rfl⟩
  have HDW := Lib.hid hdw
  have HSB := Lib.hid hsb
  rw [hdw] at CL1 L8
  rw [hsb] at CL2 L13
  have q8 : ∀ p : BelowOf w1, p.world.cell? ⟨w.heap.size, 8, none⟩ = some (.int .i64 (x 8)) := fun p => p.cell (RB1.2 8 (by omega))
  have q13 : ∀ p : BelowOf w1, p.world.cell? ⟨w.heap.size, 13, none⟩ = some (.int .i64 (x 13)) := fun p => p.cell (RB1.2 13 (by omega))
  clear hdw hsb hq RB h0 hB0 hb1 hrd RC HLN
  refine wp_region_bel (by kernel_rfl) (by kernel_rfl) ?_
  repeat (go_big_quiet_step (first | (go_at_call 50; (with_reducible exact Calls.bel_of (CL1 _))) | (go_at_call 50; (with_reducible exact Calls.bel_of (CL2 _)))))
  refine wpQuiet_nil ?_
  refine bel_all fun w2 hb2 => ?_
  have RB2 := RB1.below hb2
  have HK2 := Lib.hid (HK1.out.below hb2)
  have HRD2 := Lib.hid (HRD.out.below hb2)
  have HB2 := Lib.hid (HB1.out.trans (hb2.mono HB1.out.size))
  clear q8 q13 CL1 CL2 RB1 HK1 HRD HB1 hb2
  have hil : m < ks.length := by rw [HK.out]; exact hm
  obtain ⟨ba, ka, rfl, hba, hkc⟩ := HK2.out (nonnil hil)
  have hkm := hkc m hil
  rw [show ks.getD m 0 = kAt ks m from rfl] at hkm
  obtain ⟨kv, hkv⟩ : ∃ kv, kAt ks m = kv := ⟨_, rfl⟩
  rw [hkv] at hkm
  have HKV := Lib.hid hkv
  have f18 : w2.cell? ⟨w.heap.size, 18, none⟩ = some (.int .i64 (x 18)) := RB2.2 18 (by omega)
  have m0 : (0 : Int) ≤ (m : Int) := by omega
  have m1 : (m : Int) < (n : Int) := by omega
  have ne18 : (x 18 == 0) = false := by simp; omega
  have ne18b : ¬ x 18 = 0 := by omega
  have hr0 := Int.emod_nonneg (m : Int) (show x 18 ≠ 0 by omega)
  have hr1 := mod_le (show (0 : Int) ≤ (m : Int) by omega) hx18a
  have etm : (m : Int).tmod (x 18) = (m : Int) % x 18 := Int.tmod_eq_emod_of_nonneg (by omega)
  obtain ⟨rm, hrm⟩ : ∃ rm, (m : Int) % x 18 = rm := ⟨_, rfl⟩
  rw [hrm] at hr0 hr1 etm
  have HRM := Lib.hid hrm
  have hwrm := wrap14 rm (by omega) (by omega)
  have hww : IntKind.i64.wrap ((m : Int) - rm) = (m : Int) - rm := wrap14 _ (by omega) (by omega)
  clear hkv hrm hkc
  go_upto_region 5 with fail
  clear f18 etm hwrm hww ne18 ne18b
  (try go_frame)
  go_cut [14] (fun u14 wx => u14 = .bool (endsB L m) ∧ Below w2.heap.size w2 wx)
  case first =>
    rcases Nat.eq_zero_or_pos q with hq0 | hq0
    case inl =>
      subst hq0
      have he : endsB L m = false := by unfold endsB; rw [HQ.out]; rfl
      have HE := Lib.hid he
      have d0 : decide ((0 : Int) < 0) = false := by decide
      clear he
      go_wp2
      go_meet
      exact ⟨by rw [HE.out], Below.refl _ _⟩
    case inr =>
      obtain ⟨j, rfl⟩ : ∃ j, q = j + 1 := ⟨q - 1, by omega⟩
      have hjl : j < L.length := by rw [HQ.out]; omega
      obtain ⟨b, off, f, t, rfl, hbb, hc0, hc1, hs⟩ := HRD2.out.at_ hjl
      have he : endsB L m = (t == (m : Int)) := by
        unfold endsB; rw [HQ.out, Nat.add_sub_cancel, hs.out]; simp
      have HE := Lib.hid he
      have d0 : decide ((0 : Int) < (j : Int) + 1) = true := decide_eq_true (by omega)
      have d1 : (j : Int) + 1 - 1 = (j : Int) := by omega
      have j0 : (0 : Int) ≤ (j : Int) := by omega
      have j1 : (j : Int) < (j : Int) + 1 := by omega
      clear he hs
      go_wp2
      go_meet
      exact ⟨by rw [HE.out], Below.refl _ _⟩
  case rest =>
  obtain ⟨rfl, hb3⟩ := hcut
  rename World => w4
  have RB4 := RB2.below hb3
  have HK4 := Lib.hid (HK2.out.below hb3)
  have HR4 := Lib.hid (HRD2.out.below hb3)
  have HB4 := Lib.hid (HB2.out.trans (hb3.mono HB2.out.size))
  rw [← hb3.cell (p := ⟨ba, _, none⟩) hba] at hkm
  have hbw : ba < w4.heap.size := by have := hb3.size; omega
  have RQ : ∀ w', (∃ p : BelowOf w4, w' = p.world) → RdI w' w.heap.size 0 x := fun _ ⟨p, e⟩ => e ▸ RB4.below p.ok
  have CC := fun (a b lo hi : Int) (p : BelowOf w4) a1 a2 a3 a4 => (count16_any _ c n ks a b lo hi p.world HK.out (HK4.out.below p.ok) a1 a2 a3 a4 (by omega)).mono fun e w' (q : e = _ ∧ p.world = w') => (⟨q.1, q.2 ▸ Below.refl _ _⟩ : e = .returned (.int .i64 (cntK ks a b lo (hi + 1).toNat)) ∧ Below p.world.heap.size p.world w')
  have CB := fun p : BelowOf w4 => brkend16_any x A5 c5 q L p.world HQ.out (HR4.out.below p.ok) HT.out (by omega)
  have em : ((m : Int) + 1).toNat = m + 1 := by omega
  clear hb3 HK2 HRD2 HB2 RB2 hba
  have HD := Lib.hid (show docBreaks x ks m 3 = (decide (kv = 3) && decide (x 15 < cntK ks 3 3 ((m : Int) - rm) (m + 1))) by
    have hdoc : docBreaks x ks m 3 = (decide (kAt ks m = 3) && decide (x 15 < cntK ks 3 3 ((m : Int) - (m : Int) % x 18) (m + 1))) := rfl
    rw [hdoc, HKV.out, HRM.out])
  by_cases hk3 : kv = 3
  case neg =>
    have e3 : (kv == 3) = false := by simpa using hk3
    have HV := Lib.hid (show docBreaks x ks m 3 = false by rw [HD.out, decide_eq_false hk3]; rfl)
    clear hk3 HD CC CB
    rw [e3]
    go_wp2
    refine wp_region_bel (by kernel_rfl) (by kernel_rfl) ?_
    repeat (go_big_quiet_step (first | (fail)))
    refine wpQuiet_nil ?_
    refine bel_all fun w5 hb5 => ?_
    go_wp2
    go_ret
    exact ⟨by rw [HV.out]; try rfl, HB4.out.trans (hb5.mono HB4.out.size)⟩
  have e3 : (kv == 3) = true := by simpa using hk3
  rw [e3]
  have HD := Lib.hid (show _ = _ from HD.out)
  rw [decide_eq_true hk3, Bool.true_and] at HD
  clear hk3
  have CN := fun p : BelowOf w4 => CC 3 3 ((m : Int) - rm) (m : Int) p (by omega) (by omega) (by omega) (by omega)
  rw [em] at CN
  obtain ⟨cv, hcv⟩ : ∃ cv, cntK ks 3 3 ((m : Int) - rm) (m + 1) = cv := ⟨_, rfl⟩
  rw [hcv] at CN HD
  have HV := Lib.hid (show docBreaks x ks m 3 = decide (x 15 < cv) from HD.out)
  have q15 : ∀ p : BelowOf w4, p.world.cell? ⟨w.heap.size, 15, none⟩ = some (.int .i64 (x 15)) := fun p => p.cell (RB4.2 15 (by omega))
  clear HD hcv CC CB
  go_wp2
  refine wp_region_bel (by kernel_rfl) (by kernel_rfl) ?_
  repeat (go_big_quiet_step (first | (go_at_call 51; (with_reducible exact Calls.bel_of (CN _)))))
  refine wpQuiet_nil ?_
  refine bel_all fun w5 hb5 => ?_
  go_wp2
  go_ret
  exact ⟨by rw [HV.out]; try rfl, HB4.out.trans (hb5.mono HB4.out.size)⟩

end Go.Proofs.Ytlbafgdbemhanaa
