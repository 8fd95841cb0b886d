/- Several texts in one: DutyBrk6, DutyBrk8, DutySince. Conditions: none beyond each lemma's own premises. -/
import Derived.Test.YtlbafgdbemhanaaRows
import Derived.Test.YtlbafgdbemhanaaBase
import Derived.Test.YtlbafgdbemhanaaZ2
import Derived.Test.YtlbafgdbemhanaaBookLim
import Derived.Test.YtlbafgdbemhanaaZ1
import Derived.Test.YtlbafgdbemhanaaY1
import Derived.Test.YtlbafgdbemhanaaZ3
import Derived.Test.YtlbafgdbemhanaaZ4
import Derived.Outline
import Derived.Deep.DeepCutAuto
import Derived.StillTailTactics
import Derived.WalkKit
import Derived.WalkSpells
import Derived.WalkSmall
import Derived.Below
import Derived.OwnWalk
import Derived.BigQuiet
import Derived.Deep.QuietTactic
import Derived.BigRegion
import Derived.Lib.Hide

/- What the document's Breaks of layer 16 tells of clause 6. Conditions: the kinds can be read; the book may be. -/
namespace Go.Proofs.Ytlbafgdbemhanaa
open Go.RowKit

set_option maxRecDepth 20000 in
set_option maxHeartbeats 8000000 in
theorem breaks16_6 (x : Nat → Int) (A : Option Addr) (c n m : Nat) (ks : List Int) (w : World) (hk : ks.length = n) (hr : RdN w A ks) (h4 : n ≤ 40320) (hm : m < n) (hx : May x) :
    Calls Try.prog 30 #[.agg (bk x), .slice A n c, .int .i64 (m : Nat), .int .i64 6] w fun e w' => e = .returned (.bool (docBreaks x ks m 6)) ∧ Below w.heap.size w w' := by
  have RC := fun W h => rests16_any A c n m ks W hk h (by omega) (by omega)
  have HK := Lib.hid hk
  have hfull := full_ok ks m
  have hlen := rests_len ks m
  change Lk (restsL ks m) _ at hfull
  obtain ⟨L, hL⟩ : ∃ L, restsL ks m = L := ⟨_, rfl⟩
  rw [hL] at hfull hlen
  have HT : Hid (InT L) := Lib.hid fun q hq => by have := hfull.each q hq; omega
  have HI : Hid (∀ q ∈ L, q.2 ≤ n) := Lib.hid fun q hq => by have := hfull.each q hq; omega
  have HX := Lib.hid hx
  have HLL := Lib.hid hL
  rw [hL] at RC
  have hx18 : 1 ≤ x 18 ∧ x 18 ≤ 40320 := by
    have := hx.1 18 (by omega)
    unfold lim at this
    split at this <;> omega
  obtain ⟨hx18a, hx18b⟩ := hx18
  have RB : RdI (w.alloc (.cells (bk x) 23)) w.heap.size 0 x := RdI.new x 23 rfl
  have hB0 : Below w.heap.size w (w.alloc (.cells (bk x) 23)) := b_al (Below.refl _ _) (Nat.le_refl _) _
  have h0 := hr.below hB0
  clear hL hfull hr hx hk
  go_enter Try.func30, Try.ntmps30
  go_wp2_with (go_at_call 49; (with_reducible refine (RC _ h0).mono ?_); rintro e w1 ⟨v, rfl, hown, hb1⟩; obtain ⟨A5, c5, rfl, hrd, hcap, _⟩ := hown.form; clear hown)
  have RB1 := RB.below hb1
  have HK1 := Lib.hid (h0.below hb1)
  have HB1 := Lib.hid (b_cl hB0 (Nat.le_refl _) hb1)
  have HRD := Lib.hid hrd
  have L8 := last_bd (long := x 8) (cut := (m : Int)) HT.out
  have L13 := last_bd (long := x 13) (cut := (m : Int)) HT.out
  have HLN : Hid (L.length = L.length) := Lib.hid rfl
  obtain ⟨q, hq⟩ : ∃ q, L.length = q := ⟨_, rfl⟩
  rw [hq] at hlen hcap ⊢
  have HQ := Lib.hid hq
  have CL1 := fun p : BelowOf w1 => last16_any A5 c5 q L (x 8) (m : Int) p.world HQ.out (HRD.out.below p.ok) HT.out (by omega)
  have CL2 := fun p : BelowOf w1 => last16_any A5 c5 q L (x 13) (m : Int) p.world HQ.out (HRD.out.below p.ok) HT.out (by omega)
  obtain ⟨dw, hdw⟩ : ∃ dw, docLast L (x 8) (m : Int) = dw := ⟨_, rfl⟩
  obtain ⟨sb, hsb⟩ : ∃ sb, docLast L (x 13) (m : Int) = sb := ⟨_, rfl⟩
  have HDW := Lib.hid hdw
  have HSB := Lib.hid hsb
  rw [hdw] at CL1 L8
  rw [hsb] at CL2 L13
  have q8 : ∀ p : BelowOf w1, p.world.cell? ⟨w.heap.size, 8, none⟩ = some (.int .i64 (x 8)) := fun p => p.cell (RB1.2 8 (by omega))
  have q13 : ∀ p : BelowOf w1, p.world.cell? ⟨w.heap.size, 13, none⟩ = some (.int .i64 (x 13)) := fun p => p.cell (RB1.2 13 (by omega))
  clear hdw hsb hq RB h0 hB0 hb1 hrd RC HLN
  refine wp_region_bel (by kernel_rfl) (by kernel_rfl) ?_
  repeat (go_big_quiet_step (first | (go_at_call 50; (with_reducible exact Calls.bel_of (CL1 _))) | (go_at_call 50; (with_reducible exact Calls.bel_of (CL2 _)))))
  refine wpQuiet_nil ?_
  refine bel_all fun w2 hb2 => ?_
  have RB2 := RB1.below hb2
  have HK2 := Lib.hid (HK1.out.below hb2)
  have HRD2 := Lib.hid (HRD.out.below hb2)
  have HB2 := Lib.hid (HB1.out.trans (hb2.mono HB1.out.size))
  clear q8 q13 CL1 CL2 RB1 HK1 HRD HB1 hb2
  have hil : m < ks.length := by rw [HK.out]; exact hm
  obtain ⟨ba, ka, rfl, hba, hkc⟩ := HK2.out (nonnil hil)
  have hkm := hkc m hil
  rw [show ks.getD m 0 = kAt ks m from rfl] at hkm
  obtain ⟨kv, hkv⟩ : ∃ kv, kAt ks m = kv := ⟨_, rfl⟩
  rw [hkv] at hkm
  have HKV := Lib.hid hkv
  have f18 : w2.cell? ⟨w.heap.size, 18, none⟩ = some (.int .i64 (x 18)) := RB2.2 18 (by omega)
  have m0 : (0 : Int) ≤ (m : Int) := by omega
  have m1 : (m : Int) < (n : Int) := by omega
  have ne18 : (x 18 == 0) = false := by simp; omega
  have ne18b : ¬ x 18 = 0 := by omega
  have hr0 := Int.emod_nonneg (m : Int) (show x 18 ≠ 0 by omega)
  have hr1 := mod_le (show (0 : Int) ≤ (m : Int) by omega) hx18a
  have etm : (m : Int).tmod (x 18) = (m : Int) % x 18 := Int.tmod_eq_emod_of_nonneg (by omega)
  obtain ⟨rm, hrm⟩ : ∃ rm, (m : Int) % x 18 = rm := ⟨_, rfl⟩
  rw [hrm] at hr0 hr1 etm
  have HRM := Lib.hid hrm
  have hwrm := wrap14 rm (by omega) (by omega)
  have hww : IntKind.i64.wrap ((m : Int) - rm) = (m : Int) - rm := wrap14 _ (by omega) (by omega)
  clear hkv hrm hkc
  go_upto_region 5 with fail
  clear f18 etm hwrm hww ne18 ne18b
  (try go_frame)
  go_cut [14] (fun u14 wx => u14 = .bool (endsB L m) ∧ Below w2.heap.size w2 wx)
  case first =>
    rcases Nat.eq_zero_or_pos q with hq0 | hq0
    case inl =>
      subst hq0
      have he : endsB L m = false := by unfold endsB; rw [HQ.out]; rfl
      have HE := Lib.hid he
      have d0 : decide ((0 : Int) < 0) = false := by decide
      clear he
      go_wp2
      go_meet
      exact ⟨by rw [HE.out], Below.refl _ _⟩
    case inr =>
      obtain ⟨j, rfl⟩ : ∃ j, q = j + 1 := ⟨q - 1, by omega⟩
      have hjl : j < L.length := by rw [HQ.out]; omega
      obtain ⟨b, off, f, t, rfl, hbb, hc0, hc1, hs⟩ := HRD2.out.at_ hjl
      have he : endsB L m = (t == (m : Int)) := by
        unfold endsB; rw [HQ.out, Nat.add_sub_cancel, hs.out]; simp
      have HE := Lib.hid he
      have d0 : decide ((0 : Int) < (j : Int) + 1) = true := decide_eq_true (by omega)
      have d1 : (j : Int) + 1 - 1 = (j : Int) := by omega
      have j0 : (0 : Int) ≤ (j : Int) := by omega
      have j1 : (j : Int) < (j : Int) + 1 := by omega
      clear he hs
      go_wp2
      go_meet
      exact ⟨by rw [HE.out], Below.refl _ _⟩
  case rest =>
  obtain ⟨rfl, hb3⟩ := hcut
  rename World => w4
  have RB4 := RB2.below hb3
  have HK4 := Lib.hid (HK2.out.below hb3)
  have HR4 := Lib.hid (HRD2.out.below hb3)
  have HB4 := Lib.hid (HB2.out.trans (hb3.mono HB2.out.size))
  rw [← hb3.cell (p := ⟨ba, _, none⟩) hba] at hkm
  have hbw : ba < w4.heap.size := by have := hb3.size; omega
  have RQ : ∀ w', (∃ p : BelowOf w4, w' = p.world) → RdI w' w.heap.size 0 x := fun _ ⟨p, e⟩ => e ▸ RB4.below p.ok
  have CC := fun (a b lo hi : Int) (p : BelowOf w4) a1 a2 a3 a4 => (count16_any _ c n ks a b lo hi p.world HK.out (HK4.out.below p.ok) a1 a2 a3 a4 (by omega)).mono fun e w' (q : e = _ ∧ p.world = w') => (⟨q.1, q.2 ▸ Below.refl _ _⟩ : e = .returned (.int .i64 (cntK ks a b lo (hi + 1).toNat)) ∧ Below p.world.heap.size p.world w')
  have CB := fun p : BelowOf w4 => brkend16_any x A5 c5 q L p.world HQ.out (HR4.out.below p.ok) HT.out (by omega)
  have em : ((m : Int) + 1).toNat = m + 1 := by omega
  clear hb3 HK2 HRD2 HB2 RB2 hba
  have HD := Lib.hid (show docBreaks x ks m 6 = (endsB L m && (docRed x L (q - 1) && decide (x 9 < docRedN x L sb q))) by
    have hdoc : docBreaks x ks m 6 = (endsB (restsL ks m) m && (docRed x (restsL ks m) ((restsL ks m).length - 1) && decide (x 9 < docRedN x (restsL ks m) (docLast (restsL ks m) (x 13) m) (restsL ks m).length))) := rfl
    rw [hdoc, HLL.out, HSB.out, HQ.out])
  have he0 : q = 0 → endsB L m = false := fun h => by unfold endsB; rw [HQ.out, h]; rfl
  obtain ⟨eb, heb⟩ : ∃ eb, endsB L m = eb := ⟨_, rfl⟩
  rw [heb] at HD he0 ⊢
  clear CC CB RQ heb
  have HE0 := Lib.hid he0
  clear he0
  go_wp2_with fail
  go_loopw [15, 16] (fun v i wr => ∃ (k : Nat) (r : Int), k ≤ q ∧ i = .int .i64 (k : Nat) ∧ v = .int .i64 r ∧ Hid (docRedN x L sb k = r) ∧ 0 ≤ r ∧ r ≤ k ∧ Hid (Below w4.heap.size w4 wr)) (fun _ i _ => q - (intOf i).toNat)
  case atStart => exact ⟨0, 0, Nat.zero_le _, rfl, rfl, Lib.hid rfl, Int.le_refl _, Int.le_refl _, Lib.hid (Below.refl _ _)⟩
  case round =>
    obtain ⟨k, r, hkq, rfl, rfl, HN, hr0', hr1', HB⟩ := hrel
    obtain ⟨w5, rfl⟩ : ∃ w5 : World, w5 = wr := ⟨_, rfl⟩
    have hsz := HB.out.size
    have RB5 := RB4.below HB.out
    have HR5 := Lib.hid (HR4.out.below HB.out)
    have RD := fun (k : Nat) W (h : RdS W A5 L) (hk : k < q) => reduced16_any x A5 c5 q k L W HQ.out h HT.out (by omega) hk HX.out
    by_cases hlt : k < q
    case neg =>
      obtain rfl : k = q := by omega
      have HN2 := HN.out
      have HD2 := HD.out
      rw [HN2] at HD2
      have HD3 := Lib.hid HD2
      have f9 : w5.cell? ⟨w.heap.size, 9, none⟩ = some (.int .i64 (x 9)) := RB5.2 9 (by omega)
      clear HN2 HD2 HD HN
      cases eb with
      | false =>
        have HV := Lib.hid (show docBreaks x ks m 6 = false by rw [HD3.out]; rfl)
        clear HD3 RD
        go_wp2
        go_ret
        exact ⟨by rw [HV.out]; try rfl, HB4.out.trans (HB.out.mono HB4.out.size)⟩
      | true =>
        have hqp : 0 < k := by
          rcases Nat.eq_zero_or_pos k with h | h
          · have := HE0.out h; cases this
          · exact h
        obtain ⟨j, rfl⟩ : ∃ j, k = j + 1 := ⟨k - 1, by omega⟩
        have RJ := fun W h => RD j W h (by omega)
        have HD4 := Lib.hid (show docBreaks x ks m 6 = (docRed x L j && decide (x 9 < r)) by rw [HD3.out]; rfl)
        obtain ⟨rd, hrd⟩ : ∃ rd, docRed x L j = rd := ⟨_, rfl⟩
        rw [hrd] at HD4 RJ
        have d1 : (j : Int) + 1 - 1 = (j : Int) := by omega
        clear HD3 RD hrd
        cases rd with
        | false =>
          have HV := Lib.hid (show docBreaks x ks m 6 = false by rw [HD4.out]; rfl)
          clear HD4
          go_wp2_with (first | refine wpList_load_bk (by rfl) 23 _ rfl _ _ rfl x _ (RB5) Try.underlying23 rfl (by kernel_rfl) ?_ | (go_at_call 54; (with_reducible refine (RJ _ HR5.out).mono ?_); rintro e w6 ⟨rfl, hb6⟩; have f9' : w6.cell? ⟨w.heap.size, 9, none⟩ = some (.int .i64 (x 9)) := (RB5.below hb6).2 9 (by omega)))
          go_ret
          exact ⟨by rw [HV.out]; try rfl, HB4.out.trans ((HB.out.trans (hb6.mono hsz)).mono HB4.out.size)⟩
        | true =>
          have HV := Lib.hid (show docBreaks x ks m 6 = decide (x 9 < r) by rw [HD4.out]; rfl)
          clear HD4
          go_wp2_with (first | refine wpList_load_bk (by rfl) 23 _ rfl _ _ rfl x _ (RB5) Try.underlying23 rfl (by kernel_rfl) ?_ | (go_at_call 54; (with_reducible refine (RJ _ HR5.out).mono ?_); rintro e w6 ⟨rfl, hb6⟩; have f9' : w6.cell? ⟨w.heap.size, 9, none⟩ = some (.int .i64 (x 9)) := (RB5.below hb6).2 9 (by omega)))
          go_ret
          exact ⟨by rw [HV.out]; try rfl, HB4.out.trans ((HB.out.trans (hb6.mono hsz)).mono HB4.out.size)⟩
    case pos =>
      have hlt' : k < L.length := by rw [HQ.out]; exact hlt
      obtain ⟨b, off, f, t, rfl, hbb, hc0, hc1, hs⟩ := HR5.out.at_ hlt'
      have hst : docRedN x L sb (k + 1) = r + if decide (sb < t) && docRed x L k then 1 else 0 := by
        show docRedN x L sb k + _ = _
        rw [HN.out]
        unfold redB
        rw [hs.out]
      have HM := Lib.hid hst
      have RK := fun W h => RD k W h hlt
      obtain ⟨rd, hrd⟩ : ∃ rd, docRed x L k = rd := ⟨_, rfl⟩
      rw [hrd] at HM RK
      have k0 : (0 : Int) ≤ (k : Int) := by omega
      have k1 : (k : Int) < (q : Int) := by omega
      clear hs hst hrd HN RD
      by_cases g : sb < t
      case neg =>
        have e1 : decide (sb < t) = false := decide_eq_false g
        have HF := Lib.hid (show docRedN x L sb (k + 1) = r by rw [HM.out, e1]; simp)
        clear g HM
        go_wp2
        go_roundw
        case rel => exact ⟨k + 1, r, by omega, by go_num, rfl, HF, by omega, by omega, HB⟩
        case measure => simp [intOf]; omega
      have e1 : decide (sb < t) = true := decide_eq_true g
      cases rd with
      | false =>
        have HF := Lib.hid (show docRedN x L sb (k + 1) = r by rw [HM.out, Bool.and_false]; simp)
        clear g HM
        go_wp2_with (first | refine wpList_load_bk (by rfl) 23 _ rfl _ _ rfl x _ (RB5) Try.underlying23 rfl (by kernel_rfl) ?_ | (go_at_call 54; (with_reducible refine (RK _ HR5.out).mono ?_); rintro e w6 ⟨rfl, hb6⟩))
        go_roundw
        case rel => exact ⟨k + 1, r, by omega, by go_num, rfl, HF, by omega, by omega, Lib.hid (HB.out.trans (hb6.mono hsz))⟩
        case measure => simp [intOf]; omega
      | true =>
        have HF := Lib.hid (show docRedN x L sb (k + 1) = r + 1 by rw [HM.out, e1]; rfl)
        clear g HM
        go_wp2_with (first | refine wpList_load_bk (by rfl) 23 _ rfl _ _ rfl x _ (RB5) Try.underlying23 rfl (by kernel_rfl) ?_ | (go_at_call 54; (with_reducible refine (RK _ HR5.out).mono ?_); rintro e w6 ⟨rfl, hb6⟩))
        go_roundw
        case rel => exact ⟨k + 1, r + 1, by omega, by go_num, by go_num, HF, by omega, by omega, Lib.hid (HB.out.trans (hb6.mono hsz))⟩
        case measure => simp [intOf]; omega

end Go.Proofs.Ytlbafgdbemhanaa

/- What the document's Breaks of layer 16 tells of clause 8. Conditions: the kinds can be read; the book may be. -/
namespace Go.Proofs.Ytlbafgdbemhanaa
open Go.RowKit

theorem RdS.take8 {w : World} {A : Option Addr} {L : List Sp} (h : RdS w A L) (j : Nat) : RdS w A (L.take j) := fun hl => by
  have hL : L ≠ [] := fun e => hl (by rw [e]; simp)
  obtain ⟨b, off, e1, e2, e3⟩ := h hL
  refine ⟨b, off, e1, e2, fun k hk => ?_⟩
  rw [List.length_take] at hk
  have e : (L.take j).getD k (0, 0) = L.getD k (0, 0) := by simp [List.getD, (by omega : k < j)]
  rw [e]
  exact e3 k (by omega)

set_option maxRecDepth 20000 in
set_option maxHeartbeats 8000000 in
theorem breaks16_8 (x : Nat → Int) (A : Option Addr) (c n m : Nat) (ks : List Int) (w : World) (hk : ks.length = n) (hr : RdN w A ks) (h4 : n ≤ 40320) (hm : m < n) (hx : May x) :
    Calls Try.prog 30 #[.agg (bk x), .slice A n c, .int .i64 (m : Nat), .int .i64 8] w fun e w' => e = .returned (.bool (docBreaks x ks m 8)) ∧ Below w.heap.size w w' := by
  have RC := fun W h => rests16_any A c n m ks W hk h (by omega) (by omega)
  have HK := Lib.hid hk
  have hfull := full_ok ks m
  have hlen := rests_len ks m
  change Lk (restsL ks m) _ at hfull
  obtain ⟨L, hL⟩ : ∃ L, restsL ks m = L := ⟨_, rfl⟩
  rw [hL] at hfull hlen
  have HT : Hid (InT L) := Lib.hid fun q hq => by have := hfull.each q hq; omega
  have HI : Hid (∀ q ∈ L, q.2 ≤ n) := Lib.hid fun q hq => by have := hfull.each q hq; omega
  have HX := Lib.hid hx
  have HLL := Lib.hid hL
  rw [hL] at RC
  have hx18 : 1 ≤ x 18 ∧ x 18 ≤ 40320 := by
    have := hx.1 18 (by omega)
    unfold lim at this
    split at this <;> omega
  obtain ⟨hx18a, hx18b⟩ := hx18
  have RB : RdI (w.alloc (.cells (bk x) 23)) w.heap.size 0 x := RdI.new x 23 rfl
  have hB0 : Below w.heap.size w (w.alloc (.cells (bk x) 23)) := b_al (Below.refl _ _) (Nat.le_refl _) _
  have h0 := hr.below hB0
  clear hL hfull hr hx hk
  go_enter Try.func30, Try.ntmps30
  go_wp2_with (go_at_call 49; (with_reducible refine (RC _ h0).mono ?_); rintro e w1 ⟨v, rfl, hown, hb1⟩; obtain ⟨A5, c5, rfl, hrd, hcap, _⟩ := hown.form; clear hown)
  have RB1 := RB.below hb1
  have HK1 := Lib.hid (h0.below hb1)
  have HB1 := Lib.hid (b_cl hB0 (Nat.le_refl _) hb1)
  have HRD := Lib.hid hrd
  have L8 := last_bd (long := x 8) (cut := (m : Int)) HT.out
  have L13 := last_bd (long := x 13) (cut := (m : Int)) HT.out
  have HLN : Hid (L.length = L.length) := Lib.hid rfl
  obtain ⟨q, hq⟩ : ∃ q, L.length = q := ⟨_, rfl⟩
  rw [hq] at hlen hcap ⊢
  have HQ := Lib.hid hq
  have CL1 := fun p : BelowOf w1 => last16_any A5 c5 q L (x 8) (m : Int) p.world HQ.out (HRD.out.below p.ok) HT.out (by omega)
  have CL2 := fun p : BelowOf w1 => last16_any A5 c5 q L (x 13) (m : Int) p.world HQ.out (HRD.out.below p.ok) HT.out (by omega)
  obtain ⟨dw, hdw⟩ : ∃ dw, docLast L (x 8) (m : Int) = dw := ⟨_, rfl⟩
  obtain ⟨sb, hsb⟩ : ∃ sb, docLast L (x 13) (m : Int) = sb := ⟨_, rfl⟩
  have HDW := Lib.hid hdw
  have HSB := Lib.hid hsb
  rw [hdw] at CL1 L8
  rw [hsb] at CL2 L13
  have q8 : ∀ p : BelowOf w1, p.world.cell? ⟨w.heap.size, 8, none⟩ = some (.int .i64 (x 8)) := fun p => p.cell (RB1.2 8 (by omega))
  have q13 : ∀ p : BelowOf w1, p.world.cell? ⟨w.heap.size, 13, none⟩ = some (.int .i64 (x 13)) := fun p => p.cell (RB1.2 13 (by omega))
  clear hdw hsb hq RB h0 hB0 hb1 hrd RC HLN
  refine wp_region_bel (by kernel_rfl) (by kernel_rfl) ?_
  repeat (go_big_quiet_step (first | (go_at_call 50; (with_reducible exact Calls.bel_of (CL1 _))) | (go_at_call 50; (with_reducible exact Calls.bel_of (CL2 _)))))
  refine wpQuiet_nil ?_
  refine bel_all fun w2 hb2 => ?_
  have RB2 := RB1.below hb2
  have HK2 := Lib.hid (HK1.out.below hb2)
  have HRD2 := Lib.hid (HRD.out.below hb2)
  have HB2 := Lib.hid (HB1.out.trans (hb2.mono HB1.out.size))
  clear q8 q13 CL1 CL2 RB1 HK1 HRD HB1 hb2
  have hil : m < ks.length := by rw [HK.out]; exact hm
  obtain ⟨ba, ka, rfl, hba, hkc⟩ := HK2.out (nonnil hil)
  have hkm := hkc m hil
  rw [show ks.getD m 0 = kAt ks m from rfl] at hkm
  obtain ⟨kv, hkv⟩ : ∃ kv, kAt ks m = kv := ⟨_, rfl⟩
  rw [hkv] at hkm
  have HKV := Lib.hid hkv
  have f18 : w2.cell? ⟨w.heap.size, 18, none⟩ = some (.int .i64 (x 18)) := RB2.2 18 (by omega)
  have m0 : (0 : Int) ≤ (m : Int) := by omega
  have m1 : (m : Int) < (n : Int) := by omega
  have ne18 : (x 18 == 0) = false := by simp; omega
  have ne18b : ¬ x 18 = 0 := by omega
  have hr0 := Int.emod_nonneg (m : Int) (show x 18 ≠ 0 by omega)
  have hr1 := mod_le (show (0 : Int) ≤ (m : Int) by omega) hx18a
  have etm : (m : Int).tmod (x 18) = (m : Int) % x 18 := Int.tmod_eq_emod_of_nonneg (by omega)
  obtain ⟨rm, hrm⟩ : ∃ rm, (m : Int) % x 18 = rm := ⟨_, rfl⟩
  rw [hrm] at hr0 hr1 etm
  have HRM := Lib.hid hrm
  have hwrm := wrap14 rm (by omega) (by omega)
  have hww : IntKind.i64.wrap ((m : Int) - rm) = (m : Int) - rm := wrap14 _ (by omega) (by omega)
  clear hkv hrm hkc
  go_upto_region 5 with fail
  clear f18 etm hwrm hww ne18 ne18b
  (try go_frame)
  go_cut [14] (fun u14 wx => u14 = .bool (endsB L m) ∧ Below w2.heap.size w2 wx)
  case first =>
    rcases Nat.eq_zero_or_pos q with hq0 | hq0
    case inl =>
      subst hq0
      have he : endsB L m = false := by unfold endsB; rw [HQ.out]; rfl
      have HE := Lib.hid he
      have d0 : decide ((0 : Int) < 0) = false := by decide
      clear he
      go_wp2
      go_meet
      exact ⟨by rw [HE.out], Below.refl _ _⟩
    case inr =>
      obtain ⟨j, rfl⟩ : ∃ j, q = j + 1 := ⟨q - 1, by omega⟩
      have hjl : j < L.length := by rw [HQ.out]; omega
      obtain ⟨b, off, f, t, rfl, hbb, hc0, hc1, hs⟩ := HRD2.out.at_ hjl
      have he : endsB L m = (t == (m : Int)) := by
        unfold endsB; rw [HQ.out, Nat.add_sub_cancel, hs.out]; simp
      have HE := Lib.hid he
      have d0 : decide ((0 : Int) < (j : Int) + 1) = true := decide_eq_true (by omega)
      have d1 : (j : Int) + 1 - 1 = (j : Int) := by omega
      have j0 : (0 : Int) ≤ (j : Int) := by omega
      have j1 : (j : Int) < (j : Int) + 1 := by omega
      clear he hs
      go_wp2
      go_meet
      exact ⟨by rw [HE.out], Below.refl _ _⟩
  case rest =>
  obtain ⟨rfl, hb3⟩ := hcut
  rename World => w4
  have RB4 := RB2.below hb3
  have HK4 := Lib.hid (HK2.out.below hb3)
  have HR4 := Lib.hid (HRD2.out.below hb3)
  have HB4 := Lib.hid (HB2.out.trans (hb3.mono HB2.out.size))
  rw [← hb3.cell (p := ⟨ba, _, none⟩) hba] at hkm
  have hbw : ba < w4.heap.size := by have := hb3.size; omega
  have RQ : ∀ w', (∃ p : BelowOf w4, w' = p.world) → RdI w' w.heap.size 0 x := fun _ ⟨p, e⟩ => e ▸ RB4.below p.ok
  have CC := fun (a b lo hi : Int) (p : BelowOf w4) a1 a2 a3 a4 => (count16_any _ c n ks a b lo hi p.world HK.out (HK4.out.below p.ok) a1 a2 a3 a4 (by omega)).mono fun e w' (q : e = _ ∧ p.world = w') => (⟨q.1, q.2 ▸ Below.refl _ _⟩ : e = .returned (.int .i64 (cntK ks a b lo (hi + 1).toNat)) ∧ Below p.world.heap.size p.world w')
  have CB := fun p : BelowOf w4 => brkend16_any x A5 c5 q L p.world HQ.out (HR4.out.below p.ok) HT.out (by omega)
  have em : ((m : Int) + 1).toNat = m + 1 := by omega
  clear hb3 HK2 HRD2 HB2 RB2 hba
  have HD := Lib.hid (show docBreaks x ks m 8 = (endsB L m && (decide (x 13 ≤ (L.getD (q - 1) (0, 0)).2 - (L.getD (q - 1) (0, 0)).1) && (decide ((L.getD (q - 1) (0, 0)).2 - (L.getD (q - 1) (0, 0)).1 < x 12) && (L.take (q - 1)).any (briefB x (docLast (L.take (q - 1)) (x 13) m))))) by
    have hdoc : docBreaks x ks m 8 = (endsB (restsL ks m) m && (decide (x 13 ≤ ((restsL ks m).getD ((restsL ks m).length - 1) (0, 0)).2 - ((restsL ks m).getD ((restsL ks m).length - 1) (0, 0)).1) && (decide (((restsL ks m).getD ((restsL ks m).length - 1) (0, 0)).2 - ((restsL ks m).getD ((restsL ks m).length - 1) (0, 0)).1 < x 12) && ((restsL ks m).take ((restsL ks m).length - 1)).any (briefB x (docLast ((restsL ks m).take ((restsL ks m).length - 1)) (x 13) m))))) := rfl
    rw [hdoc, HLL.out, HQ.out])
  have he0 : q = 0 → endsB L m = false := fun h => by unfold endsB; rw [HQ.out, h]; rfl
  obtain ⟨eb, heb⟩ : ∃ eb, endsB L m = eb := ⟨_, rfl⟩
  rw [heb] at HD he0 ⊢
  clear CC CB RQ heb
  have HE0 := Lib.hid he0
  clear he0
  cases eb with
  | false =>
    have HV := Lib.hid (show docBreaks x ks m 8 = false by rw [HD.out]; rfl)
    clear HD
    go_wp2
    go_ret
    exact ⟨by rw [HV.out]; try rfl, HB4.out⟩
  | true =>
    have hqp : 0 < q := by
      rcases Nat.eq_zero_or_pos q with h | h
      · have := HE0.out h; cases this
      · exact h
    obtain ⟨j, rfl⟩ : ∃ j, q = j + 1 := ⟨q - 1, by omega⟩
    rw [Nat.add_sub_cancel, Bool.true_and] at HD
    have hjl : j < L.length := by rw [HQ.out]; omega
    obtain ⟨b, off, f, t, rfl, hbb, hc0, hc1, hs⟩ := HR4.out.at_ hjl
    rw [hs.out] at HD
    dsimp only at HD
    have hxy := HT.out (f, t) (by rw [← hs.out]; exact getDs_mem hjl)
    obtain ⟨hx0, hx1, hx2⟩ := hxy
    dsimp only at hx0 hx1 hx2
    have LB := last_bd (long := x 13) (cut := (m : Int)) (HT.out.take j)
    have LL := fun W h => last16_any (some ⟨b, off, none⟩) c5 j (L.take j) (x 13) (m : Int) W (by rw [List.length_take]; omega) (RdS.take8 h j) (HT.out.take j) (by omega)
    obtain ⟨ah, hah⟩ : ∃ ah, docLast (L.take j) (x 13) (m : Int) = ah := ⟨_, rfl⟩
    rw [hah] at LL HD LB
    have hwr : IntKind.i64.wrap (t - f) = t - f := wrap14 (t - f) (by omega) (by omega)
    have d1 : (j : Int) + 1 - 1 = (j : Int) := by omega
    have j0 : (0 : Int) ≤ (j : Int) := by omega
    have j1 : (j : Int) < (j : Int) + 1 := by omega
    have j2 : (j : Int) ≤ (c5 : Int) := by omega
    have BW : Below w4.heap.size w4 (w4.alloc (.cells #[.int .i64 f, .int .i64 t] 84)) := b_al (Below.refl _ _) (Nat.le_refl _) _
    have RB5 := RB4.below BW
    have HR5 := Lib.hid (HR4.out.below BW)
    have HB5 := Lib.hid (HB4.out.trans (BW.mono HB4.out.size))
    have BX5 : Bx (w4.alloc (.cells #[.int .i64 f, .int .i64 t] 84)) w4.heap.size 84 #[.int .i64 f, .int .i64 t] := Bx.new _ _ rfl
    have HS := Lib.hid hs.out
    clear hs hah
    go_upto_region 35 with fail
    (try go_frame)
    obtain ⟨w5, hw5⟩ : ∃ w5, w4.alloc (.cells #[.int .i64 f, .int .i64 t] 84) = w5 := ⟨_, rfl⟩
    rw [hw5] at BW RB5 HR5 BX5 HB5 ⊢
    clear hw5 BW
    have CL := fun p : BelowOf w5 => LL p.world (HR5.out.below p.ok)
    have q13 : ∀ p : BelowOf w5, p.world.cell? ⟨w.heap.size, 13, none⟩ = some (.int .i64 (x 13)) := fun p => p.cell (RB5.2 13 (by omega))
    refine wp_region_bel (by kernel_rfl) (by kernel_rfl) ?_
    repeat (go_big_quiet_step (first | (go_at_call 50; (with_reducible exact Calls.bel_of (CL _)))))
    refine wpQuiet_nil ?_
    refine bel_all fun w6 hb6 => ?_
    have RB6 := RB5.below hb6
    have BX6 := BX5.below hb6
    have HR6 := Lib.hid (HR5.out.below hb6)
    have HB6 := Lib.hid (HB5.out.trans (hb6.mono HB5.out.size))
    clear CL LL q13 RB5 BX5 HR5 HB5 hb6 hc0 hc1 hbb
    go_wp2
    go_loopw [19, 20] (fun v i wr => ∃ (k : Nat) (r : Bool), k ≤ j ∧ i = .int .i64 (k : Nat) ∧ v = .bool r ∧ Hid ((L.take k).any (briefB x ah) = r) ∧ Hid (Below w6.heap.size w6 wr)) (fun _ i _ => j - (intOf i).toNat)
    case atStart => exact ⟨0, false, Nat.zero_le _, rfl, rfl, Lib.hid rfl, Lib.hid (Below.refl _ _)⟩
    case round =>
      obtain ⟨k, r, hkq, rfl, rfl, HN, HB⟩ := hrel
      obtain ⟨w7, rfl⟩ : ∃ w7 : World, w7 = wr := ⟨_, rfl⟩
      have hsz := HB.out.size
      have RB7 := RB6.below HB.out
      by_cases hlt : k < j
      case neg =>
        obtain rfl : k = j := by omega
        have HD2 := HD.out
        rw [HN.out] at HD2
        have HD3 := Lib.hid HD2
        have BX7 := BX6.below HB.out
        have p0 := BX7.cell (k := 0) rfl
        have p1 := BX7.cell (k := 1) rfl
        have f13 : w7.cell? ⟨w.heap.size, 13, none⟩ = some (.int .i64 (x 13)) := RB7.2 13 (by omega)
        have f12 : w7.cell? ⟨w.heap.size, 12, none⟩ = some (.int .i64 (x 12)) := RB7.2 12 (by omega)
        clear HD2 HD HN
        by_cases g1 : x 13 ≤ t - f
        case neg =>
          have e1 : decide (x 13 ≤ t - f) = false := decide_eq_false g1
          have HV := Lib.hid (show docBreaks x ks m 8 = false by rw [HD3.out, e1]; rfl)
          clear g1 HD3
          go_wp2
          go_ret
          exact ⟨by rw [HV.out]; try rfl, HB6.out.trans (HB.out.mono HB6.out.size)⟩
        have e1 : decide (x 13 ≤ t - f) = true := decide_eq_true g1
        by_cases g2 : t - f < x 12
        case neg =>
          have e2 : decide (t - f < x 12) = false := decide_eq_false g2
          have HV := Lib.hid (show docBreaks x ks m 8 = false by rw [HD3.out, e2, Bool.false_and, Bool.and_false])
          clear g1 g2 HD3
          go_wp2
          go_ret
          exact ⟨by rw [HV.out]; try rfl, HB6.out.trans (HB.out.mono HB6.out.size)⟩
        have e2 : decide (t - f < x 12) = true := decide_eq_true g2
        have HV := Lib.hid (show docBreaks x ks m 8 = r by rw [HD3.out, e1, e2, Bool.true_and, Bool.true_and])
        clear g1 g2 HD3
        go_wp2
        go_ret
        exact ⟨by rw [HV.out]; try rfl, HB6.out.trans (HB.out.mono HB6.out.size)⟩
      case pos =>
        have hlt' : k < L.length := by omega
        obtain ⟨b', off', f', t', hA', hbb', hj0, hj1, hs'⟩ := HR6.out.at_ hlt'
        obtain ⟨rfl, rfl⟩ : b = b' ∧ off = off' := by simpa using hA'
        clear hA'
        rw [← HB.out.cell (p := ⟨b, _, none⟩) hbb'] at hj0 hj1
        have hxy := HT.out (f', t') (by rw [← hs'.out]; exact getDs_mem hlt')
        obtain ⟨hy0, hy1, hy2⟩ := hxy
        dsimp only at hy0 hy1 hy2
        have hst := any_more (p := briefB x ah) hlt'
        rw [HN.out, hs'.out] at hst
        have HM := Lib.hid hst
        have hwj : IntKind.i64.wrap (t' - f') = t' - f' := wrap14 (t' - f') (by omega) (by omega)
        have q0 : ∀ p : BelowOf w7, p.world.cell? ⟨b, off + k * 2, none⟩ = some (.int .i64 f') := fun p => p.cell hj0
        have q1 : ∀ p : BelowOf w7, p.world.cell? ⟨b, off + k * 2 + 1, none⟩ = some (.int .i64 t') := fun p => p.cell hj1
        have q12 : ∀ p : BelowOf w7, p.world.cell? ⟨w.heap.size, 12, none⟩ = some (.int .i64 (x 12)) := fun p => p.cell (RB7.2 12 (by omega))
        have k0 : (0 : Int) ≤ (k : Int) := by omega
        have k1 : (k : Int) < (j : Int) := by omega
        have k2 : (k : Int) < (j : Int) + 1 := by omega
        clear hs' hbb' hst HN
        cases r with
        | true =>
          have HF := Lib.hid (show (L.take (k + 1)).any (briefB x ah) = true by rw [HM.out]; rfl)
          clear HM
          go_wp2
          refine wp_region_bel (by kernel_rfl) (by kernel_rfl) ?_
          repeat (go_big_quiet_step (first | (fail)))
          refine wpQuiet_nil ?_
          refine bel_all fun w8 hb8 => ?_
          have HB8 := Lib.hid (HB.out.trans (hb8.mono hsz))
          clear q0 q1 q12 hb8
          go_wp2
          go_roundw
          case rel => exact ⟨k + 1, true, by omega, by go_num, rfl, HF, HB8⟩
          case measure => simp [intOf]; omega
        | false =>
          by_cases g1 : 0 < ah
          case neg =>
            have e1 : decide (0 < ah) = false := decide_eq_false g1
            have HF := Lib.hid (show (L.take (k + 1)).any (briefB x ah) = false by rw [HM.out]; unfold briefB; rw [e1]; rfl)
            clear HM g1
            go_wp2
            refine wp_region_bel (by kernel_rfl) (by kernel_rfl) ?_
            repeat (go_big_quiet_step (first | (fail)))
            refine wpQuiet_nil ?_
            refine bel_all fun w8 hb8 => ?_
            have HB8 := Lib.hid (HB.out.trans (hb8.mono hsz))
            clear q0 q1 q12 hb8
            go_wp2
            go_roundw
            case rel => exact ⟨k + 1, false, by omega, by go_num, rfl, HF, HB8⟩
            case measure => simp [intOf]; omega
          have e1 : decide (0 < ah) = true := decide_eq_true g1
          by_cases g2 : t' = ah
          case neg =>
            have e2 : (t' == ah) = false := by simpa using g2
            have HF := Lib.hid (show (L.take (k + 1)).any (briefB x ah) = false by rw [HM.out]; unfold briefB; rw [e1, e2]; rfl)
            clear HM g1 g2
            go_wp2
            refine wp_region_bel (by kernel_rfl) (by kernel_rfl) ?_
            repeat (go_big_quiet_step (first | (fail)))
            refine wpQuiet_nil ?_
            refine bel_all fun w8 hb8 => ?_
            have HB8 := Lib.hid (HB.out.trans (hb8.mono hsz))
            clear q0 q1 q12 hb8
            go_wp2
            go_roundw
            case rel => exact ⟨k + 1, false, by omega, by go_num, rfl, HF, HB8⟩
            case measure => simp [intOf]; omega
          have e2 : (t' == ah) = true := by simpa using g2
          obtain ⟨dc, hdc⟩ : ∃ dc, decide (t' - f' < x 12) = dc := ⟨_, rfl⟩
          have HF := Lib.hid (show (L.take (k + 1)).any (briefB x ah) = dc by rw [HM.out]; unfold briefB; rw [e1, e2, hdc]; rfl)
          clear HM g1 g2
          go_wp2
          refine wp_region_bel (by kernel_rfl) (by kernel_rfl) ?_
          repeat (go_big_quiet_step (first | (fail)))
          refine wpQuiet_nil ?_
          refine bel_all fun w8 hb8 => ?_
          have HB8 := Lib.hid (HB.out.trans (hb8.mono hsz))
          clear q0 q1 q12 hb8
          go_wp2
          go_roundw
          case rel => exact ⟨k + 1, dc, by omega, by go_num, by first | rfl | rw [hdc], HF, HB8⟩
          case measure => simp [intOf]; omega

end Go.Proofs.Ytlbafgdbemhanaa

/- What the document's Since of layer 16 tells. Conditions: the kinds can be read; the book may be. -/
namespace Go.Proofs.Ytlbafgdbemhanaa
open Go.RowKit

theorem RdS.take9 {w : World} {A : Option Addr} {L : List Sp} (h : RdS w A L) (j : Nat) : RdS w A (L.take j) := fun hl => by
  have hL : L ≠ [] := fun e => hl (by rw [e]; simp)
  obtain ⟨b, off, e1, e2, e3⟩ := h hL
  refine ⟨b, off, e1, e2, fun k hk => ?_⟩
  rw [List.length_take] at hk
  have e : (L.take j).getD k (0, 0) = L.getD k (0, 0) := by simp [List.getD, (by omega : k < j)]
  rw [e]
  exact e3 k (by omega)

set_option maxRecDepth 20000 in
set_option maxHeartbeats 8000000 in
theorem since16_any (x : Nat → Int) (A : Option Addr) (c n m cl : Nat) (ks : List Int) (w : World) (hk : ks.length = n) (hr : RdN w A ks) (h4 : n ≤ 40320) (hm : m < n) (hx : May x) (hcl : cl < 10) :
    Calls Try.prog 31 #[.agg (bk x), .slice A n c, .int .i64 (m : Nat), .int .i64 (cl : Nat)] w fun e w' => e = .returned (.int .i64 (docSince x ks m cl)) ∧ Below w.heap.size w w' := by
  have RC := fun W h => rests16_any A c n m ks W hk h (by omega) (by omega)
  have HK := Lib.hid hk
  have hfull := full_ok ks m
  have hlen := rests_len ks m
  change Lk (restsL ks m) _ at hfull
  obtain ⟨L, hL⟩ : ∃ L, restsL ks m = L := ⟨_, rfl⟩
  rw [hL] at hfull hlen
  have HT : Hid (InT L) := Lib.hid fun q hq => by have := hfull.each q hq; omega
  have HI : Hid (∀ q ∈ L, q.2 ≤ n) := Lib.hid fun q hq => by have := hfull.each q hq; omega
  have HX := Lib.hid hx
  have HLL := Lib.hid hL
  rw [hL] at RC
  have hx18 : 1 ≤ x 18 ∧ x 18 ≤ 40320 := by
    have := hx.1 18 (by omega)
    unfold lim at this
    split at this <;> omega
  obtain ⟨hx18a, hx18b⟩ := hx18
  have RB : RdI (w.alloc (.cells (bk x) 23)) w.heap.size 0 x := RdI.new x 23 rfl
  have hB0 : Below w.heap.size w (w.alloc (.cells (bk x) 23)) := b_al (Below.refl _ _) (Nat.le_refl _) _
  have h0 := hr.below hB0
  clear hL hfull hr hx hk
  go_enter Try.func31, Try.ntmps31
  go_upto_region 2 with (go_at_call 49; (with_reducible refine (RC _ h0).mono ?_); rintro e w1 ⟨v, rfl, hown, hb1⟩; obtain ⟨A5, c5, rfl, hrd, hcap, _⟩ := hown.form; clear hown)
  (try go_frame)
  have RB1 := RB.below hb1
  have HB1 := Lib.hid (b_cl hB0 (Nat.le_refl _) hb1)
  have HRD := Lib.hid hrd
  obtain ⟨q, hq⟩ : ∃ q, L.length = q := ⟨_, rfl⟩
  rw [hq] at hlen hcap ⊢
  have HQ := Lib.hid hq
  have m0 : (0 : Int) ≤ (m : Int) := by omega
  clear hq RB h0 hB0 hb1 hrd RC
  go_cut [27] (fun u27 wx => u27 = .bool (endsB L m) ∧ Below w1.heap.size w1 wx)
  case first =>
    rcases Nat.eq_zero_or_pos q with hq0 | hq0
    case inl =>
      subst hq0
      have he : endsB L m = false := by unfold endsB; rw [HQ.out]; rfl
      have HE := Lib.hid he
      have d0 : decide ((0 : Int) < 0) = false := by decide
      clear he
      go_wp2
      go_meet
      exact ⟨by rw [HE.out], Below.refl _ _⟩
    case inr =>
      obtain ⟨j, rfl⟩ : ∃ j, q = j + 1 := ⟨q - 1, by omega⟩
      have hjl : j < L.length := by rw [HQ.out]; omega
      obtain ⟨b, off, f, t, rfl, hbb, hc0, hc1, hs⟩ := HRD.out.at_ hjl
      have he : endsB L m = (t == (m : Int)) := by
        unfold endsB; rw [HQ.out, Nat.add_sub_cancel, hs.out]; simp
      have HE := Lib.hid he
      have d0 : decide ((0 : Int) < (j : Int) + 1) = true := decide_eq_true (by omega)
      have d1 : (j : Int) + 1 - 1 = (j : Int) := by omega
      have j0 : (0 : Int) ≤ (j : Int) := by omega
      have j1 : (j : Int) < (j : Int) + 1 := by omega
      clear he hs
      go_wp2
      go_meet
      exact ⟨by rw [HE.out], Below.refl _ _⟩
  case rest =>
  obtain ⟨rfl, hb2⟩ := hcut
  rename World => w2
  have RB2 := RB1.below hb2
  have HR2 := Lib.hid (HRD.out.below hb2)
  have HB2 := Lib.hid (HB1.out.trans (hb2.mono HB1.out.size))
  have he0 : q = 0 → endsB L m = false := fun h => by unfold endsB; rw [HQ.out, h]; rfl
  have HL6 : Hid ((if endsB (restsL ks m) m then (restsL ks m).take ((restsL ks m).length - 1) else restsL ks m) = if endsB L m then L.take (q - 1) else L) := Lib.hid (by rw [HLL.out, HQ.out])
  have HT6 : InT (if endsB L m then L.take (q - 1) else L) := by split; exact HT.out.take _; exact HT.out
  obtain ⟨L6, hL6⟩ : ∃ L6, (if endsB L m then L.take (q - 1) else L) = L6 := ⟨_, rfl⟩
  rw [hL6] at HL6 HT6
  have HLX := Lib.hid hL6
  have HTX := Lib.hid HT6
  obtain ⟨eb, heb⟩ : ∃ eb, endsB L m = eb := ⟨_, rfl⟩
  rw [heb] at HLX he0 ⊢
  have HE0 := Lib.hid he0
  clear heb he0 HT6 hL6 hb2 RB1 HRD HB1
  go_upto_if 27 with fail
  (try go_frame)
  go_cut [9] (fun u9 wx => ∃ (A6 : Option Addr) (q6 c6 : Nat), u9 = .slice A6 q6 c6 ∧ q6 ≤ q ∧ Hid (L6.length = q6) ∧ Hid (RdS wx A6 L6) ∧ Below w2.heap.size w2 wx)
  case first =>
    cases eb with
    | false =>
      go_wp2
      go_meet
      exact ⟨A5, q, c5, rfl, Nat.le_refl _, Lib.hid (by rw [← HLX.out]; exact HQ.out), Lib.hid (by rw [← HLX.out]; exact HR2.out), Below.refl _ _⟩
    | true =>
      have hqp : 0 < q := by
        rcases Nat.eq_zero_or_pos q with h | h
        · have := HE0.out h; cases this
        · exact h
      obtain ⟨j, rfl⟩ : ∃ j, q = j + 1 := ⟨q - 1, by omega⟩
      have hjl : j < L.length := by rw [HQ.out]; omega
      obtain ⟨b, off, f, t, rfl, hbb, hc0, hc1, hs⟩ := HR2.out.at_ hjl
      have d1 : (j : Int) + 1 - 1 = (j : Int) := by omega
      have j0 : (0 : Int) ≤ (j : Int) := by omega
      have j2 : (j : Int) ≤ (c5 : Int) := by omega
      clear hs hc0 hc1
      go_wp2
      go_meet
      exact ⟨some ⟨b, off, none⟩, j, c5, rfl, Nat.le_succ _, Lib.hid (by rw [← HLX.out]; simp only [if_true]; rw [List.length_take, HQ.out]; omega), Lib.hid (by rw [← HLX.out]; simp only [if_true]; exact RdS.take9 HR2.out _), Below.refl _ _⟩
  case rest =>
  obtain ⟨A6, q6, c6, rfl, hq6, HQ6, HR6, hb3⟩ := hcut
  rename World => w3
  have RB3 := RB2.below hb3
  have HB3 := Lib.hid (HB2.out.trans (hb3.mono HB2.out.size))
  clear hb3 RB2 HR2 HB2 HE0 HLX
  have f18 : w3.cell? ⟨w.heap.size, 18, none⟩ = some (.int .i64 (x 18)) := RB3.2 18 (by omega)
  have f8 : w3.cell? ⟨w.heap.size, 8, none⟩ = some (.int .i64 (x 8)) := RB3.2 8 (by omega)
  have f13 : w3.cell? ⟨w.heap.size, 13, none⟩ = some (.int .i64 (x 13)) := RB3.2 13 (by omega)
  have ne18 : (x 18 == 0) = false := by simp; omega
  have ne18b : ¬ x 18 = 0 := by omega
  have hr0 := Int.emod_nonneg (m : Int) (show x 18 ≠ 0 by omega)
  have hr1 := mod_le (show (0 : Int) ≤ (m : Int) by omega) hx18a
  have etm : (m : Int).tmod (x 18) = (m : Int) % x 18 := Int.tmod_eq_emod_of_nonneg (by omega)
  have hdoc : ∀ k : Nat, docSince x ks m k = if k = 0 then (docBrk x L6).1 else if k = 1 ∨ k = 5 then docLast L6 (x 8) m else if k = 3 ∨ k = 9 then (m : Int) - (m : Int) % x 18 else if k = 4 then (if (m : Int) - (m : Int) % x 18 < x 18 then 0 else (m : Int) - (m : Int) % x 18 - x 18) else docLast L6 (x 13) m := fun k => by rw [← HL6.out]; rfl
  obtain ⟨rm, hrm⟩ : ∃ rm, (m : Int) % x 18 = rm := ⟨_, rfl⟩
  rw [hrm] at hr0 hr1 etm hdoc
  have HDOC := Lib.hid hdoc
  have hwrm := wrap14 rm (by omega) (by omega)
  have hww : IntKind.i64.wrap ((m : Int) - rm) = (m : Int) - rm := wrap14 _ (by omega) (by omega)
  have hww2 : IntKind.i64.wrap ((m : Int) - rm - x 18) = (m : Int) - rm - x 18 := wrap14 _ (by omega) (by omega)
  have CB := fun W h => brkend16_any x A6 c6 q6 L6 W HQ6.out h HTX.out (by omega)
  have CL8 := fun W h => last16_any A6 c6 q6 L6 (x 8) (m : Int) W HQ6.out h HTX.out (by omega)
  have CL13 := fun W h => last16_any A6 c6 q6 L6 (x 13) (m : Int) W HQ6.out h HTX.out (by omega)
  clear hrm hdoc HL6 HLL
  have this : cl = 0 ∨ cl = 1 ∨ cl = 2 ∨ cl = 3 ∨ cl = 4 ∨ cl = 5 ∨ cl = 6 ∨ cl = 7 ∨ cl = 8 ∨ cl = 9 := by omega
  clear hcl
  rcases this with rfl | rfl | rfl | rfl | rfl | rfl | rfl | rfl | rfl | rfl
  · have HV := Lib.hid (show docSince x ks m 0 = (docBrk x L6).1 from HDOC.out 0)
    clear HDOC CL8 CL13
    go_wp2_with (first | refine wpList_load_bk (by rfl) 23 _ rfl _ _ rfl x _ (RB3) Try.underlying23 rfl (by kernel_rfl) ?_ | (go_at_call 52; (with_reducible refine (CB _ HR6.out).mono ?_); rintro e w4 ⟨rfl, hb4⟩))
    go_ret
    exact ⟨by rw [HV.out]; try rfl, HB3.out.trans (hb4.mono HB3.out.size)⟩
  · have HV := Lib.hid (show docSince x ks m 1 = docLast L6 (x 8) m from HDOC.out 1)
    clear HDOC CL13 CB
    go_wp2_with (go_at_call 50; (with_reducible refine (CL8 _ HR6.out).mono ?_); rintro e w4 ⟨rfl, hb4⟩)
    go_ret
    exact ⟨by rw [HV.out]; try rfl, HB3.out.trans (hb4.mono HB3.out.size)⟩
  · have HV := Lib.hid (show docSince x ks m 2 = docLast L6 (x 13) m from HDOC.out 2)
    clear HDOC CL8 CB
    go_wp2_with (go_at_call 50; (with_reducible refine (CL13 _ HR6.out).mono ?_); rintro e w4 ⟨rfl, hb4⟩)
    go_ret
    exact ⟨by rw [HV.out]; try rfl, HB3.out.trans (hb4.mono HB3.out.size)⟩
  · have HV := Lib.hid (show docSince x ks m 3 = (m : Int) - rm from HDOC.out 3)
    clear HDOC CL8 CL13 CB
    go_wp2
    go_ret
    exact ⟨by rw [HV.out]; try rfl, HB3.out⟩
  · have HV0 := Lib.hid (show docSince x ks m 4 = if (m : Int) - rm < x 18 then 0 else (m : Int) - rm - x 18 from HDOC.out 4)
    clear HDOC CL8 CL13 CB
    by_cases g : (m : Int) - rm < x 18
    · have e1 : decide ((m : Int) - rm < x 18) = true := decide_eq_true g
      have HV := Lib.hid (show docSince x ks m 4 = 0 by rw [HV0.out, if_pos g])
      clear HV0
      go_wp2
      go_ret
      exact ⟨by rw [HV.out]; try rfl, HB3.out⟩
    · have e1 : decide ((m : Int) - rm < x 18) = false := decide_eq_false g
      have HV := Lib.hid (show docSince x ks m 4 = (m : Int) - rm - x 18 by rw [HV0.out, if_neg g])
      clear HV0
      go_wp2
      go_ret
      exact ⟨by rw [HV.out]; try rfl, HB3.out⟩
  · have HV := Lib.hid (show docSince x ks m 5 = docLast L6 (x 8) m from HDOC.out 5)
    clear HDOC CL13 CB
    go_wp2_with (go_at_call 50; (with_reducible refine (CL8 _ HR6.out).mono ?_); rintro e w4 ⟨rfl, hb4⟩)
    go_ret
    exact ⟨by rw [HV.out]; try rfl, HB3.out.trans (hb4.mono HB3.out.size)⟩
  · have HV := Lib.hid (show docSince x ks m 6 = docLast L6 (x 13) m from HDOC.out 6)
    clear HDOC CL8 CB
    go_wp2_with (go_at_call 50; (with_reducible refine (CL13 _ HR6.out).mono ?_); rintro e w4 ⟨rfl, hb4⟩)
    go_ret
    exact ⟨by rw [HV.out]; try rfl, HB3.out.trans (hb4.mono HB3.out.size)⟩
  · have HV := Lib.hid (show docSince x ks m 7 = docLast L6 (x 13) m from HDOC.out 7)
    clear HDOC CL8 CB
    go_wp2_with (go_at_call 50; (with_reducible refine (CL13 _ HR6.out).mono ?_); rintro e w4 ⟨rfl, hb4⟩)
    go_ret
    exact ⟨by rw [HV.out]; try rfl, HB3.out.trans (hb4.mono HB3.out.size)⟩
  · have HV := Lib.hid (show docSince x ks m 8 = docLast L6 (x 13) m from HDOC.out 8)
    clear HDOC CL8 CB
    go_wp2_with (go_at_call 50; (with_reducible refine (CL13 _ HR6.out).mono ?_); rintro e w4 ⟨rfl, hb4⟩)
    go_ret
    exact ⟨by rw [HV.out]; try rfl, HB3.out.trans (hb4.mono HB3.out.size)⟩
  · have HV := Lib.hid (show docSince x ks m 9 = (m : Int) - rm from HDOC.out 9)
    clear HDOC CL8 CL13 CB
    go_wp2
    go_ret
    exact ⟨by rw [HV.out]; try rfl, HB3.out⟩

end Go.Proofs.Ytlbafgdbemhanaa
