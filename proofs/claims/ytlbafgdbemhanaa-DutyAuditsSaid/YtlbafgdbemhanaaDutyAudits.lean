/- DutyAudits of layer 16 answers true at every input: what is audited and accepted is what looking back from each minute tells. Conditions: none beyond the statement's own. -/
import Derived.Test.YtlbafgdbemhanaaRows
import Derived.Test.YtlbafgdbemhanaaBase
import Derived.Test.YtlbafgdbemhanaaZ2
import Derived.Test.YtlbafgdbemhanaaBookLim
import Derived.Test.YtlbafgdbemhanaaBookMayR
import Derived.Test.YtlbafgdbemhanaaZ3
import Derived.Test.YtlbafgdbemhanaaZ1
import Derived.Test.YtlbafgdbemhanaaDutySet
import Derived.Test.YtlbafgdbemhanaaDutyAudit
import Derived.Test.YtlbafgdbemhanaaDutyAlive
import Derived.Test.YtlbafgdbemhanaaY5
import Derived.WalkKit
import Derived.WalkSmall
import Derived.WalkSpells
import Derived.ProofKit
import Derived.OpenShut
import Derived.ShutString
import Derived.ChangeOld
import Derived.Below
import Derived.Lib.Hide
import Derived.OwnWalk
import Derived.BigQuiet
import Derived.Outline
import Derived.Great.BuildSlice
import Derived.Maps.RangeWalk
import Derived.Deep.DeepCutAuto
import Derived.OrdersHeld
namespace Go.Proofs.Ytlbafgdbemhanaa.dutyAudits
open Go.ChangeShapes Go.WideShapes Go.ChangeAt Go.RowKit
open Go.ChangeMaps (open_string shut_string)
set_option linter.unusedVariables false

theorem own : ownKnob Try.prog.godebug = none := by kernel_rfl
theorem laidOut : laidOutB Try.prog = true := by kernel_rfl

set_option maxRecDepth 100000 in
set_option maxHeartbeats 4000000 in
theorem walk (w : World) (x0 : Nat → Int) (A1 : Option Addr) (c1 : Nat) (l1 : List Rc) (r1 : RdR w A1 l1) (z1 : A1 = none → c1 = 0) :
    Calls Try.prog 3 #[.agg (bk x0), .slice A1 l1.length c1] w fun e w' => e = .returned (.bool true) ∧ Below w.heap.size w w' := by
  obtain ⟨n, hn⟩ : ∃ n, l1.length = n := ⟨_, rfl⟩
  rw [hn]
  have RB : RdI (w.alloc (.cells (bk x0) 23)) w.heap.size 0 x0 := RdI.new x0 23 rfl
  have B0 : Below w.heap.size w (w.alloc (.cells (bk x0) 23)) := b_al (Below.refl _ _) (Nat.le_refl _) _
  have h0 := r1.below B0
  have LI := fun W h => light16_any A1 c1 n l1 W hn h
  cases hlb : lightB l1 with
  | false =>
    rw [hlb] at LI
    clear hn hlb
    go_enter Try.func3, Try.ntmps3
    go_wp2_with (first | go_skip | (go_at_call 8; (with_reducible refine (LI _ h0).mono ?_); rintro e w1 ⟨rfl, hb1⟩; have B1 := b_cl B0 (Nat.le_refl _) hb1) | (go_at_call 9; (with_reducible refine (alive16_any _).mono ?_); rintro e w99 ⟨rfl, hb99⟩))
    go_ret
    exact ⟨rfl, b_cl B1 (Nat.le_refl _) hb99⟩
  | true =>
  rw [hlb] at LI
  have h60 : l1.length ≤ 60 := by
    unfold lightB at hlb
    rw [Bool.and_eq_true] at hlb
    exact of_decide_eq_true hlb.1
  have CA := fun W h => audit16_any x0 A1 c1 l1 W h (by omega)
  have RA := fun W h => refaudit16_any x0 A1 c1 l1 W h (by omega)
  have AC := fun W h => accepts16_any x0 A1 c1 n l1 W hn h (by omega)
  rw [hn] at CA RA
  have hle : (auditV x0 l1).1.length ≤ 1000 := by
    unfold auditV
    split
    · exact Nat.le_trans (listF_len _) (by decide)
    · simp
  have hac : acceptsV x0 l1 = ((auditV x0 l1).2 == 0 && (auditV x0 l1).1.length == 0) := rfl
  have SE := fun A c m W h1 h2 => set16_any A c m (auditV x0 l1).1 W h1 h2
  have RS := fun A c m W h1 h2 => refset16_any A c m (auditV x0 l1).1 W h1 h2
  obtain ⟨er, her⟩ : ∃ er, (auditV x0 l1).2 = er := ⟨_, rfl⟩
  obtain ⟨fl, hfl⟩ : ∃ fl, (auditV x0 l1).1 = fl := ⟨_, rfl⟩
  rw [her, hfl] at CA RA hac
  rw [hfl] at SE RS hle
  rw [hac] at AC
  have ff : decide (fl = fl) = true := by simp
  generalize setL fl = S at SE RS
  have HLE := Lib.hid hle
  clear her hfl hac hn hlb h60 r1
  obtain ⟨r, hr⟩ : ∃ r, (fl.length == 0) = r := ⟨_, rfl⟩
  rw [hr] at AC
  have HRR := Lib.hid hr
  have rr : (r == r) = true := by simp
  have ee : (er == er) = true := by simp
  clear hr
  by_cases he : er = 0
  case pos =>
    subst he
    rw [show ((0 : Int) == 0) = true from rfl, Bool.true_and] at AC
    go_enter Try.func3, Try.ntmps3
    go_wp2_with (first
          | go_skip
          | (go_at_call 8; (with_reducible refine (LI _ h0).mono ?_); rintro e w1 ⟨rfl, hb1⟩; have RB1 := RB.below hb1; have h1 := h0.below hb1; have B1 := b_cl B0 (Nat.le_refl _) hb1)
          | (go_at_call 10; (with_reducible refine (CA _ h1).mono ?_); rintro e w2 ⟨A2, m2, c2, rfl, hm2, hr2, hz2, hb2⟩; have RB2 := RB1.below hb2; have h2 := h1.below hb2; have B2 := b_cl B1 (Nat.le_refl _) hb2; have HM2 := Lib.hid hm2; have hr0 : ((m2 : Int) == 0) = r := (by rw [← HRR.out, hm2, Bool.eq_iff_iff]; try simp); have HR2 := Lib.hid hr2; clear hm2 hr2 hz2)
          | (go_at_call 11; (with_reducible refine (RA _ h2).mono ?_); rintro e w3 ⟨A3, m3, c3, rfl, hm3, hr3, hz3, hb3⟩; have RB3 := RB2.below hb3; have h3 := h2.below hb3; have B3 := b_cl B2 (Nat.le_refl _) hb3; obtain rfl : m3 = m2 := (by rw [← hm3, HM2.out]); have HR3 := Lib.hid hr3; have HR23 := Lib.hid (HR2.out.below hb3); clear hm3 hr3 hz3)
          | (go_at_call 12; (with_reducible refine (sameF_any _ _ _ _ _ _ fl fl _ HM2 HM2 HR23.out HR3.out (by have := HM2.out; have := HLE.out; omega)).mono ?_); rintro e w4 ⟨rfl, hb4⟩; have RB4 := RB3.below hb4; have h4 := h3.below hb4; have B4 := b_cl B3 (Nat.le_refl _) hb4; have HR4 := Lib.hid (HR3.out.below hb4))
          | (go_at_call 13; (with_reducible refine (AC _ h4).mono ?_); rintro e w5 ⟨rfl, hb5⟩; have B5 := b_cl B4 (Nat.le_refl _) hb5; have HR5 := Lib.hid (HR4.out.below hb5))
          | (go_at_call 14; (with_reducible refine (SE _ _ _ _ HM2.out HR5.out (by have := HM2.out; have := HLE.out; omega)).mono ?_); rintro e w6 ⟨rfl, hb6⟩; have B6 := b_cl B5 (Nat.le_refl _) hb6; have HR6 := Lib.hid (HR5.out.below hb6))
          | (go_at_call 15; (with_reducible refine (RS _ _ _ _ HM2.out HR6.out (by have := HM2.out; have := HLE.out; omega)).mono ?_); rintro e w7 ⟨rfl, rfl⟩)
          | (go_at_call 9; (with_reducible refine (alive16_any _).mono ?_); rintro e w99 ⟨rfl, hb99⟩)
          | refine wpList_load_bk (by rfl) 23 _ rfl _ _ rfl x0 _ (RB4) Try.underlying23 rfl (by kernel_rfl) ?_
          | refine wpList_load_bk (by rfl) 23 _ rfl _ _ rfl x0 _ (RB3) Try.underlying23 rfl (by kernel_rfl) ?_
          | refine wpList_load_bk (by rfl) 23 _ rfl _ _ rfl x0 _ (RB2) Try.underlying23 rfl (by kernel_rfl) ?_
          | refine wpList_load_bk (by rfl) 23 _ rfl _ _ rfl x0 _ (RB1) Try.underlying23 rfl (by kernel_rfl) ?_)
    go_ret
    exact ⟨by first | rfl | simp, b_cl B6 (Nat.le_refl _) hb99⟩

  case neg =>
    have ne : (er == 0) = false := by simpa using he
    rw [ne, Bool.false_and] at AC
    clear he
    go_enter Try.func3, Try.ntmps3
    go_wp2_with (first
          | go_skip
          | (go_at_call 8; (with_reducible refine (LI _ h0).mono ?_); rintro e w1 ⟨rfl, hb1⟩; have RB1 := RB.below hb1; have h1 := h0.below hb1; have B1 := b_cl B0 (Nat.le_refl _) hb1)
          | (go_at_call 10; (with_reducible refine (CA _ h1).mono ?_); rintro e w2 ⟨A2, m2, c2, rfl, hm2, hr2, hz2, hb2⟩; have RB2 := RB1.below hb2; have h2 := h1.below hb2; have B2 := b_cl B1 (Nat.le_refl _) hb2; have HM2 := Lib.hid hm2; have hr0 : ((m2 : Int) == 0) = r := (by rw [← HRR.out, hm2, Bool.eq_iff_iff]; try simp); have HR2 := Lib.hid hr2; clear hm2 hr2 hz2)
          | (go_at_call 11; (with_reducible refine (RA _ h2).mono ?_); rintro e w3 ⟨A3, m3, c3, rfl, hm3, hr3, hz3, hb3⟩; have RB3 := RB2.below hb3; have h3 := h2.below hb3; have B3 := b_cl B2 (Nat.le_refl _) hb3; obtain rfl : m3 = m2 := (by rw [← hm3, HM2.out]); have HR3 := Lib.hid hr3; have HR23 := Lib.hid (HR2.out.below hb3); clear hm3 hr3 hz3)
          | (go_at_call 12; (with_reducible refine (sameF_any _ _ _ _ _ _ fl fl _ HM2 HM2 HR23.out HR3.out (by have := HM2.out; have := HLE.out; omega)).mono ?_); rintro e w4 ⟨rfl, hb4⟩; have RB4 := RB3.below hb4; have h4 := h3.below hb4; have B4 := b_cl B3 (Nat.le_refl _) hb4; have HR4 := Lib.hid (HR3.out.below hb4))
          | (go_at_call 13; (with_reducible refine (AC _ h4).mono ?_); rintro e w5 ⟨rfl, hb5⟩; have B5 := b_cl B4 (Nat.le_refl _) hb5; have HR5 := Lib.hid (HR4.out.below hb5))
          | (go_at_call 14; (with_reducible refine (SE _ _ _ _ HM2.out HR5.out (by have := HM2.out; have := HLE.out; omega)).mono ?_); rintro e w6 ⟨rfl, hb6⟩; have B6 := b_cl B5 (Nat.le_refl _) hb6; have HR6 := Lib.hid (HR5.out.below hb6))
          | (go_at_call 15; (with_reducible refine (RS _ _ _ _ HM2.out HR6.out (by have := HM2.out; have := HLE.out; omega)).mono ?_); rintro e w7 ⟨rfl, rfl⟩)
          | (go_at_call 9; (with_reducible refine (alive16_any _).mono ?_); rintro e w99 ⟨rfl, hb99⟩)
          | refine wpList_load_bk (by rfl) 23 _ rfl _ _ rfl x0 _ (RB4) Try.underlying23 rfl (by kernel_rfl) ?_
          | refine wpList_load_bk (by rfl) 23 _ rfl _ _ rfl x0 _ (RB3) Try.underlying23 rfl (by kernel_rfl) ?_
          | refine wpList_load_bk (by rfl) 23 _ rfl _ _ rfl x0 _ (RB2) Try.underlying23 rfl (by kernel_rfl) ?_
          | refine wpList_load_bk (by rfl) 23 _ rfl _ _ rfl x0 _ (RB1) Try.underlying23 rfl (by kernel_rfl) ?_)
    go_ret
    exact ⟨by first | rfl | simp, b_cl B6 (Nat.le_refl _) hb99⟩

set_option maxRecDepth 100000 in
theorem lifted (os : Os) (started : os.Started) (H : Type) (enc : TypeId × Value → H) :
    ReturnsInHanded {} Try.checked os 3 .any (Rows.dutyAuditsSpec.pre6 enc Try.prog Try.f3 Rows.dutyAuditsRow.domain false) (Rows.dutyAuditsSpec.post enc Try.prog Try.f3 false true false false) := by
  refine returnsInHanded_of_change (C := Try.checked) own started (by kernel_rfl) Try.func3
    (ChangeSpec.witness6 (enc := enc) (C := Try.checked) false ⟨#[], #[.agg #[.int .i64 0, .int .i64 0, .int .i64 0, .int .i64 0, .int .i64 0, .int .i64 0, .int .i64 0, .int .i64 0, .int .i64 0, .int .i64 0, .int .i64 0, .int .i64 0, .int .i64 0, .int .i64 0, .int .i64 0, .int .i64 0, .int .i64 0, .int .i64 0, .int .i64 0], .slice none 0 0], []⟩ 8 (by kernel_rfl) (by kernel_rfl) (by kernel_rfl) (by kernel_rfl)) ?_
  intro W base args ds gs before hval0 hW hcnd _
  have hval : ∀ (j : Nat) t v, Try.f3.params[j]? = some t → args[j]? = some v → Value.okWide Try.prog W .any base t v := hval0
  have hW' := hW
  obtain ⟨p, q, hA0, hV, rfl, hfz, hnd⟩ := hW
  have hA : DataW.TrodAll enc Try.prog W 0 (fun _ => true) true Try.f3.params.toList args.toList ds p := hA0
  rw [Try.params3] at hA hval
  obtain ⟨v0, vs0, d0, ds0, p0, q0, hargs, rfl, rfl, h0, r0⟩ := trodAll_cons hA
  obtain ⟨v1, vs1, d1, ds1, p1, q1, rfl, rfl, rfl, h1, r1⟩ := trodAll_cons r0
  obtain ⟨rfl, rfl, rfl⟩ := trodAll_nil r1
  obtain rfl : args = #[v0, v1] := by cases args; simp_all
  obtain ⟨rfl, rfl⟩ := trodVars_none hV
  have k0 := h0
  have lt0 : ∀ x ∈ p0, x.block < W.heap.size := by obtain ⟨m, hm⟩ := k0; exact DataW.trod_lt m _ _ _ hm
  obtain ⟨x0, rfl⟩ := open_book (hval 0 23 v0 rfl rfl) h0
  have k1 := h1
  have lt1 : ∀ x ∈ p1, x.block < W.heap.size := by obtain ⟨m, hm⟩ := k1; exact DataW.trod_lt m _ _ _ hm
  obtain ⟨A1, n1, c1, l1, rfl, rfl, rd1, zz1⟩ := open_recs (hval 1 24 v1 rfl rfl) h1
  clear hA0 hval0
  refine (walk W x0 A1 c1 l1 rd1 zz1).mono fun e W' ⟨he, bel⟩ => ?_
  subst he
  exact ⟨_, rfl, _, _, _, [], _, [], hW', trodAll_mk1 (shut_bool Try.underlying4 _), (trodAll_cons_mk (Below.trod laidOut (by kernel_rfl) (of_decide_eq_true (by kernel_rfl)) k0 bel lt0) (trodAll_cons_mk (Below.trod laidOut (by kernel_rfl) (of_decide_eq_true (by kernel_rfl)) k1 bel lt1) trodAll_mk0)), rfl, bel.frame _, fun h => by cases h⟩

theorem over : Rows.dutyAuditsRow.holds Try.pinned (OpenSpec.ofChange Rows.dutyAuditsSpec) :=
  OpenClaim.holds_of_wide 3 Try.f3 rfl rfl rfl rfl rfl rfl rfl ⟨rfl, rfl, rfl, rfl, rfl⟩ rfl rfl rfl rfl rfl (by kernel_rfl) Try.func3 (by kernel_rfl)
    (of_decide_eq_true (by kernel_rfl)) (by unfold Func.isWrapper; first | (rw [if_pos (by decide +kernel)]; kernel_rfl) | (rw [if_neg (by decide +kernel)]; exact ⟨rfl, rfl⟩))
    (fun os started H enc _ => lifted os started H enc)

theorem proved : Rows.DutyAuditsSaid := over
#print axioms proved
end Go.Proofs.Ytlbafgdbemhanaa.dutyAudits
