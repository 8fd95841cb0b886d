/- DutyMeter of layer 16 answers true at every input: the clauses that the auditor finds are just those that are broken minute by minute. Conditions: none beyond the statement's own. -/
import Derived.Test.YtlbafgdbemhanaaRows
import Derived.Test.YtlbafgdbemhanaaBase
import Derived.Test.YtlbafgdbemhanaaZ2
import Derived.Test.YtlbafgdbemhanaaBookLim
import Derived.Test.YtlbafgdbemhanaaBookMayR
import Derived.Test.YtlbafgdbemhanaaZ3
import Derived.Test.YtlbafgdbemhanaaZ1
import Derived.Test.YtlbafgdbemhanaaDutySet
import Derived.Test.YtlbafgdbemhanaaDutyAudit
import Derived.Test.YtlbafgdbemhanaaDutyAlive
import Derived.Test.YtlbafgdbemhanaaMeterRun
import Derived.Test.YtlbafgdbemhanaaMeterOf0
import Derived.Test.YtlbafgdbemhanaaZ5
import Derived.WalkKit
import Derived.WalkSmall
import Derived.WalkSpells
import Derived.ProofKit
import Derived.OpenShut
import Derived.ShutString
import Derived.ChangeOld
import Derived.Below
import Derived.Lib.Hide
import Derived.OwnWalk
import Derived.BigQuiet
import Derived.Outline
import Derived.Great.BuildSlice
import Derived.Maps.RangeWalk
import Derived.Deep.DeepCutAuto
import Derived.OrdersHeld
namespace Go.Proofs.Ytlbafgdbemhanaa.dutyMeter
open Go.ChangeShapes Go.WideShapes Go.ChangeAt Go.RowKit
open Go.ChangeMaps (open_string shut_string)
set_option linter.unusedVariables false

theorem own : ownKnob Try.prog.godebug = none := by kernel_rfl
theorem laidOut : laidOutB Try.prog = true := by kernel_rfl

set_option maxRecDepth 100000 in
set_option maxHeartbeats 4000000 in
theorem walk (w : World) (x0 : Nat → Int) (A1 : Option Addr) (c1 : Nat) (l1 : List Rc) (r1 : RdR w A1 l1) (z1 : A1 = none → c1 = 0) :
    Calls Try.prog 5 #[.agg (bk x0), .slice A1 l1.length c1] w fun e w' => e = .returned (.bool true) ∧ Below w.heap.size w w' := by
  obtain ⟨n, hn⟩ : ∃ n, l1.length = n := ⟨_, rfl⟩
  rw [hn]
  have RB : RdI (w.alloc (.cells (bk x0) 23)) w.heap.size 0 x0 := RdI.new x0 23 rfl
  have B0 : Below w.heap.size w (w.alloc (.cells (bk x0) 23)) := b_al (Below.refl _ _) (Nat.le_refl _) _
  have h0 := r1.below B0
  by_cases hbig : 60 < n
  · clear hn
    go_enter Try.func5, Try.ntmps5
    go_wp2_with (go_at_call 9; (with_reducible refine (alive16_any _).mono ?_); rintro e w99 ⟨rfl, hb99⟩)
    go_ret
    exact ⟨rfl, b_cl B0 (Nat.le_refl _) hb99⟩
  have CA := fun W h => audit16_any x0 A1 c1 l1 W h (by omega)
  have CO := fun W h => of13_any x0 A1 c1 l1 W h (by omega)
  rw [hn] at CA CO
  have hag := audit_meter x0 l1
  obtain ⟨er, her⟩ : ∃ er, (auditV x0 l1).2 = er := ⟨_, rfl⟩
  rw [her] at hag CA
  obtain ⟨ha1, ha2, ha3⟩ := hag
  rw [ha1] at CO
  by_cases he : er = 0
  case pos =>
    have SE := fun A c m W h1 h2 => set16_any A c m (auditV x0 l1).1 W h1 h2
    have hs := ha2 he
    obtain ⟨fl, hfl⟩ : ∃ fl, (auditV x0 l1).1 = fl := ⟨_, rfl⟩
    rw [hfl] at CA hs SE
    have hle : fl.length ≤ 1000 := by
      rw [← hfl]
      unfold auditV
      split
      · exact Nat.le_trans (listF_len _) (by decide)
      · simp
    rw [hs] at SE
    generalize (ofMV x0 l1).2.1 = S at CO SE
    generalize (ofMV x0 l1).1 = M at CO
    subst he
    clear her ha1 ha2 ha3 hs hfl hn
    go_enter Try.func5, Try.ntmps5
    go_wp2_with (first
      | go_skip
      | refine wpList_load_bk (by rfl) 23 _ rfl _ _ rfl x0 _ (by assumption) Try.underlying23 rfl (by kernel_rfl) ?_
      | (go_at_call 10; (with_reducible refine (CA _ h0).mono ?_); rintro e w1 ⟨A2, m2, c2, rfl, hm2, hr2, hz2, hb1⟩; have RB1 := RB.below hb1; have h1 := h0.below hb1; have HM2 := Lib.hid hm2; have HR2 := Lib.hid hr2; clear hm2 hr2 hz2 RB)
      | (go_at_call 16; (with_reducible refine (CO _ h1).mono ?_); rintro e w2 ⟨rfl, hb2⟩; have HR3 := Lib.hid (HR2.out.below hb2))
      | (refine wpList_store_box rfl 36 _ _ rfl w2.heap.size (mt M) rfl rfl 36 (mt .zero) (Bx.new (W := w2) 36 (mt .zero) rfl) (by kernel_rfl) rfl (mt_one _) (fun w3 u => ?_); have hb3 : Below w2.heap.size w2 w3 := (b_al (Below.refl _ _) (Nat.le_refl _) _).trans (u.bel _ (Nat.le_refl _)); have HR4 := Lib.hid (HR3.out.below hb3))
      | (go_at_call 14; (with_reducible refine (SE _ _ _ _ HM2.out HR4.out (by rw [← HM2.out]; omega)).mono ?_); rintro e w4 ⟨rfl, hb4⟩)
      | (go_at_call 9; (with_reducible refine (alive16_any _).mono ?_); rintro e w99 ⟨rfl, hb99⟩))
    go_ret
    exact ⟨by first | rfl | simp, b_cl (b_cl (b_cl (b_cl (b_cl B0 (Nat.le_refl _) hb1) (Nat.le_refl _) hb2) (Nat.le_refl _) hb3) (Nat.le_refl _) hb4) (Nat.le_refl _) hb99⟩
  case neg =>
    have hl0 := ha3 he
    rw [hl0] at CA
    generalize (ofMV x0 l1).2.1 = S at CO
    generalize (ofMV x0 l1).1 = M at CO
    have ne : (er == 0) = false := by simpa using he
    have ne2 : (er != 0) = true := by simpa using he
    clear her ha1 ha2 ha3 hn he hl0
    go_enter Try.func5, Try.ntmps5
    go_wp2_with (first
      | go_skip
      | refine wpList_load_bk (by rfl) 23 _ rfl _ _ rfl x0 _ (by assumption) Try.underlying23 rfl (by kernel_rfl) ?_
      | (go_at_call 10; (with_reducible refine (CA _ h0).mono ?_); rintro e w1 ⟨A2, m2, c2, rfl, hm2, hr2, hz2, hb1⟩; have RB1 := RB.below hb1; have h1 := h0.below hb1; obtain rfl : m2 = 0 := hm2.symm; clear hr2 hz2 hm2 RB)
      | (go_at_call 16; (with_reducible refine (CO _ h1).mono ?_); rintro e w2 ⟨rfl, hb2⟩)
      | (refine wpList_store_box rfl 36 _ _ rfl w2.heap.size (mt M) rfl rfl 36 (mt .zero) (Bx.new (W := w2) 36 (mt .zero) rfl) (by kernel_rfl) rfl (mt_one _) (fun w3 u => ?_); have hb3 : Below w2.heap.size w2 w3 := (b_al (Below.refl _ _) (Nat.le_refl _) _).trans (u.bel _ (Nat.le_refl _)))
      | (go_at_call 9; (with_reducible refine (alive16_any _).mono ?_); rintro e w99 ⟨rfl, hb99⟩))
    go_ret
    exact ⟨by first | rfl | simp, b_cl (b_cl (b_cl (b_cl B0 (Nat.le_refl _) hb1) (Nat.le_refl _) hb2) (Nat.le_refl _) hb3) (Nat.le_refl _) hb99⟩

set_option maxRecDepth 100000 in
theorem lifted (os : Os) (started : os.Started) (H : Type) (enc : TypeId × Value → H) :
    ReturnsInHanded {} Try.checked os 5 .any (Rows.dutyMeterSpec.pre6 enc Try.prog Try.f5 Rows.dutyMeterRow.domain false) (Rows.dutyMeterSpec.post enc Try.prog Try.f5 false true false false) := by
  refine returnsInHanded_of_change (C := Try.checked) own started (by kernel_rfl) Try.func5
    (ChangeSpec.witness6 (enc := enc) (C := Try.checked) false ⟨#[], #[.agg #[.int .i64 0, .int .i64 0, .int .i64 0, .int .i64 0, .int .i64 0, .int .i64 0, .int .i64 0, .int .i64 0, .int .i64 0, .int .i64 0, .int .i64 0, .int .i64 0, .int .i64 0, .int .i64 0, .int .i64 0, .int .i64 0, .int .i64 0, .int .i64 0, .int .i64 0], .slice none 0 0], []⟩ 8 (by kernel_rfl) (by kernel_rfl) (by kernel_rfl) (by kernel_rfl)) ?_
  intro W base args ds gs before hval0 hW hcnd _
  have hval : ∀ (j : Nat) t v, Try.f5.params[j]? = some t → args[j]? = some v → Value.okWide Try.prog W .any base t v := hval0
  have hW' := hW
  obtain ⟨p, q, hA0, hV, rfl, hfz, hnd⟩ := hW
  have hA : DataW.TrodAll enc Try.prog W 0 (fun _ => true) true Try.f5.params.toList args.toList ds p := hA0
  rw [Try.params5] at hA hval
  obtain ⟨v0, vs0, d0, ds0, p0, q0, hargs, rfl, rfl, h0, r0⟩ := trodAll_cons hA
  obtain ⟨v1, vs1, d1, ds1, p1, q1, rfl, rfl, rfl, h1, r1⟩ := trodAll_cons r0
  obtain ⟨rfl, rfl, rfl⟩ := trodAll_nil r1
  obtain rfl : args = #[v0, v1] := by cases args; simp_all
  obtain ⟨rfl, rfl⟩ := trodVars_none hV
  have k0 := h0
  have lt0 : ∀ x ∈ p0, x.block < W.heap.size := by obtain ⟨m, hm⟩ := k0; exact DataW.trod_lt m _ _ _ hm
  obtain ⟨x0, rfl⟩ := open_book (hval 0 23 v0 rfl rfl) h0
  have k1 := h1
  have lt1 : ∀ x ∈ p1, x.block < W.heap.size := by obtain ⟨m, hm⟩ := k1; exact DataW.trod_lt m _ _ _ hm
  obtain ⟨A1, n1, c1, l1, rfl, rfl, rd1, zz1⟩ := open_recs (hval 1 24 v1 rfl rfl) h1
  clear hA0 hval0
  refine (walk W x0 A1 c1 l1 rd1 zz1).mono fun e W' ⟨he, bel⟩ => ?_
  subst he
  exact ⟨_, rfl, _, _, _, [], _, [], hW', trodAll_mk1 (shut_bool Try.underlying4 _), (trodAll_cons_mk (Below.trod laidOut (by kernel_rfl) (of_decide_eq_true (by kernel_rfl)) k0 bel lt0) (trodAll_cons_mk (Below.trod laidOut (by kernel_rfl) (of_decide_eq_true (by kernel_rfl)) k1 bel lt1) trodAll_mk0)), rfl, bel.frame _, fun h => by cases h⟩

theorem over : Rows.dutyMeterRow.holds Try.pinned (OpenSpec.ofChange Rows.dutyMeterSpec) :=
  OpenClaim.holds_of_wide 5 Try.f5 rfl rfl rfl rfl rfl rfl rfl ⟨rfl, rfl, rfl, rfl, rfl⟩ rfl rfl rfl rfl rfl (by kernel_rfl) Try.func5 (by kernel_rfl)
    (of_decide_eq_true (by kernel_rfl)) (by unfold Func.isWrapper; first | (rw [if_pos (by decide +kernel)]; kernel_rfl) | (rw [if_neg (by decide +kernel)]; exact ⟨rfl, rfl⟩))
    (fun os started H enc _ => lifted os started H enc)

theorem proved : Rows.DutyMeterSaid := over
#print axioms proved
end Go.Proofs.Ytlbafgdbemhanaa.dutyMeter
