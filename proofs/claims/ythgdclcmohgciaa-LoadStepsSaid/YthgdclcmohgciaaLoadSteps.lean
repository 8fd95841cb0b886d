/- From leg to leg the load goes down by what is brought and up by what is fetched; at first there is all that is brought, at last all that was fetched. Conditions: none. -/
import Derived.Test.YthgdclcmohgciaaRows
import Derived.Test.YthgdclcmohgciaaBase
import Derived.Test.YthgdclcmohgciaaRow
import Derived.Test.YthgdclcmohgciaaRecMath
import Derived.Test.YthgdclcmohgciaaRecHeap
import Derived.Test.YthgdclcmohgciaaIntsOpen
import Derived.Test.YthgdclcmohgciaaIntsSame
import Derived.Test.YthgdclcmohgciaaIntsApp
import Derived.Test.YthgdclcmohgciaaApart
import Derived.Test.YthgdclcmohgciaaLoadMath
import Derived.Test.YthgdclcmohgciaaLoadC
import Derived.Test.YthgdclcmohgciaaLoadRef
import Derived.Test.YthgdclcmohgciaaLoadPart
import Derived.Test.YthgdclcmohgciaaLoadAlive
import Derived.WalkKit
import Derived.WalkSmall
import Derived.WalkSpells
import Derived.ProofKit
import Derived.OpenShut
import Derived.ShutString
import Derived.ChangeOld
import Derived.Below
import Derived.Lib.Hide
import Derived.OwnWalk
import Derived.Outline
import Derived.BigQuiet
import Derived.Deep.QuietTactic
import Derived.Deep.DeepCutAuto
import Derived.IntWalk
namespace Go.Proofs.Ythgdclcmohgciaa.loadSteps
open Go.ChangeShapes Go.WideShapes Go.ChangeAt Go.RowKit
open Go.ChangeMaps (open_string shut_string)
set_option linter.unusedVariables false

theorem own : ownKnob Try.prog.godebug = none := by kernel_rfl
theorem laidOut : laidOutB Try.prog = true := by kernel_rfl

set_option maxRecDepth 20000 in
set_option maxHeartbeats 4000000 in
theorem walk (w : World) (A0 : Option Addr) (c0 : Nat) (l0 : List Int) (r0 : RdN w A0 l0) (z0 : A0 = none → c0 = 0) :
    Calls Try.prog 5 #[.slice A0 l0.length c0] w fun e w' => e = .returned (.bool true) ∧ Below w.heap.size w w' := by
  obtain ⟨n0, hn0⟩ : ∃ n, l0.length = n := ⟨_, rfl⟩
  rw [hn0]
  have HN := Lib.hid hn0
  have R0 := Lib.hid r0
  have B0 := Lib.hid (Below.refl w.heap.size w)
  have LG := fun W (h : RdN W A0 l0) => legs21_any A0 c0 n0 l0 W HN h
  clear r0 z0
  by_cases hbig : 1000 < n0
  · have i1 : (1000 : Int) < (n0 : Int) := by omega
    clear LG
    go_enter Try.func5, Try.ntmps5
    go_wp2_with (first
      | go_skip
      | (go_at_call 6; (with_reducible refine (alive21_any _).mono ?_); rintro e w9 ⟨rfl, hb9⟩; have B9 := Lib.hid (b_cl B0.out (Nat.le_refl _) hb9); clear hb9))
    go_ret
    exact ⟨by first | rfl | simp, B9.out⟩
  have i1 : (n0 : Int) ≤ 1000 := by omega
  by_cases h0 : chkL l0 = 0
  case neg =>
    rw [legsE_no h0] at LG
    obtain ⟨z, hz⟩ : ∃ z, chkL l0 = z := ⟨_, rfl⟩
    rw [hz] at LG h0
    have e1 : (z == 0) = false := by simpa using h0
    have e2 : (z != 0) = true := by simpa using h0
    clear h0 hn0 hz hbig
    go_enter Try.func5, Try.ntmps5
    go_wp2_with (first
      | go_skip
      | (go_at_call 7; (with_reducible refine (LG _ R0.out).mono ?_); rintro e w1 ⟨v1, rfl, ho1, hb1⟩; have R1 := Lib.hid (R0.out.below hb1); have B1 := Lib.hid (b_cl B0.out (Nat.le_refl _) hb1); obtain ⟨A1, c1, rfl, _⟩ := ho1.read; clear ho1; clear hb1)
      | (go_at_call 6; (with_reducible refine (alive21_any _).mono ?_); rintro e w9 ⟨rfl, hb9⟩; have B9 := Lib.hid (b_cl B1.out (Nat.le_refl _) hb9); clear hb9))
    go_ret
    exact ⟨by first | rfl | simp, B9.out⟩
  obtain ⟨hl2, hF⟩ := chkL_ok h0
  have HL2 := Lib.hid hl2
  have hml : (legsV l0).length = n0 + 1 := by rw [legsV_len, hn0]
  rw [h0, legsE_ok h0] at LG
  have HAT := Lib.hid fun k (h : k ≤ n0) => legsV_at l0 (k := k) (by rw [hn0]; exact h)
  have HMORE := Lib.hid fun k (h : k < n0) => legAt_more l0 (k := k) (by rw [hn0]; exact h)
  have HNN := Lib.hid (legAt_nonneg l0)
  have HLE := Lib.hid (legAt_le hF hl2)
  have HUT := Lib.hid fun k (h : k < n0) => upL_take l0 (k := k) (by rw [hn0]; exact h)
  have HST := Lib.hid fun k (h : k < n0) => sm_take l0 (k := k) (by rw [hn0]; exact h)
  have HUB := Lib.hid fun k => upL_le (take_few hF k)
  have HSB := Lib.hid fun k => sm_bd (take_few hF k)
  have HTL := Lib.hid (take_len l0)
  have HZ := Lib.hid (legAt_zero l0)
  have HEND := Lib.hid (legAt_end l0)
  have HALL : Hid (l0.take n0 = l0) := Lib.hid (List.take_of_length_le (by rw [hn0]; exact Nat.le_refl _))
  have HFG := Lib.hid fun k => few_getD hF k
  have HML := Lib.hid hml
  have e3 : (((n0 + 1 : Nat) : Int) == (n0 : Int) + 1) = true := by simp
  have e4 : (((n0 + 1 : Nat) : Int) != (n0 : Int) + 1) = false := by simp
  rw [hn0] at HEND
  generalize legsV l0 = L at *
  clear h0 hl2 hF hml hn0 hbig
  go_enter Try.func5, Try.ntmps5
  go_wp2_with (first
    | go_skip
    | (go_at_call 7; (with_reducible refine (LG _ R0.out).mono ?_); rintro e w1 ⟨v1, rfl, ho1, hb1⟩; have R1 := Lib.hid (R0.out.below hb1); have B1 := Lib.hid (b_cl B0.out (Nat.le_refl _) hb1); obtain ⟨A1, c1, rfl, hr1⟩ := ho1.read; rw [HML.out]; have Y1 := Lib.hid hr1; clear ho1 hr1; clear hb1))
  clear e3 e4
  go_loopw [5, 6, 34] (fun b g i wr => ∃ (k : Nat) (x y : Int), k ≤ n0 ∧ i = .int .i64 k ∧ b = .int .i64 x ∧ g = .int .i64 y ∧ Hid (upL (l0.take k) = x) ∧ Hid (upL (l0.take k) - sm (l0.take k) = y) ∧ Below w1.heap.size w1 wr) (fun _ _ i _ => n0 - (intOf i).toNat)
  case atStart => exact ⟨0, 0, 0, Nat.zero_le _, rfl, rfl, rfl, Lib.hid (by simp [upL, bro, sm]), Lib.hid (by simp [upL, bro, sm]), Below.refl _ _⟩
  case round =>
    obtain ⟨k, x, y, hk, rfl, rfl, rfl, HX, HY, hb⟩ := hrel
    obtain ⟨w3, rfl⟩ : ∃ w3 : World, w3 = wr := ⟨_, rfl⟩
    have hsz := hb.size
    by_cases hlt : k < n0
    · obtain ⟨b, off, u, rfl, hbb, hc0, hs⟩ := (R1.out.below hb).getD (k := k) (by rw [HN.out]; exact hlt)
      obtain ⟨g, og, p0, rfl, hgb, hd0, ht0⟩ := (Y1.out.below hb).getD (k := k) (by rw [HML.out]; omega)
      obtain ⟨g', og', p1, e0, _, hd1, ht1⟩ := (Y1.out.below hb).getD (k := k + 1) (by rw [HML.out]; omega)
      injection e0 with e0
      injection e0 with ea eb _
      subst ea eb
      have hp0 : p0 = legAt l0 k := by rw [← ht0.out, HAT.out k (by omega)]
      have hp1 : p1 = legAt l0 (k + 1) := by rw [← ht1.out, HAT.out (k + 1) (by omega)]
      have hq : p0 - p1 = u := by rw [hp0, hp1, HMORE.out k hlt, hs.out]; omega
      have hnn : 0 ≤ p0 := by rw [hp0]; exact HNN.out k
      have hle : p0 ≤ 4000000000 := by rw [hp0]; exact HLE.out k
      have hnn1 : 0 ≤ p1 := by rw [hp1]; exact HNN.out (k + 1)
      have hle1 : p1 ≤ 4000000000 := by rw [hp1]; exact HLE.out (k + 1)
      have HUK := HUT.out k hlt
      have HSK := HST.out k hlt
      rw [hs.out] at HUK HSK
      have hub := HUB.out (k + 1)
      have hsb := HSB.out (k + 1)
      have htl := HTL.out (k + 1)
      have hx1 : upL (l0.take (k + 1)) = x + max u 0 := by rw [HUK, HX.out]
      have hy1 : upL (l0.take (k + 1)) - sm (l0.take (k + 1)) = y - min u 0 := by rw [← HY.out, HUK, HSK]; omega
      have hgx : 0 ≤ upL (l0.take (k + 1)) := upL_nonneg _
      have hgy : sm (l0.take (k + 1)) ≤ upL (l0.take (k + 1)) := upL_ge _
      have HX1 := Lib.hid hx1
      have HY1 := Lib.hid hy1
      rw [hx1] at hub hgx
      have hbx : x + max u 0 ≤ 1000000000 := by omega
      have hby0 : 0 ≤ y - min u 0 := by rw [← hy1]; omega
      have hby : y - min u 0 ≤ 4000000000 := by rw [← hy1, hx1]; omega
      clear hub hsb htl HUK HSK hx1 hy1 hgy hp0 hp1
      have hgs : g < w3.heap.size := by have := B1.out.size; omega
      have q0 : ∀ p : BelowOf w3, p.world.cell? ⟨g, og + k, none⟩ = some (.int .i64 p0) := fun p => p.cell hd0
      have q1 : ∀ p : BelowOf w3, p.world.cell? ⟨g, og + (k + 1), none⟩ = some (.int .i64 p1) := fun p => p.cell hd1
      have k0 : (0 : Int) ≤ (k : Int) := by omega
      have k1 : (k : Int) < ((n0 + 1 : Nat) : Int) := by omega
      have k2 : (k : Int) + 1 < ((n0 + 1 : Nat) : Int) := by omega
      have k3 : (0 : Int) ≤ (k : Int) + 1 := by omega
      have kl : (k : Int) < (n0 : Int) := by omega
      have g0 : decide (p0 < 0) = false := decide_eq_false (by omega)
      have g1 : (u == u) = true := by simp
      have g2 : (u != u) = false := by simp
      have v0 : IntKind.i64.wrap (p0 - p1) = u := by rw [IntWalk.i64_in _ (by omega)]; exact hq
      have v1 : IntKind.i64.wrap ((k : Int) + 1) = (k : Int) + 1 := IntWalk.i64_in _ (by omega)
      have v2 : ((k : Int) + 1).toNat = k + 1 := by omega
      have HLT := Lib.hid hlt
      have HK := Lib.hid hk
      clear hq hnn hle hnn1 hle1 hlt hk
      go_wp2
      refine wp_region_bel (by kernel_rfl) (by kernel_rfl) ?_
      repeat (go_big_quiet_step (first | (fail)))
      refine wpQuiet_nil ?_
      refine bel_all fun wq hbq => ?_
      clear q0 q1 v0 v1 v2 k2 k3
      go_wp2
      go_roundw
      case rel => exact ⟨k + 1, _, _, HLT.out, by go_num, by congr 1, by congr 1, HX1, HY1, hb.trans (hbq.mono hsz)⟩
      case measure => have := HLT.out; simp [intOf]; omega
    · obtain rfl : k = n0 := by omega
      rw [HALL.out] at HX HY
      obtain ⟨g, og, p0, rfl, hgb, hd0, ht0⟩ := (Y1.out.below hb).getD (k := 0) (by rw [HML.out]; omega)
      obtain ⟨g', og', p1, e0, _, hd1, ht1⟩ := (Y1.out.below hb).getD (k := k) (by rw [HML.out]; omega)
      injection e0 with e0
      injection e0 with ea eb _
      subst ea eb
      rw [Nat.add_zero] at hd0
      have hp0 : p0 = x := by rw [← ht0.out, HAT.out 0 (by omega), HZ.out, HX.out]
      have hp1 : p1 = y := by rw [← ht1.out, HAT.out k (Nat.le_refl _), HEND.out, HY.out]
      subst hp0 hp1
      have g1 : (p0 == p0) = true := by simp
      have g2 : (p1 == p1) = true := by simp
      have k1 : (k : Int) < ((k + 1 : Nat) : Int) := by omega
      have B8 := Lib.hid (b_cl B1.out (Nat.le_refl _) hb)
      go_wp2_with (first
        | go_skip
        | (go_at_call 6; (with_reducible refine (alive21_any _).mono ?_); rintro e w9 ⟨rfl, hb9⟩; have B9 := Lib.hid (b_cl B8.out (Nat.le_refl _) hb9); clear hb9))
      go_ret
      exact ⟨by first | rfl | simp, B9.out⟩

set_option maxRecDepth 100000 in
theorem lifted (os : Os) (started : os.Started) (H : Type) (enc : TypeId × Value → H) :
    ReturnsInHanded {} Try.checked os 5 .any (Rows.loadStepsSpec.pre6 enc Try.prog Try.f5 Rows.loadStepsRow.domain false) (Rows.loadStepsSpec.post enc Try.prog Try.f5 false true false false) := by
  refine returnsInHanded_of_change (C := Try.checked) own started (by kernel_rfl) Try.func5
    (ChangeSpec.witness6 (enc := enc) (C := Try.checked) false ⟨#[], #[.slice none 0 0], []⟩ 8 (by kernel_rfl) (by kernel_rfl) (by kernel_rfl) (by kernel_rfl)) ?_
  intro W base args ds gs before hval0 hW hcnd _
  have hval : ∀ (j : Nat) t v, Try.f5.params[j]? = some t → args[j]? = some v → Value.okWide Try.prog W .any base t v := hval0
  have hW' := hW
  obtain ⟨p, q, hA0, hV, rfl, hfz, hnd⟩ := hW
  have hA : DataW.TrodAll enc Try.prog W 0 (fun _ => true) true Try.f5.params.toList args.toList ds p := hA0
  rw [Try.params5] at hA hval
  obtain ⟨v0, vs0, d0, ds0, p0, q0, hargs, rfl, rfl, h0, r0⟩ := trodAll_cons hA
  obtain ⟨rfl, rfl, rfl⟩ := trodAll_nil r0
  obtain rfl : args = #[v0] := by cases args; simp_all
  obtain ⟨rfl, rfl⟩ := trodVars_none hV
  have k0 := h0
  have lt0 : ∀ x ∈ p0, x.block < W.heap.size := by obtain ⟨m, hm⟩ := k0; exact DataW.trod_lt m _ _ _ hm
  obtain ⟨A0, c0, l0, rfl, rd0, zz0⟩ := open_ints13 (hval 0 22 v0 rfl rfl) h0
  clear hA0 hval0
  refine (walk W A0 c0 l0 rd0 zz0).mono fun e W' ⟨he, bel⟩ => ?_
  subst he
  exact ⟨_, rfl, _, _, _, [], _, [], hW', trodAll_mk1 (shut_bool Try.underlying4 _), (trodAll_cons_mk (Below.trod laidOut (by kernel_rfl) (of_decide_eq_true (by kernel_rfl)) k0 bel lt0) trodAll_mk0), rfl, bel.frame _, fun h => by cases h⟩

theorem over : Rows.loadStepsRow.holds Try.pinned (OpenSpec.ofChange Rows.loadStepsSpec) :=
  OpenClaim.holds_of_wide 5 Try.f5 rfl rfl rfl rfl rfl rfl rfl ⟨rfl, rfl, rfl, rfl, rfl⟩ rfl rfl rfl rfl rfl (by kernel_rfl) Try.func5 (by kernel_rfl)
    (of_decide_eq_true (by kernel_rfl)) (by unfold Func.isWrapper; first | (rw [if_pos (by decide +kernel)]; kernel_rfl) | (rw [if_neg (by decide +kernel)]; exact ⟨rfl, rfl⟩))
    (fun os started H enc _ => lifted os started H enc)

theorem proved : Rows.LoadStepsSaid := over
#print axioms proved
end Go.Proofs.Ythgdclcmohgciaa.loadSteps
