/- Cut and Span answer as the document says. Conditions: none (of more than two hundred records the law asks the example alone). -/
import Derived.Test.YtbfjhhijhkhnkaaRows
import Derived.Test.YtbfjhhijhkhnkaaBase
import Derived.Test.YtbfjhhijhkhnkaaRow
import Derived.Test.YtbfjhhijhkhnkaaRecMath
import Derived.Test.YtbfjhhijhkhnkaaRecMath2
import Derived.Test.YtbfjhhijhkhnkaaRecHeap
import Derived.Test.YtbfjhhijhkhnkaaRecOpen
import Derived.Test.YtbfjhhijhkhnkaaRecAlive
import Derived.Test.YtbfjhhijhkhnkaaRecSame
import Derived.Test.YtbfjhhijhkhnkaaRecSmall
import Derived.Test.YtbfjhhijhkhnkaaSpan
import Derived.Test.YtbfjhhijhkhnkaaRecCut
import Derived.Test.YtbfjhhijhkhnkaaRecCutR
import Derived.Test.YtbfjhhijhkhnkaaRecSpan
import Derived.WalkKit
import Derived.WalkSmall
import Derived.WalkSpells
import Derived.ProofKit
import Derived.OpenShut
import Derived.ShutString
import Derived.ChangeOld
import Derived.Below
import Derived.Lib.Hide
import Derived.OwnWalk
namespace Go.Proofs.Ytbfjhhijhkhnkaa.recordCuts
open Go.ChangeShapes Go.WideShapes Go.ChangeAt Go.RowKit
open Go.ChangeMaps (open_string shut_string)
set_option linter.unusedVariables false

theorem own : ownKnob Try.prog.godebug = none := by kernel_rfl
theorem laidOut : laidOutB Try.prog = true := by kernel_rfl

theorem walk (w : World) (A0 : Option Addr) (c0 : Nat) (l0 : List Rc) (r0 : RdR w A0 l0) (z0 : A0 = none → c0 = 0) (a1 b1 : Int) (w1 : (Lit.int .i64 a1).wf = true) (x1 : (Lit.int .i64 b1).wf = true) :
    Calls Try.prog 4 #[.slice A0 l0.length c0, .agg #[.int .i64 a1, .int .i64 b1]] w fun e w' => e = .returned (.bool true) ∧ Below w.heap.size w w' := by
  by_cases h200 : 200 < l0.length
  · have h200' : (200 : Int) < (l0.length : Int) := by omega
    go_enter Try.func4, Try.ntmps4
    go_wp2_with (go_at_call 7; refine (alive8_any _).mono ?_; rintro e wz ⟨rfl, hbz⟩)
    go_ret
    exact ⟨rfl, b_cl (b_al (Below.refl _ _) (Nat.le_refl _) _) (Nat.le_refl _) hbz⟩
  · have h200' : (l0.length : Int) ≤ 200 := by omega
    have hl2 : l0.length ≤ 4611686018427387904 := by omega
    have HR := Lib.hid (r0.below ((Below.refl _ _).alloc (Nat.le_refl _) (.cells #[.int .i64 a1, .int .i64 b1] 32)))
    have CT := fun W (h : RdR W A0 l0) => cutl_any A0 c0 l0 a1 b1 W h (by omega)
    have RCT := fun W (h : RdR W A0 l0) => refcutl_any A0 c0 l0 a1 b1 W h hl2
    have htl : (cutV a1 b1 l0).1.length ≤ 200 := by
      unfold cutV
      split
      · split
        · have h1 := norm_len (withinV a1 b1 l0)
          have h2 := within_len a1 b1 l0
          show (normV _).length ≤ 200
          omega
        · simp
      · simp
    have SM := fun A B c d W (ha : RdR W A (cutV a1 b1 l0).1) (hb : RdR W B (cutV a1 b1 l0).1) => sameR_any A B c d (cutV a1 b1 l0).1.length (cutV a1 b1 l0).1.length (cutV a1 b1 l0).1 (cutV a1 b1 l0).1 W (Lib.hid rfl) (Lib.hid rfl) ha hb (by omega)
    rw [decide_eq_true (rfl : (cutV a1 b1 l0).1 = (cutV a1 b1 l0).1)] at SM
    have SP := fun W (h : RdR W A0 l0) => spant_any A0 c0 l0.length l0 W (Lib.hid rfl) h hl2
    have RG := fun W (h : RdR W A0 l0) => refistime_any A0 c0 l0 W h hl2
    clear htl r0 z0
    generalize cutV a1 b1 l0 = V at CT RCT SM
    obtain ⟨t, e⟩ := V
    by_cases hc : (checkV l0).2 = 0
    · have e1 : ((checkV l0).2 == 0) = true := by simpa using hc
      rw [e1] at RG
      by_cases h0 : l0 = []
      · have e2 : spanTV l0 = (0, 0, false) := by unfold spanTV; rw [if_neg (fun k => k.2 h0)]
        rw [e2] at SP
        have hn : l0.length = 0 := by rw [h0]; rfl
        rw [hn] at CT RCT SP RG ⊢
        clear e1 e2 hc h0 h200 h200' hl2 hn
        go_enter Try.func4, Try.ntmps4
        go_wp2_with (first
          | (go_at_call 14; (with_reducible refine (CT _ HR.out).mono ?_); rintro e w1 ⟨v1, rfl, ho1, hb1⟩; obtain ⟨A1, c1, rfl, hr1, _⟩ := ho1.read; have R1 := Lib.hid hr1; have H1 := Lib.hid (b_cl (b_al (Below.refl w.heap.size w) (Nat.le_refl _) _) (Nat.le_refl _) hb1); have x0 : w1.cell? ⟨w.heap.size, 0, none⟩ = some (.int .i64 a1) := (c_cl (by simp) hb1); have x1_ : w1.cell? ⟨w.heap.size, 1, none⟩ = some (.int .i64 b1) := (c_cl (by simp) hb1); have HR1 := Lib.hid (HR.out.below hb1); clear hb1 ho1 hr1)
          | (go_at_call 15; (with_reducible refine (RCT _ HR1.out).mono ?_); rintro e w2 ⟨v2, rfl, ho2, hb2⟩; obtain ⟨A2, c2, rfl, hr2, _⟩ := ho2.read; have R2 := Lib.hid hr2; have R1' := Lib.hid (R1.out.below hb2); have H2 := Lib.hid (b_tr H1.out hb2); have HR2 := Lib.hid (HR1.out.below hb2); clear hb2 ho2 hr2)
          | (go_at_call 16; (with_reducible refine (SP _ HR2.out).mono ?_); rintro e w3 ⟨rfl, hb3⟩; have R2' := Lib.hid (R2.out.below hb3); have R1x := Lib.hid (R1'.out.below hb3); have H3 := Lib.hid (b_tr H2.out hb3); have HR3 := Lib.hid (HR2.out.below hb3); clear hb3)
          | (go_at_call 17; (with_reducible refine (RG _ (HR3.out.below ?hq)).mono ?_); (case hq => exact b_al (b_al (Below.refl _ _) (Nat.le_refl _) _) (Nat.le_refl _) _); rintro e w4 ⟨rfl, hb4⟩; have B9h := Lib.hid (((Box2.new w3 0 0 32).alloc (.cells #[.int .i64 0, .int .i64 0] 32)).below hb4); have B11h := Lib.hid ((Box2.newAt (w3.alloc (.cells #[.int .i64 0, .int .i64 0] 32)) (n := w3.heap.size + 1) (by simp) 0 0 32).below hb4); have HX4 := Lib.hid (show Below w3.heap.size w3 w4 from b_cl (b_al (b_al (Below.refl _ _) (Nat.le_refl _) _) (Nat.le_refl _) _) (Nat.le_refl _) hb4); have H4 := Lib.hid (b_tr H3.out HX4.out); have HRx := Lib.hid (HR3.out.below HX4.out); obtain ⟨d0, d1, g0, g1⟩ := B11h.out; clear hb4)
          | (go_at_call 12; (with_reducible refine (SM A1 A2 c1 c2 _ (R1x.out.below ?ha) (R2'.out.below ?hb)).mono ?_); (case ha => exact HX4.out); (case hb => exact HX4.out); rintro e w5 ⟨rfl, hb5⟩; have B9' := Lib.hid (B9h.out.below hb5); have B11' := Lib.hid (B11h.out.below hb5); obtain ⟨s0, s1, _, _⟩ := B9'.out; obtain ⟨t0, t1, _, _⟩ := B11'.out; have H5 := Lib.hid (b_tr H4.out hb5); clear hb5)
          | (go_at_call 7; refine (alive8_any _).mono ?_; rintro e wz ⟨rfl, hbz⟩))
        go_ret
        exact ⟨by simp, b_tr H5.out hbz⟩
      · have e2 : spanTV l0 = (beg l0, fin l0, true) := by unfold spanTV; rw [if_pos ⟨hc, h0⟩]
        rw [e2] at SP
        have hn : (0 : Int) < (l0.length : Int) := by have := List.length_pos_iff.2 h0; omega
        have BG := fun W (h : RdR W A0 l0) => refbeg_any A0 c0 l0.length l0 W (Lib.hid rfl) h hl2
        have EN := fun W (h : RdR W A0 l0) => reffin_any A0 c0 l0.length l0 W (Lib.hid rfl) h hl2
        generalize beg l0 = x at BG SP
        generalize fin l0 = y at EN SP
        clear e1 e2 hc h0 h200
        go_enter Try.func4, Try.ntmps4
        go_wp2_with (first
          | (go_at_call 14; (with_reducible refine (CT _ HR.out).mono ?_); rintro e w1 ⟨v1, rfl, ho1, hb1⟩; obtain ⟨A1, c1, rfl, hr1, _⟩ := ho1.read; have R1 := Lib.hid hr1; have H1 := Lib.hid (b_cl (b_al (Below.refl w.heap.size w) (Nat.le_refl _) _) (Nat.le_refl _) hb1); have x0 : w1.cell? ⟨w.heap.size, 0, none⟩ = some (.int .i64 a1) := (c_cl (by simp) hb1); have x1_ : w1.cell? ⟨w.heap.size, 1, none⟩ = some (.int .i64 b1) := (c_cl (by simp) hb1); have HR1 := Lib.hid (HR.out.below hb1); clear hb1 ho1 hr1)
          | (go_at_call 15; (with_reducible refine (RCT _ HR1.out).mono ?_); rintro e w2 ⟨v2, rfl, ho2, hb2⟩; obtain ⟨A2, c2, rfl, hr2, _⟩ := ho2.read; have R2 := Lib.hid hr2; have R1' := Lib.hid (R1.out.below hb2); have H2 := Lib.hid (b_tr H1.out hb2); have HR2 := Lib.hid (HR1.out.below hb2); clear hb2 ho2 hr2)
          | (go_at_call 16; (with_reducible refine (SP _ HR2.out).mono ?_); rintro e w3 ⟨rfl, hb3⟩; have R2' := Lib.hid (R2.out.below hb3); have R1x := Lib.hid (R1'.out.below hb3); have H3 := Lib.hid (b_tr H2.out hb3); have HR3 := Lib.hid (HR2.out.below hb3); clear hb3)
          | (go_at_call 17; (with_reducible refine (RG _ (HR3.out.below ?hq)).mono ?_); (case hq => exact b_al (b_al (Below.refl _ _) (Nat.le_refl _) _) (Nat.le_refl _) _); rintro e w4 ⟨rfl, hb4⟩; have B9h := Lib.hid (((Box2.new w3 x y 32).alloc (.cells #[.int .i64 0, .int .i64 0] 32)).below hb4); have B11h := Lib.hid ((Box2.newAt (w3.alloc (.cells #[.int .i64 x, .int .i64 y] 32)) (n := w3.heap.size + 1) (by simp) 0 0 32).below hb4); have HX4 := Lib.hid (show Below w3.heap.size w3 w4 from b_cl (b_al (b_al (Below.refl _ _) (Nat.le_refl _) _) (Nat.le_refl _) _) (Nat.le_refl _) hb4); have H4 := Lib.hid (b_tr H3.out HX4.out); have HRx := Lib.hid (HR3.out.below HX4.out); obtain ⟨d0, d1, g0, g1⟩ := B11h.out; clear hb4)
          | (go_at_call 18; (with_reducible refine (BG _ HRx.out).mono ?_); rintro e w' ⟨rfl, rfl⟩)
          | (go_at_call 19; (with_reducible refine (EN _ HRx.out).mono ?_); rintro e w' ⟨rfl, rfl⟩)
          | (go_at_call 12; (with_reducible refine (SM A1 A2 c1 c2 _ (R1x.out.below ?ha) (R2'.out.below ?hb)).mono ?_); (case ha => exact b_st (b_st HX4.out (by simp)) (by simp)); (case hb => exact b_st (b_st HX4.out (by simp)) (by simp)); rintro e w5 ⟨rfl, hb5⟩; have B9' := Lib.hid (((B9h.out.other (p := ⟨w3.heap.size + 1, 0, none⟩) (by simp) (.int .i64 x)).other (p := ⟨w3.heap.size + 1, 1, none⟩) (by simp) (.int .i64 y)).below hb5); have B11' := Lib.hid ((Box2.set1 (Box2.set0 B11h.out x) y).below hb5); obtain ⟨s0, s1, _, _⟩ := B9'.out; obtain ⟨t0, t1, _, _⟩ := B11'.out; have H5 := Lib.hid (b_cl (b_st (b_st H4.out (by have := H3.out.size; simp; omega)) (by have := H3.out.size; simp; omega)) (Nat.le_refl _) hb5); clear hb5)
          | (go_at_call 7; refine (alive8_any _).mono ?_; rintro e wz ⟨rfl, hbz⟩))
        go_ret
        exact ⟨by simp, b_tr H5.out hbz⟩
    · have e1 : ((checkV l0).2 == 0) = false := by simpa using hc
      have e2 : spanTV l0 = (0, 0, false) := by unfold spanTV; rw [if_neg (fun k => hc k.1)]
      rw [e1] at RG
      rw [e2] at SP
      clear e1 e2 hc h200
      go_enter Try.func4, Try.ntmps4
      go_wp2_with (first
        | (go_at_call 14; (with_reducible refine (CT _ HR.out).mono ?_); rintro e w1 ⟨v1, rfl, ho1, hb1⟩; obtain ⟨A1, c1, rfl, hr1, _⟩ := ho1.read; have R1 := Lib.hid hr1; have H1 := Lib.hid (b_cl (b_al (Below.refl w.heap.size w) (Nat.le_refl _) _) (Nat.le_refl _) hb1); have x0 : w1.cell? ⟨w.heap.size, 0, none⟩ = some (.int .i64 a1) := (c_cl (by simp) hb1); have x1_ : w1.cell? ⟨w.heap.size, 1, none⟩ = some (.int .i64 b1) := (c_cl (by simp) hb1); have HR1 := Lib.hid (HR.out.below hb1); clear hb1 ho1 hr1)
        | (go_at_call 15; (with_reducible refine (RCT _ HR1.out).mono ?_); rintro e w2 ⟨v2, rfl, ho2, hb2⟩; obtain ⟨A2, c2, rfl, hr2, _⟩ := ho2.read; have R2 := Lib.hid hr2; have R1' := Lib.hid (R1.out.below hb2); have H2 := Lib.hid (b_tr H1.out hb2); have HR2 := Lib.hid (HR1.out.below hb2); clear hb2 ho2 hr2)
        | (go_at_call 16; (with_reducible refine (SP _ HR2.out).mono ?_); rintro e w3 ⟨rfl, hb3⟩; have R2' := Lib.hid (R2.out.below hb3); have R1x := Lib.hid (R1'.out.below hb3); have H3 := Lib.hid (b_tr H2.out hb3); have HR3 := Lib.hid (HR2.out.below hb3); clear hb3)
        | (go_at_call 17; (with_reducible refine (RG _ (HR3.out.below ?hq)).mono ?_); (case hq => exact b_al (b_al (Below.refl _ _) (Nat.le_refl _) _) (Nat.le_refl _) _); rintro e w4 ⟨rfl, hb4⟩; have B9h := Lib.hid (((Box2.new w3 0 0 32).alloc (.cells #[.int .i64 0, .int .i64 0] 32)).below hb4); have B11h := Lib.hid ((Box2.newAt (w3.alloc (.cells #[.int .i64 0, .int .i64 0] 32)) (n := w3.heap.size + 1) (by simp) 0 0 32).below hb4); have HX4 := Lib.hid (show Below w3.heap.size w3 w4 from b_cl (b_al (b_al (Below.refl _ _) (Nat.le_refl _) _) (Nat.le_refl _) _) (Nat.le_refl _) hb4); have H4 := Lib.hid (b_tr H3.out HX4.out); have HRx := Lib.hid (HR3.out.below HX4.out); obtain ⟨d0, d1, g0, g1⟩ := B11h.out; clear hb4)
        | (go_at_call 12; (with_reducible refine (SM A1 A2 c1 c2 _ (R1x.out.below ?ha) (R2'.out.below ?hb)).mono ?_); (case ha => exact HX4.out); (case hb => exact HX4.out); rintro e w5 ⟨rfl, hb5⟩; have B9' := Lib.hid (B9h.out.below hb5); have B11' := Lib.hid (B11h.out.below hb5); obtain ⟨s0, s1, _, _⟩ := B9'.out; obtain ⟨t0, t1, _, _⟩ := B11'.out; have H5 := Lib.hid (b_tr H4.out hb5); clear hb5)
        | (go_at_call 7; refine (alive8_any _).mono ?_; rintro e wz ⟨rfl, hbz⟩))
      go_ret
      exact ⟨by simp, b_tr H5.out hbz⟩

set_option maxRecDepth 100000 in
theorem lifted (os : Os) (started : os.Started) (H : Type) (enc : TypeId × Value → H) :
    ReturnsInHanded {} Try.checked os 4 .any (Rows.recordCutsSpec.pre6 enc Try.prog Try.f4 Rows.recordCutsRow.domain false) (Rows.recordCutsSpec.post enc Try.prog Try.f4 false true false false) := by
  refine returnsInHanded_of_change (C := Try.checked) own started (by kernel_rfl) Try.func4
    (ChangeSpec.witness6 (enc := enc) (C := Try.checked) false ⟨#[], #[.slice none 0 0, .agg #[.int .i64 0, .int .i64 0]], []⟩ 8 (by kernel_rfl) (by kernel_rfl) (by kernel_rfl) (by kernel_rfl)) ?_
  intro W base args ds gs before hval0 hW hcnd _
  have hval : ∀ (j : Nat) t v, Try.f4.params[j]? = some t → args[j]? = some v → Value.okWide Try.prog W .any base t v := hval0
  have hW' := hW
  obtain ⟨p, q, hA0, hV, rfl, hfz, hnd⟩ := hW
  have hA : DataW.TrodAll enc Try.prog W 0 (fun _ => true) true Try.f4.params.toList args.toList ds p := hA0
  rw [Try.params4] at hA hval
  obtain ⟨v0, vs0, d0, ds0, p0, q0, hargs, rfl, rfl, h0, r0⟩ := trodAll_cons hA
  obtain ⟨v1, vs1, d1, ds1, p1, q1, rfl, rfl, rfl, h1, r1⟩ := trodAll_cons r0
  obtain ⟨rfl, rfl, rfl⟩ := trodAll_nil r1
  obtain rfl : args = #[v0, v1] := by cases args; simp_all
  obtain ⟨rfl, rfl⟩ := trodVars_none hV
  have k0 := h0
  have lt0 : ∀ x ∈ p0, x.block < W.heap.size := by obtain ⟨m, hm⟩ := k0; exact DataW.trod_lt m _ _ _ hm
  obtain ⟨A0, n0, c0, l0, rfl, rfl, rd0, zz0⟩ := open_recs (hval 0 22 v0 rfl rfl) h0
  obtain ⟨a1, b1, rfl, rfl, rfl, w1, x1⟩ := open_span (hval 1 32 v1 rfl rfl) h1
  clear hA0 hval0
  refine (walk W A0 c0 l0 rd0 zz0 a1 b1 w1 x1).mono fun e W' ⟨he, bel⟩ => ?_
  subst he
  exact ⟨_, rfl, _, _, _, [], _, [], hW', trodAll_mk1 (shut_bool Try.underlying4 _), (trodAll_cons_mk (Below.trod laidOut (by kernel_rfl) (of_decide_eq_true (by kernel_rfl)) k0 bel lt0) (trodAll_cons_mk (shut_span w1 x1) trodAll_mk0)), rfl, bel.frame _, fun h => by cases h⟩

theorem over : Rows.recordCutsRow.holds Try.pinned (OpenSpec.ofChange Rows.recordCutsSpec) :=
  OpenClaim.holds_of_wide 4 Try.f4 rfl rfl rfl rfl rfl rfl rfl ⟨rfl, rfl, rfl, rfl, rfl⟩ rfl rfl rfl rfl rfl (by kernel_rfl) Try.func4 (by kernel_rfl)
    (of_decide_eq_true (by kernel_rfl)) (by unfold Func.isWrapper; first | (rw [if_pos (by decide +kernel)]; kernel_rfl) | (rw [if_neg (by decide +kernel)]; exact ⟨rfl, rfl⟩))
    (fun os started H enc _ => lifted os started H enc)

theorem proved : Rows.RecordCutsSaid := over
#print axioms proved
end Go.Proofs.Ytbfjhhijhkhnkaa.recordCuts
