/- A minute is told as shut just if it is in the span and no service may begin in it; what is told is a set. Conditions: none (of more than thirty spans the law asks the example alone). -/
import Derived.Test.YtdifgbnapcnmlaaRows
import Derived.Test.YtdifgbnapcnmlaaMath
import Derived.Test.YtdifgbnapcnmlaaBase
import Derived.Test.YtdifgbnapcnmlaaRow
import Derived.Test.YtdifgbnapcnmlaaIvalsWords
import Derived.Test.YtdifgbnapcnmlaaIvalsOwn
import Derived.Test.YtdifgbnapcnmlaaIvalsOpen
import Derived.Test.YtdifgbnapcnmlaaIvalsHas
import Derived.Test.YtdifgbnapcnmlaaIvalsHasC
import Derived.Test.YtdifgbnapcnmlaaIvalsNextC
import Derived.Test.YtdifgbnapcnmlaaWindowMath
import Derived.Test.YtdifgbnapcnmlaaWindowRef
import Derived.Test.YtdifgbnapcnmlaaWindowC
import Derived.Test.YtdifgbnapcnmlaaWindowAlive
import Derived.Test.YtdifgbnapcnmlaaSpan
import Derived.Test.YtdifgbnapcnmlaaIvalsRight
import Derived.Test.YtdifgbnapcnmlaaWindowShutC
import Derived.WalkKit
import Derived.WalkSmall
import Derived.WalkSpells
import Derived.ProofKit
import Derived.OpenShut
import Derived.ShutString
import Derived.ChangeOld
import Derived.Below
import Derived.Lib.Hide
import Derived.OwnWalk
import Derived.BigQuiet
import Derived.Deep.QuietTactic
import Derived.Outline
namespace Go.Proofs.Ytdifgbnapcnmlaa.windowShut
open Go.ChangeShapes Go.WideShapes Go.ChangeAt Go.RowKit
open Go.ChangeMaps (open_string shut_string)
set_option linter.unusedVariables false

theorem own : ownKnob Try.prog.godebug = none := by kernel_rfl
theorem laidOut : laidOutB Try.prog = true := by kernel_rfl

set_option maxHeartbeats 4000000 in
theorem walk (w : World) (A0 : Option Addr) (c0 : Nat) (l0 : List Sp) (r0 : RdS w A0 l0) (b0 : Bd l0) (a1 b1 : Int) (w1 : (Lit.int .i64 a1).wf = true) (x1 : (Lit.int .i64 b1).wf = true) (a2 : Int) (w2 : (Lit.int .i64 a2).wf = true) :
    Calls Try.prog 4 #[.slice A0 l0.length c0, .agg #[.int .i64 a1, .int .i64 b1], .int .i64 a2] w fun e w' => e = .returned (.bool true) ∧ Below w.heap.size w w' := by
  by_cases h30 : 30 < l0.length
  · have h30' : (30 : Int) < (l0.length : Int) := by omega
    go_enter Try.func4, Try.ntmps4
    go_wp2_with (go_at_call 6; refine (alive18_any _).mono ?_; rintro e w3 ⟨rfl, hb3⟩)
    go_ret
    have h1 := (Below.refl w.heap.size w).alloc (Nat.le_refl _) (.cells #[.int .i64 a1, .int .i64 b1] 31)
    exact ⟨rfl, h1.trans (hb3.mono h1.size)⟩
  · have h30' : (l0.length : Int) ≤ 30 := by omega
    have hl : l0.length ≤ 4611686018427387904 := by omega
    have bs : Bd [(a1, b1)] := by
      intro s hs
      simp at hs
      subst hs
      exact ⟨wf_bd w1, wf_bd x1⟩
    have hx := minusOf_ok bs b0
    have lx := minusOf_len [(a1, b1)] l0
    simp only [List.length_cons, List.length_nil] at lx
    have CX := fun W (h : RdS W A0 l0) => shut18_any A0 c0 l0 a1 b1 W h (by omega)
    have D1 := fun A c W (h : RdS W A (minusOf [(a1, b1)] l0)) => refrightl_any A c _ W h (by omega)
    have D2 := fun A c W (h : RdS W A (minusOf [(a1, b1)] l0)) => refhasl_any A c _ a2 W h (by omega)
    have D3 := fun W => refhas_any a1 b1 a2 W
    have D4 := fun A c W (h : RdS W A l0) => refhasl_any A c l0 a2 W h hl
    rw [(rightB_iff _).2 hx.1] at D1
    rw [hx.2, show hasL [(a1, b1)] a2 = (decide (a1 ≤ a2) && decide (a2 < b1)) from (Bool.or_false _)] at D2
    have h1 := (Below.refl w.heap.size w).alloc (Nat.le_refl _) (.cells #[.int .i64 a1, .int .i64 b1] 31)
    have HR := Lib.hid r0
    clear r0 b0 bs hx lx w1 x1 w2
    generalize minusOf [(a1, b1)] l0 = sx at *
    generalize (decide (a1 ≤ a2) && decide (a2 < b1)) = g0 at *
    generalize hasL l0 a2 = g1 at *
    cases g0 <;> cases g1
    all_goals
      (try simp at D2)
      go_enter Try.func4, Try.ntmps4
      go_wp2_with (go_at_call 15; refine (CX _ (HR.out.below h1)).mono ?_; rintro e w1 ⟨v, rfl, ho, hb1⟩; obtain ⟨Ax, cx, rfl, hr1, _, _⟩ := ho.form; have RX := Lib.hid hr1; clear ho hr1; obtain ⟨hc1, hf1⟩ := bcell hb1; have hz1 := hb1.size; (try simp at hz1); have : w.heap.size < w1.heap.size := (by omega))
      have RL := Lib.hid (HR.out.below (h1.trans (hb1.mono h1.size)))
      have q1 : ∀ p : BelowOf w1, p.world.cell? ⟨w.heap.size, 0, none⟩ = some (.int .i64 a1) := fun p => p.cell (by (repeat (first | assumption | (simp; done) | refine c_al _ ?_ | refine c_cl ?_ (by assumption))))
      have q2 : ∀ p : BelowOf w1, p.world.cell? ⟨w.heap.size, 1, none⟩ = some (.int .i64 b1) := fun p => p.cell (by (repeat (first | assumption | (simp; done) | refine c_al _ ?_ | refine c_cl ?_ (by assumption))))
      refine wp_region_bel (by kernel_rfl) (by kernel_rfl) ?_
      repeat (go_big_quiet_step (first
        | (go_at_call 16; (with_reducible exact Calls.bel_of (D1 _ _ _ (RX.out.below (BelowOf.ok _)))))
        | (go_at_call_of 14 (Value.slice Ax sx.length cx); (with_reducible exact Calls.bel_of (D2 _ _ _ (RX.out.below (BelowOf.ok _)))))
        | (go_at_call 17; (with_reducible exact Calls.bel_of (D3 _)))
        | (go_at_call_of 14 (Value.slice A0 l0.length c0); (with_reducible exact Calls.bel_of (D4 _ _ _ (RL.out.below (BelowOf.ok _)))))
        | (go_at_call 6; (with_reducible exact Calls.bel_of (alive18_any _)))))
      refine wpQuiet_nil ?_
      refine bel_all fun wq hbq => ?_
      go_wp2
      go_ret
      have h2 := h1.trans (hb1.mono h1.size)
      exact ⟨rfl, h2.trans (hbq.mono h2.size)⟩

set_option maxRecDepth 100000 in
theorem lifted (os : Os) (started : os.Started) (H : Type) (enc : TypeId × Value → H) :
    ReturnsInHanded {} Try.checked os 4 .any (Rows.windowShutSpec.pre6 enc Try.prog Try.f4 Rows.windowShutRow.domain false) (Rows.windowShutSpec.post enc Try.prog Try.f4 false true false false) := by
  refine returnsInHanded_of_change (C := Try.checked) own started (by kernel_rfl) Try.func4
    (ChangeSpec.witness6 (enc := enc) (C := Try.checked) false ⟨#[], #[.slice none 0 0, .agg #[.int .i64 0, .int .i64 0], .int .i64 0], []⟩ 8 (by kernel_rfl) (by kernel_rfl) (by kernel_rfl) (by kernel_rfl)) ?_
  intro W base args ds gs before hval0 hW hcnd _
  have hval : ∀ (j : Nat) t v, Try.f4.params[j]? = some t → args[j]? = some v → Value.okWide Try.prog W .any base t v := hval0
  have hW' := hW
  obtain ⟨p, q, hA0, hV, rfl, hfz, hnd⟩ := hW
  have hA : DataW.TrodAll enc Try.prog W 0 (fun _ => true) true Try.f4.params.toList args.toList ds p := hA0
  rw [Try.params4] at hA hval
  obtain ⟨v0, vs0, d0, ds0, p0, q0, hargs, rfl, rfl, h0, r0⟩ := trodAll_cons hA
  obtain ⟨v1, vs1, d1, ds1, p1, q1, rfl, rfl, rfl, h1, r1⟩ := trodAll_cons r0
  obtain ⟨v2, vs2, d2, ds2, p2, q2, rfl, rfl, rfl, h2, r2⟩ := trodAll_cons r1
  obtain ⟨rfl, rfl, rfl⟩ := trodAll_nil r2
  obtain rfl : args = #[v0, v1, v2] := by cases args; simp_all
  obtain ⟨rfl, rfl⟩ := trodVars_none hV
  have k0 := h0
  have lt0 : ∀ x ∈ p0, x.block < W.heap.size := by obtain ⟨m, hm⟩ := k0; exact DataW.trod_lt m _ _ _ hm
  obtain ⟨A0, n0, c0, l0, rfl, rfl, rd0, bd0⟩ := open_spans (hval 0 22 v0 rfl rfl) h0
  obtain ⟨a1, b1, rfl, rfl, rfl, w1, x1⟩ := open_span (hval 1 31 v1 rfl rfl) h1
  obtain ⟨a2, rfl, rfl, rfl, w2⟩ := open_int Try.underlying3 (hval 2 3 v2 rfl rfl) h2
  clear hA0 hval0
  refine (walk W A0 c0 l0 rd0 bd0 a1 b1 w1 x1 a2 w2).mono fun e W' ⟨he, bel⟩ => ?_
  subst he
  exact ⟨_, rfl, _, _, _, [], _, [], hW', trodAll_mk1 (shut_bool Try.underlying4 _), (trodAll_cons_mk (Below.trod laidOut (by kernel_rfl) (of_decide_eq_true (by kernel_rfl)) k0 bel lt0) (trodAll_cons_mk (shut_span w1 x1) (trodAll_cons_mk (shut_int Try.underlying3 w2) trodAll_mk0))), rfl, bel.frame _, fun h => by cases h⟩

theorem over : Rows.windowShutRow.holds Try.pinned (OpenSpec.ofChange Rows.windowShutSpec) :=
  OpenClaim.holds_of_wide 4 Try.f4 rfl rfl rfl rfl rfl rfl rfl ⟨rfl, rfl, rfl, rfl, rfl⟩ rfl rfl rfl rfl rfl (by kernel_rfl) Try.func4 (by kernel_rfl)
    (of_decide_eq_true (by kernel_rfl)) (by unfold Func.isWrapper; first | (rw [if_pos (by decide +kernel)]; kernel_rfl) | (rw [if_neg (by decide +kernel)]; exact ⟨rfl, rfl⟩))
    (fun os started H enc _ => lifted os started H enc)

theorem proved : Rows.WindowShutSaid := over
#print axioms proved
end Go.Proofs.Ytdifgbnapcnmlaa.windowShut
