/- What is drained never falls, and has each item as often as it came; of two items one comes first, or they are the same. Conditions: none. -/
import Derived.Test.YtpfmkggnnilknaaRows
import Derived.Test.YtpfmkggnnilknaaBase
import Derived.Test.YtpfmkggnnilknaaRow
import Derived.Test.YtpfmkggnnilknaaRecMath
import Derived.Test.YtpfmkggnnilknaaTriLt
import Derived.Test.YtpfmkggnnilknaaBox
import Derived.Test.YtpfmkggnnilknaaFindHeap
import Derived.Test.YtpfmkggnnilknaaTriHeap
import Derived.Test.YtpfmkggnnilknaaHeapMath
import Derived.Test.YtpfmkggnnilknaaHeapHeap
import Derived.Test.YtpfmkggnnilknaaHeapLeaf
import Derived.Test.YtpfmkggnnilknaaHeapApp
import Derived.Test.YtpfmkggnnilknaaHeapPile
import Derived.Test.YtpfmkggnnilknaaHeapLib
import Derived.Test.YtpfmkggnnilknaaHeapPush
import Derived.Test.YtpfmkggnnilknaaHeapLib2
import Derived.Test.YtpfmkggnnilknaaHeapC
import Derived.Test.YtpfmkggnnilknaaHeapC2
import Derived.Test.YtpfmkggnnilknaaHeapC3
import Derived.Test.YtpfmkggnnilknaaHeapC4
import Derived.Test.YtpfmkggnnilknaaHeapRef
import Derived.Test.YtpfmkggnnilknaaHeapRef2
import Derived.Test.YtpfmkggnnilknaaHeapOpen
import Derived.Test.YtpfmkggnnilknaaHeapAlive
import Derived.Test.YtpfmkggnnilknaaHeapOrderW1
import Derived.Test.YtpfmkggnnilknaaHeapOrderW2
import Derived.Test.YtpfmkggnnilknaaHeapOrderW3
import Derived.WalkKit
import Derived.WalkSmall
import Derived.WalkSpells
import Derived.ProofKit
import Derived.OpenShut
import Derived.ShutString
import Derived.ChangeOld
import Derived.Below
import Derived.Lib.Hide
import Derived.OwnWalk
import Derived.Outline
import Derived.BigQuiet
import Derived.Deep.QuietTactic
import Derived.Deep.DeepCutAuto
import Derived.Deep.RegionWith
import Derived.Deep.LoopGhost
import Derived.Lib.MinMax
namespace Go.Proofs.Ytpfmkggnnilknaa.heapOrder
open Go.ChangeShapes Go.WideShapes Go.ChangeAt Go.RowKit
open Go.ChangeMaps (open_string shut_string)
set_option linter.unusedVariables false

theorem own : ownKnob Try.prog.godebug = none := by kernel_rfl
theorem laidOut : laidOutB Try.prog = true := by kernel_rfl

set_option maxRecDepth 20000 in
set_option maxHeartbeats 4000000 in
theorem walk (w : World) (A0 : Option Addr) (c0 : Nat) (l0 : List Rc) (r0 : RdF w A0 l0) (z0 : A0 = none → c0 = 0) (a1 b1 c1 : Int) (a2 b2 c2 : Int) :
    Calls Try.prog 5 #[.slice A0 l0.length c0, .agg #[.int .i64 a1, .int .i64 b1, .int .i64 c1], .agg #[.int .i64 a2, .int .i64 b2, .int .i64 c2]] w fun e w' => e = .returned (.bool true) ∧ Below w.heap.size w w' := by
  obtain ⟨n0, hn0⟩ : ∃ n, l0.length = n := ⟨_, rfl⟩
  rw [hn0]
  have HN := Lib.hid hn0
  have R0 := Lib.hid r0
  have B0 := Lib.hid (Below.refl w.heap.size w)
  clear z0
  by_cases hbig : 60 < n0
  · have i1 : (60 : Int) < (n0 : Int) := by omega
    have B1 := Lib.hid (b_al (b_al B0.out (Nat.le_refl _) (.cells #[.int .i64 a1, .int .i64 b1, .int .i64 c1] 37)) (Nat.le_refl _) (.cells #[.int .i64 a2, .int .i64 b2, .int .i64 c2] 37))
    clear r0
    go_enter Try.func5, Try.ntmps5
    go_wp2_with (first
      | go_skip
      | (go_at_call 6; refine (alive23_any _).mono ?_; rintro e w9 ⟨rfl, hb9⟩; have B9 := Lib.hid (b_cl (B1.out) (Nat.le_refl _) hb9); clear hb9))
    go_ret
    exact ⟨rfl, B9.out⟩
  · by_cases h1 : ltF (a1, b1, c1) (a2, b2, c2)
    · exact order23_way1 w A0 c0 l0 r0 a1 b1 c1 a2 b2 c2 n0 hn0 (by omega) (decide_eq_true h1) (decide_eq_false (ltF_as h1))
    · by_cases h2 : ltF (a2, b2, c2) (a1, b1, c1)
      · exact order23_way2 w A0 c0 l0 r0 a1 b1 c1 a2 b2 c2 n0 hn0 (by omega) (decide_eq_false h1) (decide_eq_true h2)
      · have e := ltF_tot h1 h2
        simp only [Prod.mk.injEq] at e
        obtain ⟨rfl, rfl, rfl⟩ := e
        exact order23_way3 w A0 c0 l0 r0 a1 b1 c1 n0 hn0 (by omega)

set_option maxRecDepth 100000 in
theorem lifted (os : Os) (started : os.Started) (H : Type) (enc : TypeId × Value → H) :
    ReturnsInHanded {} Try.checked os 5 .any (Rows.heapOrderSpec.pre6 enc Try.prog Try.f5 Rows.heapOrderRow.domain false) (Rows.heapOrderSpec.post enc Try.prog Try.f5 false true false false) := by
  refine returnsInHanded_of_change (C := Try.checked) own started (by kernel_rfl) Try.func5
    (ChangeSpec.witness6 (enc := enc) (C := Try.checked) false ⟨#[], #[.slice none 0 0, .agg #[.int .i64 0, .int .i64 0, .int .i64 0], .agg #[.int .i64 0, .int .i64 0, .int .i64 0]], []⟩ 8 (by kernel_rfl) (by kernel_rfl) (by kernel_rfl) (by kernel_rfl)) ?_
  intro W base args ds gs before hval0 hW hcnd _
  have hval : ∀ (j : Nat) t v, Try.f5.params[j]? = some t → args[j]? = some v → Value.okWide Try.prog W .any base t v := hval0
  have hW' := hW
  obtain ⟨p, q, hA0, hV, rfl, hfz, hnd⟩ := hW
  have hA : DataW.TrodAll enc Try.prog W 0 (fun _ => true) true Try.f5.params.toList args.toList ds p := hA0
  rw [Try.params5] at hA hval
  obtain ⟨v0, vs0, d0, ds0, p0, q0, hargs, rfl, rfl, h0, r0⟩ := trodAll_cons hA
  obtain ⟨v1, vs1, d1, ds1, p1, q1, rfl, rfl, rfl, h1, r1⟩ := trodAll_cons r0
  obtain ⟨v2, vs2, d2, ds2, p2, q2, rfl, rfl, rfl, h2, r2⟩ := trodAll_cons r1
  obtain ⟨rfl, rfl, rfl⟩ := trodAll_nil r2
  obtain rfl : args = #[v0, v1, v2] := by cases args; simp_all
  obtain ⟨rfl, rfl⟩ := trodVars_none hV
  have k0 := h0
  have lt0 : ∀ x ∈ p0, x.block < W.heap.size := by obtain ⟨m, hm⟩ := k0; exact DataW.trod_lt m _ _ _ hm
  obtain ⟨A0, c0, l0, rfl, rd0, zz0⟩ := open_ritems (hval 0 22 v0 rfl rfl) h0
  have k1 := h1
  have lt1 : ∀ x ∈ p1, x.block < W.heap.size := by obtain ⟨m, hm⟩ := k1; exact DataW.trod_lt m _ _ _ hm
  obtain ⟨a1, b1, c1, rfl⟩ := open_ritem (hval 1 37 v1 rfl rfl) h1
  have k2 := h2
  have lt2 : ∀ x ∈ p2, x.block < W.heap.size := by obtain ⟨m, hm⟩ := k2; exact DataW.trod_lt m _ _ _ hm
  obtain ⟨a2, b2, c2, rfl⟩ := open_ritem (hval 2 37 v2 rfl rfl) h2
  clear hA0 hval0
  refine (walk W A0 c0 l0 rd0 zz0 a1 b1 c1 a2 b2 c2).mono fun e W' ⟨he, bel⟩ => ?_
  subst he
  exact ⟨_, rfl, _, _, _, [], _, [], hW', trodAll_mk1 (shut_bool Try.underlying4 _), (trodAll_cons_mk (Below.trod laidOut (by kernel_rfl) (of_decide_eq_true (by kernel_rfl)) k0 bel lt0) (trodAll_cons_mk (Below.trod laidOut (by kernel_rfl) (of_decide_eq_true (by kernel_rfl)) k1 bel lt1) (trodAll_cons_mk (Below.trod laidOut (by kernel_rfl) (of_decide_eq_true (by kernel_rfl)) k2 bel lt2) trodAll_mk0))), rfl, bel.frame _, fun h => by cases h⟩

theorem over : Rows.heapOrderRow.holds Try.pinned (OpenSpec.ofChange Rows.heapOrderSpec) :=
  OpenClaim.holds_of_wide 5 Try.f5 rfl rfl rfl rfl rfl rfl rfl ⟨rfl, rfl, rfl, rfl, rfl⟩ rfl rfl rfl rfl rfl (by kernel_rfl) Try.func5 (by kernel_rfl)
    (of_decide_eq_true (by kernel_rfl)) (by unfold Func.isWrapper; first | (rw [if_pos (by decide +kernel)]; kernel_rfl) | (rw [if_neg (by decide +kernel)]; exact ⟨rfl, rfl⟩))
    (fun os started H enc _ => lifted os started H enc)

theorem proved : Rows.HeapOrderSaid := over
#print axioms proved
end Go.Proofs.Ytpfmkggnnilknaa.heapOrder
