/- What is drained of any heap are its first items, in order, as the document says. Conditions: none. -/
import Derived.Test.YtpfmkggnnilknaaRows
import Derived.Test.YtpfmkggnnilknaaBase
import Derived.Test.YtpfmkggnnilknaaRow
import Derived.Test.YtpfmkggnnilknaaRecMath
import Derived.Test.YtpfmkggnnilknaaTriLt
import Derived.Test.YtpfmkggnnilknaaBox
import Derived.Test.YtpfmkggnnilknaaFindHeap
import Derived.Test.YtpfmkggnnilknaaTriHeap
import Derived.Test.YtpfmkggnnilknaaHeapMath
import Derived.Test.YtpfmkggnnilknaaHeapHeap
import Derived.Test.YtpfmkggnnilknaaHeapLeaf
import Derived.Test.YtpfmkggnnilknaaHeapApp
import Derived.Test.YtpfmkggnnilknaaHeapPile
import Derived.Test.YtpfmkggnnilknaaHeapLib
import Derived.Test.YtpfmkggnnilknaaHeapPush
import Derived.Test.YtpfmkggnnilknaaHeapLib2
import Derived.Test.YtpfmkggnnilknaaHeapC
import Derived.Test.YtpfmkggnnilknaaHeapC2
import Derived.Test.YtpfmkggnnilknaaHeapC3
import Derived.Test.YtpfmkggnnilknaaHeapC4
import Derived.Test.YtpfmkggnnilknaaHeapRef
import Derived.Test.YtpfmkggnnilknaaHeapRef2
import Derived.Test.YtpfmkggnnilknaaHeapOpen
import Derived.Test.YtpfmkggnnilknaaHeapAlive
import Derived.WalkKit
import Derived.WalkSmall
import Derived.WalkSpells
import Derived.ProofKit
import Derived.OpenShut
import Derived.ShutString
import Derived.ChangeOld
import Derived.Below
import Derived.Lib.Hide
import Derived.OwnWalk
import Derived.Outline
import Derived.BigQuiet
import Derived.Deep.QuietTactic
import Derived.Deep.DeepCutAuto
import Derived.Deep.RegionWith
import Derived.Deep.LoopGhost
import Derived.Lib.MinMax
namespace Go.Proofs.Ytpfmkggnnilknaa.heapDrains
open Go.ChangeShapes Go.WideShapes Go.ChangeAt Go.RowKit
open Go.ChangeMaps (open_string shut_string)
set_option linter.unusedVariables false

theorem own : ownKnob Try.prog.godebug = none := by kernel_rfl
theorem laidOut : laidOutB Try.prog = true := by kernel_rfl

set_option maxRecDepth 20000 in
set_option maxHeartbeats 4000000 in
theorem walk (w : World) (A0 : Option Addr) (c0 : Nat) (l0 : List Rc) (r0 : RdF w A0 l0) (z0 : A0 = none → c0 = 0) (a1 : Int) (w1 : (Lit.int .i64 a1).wf = true) :
    Calls Try.prog 4 #[.slice A0 l0.length c0, .int .i64 a1] w fun e w' => e = .returned (.bool true) ∧ Below w.heap.size w w' := by
  obtain ⟨n0, hn0⟩ : ∃ n, l0.length = n := ⟨_, rfl⟩
  rw [hn0]
  have HN := Lib.hid hn0
  have R0 := Lib.hid r0
  have B0 := Lib.hid (Below.refl w.heap.size w)
  clear r0
  by_cases hbig : 60 < n0
  · have i1 : (60 : Int) < (n0 : Int) := by omega
    go_enter Try.func4, Try.ntmps4
    go_wp2_with (first
      | go_skip
      | (go_at_call 6; refine (alive23_any _).mono ?_; rintro e w9 ⟨rfl, hb9⟩; have B9 := Lib.hid (b_cl (B0.out) (Nat.le_refl _) hb9); clear hb9))
    go_ret
    exact ⟨rfl, B9.out⟩
  · have hs60 : n0 ≤ 60 := by omega
    have i1 : (n0 : Int) ≤ 60 := by omega
    obtain ⟨s, hs⟩ : ∃ s, srt l0 = s := ⟨_, rfl⟩
    have hsl : s.length = n0 := by rw [← hs, srt_len, hn0]
    obtain ⟨t, ht⟩ : ∃ t, a1.toNat = t := ⟨_, rfl⟩
    obtain ⟨k, hk⟩ : ∃ k, min t n0 = k := ⟨_, rfl⟩
    have z1 : max 0 (min a1 (n0 : Int)) = (k : Int) := by omega
    have z2 : (s.take t).length = k := by rw [List.length_take, hsl, hk]
    have z3 : ((s.drop t).length : Int) = (n0 : Int) - (k : Int) := by rw [List.length_drop, hsl]; omega
    have z4 : k ≤ n0 := by omega
    have zt : k ≤ t := by omega
    have Z2 := Lib.hid z2
    have Z3 := Lib.hid z3
    have HS := Lib.hid hs
    have HT := Lib.hid ht
    have HL := Lib.hid hsl
    clear hs hsl ht hk z2 z3 hn0 hbig
    go_enter Try.func4, Try.ntmps4
    go_wp2_with (first
      | go_skip
      | (go_at_call 13; refine (give23_any A0 n0 c0 l0 _ HN.out R0.out (by omega)).mono ?_; rintro e w1 ⟨v1, rfl, o1, hb1⟩; obtain ⟨A1, c1, rfl, rd1, _, _, _⟩ := o1.form; rw [HN.out]; have Y1 := Lib.hid rd1; have R1 := Lib.hid (R0.out.below hb1); have B1 := Lib.hid (b_cl B0.out (Nat.le_refl _) hb1); clear rd1 hb1)
      | (go_at_call 12; refine (new23_any A1 n0 c1 l0 _ HN.out Y1.out (by omega)).mono ?_; rintro e w2 ⟨g, b, rfl, h2, hb2, g2, b2⟩; rw [HS.out] at h2; have gl := h2.lt; have H2 := Lib.hid h2; have R2 := Lib.hid (R1.out.below hb2); have hw2 := B1.out.size; have gg : w.heap.size ≤ g := (by omega); have gb : w.heap.size ≤ b := (by omega); have B2 := Lib.hid (b_cl B1.out (Nat.le_refl _) hb2); clear h2 hb2)
      | (go_at_call 14; refine (refnew23_any A0 n0 c0 l0 _ HN.out R2.out (by omega)).mono ?_; rintro e w3 ⟨v3, rfl, o3, hb3⟩; rw [HS.out] at o3; obtain ⟨A3, c3, rfl, rd3, _, _, _⟩ := o3.form; rw [HL.out] at o3 ⊢; have O3 := Lib.hid o3; have H3 := Lib.hid (H2.out.below hb3); have B3 := Lib.hid (b_cl B2.out (Nat.le_refl _) hb3); clear o3 rd3 hb3)
      | (go_at_call 11; refine (drain23_any H3.out (by rw [HL.out]; omega) a1).mono ?_; rintro e w4 ⟨v4, rfl, o4, h4, m4⟩; rw [HT.out] at o4 h4; obtain ⟨A4, c4, rfl, rd4, _, _, _⟩ := o4.form; rw [Z2.out]; have Y4 := Lib.hid rd4; have H4 := Lib.hid h4; have o34 := O3.out.mv m4 (fun q hq => by have := (World.ownsRow.lt O3.out q hq).1; omega); obtain ⟨A5, c5, e5, rd5, _⟩ := o34.form; simp only [Value.slice.injEq] at e5; obtain ⟨rfl, _, rfl⟩ := e5; have X4 := Lib.hid rd5; have B4 := Lib.hid (B3.out.trans (m4.bel _ gg gb B3.out.size)); have CL := len23_any H4.out; rw [Z3.out] at CL; clear rd4 h4 m4 o4 o34 rd5)
      | (go_at_call 10; refine CL.mono ?_; rintro e w5 ⟨rfl, rfl⟩))
    clear CL
    go_loopw [42] (fun i wr => ∃ j : Nat, j ≤ k ∧ i = .int .i64 j ∧ Below w4.heap.size w4 wr) (fun i _ => k - (intOf i).toNat)
    case atStart => exact ⟨0, Nat.zero_le _, rfl, Below.refl _ _⟩
    case round =>
      obtain ⟨j, hj, rfl, hbw⟩ := hrel
      have hsz := hbw.size
      by_cases hlt : j < k
      · obtain ⟨b1, off, x, y, z, rfl, hbb, hc0, hc1, hc2, hs⟩ := Y4.out.at_ (k := j) (by rw [Z2.out]; exact hlt)
        obtain ⟨b2', off2, x2, y2, z2, rfl, hbb2, hd0, hd1, hd2, hs2⟩ := X4.out.at_ (k := j) (by rw [HL.out]; omega)
        have e12 : (x, y, z) = (x2, y2, z2) := by
          rw [← hs.out, ← hs2.out]
          simp [List.getD, show j < t by omega]
        simp only [Prod.mk.injEq] at e12
        obtain ⟨rfl, rfl, rfl⟩ := e12
        rw [← hbw.cell (p := ⟨b1, _, none⟩) hbb] at hc0 hc1 hc2
        rw [← hbw.cell (p := ⟨b2', _, none⟩) hbb2] at hd0 hd1 hd2
        have q0 : ∀ p : BelowOf wr, p.world.cell? ⟨b1, off + j * 3, none⟩ = some (.int .i64 x) := fun p => p.cell hc0
        have q1 : ∀ p : BelowOf wr, p.world.cell? ⟨b1, off + j * 3 + 1, none⟩ = some (.int .i64 y) := fun p => p.cell hc1
        have q2 : ∀ p : BelowOf wr, p.world.cell? ⟨b1, off + j * 3 + 2, none⟩ = some (.int .i64 z) := fun p => p.cell hc2
        have q3 : ∀ p : BelowOf wr, p.world.cell? ⟨b2', off2 + j * 3, none⟩ = some (.int .i64 x) := fun p => p.cell hd0
        have q4 : ∀ p : BelowOf wr, p.world.cell? ⟨b2', off2 + j * 3 + 1, none⟩ = some (.int .i64 y) := fun p => p.cell hd1
        have q5 : ∀ p : BelowOf wr, p.world.cell? ⟨b2', off2 + j * 3 + 2, none⟩ = some (.int .i64 z) := fun p => p.cell hd2
        have j1 : (j : Int) < k := by omega
        have j2 : (j : Int) < n0 := by omega
        clear hc0 hc1 hc2 hd0 hd1 hd2
        go_wp2
        refine wp_region_bel (by kernel_rfl) (by kernel_rfl) ?_
        repeat (go_big_quiet_step (first | (fail)))
        refine wpQuiet_nil ?_
        refine bel_all fun wq hbq => ?_
        clear q0 q1 q2 q3 q4 q5
        go_wp2
        go_roundw
        case rel => exact ⟨j + 1, by omega, by go_num, hbw.trans (hbq.mono hsz)⟩
        case measure => simp [intOf]; omega
      · have HBW := Lib.hid (b_cl B4.out (Nat.le_refl _) hbw)
        clear hbw
        go_wp2_with (first
          | go_skip
          | (go_at_call 6; refine (alive23_any _).mono ?_; rintro e w9 ⟨rfl, hb9⟩; have B9 := Lib.hid (b_cl (HBW.out) (Nat.le_refl _) hb9); clear hb9))
        go_ret
        exact ⟨rfl, B9.out⟩

set_option maxRecDepth 100000 in
theorem lifted (os : Os) (started : os.Started) (H : Type) (enc : TypeId × Value → H) :
    ReturnsInHanded {} Try.checked os 4 .any (Rows.heapDrainsSpec.pre6 enc Try.prog Try.f4 Rows.heapDrainsRow.domain false) (Rows.heapDrainsSpec.post enc Try.prog Try.f4 false true false false) := by
  refine returnsInHanded_of_change (C := Try.checked) own started (by kernel_rfl) Try.func4
    (ChangeSpec.witness6 (enc := enc) (C := Try.checked) false ⟨#[], #[.slice none 0 0, .int .i64 0], []⟩ 8 (by kernel_rfl) (by kernel_rfl) (by kernel_rfl) (by kernel_rfl)) ?_
  intro W base args ds gs before hval0 hW hcnd _
  have hval : ∀ (j : Nat) t v, Try.f4.params[j]? = some t → args[j]? = some v → Value.okWide Try.prog W .any base t v := hval0
  have hW' := hW
  obtain ⟨p, q, hA0, hV, rfl, hfz, hnd⟩ := hW
  have hA : DataW.TrodAll enc Try.prog W 0 (fun _ => true) true Try.f4.params.toList args.toList ds p := hA0
  rw [Try.params4] at hA hval
  obtain ⟨v0, vs0, d0, ds0, p0, q0, hargs, rfl, rfl, h0, r0⟩ := trodAll_cons hA
  obtain ⟨v1, vs1, d1, ds1, p1, q1, rfl, rfl, rfl, h1, r1⟩ := trodAll_cons r0
  obtain ⟨rfl, rfl, rfl⟩ := trodAll_nil r1
  obtain rfl : args = #[v0, v1] := by cases args; simp_all
  obtain ⟨rfl, rfl⟩ := trodVars_none hV
  have k0 := h0
  have lt0 : ∀ x ∈ p0, x.block < W.heap.size := by obtain ⟨m, hm⟩ := k0; exact DataW.trod_lt m _ _ _ hm
  obtain ⟨A0, c0, l0, rfl, rd0, zz0⟩ := open_ritems (hval 0 22 v0 rfl rfl) h0
  obtain ⟨a1, rfl, rfl, rfl, w1⟩ := open_int Try.underlying3 (hval 1 3 v1 rfl rfl) h1
  clear hA0 hval0
  refine (walk W A0 c0 l0 rd0 zz0 a1 w1).mono fun e W' ⟨he, bel⟩ => ?_
  subst he
  exact ⟨_, rfl, _, _, _, [], _, [], hW', trodAll_mk1 (shut_bool Try.underlying4 _), (trodAll_cons_mk (Below.trod laidOut (by kernel_rfl) (of_decide_eq_true (by kernel_rfl)) k0 bel lt0) (trodAll_cons_mk (shut_int Try.underlying3 w1) trodAll_mk0)), rfl, bel.frame _, fun h => by cases h⟩

theorem over : Rows.heapDrainsRow.holds Try.pinned (OpenSpec.ofChange Rows.heapDrainsSpec) :=
  OpenClaim.holds_of_wide 4 Try.f4 rfl rfl rfl rfl rfl rfl rfl ⟨rfl, rfl, rfl, rfl, rfl⟩ rfl rfl rfl rfl rfl (by kernel_rfl) Try.func4 (by kernel_rfl)
    (of_decide_eq_true (by kernel_rfl)) (by unfold Func.isWrapper; first | (rw [if_pos (by decide +kernel)]; kernel_rfl) | (rw [if_neg (by decide +kernel)]; exact ⟨rfl, rfl⟩))
    (fun os started H enc _ => lifted os started H enc)

theorem proved : Rows.HeapDrainsSaid := over
#print axioms proved
end Go.Proofs.Ytpfmkggnnilknaa.heapDrains
