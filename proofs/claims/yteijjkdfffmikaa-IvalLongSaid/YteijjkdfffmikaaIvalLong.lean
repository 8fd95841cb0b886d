/- How long a span is, where it lies when it is shifted, and which of two comes first, is as the reference says. Conditions: none: any two spans of numbers of 64 bits, any number. -/
import Derived.Test.YteijjkdfffmikaaRows
import Derived.Test.YteijjkdfffmikaaMath
import Derived.Test.YteijjkdfffmikaaBase
import Derived.Test.YteijjkdfffmikaaLeaf
import Derived.Test.YteijjkdfffmikaaAdd
import Derived.Test.YteijjkdfffmikaaIvalLeaf
import Derived.Test.YteijjkdfffmikaaIvalTwo
import Derived.Test.YteijjkdfffmikaaIvalRest
import Derived.Test.YteijjkdfffmikaaIvalAlive
import Derived.Test.YteijjkdfffmikaaSpan
import Derived.WalkKit
import Derived.WalkSmall
import Derived.WalkSpells
import Derived.ProofKit
import Derived.OpenShut
import Derived.ShutString
import Derived.ChangeOld
import Derived.Below
import Derived.Lib.Hide
import Derived.OwnWalk
import Derived.Outline
import Derived.Deep.RegionHeld3
namespace Go.Proofs.Yteijjkdfffmikaa.ivalLong
open Go.ChangeShapes Go.WideShapes Go.ChangeAt Go.RowKit
open Go.ChangeMaps (open_string shut_string)
set_option linter.unusedVariables false

theorem own : ownKnob Try.prog.godebug = none := by kernel_rfl
theorem laidOut : laidOutB Try.prog = true := by kernel_rfl

theorem keep8 {W w1 : World} {p0 p1 p2 p3 p4 p5 p6 p7 : Addr} {v0 v1 v2 v3 v4 v5 v6 v7 : Value} (hb : Below W.heap.size W w1) (h : W.cell? p0 = some v0 ∧ W.cell? p1 = some v1 ∧ W.cell? p2 = some v2 ∧ W.cell? p3 = some v3 ∧ W.cell? p4 = some v4 ∧ W.cell? p5 = some v5 ∧ W.cell? p6 = some v6 ∧ W.cell? p7 = some v7) :
    w1.cell? p0 = some v0 ∧ w1.cell? p1 = some v1 ∧ w1.cell? p2 = some v2 ∧ w1.cell? p3 = some v3 ∧ w1.cell? p4 = some v4 ∧ w1.cell? p5 = some v5 ∧ w1.cell? p6 = some v6 ∧ w1.cell? p7 = some v7 := by
  obtain ⟨h0, h1, h2, h3, h4, h5, h6, h7⟩ := h
  exact ⟨c_cl h0 hb, c_cl h1 hb, c_cl h2 hb, c_cl h3 hb, c_cl h4 hb, c_cl h5 hb, c_cl h6 hb, c_cl h7 hb⟩

set_option maxHeartbeats 400000 in
theorem walk (a0 b0 : Int) (w0 : (Lit.int .i64 a0).wf = true) (u0 : (Lit.int .i64 b0).wf = true) (a1 b1 : Int) (w1 : (Lit.int .i64 a1).wf = true) (u1 : (Lit.int .i64 b1).wf = true) (a2 : Int) (w2 : (Lit.int .i64 a2).wf = true) (w : World) :
    Calls Try.prog 4 #[.agg #[.int .i64 a0, .int .i64 b0], .agg #[.int .i64 a1, .int .i64 b1], .int .i64 a2] w fun e w' => e = .returned (.bool true) ∧ Below w.heap.size w w' := by
  have hL : ∀ W : World, _ := fun W => long_any a0 b0 W (wf_bd w0) (wf_bd u0)
  have hR : ∀ W : World, _ := fun W => reflong_any a0 b0 W (wf_bd w0) (wf_bd u0)
  have hS : ∀ W : World, _ := fun W => shift_any a0 b0 a2 W (wf_bd w0) (wf_bd u0) (wf_bd w2)
  have hT : ∀ W : World, _ := fun W => refshift_any a0 b0 a2 W (wf_bd w0) (wf_bd u0) (wf_bd w2)
  have hO : ∀ W : World, _ := fun W => order_any a0 b0 a1 b1 W
  have hP : ∀ W : World, _ := fun W => reforder_any a0 b0 a1 b1 W
  clear w0 u0 w1 u1 w2
  generalize longv a0 b0 = g at hL hR
  obtain ⟨lk, le⟩ := g
  generalize shiftv a0 b0 a2 = g at hS hT
  obtain ⟨sf, st, se⟩ := g
  generalize ordv a0 b0 a1 b1 = o at hO hP
  have HL := Lib.hid hL
  have HR := Lib.hid hR
  have HS := Lib.hid hS
  have HT := Lib.hid hT
  have HO := Lib.hid hO
  have HP := Lib.hid hP
  clear hL hR hS hT hO hP
  go_enter Try.func4, Try.ntmps4
  go_wp2_with (first | (go_at_call 16; refine (HL.out _).mono ?_; rintro e w1 ⟨rfl, hb1⟩; obtain ⟨hc1, hf1⟩ := bcell hb1; have hz1 := hb1.size; (try simp at hz1); have : w.heap.size < w1.heap.size := (by omega); have : w.heap.size + 1 < w1.heap.size := (by omega)) | (go_at_call 17; refine (HR.out _).mono ?_; rintro e w2 ⟨rfl, hb2⟩; obtain ⟨hc2, hf2⟩ := bcell hb2; have hz2 := hb2.size; (try simp at hz2); have : w.heap.size < w2.heap.size := (by omega); have : w.heap.size + 1 < w2.heap.size := (by omega)) | (go_at_call 18; refine (HS.out _).mono ?_; rintro e w3 ⟨rfl, hb3⟩; obtain ⟨hc3, hf3⟩ := bcell hb3; have hz3 := hb3.size; (try simp at hz3); have : w.heap.size < w3.heap.size := (by omega); have : w.heap.size + 1 < w3.heap.size := (by omega)) | (go_at_call 19; refine (HT.out _).mono ?_; rintro e w4 ⟨rfl, hb4⟩; obtain ⟨hc4, hf4⟩ := bcell hb4; have hz4 := hb4.size; (try simp at hz4); have : w.heap.size < w4.heap.size := (by omega); have : w.heap.size + 1 < w4.heap.size := (by omega); have : w3.heap.size < w4.heap.size := (by omega)))
  have kc0 : (w4.alloc (Obj.cells #[.int .i64 sf, .int .i64 st] 23)).cell? ⟨w.heap.size, 0, none⟩ = some (.int .i64 a0) := by
    (repeat (first | (simp; done) | refine c_al _ ?_ | refine c_cl ?_ (by assumption)))
  have kc1 : (w4.alloc (Obj.cells #[.int .i64 sf, .int .i64 st] 23)).cell? ⟨w.heap.size, 1, none⟩ = some (.int .i64 b0) := by
    (repeat (first | (simp; done) | refine c_al _ ?_ | refine c_cl ?_ (by assumption)))
  have kc2 : (w4.alloc (Obj.cells #[.int .i64 sf, .int .i64 st] 23)).cell? ⟨w.heap.size + 1, 0, none⟩ = some (.int .i64 a1) := by
    (repeat (first | (simp; done) | refine c_al _ ?_ | refine c_cl ?_ (by assumption)))
  have kc3 : (w4.alloc (Obj.cells #[.int .i64 sf, .int .i64 st] 23)).cell? ⟨w.heap.size + 1, 1, none⟩ = some (.int .i64 b1) := by
    (repeat (first | (simp; done) | refine c_al _ ?_ | refine c_cl ?_ (by assumption)))
  have kc4 : (w4.alloc (Obj.cells #[.int .i64 sf, .int .i64 st] 23)).cell? ⟨w3.heap.size, 0, none⟩ = some (.int .i64 sf) := by
    (repeat (first | (simp; done) | refine c_al _ ?_ | refine c_cl ?_ (by assumption)))
  have kc5 : (w4.alloc (Obj.cells #[.int .i64 sf, .int .i64 st] 23)).cell? ⟨w3.heap.size, 1, none⟩ = some (.int .i64 st) := by
    (repeat (first | (simp; done) | refine c_al _ ?_ | refine c_cl ?_ (by assumption)))
  have kc6 : (w4.alloc (Obj.cells #[.int .i64 sf, .int .i64 st] 23)).cell? ⟨w4.heap.size, 0, none⟩ = some (.int .i64 sf) := by
    (repeat (first | (simp; done) | refine c_al _ ?_ | refine c_cl ?_ (by assumption)))
  have kc7 : (w4.alloc (Obj.cells #[.int .i64 sf, .int .i64 st] 23)).cell? ⟨w4.heap.size, 1, none⟩ = some (.int .i64 st) := by
    (repeat (first | (simp; done) | refine c_al _ ?_ | refine c_cl ?_ (by assumption)))
  have hB0 : Below w.heap.size w (w4.alloc (Obj.cells #[.int .i64 sf, .int .i64 st] 23)) := by
    (repeat (first | exact Below.refl _ _ | (refine b_st ?_ (by first | (simp; done) | (simp; omega))) | (refine b_al ?_ (Nat.le_refl _) _) | refine b_dn ?_ | refine b_dr ?_ | (refine b_cl ?_ (Nat.le_refl _) (by assumption))))
  clear hc1 hc2 hc3 hc4 hf1 hf2 hf3 hf4 hb1 hb2 hb3 hb4
  generalize (w4.alloc (Obj.cells #[.int .i64 sf, .int .i64 st] 23)) = w5 at *
  go_region_held3 (fun w' => w'.cell? ⟨w.heap.size, 0, none⟩ = some (.int .i64 a0) ∧ w'.cell? ⟨w.heap.size, 1, none⟩ = some (.int .i64 b0) ∧ w'.cell? ⟨w.heap.size + 1, 0, none⟩ = some (.int .i64 a1) ∧ w'.cell? ⟨w.heap.size + 1, 1, none⟩ = some (.int .i64 b1) ∧ w'.cell? ⟨w3.heap.size, 0, none⟩ = some (.int .i64 sf) ∧ w'.cell? ⟨w3.heap.size, 1, none⟩ = some (.int .i64 st) ∧ w'.cell? ⟨w4.heap.size, 0, none⟩ = some (.int .i64 sf) ∧ w'.cell? ⟨w4.heap.size, 1, none⟩ = some (.int .i64 st)) (first | exact ⟨kc0, kc1, kc2, kc3, kc4, kc5, kc6, kc7⟩ | exact keep8 (by assumption) (by assumption) | exact keep8 (by assumption) ⟨kc0, kc1, kc2, kc3, kc4, kc5, kc6, kc7⟩) (first | (go_at_call 20; refine (HO.out _).mono ?_; rintro e w6 ⟨rfl, hb6⟩) | (go_at_call 21; refine (HP.out _).mono ?_; rintro e w7 ⟨rfl, hb7⟩) | (go_at_call 15; refine (alive2_any _).mono ?_; rintro e w11 ⟨rfl, hb11⟩))
  all_goals go_wp2
  go_ret
  refine ⟨rfl, ?_⟩
  (repeat (first | exact Below.refl _ _ | (refine b_st ?_ (by first | (simp; done) | (simp; omega))) | (refine b_al ?_ (Nat.le_refl _) _) | refine b_dn ?_ | refine b_dr ?_ | (refine b_cl ?_ (Nat.le_refl _) (by assumption))))

set_option maxRecDepth 100000 in
theorem lifted (os : Os) (started : os.Started) (H : Type) (enc : TypeId × Value → H) :
    ReturnsInHanded {} Try.checked os 4 .any (Rows.ivalLongSpec.pre6 enc Try.prog Try.f4 Rows.ivalLongRow.domain false) (Rows.ivalLongSpec.post enc Try.prog Try.f4 false true false false) := by
  refine returnsInHanded_of_change (C := Try.checked) own started (by kernel_rfl) Try.func4
    (ChangeSpec.witness6 (enc := enc) (C := Try.checked) false ⟨#[], #[.agg #[.int .i64 0, .int .i64 0], .agg #[.int .i64 0, .int .i64 0], .int .i64 0], []⟩ 8 (by kernel_rfl) (by kernel_rfl) (by kernel_rfl) (by kernel_rfl)) ?_
  intro W base args ds gs before hval0 hW hcnd _
  have hval : ∀ (j : Nat) t v, Try.f4.params[j]? = some t → args[j]? = some v → Value.okWide Try.prog W .any base t v := hval0
  have hW' := hW
  obtain ⟨p, q, hA0, hV, rfl, hfz, hnd⟩ := hW
  have hA : DataW.TrodAll enc Try.prog W 0 (fun _ => true) true Try.f4.params.toList args.toList ds p := hA0
  rw [Try.params4] at hA hval
  obtain ⟨v0, vs0, d0, ds0, p0, q0, hargs, rfl, rfl, h0, r0⟩ := trodAll_cons hA
  obtain ⟨v1, vs1, d1, ds1, p1, q1, rfl, rfl, rfl, h1, r1⟩ := trodAll_cons r0
  obtain ⟨v2, vs2, d2, ds2, p2, q2, rfl, rfl, rfl, h2, r2⟩ := trodAll_cons r1
  obtain ⟨rfl, rfl, rfl⟩ := trodAll_nil r2
  obtain rfl : args = #[v0, v1, v2] := by cases args; simp_all
  obtain ⟨rfl, rfl⟩ := trodVars_none hV
  obtain ⟨a0, b0, rfl, rfl, rfl, w0, u0⟩ := open_span (hval 0 23 v0 rfl rfl) h0
  obtain ⟨a1, b1, rfl, rfl, rfl, w1, u1⟩ := open_span (hval 1 23 v1 rfl rfl) h1
  obtain ⟨a2, rfl, rfl, rfl, w2⟩ := open_int Try.underlying3 (hval 2 3 v2 rfl rfl) h2
  clear hA0 hval0
  simp only [List.append_nil] at hW'
  refine (walk a0 b0 w0 u0 a1 b1 w1 u1 a2 w2 W).mono fun e W' ⟨he, bel⟩ => ?_
  subst he
  exact ⟨_, rfl, _, _, _, [], [], [], hW', trodAll_mk1 (shut_bool Try.underlying4 _), (trodAll_cons_mk (shut_span w0 u0) (trodAll_cons_mk (shut_span w1 u1) (trodAll_cons_mk (shut_int Try.underlying3 w2) trodAll_mk0))), rfl, bel.frame _, fun h => by cases h⟩

theorem over : Rows.ivalLongRow.holds Try.pinned (OpenSpec.ofChange Rows.ivalLongSpec) :=
  OpenClaim.holds_of_wide 4 Try.f4 rfl rfl rfl rfl rfl rfl rfl ⟨rfl, rfl, rfl, rfl, rfl⟩ rfl rfl rfl rfl rfl (by kernel_rfl) Try.func4 (by kernel_rfl)
    (of_decide_eq_true (by kernel_rfl)) (by unfold Func.isWrapper; first | (rw [if_pos (by decide +kernel)]; kernel_rfl) | (rw [if_neg (by decide +kernel)]; exact ⟨rfl, rfl⟩))
    (fun os started H enc _ => lifted os started H enc)

theorem proved : Rows.IvalLongSaid := over
#print axioms proved
end Go.Proofs.Yteijjkdfffmikaa.ivalLong
