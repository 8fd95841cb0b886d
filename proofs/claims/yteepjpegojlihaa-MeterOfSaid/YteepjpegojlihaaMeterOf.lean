/- Of answers as the document says, for any book and at most 60 records. Conditions: none. -/
import Derived.Test.YteepjpegojlihaaRows
import Derived.Test.YteepjpegojlihaaBase
import Derived.Test.YteepjpegojlihaaRow
import Derived.Test.YteepjpegojlihaaBookRow
import Derived.Test.YteepjpegojlihaaBookLim
import Derived.Test.YteepjpegojlihaaBookMayR
import Derived.Test.YteepjpegojlihaaBookLaws
import Derived.Test.YteepjpegojlihaaBookOpen
import Derived.Test.YteepjpegojlihaaBookAlive
import Derived.Test.YteepjpegojlihaaRecMath
import Derived.Test.YteepjpegojlihaaRecHeap
import Derived.Test.YteepjpegojlihaaBox
import Derived.Test.YteepjpegojlihaaSpellMath
import Derived.Test.YteepjpegojlihaaMeterMath
import Derived.Test.YteepjpegojlihaaMeterRun
import Derived.Test.YteepjpegojlihaaMeterStep
import Derived.Test.YteepjpegojlihaaMeterChk
import Derived.Test.YteepjpegojlihaaMeterMayR
import Derived.Test.YteepjpegojlihaaMeterRRun
import Derived.Test.YteepjpegojlihaaMeterOpen
import Derived.Test.YteepjpegojlihaaMeterLaws
import Derived.Test.YteepjpegojlihaaMeterAlive
import Derived.Test.YteepjpegojlihaaMeterOf0
import Derived.Test.YteepjpegojlihaaMeterOfR
import Derived.Test.YteepjpegojlihaaRecOpen
import Derived.WalkKit
import Derived.WalkSmall
import Derived.WalkSpells
import Derived.ProofKit
import Derived.OpenShut
import Derived.ShutString
import Derived.ChangeOld
import Derived.Below
import Derived.Lib.Hide
import Derived.OwnWalk
import Derived.BigQuiet
import Derived.Outline
import Derived.Great.BuildSlice
import Derived.Maps.RangeWalk
import Derived.Deep.DeepCutAuto
import Derived.OrdersHeld
namespace Go.Proofs.Yteepjpegojlihaa.meterOf
open Go.ChangeShapes Go.WideShapes Go.ChangeAt Go.RowKit
open Go.ChangeMaps (open_string shut_string)
set_option linter.unusedVariables false

theorem own : ownKnob Try.prog.godebug = none := by kernel_rfl
theorem laidOut : laidOutB Try.prog = true := by kernel_rfl

theorem RdI.other {W W' : World} {b off g : Nat} {x : Nat → Int} {T : TypeId} {cs : Array Value} (h : RdI W b off x) (u : Upd W g T cs W') (hne : b ≠ g) : RdI W' b off x :=
  ⟨by rw [u.size]; exact h.1, fun i hi => (u.cell (p := ⟨b, off + i, none⟩) hne).trans (h.2 i hi)⟩

set_option maxRecDepth 100000 in
set_option maxHeartbeats 4000000 in
open Classical in
theorem walk (w : World) (x0 : Nat → Int) (A1 : Option Addr) (c1 : Nat) (l1 : List Rc) (r1 : RdR w A1 l1) (z1 : A1 = none → c1 = 0) :
    Calls Try.prog 5 #[.agg (bk x0), .slice A1 l1.length c1] w fun e w' => e = .returned (.bool true) ∧ Below w.heap.size w w' := by
  have r0 : RdI (w.alloc (.cells (bk x0) 23)) w.heap.size 0 x0 := RdI.new x0 23 rfl
  have B0 : Below w.heap.size w (w.alloc (.cells (bk x0) 23)) := b_al (Below.refl _ _) (Nat.le_refl _) _
  by_cases hl : l1.length ≤ 60
  case neg =>
    have d0 : decide ((60 : Int) < (l1.length : Int)) = true := decide_eq_true (by omega)
    go_enter Try.func5, Try.ntmps5
    go_wp2_with (go_at_call 11; (with_reducible refine (alive13_any _).mono ?_); rintro e w99 ⟨rfl, hb99⟩)
    go_ret
    exact ⟨rfl, b_cl (by assumption) (Nat.le_refl _) hb99⟩
  have d0 : decide ((60 : Int) < (l1.length : Int)) = false := decide_eq_false (by omega)
  have RN := fun W h => of13_any x0 A1 c1 l1 W h (by omega)
  have RR := fun W h => refof13_any x0 A1 c1 l1 W h (by omega)
  generalize ofMV x0 l1 = V at RN RR
  obtain ⟨M, N, E⟩ := V
  dsimp only at RN RR
  have R0 : RdR (w.alloc (.cells (bk x0) 23)) A1 l1 := r1.below B0
  have RB : ∀ W', Below w.heap.size w W' → RdR W' A1 l1 := fun W' hb => r1.below hb
  clear hl r1
  go_enter Try.func5, Try.ntmps5
  go_wp2_with (first
    | refine wpList_load_bk (by rfl) 23 _ rfl _ _ rfl x0 _ (by assumption) Try.underlying23 rfl (by kernel_rfl) ?_
    | (go_at_call 13; (with_reducible refine (RN _ R0).mono ?_); rintro e w1 ⟨rfl, hb1⟩; have r1 := r0.below hb1; have B1 := b_cl B0 (Nat.le_refl _) hb1)
    | (refine wpList_store_box rfl 25 _ _ rfl w1.heap.size (mt M) rfl rfl 25 (mt .zero) (Bx.new (W := w1) 25 (mt .zero) rfl) (by kernel_rfl) rfl (mt_one _) (fun w2 u2 => ?_); have r2 := RdI.other (r1.alloc _) u2 (Nat.ne_of_lt r1.1); have B2 := (b_al B1 (Nat.le_refl _) _).trans (u2.bel _ B1.size); have yn2 := u2.box)
    | (go_at_call 14; (with_reducible refine (RR _ (RB _ B2)).mono ?_); rintro e w3 ⟨rfl, hb3⟩; have r3 := r2.below hb3; have yn3 := yn2.below hb3; have B3 := b_cl B2 (Nat.le_refl _) hb3)
    | (refine wpList_store_box rfl 25 _ _ rfl w3.heap.size (mt M) rfl rfl 25 (mt .zero) (Bx.new (W := w3) 25 (mt .zero) rfl) (by kernel_rfl) rfl (mt_one _) (fun w4 u4 => ?_); have r4 := RdI.other (r3.alloc _) u4 (Nat.ne_of_lt r3.1); have yn4 := u4.bx (yn3.alloc _) (Nat.ne_of_lt yn3.lt); have B4 := (b_al B3 (Nat.le_refl _) _).trans (u4.bel _ B3.size); have yk4 := u4.box)
    | refine wpList_load_box (by rfl) 25 _ rfl (w1.heap.size) rfl 25 (mt M) _ (by assumption) Try.underlying25 rfl (by kernel_rfl) ?_
    | refine wpList_load_box (by rfl) 25 _ rfl (w3.heap.size) rfl 25 (mt M) _ (by assumption) Try.underlying25 rfl (by kernel_rfl) ?_
    | refine wpList_eql_mt (by rfl) rfl M M true rfl rfl (Mt.eqB_self _) ?_
    | (go_at_call 11; (with_reducible refine (alive13_any _).mono ?_); rintro e w99 ⟨rfl, hb99⟩))
  go_ret
  exact ⟨rfl, b_cl (by assumption) (Nat.le_refl _) hb99⟩

set_option maxRecDepth 100000 in
theorem lifted (os : Os) (started : os.Started) (H : Type) (enc : TypeId × Value → H) :
    ReturnsInHanded {} Try.checked os 5 .any (Rows.meterOfSpec.pre6 enc Try.prog Try.f5 Rows.meterOfRow.domain false) (Rows.meterOfSpec.post enc Try.prog Try.f5 false true false false) := by
  refine returnsInHanded_of_change (C := Try.checked) own started (by kernel_rfl) Try.func5
    (ChangeSpec.witness6 (enc := enc) (C := Try.checked) false ⟨#[], #[.agg #[.int .i64 0, .int .i64 0, .int .i64 0, .int .i64 0, .int .i64 0, .int .i64 0, .int .i64 0, .int .i64 0, .int .i64 0, .int .i64 0, .int .i64 0, .int .i64 0, .int .i64 0, .int .i64 0, .int .i64 0, .int .i64 0, .int .i64 0, .int .i64 0, .int .i64 0], .slice none 0 0], []⟩ 8 (by kernel_rfl) (by kernel_rfl) (by kernel_rfl) (by kernel_rfl)) ?_
  intro W base args ds gs before hval0 hW hcnd _
  have hval : ∀ (j : Nat) t v, Try.f5.params[j]? = some t → args[j]? = some v → Value.okWide Try.prog W .any base t v := hval0
  have hW' := hW
  obtain ⟨p, q, hA0, hV, rfl, hfz, hnd⟩ := hW
  have hA : DataW.TrodAll enc Try.prog W 0 (fun _ => true) true Try.f5.params.toList args.toList ds p := hA0
  rw [Try.params5] at hA hval
  obtain ⟨v0, vs0, d0, ds0, p0, q0, hargs, rfl, rfl, h0, r0⟩ := trodAll_cons hA
  obtain ⟨v1, vs1, d1, ds1, p1, q1, rfl, rfl, rfl, h1, r1⟩ := trodAll_cons r0
  obtain ⟨rfl, rfl, rfl⟩ := trodAll_nil r1
  obtain rfl : args = #[v0, v1] := by cases args; simp_all
  obtain ⟨rfl, rfl⟩ := trodVars_none hV
  have k0 := h0
  have lt0 : ∀ x ∈ p0, x.block < W.heap.size := by obtain ⟨m, hm⟩ := k0; exact DataW.trod_lt m _ _ _ hm
  obtain ⟨x0, rfl⟩ := open_book (hval 0 23 v0 rfl rfl) h0
  have k1 := h1
  have lt1 : ∀ x ∈ p1, x.block < W.heap.size := by obtain ⟨m, hm⟩ := k1; exact DataW.trod_lt m _ _ _ hm
  obtain ⟨A1, n1, c1, l1, rfl, rfl, rd1, zz1⟩ := open_recs (hval 1 37 v1 rfl rfl) h1
  clear hA0 hval0
  refine (walk W x0 A1 c1 l1 rd1 zz1).mono fun e W' ⟨he, bel⟩ => ?_
  subst he
  exact ⟨_, rfl, _, _, _, [], _, [], hW', trodAll_mk1 (shut_bool Try.underlying4 _), (trodAll_cons_mk (Below.trod laidOut (by kernel_rfl) (of_decide_eq_true (by kernel_rfl)) k0 bel lt0) (trodAll_cons_mk (Below.trod laidOut (by kernel_rfl) (of_decide_eq_true (by kernel_rfl)) k1 bel lt1) trodAll_mk0)), rfl, bel.frame _, fun h => by cases h⟩

theorem over : Rows.meterOfRow.holds Try.pinned (OpenSpec.ofChange Rows.meterOfSpec) :=
  OpenClaim.holds_of_wide 5 Try.f5 rfl rfl rfl rfl rfl rfl rfl ⟨rfl, rfl, rfl, rfl, rfl⟩ rfl rfl rfl rfl rfl (by kernel_rfl) Try.func5 (by kernel_rfl)
    (of_decide_eq_true (by kernel_rfl)) (by unfold Func.isWrapper; first | (rw [if_pos (by decide +kernel)]; kernel_rfl) | (rw [if_neg (by decide +kernel)]; exact ⟨rfl, rfl⟩))
    (fun os started H enc _ => lifted os started H enc)

theorem proved : Rows.MeterOfSaid := over
#print axioms proved
end Go.Proofs.Yteepjpegojlihaa.meterOf
