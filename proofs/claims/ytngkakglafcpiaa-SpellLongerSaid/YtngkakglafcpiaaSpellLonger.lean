/- A spell that goes on for a minute is a break still, a daily and a weekly rest still, if it was, and no reduced one, if it was a daily one and none; for any book and any spell. Conditions: none. -/
import Derived.Test.YtngkakglafcpiaaRows
import Derived.Test.YtngkakglafcpiaaBase
import Derived.Test.YtngkakglafcpiaaBookRow
import Derived.Test.YtngkakglafcpiaaBookLeaf
import Derived.Test.YtngkakglafcpiaaBookNum
import Derived.Test.YtngkakglafcpiaaBookBel
import Derived.Test.YtngkakglafcpiaaBookOrd
import Derived.Test.YtngkakglafcpiaaBookLim
import Derived.Test.YtngkakglafcpiaaBookMayR
import Derived.Test.YtngkakglafcpiaaBookLaws
import Derived.Test.YtngkakglafcpiaaBookOpen
import Derived.Test.YtngkakglafcpiaaBookAlive
import Derived.Test.YtngkakglafcpiaaIvalLeaf
import Derived.Test.YtngkakglafcpiaaBox
import Derived.Test.YtngkakglafcpiaaSpellMath
import Derived.Test.YtngkakglafcpiaaSpellLeaf
import Derived.Test.YtngkakglafcpiaaSpellSt
import Derived.Test.YtngkakglafcpiaaSpellOf
import Derived.Test.YtngkakglafcpiaaSpellOfR
import Derived.Test.YtngkakglafcpiaaSpellAlive
import Derived.Test.YtngkakglafcpiaaSpellLaws
import Derived.Test.YtngkakglafcpiaaSpellOpen
import Derived.WalkKit
import Derived.WalkSmall
import Derived.WalkSpells
import Derived.ProofKit
import Derived.OpenShut
import Derived.ShutString
import Derived.ChangeOld
import Derived.Below
import Derived.Lib.Hide
import Derived.OwnWalk
import Derived.BigQuiet
import Derived.Outline
import Derived.Deep.DeepCutAuto
import Derived.Deep.RegionHeld3
import Derived.Maps.RangeWalk
namespace Go.Proofs.Ytngkakglafcpiaa.spellLonger
open Go.ChangeShapes Go.WideShapes Go.ChangeAt Go.RowKit
open Go.ChangeMaps (open_string shut_string)
set_option linter.unusedVariables false

theorem ways8 {a0 a3 a4 a5 c0 c3 c4 c5 : Bool} (h0 : a0 = true → c0 = true) (h3 : a3 = true → c3 = true) (h5 : a5 = true → c5 = true) (h4 : a3 = true → a4 = false → c4 = false) (g5 : a5 = true → a3 = true) (g3 : a3 = true → a0 = true) :
    (a0 = false ∧ a3 = false ∧ a5 = false) ∨ (a0 = true ∧ c0 = true ∧ a3 = false ∧ a5 = false) ∨ (a0 = true ∧ c0 = true ∧ a3 = true ∧ c3 = true ∧ a5 = false ∧ a4 = true) ∨ (a0 = true ∧ c0 = true ∧ a3 = true ∧ c3 = true ∧ a5 = false ∧ a4 = false ∧ c4 = false) ∨
    (a0 = true ∧ c0 = true ∧ a3 = true ∧ c3 = true ∧ a5 = true ∧ c5 = true ∧ a4 = true) ∨ (a0 = true ∧ c0 = true ∧ a3 = true ∧ c3 = true ∧ a5 = true ∧ c5 = true ∧ a4 = false ∧ c4 = false) := by
  cases a5 <;> cases a3 <;> cases a0 <;> cases a4 <;> simp_all
theorem ways10 {c0 c1 c2 c3 c5 c6 : Bool} (g6 : c6 = true → c5 = true) (g5 : c5 = true → c3 = true) (g3 : c3 = true → c0 = true ∧ c2 = false) (g0 : c0 = true → c1 = false) :
    (c5 = true ∧ c6 = true ∧ c3 = true ∧ c0 = true ∧ c2 = false ∧ c1 = false) ∨ (c5 = true ∧ c6 = false ∧ c3 = true ∧ c0 = true ∧ c2 = false ∧ c1 = false) ∨ (c5 = false ∧ c6 = false ∧ c3 = true ∧ c0 = true ∧ c2 = false ∧ c1 = false) ∨
    (c5 = false ∧ c6 = false ∧ c3 = false ∧ c0 = true ∧ c1 = false) ∨ (c5 = false ∧ c6 = false ∧ c3 = false ∧ c0 = false) := by
  cases c6 <;> cases c5 <;> cases c3 <;> cases c0 <;> simp_all

theorem own : ownKnob Try.prog.godebug = none := by kernel_rfl
theorem laidOut : laidOutB Try.prog = true := by kernel_rfl

set_option maxRecDepth 100000 in
set_option maxHeartbeats 8000000 in
open Classical in
theorem walk (w : World) (x0 : Nat → Int) (a1 b1 c1 : Int) (d1 e1 : Bool) (y1 : (Lit.int .i64 b1).wf = true) :
    Calls Try.prog 5 #[.agg (bk x0), .agg #[.int .i64 a1, .int .i64 b1, .int .i64 c1, .bool d1, .bool e1]] w fun e w' => e = .returned (.bool true) ∧ Below w.heap.size w w' := by
  have r0 : RdI ((w.alloc (.cells (bk x0) 23)).alloc (.cells #[.int .i64 a1, .int .i64 b1, .int .i64 c1, .bool d1, .bool e1] 27)) w.heap.size 0 x0 := (RdI.new x0 23 rfl).alloc _
  have s0 : Bx ((w.alloc (.cells (bk x0) 23)).alloc (.cells #[.int .i64 a1, .int .i64 b1, .int .i64 c1, .bool d1, .bool e1] 27)) (w.heap.size + 1) 27 #[.int .i64 a1, .int .i64 b1, .int .i64 c1, .bool d1, .bool e1] := Bx.new (W := w.alloc (.cells (bk x0) 23)) 27 _ (by simp)
  have B0 : Below w.heap.size w ((w.alloc (.cells (bk x0) 23)).alloc (.cells #[.int .i64 a1, .int .i64 b1, .int .i64 c1, .bool d1, .bool e1] 27)) := b_al (b_al (Below.refl _ _) (Nat.le_refl _) _) (Nat.le_refl _) _
  have p1_0 := s0.cell (k := 1) (v := .int .i64 b1) rfl
  by_cases hl : 40319 < b1
  case pos =>
    have d0 : decide (40319 < b1) = true := decide_eq_true hl
    go_enter Try.func5, Try.ntmps5
    go_wp2_with (go_at_call 9; (with_reducible refine (alive12_any _).mono ?_); rintro e w9 ⟨rfl, hb9⟩)
    go_ret
    exact ⟨rfl, b_cl (by assumption) (Nat.le_refl _) hb9⟩
  have d0 : decide (40319 < b1) = false := decide_eq_false hl
  have l0 : b1 ≤ 40319 := by omega
  clear hl
  by_cases he : spellErr x0 a1 b1 c1 = 0
  case neg =>
    have CO := fun W => of_bad x0 a1 b1 c1 d1 e1 W he
    generalize spellErr x0 a1 b1 c1 = er at CO he
    have h1 : (er != 0) = true := by simpa using he
    have h2 : (er == 0) = false := by simpa using he
    clear he
    go_enter Try.func5, Try.ntmps5
    go_wp2_with (first | refine wpList_load_bk (by rfl) 23 _ rfl _ _ rfl x0 _ (by assumption) Try.underlying23 rfl (by kernel_rfl) ?_ | (go_at_call 7; (with_reducible refine (CO _).mono ?_); rintro e w1 ⟨rfl, hb1⟩; have r1 := r0.below hb1; have s1 := s0.below hb1; have B1 := b_cl B0 (Nat.le_refl _) hb1; have p0_1 := s1.cell (k := 0) rfl; have p1_1 := s1.cell (k := 1) rfl; have p2_1 := s1.cell (k := 2) rfl; have p3_1 := s1.cell (k := 3) rfl; have p4_1 := s1.cell (k := 4) rfl) | (refine wpList_store_box rfl 29 _ _ rfl (w1.heap.size) (wo .zero) rfl rfl 29 (wo .zero) (Bx.new (W := w1) 29 (wo .zero) rfl) (by kernel_rfl) rfl (wo_one _) (fun w2 u2 => ?_); have r2 := (r1.alloc _).upd u2 (Nat.ne_of_lt r1.1); have s2 := u2.bx (s1.alloc _) (Nat.ne_of_lt s1.lt); have B2 := (b_al B1 (Nat.le_refl _) _).trans (u2.bel _ B1.size); have p0_2 := s2.cell (k := 0) rfl; have p1_2 := s2.cell (k := 1) rfl; have p2_2 := s2.cell (k := 2) rfl; have p3_2 := s2.cell (k := 3) rfl; have p4_2 := s2.cell (k := 4) rfl) | refine wpList_load_box (by rfl) 29 _ rfl (w1.heap.size) rfl 29 (wo .zero) _ u2.box Try.underlying29 rfl (by kernel_rfl) ?_ | refine wpList_build_as rfl 29 _ rfl (wo .zero) (by kernel_rfl) ?_ | refine wpList_eql_wop (by rfl) rfl .zero .zero true rfl rfl (Wo.eqB_self _) ?_ | (go_at_call 9; (with_reducible refine (alive12_any _).mono ?_); rintro e w9 ⟨rfl, hb9⟩))
    go_ret
    exact ⟨rfl, b_cl (by assumption) (Nat.le_refl _) hb9⟩
  obtain ⟨hm, k1, k2, k3, k4, k5⟩ := spellErr_ok.1 he
  have CO := fun W => of_good x0 a1 b1 c1 d1 e1 W hm k1 k2 k3 k4 k5
  have CP := fun W => of_good x0 a1 (b1 + 1) c1 d1 e1 W hm (by omega) k2 (by omega) k4 k5
  have F1 := ofV_more hm a1 b1 c1 d1 e1
  have F2 := ofV_hang hm a1 b1 c1 d1 e1
  have F3 := ofV_hang hm a1 (b1 + 1) c1 d1 e1
  generalize ofV x0 a1 b1 c1 d1 e1 = V at CO F1 F2
  generalize ofV x0 a1 (b1 + 1) c1 d1 e1 = V' at CP F1 F3
  obtain ⟨p0, p1, p2, p3, p4, p5, p6⟩ := V
  obtain ⟨v0, v1, v2, v3, v4, v5, v6⟩ := V'
  dsimp only at F1 F2 F3
  have W8 := Lib.hid (ways8 F1.1 F1.2.1 F1.2.2.1 F1.2.2.2 F2.2.1 (fun h => (F2.2.2.1 h).1))
  have W10 := Lib.hid (ways10 F3.1 F3.2.1 F3.2.2.1 F3.2.2.2)
  clear F1 F2 F3 he hm
  go_enter Try.func5, Try.ntmps5
  go_upto_region 8 with (first | refine wpList_load_bk (by rfl) 23 _ rfl _ _ rfl x0 _ (by assumption) Try.underlying23 rfl (by kernel_rfl) ?_ | (go_at_call 7; (with_reducible refine (CO _).mono ?_); rintro e w1 ⟨rfl, hb1⟩; have r1 := r0.below hb1; have s1 := s0.below hb1; have B1 := b_cl B0 (Nat.le_refl _) hb1; have p0_1 := s1.cell (k := 0) rfl; have p1_1 := s1.cell (k := 1) rfl; have p2_1 := s1.cell (k := 2) rfl; have p3_1 := s1.cell (k := 3) rfl; have p4_1 := s1.cell (k := 4) rfl) | (refine wpList_store_box rfl 29 _ _ rfl (w1.heap.size) (wo ⟨p0, p1, p2, p3, p4, p5, p6⟩) rfl rfl 29 (wo .zero) (Bx.new (W := w1) 29 (wo .zero) rfl) (by kernel_rfl) rfl (wo_one _) (fun w2 u2 => ?_); have r2 := (r1.alloc _).upd u2 (Nat.ne_of_lt r1.1); have s2 := u2.bx (s1.alloc _) (Nat.ne_of_lt s1.lt); have B2 := (b_al B1 (Nat.le_refl _) _).trans (u2.bel _ B1.size); have p0_2 := s2.cell (k := 0) rfl; have p1_2 := s2.cell (k := 1) rfl; have p2_2 := s2.cell (k := 2) rfl; have p3_2 := s2.cell (k := 3) rfl; have p4_2 := s2.cell (k := 4) rfl) | (refine wpList_store_fld (by rfl) 3 _ _ rfl (w.heap.size + 1) 1 (.int .i64 (b1 + 1)) rfl rfl rfl 27 #[.int .i64 a1, .int .i64 b1, .int .i64 c1, .bool d1, .bool e1] s2 (Nat.succ_lt_succ (Nat.succ_pos _)) (by kernel_rfl) (fun w3 u3 => ?_); have r3 := r2.upd u3 (Nat.ne_of_lt (Nat.lt_succ_self _)); have s3 : Bx w3 (w.heap.size + 1) 27 #[.int .i64 a1, .int .i64 (b1 + 1), .int .i64 c1, .bool d1, .bool e1] := u3.box; have b3 := u3.bx u2.box (Nat.ne_of_gt s1.lt); have B3 := B2.trans (u3.bel _ (Nat.le_succ _)); have p0_3 := s3.cell (k := 0) rfl; have p1_3 := s3.cell (k := 1) rfl; have p2_3 := s3.cell (k := 2) rfl; have p3_3 := s3.cell (k := 3) rfl; have p4_3 := s3.cell (k := 4) rfl) | (go_at_call 7; (with_reducible refine (CP _).mono ?_); rintro e w4 ⟨rfl, hb4⟩; have r4 := r3.below hb4; have s4 := s3.below hb4; have B4 := b_cl B3 (Nat.le_refl _) hb4; have p0_4 := s4.cell (k := 0) rfl; have p1_4 := s4.cell (k := 1) rfl; have p2_4 := s4.cell (k := 2) rfl; have p3_4 := s4.cell (k := 3) rfl; have p4_4 := s4.cell (k := 4) rfl; have b4 := b3.below hb4) | (refine wpList_store_box rfl 29 _ _ rfl (w4.heap.size) (wo ⟨v0, v1, v2, v3, v4, v5, v6⟩) rfl rfl 29 (wo .zero) (Bx.new (W := w4) 29 (wo .zero) rfl) (by kernel_rfl) rfl (wo_one _) (fun w5 u5 => ?_); have r5 := (r4.alloc _).upd u5 (Nat.ne_of_lt r4.1); have s5 := u5.bx (s4.alloc _) (Nat.ne_of_lt s4.lt); have B5 := (b_al B4 (Nat.le_refl _) _).trans (u5.bel _ B4.size); have p0_5 := s5.cell (k := 0) rfl; have p1_5 := s5.cell (k := 1) rfl; have p2_5 := s5.cell (k := 2) rfl; have p3_5 := s5.cell (k := 3) rfl; have p4_5 := s5.cell (k := 4) rfl; have b5 := u5.bx (b4.alloc _) (Nat.ne_of_lt b4.lt)))
  (try go_frame)
  go_cut [95] (fun s wx => s = .bool false ∧ w5 = wx)
  case first =>
    have q0 : w5.cell? ⟨w1.heap.size, 0, none⟩ = some (.bool p0) := b5.cell rfl
    have q3 : w5.cell? ⟨w1.heap.size, 3, none⟩ = some (.bool p3) := b5.cell rfl
    have q4 : w5.cell? ⟨w1.heap.size, 4, none⟩ = some (.bool p4) := b5.cell rfl
    have q5 : w5.cell? ⟨w1.heap.size, 5, none⟩ = some (.bool p5) := b5.cell rfl
    have z0 : w5.cell? ⟨w4.heap.size, 0, none⟩ = some (.bool v0) := u5.box.cell rfl
    have z3 : w5.cell? ⟨w4.heap.size, 3, none⟩ = some (.bool v3) := u5.box.cell rfl
    have z4 : w5.cell? ⟨w4.heap.size, 4, none⟩ = some (.bool v4) := u5.box.cell rfl
    have z5 : w5.cell? ⟨w4.heap.size, 5, none⟩ = some (.bool v5) := u5.box.cell rfl
    rcases W8.out with ⟨rfl, rfl, rfl⟩ | ⟨rfl, rfl, rfl, rfl⟩ | ⟨rfl, rfl, rfl, rfl, rfl, rfl⟩ | ⟨rfl, rfl, rfl, rfl, rfl, rfl, rfl⟩ | ⟨rfl, rfl, rfl, rfl, rfl, rfl, rfl⟩ | ⟨rfl, rfl, rfl, rfl, rfl, rfl, rfl, rfl⟩
    all_goals (go_wp2; go_meet; exact ⟨rfl, rfl⟩)
  case rest =>
  obtain ⟨rfl, rfl⟩ := hcut
  have b6 := u5.box
  have z0 : w5.cell? ⟨w4.heap.size, 0, none⟩ = some (.bool v0) := b6.cell rfl
  have z1 : w5.cell? ⟨w4.heap.size, 1, none⟩ = some (.bool v1) := b6.cell rfl
  have z2 : w5.cell? ⟨w4.heap.size, 2, none⟩ = some (.bool v2) := b6.cell rfl
  have z3 : w5.cell? ⟨w4.heap.size, 3, none⟩ = some (.bool v3) := b6.cell rfl
  have z5 : w5.cell? ⟨w4.heap.size, 5, none⟩ = some (.bool v5) := b6.cell rfl
  have z6 : w5.cell? ⟨w4.heap.size, 6, none⟩ = some (.bool v6) := b6.cell rfl
  rcases W10.out with ⟨rfl, rfl, rfl, rfl, rfl, rfl⟩ | ⟨rfl, rfl, rfl, rfl, rfl, rfl⟩ | ⟨rfl, rfl, rfl, rfl, rfl, rfl⟩ | ⟨rfl, rfl, rfl, rfl, rfl⟩ | ⟨rfl, rfl, rfl, rfl⟩
  all_goals (go_wp2_with (go_at_call 9; (with_reducible refine (alive12_any _).mono ?_); rintro e w9 ⟨rfl, hb9⟩); go_ret; exact ⟨rfl, b_cl (by assumption) (Nat.le_refl _) hb9⟩)

set_option maxRecDepth 100000 in
theorem lifted (os : Os) (started : os.Started) (H : Type) (enc : TypeId × Value → H) :
    ReturnsInHanded {} Try.checked os 5 .any (Rows.spellLongerSpec.pre6 enc Try.prog Try.f5 Rows.spellLongerRow.domain false) (Rows.spellLongerSpec.post enc Try.prog Try.f5 false true false false) := by
  refine returnsInHanded_of_change (C := Try.checked) own started (by kernel_rfl) Try.func5
    (ChangeSpec.witness6 (enc := enc) (C := Try.checked) false ⟨#[], #[.agg #[.int .i64 0, .int .i64 0, .int .i64 0, .int .i64 0, .int .i64 0, .int .i64 0, .int .i64 0, .int .i64 0, .int .i64 0, .int .i64 0, .int .i64 0, .int .i64 0, .int .i64 0, .int .i64 0, .int .i64 0, .int .i64 0, .int .i64 0, .int .i64 0, .int .i64 0], .agg #[.int .i64 0, .int .i64 0, .int .i64 0, .bool false, .bool false]], []⟩ 8 (by kernel_rfl) (by kernel_rfl) (by kernel_rfl) (by kernel_rfl)) ?_
  intro W base args ds gs before hval0 hW hcnd _
  have hval : ∀ (j : Nat) t v, Try.f5.params[j]? = some t → args[j]? = some v → Value.okWide Try.prog W .any base t v := hval0
  have hW' := hW
  obtain ⟨p, q, hA0, hV, rfl, hfz, hnd⟩ := hW
  have hA : DataW.TrodAll enc Try.prog W 0 (fun _ => true) true Try.f5.params.toList args.toList ds p := hA0
  rw [Try.params5] at hA hval
  obtain ⟨v0, vs0, d0, ds0, p0, q0, hargs, rfl, rfl, h0, r0⟩ := trodAll_cons hA
  obtain ⟨v1, vs1, d1, ds1, p1, q1, rfl, rfl, rfl, h1, r1⟩ := trodAll_cons r0
  obtain ⟨rfl, rfl, rfl⟩ := trodAll_nil r1
  obtain rfl : args = #[v0, v1] := by cases args; simp_all
  obtain ⟨rfl, rfl⟩ := trodVars_none hV
  have k0 := h0
  have lt0 : ∀ x ∈ p0, x.block < W.heap.size := by obtain ⟨m, hm⟩ := k0; exact DataW.trod_lt m _ _ _ hm
  obtain ⟨x0, rfl⟩ := open_book (hval 0 23 v0 rfl rfl) h0
  have k1 := h1
  have lt1 : ∀ x ∈ p1, x.block < W.heap.size := by obtain ⟨m, hm⟩ := k1; exact DataW.trod_lt m _ _ _ hm
  obtain ⟨a1, b1, c1, d1, e1, rfl, y1⟩ := open_rested (hval 1 27 v1 rfl rfl) h1
  clear hA0 hval0
  refine (walk W x0 a1 b1 c1 d1 e1 y1).mono fun e W' ⟨he, bel⟩ => ?_
  subst he
  exact ⟨_, rfl, _, _, _, [], _, [], hW', trodAll_mk1 (shut_bool Try.underlying4 _), (trodAll_cons_mk (Below.trod laidOut (by kernel_rfl) (of_decide_eq_true (by kernel_rfl)) k0 bel lt0) (trodAll_cons_mk (Below.trod laidOut (by kernel_rfl) (of_decide_eq_true (by kernel_rfl)) k1 bel lt1) trodAll_mk0)), rfl, bel.frame _, fun h => by cases h⟩

theorem over : Rows.spellLongerRow.holds Try.pinned (OpenSpec.ofChange Rows.spellLongerSpec) :=
  OpenClaim.holds_of_wide 5 Try.f5 rfl rfl rfl rfl rfl rfl rfl ⟨rfl, rfl, rfl, rfl, rfl⟩ rfl rfl rfl rfl rfl (by kernel_rfl) Try.func5 (by kernel_rfl)
    (of_decide_eq_true (by kernel_rfl)) (by unfold Func.isWrapper; first | (rw [if_pos (by decide +kernel)]; kernel_rfl) | (rw [if_neg (by decide +kernel)]; exact ⟨rfl, rfl⟩))
    (fun os started H enc _ => lifted os started H enc)

theorem proved : Rows.SpellLongerSaid := over
#print axioms proved
end Go.Proofs.Ytngkakglafcpiaa.spellLonger
