/- Number, Span, Print and Told answer as the document says. Conditions: none (of a text of more than two hundred bytes the law asks the examples alone; the listed tables read as the program lays them, which the card ties to its text). -/
import Derived.Test.YtohdcmahfnoofaaDoorRows
import Derived.Test.YtohdcmahfnoofaaDoorTie
import Derived.Test.YtohdcmahfnoofaaDoorCards
import Derived.Test.YtohdcmahfnoofaaDoorWordRow
import Derived.Test.YtohdcmahfnoofaaDoorMath
import Derived.Test.YtohdcmahfnoofaaDoorSpan
import Derived.Test.YtohdcmahfnoofaaDoorWordAlive
import Derived.WalkKit
import Derived.WalkSmall
import Derived.WalkSpells
import Derived.ProofKit
import Derived.OpenShut
import Derived.ShutString
import Derived.ChangeOld
import Derived.Below
import Derived.Lib.Hide
import Derived.OwnWalk
import Derived.BigQuiet
import Derived.LaidMore
import Derived.Stop.Joined
import Derived.SevenTiedAt
namespace Go.Proofs.YtohdcmahfnoofaaDoor.wordNumbers
open Go.ChangeShapes Go.WideShapes Go.ChangeAt Go.RowKit
open Go.ChangeMaps (open_string shut_string)
set_option linter.unusedVariables false

theorem own : ownKnob Tryd.prog.godebug = none := by kernel_rfl
theorem laidOut : laidOutB Tryd.prog = true := by kernel_rfl
/-- The heap that the door's own run leaves meets the condition. -/
theorem door_met (os : Os) (args : Array Value) : laidMetH Tryd.prog Rows.wordNumbersRow.laid ((World.doorLaid Tryd.prog 400 os).forCall (fun _ _ => 0) ⟨#[], args, []⟩).memory :=
  laidMetH_of_parts3 (fuel := 8) (laidMet_of_run' 8 (by kernel_rfl) (by kernel_rfl)) (by kernel_rfl) (by kernel_rfl)

theorem walk (w : World) (hl : Laid6 w) (s0 : ByteArray) (w0 : s0.size ≤ maxLen) (a1 : Int) (w1 : (Lit.int .i64 a1).wf = true) (a2 b2 : Int) (w2 : (Lit.int .i64 a2).wf = true) (u2 : (Lit.int .i64 b2).wf = true) :
    Calls Tryd.prog 4 #[.string s0, .int .i64 a1, .agg #[.int .i64 a2, .int .i64 b2]] w fun e w' => e = .returned (.bool true) ∧ Below w.heap.size w w' := by
  have wm := wf_bd w1
  by_cases hlen : 200 < s0.size
  · have hlen' : (200 : Int) < (s0.size : Int) := by omega
    have L0 : Laid6 (w.alloc (.cells #[.int .i64 a2, .int .i64 b2] 36)) := hl.below ((Below.refl _ _).alloc (Nat.le_refl _) _)
    clear w0 w1 w2 u2 wm hl
    go_enter Tryd.func4, Tryd.ntmps4
    go_wp2_with (go_at_call 6; refine (alive6_any _ L0).mono ?_; rintro e w5 ⟨rfl, hb5⟩)
    go_ret
    refine ⟨rfl, ?_⟩
    (repeat (first | assumption | exact Below.refl _ _ | (refine b_st ?_ (by first | (simp; done) | (simp; omega))) | (refine b_al ?_ (Nat.le_refl _) _) | refine b_dn ?_ | refine b_dr ?_ | (refine b_cl ?_ (Nat.le_refl _) (by assumption))))
  · have hlen' : (s0.size : Int) ≤ 200 := by omega
    have wa := wf_bd w2
    have wb := wf_bd u2
    have C1 := fun W (h : Laid6 W) => number_any s0 a1 W h wm.2 (by omega)
    have C2 := fun W => refnumber_any s0 a1 W wm.2 (by unfold maxLen; omega)
    have C3 := fun W (h : Laid6 W) => span_any s0 W h (by omega)
    have C4 := fun W => refspan_any s0 W (by omega)
    have C5 := fun W (h : Laid6 W) => print_any a1 W h wm.1 wm.2
    have C6 := fun W => refprint_any a1 W wm.1 wm.2
    have C7 := fun W (h : Laid6 W) => told_any a2 b2 W h wa.1 wa.2 wb.1 wb.2
    have C8 := fun W => reftold_any a2 b2 W wa.1 wa.2 wb.1 wb.2
    have C9 := fun W (h : Laid6 W) => alive6_any W h
    generalize (numberV s0 a1).1 = n1 at C1 C2
    generalize (numberV s0 a1).2 = n2 at C1 C2
    generalize (spanV s0).1 = x at C3 C4
    generalize (spanV s0).2.1 = y at C3 C4
    generalize (spanV s0).2.2 = g at C3 C4
    generalize itoaB a1 = t1 at C5 C6
    generalize toldB a2 b2 = t2 at C7 C8
    have L0 : Laid6 (w.alloc (.cells #[.int .i64 a2, .int .i64 b2] 36)) := hl.below ((Below.refl _ _).alloc (Nat.le_refl _) _)
    clear w0 w1 w2 u2 wm wa wb hl hlen
    go_enter Tryd.func4, Tryd.ntmps4
    go_wp2_with (first
      | (go_at_call 12; (with_reducible refine (C1 _ L0).mono ?_); rintro e w1 ⟨rfl, hb1⟩; obtain ⟨hc1, hf1⟩ := bcell hb1; have hz1 := hb1.size; (try simp at hz1); have : w.heap.size < w1.heap.size := (by omega); have L1 := L0.below hb1)
      | (go_at_call 13; (with_reducible refine (C2 _).mono ?_); rintro e w' ⟨rfl, rfl⟩)
      | (go_at_call 14; (with_reducible refine (C3 _ L1).mono ?_); rintro e w2 ⟨rfl, hb2⟩; obtain ⟨hc2, hf2⟩ := bcell hb2; have hz2 := hb2.size; (try simp at hz2); have : w.heap.size < w2.heap.size := (by omega); have L2 := L1.below hb2)
      | (go_at_call 15; (with_reducible refine (C4 _).mono ?_); rintro e w3 ⟨rfl, hb3⟩; obtain ⟨hc3, hf3⟩ := bcell hb3; have hz3 := hb3.size; (try simp at hz3); have : w.heap.size < w3.heap.size := (by omega); have : w2.heap.size < w3.heap.size := (by omega); have L3 := (L2.below ((Below.refl _ _).alloc (Nat.le_refl _) (.cells #[.int .i64 x, .int .i64 y] 36))).below hb3))
    have L4 : Laid6 (w3.alloc (Obj.cells #[.int .i64 x, .int .i64 y] 36)) := L3.below ((Below.refl _ _).alloc (Nat.le_refl _) _)
    have q1 : ∀ p : BelowOf (w3.alloc (Obj.cells #[.int .i64 x, .int .i64 y] 36)), p.world.cell? ⟨w.heap.size, 0, none⟩ = some (.int .i64 a2) := fun p => p.cell (by
      (repeat (first | assumption | (simp; done) | refine c_al _ ?_ | refine c_cl ?_ (by assumption))))
    have q2 : ∀ p : BelowOf (w3.alloc (Obj.cells #[.int .i64 x, .int .i64 y] 36)), p.world.cell? ⟨w.heap.size, 1, none⟩ = some (.int .i64 b2) := fun p => p.cell (by
      (repeat (first | assumption | (simp; done) | refine c_al _ ?_ | refine c_cl ?_ (by assumption))))
    have q3 : ∀ p : BelowOf (w3.alloc (Obj.cells #[.int .i64 x, .int .i64 y] 36)), p.world.cell? ⟨w2.heap.size, 0, none⟩ = some (.int .i64 x) := fun p => p.cell (by
      (repeat (first | assumption | (simp; done) | refine c_al _ ?_ | refine c_cl ?_ (by assumption))))
    have q4 : ∀ p : BelowOf (w3.alloc (Obj.cells #[.int .i64 x, .int .i64 y] 36)), p.world.cell? ⟨w2.heap.size, 1, none⟩ = some (.int .i64 y) := fun p => p.cell (by
      (repeat (first | assumption | (simp; done) | refine c_al _ ?_ | refine c_cl ?_ (by assumption))))
    have q5 : ∀ p : BelowOf (w3.alloc (Obj.cells #[.int .i64 x, .int .i64 y] 36)), p.world.cell? ⟨w3.heap.size, 0, none⟩ = some (.int .i64 x) := fun p => p.cell (by
      (repeat (first | assumption | (simp; done) | refine c_al _ ?_ | refine c_cl ?_ (by assumption))))
    have q6 : ∀ p : BelowOf (w3.alloc (Obj.cells #[.int .i64 x, .int .i64 y] 36)), p.world.cell? ⟨w3.heap.size, 1, none⟩ = some (.int .i64 y) := fun p => p.cell (by
      (repeat (first | assumption | (simp; done) | refine c_al _ ?_ | refine c_cl ?_ (by assumption))))

    refine wp_region_bel (by kernel_rfl) (by kernel_rfl) ?_
    repeat (go_big_quiet_step (first
      | (go_at_call 16; (with_reducible exact Calls.bel_of (C5 _ (L4.below (BelowOf.ok _)))))
      | (go_at_call 17; (with_reducible exact Calls.bel_of (C6 _)))
      | (go_at_call 18; (with_reducible exact Calls.bel_of (C7 _ (L4.below (BelowOf.ok _)))))
      | (go_at_call 19; (with_reducible exact Calls.bel_of (C8 _)))
      | (go_at_call 6; (with_reducible exact Calls.bel_of (C9 _ (L4.below (BelowOf.ok _)))))))
    refine wpQuiet_nil ?_
    refine bel_all fun wq hbq => ?_
    go_wp2
    go_ret
    refine ⟨rfl, ?_⟩
    refine b_cl ?_ (Nat.le_refl _) hbq
    (repeat (first | assumption | exact Below.refl _ _ | (refine b_st ?_ (by first | (simp; done) | (simp; omega))) | (refine b_al ?_ (Nat.le_refl _) _) | refine b_dn ?_ | refine b_dr ?_ | (refine b_cl ?_ (Nat.le_refl _) (by assumption))))

set_option maxRecDepth 100000 in
theorem lifted (os : Os) (started : os.Started) (H : Type) (enc : TypeId × Value → H) :
    ReturnsInHanded {} Tryd.checked os 4 .any (fun w args => (Rows.wordNumbersSpec.pre enc Tryd.prog Tryd.f4 [] false w args ∧ laidMetH Tryd.prog Rows.wordNumbersRow.laid w) ∧ sizedMet enc Tryd.prog Tryd.f4 (OpenSpec.ofChange Rows.wordNumbersSpec) false w args)
      (Rows.wordNumbersSpec.post enc Tryd.prog Tryd.f4 false true false false) := by
  refine returns_laid (C := Tryd.checked) (X := fun w _ => laidMetH Tryd.prog Rows.wordNumbersRow.laid w) (fun _ _ _ hh h => h.of_heap hh) own started (by kernel_rfl) Tryd.func4
    (ChangeSpec.witness_shaped (enc := enc) (C := Tryd.checked) (os := os) (X := fun w _ => laidMetH Tryd.prog Rows.wordNumbersRow.laid w) false (World.doorLaid Tryd.prog 400 os) #[.string ⟨#[]⟩, .int .i64 0, .agg #[.int .i64 0, .int .i64 0]] 8 rfl (World.shaped_of_RefB (by kernel_rfl) (by kernel_rfl)) (by kernel_rfl) (by kernel_rfl) (by kernel_rfl) (door_met os _)) ?_
  intro W base args ds gs before hsh hval0 hW hL
  have hval : ∀ (j : Nat) t v, Tryd.f4.params[j]? = some t → args[j]? = some v → Value.okWide Tryd.prog W .any base t v := hval0
  have hW' := hW
  obtain ⟨p, q, hA0, hV, rfl, hfz, hnd⟩ := hW
  have hA : DataW.TrodAll enc Tryd.prog W 0 (fun _ => true) true Tryd.f4.params.toList args.toList ds p := hA0
  rw [Tryd.params4] at hA hval
  obtain ⟨v0, vs0, d0, ds0, p0, q0, hargs, rfl, rfl, h0, r0⟩ := trodAll_cons hA
  obtain ⟨v1, vs1, d1, ds1, p1, q1, rfl, rfl, rfl, h1, r1⟩ := trodAll_cons r0
  obtain ⟨v2, vs2, d2, ds2, p2, q2, rfl, rfl, rfl, h2, r2⟩ := trodAll_cons r1
  obtain ⟨rfl, rfl, rfl⟩ := trodAll_nil r2
  obtain rfl : args = #[v0, v1, v2] := by cases args; simp_all
  obtain ⟨rfl, rfl⟩ := trodVars_none hV
  obtain ⟨s0, rfl, rfl, rfl, w0⟩ := open_string Tryd.underlying9 (hval 0 9 v0 rfl rfl) h0
  obtain ⟨a1, rfl, rfl, rfl, w1⟩ := open_int Tryd.underlying3 (hval 1 3 v1 rfl rfl) h1
  obtain ⟨a2, b2, rfl, rfl, rfl, w2, u2⟩ := open_span (hval 2 36 v2 rfl rfl) h2
  clear hA0 hval0
  simp only [List.append_nil] at hW'
  refine (walk W (laid6_of hsh hL (by kernel_rfl) (by simp [Rows.wordNumbersRow]) (by simp [Rows.wordNumbersRow])) s0 w0 a1 w1 a2 b2 w2 u2).mono fun e W' ⟨he, bel⟩ => ?_
  subst he
  exact ⟨_, rfl, _, _, _, [], [], [], hW', trodAll_mk1 (shut_bool Tryd.underlying4 _), (trodAll_cons_mk (shut_string Tryd.underlying9 w0) (trodAll_cons_mk (shut_int Tryd.underlying3 w1) (trodAll_cons_mk (shut_span w2 u2) trodAll_mk0))), rfl, bel.frame _, fun h => by cases h⟩

theorem over : Rows.WordNumbersSaid :=
  OpenClaim.holds_of_wide 4 Tryd.f4 rfl rfl rfl rfl rfl rfl rfl ⟨rfl, rfl, rfl, rfl, rfl⟩ rfl rfl rfl rfl rfl (by kernel_rfl) Tryd.func4 (by kernel_rfl)
    (of_decide_eq_true (by kernel_rfl)) (by unfold Func.isWrapper; first | (rw [if_pos (by decide +kernel)]; kernel_rfl) | (rw [if_neg (by decide +kernel)]; exact ⟨rfl, rfl⟩))
    (fun os started H enc _ => lifted os started H enc)

theorem proved : Rows.WordNumbersCardSaid :=
  Claim7.holds_tied_plain_at .later [] _ true _ _ over (fun _ h => by cases h) (by kernel_rfl) (fun _ h => by cases h) wordNumbers_row_tie rfl ⟨rfl, rfl⟩ (by kernel_rfl) rfl
    (fun f fn hf hfn => by
      obtain rfl : f = 4 := Option.some.inj ((show Tryd.prog.funcNamed "haulier/haulierlaw06.WordNumbers" = some 4 by kernel_rfl).symm.trans hf) |>.symm
      obtain rfl : fn = Tryd.f4 := (Option.some.inj (Tryd.func4.symm.trans hfn)).symm
      exact ⟨by kernel_rfl, fun j t ht => by
        rw [Tryd.params4] at ht
        have hm : t ∈ [9, 3, 36] := by simpa using Array.mem_of_getElem? ht
        have hall : ([9, 3, 36].all fun u => !Tryd.prog.wantsStandIn u) = true := by kernel_rfl
        exact (show Tryd.prog.wantsStandIn t = false by simpa using List.all_eq_true.1 hall t hm)⟩)
    (by kernel_rfl)
#print axioms proved
end Go.Proofs.YtohdcmahfnoofaaDoor.wordNumbers
