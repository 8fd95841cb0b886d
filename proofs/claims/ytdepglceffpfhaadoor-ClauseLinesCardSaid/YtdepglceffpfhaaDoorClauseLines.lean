/- ClauseLines of layer 15 answers true at every input: the line of any finding, and the finding of any line, is as the document says; a line is parsed as its finding. Conditions: none beyond the row's own. -/
import Derived.Test.YtdepglceffpfhaaDoorRows
import Derived.Test.YtdepglceffpfhaaDoorTie
import Derived.Test.YtdepglceffpfhaaDoorCards
import Derived.Test.YtdepglceffpfhaaDoorWordRow
import Derived.Test.YtdepglceffpfhaaDoorClauseRow
import Derived.Test.YtdepglceffpfhaaDoorClauseAlive
import Derived.Test.YtdepglceffpfhaaDoorClauseRLine
import Derived.Test.YtdepglceffpfhaaDoorClauseParse
import Derived.Test.YtdepglceffpfhaaDoorFindArg
import Derived.WalkKit
import Derived.WalkSmall
import Derived.WalkSpells
import Derived.ProofKit
import Derived.OpenShut
import Derived.ShutString
import Derived.ChangeOld
import Derived.Below
import Derived.Lib.Hide
import Derived.OwnWalk
import Derived.BigQuiet
import Derived.LaidMore
import Derived.Stop.Joined
import Derived.SevenTiedAt
namespace Go.Proofs.YtdepglceffpfhaaDoor.clauseLines
open Go.ChangeShapes Go.WideShapes Go.ChangeAt Go.RowKit
open Go.ChangeMaps (open_string shut_string)
set_option linter.unusedVariables false

theorem own : ownKnob Tryd.prog.godebug = none := by kernel_rfl
theorem laidOut : laidOutB Tryd.prog = true := by kernel_rfl
/-- The heap that the door's own run leaves meets the condition. -/
theorem door_met (os : Os) (args : Array Value) : laidMetH Tryd.prog Rows.clauseLinesRow.laid ((World.doorLaid Tryd.prog 400 os).forCall (fun _ _ => 0) ⟨#[], args, []⟩).memory :=
  laidMetH_of_parts3 (fuel := 8) (laidMet_of_run' 8 (by kernel_rfl) (by kernel_rfl)) (by kernel_rfl) (by kernel_rfl)

theorem long (a b c : Int) (s : ByteArray) (w : World) (hl : LaidP w) (hz : 300 < s.size) :
    Calls Tryd.prog 5 #[.agg #[.int .i64 a, .int .i64 b, .int .i64 c], .string s] w fun e w' => e = .returned (.bool true) ∧ Below w.heap.size w w' := by
  have L15 : Hid (Laid15 w) := Lib.hid ⟨hl.titles, hl.word.tab⟩
  have hz1 : (300 : Int) < (s.size : Int) := by omega
  clear hl
  go_enter Tryd.func5, Tryd.ntmps5
  go_wp2_with (go_at_call 6; (with_reducible refine (alive15_any _ (L15.out.below (by (repeat (first | assumption | exact Below.refl _ _ | (refine b_al ?_ (Nat.le_refl _) _) | refine b_dn ?_ | refine b_dr ?_ | (refine b_cl ?_ (Nat.le_refl _) (by assumption))))))).mono ?_); rintro e wz ⟨rfl, hbz⟩)
  go_ret
  refine ⟨rfl, ?_⟩
  (repeat (first | assumption | exact Below.refl _ _ | (refine b_st ?_ (by first | (simp; done) | (simp; omega))) | (refine b_al ?_ (Nat.le_refl _) _) | refine b_dn ?_ | refine b_dr ?_ | (refine b_cl ?_ (Nat.le_refl _) (by assumption))))

set_option maxRecDepth 100000 in
set_option maxHeartbeats 8000000 in
theorem bad (a b c : Int) (s : ByteArray) (w : World) (hl : LaidP w) (hz : s.size ≤ 300) (h : err15 a b c ≠ 0) :
    Calls Tryd.prog 5 #[.agg #[.int .i64 a, .int .i64 b, .int .i64 c], .string s] w fun e w' => e = .returned (.bool true) ∧ Below w.heap.size w w' := by
  have HL := hl
  have L15 : Hid (Laid15 w) := Lib.hid ⟨hl.titles, hl.word.tab⟩
  have LP := Lib.hid hl
  have CL := fun W (h : Laid15 W) => line15_any a b c W h
  have CR := fun W => refline15_any a b c W
  have CP := fun W (h : LaidP W) => parse15_any s W h (by omega)
  have CQ := fun W => refparse15_any s W (by omega)
  generalize (parse15V s).1.1 = p1 at CP CQ
  generalize (parse15V s).1.2.1 = p2 at CP CQ
  generalize (parse15V s).1.2.2 = p3 at CP CQ
  generalize (parse15V s).2 = pg at CP CQ
  rw [line15_wrong rfl h] at CL CR
  have he : (err15 a b c == 0) = false := by simpa using h
  generalize err15 a b c = ev at CL CR he
  have hz1 : ¬ (300 : Int) < (s.size : Int) := by omega
  clear hl h HL
  go_enter Tryd.func5, Tryd.ntmps5
  go_wp2_with (first
    | (go_at_call 20; (with_reducible refine (CL _ (L15.out.below (by (repeat (first | assumption | exact Below.refl _ _ | (refine b_al ?_ (Nat.le_refl _) _) | refine b_dn ?_ | refine b_dr ?_ | (refine b_cl ?_ (Nat.le_refl _) (by assumption))))))).mono ?_); rintro e w1 ⟨rfl, hb1⟩; obtain ⟨hc1, hf1⟩ := bcell hb1; have hz1 := hb1.size; (try simp at hz1); have hl1a : w.heap.size < w1.heap.size := (by omega))
    | (go_at_call 21; (with_reducible refine (CR _).mono ?_); rintro e w2 ⟨rfl, hb2⟩; obtain ⟨hc2, hf2⟩ := bcell hb2; have hz2 := hb2.size; (try simp at hz2); have hl2a : w.heap.size < w2.heap.size := (by omega))
    | (go_at_call 22; (with_reducible refine (CP _ (LP.out.below (by (repeat (first | assumption | exact Below.refl _ _ | (refine b_al ?_ (Nat.le_refl _) _) | refine b_dn ?_ | refine b_dr ?_ | (refine b_cl ?_ (Nat.le_refl _) (by assumption))))))).mono ?_); rintro e w3 ⟨rfl, hb3⟩; obtain ⟨hc3, hf3⟩ := bcell hb3; have hz3 := hb3.size; (try simp at hz3); have hl3a : w.heap.size < w3.heap.size := (by omega))
    | (go_at_call 23; (with_reducible refine (CQ _).mono ?_); rintro e w4 ⟨rfl, hb4⟩; obtain ⟨hc4, hf4⟩ := bcell hb4; have hz4 := hb4.size; (try simp at hz4); have hl4a : w.heap.size < w4.heap.size := (by omega); have hl4b : w3.heap.size < w4.heap.size := (by omega))
    | (go_at_call 6; (with_reducible refine (alive15_any _ (L15.out.below (by (repeat (first | assumption | exact Below.refl _ _ | (refine b_al ?_ (Nat.le_refl _) _) | refine b_dn ?_ | refine b_dr ?_ | (refine b_cl ?_ (Nat.le_refl _) (by assumption))))))).mono ?_); rintro e wz ⟨rfl, hbz⟩))
  go_ret
  refine ⟨rfl, ?_⟩
  (repeat (first | assumption | exact Below.refl _ _ | (refine b_st ?_ (by first | (simp; done) | (simp; omega))) | (refine b_al ?_ (Nat.le_refl _) _) | refine b_dn ?_ | refine b_dr ?_ | (refine b_cl ?_ (Nat.le_refl _) (by assumption))))

set_option maxRecDepth 100000 in
set_option maxHeartbeats 8000000 in
theorem good (a b c : Int) (s : ByteArray) (w : World) (hl : LaidP w) (hz : s.size ≤ 300) (h : err15 a b c = 0) :
    Calls Tryd.prog 5 #[.agg #[.int .i64 a, .int .i64 b, .int .i64 c], .string s] w fun e w' => e = .returned (.bool true) ∧ Below w.heap.size w w' := by
  have HL := hl
  have L15 : Hid (Laid15 w) := Lib.hid ⟨hl.titles, hl.word.tab⟩
  have LP := Lib.hid hl
  have CL := fun W (h : Laid15 W) => line15_any a b c W h
  have CR := fun W => refline15_any a b c W
  have CP := fun W (h : LaidP W) => parse15_any s W h (by omega)
  have CQ := fun W => refparse15_any s W (by omega)
  generalize (parse15V s).1.1 = p1 at CP CQ
  generalize (parse15V s).1.2.1 = p2 at CP CQ
  generalize (parse15V s).1.2.2 = p3 at CP CQ
  generalize (parse15V s).2 = pg at CP CQ
  rw [line15_good h] at CL CR
  obtain ⟨h1, h2, h3, h4⟩ := err15_zero h
  have hzf := (find_size (c := a) (x := b) (y := c) (by omega) (by omega) (by omega) (by omega)).2.2
  have CZ := fun W (h : LaidP W) => parse15_any (findB a b c) W h (by omega)
  rw [parse_find h] at CZ
  generalize findB a b c = sv at CL CR CZ
  have hz1 : ¬ (300 : Int) < (s.size : Int) := by omega
  clear hl h h1 h2 h3 h4 hzf HL
  go_enter Tryd.func5, Tryd.ntmps5
  go_wp2_with (first
    | (go_at_call 20; (with_reducible refine (CL _ (L15.out.below (by (repeat (first | assumption | exact Below.refl _ _ | (refine b_al ?_ (Nat.le_refl _) _) | refine b_dn ?_ | refine b_dr ?_ | (refine b_cl ?_ (Nat.le_refl _) (by assumption))))))).mono ?_); rintro e w1 ⟨rfl, hb1⟩; obtain ⟨hc1, hf1⟩ := bcell hb1; have hz1 := hb1.size; (try simp at hz1); have hl1a : w.heap.size < w1.heap.size := (by omega))
    | (go_at_call 21; (with_reducible refine (CR _).mono ?_); rintro e w2 ⟨rfl, hb2⟩; obtain ⟨hc2, hf2⟩ := bcell hb2; have hz2 := hb2.size; (try simp at hz2); have hl2a : w.heap.size < w2.heap.size := (by omega))
    | (go_at_call 22; (with_reducible refine (CP _ (LP.out.below (by (repeat (first | assumption | exact Below.refl _ _ | (refine b_al ?_ (Nat.le_refl _) _) | refine b_dn ?_ | refine b_dr ?_ | (refine b_cl ?_ (Nat.le_refl _) (by assumption))))))).mono ?_); rintro e w3 ⟨rfl, hb3⟩; obtain ⟨hc3, hf3⟩ := bcell hb3; have hz3 := hb3.size; (try simp at hz3); have hl3a : w.heap.size < w3.heap.size := (by omega))
    | (go_at_call 23; (with_reducible refine (CQ _).mono ?_); rintro e w4 ⟨rfl, hb4⟩; obtain ⟨hc4, hf4⟩ := bcell hb4; have hz4 := hb4.size; (try simp at hz4); have hl4a : w.heap.size < w4.heap.size := (by omega); have hl4b : w3.heap.size < w4.heap.size := (by omega))
    | (go_at_call 22; (with_reducible refine (CZ _ (LP.out.below (by (repeat (first | assumption | exact Below.refl _ _ | (refine b_al ?_ (Nat.le_refl _) _) | refine b_dn ?_ | refine b_dr ?_ | (refine b_cl ?_ (Nat.le_refl _) (by assumption))))))).mono ?_); rintro e w5 ⟨rfl, hb5⟩; obtain ⟨hc5, hf5⟩ := bcell hb5; have hz5 := hb5.size; (try simp at hz5); have hl5a : w.heap.size < w5.heap.size := (by omega); have hl5b : w3.heap.size < w5.heap.size := (by omega); have hl5c : w4.heap.size < w5.heap.size := (by omega))
    | (go_at_call 6; (with_reducible refine (alive15_any _ (L15.out.below (by (repeat (first | assumption | exact Below.refl _ _ | (refine b_al ?_ (Nat.le_refl _) _) | refine b_dn ?_ | refine b_dr ?_ | (refine b_cl ?_ (Nat.le_refl _) (by assumption))))))).mono ?_); rintro e wz ⟨rfl, hbz⟩))
  go_ret
  refine ⟨rfl, ?_⟩
  (repeat (first | assumption | exact Below.refl _ _ | (refine b_st ?_ (by first | (simp; done) | (simp; omega))) | (refine b_al ?_ (Nat.le_refl _) _) | refine b_dn ?_ | refine b_dr ?_ | (refine b_cl ?_ (Nat.le_refl _) (by assumption))))

theorem walk (w : World) (hl : LaidP w) (a0 b0 c0 : Int) (w0 : (Lit.int .i64 a0).wf = true) (u0 : (Lit.int .i64 b0).wf = true) (x0 : (Lit.int .i64 c0).wf = true) (s1 : ByteArray) (w1 : s1.size ≤ maxLen) :
    Calls Tryd.prog 5 #[.agg #[.int .i64 a0, .int .i64 b0, .int .i64 c0], .string s1] w fun e w' => e = .returned (.bool true) ∧ Below w.heap.size w w' := by
  by_cases hz : 300 < s1.size
  · exact long a0 b0 c0 s1 w hl hz
  · by_cases h : err15 a0 b0 c0 = 0
    · exact good a0 b0 c0 s1 w hl (by omega) h
    · exact bad a0 b0 c0 s1 w hl (by omega) h

set_option maxRecDepth 100000 in
theorem lifted (os : Os) (started : os.Started) (H : Type) (enc : TypeId × Value → H) :
    ReturnsInHanded {} Tryd.checked os 5 .any (fun w args => (Rows.clauseLinesSpec.pre enc Tryd.prog Tryd.f5 [] false w args ∧ laidMetH Tryd.prog Rows.clauseLinesRow.laid w) ∧ sizedMet enc Tryd.prog Tryd.f5 (OpenSpec.ofChange Rows.clauseLinesSpec) false w args)
      (Rows.clauseLinesSpec.post enc Tryd.prog Tryd.f5 false true false false) := by
  refine returns_laid (C := Tryd.checked) (X := fun w _ => laidMetH Tryd.prog Rows.clauseLinesRow.laid w) (fun _ _ _ hh h => h.of_heap hh) own started (by kernel_rfl) Tryd.func5
    (ChangeSpec.witness_shaped (enc := enc) (C := Tryd.checked) (os := os) (X := fun w _ => laidMetH Tryd.prog Rows.clauseLinesRow.laid w) false (World.doorLaid Tryd.prog 400 os) #[.agg #[.int .i64 0, .int .i64 0, .int .i64 0], .string ⟨#[]⟩] 8 rfl (World.shaped_of_RefB (by kernel_rfl) (by kernel_rfl)) (by kernel_rfl) (by kernel_rfl) (by kernel_rfl) (door_met os _)) ?_
  intro W base args ds gs before hsh hval0 hW hL
  have hval : ∀ (j : Nat) t v, Tryd.f5.params[j]? = some t → args[j]? = some v → Value.okWide Tryd.prog W .any base t v := hval0
  have hW' := hW
  obtain ⟨p, q, hA0, hV, rfl, hfz, hnd⟩ := hW
  have hA : DataW.TrodAll enc Tryd.prog W 0 (fun _ => true) true Tryd.f5.params.toList args.toList ds p := hA0
  rw [Tryd.params5] at hA hval
  obtain ⟨v0, vs0, d0, ds0, p0, q0, hargs, rfl, rfl, h0, r0⟩ := trodAll_cons hA
  obtain ⟨v1, vs1, d1, ds1, p1, q1, rfl, rfl, rfl, h1, r1⟩ := trodAll_cons r0
  obtain ⟨rfl, rfl, rfl⟩ := trodAll_nil r1
  obtain rfl : args = #[v0, v1] := by cases args; simp_all
  obtain ⟨rfl, rfl⟩ := trodVars_none hV
  obtain ⟨a0, b0, c0, rfl, rfl, rfl, w0, u0, x0⟩ := open_find (hval 0 41 v0 rfl rfl) h0
  obtain ⟨s1, rfl, rfl, rfl, w1⟩ := open_string Tryd.underlying9 (hval 1 9 v1 rfl rfl) h1
  clear hA0 hval0
  simp only [List.append_nil] at hW'
  refine (walk W ⟨laid6_of hsh hL (by kernel_rfl) (by simp [Rows.clauseLinesRow]) (by simp [Rows.clauseLinesRow]), titles_of_laid hL (by kernel_rfl) (by simp [Rows.clauseLinesRow])⟩ a0 b0 c0 w0 u0 x0 s1 w1).mono fun e W' ⟨he, bel⟩ => ?_
  subst he
  exact ⟨_, rfl, _, _, _, [], _, [], hW', trodAll_mk1 (shut_bool Tryd.underlying4 _), (trodAll_cons_mk (shut_find w0 u0 x0) (trodAll_cons_mk (shut_string Tryd.underlying9 w1) trodAll_mk0)), rfl, bel.frame _, fun h => by cases h⟩

theorem over : Rows.ClauseLinesSaid :=
  OpenClaim.holds_of_wide 5 Tryd.f5 rfl rfl rfl rfl rfl rfl rfl ⟨rfl, rfl, rfl, rfl, rfl⟩ rfl rfl rfl rfl rfl (by kernel_rfl) Tryd.func5 (by kernel_rfl)
    (of_decide_eq_true (by kernel_rfl)) (by unfold Func.isWrapper; first | (rw [if_pos (by decide +kernel)]; kernel_rfl) | (rw [if_neg (by decide +kernel)]; exact ⟨rfl, rfl⟩))
    (fun os started H enc _ => lifted os started H enc)

theorem proved : Rows.ClauseLinesCardSaid :=
  Claim7.holds_tied_plain_at .later [] _ true _ _ over (fun _ h => by cases h) (by kernel_rfl) (fun _ h => by cases h) clauseLines_row_tie rfl ⟨rfl, rfl⟩ (by kernel_rfl) rfl
    (fun f fn hf hfn => by
      obtain rfl : f = 5 := Option.some.inj ((show Tryd.prog.funcNamed "haulier/haulierlaw15.ClauseLines" = some 5 by kernel_rfl).symm.trans hf) |>.symm
      obtain rfl : fn = Tryd.f5 := (Option.some.inj (Tryd.func5.symm.trans hfn)).symm
      exact ⟨by kernel_rfl, fun j t ht => by
        rw [Tryd.params5] at ht
        have hm : t ∈ [41, 9] := by simpa using Array.mem_of_getElem? ht
        have hall : ([41, 9].all fun u => !Tryd.prog.wantsStandIn u) = true := by kernel_rfl
        exact (show Tryd.prog.wantsStandIn t = false by simpa using List.all_eq_true.1 hall t hm)⟩)
    (by kernel_rfl)
#print axioms proved
end Go.Proofs.YtdepglceffpfhaaDoor.clauseLines
