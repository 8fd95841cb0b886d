/- The lines of a text and the words of a line are as the document says. Conditions: none (of texts of more than two thousand bytes the law asks the examples alone; the listed tables read as the program lays them, which the card ties to its text). -/
import Derived.Test.YtohdcmahfnoofaaDoorRows
import Derived.Test.YtohdcmahfnoofaaDoorTie
import Derived.Test.YtohdcmahfnoofaaDoorCards
import Derived.Test.YtohdcmahfnoofaaDoorWordRow
import Derived.Test.YtohdcmahfnoofaaDoorMath
import Derived.Test.YtohdcmahfnoofaaDoorWordAlive
import Derived.Test.YtohdcmahfnoofaaDoorLinesR
import Derived.Test.YtohdcmahfnoofaaDoorLinesC2
import Derived.WalkKit
import Derived.WalkSmall
import Derived.WalkSpells
import Derived.ProofKit
import Derived.OpenShut
import Derived.ShutString
import Derived.ChangeOld
import Derived.Below
import Derived.Lib.Hide
import Derived.OwnWalk
import Derived.BigQuiet
import Derived.LaidMore
import Derived.Stop.Joined
import Derived.SevenTiedAt
namespace Go.Proofs.YtohdcmahfnoofaaDoor.wordLines
open Go.ChangeShapes Go.WideShapes Go.ChangeAt Go.RowKit
open Go.ChangeMaps (open_string shut_string)
set_option linter.unusedVariables false

theorem own : ownKnob Tryd.prog.godebug = none := by kernel_rfl
theorem laidOut : laidOutB Tryd.prog = true := by kernel_rfl
/-- The heap that the door's own run leaves meets the condition. -/
theorem door_met (os : Os) (args : Array Value) : laidMetH Tryd.prog Rows.wordLinesRow.laid ((World.doorLaid Tryd.prog 400 os).forCall (fun _ _ => 0) ⟨#[], args, []⟩).memory :=
  laidMetH_of_parts3 (fuel := 8) (laidMet_of_run' 8 (by kernel_rfl) (by kernel_rfl)) (by kernel_rfl) (by kernel_rfl)

set_option maxRecDepth 20000 in
set_option maxHeartbeats 4000000 in
theorem walk (w : World) (hl : Laid6 w) (s0 : ByteArray) (w0 : s0.size ≤ maxLen) (s1 : ByteArray) (w1 : s1.size ≤ maxLen) :
    Calls Tryd.prog 3 #[.string s0, .string s1] w fun e w' => e = .returned (.bool true) ∧ Below w.heap.size w w' := by
  by_cases hlen : 2000 < s0.size
  · have h1 : (2000 : Int) < (s0.size : Int) := by omega
    clear hlen
    clear w0 w1
    go_enter Tryd.func3, Tryd.ntmps3
    go_wp2_with (go_at_call 6; refine (alive6_any _ hl).mono ?_; rintro e w5 ⟨rfl, hb5⟩)
    go_ret
    exact ⟨rfl, hb5⟩
  · by_cases hlen2 : 2000 < s1.size
    · have h1 : (s0.size : Int) ≤ 2000 := by omega
      have h2 : (2000 : Int) < (s1.size : Int) := by omega
      clear hlen hlen2
      clear w0 w1
      go_enter Tryd.func3, Tryd.ntmps3
      go_wp2_with (go_at_call 6; refine (alive6_any _ hl).mono ?_; rintro e w5 ⟨rfl, hb5⟩)
      go_ret
      exact ⟨rfl, hb5⟩
    · have h1 : (s0.size : Int) ≤ 2000 := by omega
      have h2 : (s1.size : Int) ≤ 2000 := by omega
      have C1 := fun W => lines_any s0 W (by omega)
      have C2 := fun W => reflines_any s0 W (by omega)
      have C3 := fun W => split_any s1 W (by omega)
      have C4 := fun W => refsplit_any s1 W (by omega)
      have C9 := fun W (h : Laid6 W) => alive6_any W h
      have HL1 := Lib.hid (lines_len s0)
      have HL2 := Lib.hid (split_len s1)
      generalize linesV s0 = V1 at C1 C2 HL1
      generalize splitV s1 = V2 at C3 C4 HL2
      obtain ⟨l1, p1, e1⟩ := V1
      obtain ⟨l2, p2, e2⟩ := V2
      simp only [] at C1 C2 C3 C4 HL1 HL2
      obtain ⟨n1, hn1⟩ : ∃ n1, l1.length = n1 := ⟨_, rfl⟩
      obtain ⟨n2, hn2⟩ : ∃ n2, l2.length = n2 := ⟨_, rfl⟩
      have HN1 := Lib.hid hn1
      have HN2 := Lib.hid hn2
      clear hn1 hn2
      have b1 : n1 ≤ 2000 := by have := HL1.out; have := HN1.out; omega
      have b2 : n2 ≤ 2001 := by have := HL2.out; have := HN2.out; omega
      clear w0 w1 hlen hlen2
      go_enter Tryd.func3, Tryd.ntmps3
      go_wp2_with (first
        | (go_at_call 7; (with_reducible refine (C1 _).mono ?_); rintro e w1 ⟨v1, rfl, ho1, hb1⟩; have L1 := hl.below hb1; obtain ⟨A1, c1, rfl, hr1, _⟩ := ho1.read; have R1 := Lib.hid hr1; rw [HN1.out]; clear hr1 ho1)
        | (go_at_call 8; (with_reducible refine (C2 _).mono ?_); rintro e w2 ⟨v2, rfl, ho2, hb2⟩; have L2 := L1.below hb2; obtain ⟨A2, c2, rfl, hr2, _⟩ := ho2.read; have R2 := Lib.hid hr2; have R3 := Lib.hid (R1.out.below hb2); rw [HN1.out]; clear hr2 ho2))
      go_loopw [56] (fun i wr => ∃ k : Nat, k ≤ n1 ∧ i = .int .i64 k ∧ ∃ m, wr = w2.drewN m) (fun i _ => n1 - (intOf i).toNat)
      case atStart => exact ⟨0, Nat.zero_le _, rfl, 0, rfl⟩
      case round =>
        obtain ⟨k, hk, rfl, m, rfl⟩ := hrel
        by_cases hlt : k < n1
        · obtain ⟨d1, o1, t, rfl, hd1, q1, hs1⟩ := R3.out.at_ (k := k) (by rw [HN1.out]; exact hlt)
          obtain ⟨d2, o2, t2, rfl, hd2, q2, hs2⟩ := R2.out.at_ (k := k) (by rw [HN1.out]; exact hlt)
          obtain rfl := hs1.out.symm.trans hs2.out
          have hne : (t.toList == t.toList) = true := by simp
          go_wp2
          go_quiet (fail)
          go_wp2
          go_roundw
          case rel => exact ⟨k + 1, by omega, by go_num, _, rfl⟩
          case measure => simp [intOf]; omega
        · have L3 : Laid6 (w2.drewN m) := L2.below (b_dn (Below.refl _ _))
          have HBW := b_dn (k := m) (b_cl hb1 (Nat.le_refl _) hb2)
          clear R1 R2 R3
          go_wp2_with (first
            | (go_at_call 9; (with_reducible refine (C3 _).mono ?_); rintro e w3 ⟨v3, rfl, ho3, hb3⟩; have L4 := L3.below hb3; obtain ⟨A3, c3, rfl, hr3⟩ := ho3.read; have R5 := Lib.hid hr3; rw [HN2.out]; clear hr3 ho3)
            | (go_at_call 10; (with_reducible refine (C4 _).mono ?_); rintro e w4 ⟨v4, rfl, ho4, hb4⟩; have L5 := L4.below hb4; obtain ⟨A4, c4, rfl, hr4⟩ := ho4.read; have R6 := Lib.hid hr4; have R7 := Lib.hid (R5.out.below hb4); rw [HN2.out]; clear hr4 ho4)
            | (go_at_call 11; (with_reducible refine (same_any A3 A4 c3 c4 n2 l2 _ HN2.out (by omega) R7.out R6.out).mono ?_); rintro e w5 ⟨rfl, hb5⟩; have L6 := L5.below hb5)
            | (go_at_call 6; (with_reducible refine (C9 _ L6).mono ?_); rintro e w6 ⟨rfl, hb6⟩))
          go_ret
          refine ⟨rfl, ?_⟩
          (repeat (first | assumption | exact Below.refl _ _ | (refine b_st ?_ (by first | (simp; done) | (simp; omega))) | (refine b_al ?_ (Nat.le_refl _) _) | refine b_dn ?_ | refine b_dr ?_ | (refine b_cl ?_ (Nat.le_refl _) (by assumption))))

set_option maxRecDepth 100000 in
theorem lifted (os : Os) (started : os.Started) (H : Type) (enc : TypeId × Value → H) :
    ReturnsInHanded {} Tryd.checked os 3 .any (fun w args => (Rows.wordLinesSpec.pre enc Tryd.prog Tryd.f3 [] false w args ∧ laidMetH Tryd.prog Rows.wordLinesRow.laid w) ∧ sizedMet enc Tryd.prog Tryd.f3 (OpenSpec.ofChange Rows.wordLinesSpec) false w args)
      (Rows.wordLinesSpec.post enc Tryd.prog Tryd.f3 false true false false) := by
  refine returns_laid (C := Tryd.checked) (X := fun w _ => laidMetH Tryd.prog Rows.wordLinesRow.laid w) (fun _ _ _ hh h => h.of_heap hh) own started (by kernel_rfl) Tryd.func3
    (ChangeSpec.witness_shaped (enc := enc) (C := Tryd.checked) (os := os) (X := fun w _ => laidMetH Tryd.prog Rows.wordLinesRow.laid w) false (World.doorLaid Tryd.prog 400 os) #[.string ⟨#[]⟩, .string ⟨#[]⟩] 8 rfl (World.shaped_of_RefB (by kernel_rfl) (by kernel_rfl)) (by kernel_rfl) (by kernel_rfl) (by kernel_rfl) (door_met os _)) ?_
  intro W base args ds gs before hsh hval0 hW hL
  have hval : ∀ (j : Nat) t v, Tryd.f3.params[j]? = some t → args[j]? = some v → Value.okWide Tryd.prog W .any base t v := hval0
  have hW' := hW
  obtain ⟨p, q, hA0, hV, rfl, hfz, hnd⟩ := hW
  have hA : DataW.TrodAll enc Tryd.prog W 0 (fun _ => true) true Tryd.f3.params.toList args.toList ds p := hA0
  rw [Tryd.params3] at hA hval
  obtain ⟨v0, vs0, d0, ds0, p0, q0, hargs, rfl, rfl, h0, r0⟩ := trodAll_cons hA
  obtain ⟨v1, vs1, d1, ds1, p1, q1, rfl, rfl, rfl, h1, r1⟩ := trodAll_cons r0
  obtain ⟨rfl, rfl, rfl⟩ := trodAll_nil r1
  obtain rfl : args = #[v0, v1] := by cases args; simp_all
  obtain ⟨rfl, rfl⟩ := trodVars_none hV
  obtain ⟨s0, rfl, rfl, rfl, w0⟩ := open_string Tryd.underlying9 (hval 0 9 v0 rfl rfl) h0
  obtain ⟨s1, rfl, rfl, rfl, w1⟩ := open_string Tryd.underlying9 (hval 1 9 v1 rfl rfl) h1
  clear hA0 hval0
  simp only [List.append_nil] at hW'
  refine (walk W (laid6_of hsh hL (by kernel_rfl) (by simp [Rows.wordLinesRow]) (by simp [Rows.wordLinesRow])) s0 w0 s1 w1).mono fun e W' ⟨he, bel⟩ => ?_
  subst he
  exact ⟨_, rfl, _, _, _, [], [], [], hW', trodAll_mk1 (shut_bool Tryd.underlying4 _), (trodAll_cons_mk (shut_string Tryd.underlying9 w0) (trodAll_cons_mk (shut_string Tryd.underlying9 w1) trodAll_mk0)), rfl, bel.frame _, fun h => by cases h⟩

theorem over : Rows.WordLinesSaid :=
  OpenClaim.holds_of_wide 3 Tryd.f3 rfl rfl rfl rfl rfl rfl rfl ⟨rfl, rfl, rfl, rfl, rfl⟩ rfl rfl rfl rfl rfl (by kernel_rfl) Tryd.func3 (by kernel_rfl)
    (of_decide_eq_true (by kernel_rfl)) (by unfold Func.isWrapper; first | (rw [if_pos (by decide +kernel)]; kernel_rfl) | (rw [if_neg (by decide +kernel)]; exact ⟨rfl, rfl⟩))
    (fun os started H enc _ => lifted os started H enc)

theorem proved : Rows.WordLinesCardSaid :=
  Claim7.holds_tied_plain_at .later [] _ true _ _ over (fun _ h => by cases h) (by kernel_rfl) (fun _ h => by cases h) wordLines_row_tie rfl ⟨rfl, rfl⟩ (by kernel_rfl) rfl
    (fun f fn hf hfn => by
      obtain rfl : f = 3 := Option.some.inj ((show Tryd.prog.funcNamed "haulier/haulierlaw06.WordLines" = some 3 by kernel_rfl).symm.trans hf) |>.symm
      obtain rfl : fn = Tryd.f3 := (Option.some.inj (Tryd.func3.symm.trans hfn)).symm
      exact ⟨by kernel_rfl, fun j t ht => by
        rw [Tryd.params3] at ht
        have hm : t ∈ [9, 9] := by simpa using Array.mem_of_getElem? ht
        have hall : ([9, 9].all fun u => !Tryd.prog.wantsStandIn u) = true := by kernel_rfl
        exact (show Tryd.prog.wantsStandIn t = false by simpa using List.all_eq_true.1 hall t hm)⟩)
    (by kernel_rfl)
#print axioms proved
end Go.Proofs.YtohdcmahfnoofaaDoor.wordLines
