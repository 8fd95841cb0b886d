/- Print and Parse answer as the document says. Conditions: none (of more than sixty records, or a text of more than two thousand bytes, the law asks the example alone; the listed tables read as the program lays them, which the card ties to its text). -/
import Derived.Test.YtogcpoaclkomjaaDoorRows
import Derived.Test.YtogcpoaclkomjaaDoorTie
import Derived.Test.YtogcpoaclkomjaaDoorCards
import Derived.Test.YtogcpoaclkomjaaDoorWordRow
import Derived.Test.YtogcpoaclkomjaaDoorZ1
import Derived.Test.YtogcpoaclkomjaaDoorRecSame
import Derived.Test.YtogcpoaclkomjaaDoorTapeParse
import Derived.Test.YtogcpoaclkomjaaDoorTapeParseR
import Derived.Test.YtogcpoaclkomjaaDoorTapePrint
import Derived.Test.YtogcpoaclkomjaaDoorTapeAlive
import Derived.WalkKit
import Derived.WalkSmall
import Derived.WalkSpells
import Derived.ProofKit
import Derived.OpenShut
import Derived.ShutString
import Derived.ChangeOld
import Derived.Below
import Derived.Lib.Hide
import Derived.OwnWalk
import Derived.BigQuiet
import Derived.LaidMore
import Derived.Stop.Joined
import Derived.SevenTiedAt
namespace Go.Proofs.YtogcpoaclkomjaaDoor.tapeTexts
open Go.ChangeShapes Go.WideShapes Go.ChangeAt Go.RowKit
open Go.ChangeMaps (open_string shut_string)
set_option linter.unusedVariables false

theorem own : ownKnob Tryd.prog.godebug = none := by kernel_rfl
theorem laidOut : laidOutB Tryd.prog = true := by kernel_rfl
/-- The heap that the door's own run leaves meets the condition. -/
theorem door_met (os : Os) (args : Array Value) : laidMetH Tryd.prog Rows.tapeTextsRow.laid ((World.doorLaid Tryd.prog 400 os).forCall (fun _ _ => 0) ⟨#[], args, []⟩).memory :=
  laidMetH_of_parts3 (fuel := 8) (laidMet_of_run' 8 (by kernel_rfl) (by kernel_rfl)) (by kernel_rfl) (by kernel_rfl)

set_option maxRecDepth 100000 in
set_option maxHeartbeats 2000000 in
theorem walk (w : World) (hl : Laid6 w) (A0 : Option Addr) (c0 : Nat) (l0 : List Rc) (r0 : RdR w A0 l0) (z0 : A0 = none → c0 = 0) (s1 : ByteArray) (w1 : s1.size ≤ maxLen) :
    Calls Tryd.prog 4 #[.slice A0 l0.length c0, .string s1] w fun e w' => e = .returned (.bool true) ∧ Below w.heap.size w w' := by
  have C6 := fun W (h : Laid6 W) => alive10_any W h
  by_cases h60 : 60 < l0.length
  · have h60' : (60 : Int) < (l0.length : Int) := by omega
    have hd := decide_eq_true h60
    clear h60 w1 r0 z0
    go_enter Tryd.func4, Tryd.ntmps4
    go_wp2_with (go_at_call 6; (with_reducible refine (C6 _ hl).mono ?_); rintro e w5 ⟨rfl, hb5⟩)
    go_ret
    refine ⟨rfl, ?_⟩
    (repeat (first | assumption | exact Below.refl _ _ | (refine b_st ?_ (by first | (simp; done) | (simp; omega))) | (refine b_al ?_ (Nat.le_refl _) _) | refine b_dn ?_ | refine b_dr ?_ | (refine b_cl ?_ (Nat.le_refl _) (by assumption))))
  by_cases hlen : 2000 < s1.size
  · have h60' : (l0.length : Int) ≤ 60 := by omega
    have hd := decide_eq_false h60
    have hlen' : (2000 : Int) < (s1.size : Int) := by omega
    clear h60 hlen w1 r0 z0
    go_enter Tryd.func4, Tryd.ntmps4
    go_wp2_with (go_at_call 6; (with_reducible refine (C6 _ hl).mono ?_); rintro e w5 ⟨rfl, hb5⟩)
    go_ret
    refine ⟨rfl, ?_⟩
    (repeat (first | assumption | exact Below.refl _ _ | (refine b_st ?_ (by first | (simp; done) | (simp; omega))) | (refine b_al ?_ (Nat.le_refl _) _) | refine b_dn ?_ | refine b_dr ?_ | (refine b_cl ?_ (Nat.le_refl _) (by assumption))))
  have h60' : (l0.length : Int) ≤ 60 := by omega
  have hd := decide_eq_false h60
  have hlen' : (s1.size : Int) ≤ 2000 := by omega
  have HR := Lib.hid r0
  have C1 := fun W (h : Laid6 W) (hr : RdR W A0 l0) => print10_any A0 c0 l0 W h hr (by omega)
  have C2 := fun W (hr : RdR W A0 l0) => refprint10_any A0 c0 l0 W hr (by omega)
  have C3 : ∀ W, Laid6 W → Calls Tryd.prog 13 #[.string s1] W fun e w' => ∃ A c, e = .returned (.tuple #[.slice A (tapeV s1).1.length c, .int .i64 ((tapeV s1).2.1 : Nat), .int .i64 (tapeV s1).2.2]) ∧ RdR w' A (tapeV s1).1 ∧ Below W.heap.size W w' := fun W h => (parse10_any s1 W h (by omega)).mono fun e w' ⟨v, he, ho, hb⟩ => by
    obtain ⟨A, c, hv, hr, _⟩ := ho.read
    exact ⟨A, c, by rw [he, hv], hr, hb⟩
  have C4 : ∀ W, Calls Tryd.prog 14 #[.string s1] W fun e w' => ∃ A c, e = .returned (.tuple #[.slice A (tapeV s1).1.length c, .int .i64 ((tapeV s1).2.1 : Nat), .int .i64 (tapeV s1).2.2]) ∧ RdR w' A (tapeV s1).1 ∧ Below W.heap.size W w' := fun W => (refparse10_any s1 W (by omega)).mono fun e w' ⟨v, he, ho, hb⟩ => by
    obtain ⟨A, c, hv, hr, _⟩ := ho.read
    exact ⟨A, c, by rw [he, hv], hr, hb⟩
  have hm := tape_len s1
  generalize (tapeV s1).1 = L at C3 C4 hm
  generalize (tapeV s1).2.1 = pl at C3 C4
  generalize (tapeV s1).2.2 = er at C3 C4
  obtain ⟨m, hLm⟩ : ∃ m, L.length = m := ⟨_, rfl⟩
  rw [hLm] at C3 C4 hm
  have C5 : ∀ A B c d W, RdR W A L → RdR W B L → Calls Tryd.prog 15 #[.slice A m c, .slice B m d] W fun e w' => e = .returned (.bool true) ∧ Below W.heap.size W w' := fun A B c d W ha hb => by
    have := sameR_any A B c d m m L L W (Lib.hid hLm) (Lib.hid hLm) ha hb (by omega)
    rw [decide_eq_true (rfl : L = L)] at this
    exact this
  generalize (printV l0).1 = t1 at C1 C2
  generalize (printV l0).2 = e1 at C1 C2
  clear h60 hlen w1 r0 z0 hLm
  go_enter Tryd.func4, Tryd.ntmps4
  go_wp2_with (first
    | (go_at_call 11; (with_reducible refine (C1 _ hl HR.out).mono ?_); rintro e w1 ⟨rfl, hb1⟩; have L1 := hl.below hb1; have R1 := Lib.hid (HR.out.below hb1))
    | (go_at_call 12; (with_reducible refine (C2 _ R1.out).mono ?_); rintro e w2 ⟨rfl, hb2⟩; have L2 := L1.below hb2)
    | (go_at_call 13; (with_reducible refine (C3 _ L2).mono ?_); rintro e w3 ⟨A3, c3, rfl, hr3, hb3⟩; have L3 := L2.below hb3; have R3 := Lib.hid hr3; clear hr3)
    | (go_at_call 14; (with_reducible refine (C4 _).mono ?_); rintro e w4 ⟨A4, c4, rfl, hr4, hb4⟩; have L4 := L3.below hb4; have R4 := Lib.hid hr4; have R34 := Lib.hid (R3.out.below hb4); clear hr4)
    | (go_at_call 15; (with_reducible refine (C5 _ _ _ _ _ R34.out R4.out).mono ?_); rintro e w5 ⟨rfl, hb5⟩; have L5 := L4.below hb5)
    | (go_at_call 6; (with_reducible refine (C6 _ L5).mono ?_); rintro e w6 ⟨rfl, hb6⟩))
  go_ret
  refine ⟨rfl, ?_⟩
  (repeat (first | assumption | exact Below.refl _ _ | (refine b_st ?_ (by first | (simp; done) | (simp; omega))) | (refine b_al ?_ (Nat.le_refl _) _) | refine b_dn ?_ | refine b_dr ?_ | (refine b_cl ?_ (Nat.le_refl _) (by assumption))))

set_option maxRecDepth 100000 in
theorem lifted (os : Os) (started : os.Started) (H : Type) (enc : TypeId × Value → H) :
    ReturnsInHanded {} Tryd.checked os 4 .any (fun w args => (Rows.tapeTextsSpec.pre enc Tryd.prog Tryd.f4 [] false w args ∧ laidMetH Tryd.prog Rows.tapeTextsRow.laid w) ∧ sizedMet enc Tryd.prog Tryd.f4 (OpenSpec.ofChange Rows.tapeTextsSpec) false w args)
      (Rows.tapeTextsSpec.post enc Tryd.prog Tryd.f4 false true false false) := by
  refine returns_laid (C := Tryd.checked) (X := fun w _ => laidMetH Tryd.prog Rows.tapeTextsRow.laid w) (fun _ _ _ hh h => h.of_heap hh) own started (by kernel_rfl) Tryd.func4
    (ChangeSpec.witness_shaped (enc := enc) (C := Tryd.checked) (os := os) (X := fun w _ => laidMetH Tryd.prog Rows.tapeTextsRow.laid w) false (World.doorLaid Tryd.prog 400 os) #[.slice none 0 0, .string ⟨#[]⟩] 8 rfl (World.shaped_of_RefB (by kernel_rfl) (by kernel_rfl)) (by kernel_rfl) (by kernel_rfl) (by kernel_rfl) (door_met os _)) ?_
  intro W base args ds gs before hsh hval0 hW hL
  have hval : ∀ (j : Nat) t v, Tryd.f4.params[j]? = some t → args[j]? = some v → Value.okWide Tryd.prog W .any base t v := hval0
  have hW' := hW
  obtain ⟨p, q, hA0, hV, rfl, hfz, hnd⟩ := hW
  have hA : DataW.TrodAll enc Tryd.prog W 0 (fun _ => true) true Tryd.f4.params.toList args.toList ds p := hA0
  rw [Tryd.params4] at hA hval
  obtain ⟨v0, vs0, d0, ds0, p0, q0, hargs, rfl, rfl, h0, r0⟩ := trodAll_cons hA
  obtain ⟨v1, vs1, d1, ds1, p1, q1, rfl, rfl, rfl, h1, r1⟩ := trodAll_cons r0
  obtain ⟨rfl, rfl, rfl⟩ := trodAll_nil r1
  obtain rfl : args = #[v0, v1] := by cases args; simp_all
  obtain ⟨rfl, rfl⟩ := trodVars_none hV
  have k0 := h0
  have lt0 : ∀ x ∈ p0, x.block < W.heap.size := by obtain ⟨m, hm⟩ := k0; exact DataW.trod_lt m _ _ _ hm
  obtain ⟨A0, n0, c0, l0, rfl, rfl, rd0, zz0⟩ := open_recs (hval 0 31 v0 rfl rfl) h0
  obtain ⟨s1, rfl, rfl, rfl, w1⟩ := open_string Tryd.underlying9 (hval 1 9 v1 rfl rfl) h1
  clear hA0 hval0
  simp only [List.append_nil] at hW'
  refine (walk W (laid6_of hsh hL (by kernel_rfl) (by simp [Rows.tapeTextsRow]) (by simp [Rows.tapeTextsRow])) A0 c0 l0 rd0 zz0 s1 w1).mono fun e W' ⟨he, bel⟩ => ?_
  subst he
  exact ⟨_, rfl, _, _, _, [], _, [], hW', trodAll_mk1 (shut_bool Tryd.underlying4 _), (trodAll_cons_mk (Below.trod laidOut (by kernel_rfl) (of_decide_eq_true (by kernel_rfl)) k0 bel lt0) (trodAll_cons_mk (shut_string Tryd.underlying9 w1) trodAll_mk0)), rfl, bel.frame _, fun h => by cases h⟩

theorem over : Rows.TapeTextsSaid :=
  OpenClaim.holds_of_wide 4 Tryd.f4 rfl rfl rfl rfl rfl rfl rfl ⟨rfl, rfl, rfl, rfl, rfl⟩ rfl rfl rfl rfl rfl (by kernel_rfl) Tryd.func4 (by kernel_rfl)
    (of_decide_eq_true (by kernel_rfl)) (by unfold Func.isWrapper; first | (rw [if_pos (by decide +kernel)]; kernel_rfl) | (rw [if_neg (by decide +kernel)]; exact ⟨rfl, rfl⟩))
    (fun os started H enc _ => lifted os started H enc)

theorem proved : Rows.TapeTextsCardSaid :=
  Claim7.holds_tied_plain_at .later [] _ true _ _ over (fun _ h => by cases h) (by kernel_rfl) (fun _ h => by cases h) tapeTexts_row_tie rfl ⟨rfl, rfl⟩ (by kernel_rfl) rfl
    (fun f fn hf hfn => by
      obtain rfl : f = 4 := Option.some.inj ((show Tryd.prog.funcNamed "haulier/haulierlaw10.TapeTexts" = some 4 by kernel_rfl).symm.trans hf) |>.symm
      obtain rfl : fn = Tryd.f4 := (Option.some.inj (Tryd.func4.symm.trans hfn)).symm
      exact ⟨by kernel_rfl, fun j t ht => by
        rw [Tryd.params4] at ht
        have hm : t ∈ [31, 9] := by simpa using Array.mem_of_getElem? ht
        have hall : ([31, 9].all fun u => !Tryd.prog.wantsStandIn u) = true := by kernel_rfl
        exact (show Tryd.prog.wantsStandIn t = false by simpa using List.all_eq_true.1 hall t hm)⟩)
    (by kernel_rfl)
#print axioms proved
end Go.Proofs.YtogcpoaclkomjaaDoor.tapeTexts
