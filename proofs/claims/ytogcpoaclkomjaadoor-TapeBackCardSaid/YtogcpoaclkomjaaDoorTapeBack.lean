/- A timeline's text is parsed as it; what is parsed is printed as it was. Conditions: none (of more than sixty records, or a text of more than two thousand bytes, the law asks the example alone; the listed tables read as the program lays them, which the card ties to its text). -/
import Derived.Test.YtogcpoaclkomjaaDoorRows
import Derived.Test.YtogcpoaclkomjaaDoorTie
import Derived.Test.YtogcpoaclkomjaaDoorCards
import Derived.Test.YtogcpoaclkomjaaDoorWordRow
import Derived.Test.YtogcpoaclkomjaaDoorZ1
import Derived.Test.YtogcpoaclkomjaaDoorRecSame
import Derived.Test.YtogcpoaclkomjaaDoorTapeParse
import Derived.Test.YtogcpoaclkomjaaDoorTapePrint
import Derived.Test.YtogcpoaclkomjaaDoorTapeAlive
import Derived.WalkKit
import Derived.WalkSmall
import Derived.WalkSpells
import Derived.ProofKit
import Derived.OpenShut
import Derived.ShutString
import Derived.ChangeOld
import Derived.Below
import Derived.Lib.Hide
import Derived.OwnWalk
import Derived.BigQuiet
import Derived.LaidMore
import Derived.Stop.Joined
import Derived.SevenTiedAt
namespace Go.Proofs.YtogcpoaclkomjaaDoor.tapeBack
open Go.ChangeShapes Go.WideShapes Go.ChangeAt Go.RowKit
open Go.ChangeMaps (open_string shut_string)
set_option linter.unusedVariables false

theorem own : ownKnob Tryd.prog.godebug = none := by kernel_rfl
theorem laidOut : laidOutB Tryd.prog = true := by kernel_rfl
/-- The heap that the door's own run leaves meets the condition. -/
theorem door_met (os : Os) (args : Array Value) : laidMetH Tryd.prog Rows.tapeBackRow.laid ((World.doorLaid Tryd.prog 400 os).forCall (fun _ _ => 0) ⟨#[], args, []⟩).memory :=
  laidMetH_of_parts3 (fuel := 8) (laidMet_of_run' 8 (by kernel_rfl) (by kernel_rfl)) (by kernel_rfl) (by kernel_rfl)

set_option maxRecDepth 100000 in
set_option maxHeartbeats 2000000 in
theorem wayYY (w : World) (hl : Laid6 w) (A0 : Option Addr) (c0 : Nat) (l0 : List Rc) (r0 : RdR w A0 l0) (s1 : ByteArray) (h60 : ¬ 60 < l0.length) (hlen : ¬ 2000 < s1.size) (h1 : (checkV l0).2 = 0) (h2 : (tapeV s1).2.2 = 0) :
    Calls Tryd.prog 5 #[.slice A0 l0.length c0, .string s1] w fun e w' => e = .returned (.bool true) ∧ Below w.heap.size w w' := by
  have C6 := fun W (h : Laid6 W) => alive10_any W h
  have h60' : (l0.length : Int) ≤ 60 := by omega
  have hd := decide_eq_false h60
  have hlen' : (s1.size : Int) ≤ 2000 := by omega
  have HR := Lib.hid r0
  have C1 := fun W (h : Laid6 W) (hr : RdR W A0 l0) => print10_any A0 c0 l0 W h hr (by omega)
  have C3 : ∀ W, Laid6 W → Calls Tryd.prog 13 #[.string s1] W fun e w' => ∃ A c, e = .returned (.tuple #[.slice A (tapeV s1).1.length c, .int .i64 ((tapeV s1).2.1 : Nat), .int .i64 (tapeV s1).2.2]) ∧ RdR w' A (tapeV s1).1 ∧ Below W.heap.size W w' := fun W h => (parse10_any s1 W h (by omega)).mono fun e w' ⟨v, he, ho, hb⟩ => by
    obtain ⟨A, c, hv, hr, _⟩ := ho.read
    exact ⟨A, c, by rw [he, hv], hr, hb⟩
  obtain ⟨n, hn⟩ : ∃ n, l0.length = n := ⟨_, rfl⟩
  rw [print_ok h1] at C1
  have hz := take_le h1 l0.length
  rw [List.take_of_length_le (Nat.le_refl _)] at hz
  have C2 : ∀ W, Laid6 W → Calls Tryd.prog 13 #[.string ⟨(textL l0).toArray⟩] W fun e w' => ∃ A c, e = .returned (.tuple #[.slice A n c, .int .i64 0, .int .i64 0]) ∧ RdR w' A l0 ∧ Below W.heap.size W w' := fun W h => by
    have := parse10_any ⟨(textL l0).toArray⟩ W h (by show (textL l0).toArray.size ≤ _; rw [List.size_toArray]; omega)
    rw [parse_print h1] at this
    refine this.mono fun e w' ⟨v, he, ho, hb⟩ => ?_
    obtain ⟨A, c, hv, hr, _⟩ := ho.read
    exact ⟨A, c, by rw [he, hv, hn]; rfl, hr, hb⟩
  have C5 : ∀ A c d W, RdR W A l0 → RdR W A0 l0 → Calls Tryd.prog 15 #[.slice A n c, .slice A0 n d] W fun e w' => e = .returned (.bool true) ∧ Below W.heap.size W w' := fun A c d W ha hb => by
    have := sameR_any A A0 c d n n l0 l0 W (Lib.hid hn) (Lib.hid hn) ha hb (by omega)
    rw [decide_eq_true (rfl : l0 = l0)] at this
    exact this
  generalize (⟨(textL l0).toArray⟩ : ByteArray) = t1 at C1 C2
  clear hz
  have hm := tape_len s1
  have C4 : ∀ A c W, Laid6 W → RdR W A (tapeV s1).1 → Calls Tryd.prog 11 #[.slice A (tapeV s1).1.length c] W fun e w' => e = .returned (.tuple #[.string s1, .int .i64 0]) ∧ Below W.heap.size W w' := fun A c W h hr => by
    have := print10_any A c (tapeV s1).1 W h hr (by omega)
    rw [print_parse h2] at this
    exact this
  rw [h2] at C3
  generalize (tapeV s1).1 = L at C3 C4
  generalize (tapeV s1).2.1 = pl at C3
  generalize L.length = m at C3 C4
  rw [hn] at C1 h60' hd ⊢
  clear h60 hlen h1 h2 r0 hn
  go_enter Tryd.func5, Tryd.ntmps5
  go_wp2_with (first
    | (go_at_call 11; (with_reducible refine (C1 _ hl HR.out).mono ?_); rintro e w1 ⟨rfl, hb1⟩; have L1 := hl.below hb1; have R1 := Lib.hid (HR.out.below hb1))
    | (go_at_call 13; (with_reducible refine (C2 _ L1).mono ?_); rintro e w2 ⟨A2, c2, rfl, hr2, hb2⟩; have L2 := L1.below hb2; have R2 := Lib.hid hr2; have R12 := Lib.hid (R1.out.below hb2); clear hr2)
    | (go_at_call 15; (with_reducible refine (C5 _ _ _ _ R2.out R12.out).mono ?_); rintro e w3 ⟨rfl, hb3⟩; have L3 := L2.below hb3)
    | (go_at_call 13; (with_reducible refine (C3 _ L3).mono ?_); rintro e w4 ⟨A4, c4, rfl, hr4, hb4⟩; have L4 := L3.below hb4; have R4 := Lib.hid hr4; clear hr4)
    | (go_at_call 11; (with_reducible refine (C4 _ _ _ L4 R4.out).mono ?_); rintro e w5 ⟨rfl, hb5⟩; have L5 := L4.below hb5)
    | (go_at_call 6; (with_reducible refine (C6 _ L5).mono ?_); rintro e w6 ⟨rfl, hb6⟩))
  go_ret
  refine ⟨rfl, ?_⟩
  (repeat (first | assumption | exact Below.refl _ _ | (refine b_st ?_ (by first | (simp; done) | (simp; omega))) | (refine b_al ?_ (Nat.le_refl _) _) | refine b_dn ?_ | refine b_dr ?_ | (refine b_cl ?_ (Nat.le_refl _) (by assumption))))

set_option maxRecDepth 100000 in
set_option maxHeartbeats 2000000 in
theorem wayYN (w : World) (hl : Laid6 w) (A0 : Option Addr) (c0 : Nat) (l0 : List Rc) (r0 : RdR w A0 l0) (s1 : ByteArray) (h60 : ¬ 60 < l0.length) (hlen : ¬ 2000 < s1.size) (h1 : (checkV l0).2 = 0) (h2 : (tapeV s1).2.2 ≠ 0) :
    Calls Tryd.prog 5 #[.slice A0 l0.length c0, .string s1] w fun e w' => e = .returned (.bool true) ∧ Below w.heap.size w w' := by
  have C6 := fun W (h : Laid6 W) => alive10_any W h
  have h60' : (l0.length : Int) ≤ 60 := by omega
  have hd := decide_eq_false h60
  have hlen' : (s1.size : Int) ≤ 2000 := by omega
  have HR := Lib.hid r0
  have C1 := fun W (h : Laid6 W) (hr : RdR W A0 l0) => print10_any A0 c0 l0 W h hr (by omega)
  have C3 : ∀ W, Laid6 W → Calls Tryd.prog 13 #[.string s1] W fun e w' => ∃ A c, e = .returned (.tuple #[.slice A (tapeV s1).1.length c, .int .i64 ((tapeV s1).2.1 : Nat), .int .i64 (tapeV s1).2.2]) ∧ RdR w' A (tapeV s1).1 ∧ Below W.heap.size W w' := fun W h => (parse10_any s1 W h (by omega)).mono fun e w' ⟨v, he, ho, hb⟩ => by
    obtain ⟨A, c, hv, hr, _⟩ := ho.read
    exact ⟨A, c, by rw [he, hv], hr, hb⟩
  obtain ⟨n, hn⟩ : ∃ n, l0.length = n := ⟨_, rfl⟩
  rw [print_ok h1] at C1
  have hz := take_le h1 l0.length
  rw [List.take_of_length_le (Nat.le_refl _)] at hz
  have C2 : ∀ W, Laid6 W → Calls Tryd.prog 13 #[.string ⟨(textL l0).toArray⟩] W fun e w' => ∃ A c, e = .returned (.tuple #[.slice A n c, .int .i64 0, .int .i64 0]) ∧ RdR w' A l0 ∧ Below W.heap.size W w' := fun W h => by
    have := parse10_any ⟨(textL l0).toArray⟩ W h (by show (textL l0).toArray.size ≤ _; rw [List.size_toArray]; omega)
    rw [parse_print h1] at this
    refine this.mono fun e w' ⟨v, he, ho, hb⟩ => ?_
    obtain ⟨A, c, hv, hr, _⟩ := ho.read
    exact ⟨A, c, by rw [he, hv, hn]; rfl, hr, hb⟩
  have C5 : ∀ A c d W, RdR W A l0 → RdR W A0 l0 → Calls Tryd.prog 15 #[.slice A n c, .slice A0 n d] W fun e w' => e = .returned (.bool true) ∧ Below W.heap.size W w' := fun A c d W ha hb => by
    have := sameR_any A A0 c d n n l0 l0 W (Lib.hid hn) (Lib.hid hn) ha hb (by omega)
    rw [decide_eq_true (rfl : l0 = l0)] at this
    exact this
  generalize (⟨(textL l0).toArray⟩ : ByteArray) = t1 at C1 C2
  clear hz
  rw [tape_none h2] at C3
  have h2' : ((tapeV s1).2.2 != 0) = true := by simpa using h2
  generalize (tapeV s1).2.1 = pl at C3
  generalize (tapeV s1).2.2 = e2 at C3 h2'
  rw [hn] at C1 h60' hd ⊢
  clear h60 hlen h1 h2 r0 hn
  go_enter Tryd.func5, Tryd.ntmps5
  go_wp2_with (first
    | (go_at_call 11; (with_reducible refine (C1 _ hl HR.out).mono ?_); rintro e w1 ⟨rfl, hb1⟩; have L1 := hl.below hb1; have R1 := Lib.hid (HR.out.below hb1))
    | (go_at_call 13; (with_reducible refine (C2 _ L1).mono ?_); rintro e w2 ⟨A2, c2, rfl, hr2, hb2⟩; have L2 := L1.below hb2; have R2 := Lib.hid hr2; have R12 := Lib.hid (R1.out.below hb2); clear hr2)
    | (go_at_call 15; (with_reducible refine (C5 _ _ _ _ R2.out R12.out).mono ?_); rintro e w3 ⟨rfl, hb3⟩; have L3 := L2.below hb3)
    | (go_at_call 13; (with_reducible refine (C3 _ L3).mono ?_); rintro e w4 ⟨A4, c4, rfl, hr4, hb4⟩; have L4 := L3.below hb4; have R4 := Lib.hid hr4; clear hr4)
    | (go_at_call 6; (with_reducible refine (C6 _ L4).mono ?_); rintro e w6 ⟨rfl, hb6⟩))
  go_ret
  refine ⟨rfl, ?_⟩
  (repeat (first | assumption | exact Below.refl _ _ | (refine b_st ?_ (by first | (simp; done) | (simp; omega))) | (refine b_al ?_ (Nat.le_refl _) _) | refine b_dn ?_ | refine b_dr ?_ | (refine b_cl ?_ (Nat.le_refl _) (by assumption))))

set_option maxRecDepth 100000 in
set_option maxHeartbeats 2000000 in
theorem wayNY (w : World) (hl : Laid6 w) (A0 : Option Addr) (c0 : Nat) (l0 : List Rc) (r0 : RdR w A0 l0) (s1 : ByteArray) (h60 : ¬ 60 < l0.length) (hlen : ¬ 2000 < s1.size) (h1 : (checkV l0).2 ≠ 0) (h2 : (tapeV s1).2.2 = 0) :
    Calls Tryd.prog 5 #[.slice A0 l0.length c0, .string s1] w fun e w' => e = .returned (.bool true) ∧ Below w.heap.size w w' := by
  have C6 := fun W (h : Laid6 W) => alive10_any W h
  have h60' : (l0.length : Int) ≤ 60 := by omega
  have hd := decide_eq_false h60
  have hlen' : (s1.size : Int) ≤ 2000 := by omega
  have HR := Lib.hid r0
  have C1 := fun W (h : Laid6 W) (hr : RdR W A0 l0) => print10_any A0 c0 l0 W h hr (by omega)
  have C3 : ∀ W, Laid6 W → Calls Tryd.prog 13 #[.string s1] W fun e w' => ∃ A c, e = .returned (.tuple #[.slice A (tapeV s1).1.length c, .int .i64 ((tapeV s1).2.1 : Nat), .int .i64 (tapeV s1).2.2]) ∧ RdR w' A (tapeV s1).1 ∧ Below W.heap.size W w' := fun W h => (parse10_any s1 W h (by omega)).mono fun e w' ⟨v, he, ho, hb⟩ => by
    obtain ⟨A, c, hv, hr, _⟩ := ho.read
    exact ⟨A, c, by rw [he, hv], hr, hb⟩
  obtain ⟨n, hn⟩ : ∃ n, l0.length = n := ⟨_, rfl⟩
  rw [print_bad h1] at C1
  have h1' : ((checkV l0).2 == 0) = false := by simpa using h1
  generalize (checkV l0).2 = e1 at C1 h1'
  have hm := tape_len s1
  have C4 : ∀ A c W, Laid6 W → RdR W A (tapeV s1).1 → Calls Tryd.prog 11 #[.slice A (tapeV s1).1.length c] W fun e w' => e = .returned (.tuple #[.string s1, .int .i64 0]) ∧ Below W.heap.size W w' := fun A c W h hr => by
    have := print10_any A c (tapeV s1).1 W h hr (by omega)
    rw [print_parse h2] at this
    exact this
  rw [h2] at C3
  generalize (tapeV s1).1 = L at C3 C4
  generalize (tapeV s1).2.1 = pl at C3
  generalize L.length = m at C3 C4
  rw [hn] at C1 h60' hd ⊢
  clear h60 hlen h1 h2 r0 hn
  go_enter Tryd.func5, Tryd.ntmps5
  go_wp2_with (first
    | (go_at_call 11; (with_reducible refine (C1 _ hl HR.out).mono ?_); rintro e w1 ⟨rfl, hb1⟩; have L1 := hl.below hb1; have R1 := Lib.hid (HR.out.below hb1))
    | (go_at_call 13; (with_reducible refine (C3 _ L1).mono ?_); rintro e w4 ⟨A4, c4, rfl, hr4, hb4⟩; have L4 := L1.below hb4; have R4 := Lib.hid hr4; clear hr4)
    | (go_at_call 11; (with_reducible refine (C4 _ _ _ L4 R4.out).mono ?_); rintro e w5 ⟨rfl, hb5⟩; have L5 := L4.below hb5)
    | (go_at_call 6; (with_reducible refine (C6 _ L5).mono ?_); rintro e w6 ⟨rfl, hb6⟩))
  go_ret
  refine ⟨rfl, ?_⟩
  (repeat (first | assumption | exact Below.refl _ _ | (refine b_st ?_ (by first | (simp; done) | (simp; omega))) | (refine b_al ?_ (Nat.le_refl _) _) | refine b_dn ?_ | refine b_dr ?_ | (refine b_cl ?_ (Nat.le_refl _) (by assumption))))

set_option maxRecDepth 100000 in
set_option maxHeartbeats 2000000 in
theorem wayNN (w : World) (hl : Laid6 w) (A0 : Option Addr) (c0 : Nat) (l0 : List Rc) (r0 : RdR w A0 l0) (s1 : ByteArray) (h60 : ¬ 60 < l0.length) (hlen : ¬ 2000 < s1.size) (h1 : (checkV l0).2 ≠ 0) (h2 : (tapeV s1).2.2 ≠ 0) :
    Calls Tryd.prog 5 #[.slice A0 l0.length c0, .string s1] w fun e w' => e = .returned (.bool true) ∧ Below w.heap.size w w' := by
  have C6 := fun W (h : Laid6 W) => alive10_any W h
  have h60' : (l0.length : Int) ≤ 60 := by omega
  have hd := decide_eq_false h60
  have hlen' : (s1.size : Int) ≤ 2000 := by omega
  have HR := Lib.hid r0
  have C1 := fun W (h : Laid6 W) (hr : RdR W A0 l0) => print10_any A0 c0 l0 W h hr (by omega)
  have C3 : ∀ W, Laid6 W → Calls Tryd.prog 13 #[.string s1] W fun e w' => ∃ A c, e = .returned (.tuple #[.slice A (tapeV s1).1.length c, .int .i64 ((tapeV s1).2.1 : Nat), .int .i64 (tapeV s1).2.2]) ∧ RdR w' A (tapeV s1).1 ∧ Below W.heap.size W w' := fun W h => (parse10_any s1 W h (by omega)).mono fun e w' ⟨v, he, ho, hb⟩ => by
    obtain ⟨A, c, hv, hr, _⟩ := ho.read
    exact ⟨A, c, by rw [he, hv], hr, hb⟩
  obtain ⟨n, hn⟩ : ∃ n, l0.length = n := ⟨_, rfl⟩
  rw [print_bad h1] at C1
  have h1' : ((checkV l0).2 == 0) = false := by simpa using h1
  generalize (checkV l0).2 = e1 at C1 h1'
  rw [tape_none h2] at C3
  have h2' : ((tapeV s1).2.2 != 0) = true := by simpa using h2
  generalize (tapeV s1).2.1 = pl at C3
  generalize (tapeV s1).2.2 = e2 at C3 h2'
  rw [hn] at C1 h60' hd ⊢
  clear h60 hlen h1 h2 r0 hn
  go_enter Tryd.func5, Tryd.ntmps5
  go_wp2_with (first
    | (go_at_call 11; (with_reducible refine (C1 _ hl HR.out).mono ?_); rintro e w1 ⟨rfl, hb1⟩; have L1 := hl.below hb1; have R1 := Lib.hid (HR.out.below hb1))
    | (go_at_call 13; (with_reducible refine (C3 _ L1).mono ?_); rintro e w4 ⟨A4, c4, rfl, hr4, hb4⟩; have L4 := L1.below hb4; have R4 := Lib.hid hr4; clear hr4)
    | (go_at_call 6; (with_reducible refine (C6 _ L4).mono ?_); rintro e w6 ⟨rfl, hb6⟩))
  go_ret
  refine ⟨rfl, ?_⟩
  (repeat (first | assumption | exact Below.refl _ _ | (refine b_st ?_ (by first | (simp; done) | (simp; omega))) | (refine b_al ?_ (Nat.le_refl _) _) | refine b_dn ?_ | refine b_dr ?_ | (refine b_cl ?_ (Nat.le_refl _) (by assumption))))

set_option maxRecDepth 100000 in
set_option maxHeartbeats 2000000 in
theorem walk (w : World) (hl : Laid6 w) (A0 : Option Addr) (c0 : Nat) (l0 : List Rc) (r0 : RdR w A0 l0) (z0 : A0 = none → c0 = 0) (s1 : ByteArray) (w1 : s1.size ≤ maxLen) :
    Calls Tryd.prog 5 #[.slice A0 l0.length c0, .string s1] w fun e w' => e = .returned (.bool true) ∧ Below w.heap.size w w' := by
  have C6 := fun W (h : Laid6 W) => alive10_any W h
  by_cases h60 : 60 < l0.length
  · have h60' : (60 : Int) < (l0.length : Int) := by omega
    have hd := decide_eq_true h60
    clear h60 w1 r0 z0
    go_enter Tryd.func5, Tryd.ntmps5
    go_wp2_with (go_at_call 6; (with_reducible refine (C6 _ hl).mono ?_); rintro e w5 ⟨rfl, hb5⟩)
    go_ret
    refine ⟨rfl, ?_⟩
    (repeat (first | assumption | exact Below.refl _ _ | (refine b_st ?_ (by first | (simp; done) | (simp; omega))) | (refine b_al ?_ (Nat.le_refl _) _) | refine b_dn ?_ | refine b_dr ?_ | (refine b_cl ?_ (Nat.le_refl _) (by assumption))))
  by_cases hlen : 2000 < s1.size
  · have h60' : (l0.length : Int) ≤ 60 := by omega
    have hd := decide_eq_false h60
    have hlen' : (2000 : Int) < (s1.size : Int) := by omega
    clear h60 hlen w1 r0 z0
    go_enter Tryd.func5, Tryd.ntmps5
    go_wp2_with (go_at_call 6; (with_reducible refine (C6 _ hl).mono ?_); rintro e w5 ⟨rfl, hb5⟩)
    go_ret
    refine ⟨rfl, ?_⟩
    (repeat (first | assumption | exact Below.refl _ _ | (refine b_st ?_ (by first | (simp; done) | (simp; omega))) | (refine b_al ?_ (Nat.le_refl _) _) | refine b_dn ?_ | refine b_dr ?_ | (refine b_cl ?_ (Nat.le_refl _) (by assumption))))
  have h60' : (l0.length : Int) ≤ 60 := by omega
  have hd := decide_eq_false h60
  have hlen' : (s1.size : Int) ≤ 2000 := by omega
  by_cases h1 : (checkV l0).2 = 0
  · by_cases h2 : (tapeV s1).2.2 = 0
    · exact wayYY w hl A0 c0 l0 r0 s1 h60 hlen h1 h2
    · exact wayYN w hl A0 c0 l0 r0 s1 h60 hlen h1 h2
  · by_cases h2 : (tapeV s1).2.2 = 0
    · exact wayNY w hl A0 c0 l0 r0 s1 h60 hlen h1 h2
    · exact wayNN w hl A0 c0 l0 r0 s1 h60 hlen h1 h2

set_option maxRecDepth 100000 in
theorem lifted (os : Os) (started : os.Started) (H : Type) (enc : TypeId × Value → H) :
    ReturnsInHanded {} Tryd.checked os 5 .any (fun w args => (Rows.tapeBackSpec.pre enc Tryd.prog Tryd.f5 [] false w args ∧ laidMetH Tryd.prog Rows.tapeBackRow.laid w) ∧ sizedMet enc Tryd.prog Tryd.f5 (OpenSpec.ofChange Rows.tapeBackSpec) false w args)
      (Rows.tapeBackSpec.post enc Tryd.prog Tryd.f5 false true false false) := by
  refine returns_laid (C := Tryd.checked) (X := fun w _ => laidMetH Tryd.prog Rows.tapeBackRow.laid w) (fun _ _ _ hh h => h.of_heap hh) own started (by kernel_rfl) Tryd.func5
    (ChangeSpec.witness_shaped (enc := enc) (C := Tryd.checked) (os := os) (X := fun w _ => laidMetH Tryd.prog Rows.tapeBackRow.laid w) false (World.doorLaid Tryd.prog 400 os) #[.slice none 0 0, .string ⟨#[]⟩] 8 rfl (World.shaped_of_RefB (by kernel_rfl) (by kernel_rfl)) (by kernel_rfl) (by kernel_rfl) (by kernel_rfl) (door_met os _)) ?_
  intro W base args ds gs before hsh hval0 hW hL
  have hval : ∀ (j : Nat) t v, Tryd.f5.params[j]? = some t → args[j]? = some v → Value.okWide Tryd.prog W .any base t v := hval0
  have hW' := hW
  obtain ⟨p, q, hA0, hV, rfl, hfz, hnd⟩ := hW
  have hA : DataW.TrodAll enc Tryd.prog W 0 (fun _ => true) true Tryd.f5.params.toList args.toList ds p := hA0
  rw [Tryd.params5] at hA hval
  obtain ⟨v0, vs0, d0, ds0, p0, q0, hargs, rfl, rfl, h0, r0⟩ := trodAll_cons hA
  obtain ⟨v1, vs1, d1, ds1, p1, q1, rfl, rfl, rfl, h1, r1⟩ := trodAll_cons r0
  obtain ⟨rfl, rfl, rfl⟩ := trodAll_nil r1
  obtain rfl : args = #[v0, v1] := by cases args; simp_all
  obtain ⟨rfl, rfl⟩ := trodVars_none hV
  have k0 := h0
  have lt0 : ∀ x ∈ p0, x.block < W.heap.size := by obtain ⟨m, hm⟩ := k0; exact DataW.trod_lt m _ _ _ hm
  obtain ⟨A0, n0, c0, l0, rfl, rfl, rd0, zz0⟩ := open_recs (hval 0 31 v0 rfl rfl) h0
  obtain ⟨s1, rfl, rfl, rfl, w1⟩ := open_string Tryd.underlying9 (hval 1 9 v1 rfl rfl) h1
  clear hA0 hval0
  simp only [List.append_nil] at hW'
  refine (walk W (laid6_of hsh hL (by kernel_rfl) (by simp [Rows.tapeBackRow]) (by simp [Rows.tapeBackRow])) A0 c0 l0 rd0 zz0 s1 w1).mono fun e W' ⟨he, bel⟩ => ?_
  subst he
  exact ⟨_, rfl, _, _, _, [], _, [], hW', trodAll_mk1 (shut_bool Tryd.underlying4 _), (trodAll_cons_mk (Below.trod laidOut (by kernel_rfl) (of_decide_eq_true (by kernel_rfl)) k0 bel lt0) (trodAll_cons_mk (shut_string Tryd.underlying9 w1) trodAll_mk0)), rfl, bel.frame _, fun h => by cases h⟩

theorem over : Rows.TapeBackSaid :=
  OpenClaim.holds_of_wide 5 Tryd.f5 rfl rfl rfl rfl rfl rfl rfl ⟨rfl, rfl, rfl, rfl, rfl⟩ rfl rfl rfl rfl rfl (by kernel_rfl) Tryd.func5 (by kernel_rfl)
    (of_decide_eq_true (by kernel_rfl)) (by unfold Func.isWrapper; first | (rw [if_pos (by decide +kernel)]; kernel_rfl) | (rw [if_neg (by decide +kernel)]; exact ⟨rfl, rfl⟩))
    (fun os started H enc _ => lifted os started H enc)

theorem proved : Rows.TapeBackCardSaid :=
  Claim7.holds_tied_plain_at .later [] _ true _ _ over (fun _ h => by cases h) (by kernel_rfl) (fun _ h => by cases h) tapeBack_row_tie rfl ⟨rfl, rfl⟩ (by kernel_rfl) rfl
    (fun f fn hf hfn => by
      obtain rfl : f = 5 := Option.some.inj ((show Tryd.prog.funcNamed "haulier/haulierlaw10.TapeBack" = some 5 by kernel_rfl).symm.trans hf) |>.symm
      obtain rfl : fn = Tryd.f5 := (Option.some.inj (Tryd.func5.symm.trans hfn)).symm
      exact ⟨by kernel_rfl, fun j t ht => by
        rw [Tryd.params5] at ht
        have hm : t ∈ [31, 9] := by simpa using Array.mem_of_getElem? ht
        have hall : ([31, 9].all fun u => !Tryd.prog.wantsStandIn u) = true := by kernel_rfl
        exact (show Tryd.prog.wantsStandIn t = false by simpa using List.all_eq_true.1 hall t hm)⟩)
    (by kernel_rfl)
#print axioms proved
end Go.Proofs.YtogcpoaclkomjaaDoor.tapeBack
