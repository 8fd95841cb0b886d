/- ClauseNames of layer 15 answers true at every input: the name and the article of any number, the clause of any name, and the clauses of any set, are as the document says. Conditions: none beyond the row's own. -/
import Derived.Test.YtdepglceffpfhaaDoorRows
import Derived.Test.YtdepglceffpfhaaDoorTie
import Derived.Test.YtdepglceffpfhaaDoorCards
import Derived.Test.YtdepglceffpfhaaDoorWordRow
import Derived.Test.YtdepglceffpfhaaDoorClauseRow
import Derived.Test.YtdepglceffpfhaaDoorClauseSet
import Derived.Test.YtdepglceffpfhaaDoorClauseFind
import Derived.Test.YtdepglceffpfhaaDoorClauseRLine
import Derived.Test.YtdepglceffpfhaaDoorClauseAlive
import Derived.Test.YtdepglceffpfhaaDoorIntsSame
import Derived.WalkKit
import Derived.WalkSmall
import Derived.WalkSpells
import Derived.ProofKit
import Derived.OpenShut
import Derived.ShutString
import Derived.ChangeOld
import Derived.Below
import Derived.Lib.Hide
import Derived.OwnWalk
import Derived.BigQuiet
import Derived.LaidMore
import Derived.Stop.Joined
import Derived.SevenTiedAt
namespace Go.Proofs.YtdepglceffpfhaaDoor.clauseNames
open Go.ChangeShapes Go.WideShapes Go.ChangeAt Go.RowKit
open Go.ChangeMaps (open_string shut_string)
set_option linter.unusedVariables false

theorem own : ownKnob Tryd.prog.godebug = none := by kernel_rfl
theorem laidOut : laidOutB Tryd.prog = true := by kernel_rfl
/-- The heap that the door's own run leaves meets the condition. -/
theorem door_met (os : Os) (args : Array Value) : laidMetH Tryd.prog Rows.clauseNamesRow.laid ((World.doorLaid Tryd.prog 400 os).forCall (fun _ _ => 0) ⟨#[], args, []⟩).memory :=
  laidMetH_of_parts3 (fuel := 8) (laidMet_of_run' 8 (by kernel_rfl) (by kernel_rfl)) (by kernel_rfl) (by kernel_rfl)

theorem mem_take {l : List Int} {k : Nat} {x : Int} (c : Int) (hk : k < l.length) (hx : l.getD k 0 = x) : decide (c ∈ l.take (k + 1)) = (decide (c ∈ l.take k) || (x == c)) := by
  have e : l.take (k + 1) = l.take k ++ [x] := by
    rw [List.take_succ_eq_append_getElem hk, ← hx]
    simp [List.getD, hk]
  rw [e, Bool.eq_iff_iff]
  simp only [List.mem_append, List.mem_singleton, decide_eq_true_eq, Bool.or_eq_true, beq_iff_eq]
  constructor
  · rintro (h | h)
    · exact .inl h
    · exact .inr h.symm
  · rintro (h | h)
    · exact .inl h
    · exact .inr h.symm

set_option maxRecDepth 100000 in
set_option maxHeartbeats 8000000 in
theorem yesFound (c t : Int) (s : ByteArray) (w : World) (hl : Laid15 w) (hz : s.size ≤ 100) (k : Nat) (hk : k < 16) (hf : findN s = some k) (h : isC c) :
    Calls Tryd.prog 3 #[.int .i64 c, .int .i64 t, .string s] w fun e w' => e = .returned (.bool true) ∧ Below w.heap.size w w' := by
  have HL := Lib.hid hl
  have CN := fun W (h : Titles W) => name_any c W h
  have CA := fun W (h : Titles W) => art_any c W h
  have RN := fun W => refnm_any c W
  have RA := fun W => refar_any c W
  have CF := fun W (h : Titles W) => find15_any s W h
  have RF := fun W => reffind15_any s W
  have CI := fun W => in_any t c W
  rw [hf] at CF
  rw [fnd_some hf] at RF
  have k0 : ¬ (k : Int) < 0 := by omega
  have k1 : (0 : Int) ≤ (k : Int) := by omega
  rw [none_yes h] at CN CA
  have hne := name_full h
  have hne2 : (nameV c).toList ≠ [] := by
    intro e
    rw [e] at hne
    cases hne
  have HIN := Lib.hid (all_in t c)
  have HAL := Lib.hid (all_len t 16)
  generalize inV t c = iv at CI HIN
  generalize nameV c = a at CN RN hne hne2
  generalize artV c = b at CA RA
  have hz1 : ¬ (100 : Int) < (s.size : Int) := by omega
  have hz2 : ¬ 100 < s.size := by omega
  clear hl h hf
  go_enter Tryd.func3, Tryd.ntmps3
  go_wp2_with (first
    | (go_at_call 7; (with_reducible refine (CN _ (HL.out.below (by (repeat (first | assumption | exact Below.refl _ _ | (refine b_al ?_ (Nat.le_refl _) _) | refine b_dn ?_ | refine b_dr ?_ | (refine b_cl ?_ (Nat.le_refl _) (by assumption)))))).titles).mono ?_); rintro e w1 ⟨rfl, hb1⟩)
    | (go_at_call 8; (with_reducible refine (CA _ (HL.out.below (by (repeat (first | assumption | exact Below.refl _ _ | (refine b_al ?_ (Nat.le_refl _) _) | refine b_dn ?_ | refine b_dr ?_ | (refine b_cl ?_ (Nat.le_refl _) (by assumption)))))).titles).mono ?_); rintro e w2 ⟨rfl, hb2⟩)
    | (go_at_call 9; (with_reducible refine (CF _ (HL.out.below (by (repeat (first | assumption | exact Below.refl _ _ | (refine b_al ?_ (Nat.le_refl _) _) | refine b_dn ?_ | refine b_dr ?_ | (refine b_cl ?_ (Nat.le_refl _) (by assumption)))))).titles).mono ?_); rintro e w3 ⟨rfl, hb3⟩)
    | (go_at_call 10; (with_reducible refine (refall15_any t _).mono ?_); rintro e w4 ⟨v4, rfl, ho4, hb4⟩; obtain ⟨A4, c4, rfl, hr4⟩ := ho4.read; clear ho4; have HR4 := Lib.hid hr4; clear hr4; obtain ⟨n4, hn4⟩ : ∃ n4, (allN t 16).length = n4 := ⟨_, rfl⟩; rw [hn4]; have HN4 := Lib.hid hn4; clear hn4; have HB4 := Lib.hid (show Below w.heap.size w w4 by (repeat (first | assumption | exact Below.refl _ _ | (refine b_al ?_ (Nat.le_refl _) _) | refine b_dn ?_ | refine b_dr ?_ | (refine b_cl ?_ (Nat.le_refl _) (by assumption)))))))
  have hn16 : n4 ≤ 16 := by rw [← HN4.out]; exact HAL.out
  go_loopw [14, 41] (fun v i wr => ∃ q : Nat, q ≤ n4 ∧ i = .int .i64 q ∧ v = .bool (decide (c ∈ (allN t 16).take q)) ∧ w4 = wr) (fun _ i _ => n4 - (intOf i).toNat)
  case atStart => exact ⟨0, Nat.zero_le _, rfl, by simp, rfl⟩
  case round =>
    obtain ⟨q, hq, rfl, rfl, rfl⟩ := hrel
    by_cases hlt : q < n4
    · obtain ⟨b1, off, x, rfl, hbb, hc0, hx⟩ := HR4.out.getD (k := q) (by rw [HN4.out]; exact hlt)
      have hm := mem_take (l := allN t 16) (k := q) c (by rw [HN4.out]; exact hlt) hx.out
      obtain ⟨g, hg⟩ : ∃ g, decide (c ∈ (allN t 16).take q) = g := ⟨_, rfl⟩
      obtain ⟨g2, hg2⟩ : ∃ g2, decide (c ∈ (allN t 16).take (q + 1)) = g2 := ⟨_, rfl⟩
      rw [hg, hg2] at hm
      rw [hg]
      have HG2 := Lib.hid hg2
      have HM := Lib.hid hm
      clear hx hg hg2 hm
      cases g with
      | true =>
        go_wp2
        go_roundw
        case rel => exact ⟨q + 1, by omega, by go_num, by rw [HG2.out, HM.out]; rfl, by trivial⟩
        case measure => simp [intOf]; omega
      | false =>
        by_cases he : x = c
        · have e1 : (x == c) = true := by simpa using he
          clear he
          go_wp2
          go_roundw
          case rel => exact ⟨q + 1, by omega, by go_num, by rw [HG2.out, HM.out, e1]; rfl, by trivial⟩
          case measure => simp [intOf]; omega
        · have e1 : (x == c) = false := by simpa using he
          clear he
          go_wp2
          go_roundw
          case rel => exact ⟨q + 1, by omega, by go_num, by rw [HG2.out, HM.out, e1]; rfl, by trivial⟩
          case measure => simp [intOf]; omega
    · obtain rfl : q = n4 := by omega
      have hin : decide (c ∈ (allN t 16).take q) = iv := by rw [HIN.out, List.take_of_length_le (Nat.le_of_eq HN4.out)]
      rw [hin]
      clear hin
      go_wp2_with (first
        | (go_at_call 11; (with_reducible refine (RN _).mono ?_); rintro e w5 ⟨rfl, hb5⟩)
        | (go_at_call 12; (with_reducible refine (RA _).mono ?_); rintro e w6 ⟨rfl, hb6⟩)
        | (go_at_call 13; (with_reducible refine (RF _).mono ?_); rintro e w7 ⟨rfl, hb7⟩; have HR7 := Lib.hid (((HR4.out.below hb5).below hb6).below hb7))
        | (go_at_call 15; (with_reducible refine (all15_any t _).mono ?_); rintro e w8 ⟨v8, rfl, ho8, hb8⟩; obtain ⟨A8, c8, rfl, hr8⟩ := ho8.read; clear ho8; have HR8 := Lib.hid hr8; clear hr8; rw [HN4.out]; have HR78 := Lib.hid (HR7.out.below hb8))
        | (go_at_call 14; (with_reducible refine (sameN_any A8 A4 c8 c4 _ _ (allN t 16) (allN t 16) _ HN4 HN4 HR8.out HR78.out (by omega) (by omega)).mono ?_); rintro e w9 ⟨rfl, hb9⟩; rw [decide_eq_true (rfl : allN t 16 = allN t 16)])
        | (go_at_call 16; (with_reducible refine (CI _).mono ?_); rintro e wi ⟨rfl, rfl⟩)
        | (go_at_call 6; (with_reducible refine (alive15_any _ (HL.out.below (by (refine HB4.out.trans (Below.mono ?_ HB4.out.size); (repeat (first | assumption | exact Below.refl _ _ | (refine b_al ?_ (Nat.le_refl _) _) | refine b_dn ?_ | refine b_dr ?_ | (refine b_cl ?_ (Nat.le_refl _) (by assumption)))))))).mono ?_); rintro e wz ⟨rfl, hbz⟩))
      go_ret
      exact ⟨rfl, HB4.out.trans (Below.mono (by (repeat (first | assumption | exact Below.refl _ _ | (refine b_st ?_ (by first | (simp; done) | (simp; omega))) | (refine b_al ?_ (Nat.le_refl _) _) | refine b_dn ?_ | refine b_dr ?_ | (refine b_cl ?_ (Nat.le_refl _) (by assumption))))) HB4.out.size)⟩

set_option maxRecDepth 100000 in
set_option maxHeartbeats 8000000 in
theorem yesNone (c t : Int) (s : ByteArray) (w : World) (hl : Laid15 w) (hz : s.size ≤ 100) (hf : findN s = none) (h : isC c) :
    Calls Tryd.prog 3 #[.int .i64 c, .int .i64 t, .string s] w fun e w' => e = .returned (.bool true) ∧ Below w.heap.size w w' := by
  have HL := Lib.hid hl
  have CN := fun W (h : Titles W) => name_any c W h
  have CA := fun W (h : Titles W) => art_any c W h
  have RN := fun W => refnm_any c W
  have RA := fun W => refar_any c W
  have CF := fun W (h : Titles W) => find15_any s W h
  have RF := fun W => reffind15_any s W
  have CI := fun W => in_any t c W
  rw [hf] at CF
  rw [fnd_none hf] at RF
  rw [none_yes h] at CN CA
  have hne := name_full h
  have hne2 : (nameV c).toList ≠ [] := by
    intro e
    rw [e] at hne
    cases hne
  have HIN := Lib.hid (all_in t c)
  have HAL := Lib.hid (all_len t 16)
  generalize inV t c = iv at CI HIN
  generalize nameV c = a at CN RN hne hne2
  generalize artV c = b at CA RA
  have hz1 : ¬ (100 : Int) < (s.size : Int) := by omega
  have hz2 : ¬ 100 < s.size := by omega
  clear hl h hf
  go_enter Tryd.func3, Tryd.ntmps3
  go_wp2_with (first
    | (go_at_call 7; (with_reducible refine (CN _ (HL.out.below (by (repeat (first | assumption | exact Below.refl _ _ | (refine b_al ?_ (Nat.le_refl _) _) | refine b_dn ?_ | refine b_dr ?_ | (refine b_cl ?_ (Nat.le_refl _) (by assumption)))))).titles).mono ?_); rintro e w1 ⟨rfl, hb1⟩)
    | (go_at_call 8; (with_reducible refine (CA _ (HL.out.below (by (repeat (first | assumption | exact Below.refl _ _ | (refine b_al ?_ (Nat.le_refl _) _) | refine b_dn ?_ | refine b_dr ?_ | (refine b_cl ?_ (Nat.le_refl _) (by assumption)))))).titles).mono ?_); rintro e w2 ⟨rfl, hb2⟩)
    | (go_at_call 9; (with_reducible refine (CF _ (HL.out.below (by (repeat (first | assumption | exact Below.refl _ _ | (refine b_al ?_ (Nat.le_refl _) _) | refine b_dn ?_ | refine b_dr ?_ | (refine b_cl ?_ (Nat.le_refl _) (by assumption)))))).titles).mono ?_); rintro e w3 ⟨rfl, hb3⟩)
    | (go_at_call 10; (with_reducible refine (refall15_any t _).mono ?_); rintro e w4 ⟨v4, rfl, ho4, hb4⟩; obtain ⟨A4, c4, rfl, hr4⟩ := ho4.read; clear ho4; have HR4 := Lib.hid hr4; clear hr4; obtain ⟨n4, hn4⟩ : ∃ n4, (allN t 16).length = n4 := ⟨_, rfl⟩; rw [hn4]; have HN4 := Lib.hid hn4; clear hn4; have HB4 := Lib.hid (show Below w.heap.size w w4 by (repeat (first | assumption | exact Below.refl _ _ | (refine b_al ?_ (Nat.le_refl _) _) | refine b_dn ?_ | refine b_dr ?_ | (refine b_cl ?_ (Nat.le_refl _) (by assumption)))))))
  have hn16 : n4 ≤ 16 := by rw [← HN4.out]; exact HAL.out
  go_loopw [14, 41] (fun v i wr => ∃ q : Nat, q ≤ n4 ∧ i = .int .i64 q ∧ v = .bool (decide (c ∈ (allN t 16).take q)) ∧ w4 = wr) (fun _ i _ => n4 - (intOf i).toNat)
  case atStart => exact ⟨0, Nat.zero_le _, rfl, by simp, rfl⟩
  case round =>
    obtain ⟨q, hq, rfl, rfl, rfl⟩ := hrel
    by_cases hlt : q < n4
    · obtain ⟨b1, off, x, rfl, hbb, hc0, hx⟩ := HR4.out.getD (k := q) (by rw [HN4.out]; exact hlt)
      have hm := mem_take (l := allN t 16) (k := q) c (by rw [HN4.out]; exact hlt) hx.out
      obtain ⟨g, hg⟩ : ∃ g, decide (c ∈ (allN t 16).take q) = g := ⟨_, rfl⟩
      obtain ⟨g2, hg2⟩ : ∃ g2, decide (c ∈ (allN t 16).take (q + 1)) = g2 := ⟨_, rfl⟩
      rw [hg, hg2] at hm
      rw [hg]
      have HG2 := Lib.hid hg2
      have HM := Lib.hid hm
      clear hx hg hg2 hm
      cases g with
      | true =>
        go_wp2
        go_roundw
        case rel => exact ⟨q + 1, by omega, by go_num, by rw [HG2.out, HM.out]; rfl, by trivial⟩
        case measure => simp [intOf]; omega
      | false =>
        by_cases he : x = c
        · have e1 : (x == c) = true := by simpa using he
          clear he
          go_wp2
          go_roundw
          case rel => exact ⟨q + 1, by omega, by go_num, by rw [HG2.out, HM.out, e1]; rfl, by trivial⟩
          case measure => simp [intOf]; omega
        · have e1 : (x == c) = false := by simpa using he
          clear he
          go_wp2
          go_roundw
          case rel => exact ⟨q + 1, by omega, by go_num, by rw [HG2.out, HM.out, e1]; rfl, by trivial⟩
          case measure => simp [intOf]; omega
    · obtain rfl : q = n4 := by omega
      have hin : decide (c ∈ (allN t 16).take q) = iv := by rw [HIN.out, List.take_of_length_le (Nat.le_of_eq HN4.out)]
      rw [hin]
      clear hin
      go_wp2_with (first
        | (go_at_call 11; (with_reducible refine (RN _).mono ?_); rintro e w5 ⟨rfl, hb5⟩)
        | (go_at_call 12; (with_reducible refine (RA _).mono ?_); rintro e w6 ⟨rfl, hb6⟩)
        | (go_at_call 13; (with_reducible refine (RF _).mono ?_); rintro e w7 ⟨rfl, hb7⟩; have HR7 := Lib.hid (((HR4.out.below hb5).below hb6).below hb7))
        | (go_at_call 15; (with_reducible refine (all15_any t _).mono ?_); rintro e w8 ⟨v8, rfl, ho8, hb8⟩; obtain ⟨A8, c8, rfl, hr8⟩ := ho8.read; clear ho8; have HR8 := Lib.hid hr8; clear hr8; rw [HN4.out]; have HR78 := Lib.hid (HR7.out.below hb8))
        | (go_at_call 14; (with_reducible refine (sameN_any A8 A4 c8 c4 _ _ (allN t 16) (allN t 16) _ HN4 HN4 HR8.out HR78.out (by omega) (by omega)).mono ?_); rintro e w9 ⟨rfl, hb9⟩; rw [decide_eq_true (rfl : allN t 16 = allN t 16)])
        | (go_at_call 16; (with_reducible refine (CI _).mono ?_); rintro e wi ⟨rfl, rfl⟩)
        | (go_at_call 6; (with_reducible refine (alive15_any _ (HL.out.below (by (refine HB4.out.trans (Below.mono ?_ HB4.out.size); (repeat (first | assumption | exact Below.refl _ _ | (refine b_al ?_ (Nat.le_refl _) _) | refine b_dn ?_ | refine b_dr ?_ | (refine b_cl ?_ (Nat.le_refl _) (by assumption)))))))).mono ?_); rintro e wz ⟨rfl, hbz⟩))
      go_ret
      exact ⟨rfl, HB4.out.trans (Below.mono (by (repeat (first | assumption | exact Below.refl _ _ | (refine b_st ?_ (by first | (simp; done) | (simp; omega))) | (refine b_al ?_ (Nat.le_refl _) _) | refine b_dn ?_ | refine b_dr ?_ | (refine b_cl ?_ (Nat.le_refl _) (by assumption))))) HB4.out.size)⟩

set_option maxRecDepth 100000 in
set_option maxHeartbeats 8000000 in
theorem noFound (c t : Int) (s : ByteArray) (w : World) (hl : Laid15 w) (hz : s.size ≤ 100) (k : Nat) (hk : k < 16) (hf : findN s = some k) (h : ¬ isC c) :
    Calls Tryd.prog 3 #[.int .i64 c, .int .i64 t, .string s] w fun e w' => e = .returned (.bool true) ∧ Below w.heap.size w w' := by
  have HL := Lib.hid hl
  have CN := fun W (h : Titles W) => name_any c W h
  have CA := fun W (h : Titles W) => art_any c W h
  have RN := fun W => refnm_any c W
  have RA := fun W => refar_any c W
  have CF := fun W (h : Titles W) => find15_any s W h
  have RF := fun W => reffind15_any s W
  have CI := fun W => in_any t c W
  rw [hf] at CF
  rw [fnd_some hf] at RF
  have k0 : ¬ (k : Int) < 0 := by omega
  have k1 : (0 : Int) ≤ (k : Int) := by omega
  rw [none_no h, name_no h] at CN
  rw [none_no h, art_no h] at CA
  rw [name_no h] at RN
  rw [art_no h] at RA
  have HIN := Lib.hid (all_in t c)
  have HAL := Lib.hid (all_len t 16)
  generalize inV t c = iv at CI HIN
  have hz1 : ¬ (100 : Int) < (s.size : Int) := by omega
  have hz2 : ¬ 100 < s.size := by omega
  clear hl h hf
  go_enter Tryd.func3, Tryd.ntmps3
  go_wp2_with (first
    | (go_at_call 7; (with_reducible refine (CN _ (HL.out.below (by (repeat (first | assumption | exact Below.refl _ _ | (refine b_al ?_ (Nat.le_refl _) _) | refine b_dn ?_ | refine b_dr ?_ | (refine b_cl ?_ (Nat.le_refl _) (by assumption)))))).titles).mono ?_); rintro e w1 ⟨rfl, hb1⟩)
    | (go_at_call 8; (with_reducible refine (CA _ (HL.out.below (by (repeat (first | assumption | exact Below.refl _ _ | (refine b_al ?_ (Nat.le_refl _) _) | refine b_dn ?_ | refine b_dr ?_ | (refine b_cl ?_ (Nat.le_refl _) (by assumption)))))).titles).mono ?_); rintro e w2 ⟨rfl, hb2⟩)
    | (go_at_call 9; (with_reducible refine (CF _ (HL.out.below (by (repeat (first | assumption | exact Below.refl _ _ | (refine b_al ?_ (Nat.le_refl _) _) | refine b_dn ?_ | refine b_dr ?_ | (refine b_cl ?_ (Nat.le_refl _) (by assumption)))))).titles).mono ?_); rintro e w3 ⟨rfl, hb3⟩)
    | (go_at_call 10; (with_reducible refine (refall15_any t _).mono ?_); rintro e w4 ⟨v4, rfl, ho4, hb4⟩; obtain ⟨A4, c4, rfl, hr4⟩ := ho4.read; clear ho4; have HR4 := Lib.hid hr4; clear hr4; obtain ⟨n4, hn4⟩ : ∃ n4, (allN t 16).length = n4 := ⟨_, rfl⟩; rw [hn4]; have HN4 := Lib.hid hn4; clear hn4; have HB4 := Lib.hid (show Below w.heap.size w w4 by (repeat (first | assumption | exact Below.refl _ _ | (refine b_al ?_ (Nat.le_refl _) _) | refine b_dn ?_ | refine b_dr ?_ | (refine b_cl ?_ (Nat.le_refl _) (by assumption)))))))
  have hn16 : n4 ≤ 16 := by rw [← HN4.out]; exact HAL.out
  go_loopw [14, 41] (fun v i wr => ∃ q : Nat, q ≤ n4 ∧ i = .int .i64 q ∧ v = .bool (decide (c ∈ (allN t 16).take q)) ∧ w4 = wr) (fun _ i _ => n4 - (intOf i).toNat)
  case atStart => exact ⟨0, Nat.zero_le _, rfl, by simp, rfl⟩
  case round =>
    obtain ⟨q, hq, rfl, rfl, rfl⟩ := hrel
    by_cases hlt : q < n4
    · obtain ⟨b1, off, x, rfl, hbb, hc0, hx⟩ := HR4.out.getD (k := q) (by rw [HN4.out]; exact hlt)
      have hm := mem_take (l := allN t 16) (k := q) c (by rw [HN4.out]; exact hlt) hx.out
      obtain ⟨g, hg⟩ : ∃ g, decide (c ∈ (allN t 16).take q) = g := ⟨_, rfl⟩
      obtain ⟨g2, hg2⟩ : ∃ g2, decide (c ∈ (allN t 16).take (q + 1)) = g2 := ⟨_, rfl⟩
      rw [hg, hg2] at hm
      rw [hg]
      have HG2 := Lib.hid hg2
      have HM := Lib.hid hm
      clear hx hg hg2 hm
      cases g with
      | true =>
        go_wp2
        go_roundw
        case rel => exact ⟨q + 1, by omega, by go_num, by rw [HG2.out, HM.out]; rfl, by trivial⟩
        case measure => simp [intOf]; omega
      | false =>
        by_cases he : x = c
        · have e1 : (x == c) = true := by simpa using he
          clear he
          go_wp2
          go_roundw
          case rel => exact ⟨q + 1, by omega, by go_num, by rw [HG2.out, HM.out, e1]; rfl, by trivial⟩
          case measure => simp [intOf]; omega
        · have e1 : (x == c) = false := by simpa using he
          clear he
          go_wp2
          go_roundw
          case rel => exact ⟨q + 1, by omega, by go_num, by rw [HG2.out, HM.out, e1]; rfl, by trivial⟩
          case measure => simp [intOf]; omega
    · obtain rfl : q = n4 := by omega
      have hin : decide (c ∈ (allN t 16).take q) = iv := by rw [HIN.out, List.take_of_length_le (Nat.le_of_eq HN4.out)]
      rw [hin]
      clear hin
      go_wp2_with (first
        | (go_at_call 11; (with_reducible refine (RN _).mono ?_); rintro e w5 ⟨rfl, hb5⟩)
        | (go_at_call 12; (with_reducible refine (RA _).mono ?_); rintro e w6 ⟨rfl, hb6⟩)
        | (go_at_call 13; (with_reducible refine (RF _).mono ?_); rintro e w7 ⟨rfl, hb7⟩; have HR7 := Lib.hid (((HR4.out.below hb5).below hb6).below hb7))
        | (go_at_call 15; (with_reducible refine (all15_any t _).mono ?_); rintro e w8 ⟨v8, rfl, ho8, hb8⟩; obtain ⟨A8, c8, rfl, hr8⟩ := ho8.read; clear ho8; have HR8 := Lib.hid hr8; clear hr8; rw [HN4.out]; have HR78 := Lib.hid (HR7.out.below hb8))
        | (go_at_call 14; (with_reducible refine (sameN_any A8 A4 c8 c4 _ _ (allN t 16) (allN t 16) _ HN4 HN4 HR8.out HR78.out (by omega) (by omega)).mono ?_); rintro e w9 ⟨rfl, hb9⟩; rw [decide_eq_true (rfl : allN t 16 = allN t 16)])
        | (go_at_call 16; (with_reducible refine (CI _).mono ?_); rintro e wi ⟨rfl, rfl⟩)
        | (go_at_call 6; (with_reducible refine (alive15_any _ (HL.out.below (by (refine HB4.out.trans (Below.mono ?_ HB4.out.size); (repeat (first | assumption | exact Below.refl _ _ | (refine b_al ?_ (Nat.le_refl _) _) | refine b_dn ?_ | refine b_dr ?_ | (refine b_cl ?_ (Nat.le_refl _) (by assumption)))))))).mono ?_); rintro e wz ⟨rfl, hbz⟩))
      go_ret
      exact ⟨rfl, HB4.out.trans (Below.mono (by (repeat (first | assumption | exact Below.refl _ _ | (refine b_st ?_ (by first | (simp; done) | (simp; omega))) | (refine b_al ?_ (Nat.le_refl _) _) | refine b_dn ?_ | refine b_dr ?_ | (refine b_cl ?_ (Nat.le_refl _) (by assumption))))) HB4.out.size)⟩

set_option maxRecDepth 100000 in
set_option maxHeartbeats 8000000 in
theorem noNone (c t : Int) (s : ByteArray) (w : World) (hl : Laid15 w) (hz : s.size ≤ 100) (hf : findN s = none) (h : ¬ isC c) :
    Calls Tryd.prog 3 #[.int .i64 c, .int .i64 t, .string s] w fun e w' => e = .returned (.bool true) ∧ Below w.heap.size w w' := by
  have HL := Lib.hid hl
  have CN := fun W (h : Titles W) => name_any c W h
  have CA := fun W (h : Titles W) => art_any c W h
  have RN := fun W => refnm_any c W
  have RA := fun W => refar_any c W
  have CF := fun W (h : Titles W) => find15_any s W h
  have RF := fun W => reffind15_any s W
  have CI := fun W => in_any t c W
  rw [hf] at CF
  rw [fnd_none hf] at RF
  rw [none_no h, name_no h] at CN
  rw [none_no h, art_no h] at CA
  rw [name_no h] at RN
  rw [art_no h] at RA
  have HIN := Lib.hid (all_in t c)
  have HAL := Lib.hid (all_len t 16)
  generalize inV t c = iv at CI HIN
  have hz1 : ¬ (100 : Int) < (s.size : Int) := by omega
  have hz2 : ¬ 100 < s.size := by omega
  clear hl h hf
  go_enter Tryd.func3, Tryd.ntmps3
  go_wp2_with (first
    | (go_at_call 7; (with_reducible refine (CN _ (HL.out.below (by (repeat (first | assumption | exact Below.refl _ _ | (refine b_al ?_ (Nat.le_refl _) _) | refine b_dn ?_ | refine b_dr ?_ | (refine b_cl ?_ (Nat.le_refl _) (by assumption)))))).titles).mono ?_); rintro e w1 ⟨rfl, hb1⟩)
    | (go_at_call 8; (with_reducible refine (CA _ (HL.out.below (by (repeat (first | assumption | exact Below.refl _ _ | (refine b_al ?_ (Nat.le_refl _) _) | refine b_dn ?_ | refine b_dr ?_ | (refine b_cl ?_ (Nat.le_refl _) (by assumption)))))).titles).mono ?_); rintro e w2 ⟨rfl, hb2⟩)
    | (go_at_call 9; (with_reducible refine (CF _ (HL.out.below (by (repeat (first | assumption | exact Below.refl _ _ | (refine b_al ?_ (Nat.le_refl _) _) | refine b_dn ?_ | refine b_dr ?_ | (refine b_cl ?_ (Nat.le_refl _) (by assumption)))))).titles).mono ?_); rintro e w3 ⟨rfl, hb3⟩)
    | (go_at_call 10; (with_reducible refine (refall15_any t _).mono ?_); rintro e w4 ⟨v4, rfl, ho4, hb4⟩; obtain ⟨A4, c4, rfl, hr4⟩ := ho4.read; clear ho4; have HR4 := Lib.hid hr4; clear hr4; obtain ⟨n4, hn4⟩ : ∃ n4, (allN t 16).length = n4 := ⟨_, rfl⟩; rw [hn4]; have HN4 := Lib.hid hn4; clear hn4; have HB4 := Lib.hid (show Below w.heap.size w w4 by (repeat (first | assumption | exact Below.refl _ _ | (refine b_al ?_ (Nat.le_refl _) _) | refine b_dn ?_ | refine b_dr ?_ | (refine b_cl ?_ (Nat.le_refl _) (by assumption)))))))
  have hn16 : n4 ≤ 16 := by rw [← HN4.out]; exact HAL.out
  go_loopw [14, 41] (fun v i wr => ∃ q : Nat, q ≤ n4 ∧ i = .int .i64 q ∧ v = .bool (decide (c ∈ (allN t 16).take q)) ∧ w4 = wr) (fun _ i _ => n4 - (intOf i).toNat)
  case atStart => exact ⟨0, Nat.zero_le _, rfl, by simp, rfl⟩
  case round =>
    obtain ⟨q, hq, rfl, rfl, rfl⟩ := hrel
    by_cases hlt : q < n4
    · obtain ⟨b1, off, x, rfl, hbb, hc0, hx⟩ := HR4.out.getD (k := q) (by rw [HN4.out]; exact hlt)
      have hm := mem_take (l := allN t 16) (k := q) c (by rw [HN4.out]; exact hlt) hx.out
      obtain ⟨g, hg⟩ : ∃ g, decide (c ∈ (allN t 16).take q) = g := ⟨_, rfl⟩
      obtain ⟨g2, hg2⟩ : ∃ g2, decide (c ∈ (allN t 16).take (q + 1)) = g2 := ⟨_, rfl⟩
      rw [hg, hg2] at hm
      rw [hg]
      have HG2 := Lib.hid hg2
      have HM := Lib.hid hm
      clear hx hg hg2 hm
      cases g with
      | true =>
        go_wp2
        go_roundw
        case rel => exact ⟨q + 1, by omega, by go_num, by rw [HG2.out, HM.out]; rfl, by trivial⟩
        case measure => simp [intOf]; omega
      | false =>
        by_cases he : x = c
        · have e1 : (x == c) = true := by simpa using he
          clear he
          go_wp2
          go_roundw
          case rel => exact ⟨q + 1, by omega, by go_num, by rw [HG2.out, HM.out, e1]; rfl, by trivial⟩
          case measure => simp [intOf]; omega
        · have e1 : (x == c) = false := by simpa using he
          clear he
          go_wp2
          go_roundw
          case rel => exact ⟨q + 1, by omega, by go_num, by rw [HG2.out, HM.out, e1]; rfl, by trivial⟩
          case measure => simp [intOf]; omega
    · obtain rfl : q = n4 := by omega
      have hin : decide (c ∈ (allN t 16).take q) = iv := by rw [HIN.out, List.take_of_length_le (Nat.le_of_eq HN4.out)]
      rw [hin]
      clear hin
      go_wp2_with (first
        | (go_at_call 11; (with_reducible refine (RN _).mono ?_); rintro e w5 ⟨rfl, hb5⟩)
        | (go_at_call 12; (with_reducible refine (RA _).mono ?_); rintro e w6 ⟨rfl, hb6⟩)
        | (go_at_call 13; (with_reducible refine (RF _).mono ?_); rintro e w7 ⟨rfl, hb7⟩; have HR7 := Lib.hid (((HR4.out.below hb5).below hb6).below hb7))
        | (go_at_call 15; (with_reducible refine (all15_any t _).mono ?_); rintro e w8 ⟨v8, rfl, ho8, hb8⟩; obtain ⟨A8, c8, rfl, hr8⟩ := ho8.read; clear ho8; have HR8 := Lib.hid hr8; clear hr8; rw [HN4.out]; have HR78 := Lib.hid (HR7.out.below hb8))
        | (go_at_call 14; (with_reducible refine (sameN_any A8 A4 c8 c4 _ _ (allN t 16) (allN t 16) _ HN4 HN4 HR8.out HR78.out (by omega) (by omega)).mono ?_); rintro e w9 ⟨rfl, hb9⟩; rw [decide_eq_true (rfl : allN t 16 = allN t 16)])
        | (go_at_call 16; (with_reducible refine (CI _).mono ?_); rintro e wi ⟨rfl, rfl⟩)
        | (go_at_call 6; (with_reducible refine (alive15_any _ (HL.out.below (by (refine HB4.out.trans (Below.mono ?_ HB4.out.size); (repeat (first | assumption | exact Below.refl _ _ | (refine b_al ?_ (Nat.le_refl _) _) | refine b_dn ?_ | refine b_dr ?_ | (refine b_cl ?_ (Nat.le_refl _) (by assumption)))))))).mono ?_); rintro e wz ⟨rfl, hbz⟩))
      go_ret
      exact ⟨rfl, HB4.out.trans (Below.mono (by (repeat (first | assumption | exact Below.refl _ _ | (refine b_st ?_ (by first | (simp; done) | (simp; omega))) | (refine b_al ?_ (Nat.le_refl _) _) | refine b_dn ?_ | refine b_dr ?_ | (refine b_cl ?_ (Nat.le_refl _) (by assumption))))) HB4.out.size)⟩

theorem long (c t : Int) (s : ByteArray) (w : World) (hl : Laid15 w) (hz : 100 < s.size) :
    Calls Tryd.prog 3 #[.int .i64 c, .int .i64 t, .string s] w fun e w' => e = .returned (.bool true) ∧ Below w.heap.size w w' := by
  have HL := Lib.hid hl
  have hz1 : (100 : Int) < (s.size : Int) := by omega
  clear hl
  go_enter Tryd.func3, Tryd.ntmps3
  go_wp2_with (go_at_call 6; (with_reducible refine (alive15_any _ (HL.out.below (by (repeat (first | assumption | exact Below.refl _ _ | (refine b_al ?_ (Nat.le_refl _) _) | refine b_dn ?_ | refine b_dr ?_ | (refine b_cl ?_ (Nat.le_refl _) (by assumption))))))).mono ?_); rintro e wz ⟨rfl, hbz⟩)
  go_ret
  exact ⟨rfl, hbz⟩

theorem walk (w : World) (hl : Laid15 w) (a0 : Int) (w0 : (Lit.int .i64 a0).wf = true) (a1 : Int) (w1 : (Lit.int .i64 a1).wf = true) (s2 : ByteArray) (w2 : s2.size ≤ maxLen) :
    Calls Tryd.prog 3 #[.int .i64 a0, .int .i64 a1, .string s2] w fun e w' => e = .returned (.bool true) ∧ Below w.heap.size w w' := by
  by_cases hz : 100 < s2.size
  · exact long a0 a1 s2 w hl hz
  · cases hf : findN s2 with
    | none =>
      by_cases h : isC a0
      · exact yesNone a0 a1 s2 w hl (by omega) hf h
      · exact noNone a0 a1 s2 w hl (by omega) hf h
    | some k =>
      by_cases h : isC a0
      · exact yesFound a0 a1 s2 w hl (by omega) k (fnd_is hf).1 hf h
      · exact noFound a0 a1 s2 w hl (by omega) k (fnd_is hf).1 hf h

set_option maxRecDepth 100000 in
theorem lifted (os : Os) (started : os.Started) (H : Type) (enc : TypeId × Value → H) :
    ReturnsInHanded {} Tryd.checked os 3 .any (fun w args => (Rows.clauseNamesSpec.pre enc Tryd.prog Tryd.f3 [] false w args ∧ laidMetH Tryd.prog Rows.clauseNamesRow.laid w) ∧ sizedMet enc Tryd.prog Tryd.f3 (OpenSpec.ofChange Rows.clauseNamesSpec) false w args)
      (Rows.clauseNamesSpec.post enc Tryd.prog Tryd.f3 false true false false) := by
  refine returns_laid (C := Tryd.checked) (X := fun w _ => laidMetH Tryd.prog Rows.clauseNamesRow.laid w) (fun _ _ _ hh h => h.of_heap hh) own started (by kernel_rfl) Tryd.func3
    (ChangeSpec.witness_shaped (enc := enc) (C := Tryd.checked) (os := os) (X := fun w _ => laidMetH Tryd.prog Rows.clauseNamesRow.laid w) false (World.doorLaid Tryd.prog 400 os) #[.int .i64 0, .int .i64 0, .string ⟨#[]⟩] 8 rfl (World.shaped_of_RefB (by kernel_rfl) (by kernel_rfl)) (by kernel_rfl) (by kernel_rfl) (by kernel_rfl) (door_met os _)) ?_
  intro W base args ds gs before hsh hval0 hW hL
  have hval : ∀ (j : Nat) t v, Tryd.f3.params[j]? = some t → args[j]? = some v → Value.okWide Tryd.prog W .any base t v := hval0
  have hW' := hW
  obtain ⟨p, q, hA0, hV, rfl, hfz, hnd⟩ := hW
  have hA : DataW.TrodAll enc Tryd.prog W 0 (fun _ => true) true Tryd.f3.params.toList args.toList ds p := hA0
  rw [Tryd.params3] at hA hval
  obtain ⟨v0, vs0, d0, ds0, p0, q0, hargs, rfl, rfl, h0, r0⟩ := trodAll_cons hA
  obtain ⟨v1, vs1, d1, ds1, p1, q1, rfl, rfl, rfl, h1, r1⟩ := trodAll_cons r0
  obtain ⟨v2, vs2, d2, ds2, p2, q2, rfl, rfl, rfl, h2, r2⟩ := trodAll_cons r1
  obtain ⟨rfl, rfl, rfl⟩ := trodAll_nil r2
  obtain rfl : args = #[v0, v1, v2] := by cases args; simp_all
  obtain ⟨rfl, rfl⟩ := trodVars_none hV
  obtain ⟨a0, rfl, rfl, rfl, w0⟩ := open_int Tryd.underlying3 (hval 0 3 v0 rfl rfl) h0
  obtain ⟨a1, rfl, rfl, rfl, w1⟩ := open_int Tryd.underlying3 (hval 1 3 v1 rfl rfl) h1
  obtain ⟨s2, rfl, rfl, rfl, w2⟩ := open_string Tryd.underlying9 (hval 2 9 v2 rfl rfl) h2
  clear hA0 hval0
  simp only [List.append_nil] at hW'
  refine (walk W (laid15_of hL (by kernel_rfl) (by simp [Rows.clauseNamesRow]) (by simp [Rows.clauseNamesRow])) a0 w0 a1 w1 s2 w2).mono fun e W' ⟨he, bel⟩ => ?_
  subst he
  exact ⟨_, rfl, _, _, _, [], _, [], hW', trodAll_mk1 (shut_bool Tryd.underlying4 _), (trodAll_cons_mk (shut_int Tryd.underlying3 w0) (trodAll_cons_mk (shut_int Tryd.underlying3 w1) (trodAll_cons_mk (shut_string Tryd.underlying9 w2) trodAll_mk0))), rfl, bel.frame _, fun h => by cases h⟩

theorem over : Rows.ClauseNamesSaid :=
  OpenClaim.holds_of_wide 3 Tryd.f3 rfl rfl rfl rfl rfl rfl rfl ⟨rfl, rfl, rfl, rfl, rfl⟩ rfl rfl rfl rfl rfl (by kernel_rfl) Tryd.func3 (by kernel_rfl)
    (of_decide_eq_true (by kernel_rfl)) (by unfold Func.isWrapper; first | (rw [if_pos (by decide +kernel)]; kernel_rfl) | (rw [if_neg (by decide +kernel)]; exact ⟨rfl, rfl⟩))
    (fun os started H enc _ => lifted os started H enc)

theorem proved : Rows.ClauseNamesCardSaid :=
  Claim7.holds_tied_plain_at .later [] _ true _ _ over (fun _ h => by cases h) (by kernel_rfl) (fun _ h => by cases h) clauseNames_row_tie rfl ⟨rfl, rfl⟩ (by kernel_rfl) rfl
    (fun f fn hf hfn => by
      obtain rfl : f = 3 := Option.some.inj ((show Tryd.prog.funcNamed "haulier/haulierlaw15.ClauseNames" = some 3 by kernel_rfl).symm.trans hf) |>.symm
      obtain rfl : fn = Tryd.f3 := (Option.some.inj (Tryd.func3.symm.trans hfn)).symm
      exact ⟨by kernel_rfl, fun j t ht => by
        rw [Tryd.params3] at ht
        have hm : t ∈ [3, 3, 9] := by simpa using Array.mem_of_getElem? ht
        have hall : ([3, 3, 9].all fun u => !Tryd.prog.wantsStandIn u) = true := by kernel_rfl
        exact (show Tryd.prog.wantsStandIn t = false by simpa using List.all_eq_true.1 hall t hm)⟩)
    (by kernel_rfl)
#print axioms proved
end Go.Proofs.YtdepglceffpfhaaDoor.clauseNames
