/- What Letter and Kind of layer 9, and the document's own Kind and Text, return. Conditions: as each theorem says. -/
import Derived.Test.YtogcpoaclkomjaaDoorRows
import Derived.Test.YtogcpoaclkomjaaDoorZ1
import Derived.Test.YtogcpoaclkomjaaDoorZ2
import Derived.WalkKit
import Derived.WalkSpells
import Derived.WalkSmall
import Derived.Below
import Derived.Outline
import Derived.OwnWalk
import Derived.Lib.Hide
import Derived.BigQuiet
import Derived.Deep.QuietTactic
namespace Go.Proofs.YtogcpoaclkomjaaDoor
open Go.RowKit

theorem index_is {c : Int} (h0 : 0 ≤ c) (h1 : c ≤ 255) : Lib.indexByte [82, 65, 87, 68] c.toNat.toUInt8 = idxB c := by
  have key : ∀ n : Fin 256, Lib.indexByte [82, 65, 87, 68] n.val.toUInt8 = idxB (n.val : Int) := by decide +kernel
  have := key ⟨c.toNat, by omega⟩
  simp only at this
  rw [this]
  congr 1
  omega

theorem kind_any (c : Int) (w : World) (h0 : 0 ≤ c) (h1 : c ≤ 255) :
    Calls Tryd.prog 41 #[.int .u8 c] w fun e w' => e = .returned (.tuple #[.int .i64 (kindB c), .bool (isL c)]) ∧ w = w' := by
  have K := fun W => index_any ⟨#[82, 65, 87, 68]⟩ c W
  rw [show (⟨#[82, 65, 87, 68]⟩ : ByteArray).data.toList = [82, 65, 87, 68] from rfl, index_is h0 h1] at K
  have hb := idx_bd c
  unfold kindB isL
  generalize idxB c = k at *
  by_cases hk : 0 ≤ k
  · rw [if_pos hk, decide_eq_true hk]
    have hm : max k 0 = k := by omega
    go_enter Tryd.func41, Tryd.ntmps41
    go_wp2_with (go_at_call 56; refine (K _).mono ?_; rintro e w' ⟨rfl, rfl⟩)
    go_ret2
    exact ⟨rfl, rfl⟩
  · obtain rfl : k = -1 := by omega
    go_enter Tryd.func41, Tryd.ntmps41
    go_wp2_with (go_at_call 56; refine (K _).mono ?_; rintro e w' ⟨rfl, rfl⟩)
    go_ret2
    exact ⟨rfl, rfl⟩

theorem letter_yes (k : Int) (w : World) (h0 : 0 ≤ k) (h1 : k < 4) :
    Calls Tryd.prog 35 #[.int .i64 k] w fun e w' => e = .returned (.tuple #[.int .u8 (ltN k), .bool true]) ∧ w = w' := by
  have : k = 0 ∨ k = 1 ∨ k = 2 ∨ k = 3 := by omega
  rcases this with rfl | rfl | rfl | rfl
  all_goals
    go_enter Tryd.func35, Tryd.ntmps35
    go_wp2
    go_ret2
    exact ⟨rfl, rfl⟩

theorem letter_no (k : Int) (w : World) (h : ¬ (0 ≤ k ∧ k < 4)) :
    Calls Tryd.prog 35 #[.int .i64 k] w fun e w' => e = .returned (.tuple #[.int .u8 0, .bool false]) ∧ w = w' := by
  by_cases h0 : k < 0
  · clear h
    go_enter Tryd.func35, Tryd.ntmps35
    go_wp2
    go_ret2
    exact ⟨rfl, rfl⟩
  · have h1 : 4 ≤ k := by omega
    have h2 : 0 ≤ k := by omega
    clear h h0
    go_enter Tryd.func35, Tryd.ntmps35
    go_wp2
    go_ret2
    exact ⟨rfl, rfl⟩

theorem refkind_any (c : Int) (w : World) :
    Calls Tryd.prog 24 #[.int .u8 c] w fun e w' => e = .returned (.tuple #[.int .i64 (kindB c), .bool (isL c)]) ∧ w = w' := by
  by_cases h0 : c = 82
  · subst h0
    go_enter Tryd.func24, Tryd.ntmps24
    go_wp2
    go_loop [4] (fun i => i = .int .i64 0) (fun i => 4 - (intOf i).toNat)
    case atStart => rfl
    case round =>
      subst hrel
      go_wp2
      go_ret2
      exact ⟨rfl, rfl⟩
  · by_cases h1 : c = 65
    · subst h1
      go_enter Tryd.func24, Tryd.ntmps24
      go_wp2
      go_loop [4] (fun i => ∃ k : Nat, i = .int .i64 k ∧ k ≤ 1) (fun i => 4 - (intOf i).toNat)
      case atStart => exact ⟨0, rfl, by omega⟩
      case round =>
        obtain ⟨k, rfl, hk⟩ := hrel
        have : k = 0 ∨ k = 1 := by omega
        rcases this with rfl | rfl
        · go_wp2
          go_round
          case rel => exact ⟨1, rfl, by omega⟩
          case measure => simp [intOf]
        · go_wp2
          go_ret2
          exact ⟨rfl, rfl⟩
    · by_cases h2 : c = 87
      · subst h2
        go_enter Tryd.func24, Tryd.ntmps24
        go_wp2
        go_loop [4] (fun i => ∃ k : Nat, i = .int .i64 k ∧ k ≤ 2) (fun i => 4 - (intOf i).toNat)
        case atStart => exact ⟨0, rfl, by omega⟩
        case round =>
          obtain ⟨k, rfl, hk⟩ := hrel
          have : k = 0 ∨ k = 1 ∨ k = 2 := by omega
          rcases this with rfl | rfl | rfl
          · go_wp2
            go_round
            case rel => exact ⟨1, rfl, by omega⟩
            case measure => simp [intOf]
          · go_wp2
            go_round
            case rel => exact ⟨2, rfl, by omega⟩
            case measure => simp [intOf]
          · go_wp2
            go_ret2
            exact ⟨rfl, rfl⟩
      · by_cases h3 : c = 68
        · subst h3
          go_enter Tryd.func24, Tryd.ntmps24
          go_wp2
          go_loop [4] (fun i => ∃ k : Nat, i = .int .i64 k ∧ k ≤ 3) (fun i => 4 - (intOf i).toNat)
          case atStart => exact ⟨0, rfl, by omega⟩
          case round =>
            obtain ⟨k, rfl, hk⟩ := hrel
            have : k = 0 ∨ k = 1 ∨ k = 2 ∨ k = 3 := by omega
            rcases this with rfl | rfl | rfl | rfl
            · go_wp2
              go_round
              case rel => exact ⟨1, rfl, by omega⟩
              case measure => simp [intOf]
            · go_wp2
              go_round
              case rel => exact ⟨2, rfl, by omega⟩
              case measure => simp [intOf]
            · go_wp2
              go_round
              case rel => exact ⟨3, rfl, by omega⟩
              case measure => simp [intOf]
            · go_wp2
              go_ret2
              exact ⟨rfl, rfl⟩
        · have e0 : ((((⟨#[82, 65, 87, 68]⟩ : ByteArray)[0]'(by decide)).toNat : Int) == c) = false := by show ((82 : Int) == c) = false; simpa using (Ne.symm h0)
          have e1 : ((((⟨#[82, 65, 87, 68]⟩ : ByteArray)[1]'(by decide)).toNat : Int) == c) = false := by show ((65 : Int) == c) = false; simpa using (Ne.symm h1)
          have e2 : ((((⟨#[82, 65, 87, 68]⟩ : ByteArray)[2]'(by decide)).toNat : Int) == c) = false := by show ((87 : Int) == c) = false; simpa using (Ne.symm h2)
          have e3 : ((((⟨#[82, 65, 87, 68]⟩ : ByteArray)[3]'(by decide)).toNat : Int) == c) = false := by show ((68 : Int) == c) = false; simpa using (Ne.symm h3)
          have ei : idxB c = -1 := by unfold idxB; rw [if_neg h0, if_neg h1, if_neg h2, if_neg h3]
          have eL : isL c = false := by unfold isL; rw [ei]; decide
          have eK : kindB c = 0 := by unfold kindB; rw [ei]; decide
          rw [eL, eK]
          clear h0 h1 h2 h3 ei eL eK
          go_enter Tryd.func24, Tryd.ntmps24
          go_wp2
          go_loop [4] (fun i => ∃ k : Nat, i = .int .i64 k ∧ k ≤ 4) (fun i => 4 - (intOf i).toNat)
          case atStart => exact ⟨0, rfl, by omega⟩
          case round =>
            obtain ⟨k, rfl, hk⟩ := hrel
            have : k = 0 ∨ k = 1 ∨ k = 2 ∨ k = 3 ∨ k = 4 := by omega
            rcases this with rfl | rfl | rfl | rfl | rfl
            · go_wp2
              go_round
              case rel => exact ⟨1, rfl, by omega⟩
              case measure => simp [intOf]
            · go_wp2
              go_round
              case rel => exact ⟨2, rfl, by omega⟩
              case measure => simp [intOf]
            · go_wp2
              go_round
              case rel => exact ⟨3, rfl, by omega⟩
              case measure => simp [intOf]
            · go_wp2
              go_round
              case rel => exact ⟨4, rfl, by omega⟩
              case measure => simp [intOf]
            · go_wp2
              go_ret2
              exact ⟨rfl, rfl⟩

end Go.Proofs.YtogcpoaclkomjaaDoor
