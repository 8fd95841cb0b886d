/- What the document's own Text and Of of layer 9 return. Conditions: the kinds (the records) can be read. -/
import Derived.Test.YtllinfcdbbmjaaaRows
import Derived.Test.YtllinfcdbbmjaaaBase
import Derived.Test.YtllinfcdbbmjaaaRow
import Derived.Test.YtllinfcdbbmjaaaRecMath
import Derived.Test.YtllinfcdbbmjaaaRecHeap
import Derived.Test.YtllinfcdbbmjaaaRecCheckR
import Derived.Test.YtllinfcdbbmjaaaRecSmall
import Derived.Test.YtllinfcdbbmjaaaRecKinds
import Derived.Test.YtllinfcdbbmjaaaViewMath
import Derived.WalkKit
import Derived.WalkSpells
import Derived.WalkSmall
import Derived.Below
import Derived.Outline
import Derived.OwnWalk
import Derived.Lib.Hide
import Derived.BigQuiet
import Derived.BigRegion
import Derived.Deep.QuietTactic
import Derived.Laws.BytesArg
namespace Go.Proofs.Ytllinfcdbbmjaaa
open Go.RowKit

theorem letter_cut {x : Int} (h0 : 0 ≤ x) (h1 : x < 4) (W : World) : (Instr.slice 9 (.string ⟨#[82, 65, 87, 68]⟩) (some (.int .i64 x)) (some (.int .i64 (x + 1))) none).run Try.prog W = .ok (.string ⟨#[ltB x]⟩) W := by
  have h := run_slice_string (P := Try.prog) (w := W) 9 ⟨#[82, 65, 87, 68]⟩ .i64 .i64 x (x + 1) Try.underlying9 h0 (by omega) (by show x + 1 ≤ 4; omega)
  rw [h]
  have : x = 0 ∨ x = 1 ∨ x = 2 ∨ x = 3 := by omega
  rcases this with rfl | rfl | rfl | rfl <;> rfl

set_option maxRecDepth 100000 in
set_option maxHeartbeats 2000000 in
theorem text_any (A : Option Addr) (c n : Nat) (ks : List Int) (w : World) (hn : Hid (ks.length = n)) (h : RdN w A ks) (hk : Hid (∀ x ∈ ks, 0 ≤ x ∧ x < 4)) (hl : n ≤ 1000000) :
    Calls Try.prog 28 #[.slice A n c] w fun e w' => e = .returned (.string (textV ks)) ∧ Below w.heap.size w w' := by
  have HR := Lib.hid h
  clear h
  go_enter Try.func28, Try.ntmps28
  go_wp2
  go_loopw [3, 4] (fun v i wr => ∃ (k : Nat) (t : ByteArray), k ≤ n ∧ i = .int .i64 k ∧ v = .string t ∧ t.size = k ∧ Hid (textV (ks.take k) = t) ∧ Below w.heap.size w wr) (fun _ i _ => n - (intOf i).toNat)
  case atStart => exact ⟨0, ⟨#[]⟩, Nat.zero_le _, rfl, rfl, rfl, Lib.hid rfl, Below.refl _ _⟩
  case round =>
    obtain ⟨k, t, hkn, rfl, rfl, hts, HT, hb⟩ := hrel
    by_cases hlt : k < n
    · obtain ⟨b, off, x, rfl, hbb, hc, hx⟩ := HR.out.at_ (k := k) (by rw [hn.out]; exact hlt)
      rw [← hb.cell (p := ⟨b, _, none⟩) hbb] at hc
      obtain ⟨x0, x1⟩ := hk.out x (List.mem_of_getElem? hx.out)
      have TM := Lib.hid (text_more hx.out)
      have r1 := fun W => letter_cut x0 x1 W
      have r2 : ∀ W : World, (Op.stringOp .add t ⟨#[ltB x]⟩).run Try.prog W = .ok (.string (t ++ ⟨#[ltB x]⟩)) W := fun W => run_string_add_sum W _ _ (by show t.size + 1 ≤ _; omega)
      have z1 : IntKind.i64.wrap (x + 1) = x + 1 := IntWalk.i64_in _ ⟨by omega, by omega⟩
      have k1 : (k : Int) < (n : Int) := by omega
      have k0 : (0 : Int) ≤ (k : Int) := by omega
      have hsz : (t ++ ⟨#[ltB x]⟩).size = k + 1 := by rw [ByteArray.size_append, hts]; rfl
      have HS := Lib.hid hsz
      have HX := Lib.hid (And.intro x0 x1)
      clear hsz x0 x1 hx
      go_wp2
      go_quiet (fail)
      go_wp2
      go_roundw
      case rel => exact ⟨k + 1, t ++ ⟨#[ltB x]⟩, by omega, by go_num, rfl, HS.out, Lib.hid (by rw [TM.out, HT.out]), b_dn hb⟩
      case measure => simp [intOf]; omega
    · have HE := Lib.hid (show textV (ks.take k) = textV ks by rw [List.take_of_length_le (by rw [hn.out]; omega)])
      go_wp2
      go_ret
      refine ⟨?_, hb⟩
      rw [← HE.out, HT.out]
      rfl

set_option maxRecDepth 100000 in
set_option maxHeartbeats 2000000 in
theorem refof9_any (A : Option Addr) (c : Nat) (l : List Rc) (w : World) (h : RdR w A l) (hl : l.length ≤ 1000000) :
    Calls Try.prog 10 #[.slice A l.length c] w fun e w' => e = .returned (.tuple #[.int .i64 (viewV l).1, .string (viewV l).2.1, .int .i64 (viewV l).2.2]) ∧ Below w.heap.size w w' := by
  have CK := fun W (hr : RdR W A l) => refrcheck_any A c l W hr (by omega)
  have HR := Lib.hid h
  by_cases h0 : (checkV l).2 = 0
  · rw [view_ok h0]
    have BG := fun W (hr : RdR W A l) => refbeg_any A c l.length l W (Lib.hid rfl) hr (by omega)
    have KD := fun W (hr : RdR W A l) => refkinds_any A c l W hr (check_tl h0) (by omega)
    have KB := Lib.hid (check_tl h0).kinds
    have KS := (check_tl h0).short
    have TX := fun B d n W (hn : Hid ((kindsV l).length = n)) (hr : RdN W B (kindsV l)) => text_any B d n (kindsV l) W hn hr KB (by rw [← hn.out]; omega)
    rw [tl_check (check_tl h0)] at CK
    have HKS := Lib.hid KS
    clear h h0 KS
    generalize beg l = bl at *
    generalize kindsV l = ks at *
    go_enter Try.func10, Try.ntmps10
    go_wp2_with (first
      | (go_at_call 27; (with_reducible refine (CK _ HR.out).mono ?_); rintro e w1 ⟨rfl, hb1⟩; have HR1 := Lib.hid (HR.out.below hb1))
      | (go_at_call 22; (with_reducible refine (BG _ HR1.out).mono ?_); rintro e w2 ⟨rfl, rfl⟩)
      | (go_at_call 21; (with_reducible refine (KD _ HR1.out).mono ?_); rintro e w3 ⟨v, rfl, ho, hb3⟩; obtain ⟨B, d, rfl, hr⟩ := ho.read; have HN := Lib.hid hr; obtain ⟨m, hm⟩ : ∃ m, ks.length = m := ⟨_, rfl⟩; have HM := Lib.hid hm; rw [hm]; clear ho hr hm)
      | (go_at_call 28; (with_reducible refine (TX _ _ _ _ HM HN.out).mono ?_); rintro e w4 ⟨rfl, hb4⟩))
    go_ret3
    exact ⟨rfl, b_cl (b_cl hb1 (Nat.le_refl _) hb3) (Nat.le_refl _) hb4⟩
  · rw [view_bad h0]
    obtain ⟨p, e, hv⟩ : ∃ p e, checkV l = (p, e) := ⟨_, _, rfl⟩
    rw [hv] at CK h0 ⊢
    have e1 : (e == 0) = false := by simpa using h0
    have e2 : (e != 0) = true := by simpa using h0
    clear h0 hv h
    go_enter Try.func10, Try.ntmps10
    go_wp2_with (go_at_call 27; (with_reducible refine (CK _ HR.out).mono ?_); rintro e w1 ⟨rfl, hb1⟩)
    go_ret3
    exact ⟨rfl, hb1⟩

end Go.Proofs.Ytllinfcdbbmjaaa
