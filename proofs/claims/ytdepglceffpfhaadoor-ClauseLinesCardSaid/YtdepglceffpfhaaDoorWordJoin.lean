/- What Join of layer 6 returns, for any texts that can be read. Conditions: together they have at most a million bytes. -/
import Derived.Test.YtdepglceffpfhaaDoorWordHeap
import Derived.Test.YtdepglceffpfhaaDoorWordBuild
import Derived.Test.YtdepglceffpfhaaDoorStrs
import Derived.WalkSmall
import Derived.Outline
namespace Go.Proofs.YtdepglceffpfhaaDoor
open Go.RowKit

theorem joinB_more {l : List ByteArray} {k : Nat} {s : ByteArray} (hk : k < l.length) (hs : l.getD k ⟨#[]⟩ = s) : l.take (k + 1) = l.take k ++ [s] := by
  rw [List.take_succ_eq_append_getElem hk]
  congr 2
  rw [← hs]
  simp [hk]

theorem joinB_take_le (l : List ByteArray) (k : Nat) : (joinB (l.take k)).length ≤ (joinB l).length := by
  have e : l = l.take k ++ l.drop k := (List.take_append_drop k l).symm
  cases h : l.take k with
  | nil => simp [joinB]
  | cons a r =>
    rw [h] at e
    rw [e]
    simp [joinB]

theorem cells_join (l : List UInt8) (s : ByteArray) : Lib.byteCells l ++ Lib.strCells s = Lib.byteCells (l ++ s.data.toList) := by simp [Lib.byteCells, Lib.strCells]
theorem cells_blank (l : List UInt8) : Lib.byteCells l ++ [.int .u8 32] = Lib.byteCells (l ++ [32]) := by simp [Lib.byteCells]
theorem cells_len (l : List UInt8) : (Lib.byteCells l).length = l.length := by simp [Lib.byteCells]

theorem is_used {B b : Nat} {bs : List Value} {w : World} (h : Lib.BuilderAtF 80 5 B b (.pointer (some ⟨b, 0, none⟩)) bs w) : Lib.IsBuilderF 80 5 B b bs w := .inr h

set_option maxHeartbeats 1000000 in
theorem join_any (A : Option Addr) (c n : Nat) (l : List ByteArray) (w : World) (hn : l.length = n) (hr : RdT w A l) (hs : (joinB l).length ≤ 1000000) (hn2 : n ≤ 1000000) :
    Calls Tryd.prog 31 #[.slice A n c] w fun e w' => e = .returned (.string ⟨(joinB l).toArray⟩) ∧ Below w.heap.size w w' := by
  have HNL := Lib.hid hn
  have HR := Lib.hid hr
  clear hn hr
  have hfresh := Lib.IsBuilderF.of (Lib.fresh_isBuilder 80 5 w)
  have HF := Lib.hid hfresh
  clear hfresh
  go_enter Tryd.func31, Tryd.ntmps31
  go_wp2
  go_loopw [8] (fun i wr => ∃ k : Nat, k ≤ n ∧ i = .int .i64 k ∧ Hid (Lib.IsBuilderF 80 5 w.heap.size w.heap.size (Lib.byteCells (joinB (l.take k))) wr) ∧ Below w.heap.size w wr) (fun i _ => n - (intOf i).toNat)
  case atStart => exact ⟨0, Nat.zero_le _, rfl, HF, (Below.refl _ _).alloc (Nat.le_refl _) _⟩
  case round =>
    obtain ⟨k, hk, rfl, HB, hb⟩ := hrel
    have hwz := hb.size
    have hle := joinB_take_le l k
    by_cases hlt : k < n
    · obtain ⟨b, off, s, rfl, hbb, q1, hs1⟩ := HR.out.at_ (k := k) (by rw [HNL.out]; exact hlt)
      rw [← hb.cell (p := ⟨b, _, none⟩) hbb] at q1
      have hmore := joinB_more (by rw [HNL.out]; exact hlt) hs1.out
      have HM := Lib.hid hmore
      have hle2 := joinB_take_le l (k + 1)
      rw [hmore] at hle2
      by_cases hk0 : k = 0
      · have h0 : l.take k = [] := by rw [hk0]; rfl
        have HJ : Hid (joinB (l.take k ++ [s]) = joinB (l.take k) ++ s.data.toList) := Lib.hid (by rw [h0]; simp [joinB])
        have hz : (joinB (l.take k)).length + s.size ≤ 1000000 := by
          rw [HJ.out, List.length_append, size_list] at hle2
          omega
        have g0 : ¬ (0 : Int) < (k : Int) := by omega
        clear h0 hmore hk0
        go_wp2_with (go_at_call 43; (with_reducible refine (wstr_any w.heap.size w.heap.size _ s _ HB.out (by rw [cells_len]; omega) (by omega)).mono ?_); rintro e w2 ⟨rfl, h2, hb2⟩; have H2 := Lib.hid h2; clear h2)
        go_roundw
        case rel => exact ⟨k + 1, by omega, by go_num, Lib.hid (by rw [HM.out, HJ.out, ← cells_join]; exact .inr H2.out), hb.trans hb2⟩
        case measure => simp [intOf]; omega
      · have h0 : l.take k ≠ [] := by
          intro h
          have := congrArg List.length h
          rw [List.length_take, HNL.out] at this
          simp at this
          omega
        have HJ : Hid (joinB (l.take k ++ [s]) = (joinB (l.take k) ++ [32]) ++ s.data.toList) := Lib.hid (by rw [joinB_snoc s h0]; simp)
        have hz : (joinB (l.take k)).length + 1 + s.size ≤ 1000000 := by
          rw [HJ.out, List.length_append, List.length_append, size_list] at hle2
          simp at hle2
          omega
        have g0 : (0 : Int) < (k : Int) := by omega
        clear h0 hmore hk0
        go_wp2_with (first
          | (go_at_call 42; (with_reducible refine (wbyte_any w.heap.size w.heap.size _ 32 _ HB.out (by rw [cells_len]; omega) (by omega)).mono ?_); rintro e w1 ⟨rfl, h1, hb1⟩; rw [cells_blank] at h1; have H1 := Lib.hid (is_used h1); have hz1 := hb1.size; clear h1)
          | (go_at_call 43; (with_reducible refine (wstr_any w.heap.size w.heap.size _ s _ H1.out (by rw [cells_len]; simp; omega) (by omega)).mono ?_); rintro e w2 ⟨rfl, h2, hb2⟩; have H2 := Lib.hid h2; clear h2))
        go_roundw
        case rel => exact ⟨k + 1, by omega, by go_num, Lib.hid (by rw [HM.out, HJ.out, ← cells_join]; exact .inr H2.out), (hb.trans hb1).trans hb2⟩
        case measure => simp [intOf]; omega
    · have HT : Hid (l.take k = l) := Lib.hid (List.take_of_length_le (by rw [HNL.out]; omega))
      go_wp2_with (go_at_call 44; (with_reducible refine (bstr_any w.heap.size w.heap.size _ _ HB.out (by omega)).mono ?_); rintro e w2 ⟨rfl, h2, hb2, _⟩)
      go_ret
      rw [HT.out]
      exact ⟨rfl, hb.trans hb2⟩

end Go.Proofs.YtdepglceffpfhaaDoor
