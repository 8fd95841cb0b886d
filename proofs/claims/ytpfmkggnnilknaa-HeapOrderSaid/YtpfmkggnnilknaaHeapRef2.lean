/- The document's New of layer 23, and items handed on as the program's. Conditions: the list can be read, and has a million million items at most. -/
import Derived.Test.YtpfmkggnnilknaaRows
import Derived.Test.YtpfmkggnnilknaaBase
import Derived.Test.YtpfmkggnnilknaaRow
import Derived.Test.YtpfmkggnnilknaaRecMath
import Derived.Test.YtpfmkggnnilknaaTriLt
import Derived.Test.YtpfmkggnnilknaaBox
import Derived.Test.YtpfmkggnnilknaaFindHeap
import Derived.Test.YtpfmkggnnilknaaTriHeap
import Derived.Test.YtpfmkggnnilknaaHeapMath
import Derived.Test.YtpfmkggnnilknaaHeapHeap
import Derived.Test.YtpfmkggnnilknaaHeapLeaf
import Derived.Test.YtpfmkggnnilknaaHeapApp
import Derived.Test.YtpfmkggnnilknaaHeapRef
import Derived.WalkKit
import Derived.WalkSpells
import Derived.WalkSmall
import Derived.Below
import Derived.Lib.Hide
import Derived.BigQuiet
import Derived.Outline
import Derived.OwnWalk
import Derived.Deep.QuietTactic
import Derived.Deep.DeepCutAuto
import Derived.Deep.RegionWith
import Derived.Deep.LoopGhost
import Derived.Laws.CopyRow
import Derived.Laws.OwnMore
namespace Go.Proofs.Ytpfmkggnnilknaa
open Go.RowKit

theorem take_snoc {s : List Rc} {k : Nat} {x : Rc} (hk : k < s.length) (h : s.getD k rz = x) : s.take (k + 1) = s.take k ++ [x] := by
  have e : s[k] = x := by rw [← h]; simp [List.getD, hk]
  rw [← List.take_append_getElem hk, e]

set_option maxHeartbeats 1600000 in
theorem refnew23_any (A : Option Addr) (n c : Nat) (s : List Rc) (w : World) (hn : s.length = n) (hr : RdF w A s) (hl : n ≤ 1000000000000) :
    Calls Try.prog 14 #[.slice A n c] w fun e w' => ∃ v, e = .returned v ∧ OwnT 37 w.heap.size w' v (srt s) ∧ Below w.heap.size w w' := by
  have HR := Lib.hid hr
  have HN := Lib.hid hn
  clear hr hn
  go_enter Try.func14, Try.ntmps14
  go_wp2
  go_loopw [3, 4] (fun s3 i wr => ∃ (k : Nat) (v : Value), v = s3 ∧ i = .int .i64 k ∧ k ≤ n ∧ Below w.heap.size w wr ∧ Hid (OwnT 37 w.heap.size wr v (srt (s.take k)))) (fun _ i _ => n - (intOf i).toNat)
  case atStart => exact ⟨0, _, rfl, rfl, Nat.zero_le _, Below.refl _ _, Lib.hid (OwnT.nil _ _ _)⟩
  case round =>
    obtain ⟨k, v, rfl, rfl, hk, hbw, HO⟩ := hrel
    by_cases hlt : k < n
    · obtain ⟨b, off, y0, y1, y2, rfl, hbb, hc0, hc1, hc2, hs⟩ := HR.out.at_ (k := k) (by rw [HN.out]; exact hlt)
      rw [← hbw.cell (p := ⟨b, _, none⟩) hbb] at hc0 hc1 hc2
      obtain ⟨A', c', rfl, r1, r2, r3, r4⟩ := HO.out.form
      have CP := refpush23_any A' (srt (s.take k)).length c' (srt (s.take k)) (y0, y1, y2) wr rfl r1 r2 r3 (by rcases r4 with h | ⟨q, h, _⟩; (· exact .inl h); (· exact .inr ⟨q, 0, h⟩)) (by rw [srt_len]; simp; omega)
      have HT := Lib.hid (show srt (s.take (k + 1)) = ins (y0, y1, y2) (srt (s.take k)) by rw [take_snoc (by rw [HN.out]; exact hlt) hs.out, srt_snoc])
      unfold itV at CP
      simp only at CP
      have hlt' : (k : Int) < n := by omega
      clear r1 r2 r3 r4
      go_wp2_with (go_at_call 15; refine CP.mono ?_; rintro e w1 ⟨v1, rfl, o1, hb1⟩; have O1 := Lib.hid o1; have HB1 := Lib.hid hb1; clear o1 hb1)
      go_roundw
      case rel =>
        have hsz := hbw.size
        exact ⟨k + 1, v1, rfl, by go_num, by omega, hbw.trans (HB1.out.mono hsz), Lib.hid (by rw [HT.out]; exact row_more O1.out hsz)⟩
      case measure => simp [intOf]; omega
    · have HE := Lib.hid (show s.take k = s from List.take_of_length_le (by rw [HN.out]; omega))
      go_wp2
      go_ret
      refine ⟨v, rfl, ?_, hbw⟩
      have h := HO.out
      rw [HE.out] at h
      exact h

set_option maxHeartbeats 1600000 in
theorem give23_any (A : Option Addr) (n c : Nat) (s : List Rc) (w : World) (hn : s.length = n) (hr : RdF w A s) (hl : n ≤ 1000000000000) :
    Calls Try.prog 13 #[.slice A n c] w fun e w' => ∃ v, e = .returned v ∧ OwnT 28 w.heap.size w' v s ∧ Below w.heap.size w w' := by
  have HR := Lib.hid hr
  have HN := Lib.hid hn
  clear hr hn
  go_enter Try.func13, Try.ntmps13
  go_wp2
  go_loopw [3, 8] (fun s3 i wr => ∃ (k : Nat) (v : Value), v = s3 ∧ i = .int .i64 k ∧ k ≤ n ∧ Below w.heap.size w wr ∧ Hid (OwnT 28 w.heap.size wr v (s.take k))) (fun _ i _ => n - (intOf i).toNat)
  case atStart => exact ⟨0, _, rfl, rfl, Nat.zero_le _, Below.refl _ _, Lib.hid (OwnT.nil _ _ _)⟩
  case round =>
    obtain ⟨k, v, rfl, rfl, hk, hbw, HO⟩ := hrel
    by_cases hlt : k < n
    · obtain ⟨b, off, y0, y1, y2, rfl, hbb, hc0, hc1, hc2, hs⟩ := HR.out.at_ (k := k) (by rw [HN.out]; exact hlt)
      rw [← hbw.cell (p := ⟨b, _, none⟩) hbb] at hc0 hc1 hc2
      have HT := Lib.hid (take_snoc (by rw [HN.out]; exact hlt) hs.out)
      have hlt' : (k : Int) < n := by omega
      have hsz := hbw.size
      have hlen : (s.take k).length ≤ 1000000000000 := by simp; omega
      have HLN := Lib.hid hlen
      clear hlen
      go_wp2_with (refine wpList_app3 (by rfl) 32 28 Try.underlying32 info_item _ _ rfl w.heap.size v (s.take k) rfl (OwnT.alloc (OwnT.alloc HO.out _) _) (some ⟨wr.heap.size + 1, 0, none⟩) 1 1 [(y0, y1, y2)] (by first | rfl | simp) rfl (RdF.one (Bx.new _ _ (by simp))) (fun h => by cases h) (by have := HLN.out; omega) (by simp; omega) (fun v5 w5 o5 g5 a5 => ?_))
      go_roundw
      case rel =>
        have hb2 := b_al (b_al hbw (Nat.le_refl _) (.cells #[.int .i64 y0, .int .i64 y1, .int .i64 y2] 37)) (Nat.le_refl _) (.cells #[.int .i64 y0, .int .i64 y1, .int .i64 y2] 28)
        exact ⟨k + 1, v5, rfl, by go_num, by omega, hb2.grown g5 hb2.size (fun q hq => (World.ownsRow.lt HO.out q hq).1), Lib.hid (by rw [HT.out]; exact o5)⟩
      case measure => simp [intOf]; omega
    · have HE := Lib.hid (show s.take k = s from List.take_of_length_le (by rw [HN.out]; omega))
      go_wp2
      go_ret
      refine ⟨v, rfl, ?_, hbw⟩
      have h := HO.out
      rw [HE.out] at h
      exact h

end Go.Proofs.Ytpfmkggnnilknaa
