/- What the document's own Kinds of layer 8 returns: the kind of each minute of a timeline. Conditions: the records can be read, and are a timeline. -/
import Derived.Test.YteepjpegojlihaaRows
import Derived.Test.YteepjpegojlihaaBase
import Derived.Test.YteepjpegojlihaaRow
import Derived.Test.YteepjpegojlihaaRecMath
import Derived.Test.YteepjpegojlihaaRecHeap
import Derived.WalkKit
import Derived.WalkSpells
import Derived.WalkSmall
import Derived.Below
import Derived.Outline
import Derived.OwnWalk
import Derived.Lib.Hide
import Derived.BigQuiet
import Derived.Deep.QuietTactic
namespace Go.Proofs.Yteepjpegojlihaa
open Go.RowKit

theorem rep_more (ks : List Int) (q : Nat) (x : Int) : ks ++ List.replicate (q + 1) x = ks ++ List.replicate q x ++ [x] := by
  rw [List.replicate_succ', List.append_assoc]

set_option maxRecDepth 100000 in
set_option maxHeartbeats 4000000 in
theorem refkinds_any (A : Option Addr) (c : Nat) (l : List Rc) (w : World) (h : RdR w A l) {e : Int} (ht : Tl e l) (hl : l.length ≤ 4611686018427387904) :
    Calls Try.prog 27 #[.slice A l.length c] w fun e w' => ∃ v, e = .returned v ∧ OwnN w.heap.size w' v (kindsV l) ∧ Below w.heap.size w w' := by
  obtain ⟨i1, hj, hy0, hy1, hy2⟩ := info_parts info_int
  have HR := Lib.hid h
  have HT := Lib.hid ht
  clear h ht
  go_enter Try.func27, Try.ntmps27
  go_wp2
  go_loopw [3, 4] (fun v i wr => ∃ (k n : Nat) (A' : Option Addr) (c' : Nat), k ≤ l.length ∧ i = .int .i64 k ∧ v = .slice A' n c' ∧ Hid ((kindsV (l.take k)).length = n) ∧
      Hid (OwnN w.heap.size wr (.slice A' n c') (kindsV (l.take k))) ∧ Below w.heap.size w wr) (fun _ i _ => l.length - (intOf i).toNat)
  case atStart => exact ⟨0, 0, none, 0, Nat.zero_le _, rfl, rfl, Lib.hid rfl, Lib.hid (OwnN.nil _ _), Below.refl _ _⟩
  case round =>
    obtain ⟨k, n, A', c', hk, rfl, rfl, HON, hown, hb⟩ := hrel
    obtain ⟨w2, rfl⟩ : ∃ w2 : World, w2 = wr := ⟨_, rfl⟩
    have hsz := hb.size
    by_cases hlt : k < l.length
    · obtain ⟨b, off, x, y, z, rfl, hbb, hc0, hc1, hc2, hs⟩ := HR.out.at_ hlt
      have HC := Lib.hid (And.intro hc0 hc2)
      rw [← hb.cell (p := ⟨b, _, none⟩) hbb] at hc0 hc1 hc2
      have hbr : b < w2.heap.size := by omega
      have KM := Lib.hid (kinds_more hlt hs.out)
      have KL := Nat.le_trans (kinds_take l (k + 1)) HT.out.short
      have bd := HT.out.at_ k hlt
      rw [hs.out] at bd
      obtain ⟨_, bd0, bd1, bd2⟩ := bd
      obtain ⟨ks, hks⟩ : ∃ ks, kindsV (l.take k) = ks := ⟨_, rfl⟩
      rw [hks] at HON hown KM
      rw [KM.out, List.length_append, List.length_replicate, HON.out] at KL
      clear hks hs
      go_wp2
      go_loopw [3, 5] (fun v m w4 => ∃ (q n4 : Nat) (A4 : Option Addr) (c4 : Nat), y + (q : Int) ≤ z ∧ m = .int .i64 (y + (q : Int)) ∧ v = .slice A4 n4 c4 ∧ Hid ((ks ++ List.replicate q x).length = n4) ∧ n4 = n + q ∧
          Hid (OwnN w.heap.size w4 (.slice A4 n4 c4) (ks ++ List.replicate q x)) ∧ Below w.heap.size w w4) (fun _ m _ => (z - intOf m).toNat)
      case atStart => exact ⟨0, n, A', c', by omega, by simp, rfl, Lib.hid (by simpa using HON.out), rfl, Lib.hid (by simpa using hown.out), hb⟩
      case round =>
        clear hc0 hc1 hc2
        obtain ⟨q, n4, A4, c4, hq, rfl, rfl, HON4, hn4, hown4, hb4⟩ := hrel
        obtain ⟨w4, rfl⟩ : ∃ w4 : World, w4 = wr := ⟨_, rfl⟩
        have hsz4 := hb4.size
        obtain ⟨hc0, hc2⟩ := HC.out
        rw [← hb4.cell (p := ⟨b, _, none⟩) hbb] at hc0 hc2
        have hbr4 : b < w4.heap.size := by omega
        by_cases hqz : y + (q : Int) < z
        · have RM := Lib.hid (rep_more ks q x)
          have hnb : (ks ++ List.replicate q x).length ≤ 40320 := by have := HON4.out; omega
          have HL5 := Lib.hid (show (ks ++ List.replicate q x ++ [x]).length = n4 + 1 by rw [List.length_append, HON4.out]; rfl)
          have HN4 := Lib.hid hn4
          clear hn4
          go_wp2_with (at_builtin; refine wpList_append_own _ rfl _ _ 30 rfl w.heap.size 3 i1 (.int .i64 0) 1 8 Try.underlying30 hj hy0 hy1 hy2 rfl (by decide) _ _ _ rfl (OwnN.alloc hown4.out _) ⟨w4.heap.size, 0, none⟩ 1 1 [.int .i64 x] rfl rfl (int_news rfl) int_cells (by unfold maxLen; omega) (by omega) (by have := hb4.size; simp; omega) ?_; intro v5 w5 hown5 hgrow5 _; have HS := Lib.hid (OwnN.snoc hown5); have HB5 := Lib.hid ((hb4.alloc hb4.size (.cells #[.int .i64 x] 3)).grown hgrow5 (by have := hb4.size; simp; omega) (fun q hq => (World.ownsRow.lt hown4.out q hq).1)); clear hown5 hgrow5)
          obtain ⟨A5, c5, rfl, _⟩ := HS.out.read
          go_wp2
          go_roundw
          case rel => exact ⟨q + 1, n4 + 1, A5, c5, by omega, by go_num, by rw [HL5.out], Lib.hid (by rw [RM.out]; exact HL5.out), by have := HN4.out; omega, Lib.hid (by rw [RM.out]; have := HS.out; rw [HL5.out] at this; exact this), HB5.out⟩
          case measure => simp [intOf]; omega
        · have hqd : q = (z - y).toNat := by omega
          have KE := Lib.hid (KM.out.trans (by rw [← hqd]))
          clear hqd hn4
          go_wp2
          go_roundw
          case rel => exact ⟨k + 1, n4, A4, c4, by omega, by go_num, rfl, Lib.hid (by rw [KE.out]; exact HON4.out), Lib.hid (by rw [KE.out]; exact hown4.out), hb4⟩
          case measure => simp [intOf]; omega
    · have hkl : k = l.length := by omega
      subst hkl
      have HE := Lib.hid (show kindsV (l.take l.length) = kindsV l by rw [List.take_of_length_le (Nat.le_refl _)])
      rw [HE.out] at hown
      go_wp2
      go_ret
      exact ⟨_, rfl, hown.out, hb⟩

end Go.Proofs.Yteepjpegojlihaa
