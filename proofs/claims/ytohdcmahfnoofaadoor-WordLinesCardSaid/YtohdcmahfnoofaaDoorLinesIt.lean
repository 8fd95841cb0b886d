/- What the library's iterator over lines does at this program: it hands each line on, with the byte that ends it. Conditions: the text has at most a million bytes, and its last line is ended. -/
import Derived.Test.YtohdcmahfnoofaaDoorLinesM
import Derived.Test.YtohdcmahfnoofaaDoorWordHeap
import Derived.Test.YtohdcmahfnoofaaDoorStrs
import Derived.RangeFuncBox
import Derived.RangeFuncNested
import Derived.RangeFuncBound
import Derived.RangeFuncCalls
import Derived.RangeFuncLeaves
import Derived.Shelf.Abstract
import Derived.Shelf.RegionOpen
import Derived.WalkKit
import Derived.OwnWalkIn
import Derived.TacticsInMore
import Derived.LoopNIn
import Derived.LoopIn
namespace Go.Proofs.YtohdcmahfnoofaaDoor
open Go.RowKit Go.Shelf

/-- How many bytes are left in the iterator's variable. -/
def leftIn (B : Nat) (W : World) : Nat := match W.cell? ⟨B, 0, none⟩ with
  | some (.string r) => r.size
  | _ => 0

theorem leftIn_eq {B : Nat} {W : World} {r : ByteArray} (h : W.cell? ⟨B, 0, none⟩ = some (.string r)) : leftIn B W = r.size := by
  unfold leftIn
  rw [h]

set_option maxRecDepth 100000 in
set_option maxHeartbeats 2000000 in
theorem iter_in (n : Nat) (hn : 1 ≤ n) (l B : Nat) (s : ByteArray) (hs : s.size ≤ 1000000) (he : pbeg 10 s s.size = s.size) (J : List ByteArray → World → Prop)
    (hY : ∀ pre x W, J pre W → 1 ≤ x.size → x.size ≤ 1000000 → pre.length < 1000000 → YieldAt Fence.wide (n - 1) Tryd.prog l #[.string x] W fun e W' => e = .returned (.bool true) ∧ J (pre ++ [x]) W' ∧ W'.heap[B]? = W.heap[B]?)
    (hset : ∀ pre W u, J pre W → J pre (W.setCell ⟨B, 0, none⟩ u)) (hdrew : ∀ pre W, J pre W → J pre W.drew)
    (W : World) (hB : Boxed W B 9 (.string s)) (h0 : J [] W) :
    CallsIn Fence.wide n Tryd.prog 34 #[.func (.yield l) #[] #[], .pointer (some ⟨B, 0, none⟩)] W fun e W' => (∃ v, e = .returned v) ∧ J ((pdone 10 s s.size).map (ended s)) W' := by
  have HE := Lib.hid he
  clear he
  have hx0 : s.extract 0 s.size = s := ba_ext (by rw [ext_list, List.take_of_length_le (Nat.le_of_eq (size_list s))]; rfl)
  have HX0 := Lib.hid hx0
  clear hx0
  refine callsIn_of_wp Tryd.func34 rfl trivial ?_ rfl
  simp only [Tryd.ntmps34, List.size_toArray, List.length_cons, List.length_nil, Nat.reduceAdd, Nat.reduceSub, Array.replicate_succ, Array.replicate_zero, List.push_toArray, List.append_toArray, List.nil_append, List.cons_append]
  gi_wp2
  gi_loopw [3] (fun _ wr => ∃ p : Nat, p ≤ s.size ∧ Hid (pbeg 10 s p = p) ∧ Hid (Boxed wr B 9 (.string (s.extract p s.size))) ∧ Hid (J ((pdone 10 s p).map (ended s)) wr))
    (fun _ wr => leftIn B wr)
  case atStart => exact ⟨0, Nat.zero_le _, Lib.hid rfl, Lib.hid (by rw [HX0.out]; exact hB), Lib.hid h0⟩
  case round =>
    obtain ⟨p, hp, HP, HB, HJ⟩ := hrel
    have hc := HB.out.cell
    have hf := HB.out.frozen
    have hsz : (s.extract p s.size).size = s.size - p := by rw [ByteArray.size_extract]; omega
    by_cases hlt : p < s.size
    · obtain ⟨q, hq, hpq, h10, hno⟩ := next_end hlt HP.out HE.out
      have HI := Lib.hid (index_next hq hpq h10 hno)
      have HN := Lib.hid (line_next hq hpq HP.out h10 hno)
      have hl0 := pdone_len 10 s p
      have e1 := ext_head (t := s) hpq
      have e2 := ext_tail (t := s) hpq
      have HXS : Hid (1 ≤ (s.extract p (q + 1)).size ∧ (s.extract p (q + 1)).size ≤ 1000000) := Lib.hid (by rw [ByteArray.size_extract]; omega)
      obtain ⟨r, hr⟩ : ∃ r, s.extract p s.size = r := ⟨_, rfl⟩
      obtain ⟨j, hj⟩ : ∃ j, q - p = j := ⟨_, rfl⟩
      rw [hr, hj] at e1 e2
      rw [hr] at hsz hc
      have K := fun W => index_any r 10 W
      rw [← hr, show ((10 : Int).toNat.toUInt8) = 10 from rfl, HI.out, hr, hj] at K
      have hjr : j < r.size := by omega
      have j0 : (0 : Int) < (r.size : Int) := by omega
      have j1 : (j : Int) + 1 ≤ (r.size : Int) := by omega
      have j2 : (0 : Int) ≤ (j : Int) := by omega
      have j3 : ((j : Int) + 1).toNat = j + 1 := by omega
      have j4 : j + 1 ≤ r.size := by omega
      have hrs : r.size ≤ 1000000 := by omega
      have HR := Lib.hid hr
      have HJQ := Lib.hid hj
      generalize hx : s.extract p (q + 1) = x at e1 HXS
      generalize hrest : s.extract (q + 1) s.size = rest at e2
      have HX := Lib.hid hx
      have HREST := Lib.hid hrest
      clear hr hj hx hrest h10 hno
      have r1 : ∀ W : World, (Instr.slice 9 (.string r) none (some (.int .i64 ((j : Int) + 1))) none).run Tryd.prog W = .ok (.string x) W := fun W => by
        have h := run_slice_string_h W _ r Tryd.underlying9 .i64 ((j : Int) + 1) (by omega) j1
        rw [j3, e1] at h
        exact h
      have r2 : ∀ W : World, (Instr.slice 9 (.string r) (some (.int .i64 ((j : Int) + 1))) none none).run Tryd.prog W = .ok (.string rest) W := fun W => by
        have h := run_slice_string_l W 9 r Tryd.underlying9 .i64 ((j : Int) + 1) (by omega) j1
        rw [j3, e2] at h
        exact h
      clear e1 e2
      have hpl : ((pdone 10 s p).map (ended s)).length < 1000000 := by rw [List.length_map]; omega
      obtain ⟨fn, tmps, assign, body, hy, hR⟩ := hY _ x ((wr.setCell ⟨B, 0, none⟩ (.string rest)).drew) (hdrew _ _ (hset _ _ (.string rest) HJ.out)) HXS.out.1 HXS.out.2 hpl
      have HYR := Lib.hid hR
      clear hR hpl
      gi_wp2_with (refine ⟨trivial, ?_⟩; gi_at_call 35; refine (callsIn_wide.2 (K _)).mono ?_; rintro e w2 ⟨rfl, hw2⟩; obtain rfl := hw2.symm)
      gi_region
      gi_wp2
      refine HYR.out.mono ?_
      rintro e W3 ⟨rfl, hJ3, hB3⟩
      have HB3 : Hid (Boxed W3 B 9 (.string rest)) := Lib.hid (by
        have h := HB.out.set (.string rest)
        exact hB3.trans h)
      have hm3 := leftIn_eq HB3.out.cell
      have HJ3 := Lib.hid hJ3
      clear hJ3 hB3 hy
      gi_wp2
      go_roundw
      case rel => exact ⟨q + 1, by omega, Lib.hid HN.out.1, Lib.hid (by rw [HREST.out]; exact HB3.out), Lib.hid (by
        have h := HJ3.out
        rw [HN.out.2.1, List.map_append, List.map_singleton, HN.out.2.2, HX.out]
        exact h)⟩
      case measure =>
        rw [leftIn_eq hc, hm3, ← HREST.out, ByteArray.size_extract]
        omega
    · obtain rfl : p = s.size := by omega
      have hz0 : ((s.extract s.size s.size).size : Int) = 0 := by rw [hsz]; simp
      gi_wp2
      go_end0
      exact ⟨⟨_, rfl⟩, HJ.out⟩

end Go.Proofs.YtohdcmahfnoofaaDoor
