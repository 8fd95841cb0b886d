/- What Each of layer 9 and its iterator do: the iterator hands each minute of the normal timeline on with its kind, in order, as long as the loop goes on. Conditions: the records can be read; at most a million. -/
import Derived.Test.YtllinfcdbbmjaaaRows
import Derived.Test.YtllinfcdbbmjaaaBase
import Derived.Test.YtllinfcdbbmjaaaRow
import Derived.Test.YtllinfcdbbmjaaaRecMath
import Derived.Test.YtllinfcdbbmjaaaRecHeap
import Derived.Test.YtllinfcdbbmjaaaRecNormal
import Derived.Test.YtllinfcdbbmjaaaViewMath
import Derived.RangeFuncBox
import Derived.RangeFuncNested
import Derived.RangeFuncBound
import Derived.RangeFuncCalls
import Derived.RangeFuncLeaves
import Derived.Shelf.Abstract
import Derived.Shelf.RegionOpen
import Derived.WalkKit
import Derived.WalkSpells
import Derived.WalkSmall
import Derived.OwnWalk
import Derived.OwnWalkIn
import Derived.TacticsInMore
import Derived.LoopNIn
import Derived.LoopIn
import Derived.KernelRfl
namespace Go.Proofs.Ytllinfcdbbmjaaa
open Go.RowKit Go.Shelf

/-- A minute with its kind. -/
abbrev Kd := { p : Int × Int // 0 ≤ p.2 ∧ p.2 < 4 }
def encK (x : Kd) : Array Value := #[.int .i64 x.1.1, .int .i64 x.1.2]

theorem kd_exist : ∀ (l : List (Int × Int)), (∀ p ∈ l, 0 ≤ p.2 ∧ p.2 < 4) → ∃ L : List Kd, L.map (·.1) = l
  | [], _ => ⟨[], rfl⟩
  | p :: l, h => by
    obtain ⟨L, hL⟩ := kd_exist l (fun q hq => h q (List.mem_cons_of_mem _ hq))
    exact ⟨⟨p, h p (List.mem_cons_self ..)⟩ :: L, by rw [List.map_cons, hL]⟩

theorem mins_kind {l : List Rc} (h : ∀ r ∈ l, 0 ≤ r.1 ∧ r.1 < 4) : ∀ p ∈ minsV l, 0 ≤ p.2 ∧ p.2 < 4 := by
  intro p hp
  obtain ⟨r, hr, hp⟩ := List.mem_flatMap.1 hp
  obtain ⟨i, _, rfl⟩ := List.mem_map.1 hp
  exact h r hr

/-- Blocks of records, and of slices of these, lie as they lay. -/
def KeepR (W W' : World) : Prop := W.heap.size ≤ W'.heap.size ∧ ∀ (b : Nat) (cs : Array Value) (t : TypeId) (x : Nat × Nat), t = 50 ∨ t = 22 → W.heap[b]? = some (Obj.cells cs t x) → W'.heap[b]? = some (Obj.cells cs t x)

theorem KeepR.refl (W : World) : KeepR W W := ⟨Nat.le_refl _, fun _ _ _ _ _ h => h⟩
theorem KeepR.trans {A B C : World} (h : KeepR A B) (k : KeepR B C) : KeepR A C := ⟨Nat.le_trans h.1 k.1, fun b cs t x ht hb => k.2 b cs t x ht (h.2 b cs t x ht hb)⟩
theorem KeepR.below {A B : World} (h : Below A.heap.size A B) : KeepR A B := ⟨h.size, fun b cs t x _ hb => by
  have hlt : b < A.heap.size := (Array.getElem?_eq_some_iff.1 hb).1
  rw [h.block b hlt]; exact hb⟩
theorem KeepR.turn (W : World) (l : Nat) (o o' : Obj) (hl : W.heap[l]? = some o) (ho : o.isCells = false) : KeepR W (W.putObj l o') := by
  refine ⟨by simp [World.putObj], fun b cs t x _ hb => ?_⟩
  rw [World.putObj_heap_other (by rintro rfl; rw [hl] at hb; injection hb with hb; subst hb; cases ho)]
  exact hb
theorem KeepR.grown {W W' : World} {row : Option Nat} (hg : W.grownBy W' row) (hr : ∀ r, row = some r → ∃ (cs : Array Value) (t : TypeId) (x : Nat × Nat), W.heap[r]? = some (Obj.cells cs t x) ∧ t ≠ 50 ∧ t ≠ 22) : KeepR W W' := by
  refine ⟨hg.size, fun b cs t x ht hb => ?_⟩
  have hlt : b < W.heap.size := (Array.getElem?_eq_some_iff.1 hb).1
  rw [hg.block b hlt (fun e => by
    obtain ⟨cs', t', x', h', n1, n2⟩ := hr b e.symm
    rw [h'] at hb
    injection hb with hb
    injection hb with _ e2 _
    subst e2
    rcases ht with e | e
    · exact n1 e
    · exact n2 e)]
  exact hb

theorem row_keep {base sz n : Nat} {w w' : World} {v : Value} {cs : List Value} (h : w.ownsRow base 50 sz v n cs) (hb : KeepR w w') : w'.ownsRow base 50 sz v n cs := by
  refine ⟨h.1, ?_⟩
  rcases h.2 with h2 | ⟨g, cap, cur, hv, hg, hh, r⟩
  · exact Or.inl h2
  · exact Or.inr ⟨g, cap, cur, hv, hg, hb.2 g _ _ _ (.inl rfl) hh, r⟩

theorem BoxR.atBlock {w : World} {B : Nat} {k x y : Int} (h : w.heap[B]? = some (.cells #[.int .i64 k, .int .i64 x, .int .i64 y] 50 (0, 0))) : BoxR w B k x y :=
  ⟨by rw [cell_of_row w B 0 _ _ (0, 0) h]; rfl, by rw [cell_of_row w B 1 _ _ (0, 0) h]; rfl, by rw [cell_of_row w B 2 _ _ (0, 0) h]; rfl⟩

theorem mins_more {l : List Rc} {k : Nat} {x y z : Int} (h : k < l.length) (hr : l.getD k rz = (x, y, z)) : minsV (l.take (k + 1)) = minsV (l.take k) ++ (List.range (z - y).toNat).map fun (i : Nat) => (y + (i : Int), x) := by
  have e : l[k]? = some (x, y, z) := by
    rw [List.getElem?_eq_getElem h]
    rw [List.getD_eq_getElem?_getD, List.getElem?_eq_getElem h] at hr
    simpa using hr
  rw [List.take_add_one, e]
  simp [minsV]

theorem mins_split {l : List Rc} {k : Nat} : minsV l = minsV (l.take k) ++ minsV (l.drop k) := by
  unfold minsV
  rw [← List.flatMap_append, List.take_append_drop]

/-- The minute that comes next: it stands at its place. -/
theorem mins_next {l : List Rc} {k q : Nat} {x y z : Int} (h : k < l.length) (hr : l.getD k rz = (x, y, z)) (hq : y + (q : Int) < z) : (minsV l)[(minsV (l.take k)).length + q]? = some (y + (q : Int), x) := by
  have h1 : minsV l = minsV (l.take (k + 1)) ++ minsV (l.drop (k + 1)) := mins_split
  rw [h1, mins_more h hr, List.append_assoc, List.getElem?_append_right (by omega), Nat.add_sub_cancel_left, List.getElem?_append_left (by simp; omega)]
  have hq2 : q < (z - y).toNat := by omega
  simp [hq2]

theorem mins_len {l : List Rc} {k : Nat} {x y z : Int} (h : k < l.length) (hr : l.getD k rz = (x, y, z)) : (minsV (l.take (k + 1))).length = (minsV (l.take k)).length + (z - y).toNat := by
  rw [mins_more h hr, List.length_append, List.length_map, List.length_range]

theorem take_next {α : Type} {L : List α} {i : Nat} {x : α} (h : L[i]? = some x) : L.take (i + 1) = L.take i ++ [x] := by
  rw [List.take_add_one, h]
  rfl

set_option maxRecDepth 100000 in
set_option maxHeartbeats 2000000 in
theorem each_stops (n : Nat) (hn : 1 ≤ n) (B : Nat) (v : Value) (l : List Rc) (L : List Kd) (w : World) (hB : Boxed w B 22 v) (hown : OwnR 0 w v l) (hL : L.map (·.1) = minsV l) (hl : l.length ≤ 1000000)
    (hbd : ∀ j, j < l.length → 0 ≤ (l.getD j rz).2.1 ∧ (l.getD j rz).2.2 ≤ 40320) :
    SeqStopsK Fence.wide n Try.prog 32 #[.pointer (some ⟨B, 0, none⟩)] encK KeepR (· = L) (· <+: L) L.length w := by
  intro lp J Jx W0 hW hJ hJx hY h0
  have HB0 : Hid (Boxed W0 B 22 v) := Lib.hid ((hW.block B hB.lt).trans hB)
  have HO0 : Hid (OwnR 0 W0 v l) := Lib.hid (hown.below hW)
  have HJ := Lib.hid hJ
  have HY := Lib.hid hY
  have HL := Lib.hid hL
  have HBD := Lib.hid hbd
  have hnil : Sem.run Try.prog (binOp BinOp.eql 62 (.func (.yield lp) #[] #[]) .nilFunc) W0 = .ok (.bool false) W0 := by kernel_rfl
  obtain ⟨A, c, rfl, hr0, _⟩ := HO0.out.read
  have hc0 := HB0.out.cell
  clear hJ hJx hY hL hbd hr0 hB hown
  refine callsIn_of_wp Try.func32 rfl trivial ?_ rfl
  simp only [Try.ntmps32, List.size_toArray, List.length_cons, List.length_nil, Nat.reduceAdd, Nat.reduceSub, Array.replicate_succ, Array.replicate_zero, List.push_toArray, List.append_toArray, List.nil_append, List.cons_append]
  gi_wp2
  gi_loopw [10] (fun i wr => ∃ k : Nat, k ≤ l.length ∧ i = .int .i64 k ∧ W0.heap.size ≤ wr.heap.size ∧ Hid (OwnR 0 wr (.slice A l.length c) l) ∧ Hid (J (L.take (minsV (l.take k)).length) wr)) (fun i _ => l.length - (intOf i).toNat)
  case atStart => exact ⟨0, Nat.zero_le _, rfl, Nat.le_refl _, HO0, Lib.hid h0⟩
  case round =>
    obtain ⟨k, hk, rfl, hz0, HO, HJk⟩ := hrel
    by_cases hlt : k < l.length
    · obtain ⟨b, off, x, y, z, rfl, hbb, hc1, hc2, hc3, hs⟩ := HO.out.rd.at_ hlt
      have bd := HBD.out k hlt
      rw [hs.out] at bd
      obtain ⟨bd0, bd1⟩ := bd
      simp only at bd0 bd1
      have HS := Lib.hid (fun (q : Nat) (hq : y + (q : Int) < z) => mins_next hlt hs.out hq)
      have HM := Lib.hid (mins_len hlt hs.out)
      obtain ⟨m0, hm0⟩ : ∃ m0, (minsV (l.take k)).length = m0 := ⟨_, rfl⟩
      rw [hm0] at HS HM HJk
      clear hm0 hs
      gi_wp2
      gi_loopw [5] (fun m w4 => ∃ q : Nat, (q = 0 ∨ y + (q : Int) ≤ z) ∧ m = .int .i64 (y + (q : Int)) ∧ W0.heap.size ≤ w4.heap.size ∧ Hid (w4.heap[wr.heap.size]? = some (.cells #[.int .i64 x, .int .i64 y, .int .i64 z] 50 (0, 0))) ∧ wr.heap.size < w4.heap.size ∧
          Hid (OwnR 0 w4 (.slice (some ⟨b, off, none⟩) l.length c) l) ∧ Hid (J (L.take (m0 + q)) w4)) (fun m _ => (z - intOf m).toNat)
      case atStart => exact ⟨0, .inl rfl, by simp, by simp; omega, Lib.hid (World.alloc_heap_new wr _), by simp, Lib.hid (HO.out.alloc _), Lib.hid (HJ.out _ _ _ none HJk.out (World.grownBy_alloc wr _ none) (fun r e => by cases e))⟩
      case round =>
        clear hc1 hc2 hc3
        obtain ⟨q, hq, rfl, hz4, HBX, hz5, HO4, HJ4⟩ := hrel
        obtain ⟨w4, rfl⟩ : ∃ w4 : World, w4 = wr := ⟨_, rfl⟩
        have bx := BoxR.atBlock HBX.out
        have hb0 := bx.c0
        have hb1 := bx.c1
        have hb2 := bx.c2
        clear bx
        by_cases hqz : y + (q : Int) < z
        · obtain ⟨xx, hxx, hv⟩ : ∃ xx : Kd, L[m0 + q]? = some xx ∧ xx.1 = (y + (q : Int), x) := by
            have h := HS.out q hqz
            rw [← HL.out, List.getElem?_map] at h
            cases hg : L[m0 + q]? with
            | none => rw [hg] at h; cases h
            | some xx => rw [hg] at h; injection h with h; exact ⟨xx, rfl, h⟩
          have hlt2 : m0 + q < L.length := (List.getElem?_eq_some_iff.1 hxx).1
          have henc : encK xx = #[.int .i64 (y + (q : Int)), .int .i64 x] := by unfold encK; rw [hv]
          have HT := Lib.hid (take_next hxx)
          have HLT := Lib.hid hlt2
          obtain ⟨fn, tmps, assign, body, hy, hR⟩ := HY.out (L.take (m0 + q)) xx w4 HJ4.out (by rw [List.length_take]; omega)
          rw [henc] at hy
          have HYR := Lib.hid hR
          clear hR hxx hv hlt2 henc
          gi_wp2
          refine HYR.out.mono ?_
          rintro e W3 (⟨rfl, hJ3, hk3⟩ | ⟨rfl, hJx3⟩)
          · have HB3 := Lib.hid (hk3.2 _ _ _ _ (.inl rfl) HBX.out)
            have HO3 := Lib.hid (row_keep HO4.out hk3)
            have HJ3 : Hid (J (L.take (m0 + (q + 1))) W3) := Lib.hid (by rw [← HT.out] at hJ3; exact hJ3)
            have hz3 := hk3.1
            clear hJ3 hk3 hy
            gi_wp2
            go_roundw
            case rel => exact ⟨q + 1, .inr (by omega), by go_num, by omega, HB3, by omega, HO3, HJ3⟩
            case measure => simp [intOf]; omega
          · have HX3 : Hid (Jx (L.take (m0 + q + 1)) W3) := Lib.hid (by rw [HT.out]; exact hJx3)
            clear hJx3 hy
            gi_wp2
            refine bodyPost_ret (results_none rfl _ _ _) rfl ?_
            exact ⟨⟨_, rfl⟩, .inr ⟨_, List.take_prefix _ _, HX3.out⟩⟩
        · have hqe : q = (z - y).toNat := by omega
          have HQ : Hid ((minsV (l.take (k + 1))).length = m0 + q) := Lib.hid (by rw [HM.out, hqe])
          clear hqe
          gi_wp2
          go_roundw
          case rel => exact ⟨k + 1, by omega, by go_num, hz4, HO4, Lib.hid (by rw [HQ.out]; exact HJ4.out)⟩
          case measure => simp [intOf]; omega
    · have hkl : k = l.length := by omega
      subst hkl
      have HE : Hid (L.take (minsV (l.take l.length)).length = L) := Lib.hid (by
        rw [List.take_length, ← HL.out, List.length_map, List.take_length])
      gi_wp2
      go_end0
      exact ⟨⟨_, rfl⟩, .inl ⟨L, rfl, by have := HJk.out; rw [HE.out] at this; exact this⟩⟩

/-- What Each itself does: it makes the normal timeline, and lays it aside for its iterator. -/
theorem each9_any (A : Option Addr) (c : Nat) (l : List Rc) (w : World) (h : RdR w A l) (hl : l.length ≤ 1000000) :
    Calls Try.prog 23 #[.slice A l.length c] w fun e w' => ∃ B v, e = .returned (.func (.func 32) #[] #[.pointer (some ⟨B, 0, none⟩)]) ∧ w.heap.size ≤ B ∧ Boxed w' B 22 v ∧ OwnR w.heap.size w' v (nrmV l) ∧ Below w.heap.size w w' := by
  have NM := fun W (hr : RdR W A l) => normal_any A c l W hr hl
  have HR := Lib.hid h
  clear h
  go_enter Try.func23, Try.ntmps23
  go_wp2_with (go_at_call 29; (with_reducible refine (NM _ HR.out).mono ?_); rintro e w1 ⟨v, rfl, ho, hb1⟩; have HO := Lib.hid ho; have HB := Lib.hid hb1; obtain ⟨A1, c1, rfl, _, _⟩ := ho.read; clear ho hb1)
  go_ret
  exact ⟨w1.heap.size, _, rfl, HB.out.size, Boxed.new w1 _ _, HO.out.alloc _, HB.out.alloc HB.out.size _⟩

end Go.Proofs.Ytllinfcdbbmjaaa
