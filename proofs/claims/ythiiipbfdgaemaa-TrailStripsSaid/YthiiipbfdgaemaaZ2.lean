/- Plain facts, several texts in one: IvalsRightC, RecHeap, ClauseSet, IntsSame, RecCheck, RecKinds, RecOpen, RowBlock, SortMath, TriHeap, WindowMath, ErrandMath, ErrandHeap, ErrandMath2, ErrandBrk, ErrandOpen, TrailMath, TrailMath2, TrailMath3. Conditions: none beyond each lemma's own premises. -/
import Derived.Test.YthiiipbfdgaemaaRows
import Derived.Test.YthiiipbfdgaemaaZ1
import Derived.WalkKit
import Derived.WalkSpells
import Derived.WalkSmall
import Derived.Below
import Derived.Outline
import Derived.Lib.Hide
import Derived.BigQuiet
import Derived.Deep.QuietTactic
import Derived.OwnWalk
import Derived.Laws.BitsLemmas
import Derived.OpenShut
import Derived.ChangeSame
import Derived.Lib.SmallJoins
import Derived.ProofKit
import Derived.Deep.Slices
import Derived.Deep.Fields
import Derived.OrdersHeld
import Derived.Lib.SlicesCompact
import Derived.Deep.DeepCutAuto
import Derived.Deep.LoopGhost
import Derived.WalkMore
import Derived.Deep.SlicePairs

/- What Right of layer 3 returns, for any slice of spans that can be read. Conditions: as each theorem says. -/
namespace Go.Proofs.Ythiiipbfdgaemaa
open Go.RowKit

set_option maxHeartbeats 800000 in
theorem rightl_any (A : Option Addr) (c : Nat) (l : List Sp) (w : World) (h : RdS w A l) (hl : l.length ≤ 4611686018427387904) :
    Calls Try.prog 96 #[.slice A l.length c] w fun e w' => e = .returned (.bool (rightB l)) ∧ Below w.heap.size w w' := by
  go_enter Try.func96, Try.ntmps96
  go_wp2
  go_loopw [7] (fun i wr => ∃ k : Nat, k ≤ l.length ∧ i = .int .i64 k ∧ Below w.heap.size w wr ∧ Hid (∀ j, j < k → okAt l j = true)) (fun i _ => l.length - (intOf i).toNat)
  case atStart => exact ⟨0, Nat.zero_le _, rfl, Below.refl _ _, Lib.hid (by omega)⟩
  case round =>
    obtain ⟨k, hk, rfl, hb, hn⟩ := hrel
    have hsz := hb.size
    by_cases hlt : k < l.length
    · obtain ⟨b, off, x, y, rfl, hbb, hc1, hc2, hs⟩ := h.at_ hlt
      rw [← hb.cell (p := ⟨b, _, none⟩) hbb] at hc1 hc2
      have hbr : b < wr.heap.size := by omega
      have q1 : ∀ p : BelowOf (wr.alloc (.cells #[.int .i64 x, .int .i64 y] 56)), p.world.cell? ⟨wr.heap.size, 0, none⟩ = some (.int .i64 x) := fun p => p.cell (by simp)
      have q2 : ∀ p : BelowOf (wr.alloc (.cells #[.int .i64 x, .int .i64 y] 56)), p.world.cell? ⟨wr.heap.size, 1, none⟩ = some (.int .i64 y) := fun p => p.cell (by simp)
      by_cases hxy : x < y
      · by_cases h0 : k = 0
        · subst h0
          have hg : decide ((0 : Int) < 0) = false := by decide
          simp only [Nat.zero_mul, Nat.add_zero] at hc1 hc2
          go_wp2
          refine wp_region_bel (by kernel_rfl) (by kernel_rfl) ?_
          repeat (go_big_quiet_step (first | (go_at_call 59; exact Calls.bel_of (right_yes _ _ _ hxy))))
          refine wpQuiet_nil ?_
          refine bel_all fun wq hbq => ?_
          have hbw := (hb.alloc hsz (.cells #[.int .i64 x, .int .i64 y] 56)).trans (hbq.mono (by simp; omega))
          clear q1 q2
          go_wp2
          go_roundw
          case rel => exact ⟨0 + 1, by omega, by go_num, hbw, Lib.hid (fun j hj => by
            have : j = 0 := by omega
            subst this
            unfold okAt; rw [hs.out]; simp [hxy])⟩
          case measure => simp [intOf]; omega
        · obtain ⟨j, hj⟩ : ∃ j, k = j + 1 := ⟨k - 1, by omega⟩
          have HJ := Lib.hid hj
          have hkj : (k : Int) - 1 = (j : Int) := by omega
          have hjl : j < l.length := by omega
          clear hj
          obtain ⟨b', off', x', y', hA, hbb', hc1', hc2', hs'⟩ := h.at_ hjl
          obtain ⟨rfl, rfl⟩ : b = b' ∧ off = off' := by simpa using hA
          clear hA
          rw [← hb.cell (p := ⟨b, _, none⟩) hbb'] at hc1' hc2'
          have q3 : ∀ p : BelowOf (wr.alloc (.cells #[.int .i64 x, .int .i64 y] 56)), p.world.cell? ⟨b, off + j * 2 + 1, none⟩ = some (.int .i64 y') := fun p => p.cell (c_al _ hc2')
          have hg : decide (0 < k) = true := decide_eq_true (by have := HJ.out; omega)
          have OK := Lib.hid (show okAt l k = decide (y' < x) by
            unfold okAt; rw [hs.out, HJ.out, show j + 1 - 1 = j from rfl, hs'.out]; simp [hxy])
          by_cases hp : x ≤ y'
          · go_wp2
            refine wp_region_bel (by kernel_rfl) (by kernel_rfl) ?_
            repeat (go_big_quiet_step (first | (go_at_call 59; exact Calls.bel_of (right_yes _ _ _ hxy))))
            refine wpQuiet_nil ?_
            refine bel_all fun wq hbq => ?_
            have hbw := (hb.alloc hsz (.cells #[.int .i64 x, .int .i64 y] 56)).trans (hbq.mono (by simp; omega))
            clear q1 q2 q3
            go_wp2
            go_ret
            refine ⟨?_, hbw⟩
            rw [rightB_no hlt (by rw [OK.out]; simp; omega)]; rfl
          · have hp' : y' < x := by omega
            have HP := Lib.hid hp'
            go_wp2
            refine wp_region_bel (by kernel_rfl) (by kernel_rfl) ?_
            repeat (go_big_quiet_step (first | (go_at_call 59; exact Calls.bel_of (right_yes _ _ _ hxy))))
            refine wpQuiet_nil ?_
            refine bel_all fun wq hbq => ?_
            have hbw := (hb.alloc hsz (.cells #[.int .i64 x, .int .i64 y] 56)).trans (hbq.mono (by simp; omega))
            clear q1 q2 q3
            go_wp2
            go_roundw
            case rel => exact ⟨k + 1, by omega, by go_num, hbw, Lib.hid (fun i hi => by
              by_cases e : i = k
              · subst e; rw [OK.out]; exact decide_eq_true HP.out
              · exact hn.out i (by omega))⟩
            case measure => simp [intOf]; omega
      · have hyx : y ≤ x := by omega
        clear hxy
        go_wp2
        refine wp_region_bel (by kernel_rfl) (by kernel_rfl) ?_
        repeat (go_big_quiet_step (first | (go_at_call 59; exact Calls.bel_of (right_no _ _ _ (by omega)))))
        refine wpQuiet_nil ?_
        refine bel_all fun wq hbq => ?_
        have hbw := (hb.alloc hsz (.cells #[.int .i64 x, .int .i64 y] 56)).trans (hbq.mono (by simp; omega))
        clear q1 q2
        go_wp2
        go_ret
        refine ⟨?_, hbw⟩
        rw [rightB_no hlt (by unfold okAt; rw [hs.out]; simp; omega)]; rfl
    · go_wp2
      go_ret
      refine ⟨?_, hb⟩
      rw [rightB_yes fun j hj => hn.out j (by omega)]; rfl

end Go.Proofs.Ythiiipbfdgaemaa

/- Slices of records and of ints that can be read, or that the call itself has made. Conditions: none beyond each lemma's own premises. -/
namespace Go.Proofs.Ythiiipbfdgaemaa
open Go.RowKit

/-! ### Records -/

/-- At the address A the records of l lie one behind the other (of no record nothing is asked). -/
def RdR (w : World) (A : Option Addr) (l : List Rc) : Prop :=
  l ≠ [] → ∃ b off, A = some ⟨b, off, none⟩ ∧ b < w.heap.size ∧ ∀ k, k < l.length →
    w.cell? ⟨b, off + k * 3, none⟩ = some (.int .i64 (l.getD k rz).1) ∧ w.cell? ⟨b, off + k * 3 + 1, none⟩ = some (.int .i64 (l.getD k rz).2.1) ∧ w.cell? ⟨b, off + k * 3 + 2, none⟩ = some (.int .i64 (l.getD k rz).2.2)

theorem RdR.nil (w : World) (A : Option Addr) : RdR w A [] := fun h => absurd rfl h

theorem RdR.at_ {w : World} {A : Option Addr} {l : List Rc} (h : RdR w A l) {k : Nat} (hk : k < l.length) : ∃ b off x y z, A = some ⟨b, off, none⟩ ∧ b < w.heap.size ∧
    w.cell? ⟨b, off + k * 3, none⟩ = some (.int .i64 x) ∧ w.cell? ⟨b, off + k * 3 + 1, none⟩ = some (.int .i64 y) ∧ w.cell? ⟨b, off + k * 3 + 2, none⟩ = some (.int .i64 z) ∧ Hid (l.getD k rz = (x, y, z)) := by
  obtain ⟨b, off, hA, hb, hc⟩ := h (nonnil hk)
  exact ⟨b, off, _, _, _, hA, hb, (hc k hk).1, (hc k hk).2.1, (hc k hk).2.2, Lib.hid rfl⟩

theorem RdR.below {w w' : World} {A : Option Addr} {l : List Rc} (h : RdR w A l) (hb : Below w.heap.size w w') : RdR w' A l := fun hl => by
  obtain ⟨b, off, hA, hbb, hk⟩ := h hl
  exact ⟨b, off, hA, Nat.lt_of_lt_of_le hbb hb.size, fun k hk' => ⟨by rw [hb.cell (p := ⟨b, _, none⟩) hbb]; exact (hk k hk').1, by rw [hb.cell (p := ⟨b, _, none⟩) hbb]; exact (hk k hk').2.1, by rw [hb.cell (p := ⟨b, _, none⟩) hbb]; exact (hk k hk').2.2⟩⟩

def flatR (l : List Rc) : List Value := l.flatMap fun s => [.int .i64 s.1, .int .i64 s.2.1, .int .i64 s.2.2]

theorem flatR_cons (s : Rc) (l : List Rc) : flatR (s :: l) = .int .i64 s.1 :: .int .i64 s.2.1 :: .int .i64 s.2.2 :: flatR l := rfl
theorem flatR_append (a b : List Rc) : flatR (a ++ b) = flatR a ++ flatR b := by simp [flatR]

theorem flatR_len (l : List Rc) : (flatR l).length = l.length * 3 := by
  induction l with
  | nil => rfl
  | cons s l ih => rw [flatR_cons, List.length_cons, List.length_cons, List.length_cons, ih, List.length_cons]; omega

theorem flatR_get : ∀ (l : List Rc) (k : Nat), k < l.length → (flatR l)[k * 3]? = some (.int .i64 (l.getD k rz).1) ∧ (flatR l)[k * 3 + 1]? = some (.int .i64 (l.getD k rz).2.1) ∧ (flatR l)[k * 3 + 2]? = some (.int .i64 (l.getD k rz).2.2)
  | s :: l, 0, _ => by simp [flatR_cons]
  | s :: l, k + 1, h => by
    have ih := flatR_get l k (by simpa using h)
    have e : (k + 1) * 3 = k * 3 + 1 + 1 + 1 := by omega
    rw [e, flatR_cons]
    simpa using ih

theorem flatR_one {l : List Rc} {u : Value} (h : u ∈ flatR l) : u.oneCell' = true := by
  obtain ⟨s, _, hs⟩ := List.mem_flatMap.1 h
  simp at hs
  rcases hs with rfl | rfl | rfl <;> rfl

theorem flatR_set (a : List Rc) (k x y z : Int) : (flatR (a ++ [(k, x, y)])).set (a.length * 3 + 2) (.int .i64 z) = flatR (a ++ [(k, x, z)]) := by
  rw [flatR_append, flatR_append, List.set_append_right _ _ (by rw [flatR_len]; omega), flatR_len]
  have e : a.length * 3 + 2 - a.length * 3 = 2 := by omega
  rw [e]
  rfl

/-- The slice is the call's own (its block's number is base or more) and holds l. -/
def OwnR (base : Nat) (w : World) (v : Value) (l : List Rc) : Prop := w.ownsRow base 59 3 v l.length (flatR l)

theorem OwnR.nil (base : Nat) (w : World) : OwnR base w (.slice none 0 0) [] := World.ownsRow_nil w base _ 3

theorem OwnR.read {base : Nat} {w : World} {v : Value} {l : List Rc} (h : OwnR base w v l) : ∃ A c, v = .slice A l.length c ∧ RdR w A l ∧ (A = none → c = 0) := by
  have h0 := h
  rcases h.2 with ⟨rfl, hn⟩ | ⟨g, cap, cur, rfl, hb, hg, h1, h2, h3, h4⟩
  · obtain rfl : l = [] := List.eq_nil_of_length_eq_zero hn
    exact ⟨none, 0, rfl, RdR.nil _ _, fun _ => rfl⟩
  · refine ⟨some ⟨g, 0, none⟩, cap, rfl, fun _ => ⟨g, 0, rfl, (World.ownsRow.lt h0 g rfl).2, fun k hk => ?_⟩, fun h => by cases h⟩
    have hf := flatR_get l k hk
    rw [Nat.zero_add, World.ownsRow.cellAt h0 (k * 3) (by omega), World.ownsRow.cellAt h0 (k * 3 + 1) (by omega), World.ownsRow.cellAt h0 (k * 3 + 2) (by omega)]
    exact hf

theorem OwnR.rd {base : Nat} {w : World} {A : Option Addr} {n c : Nat} {l : List Rc} (h : OwnR base w (.slice A n c) l) : RdR w A l := by
  obtain ⟨A', c', he, hr, _⟩ := h.read
  injection he with e1 e2 e3
  rw [e1]; exact hr

theorem OwnR.below {base : Nat} {w w' : World} {v : Value} {l : List Rc} (h : OwnR base w v l) (hb : Below w.heap.size w w') : OwnR base w' v l := row_below h hb
theorem OwnR.more {base base' : Nat} {w : World} {v : Value} {l : List Rc} (h : OwnR base w v l) (hb : base' ≤ base) : OwnR base' w v l := row_more h hb
theorem OwnR.alloc {base : Nat} {w : World} {v : Value} {l : List Rc} (h : OwnR base w v l) (o : Obj) : OwnR base (w.alloc o) v l := World.ownsRow.alloc h o

theorem OwnR.snoc {base : Nat} {w : World} {v : Value} {l : List Rc} {k x y : Int} (h : w.ownsRow base 59 3 v (l.length + 1) (flatR l ++ [.int .i64 k, .int .i64 x, .int .i64 y])) : OwnR base w v (l ++ [(k, x, y)]) := by
  unfold OwnR
  rw [flatR_append, List.length_append]
  exact h

theorem OwnR.stored {base : Nat} {w : World} {b n c : Nat} {o : List Rc} {k x y z : Int} (h : OwnR base w (.slice (some ⟨b, 0, none⟩) n c) (o ++ [(k, x, y)])) (hn : n = o.length + 1) :
    OwnR base (w.setCell ⟨b, o.length * 3 + 2, none⟩ (.int .i64 z)) (.slice (some ⟨b, 0, none⟩) n c) (o ++ [(k, x, z)]) := by
  have e1 : (o ++ [(k, x, y)]).length = n := by rw [hn]; simp
  have e2 : (o ++ [(k, x, z)]).length = n := by rw [hn]; simp
  unfold OwnR at *
  rw [e1] at h
  rw [e2]
  have h2 := (World.ownsRow.stored h (o.length * 3 + 2) (.int .i64 z)).1
  rw [flatR_set] at h2
  exact h2

theorem OwnR.some_ {base : Nat} {w : World} {b off n c : Nat} {l : List Rc} (h : OwnR base w (.slice (some ⟨b, off, none⟩) n c) l) : off = 0 ∧ base ≤ b ∧ ∀ j, w.frozen? ⟨b, j, none⟩ = false := by
  rcases h.2 with ⟨h', _⟩ | ⟨g, cap, cur, h', hb, hg, _⟩
  · simp at h'
  · simp only [Value.slice.injEq, Option.some.injEq, Addr.mk.injEq, and_true] at h'
    obtain ⟨⟨rfl, rfl⟩, _, rfl⟩ := h'
    exact ⟨rfl, hb, fun j => by simp [World.frozen?, hg]⟩

theorem info_rec : (Try.prog.info? 59).map (fun i => (i.zero, i.size, i.bytes)) = some (some (.agg #[.int .i64 0, .int .i64 0, .int .i64 0]), 3, 24) := by kernel_rfl

/-- The cells of one record in a block of their own. -/
theorem rec_news {w : World} {n : Nat} (hn : n = w.heap.size) {k x y : Int} {t : TypeId} : ∀ j u, ([.int .i64 k, .int .i64 x, .int .i64 y] : List Value)[j]? = some u → (w.alloc (.cells #[.int .i64 k, .int .i64 x, .int .i64 y] t)).cell? ((⟨n, 0, none⟩ : Addr).add j) = some u := by
  intro j u hj
  subst hn
  match j, hj with
  | 0, hj => simp at hj; subst hj; simp [Addr.add]
  | 1, hj => simp at hj; subst hj; simp [Addr.add]
  | 2, hj => simp at hj; subst hj; simp [Addr.add]
  | j + 3, hj => simp at hj

theorem rec_cells {k x y : Int} : ∀ u ∈ ([.int .i64 k, .int .i64 x, .int .i64 y] : List Value), u.oneCell' = true := by
  intro u hu
  simp at hu
  rcases hu with rfl | rfl | rfl <;> rfl

/-- The cells of a slice that reads as l, one by one. -/
theorem RdR.news {w : World} {ad : Addr} {l : List Rc} (h : RdR w (some ad) l) : ∀ j u, (flatR l)[j]? = some u → w.cell? (ad.add j) = some u := by
  intro j u hu
  have hj : j < l.length * 3 := by
    rw [← flatR_len]
    exact (List.getElem?_eq_some_iff.1 hu).1
  obtain ⟨b, off, hA, _, hc⟩ := h (nonnil (k := j / 3) (by omega))
  injection hA with hA
  subst hA
  have hk : j / 3 < l.length := by omega
  have hf := flatR_get l (j / 3) hk
  have hcc := hc (j / 3) hk
  rw [addr_plain]
  have hm : j = j / 3 * 3 ∨ j = j / 3 * 3 + 1 ∨ j = j / 3 * 3 + 2 := by omega
  rcases hm with e | e | e
  · rw [e, hf.1] at hu
    injection hu with hu
    rw [e, ← hu]; exact hcc.1
  · rw [e, hf.2.1] at hu
    injection hu with hu
    rw [e, ← hu, ← Nat.add_assoc]; exact hcc.2.1
  · rw [e, hf.2.2] at hu
    injection hu with hu
    rw [e, ← hu, ← Nat.add_assoc]; exact hcc.2.2

/-- A record in a block of its own. -/
structure BoxR (w : World) (B : Nat) (k x y : Int) : Prop where
  c0 : w.cell? ⟨B, 0, none⟩ = some (.int .i64 k)
  c1 : w.cell? ⟨B, 1, none⟩ = some (.int .i64 x)
  c2 : w.cell? ⟨B, 2, none⟩ = some (.int .i64 y)

theorem BoxR.new (w : World) (k x y : Int) (t : TypeId) : BoxR (w.alloc (.cells #[.int .i64 k, .int .i64 x, .int .i64 y] t)) w.heap.size k x y := ⟨by simp, by simp, by simp⟩
theorem BoxR.below {w w' : World} {B : Nat} {k x y : Int} (h : BoxR w B k x y) (hb : Below w.heap.size w w') : BoxR w' B k x y := ⟨c_cl h.c0 hb, c_cl h.c1 hb, c_cl h.c2 hb⟩

/-! ### Ints -/

def RdN (w : World) (A : Option Addr) (l : List Int) : Prop :=
  l ≠ [] → ∃ b off, A = some ⟨b, off, none⟩ ∧ b < w.heap.size ∧ ∀ k, k < l.length → w.cell? ⟨b, off + k, none⟩ = some (.int .i64 (l.getD k 0))

theorem RdN.at_ {w : World} {A : Option Addr} {l : List Int} (h : RdN w A l) {k : Nat} (hk : k < l.length) : ∃ b off x, A = some ⟨b, off, none⟩ ∧ b < w.heap.size ∧ w.cell? ⟨b, off + k, none⟩ = some (.int .i64 x) ∧ Hid (l[k]? = some x) := by
  obtain ⟨b, off, hA, hb, hc⟩ := h (nonnil hk)
  refine ⟨b, off, _, hA, hb, hc k hk, Lib.hid ?_⟩
  rw [List.getD_eq_getElem?_getD, List.getElem?_eq_getElem hk]; rfl

theorem RdN.below {w w' : World} {A : Option Addr} {l : List Int} (h : RdN w A l) (hb : Below w.heap.size w w') : RdN w' A l := fun hl => by
  obtain ⟨b, off, hA, hbb, hk⟩ := h hl
  exact ⟨b, off, hA, Nat.lt_of_lt_of_le hbb hb.size, fun k hk' => by rw [hb.cell (p := ⟨b, _, none⟩) hbb]; exact hk k hk'⟩

def OwnN (base : Nat) (w : World) (v : Value) (l : List Int) : Prop := w.ownsRow base 3 1 v l.length (l.map (Value.int .i64))

theorem OwnN.nil (base : Nat) (w : World) : OwnN base w (.slice none 0 0) [] := World.ownsRow_nil w base _ 1

theorem OwnN.read {base : Nat} {w : World} {v : Value} {l : List Int} (h : OwnN base w v l) : ∃ A c, v = .slice A l.length c ∧ RdN w A l := by
  have h0 := h
  rcases h.2 with ⟨rfl, hn⟩ | ⟨g, cap, cur, rfl, hb, hg, h1, h2, h3, h4⟩
  · obtain rfl : l = [] := List.eq_nil_of_length_eq_zero hn
    exact ⟨none, 0, rfl, fun h => absurd rfl h⟩
  · refine ⟨some ⟨g, 0, none⟩, cap, rfl, fun _ => ⟨g, 0, rfl, (World.ownsRow.lt h0 g rfl).2, fun k hk => ?_⟩⟩
    rw [Nat.zero_add, World.ownsRow.cellAt h0 k (by omega)]
    simp [hk]

theorem OwnN.below {base : Nat} {w w' : World} {v : Value} {l : List Int} (h : OwnN base w v l) (hb : Below w.heap.size w w') : OwnN base w' v l := row_below h hb
theorem OwnN.more {base base' : Nat} {w : World} {v : Value} {l : List Int} (h : OwnN base w v l) (hb : base' ≤ base) : OwnN base' w v l := row_more h hb
theorem OwnN.alloc {base : Nat} {w : World} {v : Value} {l : List Int} (h : OwnN base w v l) (o : Obj) : OwnN base (w.alloc o) v l := World.ownsRow.alloc h o

theorem OwnN.snoc {base : Nat} {w : World} {v : Value} {l : List Int} {x : Int} (h : w.ownsRow base 3 1 v (l.length + 1) (l.map (Value.int .i64) ++ [.int .i64 x])) : OwnN base w v (l ++ [x]) := by
  unfold OwnN
  rw [List.map_append, List.length_append]
  exact h

theorem info_int : (Try.prog.info? 3).map (fun i => (i.zero, i.size, i.bytes)) = some (some (.int .i64 0), 1, 8) := by kernel_rfl

theorem int_news {w : World} {n : Nat} (hn : n = w.heap.size) {x : Int} {t : TypeId} : ∀ j u, ([.int .i64 x] : List Value)[j]? = some u → (w.alloc (.cells #[.int .i64 x] t)).cell? ((⟨n, 0, none⟩ : Addr).add j) = some u := by
  intro j u hj
  subst hn
  match j, hj with
  | 0, hj => simp at hj; subst hj; simp [Addr.add]
  | j + 1, hj => simp at hj

theorem int_cells {x : Int} : ∀ u ∈ ([.int .i64 x] : List Value), u.oneCell' = true := by
  intro u hu
  simp at hu
  subst hu
  rfl

end Go.Proofs.Ythiiipbfdgaemaa

/- What In and All of layer 15, and the document's own All, return, for any numbers. Conditions: none. -/
namespace Go.Proofs.Ythiiipbfdgaemaa
open Go.RowKit

theorem and_low (n : Int) : bits .and .i64 n 1 = n % 2 := by
  have h16 : (BitVec.ofInt 64 1).toNat = 2 ^ 1 - 1 := by decide
  have key : (BitVec.ofInt 64 n &&& BitVec.ofInt 64 1).toNat = (n % ((2 ^ 64 : Nat) : Int)).toNat % 2 ^ 1 := by
    rw [BitVec.toNat_and, BitVec.toNat_ofInt, h16, Nat.and_two_pow_sub_one_eq_mod]
  show IntKind.i64.wrap ((BitVec.ofInt 64 n &&& BitVec.ofInt 64 1).toNat : Nat) = n % 2
  rw [key, IntKind.wrap_i64]
  omega

theorem bit_and (s : Int) (k : Nat) : (bits .and .i64 (s / 2 ^ k) 1 == 1) = bitV s k := by
  unfold bitV
  rw [and_low]

theorem in_no (s c : Int) (w : World) (h : ¬ isC c) :
    Calls Try.prog 24 #[.int .i64 s, .int .i64 c] w fun e w' => e = .returned (.bool false) ∧ w = w' := by
  have CI := fun W => is_any c W
  rw [decide_eq_false h] at CI
  clear h
  go_enter Try.func24, Try.ntmps24
  go_wp2_with (go_at_call 37; (with_reducible refine (CI _).mono ?_); rintro e w1 ⟨rfl, rfl⟩)
  go_ret
  exact ⟨rfl, rfl⟩

theorem in_yes (s : Int) (k : Nat) (w : World) (hk : k < 16) :
    Calls Try.prog 24 #[.int .i64 s, .int .i64 (k : Nat)] w fun e w' => e = .returned (.bool (bitV s k)) ∧ w = w' := by
  have CI := fun W => is_any (k : Int) W
  rw [decide_eq_true (isC_nat hk)] at CI
  have k0 : (0 : Int) ≤ (k : Int) := by omega
  have k1 : (k : Int) < 16 := by omega
  have e1 := bit_and s k
  generalize bitV s k = g at e1
  go_enter Try.func24, Try.ntmps24
  go_wp2_with (go_at_call 37; (with_reducible refine (CI _).mono ?_); rintro e w1 ⟨rfl, rfl⟩)
  go_ret
  exact ⟨by simp_all, rfl⟩

theorem in_any (s c : Int) (w : World) :
    Calls Try.prog 24 #[.int .i64 s, .int .i64 c] w fun e w' => e = .returned (.bool (inV s c)) ∧ w = w' := by
  by_cases h : isC c
  · obtain ⟨k, hk, rfl⟩ := isC_of h
    have e : inV s (k : Int) = bitV s k := by unfold inV; rw [decide_eq_true h]; simp
    rw [e]
    exact in_yes s k w hk
  · have e : inV s c = false := by unfold inV; rw [decide_eq_false h]; rfl
    rw [e]
    exact in_no s c w h

theorem low_half (u : Int) (k : Nat) : u / 2 ^ k / 2 = u / 2 ^ (k + 1) := by
  rw [Int.ediv_ediv_of_nonneg (Int.le_of_lt (Int.pow_pos (by decide))), Int.pow_succ]

end Go.Proofs.Ythiiipbfdgaemaa

/- What the document's own Same of layer 7 returns, for any ints. Conditions: the ints can be read. -/
namespace Go.Proofs.Ythiiipbfdgaemaa
open Go.RowKit

theorem RdN.getD {w : World} {A : Option Addr} {l : List Int} (h : RdN w A l) {k : Nat} (hk : k < l.length) : ∃ b off x, A = some ⟨b, off, none⟩ ∧ b < w.heap.size ∧ w.cell? ⟨b, off + k, none⟩ = some (.int .i64 x) ∧ Hid (l.getD k 0 = x) := by
  obtain ⟨b, off, hA, hb, hc⟩ := h (nonnil hk)
  exact ⟨b, off, _, hA, hb, hc k hk, Lib.hid rfl⟩

theorem samen_go {a b : List Int} {k : Nat} (h : a.length = b.length) (hk : a.length ≤ k) (hn : ∀ j, j < k → a.getD j 0 = b.getD j 0) : decide (a = b) = true := by
  refine decide_eq_true (List.ext_getElem h fun i h1 h2 => ?_)
  have := hn i (by omega)
  simpa [List.getD, h1, h2] using this

theorem samen_no {a b : List Int} {k : Nat} (h : a.getD k 0 ≠ b.getD k 0) : decide (a = b) = false := by
  refine decide_eq_false fun e => h (by rw [e])

set_option maxHeartbeats 1600000 in
theorem sameN_even (A B : Option Addr) (c d n : Nat) (a b : List Int) (w : World) (hna : Hid (a.length = n)) (hnb : Hid (b.length = n)) (ha : RdN w A a) (hb : RdN w B b) (hl : n ≤ 4611686018427387904) :
    Calls Try.prog 16 #[.slice A n c, .slice B n d] w fun e w' => e = .returned (.bool (decide (a = b))) ∧ Below w.heap.size w w' := by
  go_enter Try.func16, Try.ntmps16
  go_wp2
  go_loopw [5] (fun i wr => ∃ k : Nat, k ≤ n ∧ i = .int .i64 k ∧ Below w.heap.size w wr ∧ Hid (∀ j, j < k → a.getD j 0 = b.getD j 0)) (fun i _ => n - (intOf i).toNat)
  case atStart => exact ⟨0, Nat.zero_le _, rfl, Below.refl _ _, Lib.hid (by omega)⟩
  case round =>
    obtain ⟨k, hk, rfl, hbw, hn⟩ := hrel
    have hsz := hbw.size
    by_cases hlt : k < n
    · obtain ⟨b1, off, x, rfl, hbb, hc0, hs⟩ := ha.getD (k := k) (by rw [hna.out]; exact hlt)
      obtain ⟨b2, off2, x2, rfl, hbb2, hd0, hs2⟩ := hb.getD (k := k) (by rw [hnb.out]; exact hlt)
      rw [← hbw.cell (p := ⟨b1, _, none⟩) hbb] at hc0
      rw [← hbw.cell (p := ⟨b2, _, none⟩) hbb2] at hd0
      have q0 : ∀ p : BelowOf wr, p.world.cell? ⟨b1, off + k, none⟩ = some (.int .i64 x) := fun p => p.cell hc0
      have q3 : ∀ p : BelowOf wr, p.world.cell? ⟨b2, off2 + k, none⟩ = some (.int .i64 x2) := fun p => p.cell hd0
      by_cases hx : x = x2
      · subst hx
        go_wp2
        refine wp_region_bel (by kernel_rfl) (by kernel_rfl) ?_
        repeat (go_big_quiet_step (first | (fail)))
        refine wpQuiet_nil ?_
        refine bel_all fun wq hbq => ?_
        clear q0 q3
        go_wp2
        go_roundw
        case rel => exact ⟨k + 1, by omega, by go_num, hbw.trans (hbq.mono hsz), Lib.hid (fun j hj => by
          by_cases e : j = k
          · subst e; rw [hs.out, hs2.out]
          · exact hn.out j (by omega))⟩
        case measure => simp [intOf]; omega
      · have e1 : (x == x2) = false := by simpa using hx
        have e2 : (x != x2) = true := by simpa using hx
        have H := Lib.hid hx
        clear hx
        go_wp2
        refine wp_region_bel (by kernel_rfl) (by kernel_rfl) ?_
        repeat (go_big_quiet_step (first | (fail)))
        refine wpQuiet_nil ?_
        refine bel_all fun wq hbq => ?_
        clear q0 q3
        go_wp2
        go_ret
        exact ⟨by rw [samen_no (k := k) (by rw [hs.out, hs2.out]; exact H.out)]; rfl, hbw.trans (hbq.mono hsz)⟩
    · have hg := Lib.hid (samen_go (a := a) (b := b) (k := k) (by rw [hna.out, hnb.out]) (by rw [hna.out]; omega) hn.out)
      go_wp2
      go_ret
      exact ⟨by rw [hg.out]; rfl, hbw⟩

theorem sameN_any (A B : Option Addr) (c d n m : Nat) (a b : List Int) (w : World) (hn : Hid (a.length = n)) (hm : Hid (b.length = m)) (ha : RdN w A a) (hb : RdN w B b) (hl : n ≤ 4611686018427387904) (hl2 : m ≤ 4611686018427387904) :
    Calls Try.prog 16 #[.slice A n c, .slice B m d] w fun e w' => e = .returned (.bool (decide (a = b))) ∧ Below w.heap.size w w' := by
  by_cases h : n = m
  · subst h
    exact sameN_even A B c d n a b w hn hm ha hb hl
  · have hd : decide (a = b) = false := decide_eq_false fun e => h (by rw [← hn.out, ← hm.out, e])
    rw [hd]
    have e1 : ((n : Int) == (m : Int)) = false := by simp; omega
    have e2 : ((n : Int) != (m : Int)) = true := by simp; omega
    clear h hd
    go_enter Try.func16, Try.ntmps16
    go_wp2
    go_ret
    exact ⟨rfl, Below.refl _ _⟩

end Go.Proofs.Ythiiipbfdgaemaa

/- What Check of layer 8 returns: the first record that is wrong, and what is wrong with it. Conditions: the records can be read. -/
namespace Go.Proofs.Ythiiipbfdgaemaa
open Go.RowKit

theorem fault_one {l : List Rc} (h : faultV l 0 = 0) : ∀ j, j < 0 + 1 → faultV l j = 0 := fun j hj => by
  obtain rfl : j = 0 := by omega
  exact h

set_option maxRecDepth 100000 in
set_option maxHeartbeats 2000000 in
theorem rcheck_any (A : Option Addr) (c : Nat) (l : List Rc) (w : World) (h : RdR w A l) (hl : l.length ≤ 4611686018427387904) :
    Calls Try.prog 34 #[.slice A l.length c] w fun e w' => e = .returned (.tuple #[.int .i64 ((checkV l).1 : Nat), .int .i64 (checkV l).2]) ∧ Below w.heap.size w w' := by
  obtain ⟨V, hV⟩ : ∃ V, checkV l = V := ⟨_, rfl⟩
  have HV := Lib.hid hV
  rw [hV]
  clear hV
  go_enter Try.func34, Try.ntmps34
  go_wp2
  go_loopw [9] (fun i wr => ∃ k : Nat, k ≤ l.length ∧ i = .int .i64 k ∧ Below w.heap.size w wr ∧ Hid (∀ j, j < k → faultV l j = 0)) (fun i _ => l.length - (intOf i).toNat)
  case atStart => exact ⟨0, Nat.zero_le _, rfl, Below.refl _ _, Lib.hid (fun j hj => by omega)⟩
  case round =>
    obtain ⟨k, hk, rfl, hb, hn⟩ := hrel
    obtain ⟨w2, rfl⟩ : ∃ w2 : World, w2 = wr := ⟨_, rfl⟩
    have hsz := hb.size
    by_cases hlt : k < l.length
    · obtain ⟨b, off, x, y, z, rfl, hbb, hc0, hc1, hc2, hs⟩ := h.at_ hlt
      have AL := fun W => alone_any x y z W
      obtain ⟨a, ha⟩ : ∃ a, aloneV x y z = a := ⟨_, rfl⟩
      rw [ha] at AL
      have HA := Lib.hid ha
      have HX := Lib.hid h
      clear ha
      rw [← hb.cell (p := ⟨b, _, none⟩) hbb] at hc0 hc1 hc2
      have hbr : b < w2.heap.size := by omega
      by_cases ha0 : a = 0
      · subst ha0
        by_cases hk0 : k = 0
        · subst hk0
          simp only [Nat.zero_mul, Nat.add_zero] at hc0 hc1 hc2
          have HN := Lib.hid (fault_one (by rw [fault_first hs.out, HA.out]))
          go_wp2_with (go_at_call 46; (with_reducible refine (AL _).mono ?_); rintro e w1 ⟨rfl, hb1⟩)
          go_roundw
          case rel => exact ⟨0 + 1, by omega, by go_num, (hb.alloc hsz _).trans (hb1.mono (by simp; omega)), HN⟩
          case measure => simp [intOf]; omega
        · obtain ⟨j, hj⟩ : ∃ j, k = j + 1 := ⟨k - 1, by omega⟩
          have HJ := Lib.hid hj
          have hkj : (k : Int) - 1 = (j : Int) := by omega
          have hjl : j < l.length := by omega
          have hg1 : (0 : Int) < (k : Int) := by omega
          clear hj hk0
          obtain ⟨b2, off2, p_, q, r, he2, _, hd0, hd1, hd2, ht⟩ := HX.out.at_ hjl
          simp only [Option.some.injEq, Addr.mk.injEq, and_true] at he2
          obtain ⟨rfl, rfl⟩ := he2
          rw [← hb.cell (p := ⟨b, _, none⟩) hbb] at hd0 hd1 hd2
          have BE := fun W => behind_any x y z p_ q r W
          obtain ⟨d, hd⟩ : ∃ d, behindV r y = d := ⟨_, rfl⟩
          rw [hd] at BE
          have HF := Lib.hid (show faultV l k = d by rw [HJ.out, fault_next (by rw [← HJ.out]; exact hs.out) HA.out ht.out, hd])
          clear hd HX HJ
          go_wp2_with (go_at_call 46; (with_reducible refine (AL _).mono ?_); rintro e w1 ⟨rfl, hb1⟩; have q1 : ∀ p : BelowOf w1, p.world.cell? ⟨w2.heap.size, 0, none⟩ = some (.int .i64 x) := (fun p => p.cell (c_cl (by simp) hb1)); have q2 : ∀ p : BelowOf w1, p.world.cell? ⟨w2.heap.size, 1, none⟩ = some (.int .i64 y) := (fun p => p.cell (c_cl (by simp) hb1)); have q3 : ∀ p : BelowOf w1, p.world.cell? ⟨w2.heap.size, 2, none⟩ = some (.int .i64 z) := (fun p => p.cell (c_cl (by simp) hb1)); have q4 : ∀ p : BelowOf w1, p.world.cell? ⟨b, off + j * 3, none⟩ = some (.int .i64 p_) := (fun p => p.cell (c_cl (c_al _ hd0) hb1)); have q5 : ∀ p : BelowOf w1, p.world.cell? ⟨b, off + j * 3 + 1, none⟩ = some (.int .i64 q) := (fun p => p.cell (c_cl (c_al _ hd1) hb1)); have q6 : ∀ p : BelowOf w1, p.world.cell? ⟨b, off + j * 3 + 2, none⟩ = some (.int .i64 r) := (fun p => p.cell (c_cl (c_al _ hd2) hb1)))
          refine wp_region_bel (by kernel_rfl) (by kernel_rfl) ?_
          repeat (go_big_quiet_step (first | (go_at_call 47; exact Calls.bel_of (BE _))))
          refine wpQuiet_nil ?_
          refine bel_all fun wq hbq => ?_
          clear q1 q2 q3 q4 q5 q6
          have HB := (hb.alloc hsz (.cells #[.int .i64 x, .int .i64 y, .int .i64 z] 59)).trans (hb1.mono (by simp; omega))
          have HBQ := HB.trans (hbq.mono HB.size)
          by_cases hd0 : d = 0
          · subst hd0
            have HN := Lib.hid (show ∀ i, i < k + 1 → faultV l i = 0 from fun i hi => by
              by_cases e : i = k
              · rw [e, HF.out]
              · exact hn.out i (by omega))
            go_wp2
            go_roundw
            case rel => exact ⟨k + 1, by omega, by go_num, HBQ, HN⟩
            case measure => simp [intOf]; omega
          · have e1 : (d == 0) = false := by simpa using hd0
            have e2 : (d != 0) = true := by simpa using hd0
            have HE := Lib.hid (check_bad hlt hn.out HF.out hd0)
            clear hd0
            go_wp2
            go_ret2
            rw [← HV.out, HE.out]
            exact ⟨rfl, HBQ⟩
      · have e1 : (a == 0) = false := by simpa using ha0
        have e2 : (a != 0) = true := by simpa using ha0
        have HE := Lib.hid (check_bad hlt hn.out (by rw [fault_alone hs.out (by rw [HA.out]; exact ha0), HA.out]) ha0)
        clear ha0
        go_wp2_with (go_at_call 46; (with_reducible refine (AL _).mono ?_); rintro e w1 ⟨rfl, hb1⟩)
        go_ret2
        rw [← HV.out, HE.out]
        exact ⟨rfl, (hb.alloc hsz _).trans (hb1.mono (by simp; omega))⟩
    · have hkl : k = l.length := by omega
      have HE := Lib.hid (check_ok (l := l) (fun j hj => hn.out j (by omega)))
      go_wp2
      go_ret2
      rw [← HV.out, HE.out]
      exact ⟨rfl, hb⟩

end Go.Proofs.Ythiiipbfdgaemaa

/- What the document's own Kinds of layer 8 returns: the kind of each minute of a timeline. Conditions: the records can be read, and are a timeline. -/
namespace Go.Proofs.Ythiiipbfdgaemaa
open Go.RowKit

theorem rep_more (ks : List Int) (q : Nat) (x : Int) : ks ++ List.replicate (q + 1) x = ks ++ List.replicate q x ++ [x] := by
  rw [List.replicate_succ', List.append_assoc]

set_option maxRecDepth 100000 in
set_option maxHeartbeats 4000000 in
theorem refkinds_any (A : Option Addr) (c : Nat) (l : List Rc) (w : World) (h : RdR w A l) {e : Int} (ht : Tl e l) (hl : l.length ≤ 4611686018427387904) :
    Calls Try.prog 29 #[.slice A l.length c] w fun e w' => ∃ v, e = .returned v ∧ OwnN w.heap.size w' v (kindsV l) ∧ Below w.heap.size w w' := by
  obtain ⟨i1, hj, hy0, hy1, hy2⟩ := info_parts info_int
  have HR := Lib.hid h
  have HT := Lib.hid ht
  clear h ht
  go_enter Try.func29, Try.ntmps29
  go_wp2
  go_loopw [3, 4] (fun v i wr => ∃ (k n : Nat) (A' : Option Addr) (c' : Nat), k ≤ l.length ∧ i = .int .i64 k ∧ v = .slice A' n c' ∧ Hid ((kindsV (l.take k)).length = n) ∧
      Hid (OwnN w.heap.size wr (.slice A' n c') (kindsV (l.take k))) ∧ Below w.heap.size w wr) (fun _ i _ => l.length - (intOf i).toNat)
  case atStart => exact ⟨0, 0, none, 0, Nat.zero_le _, rfl, rfl, Lib.hid rfl, Lib.hid (OwnN.nil _ _), Below.refl _ _⟩
  case round =>
    obtain ⟨k, n, A', c', hk, rfl, rfl, HON, hown, hb⟩ := hrel
    obtain ⟨w2, rfl⟩ : ∃ w2 : World, w2 = wr := ⟨_, rfl⟩
    have hsz := hb.size
    by_cases hlt : k < l.length
    · obtain ⟨b, off, x, y, z, rfl, hbb, hc0, hc1, hc2, hs⟩ := HR.out.at_ hlt
      have HC := Lib.hid (And.intro hc0 hc2)
      rw [← hb.cell (p := ⟨b, _, none⟩) hbb] at hc0 hc1 hc2
      have hbr : b < w2.heap.size := by omega
      have KM := Lib.hid (kinds_more hlt hs.out)
      have KL := Nat.le_trans (kinds_take l (k + 1)) HT.out.short
      have bd := HT.out.at_ k hlt
      rw [hs.out] at bd
      obtain ⟨_, bd0, bd1, bd2⟩ := bd
      obtain ⟨ks, hks⟩ : ∃ ks, kindsV (l.take k) = ks := ⟨_, rfl⟩
      rw [hks] at HON hown KM
      rw [KM.out, List.length_append, List.length_replicate, HON.out] at KL
      clear hks hs
      go_wp2
      go_loopw [3, 5] (fun v m w4 => ∃ (q n4 : Nat) (A4 : Option Addr) (c4 : Nat), y + (q : Int) ≤ z ∧ m = .int .i64 (y + (q : Int)) ∧ v = .slice A4 n4 c4 ∧ Hid ((ks ++ List.replicate q x).length = n4) ∧ n4 = n + q ∧
          Hid (OwnN w.heap.size w4 (.slice A4 n4 c4) (ks ++ List.replicate q x)) ∧ Below w.heap.size w w4) (fun _ m _ => (z - intOf m).toNat)
      case atStart => exact ⟨0, n, A', c', by omega, by simp, rfl, Lib.hid (by simpa using HON.out), rfl, Lib.hid (by simpa using hown.out), hb⟩
      case round =>
        clear hc0 hc1 hc2
        obtain ⟨q, n4, A4, c4, hq, rfl, rfl, HON4, hn4, hown4, hb4⟩ := hrel
        obtain ⟨w4, rfl⟩ : ∃ w4 : World, w4 = wr := ⟨_, rfl⟩
        have hsz4 := hb4.size
        obtain ⟨hc0, hc2⟩ := HC.out
        rw [← hb4.cell (p := ⟨b, _, none⟩) hbb] at hc0 hc2
        have hbr4 : b < w4.heap.size := by omega
        by_cases hqz : y + (q : Int) < z
        · have RM := Lib.hid (rep_more ks q x)
          have hnb : (ks ++ List.replicate q x).length ≤ 40320 := by have := HON4.out; omega
          have HL5 := Lib.hid (show (ks ++ List.replicate q x ++ [x]).length = n4 + 1 by rw [List.length_append, HON4.out]; rfl)
          have HN4 := Lib.hid hn4
          clear hn4
          go_wp2_with (at_builtin; refine wpList_append_own _ rfl _ _ 37 rfl w.heap.size 3 i1 (.int .i64 0) 1 8 Try.underlying37 hj hy0 hy1 hy2 rfl (by decide) _ _ _ rfl (OwnN.alloc hown4.out _) ⟨w4.heap.size, 0, none⟩ 1 1 [.int .i64 x] rfl rfl (int_news rfl) int_cells (by unfold maxLen; omega) (by omega) (by have := hb4.size; simp; omega) ?_; intro v5 w5 hown5 hgrow5 _; have HS := Lib.hid (OwnN.snoc hown5); have HB5 := Lib.hid ((hb4.alloc hb4.size (.cells #[.int .i64 x] 3)).grown hgrow5 (by have := hb4.size; simp; omega) (fun q hq => (World.ownsRow.lt hown4.out q hq).1)); clear hown5 hgrow5)
          obtain ⟨A5, c5, rfl, _⟩ := HS.out.read
          go_wp2
          go_roundw
          case rel => exact ⟨q + 1, n4 + 1, A5, c5, by omega, by go_num, by rw [HL5.out], Lib.hid (by rw [RM.out]; exact HL5.out), by have := HN4.out; omega, Lib.hid (by rw [RM.out]; have := HS.out; rw [HL5.out] at this; exact this), HB5.out⟩
          case measure => simp [intOf]; omega
        · have hqd : q = (z - y).toNat := by omega
          have KE := Lib.hid (KM.out.trans (by rw [← hqd]))
          clear hqd hn4
          go_wp2
          go_roundw
          case rel => exact ⟨k + 1, n4, A4, c4, by omega, by go_num, rfl, Lib.hid (by rw [KE.out]; exact HON4.out), Lib.hid (by rw [KE.out]; exact hown4.out), hb4⟩
          case measure => simp [intOf]; omega
    · have hkl : k = l.length := by omega
      subst hkl
      have HE := Lib.hid (show kindsV (l.take l.length) = kindsV l by rw [List.take_of_length_le (Nat.le_refl _)])
      rw [HE.out] at hown
      go_wp2
      go_ret
      exact ⟨_, rfl, hown.out, hb⟩

end Go.Proofs.Ythiiipbfdgaemaa

/- A slice of records as an argument: opened to the list that it holds. Conditions: none. -/
namespace Go.Proofs.Ythiiipbfdgaemaa
open Go.ChangeShapes Go.WideShapes Go.ChangeAt Go.RowKit Go.Joins Go.Deep

theorem cells_rec : Try.prog.cellsOf 59 = 3 := by kernel_rfl
theorem cells_int : Try.prog.cellsOf 3 = 1 := by kernel_rfl

set_option maxRecDepth 20000 in
/-- What lies in the three cells of a record that is read. -/
theorem read_rec {H : Type} {enc : TypeId × Value → H} {w : World} {base : Nat} {spare : Nat → Bool} {held : Bool} {fuel : Nat} {cs : List Value} {x : DataW H × List MemPlace}
    (h : DataW.trod enc Try.prog w base spare held fuel 59 cs = some x) : ∃ r : Rc, cs = [.int .i64 r.1, .int .i64 r.2.1, .int .i64 r.2.2] := by
  obtain ⟨ys, n, _, _, hl, hyl, hf⟩ := DataW.trod_struct Try.underlying59 h
  rw [cells_rec] at hl
  match cs, hl with
  | [c0, c1, c2], _ =>
    have hyl3 : ys.length = 3 := hyl
    match ys, hyl3 with
    | [y0, y1, y2], _ =>
      obtain ⟨a, ha, _, _⟩ := DataW.trod_int Try.underlying3 (hf 0 _ rfl)
      obtain ⟨b, hb, _, _⟩ := DataW.trod_int Try.underlying3 (hf 1 _ rfl)
      obtain ⟨c, hc, _, _⟩ := DataW.trod_int Try.underlying3 (hf 2 _ rfl)
      simp [cells_int] at ha hb hc
      exact ⟨(a, b, c), by rw [ha, hb, hc]⟩

set_option maxRecDepth 20000 in
theorem open_recs {H : Type} {enc : TypeId × Value → H} {w : World} {base : Nat} {spare : Nat → Bool} {held : Bool} {r : Reach} {b0 : Nat} {v : Value} {d : DataW H} {p : List MemPlace}
    (hv : Value.okWide Try.prog w r b0 25 v) (h : DataW.Trod enc Try.prog w base spare held 25 v d p) :
    ∃ (A : Option Addr) (n c : Nat) (l : List Rc), v = .slice A n c ∧ l.length = n ∧ RdR w A l ∧ (A = none → c = 0) := by
  obtain ⟨a0, len0, cap0, rfl⟩ := okWide_slice Try.underlying25 hv
  obtain ⟨fuel, hf⟩ := h
  rcases open_slice Try.underlying25 hf with ⟨hcs, _⟩ | ⟨a, len, cap, m, n, D, Pl, hcs, _, hl, _, hm, _, hx⟩
  · simp [Value.cells] at hcs
    obtain ⟨rfl, rfl, rfl⟩ := hcs
    exact ⟨none, 0, 0, [], rfl, rfl, RdR.nil _ _, fun _ => rfl⟩
  · simp [Value.cells] at hcs
    obtain ⟨rfl, rfl, rfl⟩ := hcs
    have hlm : len0 ≤ m := by rw [hm]; split <;> omega
    have hz : ∀ i, i < len0 → ∃ r : Rc, w.cell? (a.add (i * 3)) = some (.int .i64 r.1) ∧ w.cell? (a.add (i * 3 + 1)) = some (.int .i64 r.2.1) ∧ w.cell? (a.add (i * 3 + 2)) = some (.int .i64 r.2.2) := by
      intro i hi
      obtain ⟨cs', hc, ht⟩ := hx i (by omega)
      rw [cells_rec] at hc
      obtain ⟨q, rfl⟩ := read_rec ht
      obtain ⟨_, _, hat⟩ := World.cells?_some hc
      have h0 := hat 0 (by omega)
      have h1 := hat 1 (by omega)
      have h2 := hat 2 (by omega)
      rw [Go.Deep.add_add] at h0 h1 h2
      exact ⟨q, h0, h1, h2⟩
    obtain ⟨f, hF⟩ := choose_lt hz
    refine ⟨some a, len0, cap0, (List.range len0).map f, rfl, by simp, fun hne => ?_, fun h => by cases h⟩
    obtain ⟨b, off, spot⟩ := a
    have h0 : 0 < len0 := by
      rcases Nat.eq_zero_or_pos len0 with h | h
      · subst h; exact absurd rfl hne
      · exact h
    have hspot : spot = none := by simpa [Addr.add] using World.cell?_spot (hF 0 h0).1
    subst hspot
    refine ⟨b, off, rfl, ?_, fun k hk => ?_⟩
    · have := World.block_lt_of_cell? w _ (hF 0 h0).1
      rwa [addr_plain] at this
    · have hk' : k < len0 := by simpa using hk
      have hf := hF k hk'
      rw [addr_plain, addr_plain, addr_plain] at hf
      have e : ((List.range len0).map f).getD k rz = f k := by simp [List.getD, hk']
      rw [e, Nat.add_assoc, Nat.add_assoc]
      exact hf

end Go.Proofs.Ythiiipbfdgaemaa

/- Rows of a slice of the call's own and stores elsewhere; one cell stored in a region that draws its order. Conditions: none beyond each lemma's own premises. -/
namespace Go.Proofs.Ythiiipbfdgaemaa
open Go.RowKit

theorem row_type {base sz n : Nat} {e : TypeId} {w : World} {v : Value} {xs : List Value} (h : w.ownsRow base e sz v n xs) {q : Nat} (hq : v.ownBlock = some q) : ∃ cs z, w.heap[q]? = some (.cells cs e z) := by
  rcases h.2 with ⟨h2, _⟩ | ⟨g, cap, cur, hv, hg, hh, r⟩
  · rw [h2] at hq; cases hq
  · rw [hv] at hq
    injection hq with hq
    have hq' : g = q := hq
    subst hq'
    exact ⟨_, _, hh⟩
theorem row_block {base sz n : Nat} {e : TypeId} {w w' : World} {v : Value} {xs : List Value} (h : w.ownsRow base e sz v n xs) (hq : ∀ k, v.ownBlock = some k → w'.heap[k]? = w.heap[k]?) : w'.ownsRow base e sz v n xs := by
  refine ⟨h.1, ?_⟩
  rcases h.2 with h2 | ⟨g, cap, cur, hv, hg, hh, r⟩
  · exact Or.inl h2
  · refine Or.inr ⟨g, cap, cur, hv, hg, ?_, r⟩
    rw [hq g (by rw [hv]; rfl)]
    exact hh
/-- A store into another block below base. -/
theorem OwnF.upd {base g : Nat} {t : TypeId} {cs : Array Value} {w w' : World} {v : Value} {l : List Rc} (h : OwnF base w v l) (u : Upd w g t cs w') (hg : g < base) : OwnF base w' v l :=
  row_block h fun k hk => u.other k (by have := (World.ownsRow.lt h k hk).1; omega)
theorem OwnF.chg {base g : Nat} {t : TypeId} {cs : Array Value} {w w' : World} {v : Value} {l : List Rc} (h : OwnF base w v l) (u : Chg w g t cs w') (hg : g < base) : OwnF base w' v l :=
  row_block h fun k hk => u.other k (by have := (World.ownsRow.lt h k hk).1; omega) (World.ownsRow.lt h k hk).2

theorem wp_store_fld {P : Program} {o : Oper} {a : Act} {w : World} {K : Act → World → Prop} {Q : Exit → Act → World → Prop} (ty : TypeId) (x y : Operand) (ho : o.op = .store ty x y)
    (g k : Nat) (v : Value) (hx : a.eval x = .pointer (some ⟨g, k, none⟩)) (hy : a.eval y = v) (h1 : v.oneCell' = true) (t : TypeId) (cs : Array Value) (hb : Bx w g t cs) (hk : k < cs.size) (hi : (P.info? ty).map (·.size) = some 1)
    (h : ∀ W', Upd w g t (cs.setIfInBounds k v) W' → K (a.put o.dst undef) W') : o.wp P a w K Q := by
  unfold Oper.wp execOp
  simp only [ho, hx, hy, Instr.storeAt, Instr.sureAddr, Sem.run_bind, Sem.run_pure, Result.andThen_ok, run_storeVar_fld w g k t ty cs v hb hk hi h1]
  exact h _ (Upd.of_setRow _ hb)

end Go.Proofs.Ythiiipbfdgaemaa

/- Findings in order, each once: such a list is the only one with its findings; what is sorted and then rid of neighbours that are the same is such a list. Conditions: none beyond each lemma's own premises. -/
namespace Go.Proofs.Ythiiipbfdgaemaa
open Go.RowKit

/-- One triple comes ahead of another one. -/
def ltF (x y : Rc) : Prop := x.1 < y.1 ∨ (x.1 = y.1 ∧ (x.2.1 < y.2.1 ∨ (x.2.1 = y.2.1 ∧ x.2.2 < y.2.2)))
instance (x y : Rc) : Decidable (ltF x y) := by unfold ltF; infer_instance

theorem ltF_irr (x : Rc) : ¬ ltF x x := by unfold ltF; omega
theorem ltF_tr {x y z : Rc} (h : ltF x y) (h2 : ltF y z) : ltF x z := by unfold ltF at *; omega
theorem ltF_as {x y : Rc} (h : ltF x y) : ¬ ltF y x := fun k => ltF_irr x (ltF_tr h k)
theorem ltF_tot {x y : Rc} (h : ¬ ltF x y) (h2 : ¬ ltF y x) : x = y := by
  unfold ltF at *
  obtain ⟨a, b, c⟩ := x
  obtain ⟨d, e, f⟩ := y
  simp only [Prod.mk.injEq] at *
  omega
theorem ltF_nt {x y z : Rc} (h : ¬ ltF x y) (h2 : ¬ ltF y z) : ¬ ltF x z := by unfold ltF at *; omega

/-- The findings of l in order, each once. -/
def SetF (r l : List Rc) : Prop := r.Pairwise ltF ∧ ∀ x, x ∈ r ↔ x ∈ l

theorem sorted_unique : ∀ {r s : List Rc}, r.Pairwise ltF → s.Pairwise ltF → (∀ x, x ∈ r ↔ x ∈ s) → r = s
  | [], [], _, _, _ => rfl
  | [], y :: s, _, _, h => by have := (h y).2 (List.mem_cons_self ..); cases this
  | x :: r, [], _, _, h => by have := (h x).1 (List.mem_cons_self ..); cases this
  | x :: r, y :: s, hr, hs, h => by
    obtain ⟨hx, hr2⟩ := List.pairwise_cons.1 hr
    obtain ⟨hy, hs2⟩ := List.pairwise_cons.1 hs
    have e : x = y := by
      rcases List.mem_cons.1 ((h x).1 (List.mem_cons_self ..)) with e | h1
      · exact e
      · rcases List.mem_cons.1 ((h y).2 (List.mem_cons_self ..)) with e | h2
        · exact e.symm
        · exact absurd (hy x h1) (ltF_as (hx y h2))
    subst e
    have hrs : r = s := sorted_unique hr2 hs2 fun z => by
      have hz := h z
      constructor
      · intro hm
        rcases List.mem_cons.1 (hz.1 (List.mem_cons_of_mem _ hm)) with e | h1
        · subst e; exact absurd (hx z hm) (ltF_irr z)
        · exact h1
      · intro hm
        rcases List.mem_cons.1 (hz.2 (List.mem_cons_of_mem _ hm)) with e | h1
        · subst e; exact absurd (hy z hm) (ltF_irr z)
        · exact h1
    rw [hrs]

theorem setF_unique {r s l : List Rc} (h : SetF r l) (h2 : SetF s l) : r = s := sorted_unique h.1 h2.1 fun x => (h.2 x).trans (h2.2 x).symm
theorem setF_again {r s l : List Rc} (h : SetF r l) (h2 : SetF s r) : s = r := setF_unique h2 ⟨h.1, fun _ => Iff.rfl⟩
theorem setF_perm {r l d : List Rc} (h : SetF r d) (hp : d.Perm l) : SetF r l := ⟨h.1, fun x => (h.2 x).trans hp.mem_iff⟩

theorem pair_nodup {l : List Rc} (h : l.Pairwise ltF) : l.Nodup := h.imp fun hab e => by subst e; exact ltF_irr _ hab

theorem nodup_len : ∀ {o l : List Rc}, o.Nodup → (∀ x ∈ o, x ∈ l) → o.length ≤ l.length
  | [], _, _, _ => Nat.zero_le _
  | x :: o, l, hn, h => by
    obtain ⟨hx, hn2⟩ := List.nodup_cons.1 hn
    have hm := h x (List.mem_cons_self ..)
    have := nodup_len (o := o) (l := l.erase x) hn2 fun y hy => (List.mem_erase_of_ne (fun e => by subst e; exact hx hy)).2 (h y (List.mem_cons_of_mem _ hy))
    rw [List.length_erase_of_mem hm] at this
    have hp := List.length_pos_of_mem hm
    rw [List.length_cons]
    omega

/-! ### What is sorted, rid of neighbours that are the same -/

theorem compact_set {d : Array Rc} (hs : ∀ i j : Nat, i < j → j < d.size → ¬ ltF d[j]! d[i]!) : ∀ m, m ≤ d.size →
    (Lib.compactUpTo d m).Pairwise ltF ∧ ∀ x, x ∈ Lib.compactUpTo d m ↔ ∃ j, j < m ∧ d[j]! = x := by
  intro m
  induction m with
  | zero => intro _; exact ⟨by simp [Lib.compactUpTo], fun x => by simp [Lib.compactUpTo]⟩
  | succ m ih =>
    intro hm
    obtain ⟨ih1, ih2⟩ := ih (by omega)
    rw [Lib.compactUpTo_succ]
    by_cases hk : Lib.keeps d m = true
    · rw [if_pos hk]
      constructor
      · rw [List.pairwise_append]
        refine ⟨ih1, by simp, fun x hx y hy => ?_⟩
        rw [List.mem_singleton] at hy
        subst hy
        obtain ⟨j, hj, rfl⟩ := (ih2 x).1 hx
        have n1 := hs j m hj (by omega)
        by_cases h1 : ltF d[j]! d[m]!
        · exact h1
        · exfalso
          have e := ltF_tot h1 n1
          have hm0 : m ≠ 0 := by omega
          have hne : d[m]! ≠ d[m - 1]! := by
            unfold Lib.keeps at hk
            have := of_decide_eq_true hk
            rcases this with h0 | h0
            · exact absurd h0 hm0
            · exact h0
          have n2 := hs (m - 1) m (by omega) (by omega)
          have n3 : ¬ ltF d[m - 1]! d[j]! := by
            by_cases ej : j = m - 1
            · rw [ej]; exact ltF_irr _
            · exact hs j (m - 1) (by omega) (by omega)
          rw [e] at n3
          exact hne (ltF_tot n2 n3)
      · intro x
        rw [List.mem_append, List.mem_singleton, ih2]
        constructor
        · rintro (⟨j, hj, e⟩ | rfl)
          · exact ⟨j, by omega, e⟩
          · exact ⟨m, by omega, rfl⟩
        · rintro ⟨j, hj, e⟩
          by_cases ej : j = m
          · subst ej; exact .inr e.symm
          · exact .inl ⟨j, by omega, e⟩
    · rw [if_neg hk, List.append_nil]
      refine ⟨ih1, fun x => (ih2 x).trans ⟨fun ⟨j, hj, e⟩ => ⟨j, by omega, e⟩, fun ⟨j, hj, e⟩ => ?_⟩⟩
      by_cases ej : j = m
      · subst ej
        have hm0 : j ≠ 0 := by
          intro h
          subst h
          simp [Lib.keeps] at hk
        have he : d[j]! = d[j - 1]! := by
          unfold Lib.keeps at hk
          simp only [decide_eq_true_eq, not_or] at hk
          exact Classical.not_not.1 hk.2
        exact ⟨j - 1, by omega, by rw [← he]; exact e⟩
      · exact ⟨j, by omega, e⟩

theorem arr_mem (d : Array Rc) (x : Rc) : (∃ j, j < d.size ∧ d[j]! = x) ↔ x ∈ d.toList := by
  rw [List.mem_iff_getElem]
  constructor
  · rintro ⟨j, hj, e⟩
    refine ⟨j, by simpa using hj, ?_⟩
    rw [getElem!_pos d j hj] at e
    simpa using e
  · rintro ⟨j, hj, e⟩
    have hj' : j < d.size := by simpa using hj
    refine ⟨j, hj', ?_⟩
    rw [getElem!_pos d j hj']
    simpa using e

theorem compact_setF {d : Array Rc} (hs : ∀ i j : Nat, i < j → j < d.size → ¬ ltF d[j]! d[i]!) : SetF (Lib.compactUpTo d d.size) d.toList := by
  obtain ⟨h1, h2⟩ := compact_set hs d.size (Nat.le_refl _)
  exact ⟨h1, fun x => (h2 x).trans (arr_mem d x)⟩

/-! ### One by one -/

/-- What is told already: in order, of l, and all of l that does not lie behind it. -/
structure OutF (o l : List Rc) : Prop where
  ord : o.Pairwise ltF
  mem : ∀ x ∈ o, x ∈ l
  all : ∀ y ∈ l, y ∈ o ∨ ∀ x ∈ o, ltF x y

theorem OutF.nil (l : List Rc) : OutF [] l := ⟨List.Pairwise.nil, (fun _ h => by cases h), (fun _ _ => .inr (fun _ h => by cases h))⟩
theorem OutF.len {o l : List Rc} (h : OutF o l) : o.length ≤ l.length := nodup_len (pair_nodup h.ord) h.mem
theorem OutF.set {o l : List Rc} (h : OutF o l) (hn : ∀ y ∈ l, ¬ ∀ x ∈ o, ltF x y) : SetF o l := ⟨h.ord, fun x => ⟨h.mem x, fun hx => (h.all x hx).elim id fun k => absurd k (hn x hx)⟩⟩
theorem OutF.more {o l : List Rc} {b : Rc} (h : OutF o l) (hb : b ∈ l) (hc : ∀ x ∈ o, ltF x b) (hm : ∀ y ∈ l, (∀ x ∈ o, ltF x y) → ¬ ltF y b) : OutF (o ++ [b]) l where
  ord := by
    rw [List.pairwise_append]
    exact ⟨h.ord, by simp, fun x hx y hy => by rw [List.mem_singleton] at hy; subst hy; exact hc x hx⟩
  mem := fun x hx => by
    rcases List.mem_append.1 hx with h1 | h1
    · exact h.mem x h1
    · rw [List.mem_singleton] at h1; subst h1; exact hb
  all := fun y hy => by
    rcases h.all y hy with h1 | h1
    · exact .inl (List.mem_append_left _ h1)
    · by_cases h2 : ltF b y
      · refine .inr fun x hx => ?_
        rcases List.mem_append.1 hx with h3 | h3
        · exact h1 x h3
        · rw [List.mem_singleton] at h3; subst h3; exact h2
      · have := ltF_tot h2 (hm y hy h1)
        subst this
        exact .inl (List.mem_append_right _ (List.mem_singleton.2 rfl))

/-- To lie behind the last one is to lie behind all. -/
theorem behind_last {o : List Rc} {z y : Rc} (h : (o ++ [z]).Pairwise ltF) : (∀ x ∈ o ++ [z], ltF x y) ↔ ltF z y := by
  constructor
  · intro k; exact k z (List.mem_append_right _ (List.mem_singleton.2 rfl))
  · intro k x hx
    rcases List.mem_append.1 hx with h1 | h1
    · rw [List.pairwise_append] at h
      exact ltF_tr (h.2.2 x h1 z (List.mem_singleton.2 rfl)) k
    · rw [List.mem_singleton] at h1; subst h1; exact k

/-- Of the first k of l the least one behind o, if there is one. -/
def BestF (o l : List Rc) (k : Nat) : Bool → Rc → Prop
  | false, _ => ∀ j, j < k → ¬ ∀ x ∈ o, ltF x (l.getD j rz)
  | true, b => b ∈ l ∧ (∀ x ∈ o, ltF x b) ∧ ∀ j, j < k → (∀ x ∈ o, ltF x (l.getD j rz)) → ¬ ltF (l.getD j rz) b

theorem BestF.zero (o l : List Rc) (b : Rc) : BestF o l 0 false b := fun j hj => by omega

theorem getD_in {l : List Rc} {k : Nat} (h : k < l.length) : l.getD k rz ∈ l := by
  rw [List.getD_eq_getElem?_getD, List.getElem?_eq_getElem h]
  exact List.getElem_mem h

theorem in_getD {l : List Rc} {y : Rc} (h : y ∈ l) : ∃ j, j < l.length ∧ l.getD j rz = y := by
  obtain ⟨j, hj, e⟩ := List.mem_iff_getElem.1 h
  exact ⟨j, hj, by rw [List.getD_eq_getElem?_getD, List.getElem?_eq_getElem hj, e]; rfl⟩

/-- The next one does not lie behind o, or is not ahead of the best one: it is passed over. -/
theorem BestF.skip {o l : List Rc} {k : Nat} {f : Bool} {b : Rc} (h : BestF o l k f b) (hn : ¬ ∀ x ∈ o, ltF x (l.getD k rz)) : BestF o l (k + 1) f b := by
  cases f with
  | false =>
    intro j hj
    by_cases e : j = k
    · subst e; exact hn
    · exact h j (by omega)
  | true =>
    refine ⟨h.1, h.2.1, fun j hj hc => ?_⟩
    by_cases e : j = k
    · subst e; exact absurd hc hn
    · exact h.2.2 j (by omega) hc

theorem BestF.pass {o l : List Rc} {k : Nat} {b : Rc} (h : BestF o l k true b) (hn : ¬ ltF (l.getD k rz) b) : BestF o l (k + 1) true b := by
  refine ⟨h.1, h.2.1, fun j hj hc => ?_⟩
  by_cases e : j = k
  · subst e; exact hn
  · exact h.2.2 j (by omega) hc

theorem BestF.take {o l : List Rc} {k : Nat} {f : Bool} {b : Rc} (h : BestF o l k f b) (hk : k < l.length) (hc : ∀ x ∈ o, ltF x (l.getD k rz)) (hf : f = true → ltF (l.getD k rz) b) : BestF o l (k + 1) true (l.getD k rz) := by
  refine ⟨getD_in hk, hc, fun j hj hcj => ?_⟩
  by_cases e : j = k
  · subst e; exact ltF_irr _
  · cases f with
    | false => exact absurd hcj (h j (by omega))
    | true => exact fun k2 => h.2.2 j (by omega) hcj (ltF_tr k2 (hf rfl))

theorem BestF.none {o l : List Rc} {b : Rc} (h : BestF o l l.length false b) (ho : OutF o l) : SetF o l := ho.set fun y hy => by
  obtain ⟨j, hj, e⟩ := in_getD hy
  rw [← e]; exact h j hj
theorem BestF.some {o l : List Rc} {b : Rc} (h : BestF o l l.length true b) (ho : OutF o l) : OutF (o ++ [b]) l := ho.more h.1 h.2.1 fun y hy hc => by
  obtain ⟨j, hj, e⟩ := in_getD hy
  rw [← e] at hc ⊢; exact h.2.2 j hj hc

end Go.Proofs.Ythiiipbfdgaemaa

/- Slices of triples of any struct type that the call itself has made. Conditions: none beyond each lemma's own premises. -/
namespace Go.Proofs.Ythiiipbfdgaemaa
open Go.RowKit

/-- The slice is the call's own (its block's number is base or more) and holds l; its elements are of type T. -/
def OwnT (T : TypeId) (base : Nat) (w : World) (v : Value) (l : List Rc) : Prop := w.ownsRow base T 3 v l.length (flatF l)

theorem OwnT.nil (T : TypeId) (base : Nat) (w : World) : OwnT T base w (.slice none 0 0) [] := World.ownsRow_nil w base _ 3

theorem OwnT.read {T : TypeId} {base : Nat} {w : World} {v : Value} {l : List Rc} (h : OwnT T base w v l) : ∃ A c, v = .slice A l.length c ∧ RdF w A l ∧ (A = none → c = 0) := by
  have h0 := h
  rcases h.2 with ⟨rfl, hn⟩ | ⟨g, cap, cur, rfl, hb, hg, h1, h2, h3, h4⟩
  · obtain rfl : l = [] := List.eq_nil_of_length_eq_zero hn
    exact ⟨none, 0, rfl, RdF.nil _ _, fun _ => rfl⟩
  · refine ⟨some ⟨g, 0, none⟩, cap, rfl, fun _ => ⟨g, 0, rfl, (World.ownsRow.lt h0 g rfl).2, fun k hk => ?_⟩, fun h => by cases h⟩
    have hf := flatF_get l k hk
    rw [Nat.zero_add, World.ownsRow.cellAt h0 (k * 3) (by omega), World.ownsRow.cellAt h0 (k * 3 + 1) (by omega), World.ownsRow.cellAt h0 (k * 3 + 2) (by omega)]
    exact hf

theorem OwnT.below {T : TypeId} {base : Nat} {w w' : World} {v : Value} {l : List Rc} (h : OwnT T base w v l) (hb : Below w.heap.size w w') : OwnT T base w' v l := row_below h hb
theorem OwnT.alloc {T : TypeId} {base : Nat} {w : World} {v : Value} {l : List Rc} (h : OwnT T base w v l) (o : Obj) : OwnT T base (w.alloc o) v l := World.ownsRow.alloc h o
theorem OwnT.snoc {T : TypeId} {base : Nat} {w : World} {v : Value} {l : List Rc} {k x y : Int} (h : w.ownsRow base T 3 v (l.length + 1) (flatF l ++ [.int .i64 k, .int .i64 x, .int .i64 y])) : OwnT T base w v (l ++ [(k, x, y)]) := by
  unfold OwnT
  rw [flatF_append, List.length_append]
  exact h
theorem OwnT.upd {T : TypeId} {base g : Nat} {t : TypeId} {cs : Array Value} {w w' : World} {v : Value} {l : List Rc} (h : OwnT T base w v l) (u : Upd w g t cs w') (hg : g < base) : OwnT T base w' v l :=
  row_block h fun k hk => u.other k (by have := (World.ownsRow.lt h k hk).1; omega)
/-- A row stays, where a block of another type is written. -/
theorem OwnT.held {T : TypeId} {base q : Nat} {t : TypeId} {old cs : Array Value} {w w' : World} {v : Value} {l : List Rc} (h : OwnT T base w v l) (hb : Bx w q t old) (ht : t ≠ T) (u : Upd w q t cs w') : OwnT T base w' v l :=
  row_block h fun k hk => u.other k fun e => by
    subst e
    obtain ⟨cs', z, hh⟩ := row_type (show w.ownsRow base T 3 _ _ _ from h) hk
    unfold Bx at hb
    rw [hb] at hh
    injection hh with hh
    injection hh with _ hh _
    exact ht hh

theorem info_vis : (Try.prog.info? 49).map (fun i => (i.zero, i.size, i.bytes)) = some (some (.agg #[.int .i64 0, .int .i64 0, .int .i64 0]), 3, 24) := by kernel_rfl
theorem info_rvis : (Try.prog.info? 48).map (fun i => (i.zero, i.size, i.bytes)) = some (some (.agg #[.int .i64 0, .int .i64 0, .int .i64 0]), 3, 24) := by kernel_rfl

end Go.Proofs.Ythiiipbfdgaemaa

/- Windows in plain words: what is wrong with them, the last minute, the next one, and what follows. Conditions: none beyond each lemma's own premises. -/
namespace Go.Proofs.Ythiiipbfdgaemaa

def last1 (acc : Int × Bool) (s : Sp) : Int × Bool :=
  if s.1 < s.2 ∧ (acc.2 = false ∨ acc.1 < s.2 - 1) then (s.2 - 1, true) else acc

def lastL (l : List Sp) : Int × Bool := l.foldl last1 (0, false)

theorem last_more (l : List Sp) (k : Nat) (h : k < l.length) : (l.take (k + 1)).foldl last1 (0, false) = last1 ((l.take k).foldl last1 (0, false)) (l.getD k (0, 0)) := by
  rw [take_more l (0, 0) k h, List.foldl_append]; rfl

theorem last_stop {l : List Sp} {k : Nat} {acc : Int × Bool} (hk : l.length ≤ k) (h : (l.take k).foldl last1 (0, false) = acc) : lastL l = acc := by
  rw [List.take_of_length_le hk] at h; exact h

theorem last_skip {acc : Int × Bool} {s : Sp} (h : ¬ s.1 < s.2) : last1 acc s = acc := by unfold last1; rw [if_neg (fun k => h k.1)]

theorem last_first {z : Int} {s : Sp} (h : s.1 < s.2) : last1 (z, false) s = (s.2 - 1, true) := by unfold last1; rw [if_pos ⟨h, Or.inl rfl⟩]

theorem last_take {z : Int} {s : Sp} (h : s.1 < s.2) (h2 : z < s.2 - 1) : last1 (z, true) s = (s.2 - 1, true) := by unfold last1; rw [if_pos ⟨h, Or.inr h2⟩]

theorem last_leave {z : Int} {s : Sp} (h2 : ¬ z < s.2 - 1) : last1 (z, true) s = (z, true) := by
  unfold last1; rw [if_neg]; rintro ⟨_, k | k⟩
  · cases k
  · exact h2 k

theorem last_from : ∀ (l : List Sp) (acc : Int × Bool),
    ((l.foldl last1 acc).2 = false → acc.2 = false ∧ ∀ s ∈ l, ¬ s.1 < s.2) ∧
    ((l.foldl last1 acc).2 = true → ((acc.2 = true ∧ (l.foldl last1 acc).1 = acc.1) ∨ ∃ s ∈ l, s.1 < s.2 ∧ (l.foldl last1 acc).1 = s.2 - 1) ∧
      (acc.2 = true → acc.1 ≤ (l.foldl last1 acc).1) ∧ ∀ s ∈ l, s.1 < s.2 → s.2 - 1 ≤ (l.foldl last1 acc).1)
  | [], acc => ⟨fun h => ⟨h, by simp⟩, fun h => ⟨Or.inl ⟨h, rfl⟩, fun _ => Int.le_refl _, by simp⟩⟩
  | s :: l, acc => by
    obtain ⟨i1, i2⟩ := last_from l (last1 acc s)
    rw [List.foldl_cons]
    by_cases hs : s.1 < s.2 ∧ (acc.2 = false ∨ acc.1 < s.2 - 1)
    · have e : last1 acc s = (s.2 - 1, true) := if_pos hs
      rw [e] at i1 i2 ⊢
      refine ⟨fun h => absurd (i1 h).1 (by simp), fun h => ?_⟩
      obtain ⟨j1, j2, j3⟩ := i2 h
      refine ⟨Or.inr ?_, fun ha => ?_, fun t ht hr => ?_⟩
      · rcases j1 with ⟨_, j⟩ | ⟨t, ht, j⟩
        · exact ⟨s, List.mem_cons_self .., hs.1, j⟩
        · exact ⟨t, List.mem_cons_of_mem _ ht, j⟩
      · have := j2 rfl
        rcases hs.2 with k | k
        · rw [ha] at k; cases k
        · simp only at this; omega
      · rcases List.mem_cons.1 ht with rfl | ht
        · exact j2 rfl
        · exact j3 t ht hr
    · have e : last1 acc s = acc := if_neg hs
      rw [e] at i1 i2 ⊢
      refine ⟨fun h => ?_, fun h => ?_⟩
      · obtain ⟨a, b⟩ := i1 h
        refine ⟨a, fun t ht => ?_⟩
        rcases List.mem_cons.1 ht with rfl | ht
        · exact fun k => hs ⟨k, Or.inl a⟩
        · exact b t ht
      · obtain ⟨j1, j2, j3⟩ := i2 h
        refine ⟨?_, j2, fun t ht hr => ?_⟩
        · rcases j1 with j | ⟨t, ht, j⟩
          · exact Or.inl j
          · exact Or.inr ⟨t, List.mem_cons_of_mem _ ht, j⟩
        · rcases List.mem_cons.1 ht with rfl | ht
          · have ha : acc.2 = true := by
              cases h2 : acc.2 with
              | true => rfl
              | false => exact absurd ⟨hr, Or.inl h2⟩ hs
            have := j2 ha
            have : ¬ acc.1 < t.2 - 1 := fun k => hs ⟨hr, Or.inr k⟩
            omega
          · exact j3 t ht hr

theorem next_from (m : Int) : ∀ (l : List Sp) (acc : Int × Bool),
    ((l.foldl (next1 m) acc).2 = false → acc.2 = false ∧ ∀ s ∈ l, ¬ (s.1 < s.2 ∧ m < s.2)) ∧
    ((l.foldl (next1 m) acc).2 = true → ((acc.2 = true ∧ (l.foldl (next1 m) acc).1 = acc.1) ∨ ∃ s ∈ l, s.1 ≤ (l.foldl (next1 m) acc).1 ∧ (l.foldl (next1 m) acc).1 < s.2 ∧ m ≤ (l.foldl (next1 m) acc).1) ∧
      (acc.2 = true → (l.foldl (next1 m) acc).1 ≤ acc.1) ∧ ∀ s ∈ l, s.1 < s.2 → m < s.2 → ∀ n, m ≤ n → s.1 ≤ n → (l.foldl (next1 m) acc).1 ≤ n)
  | [], acc => ⟨fun h => ⟨h, by simp⟩, fun h => ⟨Or.inl ⟨h, rfl⟩, fun _ => Int.le_refl _, by simp⟩⟩
  | s :: l, acc => by
    obtain ⟨i1, i2⟩ := next_from m l (next1 m acc s)
    rw [List.foldl_cons]
    by_cases hs : s.1 < s.2 ∧ m < s.2
    · obtain ⟨k, hk⟩ : ∃ k, (if s.1 < m then m else s.1) = k := ⟨_, rfl⟩
      have kb : s.1 ≤ k ∧ m ≤ k ∧ k < s.2 ∧ (k = m ∨ k = s.1) := by
        rw [← hk]; split <;> (refine ⟨?_, ?_, ?_, ?_⟩ <;> omega)
      by_cases hc : acc.2 = false ∨ k < acc.1
      · have e : next1 m acc s = (k, true) := by unfold next1; rw [if_pos hs, hk, if_pos hc]
        rw [e] at i1 i2 ⊢
        refine ⟨fun h => absurd (i1 h).1 (by simp), fun h => ?_⟩
        obtain ⟨j1, j2, j3⟩ := i2 h
        have j2' := j2 rfl
        simp only at j2'
        refine ⟨Or.inr ?_, fun ha => ?_, fun t ht hr hm n h1 h2 => ?_⟩
        · rcases j1 with ⟨_, j⟩ | ⟨t, ht, j⟩
          · simp only at j
            exact ⟨s, List.mem_cons_self .., by omega, by omega, by omega⟩
          · exact ⟨t, List.mem_cons_of_mem _ ht, j⟩
        · rcases hc with c | c
          · rw [ha] at c; cases c
          · omega
        · rcases List.mem_cons.1 ht with rfl | ht
          · omega
          · exact j3 t ht hr hm n h1 h2
      · have e : next1 m acc s = acc := by unfold next1; rw [if_pos hs, hk, if_neg hc]
        have ha : acc.2 = true := by
          cases h2 : acc.2 with
          | true => rfl
          | false => exact absurd (Or.inl h2) hc
        have hk2 : ¬ k < acc.1 := fun h => hc (Or.inr h)
        rw [e] at i1 i2 ⊢
        refine ⟨fun h => absurd (i1 h).1 (by rw [ha]; simp), fun h => ?_⟩
        obtain ⟨j1, j2, j3⟩ := i2 h
        have j2' := j2 ha
        refine ⟨?_, j2, fun t ht hr hm n h1 h2 => ?_⟩
        · rcases j1 with j | ⟨t, ht, j⟩
          · exact Or.inl j
          · exact Or.inr ⟨t, List.mem_cons_of_mem _ ht, j⟩
        · rcases List.mem_cons.1 ht with rfl | ht
          · omega
          · exact j3 t ht hr hm n h1 h2
    · have e : next1 m acc s = acc := by unfold next1; rw [if_neg hs]
      rw [e] at i1 i2 ⊢
      refine ⟨fun h => ?_, fun h => ?_⟩
      · obtain ⟨a, b⟩ := i1 h
        refine ⟨a, fun t ht => ?_⟩
        rcases List.mem_cons.1 ht with rfl | ht
        · exact hs
        · exact b t ht
      · obtain ⟨j1, j2, j3⟩ := i2 h
        refine ⟨?_, j2, fun t ht hr hm => ?_⟩
        · rcases j1 with j | ⟨t, ht, j⟩
          · exact Or.inl j
          · exact Or.inr ⟨t, List.mem_cons_of_mem _ ht, j⟩
        · rcases List.mem_cons.1 ht with rfl | ht
          · exact absurd ⟨hr, hm⟩ hs
          · exact j3 t ht hr hm

theorem last_no {l : List Sp} (h : (lastL l).2 = false) (n : Int) : hasL l n = false := by
  rw [hasL_no]; intro s hs k
  exact ((last_from l (0, false)).1 h).2 s hs (by omega)

theorem last_has {l : List Sp} (h : (lastL l).2 = true) : hasL l (lastL l).1 = true := by
  obtain ⟨j1, _, _⟩ := (last_from l (0, false)).2 h
  rcases j1 with ⟨k, _⟩ | ⟨s, hs, h1, h2⟩
  · cases k
  · rw [hasL_iff]
    refine ⟨s, hs, ?_⟩
    unfold lastL
    omega

theorem last_end {l : List Sp} (h : (lastL l).2 = true) {n : Int} (hn : (lastL l).1 < n) : hasL l n = false := by
  obtain ⟨_, _, j3⟩ := (last_from l (0, false)).2 h
  rw [hasL_no]; intro s hs k
  have := j3 s hs (by omega)
  unfold lastL at hn
  omega

theorem next_no {l : List Sp} {m : Int} (h : (nextL l m).2 = false) {n : Int} (hn : m ≤ n) : hasL l n = false := by
  rw [hasL_no]; intro s hs k
  exact ((next_from m l (0, false)).1 h).2 s hs (by omega)

theorem next_has {l : List Sp} {m : Int} (h : (nextL l m).2 = true) : m ≤ (nextL l m).1 ∧ hasL l (nextL l m).1 = true := by
  obtain ⟨j1, _, _⟩ := (next_from m l (0, false)).2 h
  rcases j1 with ⟨k, _⟩ | ⟨s, hs, h1, h2, h3⟩
  · cases k
  · exact ⟨h3, hasL_iff.2 ⟨s, hs, h1, h2⟩⟩

theorem next_none {l : List Sp} {m : Int} (h : (nextL l m).2 = true) {n : Int} (hn : m ≤ n) (h2 : n < (nextL l m).1) : hasL l n = false := by
  obtain ⟨_, _, j3⟩ := (next_from m l (0, false)).2 h
  rw [hasL_no]; intro s hs k
  have := j3 s hs (by omega) (by omega) n hn k.1
  unfold nextL at h2
  omega

theorem next_last {l : List Sp} {m : Int} (h : (nextL l m).2 = true) : (lastL l).2 = true ∧ (nextL l m).1 ≤ (lastL l).1 := by
  have hh := (next_has h).2
  have ht : (lastL l).2 = true := by
    cases h2 : (lastL l).2 with
    | true => rfl
    | false => rw [last_no h2] at hh; cases hh
  refine ⟨ht, ?_⟩
  rcases Int.lt_or_le (lastL l).1 (nextL l m).1 with k | k
  · rw [last_end ht k] at hh; cases hh
  · exact k

/-- A window that is not right; one that is not within the limits. -/
def wrongS (s : Sp) : Bool := !decide (s.1 < s.2)
def rangeS (s : Sp) : Bool := decide (s.1 < 0) || decide (40320 < s.2)

/-- What is wrong with windows, by the error's number. -/
def checkW (l : List Sp) : Int :=
  if l.length = 0 then 13 else if 8 < l.length then 12 else if l.any wrongS then 3 else if l.any rangeS then 4 else if rightB l then 0 else 6

theorem any_at {p : Sp → Bool} {l : List Sp} {k : Nat} (h : k < l.length) (hp : p (l.getD k (0, 0)) = true) : l.any p = true :=
  List.any_eq_true.2 ⟨_, getD_mem h, hp⟩

theorem any_none {p : Sp → Bool} {l : List Sp} {k : Nat} (hk : l.length ≤ k) (h : ∀ j, j < k → p (l.getD j (0, 0)) = false) : l.any p = false := by
  rw [List.any_eq_false]
  intro s hs
  obtain ⟨j, hj, e⟩ := List.getElem_of_mem hs
  have := h j (by omega)
  rw [List.getD_eq_getElem?_getD, List.getElem?_eq_getElem hj] at this
  simp only [Option.getD_some, e] at this
  rw [this]; simp

theorem check_none {l : List Sp} (h : l.length = 0) : checkW l = 13 := if_pos h
theorem check_many {l : List Sp} (h : 8 < l.length) : checkW l = 12 := by unfold checkW; rw [if_neg (by omega), if_pos h]
theorem check_wrong {l : List Sp} (h0 : l.length ≠ 0) (h : ¬ 8 < l.length) (h1 : l.any wrongS = true) : checkW l = 3 := by unfold checkW; rw [if_neg h0, if_neg h, if_pos h1]
theorem check_range {l : List Sp} (h0 : l.length ≠ 0) (h : ¬ 8 < l.length) (h1 : l.any wrongS = false) (h2 : l.any rangeS = true) : checkW l = 4 := by
  unfold checkW; rw [if_neg h0, if_neg h, if_neg (by rw [h1]; simp), if_pos h2]
theorem check_right {l : List Sp} (h0 : l.length ≠ 0) (h : ¬ 8 < l.length) (h1 : l.any wrongS = false) (h2 : l.any rangeS = false) (h3 : rightB l = true) : checkW l = 0 := by
  unfold checkW; rw [if_neg h0, if_neg h, if_neg (by rw [h1]; simp), if_neg (by rw [h2]; simp), if_pos h3]
theorem check_over {l : List Sp} (h0 : l.length ≠ 0) (h : ¬ 8 < l.length) (h1 : l.any wrongS = false) (h2 : l.any rangeS = false) (h3 : rightB l = false) : checkW l = 6 := by
  unfold checkW; rw [if_neg h0, if_neg h, if_neg (by rw [h1]; simp), if_neg (by rw [h2]; simp), if_neg (by rw [h3]; simp)]

end Go.Proofs.Ythiiipbfdgaemaa

/- Tasks in plain words: whether a spot is right, the spot behind a minute, what is left. Conditions: none beyond each lemma's own premises. -/
namespace Go.Proofs.Ythiiipbfdgaemaa

/-- A task: its drive, its service, the windows. -/
abbrev Tk := Int × Int × List Sp
/-- A spot: how many tasks are done, and how much of the next one is driven and served. -/
abbrev Pt := Int × Int × Int

def tk (l : List Tk) (i : Int) : Tk := l.getD i.toNat (0, 0, [])

/-- What is wrong with a task, by the error's number. -/
def taskV (t : Tk) : Int :=
  if t.1 < 0 ∨ 10080 < t.1 ∨ t.2.1 < 0 ∨ 1440 < t.2.1 then 4 else if 0 < t.2.1 then checkW t.2.2 else if t.2.2 = [] then 0 else 1

/-- The numbers of a task are none below 0. -/
def TkOk (t : Tk) : Prop := 0 ≤ t.1 ∧ t.1 ≤ 10080 ∧ 0 ≤ t.2.1 ∧ t.2.1 ≤ 1440

def Fits (l : List Tk) (s : Pt) : Prop :=
  0 ≤ s.1 ∧ s.1 ≤ l.length ∧ (s.1 = l.length → s.2.1 = 0 ∧ s.2.2 = 0) ∧
    (s.1 < l.length → 0 ≤ s.2.1 ∧ s.2.1 ≤ (tk l s.1).1 ∧ 0 ≤ s.2.2 ∧ s.2.2 ≤ (tk l s.1).2.1 ∧ (s.2.2 = 0 ∨ s.2.1 = (tk l s.1).1) ∧ ¬ (s.2.1 = (tk l s.1).1 ∧ s.2.2 = (tk l s.1).2.1))

instance (l : List Tk) (s : Pt) : Decidable (Fits l s) := by unfold Fits; infer_instance

/-- All of the task is done. -/
def Full (l : List Tk) (s : Pt) : Prop := s.1 < l.length ∧ s.2.1 = (tk l s.1).1 ∧ s.2.2 = (tk l s.1).2.1

instance (l : List Tk) (s : Pt) : Decidable (Full l s) := by unfold Full; infer_instance

/-- Tasks of which all is done gone past, n of them at most. -/
def pastN (l : List Tk) : Nat → Pt → Pt
  | 0, s => s
  | n + 1, s => if Full l s then pastN l n (s.1 + 1, 0, 0) else s

def pastT (l : List Tk) (s : Pt) : Pt := pastN l ((l.length : Int) - s.1).toNat s

/-- What is left, of driving and of services. -/
def sumD (l : List Tk) : Int := (l.map fun t => t.1).sum
def sumS (l : List Tk) : Int := (l.map fun t => t.2.1).sum
def leftT (l : List Tk) (s : Pt) : Int × Int := (sumD (l.drop s.1.toNat) - s.2.1, sumS (l.drop s.1.toNat) - s.2.2)

theorem tk_drop {l : List Tk} {i : Int} (h0 : 0 ≤ i) (h : i < l.length) : l.drop i.toNat = tk l i :: l.drop (i + 1).toNat := by
  have hk : i.toNat < l.length := by omega
  have e : (i + 1).toNat = i.toNat + 1 := by omega
  rw [e, List.drop_eq_getElem_cons hk]
  unfold tk
  rw [List.getD_eq_getElem?_getD, List.getElem?_eq_getElem hk, Option.getD_some]

theorem left_move {l : List Tk} {s : Pt} (h0 : 0 ≤ s.1) (h : Full l s) : leftT l (s.1 + 1, 0, 0) = leftT l s := by
  obtain ⟨h1, h2, h3⟩ := h
  unfold leftT
  rw [tk_drop h0 h1]
  unfold sumD sumS
  simp only [List.map_cons, List.sum_cons, h2, h3]
  ext <;> simp <;> omega

theorem past_left {l : List Tk} : ∀ (n : Nat) (s : Pt), 0 ≤ s.1 → leftT l (pastN l n s) = leftT l s
  | 0, _, _ => rfl
  | n + 1, s, h0 => by
    unfold pastN
    by_cases h : Full l s
    · rw [if_pos h, past_left n _ (by simp; omega), left_move h0 h]
    · rw [if_neg h]

/-- What may lie before the tasks of which all is done are gone past. -/
def Near (l : List Tk) (s : Pt) : Prop :=
  0 ≤ s.1 ∧ s.1 ≤ l.length ∧ (s.1 = l.length → s.2.1 = 0 ∧ s.2.2 = 0) ∧
    (s.1 < l.length → 0 ≤ s.2.1 ∧ s.2.1 ≤ (tk l s.1).1 ∧ 0 ≤ s.2.2 ∧ s.2.2 ≤ (tk l s.1).2.1 ∧ (s.2.2 = 0 ∨ s.2.1 = (tk l s.1).1))

theorem Fits.near {l : List Tk} {s : Pt} (h : Fits l s) : Near l s := by
  obtain ⟨h1, h2, h3, h4⟩ := h
  exact ⟨h1, h2, h3, fun k => ⟨(h4 k).1, (h4 k).2.1, (h4 k).2.2.1, (h4 k).2.2.2.1, (h4 k).2.2.2.2.1⟩⟩

theorem Near.fits {l : List Tk} {s : Pt} (h : Near l s) (hf : ¬ Full l s) : Fits l s := by
  obtain ⟨h1, h2, h3, h4⟩ := h
  exact ⟨h1, h2, h3, fun k => ⟨(h4 k).1, (h4 k).2.1, (h4 k).2.2.1, (h4 k).2.2.2.1, (h4 k).2.2.2.2, fun q => hf ⟨k, q⟩⟩⟩

theorem Fits.not_full {l : List Tk} {s : Pt} (h : Fits l s) : ¬ Full l s := fun k => (h.2.2.2 k.1).2.2.2.2.2 k.2

theorem tk_mem {l : List Tk} {i : Int} (h0 : 0 ≤ i) (h : i < l.length) : tk l i ∈ l := by
  have hk : i.toNat < l.length := by omega
  unfold tk
  rw [List.getD_eq_getElem?_getD, List.getElem?_eq_getElem hk]
  exact List.getElem_mem hk

theorem Near.move {l : List Tk} (ok : ∀ t ∈ l, TkOk t) {s : Pt} (h : Near l s) (hf : Full l s) : Near l (s.1 + 1, 0, 0) := by
  have h1 := h.1
  have h2 := hf.1
  refine ⟨by simp; omega, by simp; omega, fun _ => ⟨rfl, rfl⟩, fun k => ?_⟩
  simp only at k
  have := ok _ (tk_mem (l := l) (i := s.1 + 1) (by omega) k)
  exact ⟨Int.le_refl _, this.1, Int.le_refl _, this.2.2.1, Or.inl rfl⟩

theorem past_fits {l : List Tk} (ok : ∀ t ∈ l, TkOk t) : ∀ (n : Nat) (s : Pt), Near l s → (l.length : Int) - s.1 ≤ n → Fits l (pastN l n s)
  | 0, s, h, hn => h.fits fun k => by have := k.1; omega
  | n + 1, s, h, hn => by
    unfold pastN
    by_cases hf : Full l s
    · rw [if_pos hf]
      exact past_fits ok n _ (h.move ok hf) (by simp; omega)
    · rw [if_neg hf]
      exact h.fits hf

theorem pastT_fits {l : List Tk} (ok : ∀ t ∈ l, TkOk t) {s : Pt} (h : Near l s) : Fits l (pastT l s) := past_fits ok _ s h (by omega)

theorem pastT_left {l : List Tk} {s : Pt} (h0 : 0 ≤ s.1) : leftT l (pastT l s) = leftT l s := past_left _ s h0

theorem pastT_still {l : List Tk} {s : Pt} (h : ¬ Full l s) : pastT l s = s := by
  unfold pastT
  cases ((l.length : Int) - s.1).toNat with
  | zero => rfl
  | succ n => unfold pastN; rw [if_neg h]

theorem pastT_move {l : List Tk} {s : Pt} (h : Full l s) : pastT l s = pastT l (s.1 + 1, 0, 0) := by
  have h1 := h.1
  unfold pastT
  have e : ((l.length : Int) - s.1).toNat = ((l.length : Int) - (s.1 + 1)).toNat + 1 := by omega
  rw [e]
  conv => lhs; unfold pastN
  rw [if_pos h]

/-- The spot before tasks are gone past, and what is broken: ClDrive, ClWork, ClOpen, ClServe. -/
def CanD (l : List Tk) (s : Pt) : Prop := s.1 < l.length ∧ s.2.1 < (tk l s.1).1
def CanW (l : List Tk) (s : Pt) : Prop := s.1 < l.length ∧ s.2.1 = (tk l s.1).1 ∧ s.2.2 < (tk l s.1).2.1

instance (l : List Tk) (s : Pt) : Decidable (CanD l s) := by unfold CanD; infer_instance
instance (l : List Tk) (s : Pt) : Decidable (CanW l s) := by unfold CanW; infer_instance

def goT (l : List Tk) (s : Pt) (k : Int) : Pt :=
  if k = 3 ∧ CanD l s then (s.1, s.2.1 + 1, s.2.2) else if k = 2 ∧ CanW l s then (s.1, s.2.1, s.2.2 + 1) else s

def stepT (l : List Tk) (s : Pt) (k : Int) : Pt := pastT l (goT l s k)

theorem go_near {l : List Tk} {s : Pt} (h : Fits l s) (k : Int) : Near l (goT l s k) := by
  have hn := h.near
  unfold goT
  by_cases h1 : k = 3 ∧ CanD l s
  · rw [if_pos h1]
    obtain ⟨_, c1, c2⟩ := h1
    obtain ⟨n1, n2, n3, n4⟩ := hn
    have n4 := n4 c1
    refine ⟨n1, n2, fun e => ?_, fun _ => ?_⟩
    · simp only at e; omega
    · simp only
      refine ⟨by omega, by omega, n4.2.2.1, n4.2.2.2.1, Or.inl ?_⟩
      omega
  · rw [if_neg h1]
    by_cases h2 : k = 2 ∧ CanW l s
    · rw [if_pos h2]
      obtain ⟨_, c1, c2, c3⟩ := h2
      obtain ⟨n1, n2, n3, n4⟩ := hn
      have n4 := n4 c1
      refine ⟨n1, n2, fun e => ?_, fun _ => ?_⟩
      · simp only at e; omega
      · exact ⟨n4.1, n4.2.1, by simp only; omega, by simp only; omega, Or.inr c2⟩
    · rw [if_neg h2]
      exact hn

theorem step_fits {l : List Tk} (ok : ∀ t ∈ l, TkOk t) {s : Pt} (h : Fits l s) (k : Int) : Fits l (stepT l s k) := pastT_fits ok (go_near h k)

theorem step_left {l : List Tk} {s : Pt} (h : Fits l s) (k : Int) :
    leftT l (stepT l s k) = if k = 3 ∧ CanD l s then ((leftT l s).1 - 1, (leftT l s).2) else if k = 2 ∧ CanW l s then ((leftT l s).1, (leftT l s).2 - 1) else leftT l s := by
  unfold stepT
  rw [pastT_left (go_near h k).1]
  unfold goT
  split
  · unfold leftT; ext <;> simp <;> omega
  · split
    · unfold leftT; ext <;> simp <;> omega
    · rfl

theorem step_still {l : List Tk} {s : Pt} (h : Fits l s) {k : Int} (h1 : ¬ (k = 3 ∧ CanD l s)) (h2 : ¬ (k = 2 ∧ CanW l s)) : stepT l s k = s := by
  unfold stepT goT
  rw [if_neg h1, if_neg h2]
  exact pastT_still h.not_full

/-- Nothing is left just if all is done. -/
theorem sum_pos {l : List Tk} (ok : ∀ t ∈ l, TkOk t) : 0 ≤ sumD l ∧ 0 ≤ sumS l := by
  induction l with
  | nil => exact ⟨Int.le_refl _, Int.le_refl _⟩
  | cons t l ih =>
    have h1 := ok t (List.mem_cons_self ..)
    have h2 := ih fun u hu => ok u (List.mem_cons_of_mem _ hu)
    unfold sumD sumS at *
    simp only [List.map_cons, List.sum_cons]
    unfold TkOk at h1
    omega

theorem left_none {l : List Tk} (ok : ∀ t ∈ l, TkOk t) {s : Pt} (h : Fits l s) : 0 ≤ (leftT l s).1 ∧ 0 ≤ (leftT l s).2 ∧ ((leftT l s).1 + (leftT l s).2 = 0 ↔ s.1 = l.length) := by
  obtain ⟨h1, h2, h3, h4⟩ := h
  by_cases he : s.1 = l.length
  · obtain ⟨e1, e2⟩ := h3 he
    have hd : l.drop s.1.toNat = [] := by rw [List.drop_eq_nil_iff]; omega
    unfold leftT
    rw [hd, e1, e2]
    simp [sumD, sumS, he]
  · have hlt : s.1 < l.length := by omega
    obtain ⟨f1, f2, f3, f4, f5, f6⟩ := h4 hlt
    have sp := sum_pos (l := l.drop (s.1 + 1).toNat) fun u hu => ok u (List.mem_of_mem_drop hu)
    unfold leftT
    rw [tk_drop h1 hlt]
    unfold sumD sumS at *
    simp only [List.map_cons, List.sum_cons]
    refine ⟨by omega, by omega, fun e => ?_, fun e => absurd e he⟩
    exact absurd ⟨by omega, by omega⟩ f6

end Go.Proofs.Ythiiipbfdgaemaa

/- A slice of tasks that can be read: each task's two numbers, and its windows. Conditions: none beyond each lemma's own premises. -/
namespace Go.Proofs.Ythiiipbfdgaemaa
open Go.RowKit

def tz : Tk := (0, 0, [])

/-- At the address A the tasks of l lie one behind the other (of no task nothing is asked). -/
def RdK (w : World) (A : Option Addr) (l : List Tk) : Prop :=
  l ≠ [] → ∃ b off, A = some ⟨b, off, none⟩ ∧ b < w.heap.size ∧ ∀ k, k < l.length → ∃ B c,
    w.cell? ⟨b, off + k * 3, none⟩ = some (.int .i64 (l.getD k tz).1) ∧ w.cell? ⟨b, off + k * 3 + 1, none⟩ = some (.int .i64 (l.getD k tz).2.1) ∧
      w.cell? ⟨b, off + k * 3 + 2, none⟩ = some (.slice B (l.getD k tz).2.2.length c) ∧ RdS w B (l.getD k tz).2.2

theorem RdK.nil (w : World) (A : Option Addr) : RdK w A [] := fun h => absurd rfl h

theorem RdK.at_ {w : World} {A : Option Addr} {l : List Tk} (h : RdK w A l) {k : Nat} (hk : k < l.length) : ∃ b off d v B n c, A = some ⟨b, off, none⟩ ∧ b < w.heap.size ∧
    w.cell? ⟨b, off + k * 3, none⟩ = some (.int .i64 d) ∧ w.cell? ⟨b, off + k * 3 + 1, none⟩ = some (.int .i64 v) ∧ w.cell? ⟨b, off + k * 3 + 2, none⟩ = some (.slice B n c) ∧
      Hid (∃ o : List Sp, l.getD k tz = (d, v, o) ∧ o.length = n ∧ RdS w B o) := by
  obtain ⟨b, off, hA, hb, hc⟩ := h (nonnil hk)
  obtain ⟨B, c, h1, h2, h3, h4⟩ := hc k hk
  exact ⟨b, off, _, _, B, _, c, hA, hb, h1, h2, h3, Lib.hid ⟨_, rfl, rfl, h4⟩⟩

theorem RdK.keep {w w' : World} {A : Option Addr} {l : List Tk} (h : RdK w A l) (hs : w.heap.size ≤ w'.heap.size) (hc : ∀ p : Addr, p.block < w.heap.size → w'.cell? p = w.cell? p) : RdK w' A l := fun hl => by
  obtain ⟨b, off, hA, hbb, hk⟩ := h hl
  refine ⟨b, off, hA, Nat.lt_of_lt_of_le hbb hs, fun k hk' => ?_⟩
  obtain ⟨B, c, h1, h2, h3, h4⟩ := hk k hk'
  exact ⟨B, c, by rw [hc ⟨b, _, none⟩ hbb]; exact h1, by rw [hc ⟨b, _, none⟩ hbb]; exact h2, by rw [hc ⟨b, _, none⟩ hbb]; exact h3, h4.keep hs hc⟩

theorem RdK.below {w w' : World} {A : Option Addr} {l : List Tk} (h : RdK w A l) (hb : Below w.heap.size w w') : RdK w' A l :=
  h.keep hb.size fun _ hp => hb.cell hp

/-- Below block n all is as it was: tasks that lie there can be read. -/
def RdKn (n : Nat) (w : World) (A : Option Addr) (l : List Tk) : Prop := ∃ w0 : World, w0.heap.size = n ∧ RdK w0 A l ∧ Below n w0 w

theorem RdKn.rd {n : Nat} {w : World} {A : Option Addr} {l : List Tk} (h : RdKn n w A l) : RdK w A l := by
  obtain ⟨w0, rfl, h0, hb⟩ := h
  exact h0.below hb
theorem RdKn.below {n : Nat} {w w' : World} {A : Option Addr} {l : List Tk} (h : RdKn n w A l) (hb : Below n w w') : RdKn n w' A l := by
  obtain ⟨w0, h0, h1, hb0⟩ := h
  exact ⟨w0, h0, h1, hb0.trans hb⟩
theorem RdKn.of {w : World} {A : Option Addr} {l : List Tk} (h : RdK w A l) : RdKn w.heap.size w A l := ⟨w, rfl, h, Below.refl _ _⟩

/-- The windows are few enough for what the library says of slices. -/
def Few (l : List Tk) : Prop := ∀ t ∈ l, t.2.2.length ≤ 4611686018427387904

theorem Few.at_ {l : List Tk} (h : Few l) {k : Nat} (hk : k < l.length) {d v : Int} {o : List Sp} (e : l.getD k tz = (d, v, o)) : o.length ≤ 4611686018427387904 := by
  have : l.getD k tz ∈ l := by
    rw [List.getD_eq_getElem?_getD, List.getElem?_eq_getElem hk]; exact List.getElem_mem hk
  have h1 := h _ this
  rw [e] at h1; exact h1

theorem tk_nat {l : List Tk} {i : Int} {k : Nat} (e : i = (k : Int)) : tk l i = l.getD k tz := by subst e; rfl

end Go.Proofs.Ythiiipbfdgaemaa

/- Tasks in plain words, part two: what is wrong with tasks and a spot, and minutes one behind the other, with the first ones that break clauses. Conditions: none beyond each lemma's own premises. -/
namespace Go.Proofs.Ythiiipbfdgaemaa

theorem task_low {d v : Int} {o : List Sp} (h : d < 0 ∨ 10080 < d ∨ v < 0 ∨ 1440 < v) : taskV (d, v, o) = 4 := by unfold taskV; rw [if_pos h]
theorem task_win {d v : Int} {o : List Sp} (h : ¬ (d < 0 ∨ 10080 < d ∨ v < 0 ∨ 1440 < v)) (hv : 0 < v) : taskV (d, v, o) = checkW o := by
  unfold taskV; rw [if_neg h]; simp only; rw [if_pos hv]
theorem task_arg {d v : Int} {o : List Sp} (h : ¬ (d < 0 ∨ 10080 < d ∨ v < 0 ∨ 1440 < v)) (hv : ¬ 0 < v) (ho : 0 < o.length) : taskV (d, v, o) = 1 := by
  unfold taskV; rw [if_neg h]; simp only; rw [if_neg hv, if_neg (by rintro rfl; cases ho)]
theorem task_ok {d v : Int} {o : List Sp} (h : ¬ (d < 0 ∨ 10080 < d ∨ v < 0 ∨ 1440 < v)) (hv : ¬ 0 < v) (ho : ¬ 0 < o.length) : taskV (d, v, o) = 0 := by
  unfold taskV; rw [if_neg h]; simp only; rw [if_neg hv, if_pos (List.eq_nil_of_length_eq_zero (by omega))]

theorem task_right {t : Tk} (h : taskV t = 0) : TkOk t := by
  unfold taskV at h
  unfold TkOk
  split at h
  · cases h
  · rename_i hn; omega

/-- The first task that is wrong, by the error's number. -/
def firstT : List Tk → Int
  | [] => 0
  | t :: l => if taskV t = 0 then firstT l else taskV t

def checkT (l : List Tk) : Int := if 2001 < l.length then 12 else firstT l

theorem first_at : ∀ {l : List Tk} {k : Nat} {e : Int}, k < l.length → (∀ j, j < k → taskV (l.getD j tz) = 0) → taskV (l.getD k tz) = e → e ≠ 0 → firstT l = e
  | t :: l, 0, e, _, _, he, hne => by
    have h1 : taskV t = e := he
    unfold firstT; rw [if_neg (by rw [h1]; exact hne), h1]
  | t :: l, k + 1, e, hk, h, he, hne => by
    have h0 : taskV t = 0 := h 0 (by omega)
    unfold firstT; rw [if_pos h0]
    exact first_at (by simpa using hk) (fun j hj => by have := h (j + 1) (by omega); simpa using this) (by simpa using he) hne

theorem first_none : ∀ {l : List Tk}, (∀ j, j < l.length → taskV (l.getD j tz) = 0) → firstT l = 0
  | [], _ => rfl
  | t :: l, h => by
    have h0 : taskV t = 0 := h 0 (by simp)
    unfold firstT; rw [if_pos h0]
    exact first_none fun j hj => by have := h (j + 1) (by simpa using hj); simpa using this

theorem first_zero : ∀ {l : List Tk}, firstT l = 0 → ∀ t ∈ l, TkOk t
  | t :: l, h, u, hu => by
    unfold firstT at h
    by_cases h0 : taskV t = 0
    · rw [if_pos h0] at h
      rcases List.mem_cons.1 hu with rfl | hu
      · exact task_right h0
      · exact first_zero h u hu
    · rw [if_neg h0] at h; exact absurd h h0

theorem checkt_many {l : List Tk} (h : 2001 < l.length) : checkT l = 12 := if_pos h
theorem checkt_at {l : List Tk} {k : Nat} {e : Int} (h0 : ¬ 2001 < l.length) (hk : k < l.length) (h : ∀ j, j < k → taskV (l.getD j tz) = 0) (he : taskV (l.getD k tz) = e) (hne : e ≠ 0) : checkT l = e := by
  unfold checkT; rw [if_neg h0]; exact first_at hk h he hne
theorem checkt_none {l : List Tk} (h0 : ¬ 2001 < l.length) (h : ∀ j, j < l.length → taskV (l.getD j tz) = 0) : checkT l = 0 := by
  unfold checkT; rw [if_neg h0]; exact first_none h
theorem checkt_zero {l : List Tk} (h : checkT l = 0) : (∀ t ∈ l, TkOk t) ∧ l.length ≤ 2001 := by
  unfold checkT at h
  by_cases h0 : 2001 < l.length
  · rw [if_pos h0] at h; cases h
  · rw [if_neg h0] at h; exact ⟨first_zero h, by omega⟩

/-- What is wrong with the tasks, or with the spot. -/
def spotV (l : List Tk) (s : Pt) : Int := if checkT l = 0 then (if Fits l s then 0 else 1) else checkT l

theorem spot_bad {l : List Tk} {s : Pt} {e : Int} (h : checkT l = e) (hne : e ≠ 0) : spotV l s = e := by unfold spotV; rw [h, if_neg hne]
theorem spot_no {l : List Tk} {s : Pt} (h : checkT l = 0) (hf : ¬ Fits l s) : spotV l s = 1 := by unfold spotV; rw [if_pos h, if_neg hf]
theorem spot_yes {l : List Tk} {s : Pt} (h : checkT l = 0) (hf : Fits l s) : spotV l s = 0 := by unfold spotV; rw [if_pos h, if_pos hf]
theorem spot_zero {l : List Tk} {s : Pt} (h : spotV l s = 0) : checkT l = 0 ∧ Fits l s := by
  unfold spotV at h
  by_cases h0 : checkT l = 0
  · rw [if_pos h0] at h
    by_cases h1 : Fits l s
    · exact ⟨h0, h1⟩
    · rw [if_neg h1] at h; cases h
  · rw [if_neg h0] at h; exact absurd h h0

theorem fits_start {l : List Tk} (ok : ∀ t ∈ l, TkOk t) : Near l (0, 0, 0) :=
  ⟨Int.le_refl _, by simp, fun _ => ⟨rfl, rfl⟩, fun k => by
    have := ok _ (tk_mem (l := l) (i := 0) (Int.le_refl _) k)
    exact ⟨Int.le_refl _, this.1, Int.le_refl _, this.2.2.1, Or.inl rfl⟩⟩

/-! ### Minutes, one behind the other -/

/-- The first minutes that break ClDrive, ClWork, ClOpen, ClServe (or -1). -/
abbrev Fs := Int × Int × Int × Int

def noteF (f : Int) (b : Bool) (m : Int) : Int := if b = true ∧ f < 0 then m else f

theorem note_no (f m : Int) : noteF f false m = f := by unfold noteF; rw [if_neg (by simp)]
theorem note_old {f : Int} (h : 0 ≤ f) (b : Bool) (m : Int) : noteF f b m = f := by unfold noteF; rw [if_neg (by omega)]
theorem note_again (f : Int) (b : Bool) (m : Int) : noteF (noteF f b m) b m = noteF f b m := by
  unfold noteF; repeat' split
  all_goals first | rfl | omega
theorem note_set {f m : Int} (hm : 0 ≤ m) : 0 ≤ noteF f true m := by unfold noteF; split <;> simp_all

def b0 (l : List Tk) (s : Pt) (k : Int) : Bool := decide (k = 3 ∧ ¬ CanD l s)
def b1 (l : List Tk) (s : Pt) (k : Int) : Bool := decide (k = 2 ∧ ¬ CanW l s)
def b2 (l : List Tk) (s : Pt) (m k : Int) : Bool := decide (k = 2 ∧ CanW l s ∧ s.2.2 = 0 ∧ hasL (tk l s.1).2.2 m = false)
def b3 (s : Pt) (k : Int) : Bool := decide (0 < s.2.2 ∧ k ≠ 2)

/-- One minute m of kind k. -/
def minT (l : List Tk) (k m : Int) (st : Pt × Fs) : Pt × Fs :=
  (stepT l st.1 k, noteF st.2.1 (b0 l st.1 k) m, noteF st.2.2.1 (b1 l st.1 k) m, noteF st.2.2.2.1 (b2 l st.1 m k) m, noteF st.2.2.2.2 (b3 st.1 k) m)

/-- n minutes of kind k, from m on. -/
def runK (l : List Tk) (k : Int) : Nat → Int → Pt × Fs → Pt × Fs
  | 0, _, st => st
  | n + 1, m, st => runK l k n (m + 1) (minT l k m st)

theorem runK_add (l : List Tk) (k : Int) : ∀ (a b : Nat) (m : Int) (st : Pt × Fs), runK l k (a + b) m st = runK l k b (m + a) (runK l k a m st)
  | 0, b, m, st => by simp [runK]
  | a + 1, b, m, st => by
    have e : a + 1 + b = (a + b) + 1 := by omega
    rw [e]
    show runK l k (a + b) (m + 1) (minT l k m st) = runK l k b (m + (a + 1 : Nat)) (runK l k a (m + 1) (minT l k m st))
    rw [runK_add l k a b]
    congr 1; omega

theorem runK_snoc (l : List Tk) (k : Int) (n : Nat) (m : Int) (st : Pt × Fs) : runK l k (n + 1) m st = minT l k (m + n) (runK l k n m st) := by
  rw [runK_add]; rfl

theorem runK_fits {l : List Tk} (ok : ∀ t ∈ l, TkOk t) (k : Int) : ∀ (n : Nat) (m : Int) (st : Pt × Fs), Fits l st.1 → Fits l (runK l k n m st).1
  | 0, _, _, h => h
  | n + 1, m, st, h => runK_fits ok k n (m + 1) (minT l k m st) (step_fits ok h k)

/-- What is broken off is so with the first minute. -/
theorem runK_pre (l : List Tk) (k : Int) (n : Nat) (m : Int) (s : Pt) (f0 f1 f2 f3 : Int) : runK l k (n + 1) m (s, f0, f1, f2, noteF f3 (b3 s k) m) = runK l k (n + 1) m (s, f0, f1, f2, f3) := by
  unfold runK minT
  simp only [note_again]

theorem min_still {l : List Tk} {s : Pt} (h : Fits l s) {k m : Int} {f0 f1 f2 f3 : Int} (hd : k = 3 → ¬ CanD l s) (hw : k = 2 → ¬ CanW l s) (h0 : k = 3 → 0 ≤ f0) (h1 : k = 2 → 0 ≤ f1) (h3 : k ≠ 2 → 0 < s.2.2 → 0 ≤ f3) :
    minT l k m (s, f0, f1, f2, f3) = (s, f0, f1, f2, f3) := by
  unfold minT
  simp only
  rw [step_still h (fun c => hd c.1 c.2) (fun c => hw c.1 c.2)]
  have e0 : noteF f0 (b0 l s k) m = f0 := by
    by_cases hk : k = 3
    · exact note_old (h0 hk) _ _
    · have : b0 l s k = false := by unfold b0; simp [hk]
      rw [this, note_no]
  have e1 : noteF f1 (b1 l s k) m = f1 := by
    by_cases hk : k = 2
    · exact note_old (h1 hk) _ _
    · have : b1 l s k = false := by unfold b1; simp [hk]
      rw [this, note_no]
  have e2 : noteF f2 (b2 l s m k) m = f2 := by
    have : b2 l s m k = false := by unfold b2; rw [decide_eq_false]; exact fun c => hw c.1 c.2.1
    rw [this, note_no]
  have e3 : noteF f3 (b3 s k) m = f3 := by
    by_cases hc : 0 < s.2.2 ∧ k ≠ 2
    · exact note_old (h3 hc.2 hc.1) _ _
    · have : b3 s k = false := by unfold b3; exact decide_eq_false hc
      rw [this, note_no]
  rw [e0, e1, e2, e3]

theorem runK_still {l : List Tk} {s : Pt} (h : Fits l s) {k : Int} {f0 f1 f2 f3 : Int} (hd : k = 3 → ¬ CanD l s) (hw : k = 2 → ¬ CanW l s) (h0 : k = 3 → 0 ≤ f0) (h1 : k = 2 → 0 ≤ f1) (h3 : k ≠ 2 → 0 < s.2.2 → 0 ≤ f3) :
    ∀ (n : Nat) (m : Int), runK l k n m (s, f0, f1, f2, f3) = (s, f0, f1, f2, f3)
  | 0, _ => rfl
  | n + 1, m => by
    unfold runK
    rw [min_still h hd hw h0 h1 h3]
    exact runK_still h hd hw h0 h1 h3 n (m + 1)

/-- Rests. -/
theorem runK_rest {l : List Tk} {s : Pt} (h : Fits l s) {k : Int} {f0 f1 f2 f3 : Int} (hd : k ≠ 3) (hw : k ≠ 2) (h3 : 0 < s.2.2 → 0 ≤ f3) (n : Nat) (m : Int) :
    runK l k n m (s, f0, f1, f2, f3) = (s, f0, f1, f2, f3) :=
  runK_still h (fun c => absurd c hd) (fun c => absurd c hw) (fun c => absurd c hd) (fun c => absurd c hw) (fun _ => h3) n m

/-- Driving where there is none to do. -/
theorem runK_nodrive {l : List Tk} {s : Pt} (h : Fits l s) {f0 f1 f2 f3 : Int} (hd : ¬ CanD l s) (h3 : 0 < s.2.2 → 0 ≤ f3) {m : Int} (hm : 0 ≤ m) (n : Nat) :
    runK l 3 (n + 1) m (s, f0, f1, f2, f3) = (s, noteF f0 true m, f1, f2, f3) := by
  unfold runK
  have e : minT l 3 m (s, f0, f1, f2, f3) = (s, noteF f0 true m, f1, f2, f3) := by
    unfold minT
    simp only
    rw [step_still h (fun c => hd c.2) (fun c => absurd c.1 (by decide))]
    have e0 : b0 l s 3 = true := by unfold b0; simp [hd]
    have e1 : b1 l s 3 = false := by unfold b1; simp
    have e2 : b2 l s m 3 = false := by unfold b2; simp
    rw [e0, e1, e2, note_no, note_no]
    by_cases hc : 0 < s.2.2
    · rw [note_old (h3 hc)]
    · have : b3 s 3 = false := by unfold b3; exact decide_eq_false fun k => hc k.1
      rw [this, note_no]
  rw [e]
  exact runK_still h (fun _ => hd) (fun c => absurd c (by decide)) (fun _ => note_set hm) (fun c => absurd c (by decide)) (fun _ => h3) n _

/-- Work where there is none to do. -/
theorem runK_nowork {l : List Tk} {s : Pt} (h : Fits l s) {f0 f1 f2 f3 : Int} (hw : ¬ CanW l s) {m : Int} (hm : 0 ≤ m) (n : Nat) :
    runK l 2 (n + 1) m (s, f0, f1, f2, f3) = (s, f0, noteF f1 true m, f2, f3) := by
  unfold runK
  have e : minT l 2 m (s, f0, f1, f2, f3) = (s, f0, noteF f1 true m, f2, f3) := by
    unfold minT
    simp only
    rw [step_still h (fun c => absurd c.1 (by decide)) (fun c => hw c.2)]
    have e0 : b0 l s 2 = false := by unfold b0; simp
    have e1 : b1 l s 2 = true := by unfold b1; simp [hw]
    have e2 : b2 l s m 2 = false := by unfold b2; rw [decide_eq_false]; exact fun c => hw c.2.1
    have e3 : b3 s 2 = false := by unfold b3; simp
    rw [e0, e1, e2, e3, note_no, note_no, note_no]
  rw [e]
  exact runK_still h (fun c => absurd c (by decide)) (fun _ => hw) (fun c => absurd c (by decide)) (fun _ => note_set hm) (fun c => absurd rfl c) n _

theorem fits_undriven {l : List Tk} {s : Pt} (h : Fits l s) (hd : CanD l s) : s.2.2 = 0 := by
  have := (h.2.2.2 hd.1).2.2.2.2.1
  have := hd.2
  omega

/-- One minute of driving. -/
theorem min_drive {l : List Tk} {s : Pt} (h : Fits l s) (hd : CanD l s) (m : Int) (f0 f1 f2 f3 : Int) : minT l 3 m (s, f0, f1, f2, f3) = (pastT l (s.1, s.2.1 + 1, s.2.2), f0, f1, f2, f3) := by
  have hz := fits_undriven h hd
  unfold minT stepT goT
  simp only
  have e0 : b0 l s 3 = false := by unfold b0; simp [hd]
  have e1 : b1 l s 3 = false := by unfold b1; simp
  have e2 : b2 l s m 3 = false := by unfold b2; simp
  have e3 : b3 s 3 = false := by unfold b3; simp [hz]
  rw [e0, e1, e2, e3, note_no, note_no, note_no, note_no, if_pos ⟨trivial, hd⟩]

theorem runK_drive {l : List Tk} (ok : ∀ t ∈ l, TkOk t) : ∀ (n : Nat) {s : Pt} (_ : Fits l s) (_ : CanD l s) (m : Int) (f0 f1 f2 f3 : Int), (n : Int) + 1 ≤ (tk l s.1).1 - s.2.1 →
    runK l 3 (n + 1) m (s, f0, f1, f2, f3) = (pastT l (s.1, s.2.1 + (n + 1), s.2.2), f0, f1, f2, f3)
  | 0, s, h, hd, m, f0, f1, f2, f3, _ => by
    unfold runK runK
    rw [min_drive h hd]
    simp
  | n + 1, s, h, hd, m, f0, f1, f2, f3, hn => by
    unfold runK
    rw [min_drive h hd]
    have hlt : s.2.1 + 1 < (tk l s.1).1 := by omega
    have hnf : ¬ Full l (s.1, s.2.1 + 1, s.2.2) := fun c => by have := c.2.1; simp only at this; omega
    have hf := step_fits ok h 3
    have e : stepT l s 3 = (s.1, s.2.1 + 1, s.2.2) := by
      unfold stepT goT; rw [if_pos ⟨rfl, hd⟩, pastT_still hnf]
    rw [e] at hf
    rw [pastT_still hnf, runK_drive ok n hf ⟨hd.1, hlt⟩ (m + 1) f0 f1 f2 f3 (by simp only; omega)]
    simp only
    congr 2
    ext <;> simp
    omega

/-- One minute of work. -/
theorem min_work {l : List Tk} {s : Pt} (hw : CanW l s) (m : Int) (f0 f1 f2 f3 : Int) :
    minT l 2 m (s, f0, f1, f2, f3) = (pastT l (s.1, s.2.1, s.2.2 + 1), f0, f1, noteF f2 (decide (s.2.2 = 0 ∧ hasL (tk l s.1).2.2 m = false)) m, f3) := by
  unfold minT stepT goT
  simp only
  have e0 : b0 l s 2 = false := by unfold b0; simp
  have e1 : b1 l s 2 = false := by unfold b1; simp [hw]
  have e2 : b2 l s m 2 = decide (s.2.2 = 0 ∧ hasL (tk l s.1).2.2 m = false) := by unfold b2; simp [hw]
  have e3 : b3 s 2 = false := by unfold b3; simp
  rw [e0, e1, e2, e3, note_no, note_no, note_no, if_neg (fun c => absurd c.1 (by decide)), if_pos ⟨trivial, hw⟩]

theorem runK_work {l : List Tk} (ok : ∀ t ∈ l, TkOk t) : ∀ (n : Nat) {s : Pt} (_ : Fits l s) (_ : CanW l s) (m : Int) (f0 f1 f2 f3 : Int), (n : Int) + 1 ≤ (tk l s.1).2.1 - s.2.2 →
    runK l 2 (n + 1) m (s, f0, f1, f2, f3) = (pastT l (s.1, s.2.1, s.2.2 + (n + 1)), f0, f1, noteF f2 (decide (s.2.2 = 0 ∧ hasL (tk l s.1).2.2 m = false)) m, f3)
  | 0, s, h, hw, m, f0, f1, f2, f3, _ => by
    unfold runK runK
    rw [min_work hw]
    simp
  | n + 1, s, h, hw, m, f0, f1, f2, f3, hn => by
    have hs := (h.2.2.2 hw.1).2.2.1
    unfold runK
    rw [min_work hw]
    have hlt : s.2.2 + 1 < (tk l s.1).2.1 := by omega
    have hnf : ¬ Full l (s.1, s.2.1, s.2.2 + 1) := fun c => by have := c.2.2; simp only at this; omega
    have hf := step_fits ok h 2
    have e : stepT l s 2 = (s.1, s.2.1, s.2.2 + 1) := by
      unfold stepT goT; rw [if_neg (fun c => absurd c.1 (by decide)), if_pos ⟨rfl, hw⟩, pastT_still hnf]
    rw [e] at hf
    rw [pastT_still hnf, runK_work ok n hf ⟨hw.1, hw.2.1, hlt⟩ (m + 1) f0 f1 _ f3 (by simp only; omega)]
    simp only
    have e2 : decide (s.2.2 + 1 = 0 ∧ hasL (tk l s.1).2.2 (m + 1) = false) = false := decide_eq_false fun c => by omega
    rw [e2, note_no]
    congr 2
    ext <;> simp
    omega

theorem past_unserved {l : List Tk} : ∀ (n : Nat) (s : Pt), s.2.2 = 0 → (pastN l n s).2.2 = 0
  | 0, _, h => h
  | n + 1, s, h => by
    unfold pastN
    by_cases hf : Full l s
    · rw [if_pos hf]; exact past_unserved n _ rfl
    · rw [if_neg hf]; exact h

theorem pastT_unserved {l : List Tk} {s : Pt} (h : s.2.2 = 0) : (pastT l s).2.2 = 0 := past_unserved _ _ h

/-- What Over answers: the spot, the first minutes, the error. -/
def overV (l : List Tk) (s : Pt) (k a b : Int) : Pt × Fs × Int :=
  if spotV l s = 0 then (if aloneV k a b = 0 then ((runK l k (b - a).toNat a (s, -1, -1, -1, -1)).1, (runK l k (b - a).toNat a (s, -1, -1, -1, -1)).2, 0) else ((0, 0, 0), (0, 0, 0, 0), aloneV k a b)) else ((0, 0, 0), (0, 0, 0, 0), spotV l s)

theorem over_spot {l : List Tk} {s : Pt} {k a b e : Int} (h : spotV l s = e) (hne : e ≠ 0) : overV l s k a b = ((0, 0, 0), (0, 0, 0, 0), e) := by unfold overV; rw [h, if_neg hne]
theorem over_rec {l : List Tk} {s : Pt} {k a b e : Int} (h : spotV l s = 0) (he : aloneV k a b = e) (hne : e ≠ 0) : overV l s k a b = ((0, 0, 0), (0, 0, 0, 0), e) := by unfold overV; rw [if_pos h, he, if_neg hne]
theorem over_ok {l : List Tk} {s n : Pt} {k a b : Int} {f : Fs} (h : spotV l s = 0) (he : aloneV k a b = 0) (hr : runK l k (b - a).toNat a (s, -1, -1, -1, -1) = (n, f)) : overV l s k a b = (n, f, 0) := by unfold overV; rw [if_pos h, if_pos he, hr]

end Go.Proofs.Ythiiipbfdgaemaa

/- The block in which a spot goes on, and what breaks of layer 19 leaves in it. Conditions: the block lies in memory. -/
namespace Go.Proofs.Ythiiipbfdgaemaa
open Go.RowKit

/-- The cells of a walk: the tasks, the spot, the first minutes. -/
def wk (A : Option Addr) (n c : Nat) (s : Pt) (f0 f1 f2 f3 : Int) : Array Value :=
  #[.slice A n c, .int .i64 s.1, .int .i64 s.2.1, .int .i64 s.2.2, .int .i64 f0, .int .i64 f1, .int .i64 f2, .int .i64 f3]

theorem note_yes {f m : Int} (h : f < 0) : noteF f true m = m := if_pos ⟨rfl, h⟩

set_option maxRecDepth 20000 in
set_option maxHeartbeats 2000000 in
theorem breaks19_0 (g : Nat) (A : Option Addr) (n c : Nat) (s : Pt) (f0 f1 f2 f3 m : Int) (w : World) (hB : Bx w g 103 (wk A n c s f0 f1 f2 f3)) :
    Calls Try.prog 66 #[.pointer (some ⟨g, 0, none⟩), .int .i64 10, .int .i64 m] w fun e w' => e = .returned (.tuple #[]) ∧ Upd w g 103 (wk A n c s (noteF f0 true m) f1 f2 f3) w' := by
  have p : w.cell? ⟨g, 4, none⟩ = some (.int .i64 f0) := hB.cell (k := 4) rfl
  have hlt := hB.lt
  by_cases h : f0 < 0
  · rw [note_yes h]
    go_enter Try.func66, Try.ntmps66
    go_wp2_with (refine wpList_store_fld (by rfl) 3 _ _ rfl g 4 (.int .i64 m) rfl rfl rfl 103 (wk A n c s f0 f1 f2 f3) hB (show 4 < 8 by decide) (by kernel_rfl) (fun w1 u => ?_))
    refine bodyPost_end (results_none Try.results66 _ _ _) rfl ⟨rfl, u⟩
  · have h' : 0 ≤ f0 := by omega
    rw [note_old h']
    clear h
    go_enter Try.func66, Try.ntmps66
    go_wp2
    refine bodyPost_end (results_none Try.results66 _ _ _) rfl ⟨rfl, Upd.same hB⟩

set_option maxRecDepth 20000 in
set_option maxHeartbeats 2000000 in
theorem breaks19_1 (g : Nat) (A : Option Addr) (n c : Nat) (s : Pt) (f0 f1 f2 f3 m : Int) (w : World) (hB : Bx w g 103 (wk A n c s f0 f1 f2 f3)) :
    Calls Try.prog 66 #[.pointer (some ⟨g, 0, none⟩), .int .i64 11, .int .i64 m] w fun e w' => e = .returned (.tuple #[]) ∧ Upd w g 103 (wk A n c s f0 (noteF f1 true m) f2 f3) w' := by
  have p : w.cell? ⟨g, 5, none⟩ = some (.int .i64 f1) := hB.cell (k := 5) rfl
  have hlt := hB.lt
  by_cases h : f1 < 0
  · rw [note_yes h]
    go_enter Try.func66, Try.ntmps66
    go_wp2_with (refine wpList_store_fld (by rfl) 3 _ _ rfl g 5 (.int .i64 m) rfl rfl rfl 103 (wk A n c s f0 f1 f2 f3) hB (show 5 < 8 by decide) (by kernel_rfl) (fun w1 u => ?_))
    refine bodyPost_end (results_none Try.results66 _ _ _) rfl ⟨rfl, u⟩
  · have h' : 0 ≤ f1 := by omega
    rw [note_old h']
    clear h
    go_enter Try.func66, Try.ntmps66
    go_wp2
    refine bodyPost_end (results_none Try.results66 _ _ _) rfl ⟨rfl, Upd.same hB⟩

set_option maxRecDepth 20000 in
set_option maxHeartbeats 2000000 in
theorem breaks19_2 (g : Nat) (A : Option Addr) (n c : Nat) (s : Pt) (f0 f1 f2 f3 m : Int) (w : World) (hB : Bx w g 103 (wk A n c s f0 f1 f2 f3)) :
    Calls Try.prog 66 #[.pointer (some ⟨g, 0, none⟩), .int .i64 12, .int .i64 m] w fun e w' => e = .returned (.tuple #[]) ∧ Upd w g 103 (wk A n c s f0 f1 (noteF f2 true m) f3) w' := by
  have p : w.cell? ⟨g, 6, none⟩ = some (.int .i64 f2) := hB.cell (k := 6) rfl
  have hlt := hB.lt
  by_cases h : f2 < 0
  · rw [note_yes h]
    go_enter Try.func66, Try.ntmps66
    go_wp2_with (refine wpList_store_fld (by rfl) 3 _ _ rfl g 6 (.int .i64 m) rfl rfl rfl 103 (wk A n c s f0 f1 f2 f3) hB (show 6 < 8 by decide) (by kernel_rfl) (fun w1 u => ?_))
    refine bodyPost_end (results_none Try.results66 _ _ _) rfl ⟨rfl, u⟩
  · have h' : 0 ≤ f2 := by omega
    rw [note_old h']
    clear h
    go_enter Try.func66, Try.ntmps66
    go_wp2
    refine bodyPost_end (results_none Try.results66 _ _ _) rfl ⟨rfl, Upd.same hB⟩

set_option maxRecDepth 20000 in
set_option maxHeartbeats 2000000 in
theorem breaks19_3 (g : Nat) (A : Option Addr) (n c : Nat) (s : Pt) (f0 f1 f2 f3 m : Int) (w : World) (hB : Bx w g 103 (wk A n c s f0 f1 f2 f3)) :
    Calls Try.prog 66 #[.pointer (some ⟨g, 0, none⟩), .int .i64 13, .int .i64 m] w fun e w' => e = .returned (.tuple #[]) ∧ Upd w g 103 (wk A n c s f0 f1 f2 (noteF f3 true m)) w' := by
  have p : w.cell? ⟨g, 7, none⟩ = some (.int .i64 f3) := hB.cell (k := 7) rfl
  have hlt := hB.lt
  by_cases h : f3 < 0
  · rw [note_yes h]
    go_enter Try.func66, Try.ntmps66
    go_wp2_with (refine wpList_store_fld (by rfl) 3 _ _ rfl g 7 (.int .i64 m) rfl rfl rfl 103 (wk A n c s f0 f1 f2 f3) hB (show 7 < 8 by decide) (by kernel_rfl) (fun w1 u => ?_))
    refine bodyPost_end (results_none Try.results66 _ _ _) rfl ⟨rfl, u⟩
  · have h' : 0 ≤ f3 := by omega
    rw [note_old h']
    clear h
    go_enter Try.func66, Try.ntmps66
    go_wp2
    refine bodyPost_end (results_none Try.results66 _ _ _) rfl ⟨rfl, Upd.same hB⟩

end Go.Proofs.Ythiiipbfdgaemaa

/- A slice of tasks, a spot, a minute as arguments: opened to what they hold. Conditions: none. -/
namespace Go.Proofs.Ythiiipbfdgaemaa
open Go.ChangeShapes Go.WideShapes Go.ChangeAt Go.RowKit Go.Joins Go.Deep

theorem cells_span19 : Try.prog.cellsOf 56 = 2 := by kernel_rfl
theorem cells_task19 : Try.prog.cellsOf 53 = 3 := by kernel_rfl
theorem cells_spot19 : Try.prog.cellsOf 24 = 3 := by kernel_rfl
theorem cells_int19 : Try.prog.cellsOf 3 = 1 := by kernel_rfl
theorem cells_open19 : Try.prog.cellsOf 51 = 1 := by kernel_rfl

/-- What a slice of spans reads as, wherever it lies. -/
theorem read_spans19 {H : Type} {enc : TypeId × Value → H} {w : World} {base : Nat} {spare : Nat → Bool} {held : Bool} {fuel : Nat} {cs : List Value} {x : DataW H × List MemPlace}
    (hf : DataW.trod enc Try.prog w base spare held fuel 51 cs = some x) :
    ∃ (A : Option Addr) (c : Nat) (l : List Sp), cs = [.slice A l.length c] ∧ RdS w A l := by
  rcases open_slice_pairs Try.underlying51 Try.underlying56 cells_span19 rfl rfl (by kernel_rfl) (by kernel_rfl) hf with ⟨hcs, _⟩ | ⟨a, len, cap, m, n, V0, V1, D0, D1, P0, P1, hcs, _, hl, _, hm, _, hx⟩
  · exact ⟨none, 0, [], hcs, RdS.nil _ _⟩
  · have hlm : len ≤ m := by rw [hm]; split <;> omega
    have hz : ∀ i, i < len → ∃ s : Sp, w.cell? (a.add (i * 2)) = some (.int .i64 s.1) ∧ w.cell? (a.add (i * 2 + 1)) = some (.int .i64 s.2) := by
      intro i hi
      obtain ⟨h0, h1, t0, t1⟩ := hx i (by omega)
      obtain ⟨x, e0, _, wx⟩ := DataW.trod_int Try.underlying3 t0
      obtain ⟨y, e1, _, wy⟩ := DataW.trod_int Try.underlying3 t1
      simp at e0 e1
      rw [e0] at h0
      rw [e1] at h1
      exact ⟨(x, y), h0, h1⟩
    obtain ⟨f, hF⟩ := choose_lt hz
    have hlen : ((List.range len).map f).length = len := by simp
    refine ⟨some a, cap, (List.range len).map f, by rw [hlen]; exact hcs, fun hne => ?_⟩
    obtain ⟨b, off, spot⟩ := a
    have h0 : 0 < len := by
      rcases Nat.eq_zero_or_pos len with h | h
      · subst h; exact absurd rfl hne
      · exact h
    have hspot : spot = none := by simpa [Addr.add] using World.cell?_spot (hF 0 h0).1
    subst hspot
    refine ⟨b, off, rfl, ?_, fun k hk => ?_⟩
    · have := World.block_lt_of_cell? w _ (hF 0 h0).1
      rwa [addr_plain] at this
    · have hk' : k < len := by simpa using hk
      have hf := hF k hk'
      rw [addr_plain, addr_plain] at hf
      have e : ((List.range len).map f).getD k (0, 0) = f k := by simp [List.getD, hk']
      rw [e, Nat.add_assoc]
      exact hf

set_option maxRecDepth 20000 in
/-- What lies in the three cells of a task that is read. -/
theorem read_task {H : Type} {enc : TypeId × Value → H} {w : World} {base : Nat} {spare : Nat → Bool} {held : Bool} {fuel : Nat} {cs : List Value} {x : DataW H × List MemPlace}
    (h : DataW.trod enc Try.prog w base spare held fuel 53 cs = some x) :
    ∃ (t : Tk) (B : Option Addr) (c : Nat), cs = [.int .i64 t.1, .int .i64 t.2.1, .slice B t.2.2.length c] ∧ RdS w B t.2.2 := by
  obtain ⟨ys, n, _, _, hl, hyl, hf⟩ := DataW.trod_struct Try.underlying53 h
  rw [cells_task19] at hl
  match cs, hl with
  | [c0, c1, c2], _ =>
    have hyl3 : ys.length = 3 := hyl
    match ys, hyl3 with
    | [y0, y1, y2], _ =>
      obtain ⟨a, ha, _, _⟩ := DataW.trod_int Try.underlying3 (hf 0 _ rfl)
      obtain ⟨b, hb, _, _⟩ := DataW.trod_int Try.underlying3 (hf 1 _ rfl)
      obtain ⟨B, c, o, hc, hr⟩ := read_spans19 (hf 2 _ rfl)
      simp [cells_int19] at ha hb
      simp [cells_open19] at hc
      exact ⟨(a, b, o), B, c, by rw [ha, hb, hc], hr⟩

set_option maxRecDepth 20000 in
theorem open_tasks {H : Type} {enc : TypeId × Value → H} {w : World} {base : Nat} {spare : Nat → Bool} {held : Bool} {r : Reach} {b0 : Nat} {v : Value} {d : DataW H} {p : List MemPlace}
    (hv : Value.okWide Try.prog w r b0 22 v) (h : DataW.Trod enc Try.prog w base spare held 22 v d p) :
    ∃ (A : Option Addr) (n c : Nat) (l : List Tk), v = .slice A n c ∧ l.length = n ∧ RdK w A l ∧ n ≤ c ∧ (A = none → c = 0) := by
  obtain ⟨a0, len0, cap0, rfl⟩ := okWide_slice Try.underlying22 hv
  obtain ⟨fuel, hf⟩ := h
  rcases open_slice Try.underlying22 hf with ⟨hcs, _⟩ | ⟨a, len, cap, m, n, D, Pl, hcs, _, hl, _, hm, _, hx⟩
  · simp [Value.cells] at hcs
    obtain ⟨rfl, rfl, rfl⟩ := hcs
    exact ⟨none, 0, 0, [], rfl, rfl, RdK.nil _ _, Nat.le_refl _, fun _ => rfl⟩
  · simp [Value.cells] at hcs
    obtain ⟨rfl, rfl, rfl⟩ := hcs
    have hlm : len0 ≤ m := by rw [hm]; split <;> omega
    have hz : ∀ i, i < len0 → ∃ q : Tk × Option Addr × Nat, w.cell? (a.add (i * 3)) = some (.int .i64 q.1.1) ∧ w.cell? (a.add (i * 3 + 1)) = some (.int .i64 q.1.2.1) ∧ w.cell? (a.add (i * 3 + 2)) = some (.slice q.2.1 q.1.2.2.length q.2.2) ∧ RdS w q.2.1 q.1.2.2 := by
      intro i hi
      obtain ⟨cs', hc, ht⟩ := hx i (by omega)
      rw [cells_task19] at hc
      obtain ⟨q, B, c, rfl, hr⟩ := read_task ht
      obtain ⟨_, _, hat⟩ := World.cells?_some hc
      have h0 := hat 0 (by omega)
      have h1 := hat 1 (by omega)
      have h2 := hat 2 (by omega)
      rw [Go.Deep.add_add] at h0 h1 h2
      exact ⟨(q, B, c), h0, h1, h2, hr⟩
    obtain ⟨f, hF⟩ := choose_lt hz
    refine ⟨some a, len0, cap0, (List.range len0).map fun i => (f i).1, rfl, by simp, fun hne => ?_, hl, fun h => by cases h⟩
    obtain ⟨b, off, spot⟩ := a
    have h0 : 0 < len0 := by
      rcases Nat.eq_zero_or_pos len0 with h | h
      · subst h; exact absurd rfl hne
      · exact h
    have hspot : spot = none := by simpa [Addr.add] using World.cell?_spot (hF 0 h0).1
    subst hspot
    refine ⟨b, off, rfl, ?_, fun k hk => ?_⟩
    · have := World.block_lt_of_cell? w _ (hF 0 h0).1
      rwa [addr_plain] at this
    · have hk' : k < len0 := by simpa using hk
      have hf := hF k hk'
      rw [addr_plain, addr_plain, addr_plain] at hf
      have e : ((List.range len0).map fun i => (f i).1).getD k tz = (f k).1 := by simp [List.getD, hk']
      rw [e, Nat.add_assoc, Nat.add_assoc]
      exact ⟨(f k).2.1, (f k).2.2, hf⟩

set_option maxRecDepth 100000 in
theorem open_spot {H : Type} {enc : TypeId × Value → H} {w : World} {base : Nat} {spare : Nat → Bool} {held : Bool} {r : Reach} {b0 : Nat} {v : Value} {d : DataW H} {p : List MemPlace}
    (hv : Value.okWide Try.prog w r b0 24 v) (h : DataW.Trod enc Try.prog w base spare held 24 v d p) :
    ∃ a b c : Int, v = .agg #[.int .i64 a, .int .i64 b, .int .i64 c] ∧ d = .agg [.lit (.int .i64 a), .lit (.int .i64 b), .lit (.int .i64 c)] ∧ p = [] ∧ (Lit.int .i64 a).wf = true ∧ (Lit.int .i64 b).wf = true ∧ (Lit.int .i64 c).wf = true := by
  obtain ⟨c0, c1, c2, y0, y1, y2, m, rfl, rfl, rfl, hy0, hy1, hy2⟩ := open_agg3 Try.underlying24 (by kernel_rfl) cells_spot19 hv h
  obtain ⟨a, e0, rfl, wa⟩ := DataW.trod_int Try.underlying3 hy0
  obtain ⟨b, e1, rfl, wb⟩ := DataW.trod_int Try.underlying3 hy1
  obtain ⟨c, e2, rfl, wc⟩ := DataW.trod_int Try.underlying3 hy2
  simp at e0 e1 e2
  subst e0 e1 e2
  exact ⟨a, b, c, rfl, rfl, rfl, wa, wb, wc⟩

set_option maxRecDepth 100000 in
theorem shut_spot {H : Type} {enc : TypeId × Value → H} {w : World} {base : Nat} {spare : Nat → Bool} {held : Bool} {a b c : Int} (wa : (Lit.int .i64 a).wf = true) (wb : (Lit.int .i64 b).wf = true) (wc : (Lit.int .i64 c).wf = true) :
    DataW.Trod enc Try.prog w base spare held 24 (.agg #[.int .i64 a, .int .i64 b, .int .i64 c]) (.agg [.lit (.int .i64 a), .lit (.int .i64 b), .lit (.int .i64 c)]) [] :=
  shut_agg3 (y0 := (.lit (.int .i64 a), [])) (y1 := (.lit (.int .i64 b), [])) (y2 := (.lit (.int .i64 c), [])) Try.underlying24 (by kernel_rfl) cells_spot19 ⟨1, by simp [DataW.trod, Try.underlying3, wa]⟩ ⟨1, by simp [DataW.trod, Try.underlying3, wb]⟩ ⟨1, by simp [DataW.trod, Try.underlying3, wc]⟩

theorem wf_i64 {x : Int} (h : (Lit.int .i64 x).wf = true) : -9223372036854775808 ≤ x ∧ x ≤ 9223372036854775807 := by
  simpa [Lit.wf, IntKind.min, IntKind.max, IntKind.signed, IntKind.bits] using h

end Go.Proofs.Ythiiipbfdgaemaa

/- A timeline along tasks in plain words: minutes of any kinds one behind the other, the first minutes that break clauses, and the findings that these are. Conditions: none beyond each lemma's own premises. -/
namespace Go.Proofs.Ythiiipbfdgaemaa

/-- Minutes of these kinds, one behind the other, from m on. -/
def runS (l : List Tk) : List Int → Int → Pt × Fs → Pt × Fs
  | [], _, st => st
  | k :: ks, m, st => runS l ks (m + 1) (minT l k m st)

theorem runS_append (l : List Tk) : ∀ (a b : List Int) (m : Int) (st : Pt × Fs), runS l (a ++ b) m st = runS l b (m + a.length) (runS l a m st)
  | [], b, m, st => by simp [runS]
  | k :: a, b, m, st => by
    show runS l (a ++ b) (m + 1) (minT l k m st) = runS l b (m + (k :: a).length) (runS l a (m + 1) (minT l k m st))
    rw [runS_append l a b]
    congr 1
    simp; omega

theorem runS_rep (l : List Tk) (k : Int) : ∀ (n : Nat) (m : Int) (st : Pt × Fs), runS l (List.replicate n k) m st = runK l k n m st
  | 0, _, _ => rfl
  | n + 1, m, st => by
    rw [List.replicate_succ]
    exact runS_rep l k n (m + 1) (minT l k m st)

theorem runS_fits {l : List Tk} (ok : ∀ t ∈ l, TkOk t) : ∀ (ks : List Int) (m : Int) (st : Pt × Fs), Fits l st.1 → Fits l (runS l ks m st).1
  | [], _, _, h => h
  | k :: ks, m, st, h => runS_fits ok ks (m + 1) (minT l k m st) (step_fits ok h k)

theorem runS_snoc (l : List Tk) (ks : List Int) (k : Int) (m : Int) (st : Pt × Fs) : runS l (ks ++ [k]) m st = minT l k (m + ks.length) (runS l ks m st) := by
  rw [runS_append]; rfl

/-- The first minutes that were noted ahead stay. -/
def combF (F f : Fs) : Fs := (if F.1 < 0 then f.1 else F.1, if F.2.1 < 0 then f.2.1 else F.2.1, if F.2.2.1 < 0 then f.2.2.1 else F.2.2.1, if F.2.2.2 < 0 then f.2.2.2 else F.2.2.2)

def none4 : Fs := (-1, -1, -1, -1)

theorem note_comb (F f : Int) (b : Bool) (m : Int) : noteF (if F < 0 then f else F) b m = if F < 0 then noteF f b m else F := by
  unfold noteF
  repeat' split
  all_goals first | rfl | omega

theorem min_comb (l : List Tk) (k m : Int) (s : Pt) (F f : Fs) : minT l k m (s, combF F f) = ((minT l k m (s, f)).1, combF F (minT l k m (s, f)).2) := by
  unfold minT combF
  simp only [note_comb]

theorem runK_comb (l : List Tk) (k : Int) : ∀ (n : Nat) (m : Int) (s : Pt) (F f : Fs), runK l k n m (s, combF F f) = ((runK l k n m (s, f)).1, combF F (runK l k n m (s, f)).2)
  | 0, _, _, _, _ => rfl
  | n + 1, m, s, F, f => by
    unfold runK
    rw [min_comb]
    exact runK_comb l k n (m + 1) _ F _

/-- None of these is below -1. -/
def Fok (F : Fs) : Prop := -1 ≤ F.1 ∧ -1 ≤ F.2.1 ∧ -1 ≤ F.2.2.1 ∧ -1 ≤ F.2.2.2

theorem comb_none {F : Fs} (h : Fok F) : combF F none4 = F := by
  obtain ⟨a, b, c, d⟩ := F
  unfold Fok at h
  unfold combF none4
  simp only at h ⊢
  simp only [Prod.mk.injEq]
  refine ⟨?_, ?_, ?_, ?_⟩ <;> (split <;> omega)

theorem note_ok {f m : Int} (b : Bool) (h : -1 ≤ f) (hm : 0 ≤ m) : -1 ≤ noteF f b m := by
  unfold noteF; split <;> omega

theorem min_ok {l : List Tk} {k m : Int} {s : Pt} {F : Fs} (h : Fok F) (hm : 0 ≤ m) : Fok (minT l k m (s, F)).2 := by
  obtain ⟨h0, h1, h2, h3⟩ := h
  exact ⟨note_ok _ h0 hm, note_ok _ h1 hm, note_ok _ h2 hm, note_ok _ h3 hm⟩

theorem runS_ok {l : List Tk} : ∀ (ks : List Int) {m : Int} {st : Pt × Fs}, Fok st.2 → 0 ≤ m → Fok (runS l ks m st).2
  | [], _, _, h, _ => h
  | k :: ks, m, (s, F), h, hm => runS_ok ks (min_ok h hm) (by omega)

theorem runK_ok {l : List Tk} (k : Int) : ∀ (n : Nat) {m : Int} {st : Pt × Fs}, Fok st.2 → 0 ≤ m → Fok (runK l k n m st).2
  | 0, _, _, h, _ => h
  | n + 1, m, (s, F), h, hm => runK_ok k n (min_ok h hm) (by omega)

theorem fok_none : Fok none4 := by unfold Fok none4; decide

/-- A first minute lies among the minutes. -/
def Fhi (m : Int) (F : Fs) : Prop := F.1 < m ∧ F.2.1 < m ∧ F.2.2.1 < m ∧ F.2.2.2 < m

theorem note_hi {f m : Int} (b : Bool) (h : f < m) : noteF f b m < m + 1 := by
  unfold noteF; split <;> omega

theorem runS_hi {l : List Tk} : ∀ (ks : List Int) {m : Int} {st : Pt × Fs}, Fhi m st.2 → Fhi (m + ks.length) (runS l ks m st).2
  | [], m, _, h => by simpa [runS] using h
  | k :: ks, m, (s, F), h => by
    have := runS_hi (l := l) ks (m := m + 1) (st := minT l k m (s, F)) ⟨note_hi _ h.1, note_hi _ h.2.1, note_hi _ h.2.2.1, note_hi _ h.2.2.2⟩
    have e : m + ((k :: ks).length : Int) = m + 1 + ks.length := by simp; omega
    rw [e]; exact this

/-! ### A piece: minutes of one kind in which no drive and no service ends but with the last one -/

/-- n minutes of kind k are a piece, at that spot. -/
def Pc (l : List Tk) (s : Pt) (k : Int) (n : Nat) : Prop :=
  0 < n ∧ ((k = 3 ∧ CanD l s ∧ (n : Int) ≤ (tk l s.1).1 - s.2.1) ∨ (k = 2 ∧ CanW l s ∧ (n : Int) ≤ (tk l s.1).2.1 - s.2.2) ∨ ((k = 3 → ¬ CanD l s) ∧ (k = 2 → ¬ CanW l s)))

/-- How many minutes of the kind there are to the end of what goes on with them. -/
def farV (l : List Tk) (s : Pt) (k : Int) : Int :=
  if k = 3 ∧ CanD l s then (tk l s.1).1 - s.2.1 else if k = 2 ∧ CanW l s then (tk l s.1).2.1 - s.2.2 else 40320

theorem far_pos {l : List Tk} {s : Pt} {k : Int} : 0 < farV l s k := by
  unfold farV CanD CanW
  repeat' split
  all_goals omega

theorem far_hi {l : List Tk} (ok : ∀ t ∈ l, TkOk t) {s : Pt} (h : Fits l s) {k : Int} : farV l s k ≤ 40320 := by
  obtain ⟨h1, h2, h3, h4⟩ := h
  unfold farV CanD CanW
  repeat' split
  · rename_i c
    have := h4 c.2.1
    have t := ok _ (tk_mem h1 c.2.1)
    unfold TkOk at t
    omega
  · rename_i c
    have := h4 c.2.1
    have t := ok _ (tk_mem h1 c.2.1)
    unfold TkOk at t
    omega
  · omega

theorem far_pc {l : List Tk} {s : Pt} {k : Int} {n : Nat} (h0 : 0 < n) (h : (n : Int) ≤ farV l s k) : Pc l s k n := by
  unfold farV at h
  unfold Pc
  refine ⟨h0, ?_⟩
  by_cases c0 : k = 3 ∧ CanD l s
  · rw [if_pos c0] at h; exact .inl ⟨c0.1, c0.2, h⟩
  · rw [if_neg c0] at h
    by_cases c1 : k = 2 ∧ CanW l s
    · rw [if_pos c1] at h; exact .inr (.inl ⟨c1.1, c1.2, h⟩)
    · exact .inr (.inr ⟨fun e c => c0 ⟨e, c⟩, fun e c => c1 ⟨e, c⟩⟩)

/-! ### The tasks that one piece may end, alone -/

/-- The place behind the task, and behind those in which there is nothing to do. -/
def nearN (l : List Tk) : Nat → Nat → Nat
  | 0, e => e
  | f + 1, e => if e < l.length ∧ (l.getD e tz).1 = 0 ∧ (l.getD e tz).2.1 = 0 then nearN l f (e + 1) else e

/-- All tasks from a to e lie at those places less a. -/
theorem tk_cut {l : List Tk} {a e : Nat} {i : Nat} (hi : a + i < e) : tk ((l.take e).drop a) (i : Int) = tk l ((a + i : Nat) : Int) := by
  unfold tk
  simp only [Int.toNat_natCast]
  rw [List.getD_eq_getElem?_getD, List.getD_eq_getElem?_getD, List.getElem?_drop, List.getElem?_take, if_pos hi]

theorem cut_len {l : List Tk} {a e : Nat} (he : e ≤ l.length) : ((l.take e).drop a).length = e - a := by
  rw [List.length_drop, List.length_take]; omega

/-- Behind e there is something to do, or nothing at all; between a and e there is nothing to do. -/
def NearE (l : List Tk) (a e : Nat) : Prop :=
  e ≤ l.length ∧ (a < l.length → a < e) ∧ a ≤ e ∧ (∀ j, a < j → j < e → (tk l (j : Int)).1 = 0 ∧ (tk l (j : Int)).2.1 = 0) ∧ (e < l.length → ¬ ((tk l (e : Int)).1 = 0 ∧ (tk l (e : Int)).2.1 = 0))

/-- Spots within the cut, and those of all. -/
def upP (a : Nat) (s : Pt) : Pt := (s.1 + a, s.2.1, s.2.2)

theorem pastN_not {l : List Tk} {s : Pt} (h : ¬ Full l s) (g : Nat) : pastN l g s = s := by
  cases g with
  | zero => rfl
  | succ g => unfold pastN; rw [if_neg h]

theorem full_cut {l : List Tk} {a e : Nat} (h : NearE l a e) {i : Nat} {x y : Int} (hi : a + i < e) : Full ((l.take e).drop a) ((i : Int), x, y) ↔ Full l (((a + i : Nat) : Int), x, y) := by
  unfold Full
  rw [tk_cut hi, cut_len h.1]
  simp only
  have := h.1
  constructor
  · rintro ⟨_, h2, h3⟩; exact ⟨by omega, h2, h3⟩
  · rintro ⟨_, h2, h3⟩; exact ⟨by omega, h2, h3⟩

theorem pastN_cut {l : List Tk} {a e : Nat} (h : NearE l a e) : ∀ (f g : Nat) (i : Nat) (x y : Int), a + i ≤ e → e - (a + i) ≤ f → l.length - (a + i) ≤ g → (a + i = e → x = 0 ∧ y = 0) →
    upP a (pastN ((l.take e).drop a) f ((i : Int), x, y)) = pastN l g (((a + i : Nat) : Int), x, y) := by
  intro f
  induction f with
  | zero =>
    intro g i x y h1 h2 h3 hz
    have he : a + i = e := by omega
    obtain ⟨rfl, rfl⟩ := hz he
    have hnf : ¬ Full l (((a + i : Nat) : Int), 0, 0) := by
      intro k
      rw [he] at k
      have h0 := k.1
      simp only at h0
      exact h.2.2.2.2 (by omega) ⟨k.2.1.symm, k.2.2.symm⟩
    rw [pastN_not hnf]
    show upP a ((i : Int), 0, 0) = _
    unfold upP
    ext <;> simp <;> omega
  | succ f ih =>
    intro g i x y h1 h2 h3 hz
    by_cases he : a + i = e
    · obtain ⟨rfl, rfl⟩ := hz he
      have hnf : ¬ Full l (((a + i : Nat) : Int), 0, 0) := by
        intro k
        rw [he] at k
        have h0 := k.1
        simp only at h0
        exact h.2.2.2.2 (by omega) ⟨k.2.1.symm, k.2.2.symm⟩
      have hnc : ¬ Full ((l.take e).drop a) ((i : Int), 0, 0) := by
        intro k
        have h0 := k.1
        rw [cut_len h.1] at h0
        simp only at h0
        omega
      rw [pastN_not hnc, pastN_not hnf]
      unfold upP
      ext <;> simp <;> omega
    · have hi : a + i < e := by omega
      have hl := h.1
      obtain ⟨g, rfl⟩ : ∃ g', g = g' + 1 := ⟨g - 1, by omega⟩
      by_cases hf : Full l (((a + i : Nat) : Int), x, y)
      · have hc := (full_cut h hi).2 hf
        conv => lhs; unfold pastN
        conv => rhs; unfold pastN
        rw [if_pos hf, if_pos hc]
        have := ih g (i + 1) 0 0 (by omega) (by omega) (by omega) (fun _ => ⟨rfl, rfl⟩)
        have e1 : (((i + 1 : Nat) : Int), (0 : Int), (0 : Int)) = ((i : Int) + 1, 0, 0) := by simp
        have e2 : (((a + (i + 1) : Nat) : Int), (0 : Int), (0 : Int)) = (((a + i : Nat) : Int) + 1, 0, 0) := by
          congr 1
        rw [e1, e2] at this
        exact this
      · have hc : ¬ Full ((l.take e).drop a) ((i : Int), x, y) := fun c => hf ((full_cut h hi).1 c)
        conv => lhs; unfold pastN
        conv => rhs; unfold pastN
        rw [if_neg hf, if_neg hc]
        unfold upP
        ext <;> simp <;> omega

theorem pastT_cut {l : List Tk} {a e : Nat} (h : NearE l a e) {i : Nat} {x y : Int} (hi : a + i ≤ e) (hz : a + i = e → x = 0 ∧ y = 0) :
    upP a (pastT ((l.take e).drop a) ((i : Int), x, y)) = pastT l (((a + i : Nat) : Int), x, y) := by
  unfold pastT
  have := h.1
  rw [cut_len h.1]
  exact pastN_cut h _ _ i x y hi (by simp only; omega) (by simp only; omega) hz

end Go.Proofs.Ythiiipbfdgaemaa

/- A timeline along tasks in plain words, part two: a piece at once, and of the tasks that it may end alone. Conditions: none beyond each lemma's own premises. -/
namespace Go.Proofs.Ythiiipbfdgaemaa

/-- What a piece comes to, with nothing noted ahead. -/
def pcV (l : List Tk) (s : Pt) (k : Int) (n : Nat) (m : Int) : Pt × Fs :=
  if k = 3 ∧ CanD l s then (pastT l (s.1, s.2.1 + n, s.2.2), -1, -1, -1, -1)
  else if k = 2 ∧ CanW l s then (pastT l (s.1, s.2.1, s.2.2 + n), -1, -1, noteF (-1) (decide (s.2.2 = 0 ∧ hasL (tk l s.1).2.2 m = false)) m, -1)
  else (s, noteF (-1) (decide (k = 3)) m, noteF (-1) (decide (k = 2)) m, -1, noteF (-1) (decide (k ≠ 2 ∧ 0 < s.2.2)) m)

theorem note_one {m : Int} : noteF (-1) true m = m := by unfold noteF; simp

theorem pc_run {l : List Tk} (ok : ∀ t ∈ l, TkOk t) {s : Pt} (h : Fits l s) {k : Int} {n : Nat} (hp : Pc l s k n) {m : Int} (hm : 0 ≤ m) : runK l k n m (s, none4) = pcV l s k n m := by
  obtain ⟨h0, hc⟩ := hp
  obtain ⟨j, rfl⟩ : ∃ j, n = j + 1 := ⟨n - 1, by omega⟩
  unfold none4 pcV
  rcases hc with ⟨rfl, hd, hn⟩ | ⟨rfl, hw, hn⟩ | ⟨hd, hw⟩
  · rw [if_pos ⟨rfl, hd⟩, runK_drive ok j h hd m _ _ _ _ (by omega)]
    simp
  · rw [if_neg (fun c => absurd c.1 (by decide)), if_pos ⟨rfl, hw⟩, runK_work ok j h hw m _ _ _ _ (by omega)]
    simp
  · rw [if_neg (fun c => hd c.1 c.2), if_neg (fun c => hw c.1 c.2)]
    by_cases k2 : k = 2
    · subst k2
      rw [runK_nowork h (hw rfl) hm j, note_one]
      simp [noteF]
    · have e3 : b3 s k = decide (0 < s.2.2) := by unfold b3; simp [k2]
      have pre := runK_pre l k j m s (-1) (-1) (-1) (-1)
      rw [← pre, e3]
      have h3 : 0 < s.2.2 → 0 ≤ noteF (-1) (decide (0 < s.2.2)) m := fun c => by rw [decide_eq_true c]; exact note_set hm
      have e4 : decide (k ≠ 2 ∧ 0 < s.2.2) = decide (0 < s.2.2) := by simp [k2]
      have e5 : decide (k = 2) = false := decide_eq_false k2
      rw [e4, e5, note_no]
      by_cases k3 : k = 3
      · subst k3
        rw [runK_nodrive h (hd rfl) h3 hm j]
        simp
      · rw [runK_rest h k3 k2 h3 (j + 1) m, decide_eq_false k3, note_no]

theorem pc_note {l : List Tk} {s : Pt} {k : Int} {n : Nat} {m : Int} {s' : Pt} {f : Fs} (h : pcV l s k n m = (s', f)) (hm : 0 ≤ m) : Fok f := by
  unfold pcV at h
  have hn : ∀ b, -1 ≤ noteF (-1) b m := fun b => note_ok b (Int.le_refl _) hm
  have e : f = (pcV l s k n m).2 := by unfold pcV; rw [h]
  rw [e]
  unfold pcV Fok
  repeat' split
  all_goals (refine ⟨?_, ?_, ?_, ?_⟩ <;> first | exact Int.le_refl _ | exact hn _)

/-! ### Of the tasks that the piece may end, alone -/

def cutK (l : List Tk) (a e : Nat) : List Tk := (l.take e).drop a

theorem cut_fits {l : List Tk} {a e : Nat} (he : NearE l a e) {x y : Int} (h : Fits l ((a : Int), x, y)) : Fits (cutK l a e) (0, x, y) := by
  obtain ⟨h1, h2, h3, h4⟩ := h
  obtain ⟨e1, e2, e3, e4, e5⟩ := he
  simp only at h1 h2 h3 h4
  refine ⟨Int.le_refl _, by simp, fun c => ?_, fun c => ?_⟩
  · simp only at c
    unfold cutK at c
    rw [cut_len e1] at c
    by_cases ha : a < l.length
    · have := e2 ha; omega
    · exact h3 (by omega)
  · simp only at c ⊢
    unfold cutK at c ⊢
    rw [cut_len e1] at c
    have ha : a < l.length := by omega
    have ek : tk ((l.take e).drop a) 0 = tk l (a : Int) := tk_cut (i := 0) (by omega)
    rw [ek]
    exact h4 (by omega)

theorem cut_can {l : List Tk} {a e : Nat} (he : NearE l a e) {x y : Int} : (CanD (cutK l a e) (0, x, y) ↔ CanD l ((a : Int), x, y)) ∧ (CanW (cutK l a e) (0, x, y) ↔ CanW l ((a : Int), x, y)) ∧
    (a < l.length → tk (cutK l a e) 0 = tk l (a : Int)) := by
  obtain ⟨e1, e2, e3, e4, e5⟩ := he
  have hk : a < l.length → tk (cutK l a e) 0 = tk l (a : Int) := fun c => tk_cut (i := 0) (by have := e2 c; omega)
  unfold CanD CanW
  simp only
  have hl : ((0 : Int) < ((cutK l a e).length : Int)) ↔ (a : Int) < (l.length : Int) := by
    unfold cutK
    rw [cut_len e1]
    constructor
    · intro c; omega
    · intro c; have := e2 (by omega); omega
  refine ⟨⟨fun c => ?_, fun c => ?_⟩, ⟨fun c => ?_, fun c => ?_⟩, hk⟩
  · have h1 := hl.1 c.1
    rw [← hk (by omega)]; exact ⟨h1, c.2⟩
  · rw [hk (by omega)]; exact ⟨hl.2 c.1, c.2⟩
  · have h1 := hl.1 c.1
    rw [← hk (by omega)]; exact ⟨h1, c.2⟩
  · rw [hk (by omega)]; exact ⟨hl.2 c.1, c.2⟩

theorem pc_cut {l : List Tk} {a e : Nat} (he : NearE l a e) {x y : Int} {k : Int} {n : Nat} : Pc (cutK l a e) (0, x, y) k n ↔ Pc l ((a : Int), x, y) k n := by
  obtain ⟨c1, c2, c3⟩ := cut_can he (x := x) (y := y)
  unfold Pc
  rw [c1, c2]
  simp only
  constructor
  · rintro ⟨h0, h⟩
    refine ⟨h0, ?_⟩
    rcases h with ⟨p, q, r⟩ | ⟨p, q, r⟩ | h
    · rw [c3 (by have := q.1; simp only at this; omega)] at r; exact .inl ⟨p, q, r⟩
    · rw [c3 (by have := q.1; simp only at this; omega)] at r; exact .inr (.inl ⟨p, q, r⟩)
    · exact .inr (.inr h)
  · rintro ⟨h0, h⟩
    refine ⟨h0, ?_⟩
    rcases h with ⟨p, q, r⟩ | ⟨p, q, r⟩ | h
    · rw [← c3 (by have := q.1; simp only at this; omega)] at r; exact .inl ⟨p, q, r⟩
    · rw [← c3 (by have := q.1; simp only at this; omega)] at r; exact .inr (.inl ⟨p, q, r⟩)
    · exact .inr (.inr h)

/-- What the piece comes to within the cut is what it comes to. -/
theorem cut_piece {l : List Tk} {a e : Nat} (he : NearE l a e) {x y : Int} {k : Int} {n : Nat} {m : Int} :
    (upP a (pcV (cutK l a e) (0, x, y) k n m).1, (pcV (cutK l a e) (0, x, y) k n m).2) = pcV l ((a : Int), x, y) k n m := by
  obtain ⟨c1, c2, c3⟩ := cut_can he (x := x) (y := y)
  have hp : ∀ x y : Int, a < l.length → upP a (pastT (cutK l a e) (0, x, y)) = pastT l ((a : Int), x, y) := fun x y c => by
    have := pastT_cut he (i := 0) (x := x) (y := y) (by have := he.2.1 c; omega) (fun q => by have := he.2.1 c; omega)
    simpa [cutK] using this
  unfold pcV
  simp only
  by_cases d : k = 3 ∧ CanD l ((a : Int), x, y)
  · rw [if_pos d, if_pos ⟨d.1, c1.2 d.2⟩]
    simp only
    rw [hp _ _ (by have := d.2.1; simp only at this; omega)]
  · rw [if_neg d, if_neg (fun c => d ⟨c.1, c1.1 c.2⟩)]
    by_cases w : k = 2 ∧ CanW l ((a : Int), x, y)
    · have ha : a < l.length := by have := w.2.1; simp only at this; omega
      rw [if_pos w, if_pos ⟨w.1, c2.2 w.2⟩]
      simp only
      rw [hp _ _ ha, c3 ha]
    · rw [if_neg w, if_neg (fun c => w ⟨c.1, c2.1 c.2⟩)]
      unfold upP
      simp

theorem all_zero : ∀ {l : List Tk}, firstT l = 0 → ∀ t ∈ l, taskV t = 0
  | t :: l, h, u, hu => by
    unfold firstT at h
    by_cases h0 : taskV t = 0
    · rw [if_pos h0] at h
      rcases List.mem_cons.1 hu with rfl | hu
      · exact h0
      · exact all_zero h u hu
    · rw [if_neg h0] at h; exact absurd h h0

theorem zero_all : ∀ {l : List Tk}, (∀ t ∈ l, taskV t = 0) → firstT l = 0
  | [], _ => rfl
  | t :: l, h => by
    unfold firstT
    rw [if_pos (h t (List.mem_cons_self ..))]
    exact zero_all fun u hu => h u (List.mem_cons_of_mem _ hu)

theorem cut_mem {l : List Tk} {a e : Nat} {t : Tk} (h : t ∈ cutK l a e) : t ∈ l := List.mem_of_mem_take (List.mem_of_mem_drop h)

theorem cut_check {l : List Tk} (h : checkT l = 0) {a e : Nat} : checkT (cutK l a e) = 0 := by
  unfold checkT at h ⊢
  by_cases h0 : 2001 < l.length
  · rw [if_pos h0] at h; cases h
  · rw [if_neg h0] at h
    have hl : (cutK l a e).length ≤ l.length := by unfold cutK; rw [List.length_drop, List.length_take]; omega
    rw [if_neg (by omega)]
    exact zero_all fun t ht => all_zero h t (cut_mem ht)

/-- What Over tells of the piece within the cut. -/
theorem cut_over {l : List Tk} (ck : checkT l = 0) {a e : Nat} (he : NearE l a e) {x y : Int} (h : Fits l ((a : Int), x, y)) {k : Int} {n : Nat} {m b : Int} (hp : Pc l ((a : Int), x, y) k n)
    (hal : aloneV k m b = 0) (hb : b = m + n) {s' : Pt} {f : Fs} (hr : runK l k n m (((a : Int), x, y), none4) = (s', f)) :
    ∃ q : Pt, overV (cutK l a e) (0, x, y) k m b = (q, f, 0) ∧ upP a q = s' := by
  obtain ⟨ok, _⟩ := checkt_zero ck
  have cc := cut_check ck (a := a) (e := e)
  obtain ⟨okc, _⟩ := checkt_zero cc
  have fc := cut_fits he h
  have hm : 0 ≤ m := by have := (alone_zero.1 hal).2; omega
  rw [pc_run ok h hp hm, ← cut_piece he] at hr
  injection hr with h1 h2
  have hn : (b - m).toNat = n := by omega
  refine ⟨(pcV (cutK l a e) (0, x, y) k n m).1, ?_, h1⟩
  refine over_ok (spot_yes cc fc) hal ?_
  rw [hn]
  have := pc_run okc fc ((pc_cut he).2 hp) hm
  unfold none4 at this
  rw [this, ← h2]

theorem over_fits {l : List Tk} (ck : checkT l = 0) {a e : Nat} (he : NearE l a e) {x y : Int} (h : Fits l ((a : Int), x, y)) {k m b : Int} {q : Pt} {f : Fs} (hq : overV (cutK l a e) (0, x, y) k m b = (q, f, 0)) : 0 ≤ q.1 ∧ q.1 ≤ 2001 := by
  have cc := cut_check ck (a := a) (e := e)
  obtain ⟨okc, hl⟩ := checkt_zero cc
  have fc := cut_fits he h
  have hs := spot_yes cc fc
  unfold overV at hq
  rw [if_pos hs] at hq
  by_cases hal : aloneV k m b = 0
  · rw [if_pos hal] at hq
    have e1 : (runK (cutK l a e) k (b - m).toNat m ((0, x, y), -1, -1, -1, -1)).1 = q := by injection hq
    have := runK_fits okc k (b - m).toNat m ((0, x, y), -1, -1, -1, -1) fc
    rw [e1] at this
    exact ⟨this.1, by have := this.2.1; omega⟩
  · rw [if_neg hal] at hq
    have e1 : aloneV k m b = 0 := by injection hq with _ hq; injection hq
    exact absurd e1 hal

end Go.Proofs.Ythiiipbfdgaemaa

/- A timeline along tasks in plain words, part three: numbers side by side (what is stripped), and visits. Conditions: none beyond each lemma's own premises. -/
namespace Go.Proofs.Ythiiipbfdgaemaa

/-! ### Numbers, one behind the other: neighbours of one sign as one -/

/-- One more number behind those that are there: it goes into the last one, where both have one sign. -/
def putN (out : List Int) (x : Int) : List Int :=
  match out.getLast? with
  | some y => if (y < 0 ↔ x < 0) then out.dropLast ++ [y + x] else out ++ [x]
  | none => out ++ [x]

theorem putN_nil (x : Int) : putN [] x = [x] := rfl
theorem putN_same (o : List Int) {y x : Int} (h : y < 0 ↔ x < 0) : putN (o ++ [y]) x = o ++ [y + x] := by
  unfold putN; simp [h]
theorem putN_other (o : List Int) {y x : Int} (h : ¬ (y < 0 ↔ x < 0)) : putN (o ++ [y]) x = o ++ [y] ++ [x] := by
  unfold putN; simp [h]

theorem putN_put (out : List Int) {x y : Int} (h : (x < 0 ∧ y < 0) ∨ (0 ≤ x ∧ 0 ≤ y)) : putN (putN out x) y = putN out (x + y) := by
  rcases List.eq_nil_or_concat out with rfl | ⟨o, z, rfl⟩
  · rw [putN_nil, putN_nil]
    exact putN_same [] (by omega)
  · simp only [List.concat_eq_append]
    by_cases hz : z < 0 ↔ x < 0
    · rw [putN_same o hz, putN_same o (by omega), putN_same o (by omega)]
      congr 2; omega
    · rw [putN_other o hz, putN_other o (by omega), putN_same (o ++ [z]) (by omega)]

/-- What a minute of the kind counts: 1 of Drive, -1 of Work, else nothing. -/
def dK (k : Int) : Int := if k = 3 then 1 else if k = 2 then -1 else 0

def putK (out : List Int) (x : Int) : List Int := if x = 0 then out else putN out x

/-- The minutes of Drive and Work alone, neighbours of one kind as one. -/
def stripK (ks : List Int) : List Int := ks.foldl (fun o k => putK o (dK k)) []

theorem fold_rep (k : Int) : ∀ (n : Nat) (out : List Int), (List.replicate n k).foldl (fun o k => putK o (dK k)) out = putK out (n * dK k)
  | 0, out => by simp [putK]
  | n + 1, out => by
    rw [List.replicate_succ', List.foldl_append, fold_rep k n out]
    simp only [List.foldl_cons, List.foldl_nil]
    by_cases h : dK k = 0
    · rw [h]; simp [putK]
    · have h1 : dK k = 1 ∨ dK k = -1 := by
        unfold dK at h ⊢
        repeat' split
        all_goals first | (left; rfl) | (right; rfl) | (exfalso; simp_all)
      by_cases hn : n = 0
      · subst hn
        unfold putK
        rw [if_neg h]
        simp [h]
      · unfold putK
        rcases h1 with e | e
        · have e2 : ((n + 1 : Nat) : Int) * 1 = (n : Int) * 1 + 1 := by omega
          rw [e, if_neg (by omega), if_neg (by omega), if_neg (by omega), putN_put _ (by omega), e2]
        · have e2 : ((n + 1 : Nat) : Int) * -1 = (n : Int) * -1 + -1 := by omega
          rw [e, if_neg (by omega), if_neg (by omega), if_neg (by omega), putN_put _ (by omega), e2]

/-- What Strip tells, record by record. -/
def stripR (l : List Rc) : List Int := l.foldl (fun o r => putK o ((r.2.2 - r.2.1) * dK r.1)) []

theorem strip_kinds {l : List Rc} {e : Int} (h : Tl e l) : stripK (kindsV l) = stripR l := by
  have go : ∀ (l : List Rc) (e : Int), Tl e l → ∀ out, (kindsV l).foldl (fun o k => putK o (dK k)) out = l.foldl (fun o r => putK o ((r.2.2 - r.2.1) * dK r.1)) out := by
    intro l
    induction l with
    | nil => intro e _ out; rfl
    | cons r l ih =>
      intro e h out
      obtain ⟨⟨h1, h2⟩, h3, h4⟩ := h
      rw [kinds_cons, List.foldl_append, fold_rep]
      have e1 : (((r.2.2 - r.2.1).toNat : Nat) : Int) = r.2.2 - r.2.1 := by omega
      rw [e1]
      exact ih _ h4 _
  exact go l e h []

theorem stripR_more {l : List Rc} {k : Nat} {x y z : Int} (h : k < l.length) (hr : l.getD k rz = (x, y, z)) : stripR (l.take (k + 1)) = putK (stripR (l.take k)) ((z - y) * dK x) := by
  have e : l[k]? = some (x, y, z) := by
    rw [List.getElem?_eq_getElem h]
    rw [List.getD_eq_getElem?_getD, List.getElem?_eq_getElem h] at hr
    simpa using hr
  rw [List.take_add_one, e]
  simp [stripR]

theorem stripK_more {ks : List Int} {k : Nat} {x : Int} (hx : ks[k]? = some x) : stripK (ks.take (k + 1)) = putK (stripK (ks.take k)) (dK x) := by
  rw [List.take_add_one, hx]
  simp [stripK]

/-- None of them is 0, and together they are not too many. -/
def NzN (l : List Int) (b : Int) : Prop := (∀ x ∈ l, x ≠ 0 ∧ -b ≤ x ∧ x ≤ b)

theorem putN_nz {l : List Int} {x b d : Int} (h : NzN l b) (hx : x ≠ 0) (hd : -d ≤ x ∧ x ≤ d) (hb : 0 ≤ b) : NzN (putN l x) (b + d) := by
  rcases List.eq_nil_or_concat l with rfl | ⟨o, z, rfl⟩
  · rw [putN_nil]
    intro y hy
    rw [List.mem_singleton] at hy
    subst hy
    exact ⟨hx, by omega, by omega⟩
  · simp only [List.concat_eq_append] at h ⊢
    have hz := h z (by simp)
    have ho : ∀ y ∈ o, y ≠ 0 ∧ -(b + d) ≤ y ∧ y ≤ b + d := fun y hy => by
      have := h y (by simp [hy]); exact ⟨this.1, by omega, by omega⟩
    by_cases hs : z < 0 ↔ x < 0
    · rw [putN_same o hs]
      intro y hy
      rcases List.mem_append.1 hy with hy | hy
      · exact ho y hy
      · rw [List.mem_singleton] at hy; subst hy; exact ⟨by omega, by omega, by omega⟩
    · rw [putN_other o hs]
      intro y hy
      rcases List.mem_append.1 hy with hy | hy
      · rcases List.mem_append.1 hy with hy | hy
        · exact ho y hy
        · rw [List.mem_singleton] at hy; subst hy; exact ⟨hz.1, by omega, by omega⟩
      · rw [List.mem_singleton] at hy; subst hy; exact ⟨hx, by omega, by omega⟩

theorem putN_len (l : List Int) (x : Int) : (putN l x).length ≤ l.length + 1 := by
  rcases List.eq_nil_or_concat l with rfl | ⟨o, z, rfl⟩
  · rw [putN_nil]; simp
  · simp only [List.concat_eq_append]
    by_cases hs : z < 0 ↔ x < 0
    · rw [putN_same o hs]; simp
    · rw [putN_other o hs]; simp

theorem putK_len (l : List Int) (x : Int) : (putK l x).length ≤ l.length + 1 := by
  unfold putK; split
  · omega
  · exact putN_len l x

theorem stripK_len (ks : List Int) : (stripK ks).length ≤ ks.length := by
  have go : ∀ (ks : List Int) (o : List Int), (ks.foldl (fun o k => putK o (dK k)) o).length ≤ o.length + ks.length := by
    intro ks
    induction ks with
    | nil => intro o; simp
    | cons k ks ih =>
      intro o
      have h1 := ih (putK o (dK k))
      have h2 := putK_len o (dK k)
      simp only [List.foldl_cons, List.length_cons]
      omega
  have := go ks []
  simpa [stripK] using this

theorem stripK_nz (ks : List Int) : NzN (stripK ks) ks.length := by
  have go : ∀ (ks : List Int) (o : List Int) (b : Int), 0 ≤ b → NzN o b → NzN (ks.foldl (fun o k => putK o (dK k)) o) (b + ks.length) := by
    intro ks
    induction ks with
    | nil => intro o b _ h; simpa using h
    | cons k ks ih =>
      intro o b hb h
      have h1 : NzN (putK o (dK k)) (b + 1) := by
        unfold putK
        split
        · intro y hy; have := h y hy; exact ⟨this.1, by omega, by omega⟩
        · rename_i c
          refine putN_nz h c ?_ hb
          unfold dK; repeat' split
          all_goals omega
      have h2 := ih (putK o (dK k)) (b + 1) (by omega) h1
      have e : b + ((k :: ks).length : Int) = b + 1 + ks.length := by simp; omega
      rw [e]
      exact h2
  have := go ks [] 0 (Int.le_refl _) (fun y hy => by cases hy)
  simpa [stripK] using this

theorem stripR_nz {l : List Rc} {e : Int} (h : Tl e l) (k : Nat) : NzN (stripR (l.take k)) 40320 ∧ (stripR (l.take k)).length ≤ 40320 := by
  have ht : ∀ (l : List Rc) (k : Nat) (e : Int), Tl e l → Tl e (l.take k) := by
    intro l
    induction l with
    | nil => intro k e _; simp [Tl]
    | cons r l ih =>
      intro k e h
      cases k with
      | zero => trivial
      | succ k => exact ⟨h.1, h.2.1, ih k _ h.2.2⟩
  have h1 := ht l k e h
  rw [← strip_kinds h1]
  have h2 := h1.short
  refine ⟨fun y hy => ?_, by have := stripK_len (kindsV (l.take k)); omega⟩
  have := stripK_nz (kindsV (l.take k)) y hy
  exact ⟨this.1, by omega, by omega⟩

/-! ### Visits, minute by minute -/

/-- A visit: its task, its first minute, the one behind its last one. -/
abbrev Vt := Int × Int × Int

/-- One minute: the spot, with which minute the service that goes on began (-1: ahead of the timeline), the visits. -/
def visT (l : List Tk) (k m : Int) (st : Pt × Int × List Vt) : Pt × Int × List Vt :=
  if k = 2 ∧ CanW l st.1 then
    (stepT l st.1 k,
      (if st.1.1 < (stepT l st.1 k).1 then -1 else if st.1.2.2 = 0 then m else st.2.1),
      (if st.1.1 < (stepT l st.1 k).1 ∧ 0 ≤ (if st.1.2.2 = 0 then m else st.2.1) then st.2.2 ++ [(st.1.1, (if st.1.2.2 = 0 then m else st.2.1), m + 1)] else st.2.2))
  else (stepT l st.1 k, st.2.1, st.2.2)

def visS (l : List Tk) : List Int → Int → Pt × Int × List Vt → Pt × Int × List Vt
  | [], _, st => st
  | k :: ks, m, st => visS l ks (m + 1) (visT l k m st)

theorem visS_append (l : List Tk) : ∀ (a b : List Int) (m : Int) (st : Pt × Int × List Vt), visS l (a ++ b) m st = visS l b (m + a.length) (visS l a m st)
  | [], b, m, st => by simp [visS]
  | k :: a, b, m, st => by
    show visS l (a ++ b) (m + 1) (visT l k m st) = visS l b (m + (k :: a).length) (visS l a (m + 1) (visT l k m st))
    rw [visS_append l a b]
    congr 1
    simp; omega

theorem vis_spot (l : List Tk) : ∀ (ks : List Int) (m : Int) (s : Pt) (b : Int) (o : List Vt) (F : Fs), (visS l ks m (s, b, o)).1 = (runS l ks m (s, F)).1
  | [], _, _, _, _, _ => rfl
  | k :: ks, m, s, b, o, F => by
    have e : visT l k m (s, b, o) = (stepT l s k, (visT l k m (s, b, o)).2.1, (visT l k m (s, b, o)).2.2) := by
      unfold visT; split <;> rfl
    show (visS l ks (m + 1) (visT l k m (s, b, o))).1 = (runS l ks (m + 1) (minT l k m (s, F))).1
    rw [e]
    exact vis_spot l ks (m + 1) (stepT l s k) _ _ _

/-- Minutes that are no service. -/
theorem vis_other {l : List Tk} {k : Int} (hk : k ≠ 2) : ∀ (n : Nat) (m : Int) (s : Pt) (b : Int) (o : List Vt) (F : Fs), visS l (List.replicate n k) m (s, b, o) = ((runK l k n m (s, F)).1, b, o)
  | 0, _, _, _, _, _ => rfl
  | n + 1, m, s, b, o, F => by
    rw [List.replicate_succ]
    show visS l (List.replicate n k) (m + 1) (visT l k m (s, b, o)) = ((runK l k n (m + 1) (minT l k m (s, F))).1, b, o)
    have e : visT l k m (s, b, o) = (stepT l s k, b, o) := by unfold visT; rw [if_neg (fun c => hk c.1)]
    rw [e]
    exact vis_other hk n (m + 1) (stepT l s k) b o _

theorem vis_nowork {l : List Tk} {s : Pt} (h : Fits l s) (hw : ¬ CanW l s) : ∀ (n : Nat) (m : Int) (b : Int) (o : List Vt), visS l (List.replicate n 2) m (s, b, o) = (s, b, o)
  | 0, _, _, _ => rfl
  | n + 1, m, b, o => by
    rw [List.replicate_succ]
    show visS l (List.replicate n 2) (m + 1) (visT l 2 m (s, b, o)) = (s, b, o)
    have e : visT l 2 m (s, b, o) = (s, b, o) := by
      unfold visT
      rw [if_neg (fun c => hw c.2)]
      simp only
      rw [step_still h (fun c => absurd c.1 (by decide)) (fun c => hw c.2)]
    rw [e]
    exact vis_nowork h hw n (m + 1) b o

theorem past_more {l : List Tk} : ∀ (n : Nat) (s : Pt), s.1 ≤ (pastN l n s).1
  | 0, _ => Int.le_refl _
  | n + 1, s => by
    unfold pastN
    split
    · have := past_more (l := l) n (s.1 + 1, 0, 0)
      simp only at this
      omega
    · exact Int.le_refl _

theorem pastT_full {l : List Tk} {s : Pt} (h : Full l s) : s.1 < (pastT l s).1 := by
  rw [pastT_move h]
  have := past_more (l := l) ((l.length : Int) - (s.1 + 1)).toNat (s.1 + 1, 0, 0)
  unfold pastT
  simp only at this ⊢
  omega

/-- Minutes of a service, up to its end at most. -/
theorem vis_work {l : List Tk} (ok : ∀ t ∈ l, TkOk t) : ∀ (n : Nat) {s : Pt} (_ : Fits l s) (_ : CanW l s) (m b : Int) (o : List Vt), (n : Int) + 1 ≤ (tk l s.1).2.1 - s.2.2 →
    visS l (List.replicate (n + 1) 2) m (s, b, o) = (pastT l (s.1, s.2.1, s.2.2 + (n + 1)),
      (if s.2.2 + (n + 1) = (tk l s.1).2.1 then -1 else if s.2.2 = 0 then m else b),
      (if s.2.2 + (n + 1) = (tk l s.1).2.1 ∧ 0 ≤ (if s.2.2 = 0 then m else b) then o ++ [(s.1, (if s.2.2 = 0 then m else b), m + (n + 1))] else o))
  | n, s, h, hw, m, b, o, hn => by
    have e2 : stepT l s 2 = pastT l (s.1, s.2.1, s.2.2 + 1) := by
      unfold stepT goT; rw [if_neg (fun c => absurd c.1 (by decide)), if_pos ⟨rfl, hw⟩]
    have hs := (h.2.2.2 hw.1).2.2.1
    have hT : ∀ b o, visT l 2 m (s, b, o) = (pastT l (s.1, s.2.1, s.2.2 + 1), (if s.1 < (pastT l (s.1, s.2.1, s.2.2 + 1)).1 then -1 else if s.2.2 = 0 then m else b),
        (if s.1 < (pastT l (s.1, s.2.1, s.2.2 + 1)).1 ∧ 0 ≤ (if s.2.2 = 0 then m else b) then o ++ [(s.1, (if s.2.2 = 0 then m else b), m + 1)] else o)) := fun b o => by
      unfold visT
      simp only
      rw [if_pos ⟨trivial, hw⟩, e2]
    match n, hn with
    | 0, hn =>
      show visT l 2 m (s, b, o) = _
      rw [hT]
      by_cases hf : s.2.2 + 1 = (tk l s.1).2.1
      · have hF : Full l (s.1, s.2.1, s.2.2 + 1) := ⟨hw.1, hw.2.1, hf⟩
        have h1 := pastT_full hF
        simp only [hf] at h1
        simp [hf, h1]
      · have hF : ¬ Full l (s.1, s.2.1, s.2.2 + 1) := fun c => hf c.2.2
        rw [pastT_still hF]
        simp [hf, pastT_still hF]
    | n + 1, hn =>
      have hnf : ¬ Full l (s.1, s.2.1, s.2.2 + 1) := fun c => by have := c.2.2; simp only at this; omega
      have hfit := step_fits ok h 2
      rw [e2, pastT_still hnf] at hfit
      have ih := vis_work ok n (s := (s.1, s.2.1, s.2.2 + 1)) hfit ⟨hw.1, hw.2.1, by simp only; omega⟩ (m + 1) (if s.2.2 = 0 then m else b) o (by simp only; omega)
      rw [List.replicate_succ]
      show visS l (List.replicate (n + 1) 2) (m + 1) (visT l 2 m (s, b, o)) = _
      rw [hT, pastT_still hnf]
      simp only [Int.lt_irrefl, if_false, false_and]
      rw [ih]
      have q1 : ¬ (s.2.2 + 1 = 0) := by omega
      have q2 : s.2.2 + 1 + ((n : Int) + 1) = s.2.2 + (((n + 1 : Nat) : Int) + 1) := by push_cast; omega
      have q3 : m + 1 + ((n : Int) + 1) = m + (((n + 1 : Nat) : Int) + 1) := by push_cast; omega
      simp only [q1, if_false]
      rw [q2, q3]

end Go.Proofs.Ythiiipbfdgaemaa
