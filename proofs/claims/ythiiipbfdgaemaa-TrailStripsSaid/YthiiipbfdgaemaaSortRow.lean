/- A row of findings that may be written: read, stored into, cut and cleared behind; the library's SortFunc and Clone of findings. Conditions: as each theorem says. -/
import Derived.Test.YthiiipbfdgaemaaRows
import Derived.Test.YthiiipbfdgaemaaZ1
import Derived.Test.YthiiipbfdgaemaaZ2
import Derived.Test.YthiiipbfdgaemaaSortOrder
import Derived.Test.YthiiipbfdgaemaaSort
import Derived.WalkKit
import Derived.WalkSpells
import Derived.WalkSmall
import Derived.Below
import Derived.Lib.Hide
import Derived.Lib.SliceRun
import Derived.Lib.LazyBuf
import Derived.Sort.Grow
import Derived.Laws.AppendOwnNone
namespace Go.Proofs.Ythiiipbfdgaemaa
open Go.RowKit

/-- The findings d lie at block g's begin, and may be written. -/
structure RwA (w : World) (g : Nat) (d : Array Rc) : Prop where
  lt : g < w.heap.size
  cell : ∀ j, j < d.size → w.cell? ⟨g, j * 3, none⟩ = some (.int .i64 d[j]!.1) ∧ w.cell? ⟨g, j * 3 + 1, none⟩ = some (.int .i64 d[j]!.2.1) ∧ w.cell? ⟨g, j * 3 + 2, none⟩ = some (.int .i64 d[j]!.2.2)
  free : ∀ j, j < d.size * 3 → w.frozen? ⟨g, j, none⟩ = false

theorem RwA.below {w w' : World} {g : Nat} {d : Array Rc} (h : RwA w g d) (hb : Below w.heap.size w w') : RwA w' g d :=
  ⟨Nat.lt_of_lt_of_le h.lt hb.size, fun j hj => ⟨c_cl (h.cell j hj).1 hb, c_cl (h.cell j hj).2.1 hb, c_cl (h.cell j hj).2.2 hb⟩, fun j hj => by rw [hb.frozen (p := ⟨g, j, none⟩) h.lt]; exact h.free j hj⟩

theorem arr_getD (d : Array Rc) (j : Nat) (h : j < d.size) : d.toList.getD j rz = d[j]! := by
  rw [getElem!_pos d j h]
  simp [List.getD, h]

theorem RwA.rd {w : World} {g : Nat} {d : Array Rc} (h : RwA w g d) : RdF w (some ⟨g, 0, none⟩) d.toList := fun _ => ⟨g, 0, rfl, h.lt, fun k hk => by
  have hk' : k < d.size := by simpa using hk
  rw [arr_getD d k hk', Nat.zero_add]
  exact h.cell k hk'⟩

theorem RwA.of_own {base : Nat} {w : World} {g n c : Nat} {l : List Rc} (h : OwnF base w (.slice (some ⟨g, 0, none⟩) n c) l) : RwA w g l.toArray := by
  have hlt := World.ownsRow.lt h g rfl
  refine ⟨hlt.2, fun j hj => ?_, fun j _ => (h.some_).2.2 j⟩
  have hj' : j < l.length := by simpa using hj
  obtain ⟨b, off, hA, _, hc⟩ := h.rd (nonnil hj')
  injection hA with hA
  simp only [Addr.mk.injEq, and_true] at hA
  obtain ⟨rfl, rfl⟩ := hA
  have := hc j hj'
  rw [Nat.zero_add] at this
  have e : l.getD j rz = l.toArray[j]! := by rw [← arr_getD l.toArray j hj]
  rw [e] at this
  exact this

def encF (s : Rc) : List Value := [.int .i64 s.1, .int .i64 s.2.1, .int .i64 s.2.2]

theorem RwA.holds {w : World} {g : Nat} {d : Array Rc} (h : RwA w g d) : Go.Sort.HoldsK encF 3 w g 0 d := by
  intro t ht
  have ht : t < d.size * 3 := by simpa using ht
  rw [Nat.zero_add, Go.Sort.get_flatK _ _ _ _ ht]
  refine ⟨?_, h.free t ht⟩
  have hk : t / 3 < d.size := by omega
  have hc := h.cell (t / 3) hk
  have : t % 3 = 0 ∨ t % 3 = 1 ∨ t % 3 = 2 := by omega
  rcases this with hm | hm | hm
  · rw [hm]
    conv => lhs; rw [show t = t / 3 * 3 by omega]
    exact hc.1
  · rw [hm]
    conv => lhs; rw [show t = t / 3 * 3 + 1 by omega]
    exact hc.2.1
  · rw [hm]
    conv => lhs; rw [show t = t / 3 * 3 + 2 by omega]
    exact hc.2.2

theorem RwA.of_holds {w : World} {g : Nat} {d : Array Rc} (hg : g < w.heap.size) (h : Go.Sort.HoldsK encF 3 w g 0 d) : RwA w g d := by
  refine ⟨hg, fun j hj => ?_, fun j hj => ?_⟩
  · have c0 := (h.cell (c := 0) hj (by omega)).1
    have c1 := (h.cell (c := 1) hj (by omega)).1
    have c2 := (h.cell (c := 2) hj (by omega)).1
    rw [Nat.zero_add] at c0 c1 c2
    exact ⟨c0, c1, c2⟩
  · have := (h j (by simpa using hj)).2
    rwa [Nat.zero_add] at this

/-! ### A store, a clear -/

theorem RwA.stored {w : World} {g : Nat} {d : Array Rc} (h : RwA w g d) {k : Nat} (hk : k < d.size) (s : Rc) : RwA (w.setCells g (k * 3) (encF s)) g (d.setIfInBounds k s) := by
  have hin := World.cell?_setCells_in g (encF s) (k * 3) w (fun j hj => by
    have hc := h.cell k hk
    have hj3 : j < 3 := hj
    have : j = 0 ∨ j = 1 ∨ j = 2 := by omega
    rcases this with rfl | rfl | rfl
    · rw [Nat.add_zero, hc.1]; rfl
    · rw [hc.2.1]; rfl
    · rw [hc.2.2]; rfl)
  refine ⟨by rw [Go.Sort.size_setCells]; exact h.lt, fun j hj => ?_, fun j hj => ?_⟩
  · have hj' : j < d.size := by simpa using hj
    by_cases e : j = k
    · subst e
      rw [Go.Sort.getElem!_set_same d j s hk]
      refine ⟨?_, ?_, ?_⟩
      · have := hin 0 (by show 0 < 3; omega); exact this
      · have := hin 1 (by show 1 < 3; omega); exact this
      · have := hin 2 (by show 2 < 3; omega); exact this
    · rw [Go.Sort.getElem!_set_other d k j s e]
      have out : ∀ r, r < 3 → (w.setCells g (k * 3) (encF s)).cell? ⟨g, j * 3 + r, none⟩ = w.cell? ⟨g, j * 3 + r, none⟩ := fun r hr =>
        World.cell?_setCells_out g (encF s) (k * 3) w ⟨g, j * 3 + r, none⟩ (fun _ _ => by
          show j * 3 + r < k * 3 ∨ k * 3 + 3 ≤ j * 3 + r
          omega)
      have hc := h.cell j hj'
      refine ⟨?_, ?_, ?_⟩
      · have := out 0 (by omega); rw [Nat.add_zero] at this; rw [this]; exact hc.1
      · rw [out 1 (by omega)]; exact hc.2.1
      · rw [out 2 (by omega)]; exact hc.2.2
  · rw [World.frozen?_setCells]
    exact h.free j (by simpa using hj)

theorem below_cells {g k n : Nat} {w : World} {vs : List Value} (hn : n ≤ g) : Below n w (w.setCells g k vs) := Go.below_setCells hn vs k w (Below.refl _ _)

theorem size_find : (Try.prog.info? 62).map (·.size) = some 3 := by kernel_rfl

theorem run_store3 {w : World} {g : Nat} {d : Array Rc} (h : RwA w g d) {k : Nat} (hk : k < d.size) (s : Rc) : (storeVar 62 ⟨g, k * 3, none⟩ (.agg (encF s).toArray)).run Try.prog w = .ok () (w.setCells g (k * 3) (encF s)) := by
  have hr := run_storeCells_cells (P := Try.prog) g (k * 3) (encF s) 0 w (fun j hj => by
      have hc := h.cell k hk
      have hj3 : j < 3 := hj
      rw [Nat.add_zero]
      have : j = 0 ∨ j = 1 ∨ j = 2 := by omega
      rcases this with rfl | rfl | rfl
      · rw [Nat.add_zero, hc.1]; rfl
      · rw [hc.2.1]; rfl
      · rw [hc.2.2]; rfl) (fun j hj => by
      have hj3 : j < 3 := hj
      rw [Nat.add_zero]
      exact h.free _ (by omega)) (fun v hv => by simp [encF] at hv; rcases hv with rfl | rfl | rfl <;> rfl)
  rw [Nat.add_zero] at hr
  cases hq : Try.prog.info? 62 with
  | none => have := size_find; simp [hq] at this
  | some i =>
    have hs : i.size = 3 := by have := size_find; simpa [hq] using this
    simp [storeVar, sizeOf, typeInfo, hq, hs, encF]
    exact hr

/-- A finding is stored into the row. -/
theorem wpList_store3 {ops : Array Oper} {rest : List Oper} {o : Oper} {a : Act} {w : World} {Q : Exit → Act → World → Prop} (hgd : Region.wanted o (yielded ops a.tmps) = true) (x y : Operand) (ho : o.op = .store 62 x y)
    (g k : Nat) (s : Rc) (d : Array Rc) (hx : a.eval x = .pointer (some ⟨g, k * 3, none⟩)) (hy : a.eval y = .agg #[.int .i64 s.1, .int .i64 s.2.1, .int .i64 s.2.2]) (hr : RwA w g d) (hk : k < d.size)
    (h : ∀ W', RwA W' g (d.setIfInBounds k s) → (∀ n, n ≤ g → Below n w W') → wpList Try.prog ops Q rest (a.put o.dst undef) W') : wpList Try.prog ops Q (o :: rest) a w :=
  wpList_step fun K hK => by
    rw [if_pos hgd]
    unfold Oper.wp execOp
    have hs := run_store3 hr hk s
    have hy' : a.eval y = .agg (encF s).toArray := hy
    simp only [ho, hx, hy', Instr.storeAt, Instr.sureAddr, Sem.run_bind, Sem.run_pure, Result.andThen_ok, hs]
    exact hK _ _ (h _ (hr.stored hk s) (fun n hn => below_cells hn))

/-- What lies behind the first k is cleared. -/
theorem run_clear3 {w : World} {g : Nat} {d : Array Rc} (h : RwA w g d) {k m c : Nat} (hk : k + (m + 1) = d.size) :
    ∃ W', (∀ ty, (Builtin.clear_ #[28] ty #[.slice (some ⟨g, k * 3, none⟩) (m + 1) c]).run Try.prog w = .ok (.tuple #[]) W') ∧ RwA W' g (d.toList.take k).toArray ∧ ∀ n, n ≤ g → Below n w W' := by
  obtain ⟨L, hL⟩ : ∃ L, (Builtin.zeroCells (Value.agg #[.int .i64 0, .int .i64 0, .int .i64 0]).cells (m + 1)).toList = L := ⟨_, rfl⟩
  have hlen : L.length = (m + 1) * 3 := by
    rw [← hL, Array.length_toList, size_zeroCells]; rfl
  have hone : ∀ v ∈ L, v.oneCell' = true := by
    intro v hv
    rw [← hL] at hv
    simp only [Builtin.zeroCells, Array.toList_map, List.mem_map] at hv
    obtain ⟨i, _, rfl⟩ := hv
    have h3 : i % 3 = 0 ∨ i % 3 = 1 ∨ i % 3 = 2 := by omega
    show ((#[.int .i64 0, .int .i64 0, .int .i64 0] : Array Value)[i % 3]!).oneCell' = true
    rcases h3 with e | e | e <;> rw [e] <;> rfl
  have hr := run_storeCells_cells (P := Try.prog) g (k * 3) L 0 w (fun j hj => by
      rw [Nat.add_zero]
      have hq : k + j / 3 < d.size := by omega
      have hc := h.cell (k + j / 3) hq
      have h3 : j % 3 = 0 ∨ j % 3 = 1 ∨ j % 3 = 2 := by omega
      rcases h3 with e | e | e
      · rw [show k * 3 + j = (k + j / 3) * 3 by omega, hc.1]; rfl
      · rw [show k * 3 + j = (k + j / 3) * 3 + 1 by omega, hc.2.1]; rfl
      · rw [show k * 3 + j = (k + j / 3) * 3 + 2 by omega, hc.2.2]; rfl) (fun j hj => by
      rw [Nat.add_zero]
      exact h.free _ (by omega)) hone
  rw [Nat.add_zero] at hr
  refine ⟨w.setCells g (k * 3) L, fun ty => ?_, ⟨by rw [Go.Sort.size_setCells]; exact h.lt, fun j hj => ?_, fun j hj => ?_⟩, fun n hn => below_cells hn⟩
  · simp [Builtin.clear_, run_underlying Try.underlying28, hL, hr]
  · have hj2 : j < k := by simp at hj; omega
    have hjd : j < d.size := by omega
    have e : (d.toList.take k).toArray[j]! = d[j]! := by
      rw [getElem!_pos _ j hj, getElem!_pos d j hjd]
      simp
    rw [e]
    have hc := h.cell j hjd
    have out : ∀ r, r < 3 → (w.setCells g (k * 3) L).cell? ⟨g, j * 3 + r, none⟩ = w.cell? ⟨g, j * 3 + r, none⟩ := fun r hr =>
      World.cell?_setCells_out g L (k * 3) w ⟨g, j * 3 + r, none⟩ (fun _ _ => by
        show j * 3 + r < k * 3 ∨ k * 3 + L.length ≤ j * 3 + r
        omega)
    refine ⟨?_, ?_, ?_⟩
    · have := out 0 (by omega); rw [Nat.add_zero] at this; rw [this]; exact hc.1
    · rw [out 1 (by omega)]; exact hc.2.1
    · rw [out 2 (by omega)]; exact hc.2.2
  · rw [World.frozen?_setCells]
    refine h.free j ?_
    simp at hj
    omega

/-! ### The library's SortFunc -/

theorem sort_belowF {base g n : Nat} {d : Array Rc} {os : Array Obj} {w : World} (hb : base ≤ g) (hw : base ≤ w.heap.size) : Below base w (sortWorldK encF 3 w g 0 n d os) := by
  refine ⟨rfl, rfl, rfl, size_sortWorldK_c encF 3 w g 0 n d os, fun k hk => ?_⟩
  unfold sortWorldK
  rw [Go.Sort.heap_grow_old _ _ (by rw [Go.Sort.size_putRowK]; show k < w.heap.size; omega)]
  show (w.heap.modify g _)[k]? = _
  rw [Array.getElem?_modify, if_neg (by omega)]

theorem swoF : Go.Sort.SWO (ltOf ordF) where
  irrefl x := by unfold ltOf; rw [decide_eq_false]; rw [ordF_neg]; exact ltF_irr x
  trans x y z h1 h2 := by
    unfold ltOf at *
    rw [decide_eq_true_eq, ordF_neg] at *
    exact ltF_tr h1 h2
  ntrans x y z h1 h2 := by
    unfold ltOf at *
    rw [decide_eq_false_iff_not, ordF_neg] at *
    exact ltF_nt h1 h2

theorem cmpF (blk off size : Nat) (w : World) : CmpLays Try.prog 42 #[] encF 3 ordF blk off size w :=
  fun _ _ _ _ x y => order_gr x.1 x.2.1 x.2.2 y.1 y.2.1 y.2.2 _

set_option maxHeartbeats 1000000 in
theorem sortF_any (base g c n : Nat) (d : Array Rc) (w : World) (hd : d.size = n) (h : RwA w g d) (hg : base ≤ g) (hl : n ≤ 4611686018427387903) :
    Calls Try.prog 41 #[.slice (some ⟨g, 0, none⟩) n c, .func (.func 42) #[] #[]] w fun e w' =>
      e = .returned (.tuple #[]) ∧ ∃ d2 : Array Rc, d2.size = n ∧ d2.toList.Perm d.toList ∧ (∀ i j : Nat, i < j → j < d2.size → ¬ ltF d2[j]! d2[i]!) ∧ RwA w' g d2 ∧ Below base w w' := by
  subst hd
  have eg : ∀ args w, (callFunc 42 args).run Try.prog w = .ok (.enter 42 args) w := enters_of Try.func42 (by kernel_rfl) rfl
  have hcon := AnyQ.slices_SortFunc sortL 3 Try.isAgg62 Try.sizeOf62 encF (fun _ => rfl) (fun x v hv => by simp [encF] at hv; rcases hv with rfl | rfl | rfl <;> rfl) ordF swoF 42 #[] g 0 c d w eg (cmpF g 0 _ w) h.holds h.lt (by omega)
  refine hcon.mono fun e w' ⟨he, d2, n, os, hp, hs, hw⟩ => ⟨he, d2, hp.1, ?_, ?_, ?_, ?_⟩
  · have h2 := hp.2.2
    have hsz := hp.1
    rw [Array.extract_eq_self_of_le (by omega), Array.extract_eq_self_of_le (by simp)] at h2
    exact h2
  · intro i j hij hj
    have hsz := hp.1
    have h3 := hs i j (Nat.zero_le _) hij (by omega)
    unfold ltOf at h3
    rw [decide_eq_false_iff_not, ordF_neg] at h3
    exact h3
  · have hh := holdsK_sortWorldK_c encF 3 w g 0 d d2 n os h.holds h.lt hp.1
    rw [hw]
    exact RwA.of_holds (Nat.lt_of_lt_of_le h.lt (size_sortWorldK_c encF 3 w g 0 n d2 os)) hh
  · rw [hw]; exact sort_belowF hg (Nat.le_of_lt (Nat.lt_of_le_of_lt hg h.lt))

end Go.Proofs.Ythiiipbfdgaemaa
