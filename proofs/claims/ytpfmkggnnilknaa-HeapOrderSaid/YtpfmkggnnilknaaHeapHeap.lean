/- The pile of a heap in memory: its box, its row; what a call leaves that turns both. Conditions: none beyond each lemma's own premises. -/
import Derived.Test.YtpfmkggnnilknaaRows
import Derived.Test.YtpfmkggnnilknaaBase
import Derived.Test.YtpfmkggnnilknaaRow
import Derived.Test.YtpfmkggnnilknaaRecMath
import Derived.Test.YtpfmkggnnilknaaBox
import Derived.Test.YtpfmkggnnilknaaChg
import Derived.Test.YtpfmkggnnilknaaFindHeap
import Derived.Test.YtpfmkggnnilknaaRowBlock
import Derived.Test.YtpfmkggnnilknaaTriHeap
import Derived.Test.YtpfmkggnnilknaaHeapMath
import Derived.Laws.AppendOwn
import Derived.Below
namespace Go.Proofs.Ytpfmkggnnilknaa
open Go.RowKit

/-! ### A row of triples at a block that is known -/

theorem OwnT.cur {T : TypeId} {base b n c : Nat} {w : World} {l : List Rc} (h : OwnT T base w (.slice (some ⟨b, 0, none⟩) n c) l) :
    ∃ cur, base ≤ b ∧ Bx w b T cur ∧ n ≤ c ∧ c ≤ maxLen ∧ cur.size = c * 3 ∧ l.length = n ∧ cur.toList.take (n * 3) = flatF l := by
  rcases h.2 with ⟨h', _⟩ | ⟨g, cap, cur, h', hb, hg, h1, h2, h3, h4⟩
  · simp at h'
  · simp only [Value.slice.injEq, Option.some.injEq, Addr.mk.injEq, and_true] at h'
    obtain ⟨rfl, rfl, rfl⟩ := h'
    exact ⟨cur, hb, hg, h1, h2, h3, rfl, h4⟩

theorem OwnT.of_cur {T : TypeId} {base b n c : Nat} {w : World} {l : List Rc} {cur : Array Value} (hb : base ≤ b) (hg : Bx w b T cur) (h1 : n ≤ c) (h2 : c ≤ maxLen) (h3 : cur.size = c * 3) (hl : l.length = n) (h4 : cur.toList.take (n * 3) = flatF l) :
    OwnT T base w (.slice (some ⟨b, 0, none⟩) n c) l := by
  subst hl
  exact ⟨flatF_len l, .inr ⟨b, c, cur, rfl, hb, hg, h1, h2, h3, h4⟩⟩

theorem flatF_take (l : List Rc) (k : Nat) : flatF (l.take k) = (flatF l).take (k * 3) := by
  induction l generalizing k with
  | nil => simp [flatF]
  | cons s l ih =>
    cases k with
    | zero => simp [flatF]
    | succ k =>
      have e : (k + 1) * 3 = k * 3 + 1 + 1 + 1 := by omega
      rw [List.take_succ_cons, flatF_cons, flatF_cons, e, ih]
      simp

theorem flatF_drop (l : List Rc) (k : Nat) : flatF (l.drop k) = (flatF l).drop (k * 3) := by
  induction l generalizing k with
  | nil => simp [flatF]
  | cons s l ih =>
    cases k with
    | zero => simp
    | succ k =>
      have e : (k + 1) * 3 = k * 3 + 1 + 1 + 1 := by omega
      rw [List.drop_succ_cons, flatF_cons, e, ih]
      simp

theorem flatF_set3 (l : List Rc) {k : Nat} (hk : k < l.length) (x : Rc) : (flatF l).take (k * 3) ++ [Value.int .i64 x.1, .int .i64 x.2.1, .int .i64 x.2.2] ++ (flatF l).drop (k * 3 + 3) = flatF (l.set k x) := by
  have e : k * 3 + 3 = (k + 1) * 3 := by omega
  rw [e, ← flatF_take, ← flatF_drop, List.set_eq_take_append_cons_drop, if_pos hk, flatF_append, flatF_cons]
  simp

/-- The row's cells with a triple at k. -/
def put3 (cur : Array Value) (k : Nat) (x : Rc) : Array Value := (cur.toList.take (k * 3) ++ [Value.int .i64 x.1, .int .i64 x.2.1, .int .i64 x.2.2] ++ cur.toList.drop (k * 3 + 3)).toArray

theorem put3_size {cur : Array Value} {k : Nat} (x : Rc) (h : k * 3 + 3 ≤ cur.size) : (put3 cur k x).size = cur.size := by
  unfold put3
  simp
  omega

theorem put3_take {cur : Array Value} {k n : Nat} {l : List Rc} (x : Rc) (h : n * 3 ≤ cur.size) (hk : k < n) (hl : l.length = n) (e : cur.toList.take (n * 3) = flatF l) : (put3 cur k x).toList.take (n * 3) = flatF (l.set k x) := by
  have hk' : k < l.length := by omega
  rw [← flatF_set3 l hk' x, ← e]
  unfold put3
  have h1 : k * 3 + 3 ≤ n * 3 := by omega
  have h2 : cur.toList.length = cur.size := by simp
  rw [List.take_append, List.take_of_length_le (by simp; omega), List.take_take, Nat.min_eq_left (by omega), List.drop_take]
  congr 2
  simp
  omega

theorem OwnT.put {T : TypeId} {base b n c k : Nat} {w w' : World} {l : List Rc} {cur : Array Value} (h : OwnT T base w (.slice (some ⟨b, 0, none⟩) n c) l) (hc : Bx w b T cur) (hk : k < n) (x : Rc) (u : Upd w b T (put3 cur k x) w') :
    OwnT T base w' (.slice (some ⟨b, 0, none⟩) n c) (l.set k x) := by
  obtain ⟨cur', hb, hg, h1, h2, h3, h4, h5⟩ := h.cur
  have e : cur' = cur := by
    unfold Bx at hg hc
    rw [hc] at hg
    injection hg with hg
    injection hg with hg
    exact hg.symm
  subst e
  exact OwnT.of_cur hb u.box h1 h2 (by rw [put3_size _ (by omega)]; exact h3) (by simpa using h4) (put3_take x (by omega) hk h4 h5)

theorem OwnT.take {T : TypeId} {base b n c m : Nat} {w : World} {l : List Rc} (h : OwnT T base w (.slice (some ⟨b, 0, none⟩) n c) l) (hm : m ≤ n) : OwnT T base w (.slice (some ⟨b, 0, none⟩) m c) (l.take m) := by
  obtain ⟨cur, hb, hg, h1, h2, h3, h4, h5⟩ := h.cur
  refine OwnT.of_cur hb hg (by omega) h2 h3 (by simp; omega) ?_
  rw [flatF_take, ← h5, List.take_take, Nat.min_eq_left (by omega)]

theorem OwnT.range {T : TypeId} {base b n c k : Nat} {w : World} {l : List Rc} (h : OwnT T base w (.slice (some ⟨b, 0, none⟩) n c) l) (hk : k < n) :
    w.cell? ⟨b, k * 3, none⟩ = some (.int .i64 (l.getD k rz).1) ∧ w.cell? ⟨b, k * 3 + 1, none⟩ = some (.int .i64 (l.getD k rz).2.1) ∧ w.cell? ⟨b, k * 3 + 2, none⟩ = some (.int .i64 (l.getD k rz).2.2) := by
  obtain ⟨cur, hb, hg, h1, h2, h3, h4, h5⟩ := h.cur
  obtain ⟨A, c', he, hr, _⟩ := h.read
  injection he with e1 e2 e3
  obtain ⟨b', off, hA, _, hc⟩ := hr (nonnil (k := k) (by omega))
  rw [← e1] at hA
  simp only [Option.some.injEq, Addr.mk.injEq, and_true] at hA
  obtain ⟨rfl, rfl⟩ := hA
  have := hc k (by omega)
  rw [Nat.zero_add] at this
  exact this

theorem OwnT.kept {T : TypeId} {base b n c : Nat} {w w' : World} {l : List Rc} (h : OwnT T base w (.slice (some ⟨b, 0, none⟩) n c) l) (e : w'.heap[b]? = w.heap[b]?) : OwnT T base w' (.slice (some ⟨b, 0, none⟩) n c) l :=
  row_block h fun k hk => by
    injection hk with hk
    have hk' : b = k := hk
    subst hk'
    exact e

/-! ### The pile -/

/-- The heap whose box is g has the pile l, in block b. -/
def Pl (w : World) (g b : Nat) (l : List Rc) : Prop := ∃ c, Bx w g 49 #[.slice (some ⟨b, 0, none⟩) l.length c] ∧ OwnT 28 b w (.slice (some ⟨b, 0, none⟩) l.length c) l

/-- What a call leaves that turns the heap's box g and its row in b, which may lie in a new block behind it: all else that lay is as it was. -/
structure Mv (w : World) (g b b' : Nat) (w' : World) : Prop where
  size : w.heap.size ≤ w'.heap.size
  other : ∀ k, k ≠ g → k ≠ b → k < w.heap.size → w'.heap[k]? = w.heap[k]?
  bel : ∀ n, n ≤ g → n ≤ b → n ≤ w.heap.size → Below n w w'
  new : b' = b ∨ w.heap.size ≤ b'

theorem Mv.refl (w : World) (g b : Nat) : Mv w g b b w := ⟨Nat.le_refl _, fun _ _ _ _ => rfl, fun _ _ _ _ => Below.refl _ _, .inl rfl⟩
theorem Mv.trans {w w1 w2 : World} {g b b1 b2 : Nat} (h : Mv w g b b1 w1) (h2 : Mv w1 g b1 b2 w2) : Mv w g b b2 w2 :=
  ⟨Nat.le_trans h.size h2.size, fun k k1 k2 k3 => (h2.other k k1 (by have := h.new; omega) (Nat.lt_of_lt_of_le k3 h.size)).trans (h.other k k1 k2 k3),
    fun n n1 n2 n3 => (h.bel n n1 n2 n3).trans (h2.bel n n1 (by have := h.new; omega) (Nat.le_trans n3 h.size)), by have := h.new; have := h2.new; have := h.size; omega⟩
theorem Mv.below {w w1 w2 : World} {g b b1 : Nat} (h : Mv w g b b1 w1) (hb : Below w1.heap.size w1 w2) : Mv w g b b1 w2 :=
  ⟨Nat.le_trans h.size hb.size, fun k k1 k2 k3 => (hb.block k (Nat.lt_of_lt_of_le k3 h.size)).trans (h.other k k1 k2 k3), fun n n1 n2 n3 => (h.bel n n1 n2 n3).trans (hb.mono (Nat.le_trans n3 h.size)), h.new⟩
theorem Mv.of_below {w w1 : World} {g b : Nat} (hb : Below w.heap.size w w1) : Mv w g b b w1 := (Mv.refl w g b).below hb
theorem Mv.box {w w' : World} {g b : Nat} {t : TypeId} {cs : Array Value} (u : Upd w g t cs w') : Mv w g b b w' :=
  ⟨by rw [u.size]; exact Nat.le_refl _, fun k k1 _ _ => u.other k k1, fun n n1 _ _ => u.bel n n1, .inl rfl⟩
theorem Mv.row {w w' : World} {g b : Nat} {t : TypeId} {cs : Array Value} (u : Upd w b t cs w') : Mv w g b b w' :=
  ⟨by rw [u.size]; exact Nat.le_refl _, fun k _ k1 _ => u.other k k1, fun n _ n1 _ => u.bel n n1, .inl rfl⟩
theorem Mv.bx {w w' : World} {g b b' h : Nat} {t : TypeId} {cs : Array Value} (m : Mv w g b b' w') (hb : Bx w h t cs) (h1 : h ≠ g) (h2 : h ≠ b) : Bx w' h t cs := (m.other h h1 h2 hb.lt).trans hb

theorem Pl.box {w : World} {g b : Nat} {l : List Rc} (h : Pl w g b l) : ∃ c, Bx w g 49 #[.slice (some ⟨b, 0, none⟩) l.length c] := ⟨_, h.choose_spec.1⟩
theorem Pl.lt {w : World} {g b : Nat} {l : List Rc} (h : Pl w g b l) : g < w.heap.size ∧ b < w.heap.size ∧ g ≠ b := by
  obtain ⟨c, h1, h2⟩ := h
  obtain ⟨cur, _, h3, _⟩ := h2.cur
  refine ⟨h1.lt, h3.lt, fun e => ?_⟩
  subst e
  unfold Bx at h1 h3
  rw [h1] at h3
  injection h3 with h3
  injection h3 with _ h3 _
  exact absurd h3 (by decide)
theorem Pl.of {w : World} {g b n c : Nat} {l : List Rc} (hn : l.length = n) (h1 : Bx w g 49 #[.slice (some ⟨b, 0, none⟩) n c]) (h2 : OwnT 28 b w (.slice (some ⟨b, 0, none⟩) n c) l) : Pl w g b l := by
  subst hn
  exact ⟨c, h1, h2⟩
theorem Pl.drew {w : World} {g b : Nat} {l : List Rc} (h : Pl w g b l) : Pl w.drew g b l := by
  obtain ⟨c, h1, h2⟩ := h
  exact ⟨c, h1.drew, row_below h2 (b_dr (Below.refl _ _))⟩
theorem Pl.below {w w' : World} {g b : Nat} {l : List Rc} (h : Pl w g b l) (hb : Below w.heap.size w w') : Pl w' g b l := by
  obtain ⟨c, h1, h2⟩ := h
  exact ⟨c, h1.below hb, h2.below hb⟩

/-- What can be read apart from a heap is read behind a call that turns the heap. -/
theorem RdF.mv {w w' : World} {g b b' : Nat} {A : Option Addr} {l : List Rc} (h : RdF w A l) (m : Mv w g b b' w') (ha : l ≠ [] → ∀ a, A = some a → a.block ≠ g ∧ a.block ≠ b) : RdF w' A l := fun hl => by
  obtain ⟨q, off, hA, hq, hc⟩ := h hl
  obtain ⟨a1, a2⟩ := ha hl _ hA
  have e : ∀ j, w'.cell? ⟨q, j, none⟩ = w.cell? ⟨q, j, none⟩ := fun j => World.cell?_of_block (w := w) (m.other q a1 a2 hq)
  exact ⟨q, off, hA, Nat.lt_of_lt_of_le hq m.size, fun k hk => by rw [e, e, e]; exact hc k hk⟩
theorem OwnT.mv {T : TypeId} {base : Nat} {w w' : World} {g b b' : Nat} {v : Value} {l : List Rc} (h : OwnT T base w v l) (m : Mv w g b b' w') (ha : ∀ k, v.ownBlock = some k → k ≠ g ∧ k ≠ b) : OwnT T base w' v l :=
  row_block h fun k hk => m.other k (ha k hk).1 (ha k hk).2 (World.ownsRow.lt h k hk).2

end Go.Proofs.Ytpfmkggnnilknaa
