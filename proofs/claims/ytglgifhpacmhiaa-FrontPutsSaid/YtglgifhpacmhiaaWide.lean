/- Rows of a slice whose elements are many cells each, of any struct type: read, appended to, stored into, cut, cleared behind. Conditions: as the theorems say. -/
import Derived.Test.YtglgifhpacmhiaaRows
import Derived.Test.YtglgifhpacmhiaaBase
import Derived.Test.YtglgifhpacmhiaaRow
import Derived.Test.YtglgifhpacmhiaaRecMath
import Derived.Test.YtglgifhpacmhiaaBox
import Derived.Test.YtglgifhpacmhiaaBoxRes
import Derived.Test.YtglgifhpacmhiaaChg
import Derived.Test.YtglgifhpacmhiaaRowBlock
import Derived.Test.YtglgifhpacmhiaaApart
import Derived.Deep.MidRow
import Derived.Laws.AppendOwn
import Derived.Laws.AppendOwnNone
import Derived.OwnWalk
import Derived.Below
import Derived.Lib.Hide
import Derived.Lib.SliceRun
namespace Go.Proofs.Ytglgifhpacmhiaa
open Go.RowKit

/-- A kind of element: its type, how many cells it has, and which. -/
structure Wd (α : Type) where
  T : TypeId
  n : Nat
  enc : α → List Value
  len : ∀ x, (enc x).length = n
  one : ∀ x, ∀ v ∈ enc x, v.oneCell' = true
  pos : 0 < n

variable {α : Type} {k : Wd α}

/-- The cells of many, one behind the other. -/
def Wd.flat (k : Wd α) (l : List α) : List Value := l.flatMap k.enc

theorem Wd.flat_cons (k : Wd α) (x : α) (l : List α) : k.flat (x :: l) = k.enc x ++ k.flat l := rfl
theorem Wd.flat_append (k : Wd α) (a b : List α) : k.flat (a ++ b) = k.flat a ++ k.flat b := by simp [Wd.flat]
theorem Wd.flat_one (k : Wd α) (x : α) : k.flat [x] = k.enc x := by simp [Wd.flat]
theorem Wd.flat_len (k : Wd α) (l : List α) : (k.flat l).length = l.length * k.n := by
  induction l with
  | nil => simp [Wd.flat]
  | cons x l ih => rw [Wd.flat_cons, List.length_append, ih, k.len, List.length_cons, Nat.add_mul, Nat.one_mul, Nat.add_comm]
theorem Wd.flat_cell {l : List α} {u : Value} (h : u ∈ k.flat l) : u.oneCell' = true := by
  obtain ⟨x, _, hx⟩ := List.mem_flatMap.1 h
  exact k.one x u hx
theorem Wd.flat_get : ∀ (l : List α) (j : Nat) (x : α), l[j]? = some x → ∀ i v, (k.enc x)[i]? = some v → (k.flat l)[j * k.n + i]? = some v
  | [], _, _, h => by simp at h
  | y :: l, 0, x, h => fun i v hv => by
    simp at h
    subst h
    have hi := (List.getElem?_eq_some_iff.1 hv).1
    rw [Wd.flat_cons, Nat.zero_mul, Nat.zero_add, List.getElem?_append_left hi]
    exact hv
  | y :: l, j + 1, x, h => fun i v hv => by
    have ih := Wd.flat_get l j x (by simpa using h) i v hv
    rw [Wd.flat_cons, List.getElem?_append_right (by rw [k.len, Nat.add_mul]; omega), k.len, show (j + 1) * k.n + i - k.n = j * k.n + i by rw [Nat.add_mul, Nat.one_mul]; omega]
    exact ih
theorem Wd.flat_take (l : List α) (m : Nat) : k.flat (l.take m) = (k.flat l).take (m * k.n) := by
  induction l generalizing m with
  | nil => simp [Wd.flat]
  | cons x l ih =>
    cases m with
    | zero => simp [Wd.flat]
    | succ m => rw [List.take_succ_cons, Wd.flat_cons, Wd.flat_cons, ih, Nat.add_mul, Nat.one_mul, Nat.add_comm, ← k.len x, List.take_length_add_append]
theorem Wd.flat_drop (l : List α) (m : Nat) : k.flat (l.drop m) = (k.flat l).drop (m * k.n) := by
  induction l generalizing m with
  | nil => simp [Wd.flat]
  | cons x l ih =>
    cases m with
    | zero => simp
    | succ m => rw [List.drop_succ_cons, Wd.flat_cons, ih, Nat.add_mul, Nat.one_mul, Nat.add_comm, ← k.len x, List.drop_length_add_append]

/-! ### What can be read -/

/-- At the address A the elements of l lie one behind the other (of none nothing is asked). -/
def RdG (k : Wd α) (w : World) (A : Option Addr) (l : List α) : Prop :=
  l ≠ [] → ∃ b off, A = some ⟨b, off, none⟩ ∧ b < w.heap.size ∧ ∀ j x, l[j]? = some x → w.rangeAt b (off + j * k.n) (k.enc x)

theorem RdG.nil (k : Wd α) (w : World) (A : Option Addr) : RdG k w A [] := fun h => absurd rfl h
theorem RdG.at_ {w : World} {A : Option Addr} {l : List α} (h : RdG k w A l) {j : Nat} (hj : j < l.length) : ∃ b off x, A = some ⟨b, off, none⟩ ∧ b < w.heap.size ∧ w.rangeAt b (off + j * k.n) (k.enc x) ∧ Hid (l[j]? = some x) := by
  obtain ⟨b, off, hA, hb, hc⟩ := h (nonnil hj)
  have e : l[j]? = some l[j] := List.getElem?_eq_getElem hj
  exact ⟨b, off, _, hA, hb, hc j _ e, Lib.hid e⟩
theorem rangeAt_keep {w w' : World} {b o : Nat} {cs : List Value} (h : w.rangeAt b o cs) (e : w'.heap[b]? = w.heap[b]?) : w'.rangeAt b o cs := fun j v hj => by
  rw [World.cell?_of_block (w := w) (a := ⟨b, o + j, none⟩) e]; exact h j v hj
theorem rangeAt_below {w w' : World} {b o : Nat} {cs : List Value} (h : w.rangeAt b o cs) (hb : Below w.heap.size w w') (hl : b < w.heap.size) : w'.rangeAt b o cs := rangeAt_keep h (hb.block b hl)
theorem RdG.keep {w w' : World} {A : Option Addr} {l : List α} (h : RdG k w A l) (hs : w.heap.size ≤ w'.heap.size) (hc : ∀ b off, A = some ⟨b, off, none⟩ → b < w.heap.size → w'.heap[b]? = w.heap[b]?) : RdG k w' A l := fun hl => by
  obtain ⟨b, off, hA, hb, hr⟩ := h hl
  exact ⟨b, off, hA, Nat.lt_of_lt_of_le hb hs, fun j x hx => rangeAt_keep (hr j x hx) (hc b off hA hb)⟩
theorem RdG.below {w w' : World} {A : Option Addr} {l : List α} (h : RdG k w A l) (hb : Below w.heap.size w w') : RdG k w' A l := h.keep hb.size fun b _ _ hl => hb.block b hl
/-- The cells, one by one. -/
theorem RdG.news {w : World} {b off : Nat} {l : List α} (h : RdG k w (some ⟨b, off, none⟩) l) : ∀ j u, (k.flat l)[j]? = some u → w.cell? ((⟨b, off, none⟩ : Addr).add j) = some u := by
  intro j u hu
  have hj : j < l.length * k.n := by rw [← k.flat_len]; exact (List.getElem?_eq_some_iff.1 hu).1
  have hd : j / k.n < l.length := Nat.div_lt_of_lt_mul (by rw [Nat.mul_comm]; exact hj)
  obtain ⟨b', off', hA, _, hc⟩ := h (nonnil hd)
  simp only [Option.some.injEq, Addr.mk.injEq, and_true] at hA
  obtain ⟨rfl, rfl⟩ := hA
  have e := List.getElem?_eq_getElem hd
  have hm : j % k.n < (k.enc l[j / k.n]).length := by rw [k.len]; exact Nat.mod_lt _ k.pos
  have hg := Wd.flat_get (k := k) l _ _ e (j % k.n) _ (List.getElem?_eq_getElem hm)
  have hjj : j / k.n * k.n + j % k.n = j := by rw [Nat.mul_comm]; exact Nat.div_add_mod j k.n
  rw [hjj, hu] at hg
  have := hc _ _ e (j % k.n) _ (List.getElem?_eq_getElem hm)
  rw [addr_plain, hg]
  rw [Nat.add_assoc, hjj] at this
  exact this

/-! ### A slice of the call's own -/

def OwnG (k : Wd α) (base : Nat) (w : World) (v : Value) (l : List α) : Prop := w.ownsRow base k.T k.n v l.length (k.flat l)

theorem OwnG.nil (k : Wd α) (base : Nat) (w : World) : OwnG k base w (.slice none 0 0) [] := World.ownsRow_nil w base _ k.n
theorem OwnG.below {base : Nat} {w w' : World} {v : Value} {l : List α} (h : OwnG k base w v l) (hb : Below w.heap.size w w') : OwnG k base w' v l := row_below h hb
theorem OwnG.more {base base' : Nat} {w : World} {v : Value} {l : List α} (h : OwnG k base w v l) (hb : base' ≤ base) : OwnG k base' w v l := row_more h hb
theorem OwnG.alloc {base : Nat} {w : World} {v : Value} {l : List α} (h : OwnG k base w v l) (o : Obj) : OwnG k base (w.alloc o) v l := World.ownsRow.alloc h o
theorem OwnG.drew {base : Nat} {w : World} {v : Value} {l : List α} (h : OwnG k base w v l) : OwnG k base w.drew v l := row_below h (b_dr (Below.refl _ _))
theorem OwnG.kept {base : Nat} {w w' : World} {v : Value} {l : List α} (h : OwnG k base w v l) (e : ∀ q, v.ownBlock = some q → w'.heap[q]? = w.heap[q]?) : OwnG k base w' v l := row_block h e
theorem OwnG.lt {base : Nat} {w : World} {v : Value} {l : List α} (h : OwnG k base w v l) {q : Nat} (hq : v.ownBlock = some q) : base ≤ q ∧ q < w.heap.size := World.ownsRow.lt h q hq

theorem OwnG.form {base : Nat} {w : World} {v : Value} {l : List α} (h : OwnG k base w v l) : (l = [] ∧ v = .slice none 0 0) ∨ ∃ b c, v = .slice (some ⟨b, 0, none⟩) l.length c := by
  rcases h.2 with ⟨h', hn⟩ | ⟨g, cap, cur, h', _⟩
  · exact .inl ⟨List.eq_nil_of_length_eq_zero hn, h'⟩
  · exact .inr ⟨g, cap, h'⟩

theorem OwnG.cur {base b n c : Nat} {w : World} {l : List α} (h : OwnG k base w (.slice (some ⟨b, 0, none⟩) n c) l) :
    ∃ cur, base ≤ b ∧ Bx w b k.T cur ∧ n ≤ c ∧ c ≤ maxLen ∧ cur.size = c * k.n ∧ l.length = n ∧ cur.toList.take (n * k.n) = k.flat l := by
  rcases h.2 with ⟨h', _⟩ | ⟨g, cap, cur, h', hb, hg, h1, h2, h3, h4⟩
  · simp at h'
  · simp only [Value.slice.injEq, Option.some.injEq, Addr.mk.injEq, and_true] at h'
    obtain ⟨rfl, rfl, rfl⟩ := h'
    exact ⟨cur, hb, hg, h1, h2, h3, rfl, h4⟩
theorem OwnG.of_cur {base b n c : Nat} {w : World} {l : List α} {cur : Array Value} (hb : base ≤ b) (hg : Bx w b k.T cur) (h1 : n ≤ c) (h2 : c ≤ maxLen) (h3 : cur.size = c * k.n) (hl : l.length = n) (h4 : cur.toList.take (n * k.n) = k.flat l) :
    OwnG k base w (.slice (some ⟨b, 0, none⟩) n c) l := by
  subst hl
  exact ⟨k.flat_len l, .inr ⟨b, c, cur, rfl, hb, hg, h1, h2, h3, h4⟩⟩
theorem OwnG.re {base b n c : Nat} {w : World} {l : List α} (h : OwnG k base w (.slice (some ⟨b, 0, none⟩) n c) l) : OwnG k b w (.slice (some ⟨b, 0, none⟩) n c) l := by
  obtain ⟨cur, _, hg, h1, h2, h3, h4, h5⟩ := h.cur
  exact OwnG.of_cur (Nat.le_refl _) hg h1 h2 h3 h4 h5
theorem OwnG.less {base base' b n c : Nat} {w : World} {l : List α} (h : OwnG k base w (.slice (some ⟨b, 0, none⟩) n c) l) (hb : base' ≤ b) : OwnG k base' w (.slice (some ⟨b, 0, none⟩) n c) l := row_more h.re hb

theorem OwnG.read {base : Nat} {w : World} {v : Value} {l : List α} (h : OwnG k base w v l) : ∃ A c, v = .slice A l.length c ∧ RdG k w A l ∧ (A = none → c = 0) := by
  rcases h.form with ⟨rfl, rfl⟩ | ⟨b, c, rfl⟩
  · exact ⟨none, 0, rfl, RdG.nil _ _ _, fun _ => rfl⟩
  · obtain ⟨cur, _, hg, h1, h2, h3, h4, h5⟩ := h.cur
    refine ⟨some ⟨b, 0, none⟩, c, rfl, fun _ => ⟨b, 0, rfl, hg.lt, fun j x hx i v hv => ?_⟩, fun e => by cases e⟩
    rw [Nat.zero_add]
    refine hg.cell ?_
    have hf := Wd.flat_get (k := k) l j x hx i v hv
    have hlt := (List.getElem?_eq_some_iff.1 hf).1
    rw [← h5, List.getElem?_take_of_lt (by rw [k.flat_len] at hlt; rw [← h4]; exact hlt)] at hf
    simpa using hf
theorem OwnG.rd {base : Nat} {w : World} {A : Option Addr} {n c : Nat} {l : List α} (h : OwnG k base w (.slice A n c) l) : RdG k w A l := by
  obtain ⟨A', c', he, hr, _⟩ := h.read
  injection he with e1 e2 e3
  rw [e1]; exact hr
theorem OwnG.range {base b n c : Nat} {w : World} {l : List α} (h : OwnG k base w (.slice (some ⟨b, 0, none⟩) n c) l) {j : Nat} {x : α} (hx : l[j]? = some x) : w.rangeAt b (j * k.n) (k.enc x) := by
  obtain ⟨b', off, hA, _, hc⟩ := h.rd (nonnil (List.getElem?_eq_some_iff.1 hx).1)
  simp only [Option.some.injEq, Addr.mk.injEq, and_true] at hA
  obtain ⟨rfl, rfl⟩ := hA
  have := hc j x hx
  rwa [Nat.zero_add] at this

theorem OwnG.take {base b n c m : Nat} {w : World} {l : List α} (h : OwnG k base w (.slice (some ⟨b, 0, none⟩) n c) l) (hm : m ≤ n) : OwnG k base w (.slice (some ⟨b, 0, none⟩) m c) (l.take m) := by
  obtain ⟨cur, hb, hg, h1, h2, h3, h4, h5⟩ := h.cur
  refine OwnG.of_cur hb hg (by omega) h2 h3 (by simp; omega) ?_
  rw [Wd.flat_take, ← h5, List.take_take, Nat.min_eq_left (Nat.mul_le_mul_right _ hm)]

/-! ### A store, a clear -/

/-- The row's cells with other ones from k on. -/
def putC (cur : Array Value) (k : Nat) (vs : List Value) : Array Value := (cur.toList.take k ++ vs ++ cur.toList.drop (k + vs.length)).toArray

theorem putC_size {cur : Array Value} {k : Nat} {vs : List Value} (h : k + vs.length ≤ cur.size) : (putC cur k vs).size = cur.size := by
  unfold putC
  simp
  omega

theorem run_store_mid {P : Program} (W : World) (g o : Nat) (t ty : TypeId) (cs : Array Value) (vs : List Value) (h : Bx W g t cs) (hk : o + vs.length ≤ cs.size) (hi : (P.info? ty).map (·.size) = some vs.length) (h1 : ∀ v ∈ vs, v.oneCell' = true) :
    (storeVar ty ⟨g, o, none⟩ (.agg vs.toArray)).run P W = .ok () (W.setRow g (putC cs o vs)) := by
  have := run_storeCells_at (P := P) g o t vs 0 cs W h (by omega) h1
  rw [Nat.add_zero] at this
  cases hq : P.info? ty with
  | none => simp [hq] at hi
  | some i =>
    have hs : i.size = vs.length := by simpa [hq] using hi
    simp [storeVar, sizeOf, typeInfo, hq, hs, Value.cells, this, putC]

theorem OwnG.upd_same {base b n c : Nat} {w w' : World} {l l' : List α} {cur : Array Value} {o : Nat} {vs : List Value} (h : OwnG k base w (.slice (some ⟨b, 0, none⟩) n c) l) (hc : Bx w b k.T cur) (hk : o + vs.length ≤ cur.size)
    (u : Upd w b k.T (putC cur o vs) w') (hl : l'.length = n) (e : (putC cur o vs).toList.take (n * k.n) = k.flat l') : OwnG k base w' (.slice (some ⟨b, 0, none⟩) n c) l' := by
  obtain ⟨cur', hb, hg, h1, h2, h3, h4, h5⟩ := h.cur
  have e2 : cur' = cur := by
    unfold Bx at hg hc
    rw [hc] at hg
    injection hg with hg
    injection hg with hg
    exact hg.symm
  subst e2
  exact OwnG.of_cur hb u.box h1 h2 (by rw [putC_size hk]; exact h3) hl e

theorem flat_set {l : List α} {j : Nat} (hj : j < l.length) (x : α) : (k.flat l).take (j * k.n) ++ k.enc x ++ (k.flat l).drop (j * k.n + k.n) = k.flat (l.set j x) := by
  have e : j * k.n + k.n = (j + 1) * k.n := by rw [Nat.add_mul, Nat.one_mul]
  rw [e, ← Wd.flat_take, ← Wd.flat_drop, List.set_eq_take_append_cons_drop, if_pos hj, Wd.flat_append, Wd.flat_cons, List.append_assoc]

/-- An element is stored into the row. -/
theorem OwnG.store {P : Program} {base b n c j : Nat} {w : World} {l : List α} (h : OwnG k base w (.slice (some ⟨b, 0, none⟩) n c) l) (hj : j < n) (x : α) (hi : (P.info? k.T).map (·.size) = some k.n) :
    ∃ cs w', (storeVar k.T ⟨b, j * k.n, none⟩ (.agg (k.enc x).toArray)).run P w = .ok () w' ∧ Upd w b k.T cs w' ∧ OwnG k base w' (.slice (some ⟨b, 0, none⟩) n c) (l.set j x) := by
  obtain ⟨cur, hb, hg, h1, h2, h3, h4, h5⟩ := h.cur
  have hjn : j * k.n + k.n ≤ n * k.n := by rw [← Nat.succ_mul]; exact Nat.mul_le_mul_right _ hj
  have hnc : n * k.n ≤ c * k.n := Nat.mul_le_mul_right _ h1
  have hk : j * k.n + (k.enc x).length ≤ cur.size := by rw [k.len, h3]; omega
  have u := Upd.of_setRow (putC cur (j * k.n) (k.enc x)) hg
  refine ⟨_, _, run_store_mid w b (j * k.n) k.T k.T cur (k.enc x) hg hk (by rw [k.len]; exact hi) (k.one x), u, h.upd_same hg hk u (by simpa using h4) ?_⟩
  rw [← flat_set (by omega) x, ← h5]
  unfold putC
  have hcl : cur.toList.length = cur.size := by simp
  have hen := k.len x
  rw [List.take_append, List.take_of_length_le (by simp; omega), List.take_take, Nat.min_eq_left (by omega), List.drop_take]
  congr 2
  all_goals (simp only [List.length_append, List.length_take, hen, hcl] <;> omega)

theorem wpList_storeG {P : Program} {ops : Array Oper} {rest : List Oper} {o : Oper} {a : Act} {w : World} {Q : Exit → Act → World → Prop} (hgd : Region.wanted o (yielded ops a.tmps) = true) (hi : (P.info? k.T).map (·.size) = some k.n) (x y : Operand) (ho : o.op = .store k.T x y)
    (base b n c j : Nat) (s : α) (l : List α) (hx : a.eval x = .pointer (some ⟨b, j * k.n, none⟩)) (hy : a.eval y = .agg (k.enc s).toArray) (hr : OwnG k base w (.slice (some ⟨b, 0, none⟩) n c) l) (hj : j < n)
    (h : ∀ cs W', OwnG k base W' (.slice (some ⟨b, 0, none⟩) n c) (l.set j s) → Upd w b k.T cs W' → wpList P ops Q rest (a.put o.dst undef) W') : wpList P ops Q (o :: rest) a w :=
  wpList_step fun K hK => by
    rw [if_pos hgd]
    unfold Oper.wp execOp
    obtain ⟨cs, w', h1, h2, h3⟩ := hr.store hj s hi
    simp only [ho, hx, hy, Instr.storeAt, Instr.sureAddr, Sem.run_bind, Sem.run_pure, Result.andThen_ok, h1]
    exact hK _ _ (h _ _ h3 h2)

/-- What lies behind the first m is cleared. -/
theorem OwnG.clear {P : Program} {base b n c m d : Nat} {w : World} {l : List α} {Ts : TypeId} {z : Value} (h : OwnG k base w (.slice (some ⟨b, 0, none⟩) n c) l) (hm : m < n) (hu : P.underlying Ts = some (.slice k.T)) (hz : ∀ w, (zeroValue k.T).run P w = .ok z w) (hzs : z.cells.size = k.n) (hzo : ∀ v ∈ z.cells.toList, v.oneCell' = true) :
    ∃ cs W', (∀ ty, (Builtin.clear_ #[Ts] ty #[.slice (some ⟨b, m * k.n, none⟩) (n - m) d]).run P w = .ok (.tuple #[]) W') ∧ Upd w b k.T cs W' ∧ OwnG k base W' (.slice (some ⟨b, 0, none⟩) m c) (l.take m) := by
  obtain ⟨L, hL⟩ : ∃ L, (Builtin.zeroCells z.cells (n - m)).toList = L := ⟨_, rfl⟩
  have hlen : L.length = (n - m) * k.n := by
    rw [← hL, Array.length_toList, size_zeroCells, hzs]
  have hone : ∀ v ∈ L, v.oneCell' = true := by
    intro v hv
    rw [← hL] at hv
    simp only [Builtin.zeroCells, Array.toList_map, List.mem_map] at hv
    obtain ⟨i, _, rfl⟩ := hv
    have hp := k.pos
    have hlt : i % z.cells.size < z.cells.size := Nat.mod_lt _ (by omega)
    rw [getElem!_pos z.cells (i % z.cells.size) hlt]
    exact hzo _ (by simp)
  obtain ⟨cur, hb, hg, h1, h2, h3, h4, h5⟩ := h.cur
  have hmn : m * k.n + (n - m) * k.n = n * k.n := by rw [← Nat.add_mul]; congr 1; omega
  have hnc : n * k.n ≤ c * k.n := Nat.mul_le_mul_right _ h1
  have hk : m * k.n + L.length ≤ cur.size := by omega
  have hr := run_storeCells_at (P := P) b (m * k.n) k.T L 0 cur w hg (by omega) hone
  rw [Nat.add_zero] at hr
  have u := Upd.of_setRow (putC cur (m * k.n) L) hg
  have hcl : cur.toList.length = cur.size := by simp
  have hput : (putC cur (m * k.n) L).toList.take (m * k.n) = k.flat (l.take m) := by
    rw [Wd.flat_take, ← h5, List.take_take, Nat.min_eq_left (by omega)]
    unfold putC
    rw [List.take_append, List.take_append, List.take_of_length_le (by simp; omega)]
    simp
    rw [show m * k.n - min (m * k.n) cur.size = 0 by omega]
    simp
    left
    omega
  refine ⟨_, _, fun ty => ?_, u, OwnG.of_cur hb u.box (by omega) h2 (by rw [putC_size hk]; exact h3) (by simp; omega) hput⟩
  obtain ⟨q, hq⟩ : ∃ q, n - m = q + 1 := ⟨n - m - 1, by omega⟩
  rw [hq] at hL ⊢
  simp only [List.append_assoc] at hr
  simp [Builtin.clear_, run_underlying hu, hz, hL, hr, putC]

/-! ### An append -/

theorem wp_appG {o : Oper} {a : Act} {w : World} {K : Act → World → Prop} {Q : Exit → Act → World → Prop} {z : Value} {by_ : Nat} (Ts : TypeId) (hu : Try.prog.underlying Ts = some (.slice k.T))
    (hi : (Try.prog.info? k.T).map (fun i => (i.zero, i.size, i.bytes)) = some (some z, k.n, by_)) (hzs : z.cells.size = k.n) (hby : by_ ≤ 200) (s x : Operand)
    (ho : o.op = .call { callee := .builtin .append, args := #[s, x], argTypes := #[Ts, Ts] })
    (base : Nat) (v : Value) (l : List α) (hs : a.eval s = v) (hown : OwnG k base w v l) (A : Option Addr) (m c : Nat) (n : List α) (hx : a.eval x = .slice A m c) (hm : n.length = m) (hr : RdG k w A n) (hA : n = [] → A = none ∨ ∃ b off, A = some ⟨b, off, none⟩) (hz : A = none → c = 0)
    (hb : l.length + m ≤ 100000000000) (hbase : base ≤ w.heap.size)
    (h : ∀ v' w', OwnG k base w' v' (l ++ n) → w.grownBy w' v.ownBlock → (∀ q, v'.ownBlock = some q → v.ownBlock = some q ∨ w.heap.size ≤ q) → (v' = .slice none 0 0 → v = .slice none 0 0 ∧ n = []) → K (a.put o.dst v') w') : o.wp Try.prog a w K Q := by
  obtain ⟨i1, hj, hy0, hy1, hy2⟩ := info_parts hi
  subst hm
  have none_case : A = none → n = [] := fun e => by
    apply Classical.byContradiction
    intro hl
    obtain ⟨b, off, e2, _⟩ := hr hl
    rw [e] at e2
    cases e2
  cases hA1 : A with
  | none =>
    obtain rfl := none_case hA1
    subst hA1
    obtain rfl := hz rfl
    have hrun := run_append_owned_none (P := Try.prog) (w := w) base Ts o.type k.T i1 k.n hu hj v l.length _ hown
    unfold Oper.wp
    simp [execOp, ho, resolve, invoke, builtin, hs, hx, hrun, Result.andThen]
    exact h _ _ (by rw [List.append_nil]; exact hown) ⟨rfl, rfl, rfl, Nat.le_refl _, fun _ _ _ => rfl⟩ (fun q hq => .inl hq) (fun e => ⟨e, rfl⟩)
  | some ad =>
    subst hA1
    obtain ⟨b, off, rfl⟩ : ∃ b off, ad = ⟨b, off, none⟩ := by
      by_cases hn : n = []
      · rcases hA hn with e | ⟨b, off, e⟩
        · cases e
        · injection e with e; exact ⟨b, off, e⟩
      · obtain ⟨b, off, e, _⟩ := hr hn
        injection e with e; exact ⟨b, off, e⟩
    have hl : (k.flat n).length = n.length * k.n := k.flat_len n
    have hml : l.length + n.length ≤ maxLen := by unfold maxLen; omega
    have hbb : (l.length + n.length) * by_ ≤ 140737488355328 := Nat.le_trans (Nat.mul_le_mul hb hby) (by omega)
    obtain ⟨v', w', hrun, h2, h3, h0⟩ := run_append_own (P := Try.prog) w base Ts o.type k.T i1 z k.n by_ hu hj hy0 hy1 hy2 hzs k.pos v l.length _ hown ⟨b, off, none⟩ n.length c (k.flat n) hl (RdG.news hr) (fun u hu => Wd.flat_cell hu) hml hbb hbase
    have h4 := append_apart hu hj hy0 hy1 hy2 hzs k.pos hown hl (RdG.news hr) (fun u hu => Wd.flat_cell hu) hml hbb hrun
    unfold Oper.wp execOp
    simp only [ho, resolve, invoke, builtin, Sem.run_bind, Sem.run_pure, Result.andThen_ok, List.map_toArray, List.map_cons, List.map_nil, hs, hx, hrun]
    refine h v' w' ?_ h3 h4 (fun e => ⟨(h0.1 e).1, List.eq_nil_of_length_eq_zero (h0.1 e).2⟩)
    unfold OwnG
    rw [Wd.flat_append, List.length_append]
    exact h2

theorem wpList_appG {ops : Array Oper} {rest : List Oper} {o : Oper} {a : Act} {w : World} {Q : Exit → Act → World → Prop} {z : Value} {by_ : Nat} (hgd : o.guard = none) (Ts : TypeId) (hu : Try.prog.underlying Ts = some (.slice k.T))
    (hi : (Try.prog.info? k.T).map (fun i => (i.zero, i.size, i.bytes)) = some (some z, k.n, by_)) (hzs : z.cells.size = k.n) (hby : by_ ≤ 200) (s x : Operand)
    (ho : o.op = .call { callee := .builtin .append, args := #[s, x], argTypes := #[Ts, Ts] })
    (base : Nat) (v : Value) (l : List α) (hs : a.eval s = v) (hown : OwnG k base w v l) (A : Option Addr) (m c : Nat) (n : List α) (hx : a.eval x = .slice A m c) (hm : n.length = m) (hr : RdG k w A n) (hA : n = [] → A = none ∨ ∃ b off, A = some ⟨b, off, none⟩) (hz : A = none → c = 0)
    (hb : l.length + m ≤ 100000000000) (hbase : base ≤ w.heap.size)
    (h : ∀ v' w', OwnG k base w' v' (l ++ n) → w.grownBy w' v.ownBlock → (∀ q, v'.ownBlock = some q → v.ownBlock = some q ∨ w.heap.size ≤ q) → (v' = .slice none 0 0 → v = .slice none 0 0 ∧ n = []) → wpList Try.prog ops Q rest (a.put o.dst v') w') : wpList Try.prog ops Q (o :: rest) a w :=
  wpList_plain hgd fun _ hK => wp_appG Ts hu hi hzs hby s x ho base v l hs hown A m c n hx hm hr hA hz hb hbase fun v' w' h1 h2 h3 h4 => hK _ _ (h v' w' h1 h2 h3 h4)

/-- One element in a block of its own, as a slice of one. -/
theorem RdG.one {w : World} {b : Nat} {t : TypeId} {x : α} (h : Bx w b t (k.enc x).toArray) : RdG k w (some ⟨b, 0, none⟩) [x] := fun _ => ⟨b, 0, rfl, h.lt, fun j y hy i v hv => by
  match j, hy with
  | 0, hy =>
    simp at hy
    subst hy
    rw [Nat.zero_mul, Nat.add_zero, Nat.zero_add]
    exact h.cell (by simpa using hv)
  | j + 1, hy => simp at hy⟩

/-- A load of an element amid a block. -/
theorem wpList_loadG {P : Program} {ops : Array Oper} {rest : List Oper} {o : Oper} {a : Act} {w : World} {Q : Exit → Act → World → Prop} (hgd : Region.wanted o (yielded ops a.tmps) = true) (ty : TypeId) (x : Operand) (ho : o.op = .load ty x)
    (b off : Nat) (hx : a.eval x = .pointer (some ⟨b, off, none⟩)) (cs : Array Value) (d : TypeDesc) (hr : w.rangeAt b off cs.toList) (hu : P.underlying ty = some d) (hd : d.isRow = true) (hi : (P.info? ty).map (·.size) = some cs.size)
    (h : wpList P ops Q rest (a.put o.dst (.agg cs)) w) : wpList P ops Q (o :: rest) a w :=
  wpList_step fun K hK => by
    rw [if_pos hgd]
    unfold Oper.wp
    rw [exec_load_mid b off cs d w ho hx hr hu hd hi]
    exact hK _ _ h

end Go.Proofs.Ytglgifhpacmhiaa
