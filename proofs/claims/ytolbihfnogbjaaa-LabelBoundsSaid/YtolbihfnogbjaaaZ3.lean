/- Plain facts, several texts in one: Wide, WideOne, WindowMath, ErrandMath, ErrandHeap, ErrandMath2, ErrandBrk, ErrandLight, ErrandOpen, TasksRead. Conditions: none beyond each lemma's own premises. -/
import Derived.Test.YtolbihfnogbjaaaRows
import Derived.Test.YtolbihfnogbjaaaBase
import Derived.Test.YtolbihfnogbjaaaZ2
import Derived.Test.YtolbihfnogbjaaaZ1
import Derived.Deep.MidRow
import Derived.Laws.AppendOwn
import Derived.Laws.AppendOwnNone
import Derived.OwnWalk
import Derived.Below
import Derived.Lib.Hide
import Derived.Lib.SliceRun
import Derived.Great.BuildSlice
import Derived.WalkKit
import Derived.WalkSpells
import Derived.WalkSmall
import Derived.Outline
import Derived.Deep.DeepCutAuto
import Derived.BigQuiet
import Derived.Deep.QuietTactic
import Derived.Deep.LoopGhost
import Derived.WalkMore
import Derived.OpenShut
import Derived.ChangeSame
import Derived.Lib.SmallJoins
import Derived.ProofKit
import Derived.Deep.Slices
import Derived.Deep.SlicePairs
import Derived.Deep.Fields

/- Rows of a slice whose elements are many cells each, of any struct type: read, appended to, stored into, cut, cleared behind. Conditions: as the theorems say. -/
namespace Go.Proofs.Ytolbihfnogbjaaa
open Go.RowKit

/-- A kind of element: its type, how many cells it has, and which. -/
structure Wd (α : Type) where
  T : TypeId
  n : Nat
  enc : α → List Value
  len : ∀ x, (enc x).length = n
  one : ∀ x, ∀ v ∈ enc x, v.oneCell' = true
  pos : 0 < n

variable {α : Type} {k : Wd α}

/-- The cells of many, one behind the other. -/
def Wd.flat (k : Wd α) (l : List α) : List Value := l.flatMap k.enc

theorem Wd.flat_cons (k : Wd α) (x : α) (l : List α) : k.flat (x :: l) = k.enc x ++ k.flat l := rfl
theorem Wd.flat_append (k : Wd α) (a b : List α) : k.flat (a ++ b) = k.flat a ++ k.flat b := by simp [Wd.flat]
theorem Wd.flat_one (k : Wd α) (x : α) : k.flat [x] = k.enc x := by simp [Wd.flat]
theorem Wd.flat_len (k : Wd α) (l : List α) : (k.flat l).length = l.length * k.n := by
  induction l with
  | nil => simp [Wd.flat]
  | cons x l ih => rw [Wd.flat_cons, List.length_append, ih, k.len, List.length_cons, Nat.add_mul, Nat.one_mul, Nat.add_comm]
theorem Wd.flat_cell {l : List α} {u : Value} (h : u ∈ k.flat l) : u.oneCell' = true := by
  obtain ⟨x, _, hx⟩ := List.mem_flatMap.1 h
  exact k.one x u hx
theorem Wd.flat_get : ∀ (l : List α) (j : Nat) (x : α), l[j]? = some x → ∀ i v, (k.enc x)[i]? = some v → (k.flat l)[j * k.n + i]? = some v
  | [], _, _, h => by simp at h
  | y :: l, 0, x, h => fun i v hv => by
    simp at h
    subst h
    have hi := (List.getElem?_eq_some_iff.1 hv).1
    rw [Wd.flat_cons, Nat.zero_mul, Nat.zero_add, List.getElem?_append_left hi]
    exact hv
  | y :: l, j + 1, x, h => fun i v hv => by
    have ih := Wd.flat_get l j x (by simpa using h) i v hv
    rw [Wd.flat_cons, List.getElem?_append_right (by rw [k.len, Nat.add_mul]; omega), k.len, show (j + 1) * k.n + i - k.n = j * k.n + i by rw [Nat.add_mul, Nat.one_mul]; omega]
    exact ih
theorem Wd.flat_take (l : List α) (m : Nat) : k.flat (l.take m) = (k.flat l).take (m * k.n) := by
  induction l generalizing m with
  | nil => simp [Wd.flat]
  | cons x l ih =>
    cases m with
    | zero => simp [Wd.flat]
    | succ m => rw [List.take_succ_cons, Wd.flat_cons, Wd.flat_cons, ih, Nat.add_mul, Nat.one_mul, Nat.add_comm, ← k.len x, List.take_length_add_append]
theorem Wd.flat_drop (l : List α) (m : Nat) : k.flat (l.drop m) = (k.flat l).drop (m * k.n) := by
  induction l generalizing m with
  | nil => simp [Wd.flat]
  | cons x l ih =>
    cases m with
    | zero => simp
    | succ m => rw [List.drop_succ_cons, Wd.flat_cons, ih, Nat.add_mul, Nat.one_mul, Nat.add_comm, ← k.len x, List.drop_length_add_append]

/-! ### What can be read -/

/-- At the address A the elements of l lie one behind the other (of none nothing is asked). -/
def RdG (k : Wd α) (w : World) (A : Option Addr) (l : List α) : Prop :=
  l ≠ [] → ∃ b off, A = some ⟨b, off, none⟩ ∧ b < w.heap.size ∧ ∀ j x, l[j]? = some x → w.rangeAt b (off + j * k.n) (k.enc x)

theorem RdG.nil (k : Wd α) (w : World) (A : Option Addr) : RdG k w A [] := fun h => absurd rfl h
theorem RdG.at_ {w : World} {A : Option Addr} {l : List α} (h : RdG k w A l) {j : Nat} (hj : j < l.length) : ∃ b off x, A = some ⟨b, off, none⟩ ∧ b < w.heap.size ∧ w.rangeAt b (off + j * k.n) (k.enc x) ∧ Hid (l[j]? = some x) := by
  obtain ⟨b, off, hA, hb, hc⟩ := h (nonnil hj)
  have e : l[j]? = some l[j] := List.getElem?_eq_getElem hj
  exact ⟨b, off, _, hA, hb, hc j _ e, Lib.hid e⟩
theorem rangeAt_keep {w w' : World} {b o : Nat} {cs : List Value} (h : w.rangeAt b o cs) (e : w'.heap[b]? = w.heap[b]?) : w'.rangeAt b o cs := fun j v hj => by
  rw [World.cell?_of_block (w := w) (a := ⟨b, o + j, none⟩) e]; exact h j v hj
theorem rangeAt_below {w w' : World} {b o : Nat} {cs : List Value} (h : w.rangeAt b o cs) (hb : Below w.heap.size w w') (hl : b < w.heap.size) : w'.rangeAt b o cs := rangeAt_keep h (hb.block b hl)
theorem RdG.keep {w w' : World} {A : Option Addr} {l : List α} (h : RdG k w A l) (hs : w.heap.size ≤ w'.heap.size) (hc : ∀ b off, A = some ⟨b, off, none⟩ → b < w.heap.size → w'.heap[b]? = w.heap[b]?) : RdG k w' A l := fun hl => by
  obtain ⟨b, off, hA, hb, hr⟩ := h hl
  exact ⟨b, off, hA, Nat.lt_of_lt_of_le hb hs, fun j x hx => rangeAt_keep (hr j x hx) (hc b off hA hb)⟩
theorem RdG.below {w w' : World} {A : Option Addr} {l : List α} (h : RdG k w A l) (hb : Below w.heap.size w w') : RdG k w' A l := h.keep hb.size fun b _ _ hl => hb.block b hl
/-- The cells, one by one. -/
theorem RdG.news {w : World} {b off : Nat} {l : List α} (h : RdG k w (some ⟨b, off, none⟩) l) : ∀ j u, (k.flat l)[j]? = some u → w.cell? ((⟨b, off, none⟩ : Addr).add j) = some u := by
  intro j u hu
  have hj : j < l.length * k.n := by rw [← k.flat_len]; exact (List.getElem?_eq_some_iff.1 hu).1
  have hd : j / k.n < l.length := Nat.div_lt_of_lt_mul (by rw [Nat.mul_comm]; exact hj)
  obtain ⟨b', off', hA, _, hc⟩ := h (nonnil hd)
  simp only [Option.some.injEq, Addr.mk.injEq, and_true] at hA
  obtain ⟨rfl, rfl⟩ := hA
  have e := List.getElem?_eq_getElem hd
  have hm : j % k.n < (k.enc l[j / k.n]).length := by rw [k.len]; exact Nat.mod_lt _ k.pos
  have hg := Wd.flat_get (k := k) l _ _ e (j % k.n) _ (List.getElem?_eq_getElem hm)
  have hjj : j / k.n * k.n + j % k.n = j := by rw [Nat.mul_comm]; exact Nat.div_add_mod j k.n
  rw [hjj, hu] at hg
  have := hc _ _ e (j % k.n) _ (List.getElem?_eq_getElem hm)
  rw [addr_plain, hg]
  rw [Nat.add_assoc, hjj] at this
  exact this

/-! ### A slice of the call's own -/

def OwnG (k : Wd α) (base : Nat) (w : World) (v : Value) (l : List α) : Prop := w.ownsRow base k.T k.n v l.length (k.flat l)

theorem OwnG.nil (k : Wd α) (base : Nat) (w : World) : OwnG k base w (.slice none 0 0) [] := World.ownsRow_nil w base _ k.n
theorem OwnG.below {base : Nat} {w w' : World} {v : Value} {l : List α} (h : OwnG k base w v l) (hb : Below w.heap.size w w') : OwnG k base w' v l := row_below h hb
theorem OwnG.more {base base' : Nat} {w : World} {v : Value} {l : List α} (h : OwnG k base w v l) (hb : base' ≤ base) : OwnG k base' w v l := row_more h hb
theorem OwnG.alloc {base : Nat} {w : World} {v : Value} {l : List α} (h : OwnG k base w v l) (o : Obj) : OwnG k base (w.alloc o) v l := World.ownsRow.alloc h o
theorem OwnG.drew {base : Nat} {w : World} {v : Value} {l : List α} (h : OwnG k base w v l) : OwnG k base w.drew v l := row_below h (b_dr (Below.refl _ _))
theorem OwnG.kept {base : Nat} {w w' : World} {v : Value} {l : List α} (h : OwnG k base w v l) (e : ∀ q, v.ownBlock = some q → w'.heap[q]? = w.heap[q]?) : OwnG k base w' v l := row_block h e
theorem OwnG.lt {base : Nat} {w : World} {v : Value} {l : List α} (h : OwnG k base w v l) {q : Nat} (hq : v.ownBlock = some q) : base ≤ q ∧ q < w.heap.size := World.ownsRow.lt h q hq

theorem OwnG.form {base : Nat} {w : World} {v : Value} {l : List α} (h : OwnG k base w v l) : (l = [] ∧ v = .slice none 0 0) ∨ ∃ b c, v = .slice (some ⟨b, 0, none⟩) l.length c := by
  rcases h.2 with ⟨h', hn⟩ | ⟨g, cap, cur, h', _⟩
  · exact .inl ⟨List.eq_nil_of_length_eq_zero hn, h'⟩
  · exact .inr ⟨g, cap, h'⟩

theorem OwnG.cur {base b n c : Nat} {w : World} {l : List α} (h : OwnG k base w (.slice (some ⟨b, 0, none⟩) n c) l) :
    ∃ cur, base ≤ b ∧ Bx w b k.T cur ∧ n ≤ c ∧ c ≤ maxLen ∧ cur.size = c * k.n ∧ l.length = n ∧ cur.toList.take (n * k.n) = k.flat l := by
  rcases h.2 with ⟨h', _⟩ | ⟨g, cap, cur, h', hb, hg, h1, h2, h3, h4⟩
  · simp at h'
  · simp only [Value.slice.injEq, Option.some.injEq, Addr.mk.injEq, and_true] at h'
    obtain ⟨rfl, rfl, rfl⟩ := h'
    exact ⟨cur, hb, hg, h1, h2, h3, rfl, h4⟩
theorem OwnG.of_cur {base b n c : Nat} {w : World} {l : List α} {cur : Array Value} (hb : base ≤ b) (hg : Bx w b k.T cur) (h1 : n ≤ c) (h2 : c ≤ maxLen) (h3 : cur.size = c * k.n) (hl : l.length = n) (h4 : cur.toList.take (n * k.n) = k.flat l) :
    OwnG k base w (.slice (some ⟨b, 0, none⟩) n c) l := by
  subst hl
  exact ⟨k.flat_len l, .inr ⟨b, c, cur, rfl, hb, hg, h1, h2, h3, h4⟩⟩
theorem OwnG.re {base b n c : Nat} {w : World} {l : List α} (h : OwnG k base w (.slice (some ⟨b, 0, none⟩) n c) l) : OwnG k b w (.slice (some ⟨b, 0, none⟩) n c) l := by
  obtain ⟨cur, _, hg, h1, h2, h3, h4, h5⟩ := h.cur
  exact OwnG.of_cur (Nat.le_refl _) hg h1 h2 h3 h4 h5
theorem OwnG.less {base base' b n c : Nat} {w : World} {l : List α} (h : OwnG k base w (.slice (some ⟨b, 0, none⟩) n c) l) (hb : base' ≤ b) : OwnG k base' w (.slice (some ⟨b, 0, none⟩) n c) l := row_more h.re hb

theorem OwnG.read {base : Nat} {w : World} {v : Value} {l : List α} (h : OwnG k base w v l) : ∃ A c, v = .slice A l.length c ∧ RdG k w A l ∧ (A = none → c = 0) := by
  rcases h.form with ⟨rfl, rfl⟩ | ⟨b, c, rfl⟩
  · exact ⟨none, 0, rfl, RdG.nil _ _ _, fun _ => rfl⟩
  · obtain ⟨cur, _, hg, h1, h2, h3, h4, h5⟩ := h.cur
    refine ⟨some ⟨b, 0, none⟩, c, rfl, fun _ => ⟨b, 0, rfl, hg.lt, fun j x hx i v hv => ?_⟩, fun e => by cases e⟩
    rw [Nat.zero_add]
    refine hg.cell ?_
    have hf := Wd.flat_get (k := k) l j x hx i v hv
    have hlt := (List.getElem?_eq_some_iff.1 hf).1
    rw [← h5, List.getElem?_take_of_lt (by rw [k.flat_len] at hlt; rw [← h4]; exact hlt)] at hf
    simpa using hf
theorem OwnG.rd {base : Nat} {w : World} {A : Option Addr} {n c : Nat} {l : List α} (h : OwnG k base w (.slice A n c) l) : RdG k w A l := by
  obtain ⟨A', c', he, hr, _⟩ := h.read
  injection he with e1 e2 e3
  rw [e1]; exact hr
theorem OwnG.range {base b n c : Nat} {w : World} {l : List α} (h : OwnG k base w (.slice (some ⟨b, 0, none⟩) n c) l) {j : Nat} {x : α} (hx : l[j]? = some x) : w.rangeAt b (j * k.n) (k.enc x) := by
  obtain ⟨b', off, hA, _, hc⟩ := h.rd (nonnil (List.getElem?_eq_some_iff.1 hx).1)
  simp only [Option.some.injEq, Addr.mk.injEq, and_true] at hA
  obtain ⟨rfl, rfl⟩ := hA
  have := hc j x hx
  rwa [Nat.zero_add] at this

theorem OwnG.take {base b n c m : Nat} {w : World} {l : List α} (h : OwnG k base w (.slice (some ⟨b, 0, none⟩) n c) l) (hm : m ≤ n) : OwnG k base w (.slice (some ⟨b, 0, none⟩) m c) (l.take m) := by
  obtain ⟨cur, hb, hg, h1, h2, h3, h4, h5⟩ := h.cur
  refine OwnG.of_cur hb hg (by omega) h2 h3 (by simp; omega) ?_
  rw [Wd.flat_take, ← h5, List.take_take, Nat.min_eq_left (Nat.mul_le_mul_right _ hm)]

/-! ### A store, a clear -/

/-- The row's cells with other ones from k on. -/
def putC (cur : Array Value) (k : Nat) (vs : List Value) : Array Value := (cur.toList.take k ++ vs ++ cur.toList.drop (k + vs.length)).toArray

theorem putC_size {cur : Array Value} {k : Nat} {vs : List Value} (h : k + vs.length ≤ cur.size) : (putC cur k vs).size = cur.size := by
  unfold putC
  simp
  omega

theorem run_store_mid {P : Program} (W : World) (g o : Nat) (t ty : TypeId) (cs : Array Value) (vs : List Value) (h : Bx W g t cs) (hk : o + vs.length ≤ cs.size) (hi : (P.info? ty).map (·.size) = some vs.length) (h1 : ∀ v ∈ vs, v.oneCell' = true) :
    (storeVar ty ⟨g, o, none⟩ (.agg vs.toArray)).run P W = .ok () (W.setRow g (putC cs o vs)) := by
  have := run_storeCells_at (P := P) g o t vs 0 cs W h (by omega) h1
  rw [Nat.add_zero] at this
  cases hq : P.info? ty with
  | none => simp [hq] at hi
  | some i =>
    have hs : i.size = vs.length := by simpa [hq] using hi
    simp [storeVar, sizeOf, typeInfo, hq, hs, Value.cells, this, putC]

theorem OwnG.upd_same {base b n c : Nat} {w w' : World} {l l' : List α} {cur : Array Value} {o : Nat} {vs : List Value} (h : OwnG k base w (.slice (some ⟨b, 0, none⟩) n c) l) (hc : Bx w b k.T cur) (hk : o + vs.length ≤ cur.size)
    (u : Upd w b k.T (putC cur o vs) w') (hl : l'.length = n) (e : (putC cur o vs).toList.take (n * k.n) = k.flat l') : OwnG k base w' (.slice (some ⟨b, 0, none⟩) n c) l' := by
  obtain ⟨cur', hb, hg, h1, h2, h3, h4, h5⟩ := h.cur
  have e2 : cur' = cur := by
    unfold Bx at hg hc
    rw [hc] at hg
    injection hg with hg
    injection hg with hg
    exact hg.symm
  subst e2
  exact OwnG.of_cur hb u.box h1 h2 (by rw [putC_size hk]; exact h3) hl e

theorem flat_set {l : List α} {j : Nat} (hj : j < l.length) (x : α) : (k.flat l).take (j * k.n) ++ k.enc x ++ (k.flat l).drop (j * k.n + k.n) = k.flat (l.set j x) := by
  have e : j * k.n + k.n = (j + 1) * k.n := by rw [Nat.add_mul, Nat.one_mul]
  rw [e, ← Wd.flat_take, ← Wd.flat_drop, List.set_eq_take_append_cons_drop, if_pos hj, Wd.flat_append, Wd.flat_cons, List.append_assoc]

/-- An element is stored into the row. -/
theorem OwnG.store {P : Program} {base b n c j : Nat} {w : World} {l : List α} (h : OwnG k base w (.slice (some ⟨b, 0, none⟩) n c) l) (hj : j < n) (x : α) (hi : (P.info? k.T).map (·.size) = some k.n) :
    ∃ cs w', (storeVar k.T ⟨b, j * k.n, none⟩ (.agg (k.enc x).toArray)).run P w = .ok () w' ∧ Upd w b k.T cs w' ∧ OwnG k base w' (.slice (some ⟨b, 0, none⟩) n c) (l.set j x) := by
  obtain ⟨cur, hb, hg, h1, h2, h3, h4, h5⟩ := h.cur
  have hjn : j * k.n + k.n ≤ n * k.n := by rw [← Nat.succ_mul]; exact Nat.mul_le_mul_right _ hj
  have hnc : n * k.n ≤ c * k.n := Nat.mul_le_mul_right _ h1
  have hk : j * k.n + (k.enc x).length ≤ cur.size := by rw [k.len, h3]; omega
  have u := Upd.of_setRow (putC cur (j * k.n) (k.enc x)) hg
  refine ⟨_, _, run_store_mid w b (j * k.n) k.T k.T cur (k.enc x) hg hk (by rw [k.len]; exact hi) (k.one x), u, h.upd_same hg hk u (by simpa using h4) ?_⟩
  rw [← flat_set (by omega) x, ← h5]
  unfold putC
  have hcl : cur.toList.length = cur.size := by simp
  have hen := k.len x
  rw [List.take_append, List.take_of_length_le (by simp; omega), List.take_take, Nat.min_eq_left (by omega), List.drop_take]
  congr 2
  all_goals (simp only [List.length_append, List.length_take, hen, hcl] <;> omega)

theorem wpList_storeG {P : Program} {ops : Array Oper} {rest : List Oper} {o : Oper} {a : Act} {w : World} {Q : Exit → Act → World → Prop} (hgd : Region.wanted o (yielded ops a.tmps) = true) (hi : (P.info? k.T).map (·.size) = some k.n) (x y : Operand) (ho : o.op = .store k.T x y)
    (base b n c j : Nat) (s : α) (l : List α) (hx : a.eval x = .pointer (some ⟨b, j * k.n, none⟩)) (hy : a.eval y = .agg (k.enc s).toArray) (hr : OwnG k base w (.slice (some ⟨b, 0, none⟩) n c) l) (hj : j < n)
    (h : ∀ cs W', OwnG k base W' (.slice (some ⟨b, 0, none⟩) n c) (l.set j s) → Upd w b k.T cs W' → wpList P ops Q rest (a.put o.dst undef) W') : wpList P ops Q (o :: rest) a w :=
  wpList_step fun K hK => by
    rw [if_pos hgd]
    unfold Oper.wp execOp
    obtain ⟨cs, w', h1, h2, h3⟩ := hr.store hj s hi
    simp only [ho, hx, hy, Instr.storeAt, Instr.sureAddr, Sem.run_bind, Sem.run_pure, Result.andThen_ok, h1]
    exact hK _ _ (h _ _ h3 h2)

/-- What lies behind the first m is cleared. -/
theorem OwnG.clear {P : Program} {base b n c m d : Nat} {w : World} {l : List α} {Ts : TypeId} {z : Value} (h : OwnG k base w (.slice (some ⟨b, 0, none⟩) n c) l) (hm : m < n) (hu : P.underlying Ts = some (.slice k.T)) (hz : ∀ w, (zeroValue k.T).run P w = .ok z w) (hzs : z.cells.size = k.n) (hzo : ∀ v ∈ z.cells.toList, v.oneCell' = true) :
    ∃ cs W', (∀ ty, (Builtin.clear_ #[Ts] ty #[.slice (some ⟨b, m * k.n, none⟩) (n - m) d]).run P w = .ok (.tuple #[]) W') ∧ Upd w b k.T cs W' ∧ OwnG k base W' (.slice (some ⟨b, 0, none⟩) m c) (l.take m) := by
  obtain ⟨L, hL⟩ : ∃ L, (Builtin.zeroCells z.cells (n - m)).toList = L := ⟨_, rfl⟩
  have hlen : L.length = (n - m) * k.n := by
    rw [← hL, Array.length_toList, size_zeroCells, hzs]
  have hone : ∀ v ∈ L, v.oneCell' = true := by
    intro v hv
    rw [← hL] at hv
    simp only [Builtin.zeroCells, Array.toList_map, List.mem_map] at hv
    obtain ⟨i, _, rfl⟩ := hv
    have hp := k.pos
    have hlt : i % z.cells.size < z.cells.size := Nat.mod_lt _ (by omega)
    rw [getElem!_pos z.cells (i % z.cells.size) hlt]
    exact hzo _ (by simp)
  obtain ⟨cur, hb, hg, h1, h2, h3, h4, h5⟩ := h.cur
  have hmn : m * k.n + (n - m) * k.n = n * k.n := by rw [← Nat.add_mul]; congr 1; omega
  have hnc : n * k.n ≤ c * k.n := Nat.mul_le_mul_right _ h1
  have hk : m * k.n + L.length ≤ cur.size := by omega
  have hr := run_storeCells_at (P := P) b (m * k.n) k.T L 0 cur w hg (by omega) hone
  rw [Nat.add_zero] at hr
  have u := Upd.of_setRow (putC cur (m * k.n) L) hg
  have hcl : cur.toList.length = cur.size := by simp
  have hput : (putC cur (m * k.n) L).toList.take (m * k.n) = k.flat (l.take m) := by
    rw [Wd.flat_take, ← h5, List.take_take, Nat.min_eq_left (by omega)]
    unfold putC
    rw [List.take_append, List.take_append, List.take_of_length_le (by simp; omega)]
    simp
    rw [show m * k.n - min (m * k.n) cur.size = 0 by omega]
    simp
    left
    omega
  refine ⟨_, _, fun ty => ?_, u, OwnG.of_cur hb u.box (by omega) h2 (by rw [putC_size hk]; exact h3) (by simp; omega) hput⟩
  obtain ⟨q, hq⟩ : ∃ q, n - m = q + 1 := ⟨n - m - 1, by omega⟩
  rw [hq] at hL ⊢
  simp only [List.append_assoc] at hr
  simp [Builtin.clear_, run_underlying hu, hz, hL, hr, putC]

/-! ### An append -/

theorem wp_appG {o : Oper} {a : Act} {w : World} {K : Act → World → Prop} {Q : Exit → Act → World → Prop} {z : Value} {by_ : Nat} (Ts : TypeId) (hu : Try.prog.underlying Ts = some (.slice k.T))
    (hi : (Try.prog.info? k.T).map (fun i => (i.zero, i.size, i.bytes)) = some (some z, k.n, by_)) (hzs : z.cells.size = k.n) (hby : by_ ≤ 200) (s x : Operand)
    (ho : o.op = .call { callee := .builtin .append, args := #[s, x], argTypes := #[Ts, Ts] })
    (base : Nat) (v : Value) (l : List α) (hs : a.eval s = v) (hown : OwnG k base w v l) (A : Option Addr) (m c : Nat) (n : List α) (hx : a.eval x = .slice A m c) (hm : n.length = m) (hr : RdG k w A n) (hA : n = [] → A = none ∨ ∃ b off, A = some ⟨b, off, none⟩) (hz : A = none → c = 0)
    (hb : l.length + m ≤ 100000000000) (hbase : base ≤ w.heap.size)
    (h : ∀ v' w', OwnG k base w' v' (l ++ n) → w.grownBy w' v.ownBlock → (∀ q, v'.ownBlock = some q → v.ownBlock = some q ∨ w.heap.size ≤ q) → (v' = .slice none 0 0 → v = .slice none 0 0 ∧ n = []) → K (a.put o.dst v') w') : o.wp Try.prog a w K Q := by
  obtain ⟨i1, hj, hy0, hy1, hy2⟩ := info_parts hi
  subst hm
  have none_case : A = none → n = [] := fun e => by
    apply Classical.byContradiction
    intro hl
    obtain ⟨b, off, e2, _⟩ := hr hl
    rw [e] at e2
    cases e2
  cases hA1 : A with
  | none =>
    obtain rfl := none_case hA1
    subst hA1
    obtain rfl := hz rfl
    have hrun := run_append_owned_none (P := Try.prog) (w := w) base Ts o.type k.T i1 k.n hu hj v l.length _ hown
    unfold Oper.wp
    simp [execOp, ho, resolve, invoke, builtin, hs, hx, hrun, Result.andThen]
    exact h _ _ (by rw [List.append_nil]; exact hown) ⟨rfl, rfl, rfl, Nat.le_refl _, fun _ _ _ => rfl⟩ (fun q hq => .inl hq) (fun e => ⟨e, rfl⟩)
  | some ad =>
    subst hA1
    obtain ⟨b, off, rfl⟩ : ∃ b off, ad = ⟨b, off, none⟩ := by
      by_cases hn : n = []
      · rcases hA hn with e | ⟨b, off, e⟩
        · cases e
        · injection e with e; exact ⟨b, off, e⟩
      · obtain ⟨b, off, e, _⟩ := hr hn
        injection e with e; exact ⟨b, off, e⟩
    have hl : (k.flat n).length = n.length * k.n := k.flat_len n
    have hml : l.length + n.length ≤ maxLen := by unfold maxLen; omega
    have hbb : (l.length + n.length) * by_ ≤ 140737488355328 := Nat.le_trans (Nat.mul_le_mul hb hby) (by omega)
    obtain ⟨v', w', hrun, h2, h3, h0⟩ := run_append_own (P := Try.prog) w base Ts o.type k.T i1 z k.n by_ hu hj hy0 hy1 hy2 hzs k.pos v l.length _ hown ⟨b, off, none⟩ n.length c (k.flat n) hl (RdG.news hr) (fun u hu => Wd.flat_cell hu) hml hbb hbase
    have h4 := append_apart hu hj hy0 hy1 hy2 hzs k.pos hown hl (RdG.news hr) (fun u hu => Wd.flat_cell hu) hml hbb hrun
    unfold Oper.wp execOp
    simp only [ho, resolve, invoke, builtin, Sem.run_bind, Sem.run_pure, Result.andThen_ok, List.map_toArray, List.map_cons, List.map_nil, hs, hx, hrun]
    refine h v' w' ?_ h3 h4 (fun e => ⟨(h0.1 e).1, List.eq_nil_of_length_eq_zero (h0.1 e).2⟩)
    unfold OwnG
    rw [Wd.flat_append, List.length_append]
    exact h2

theorem wpList_appG {ops : Array Oper} {rest : List Oper} {o : Oper} {a : Act} {w : World} {Q : Exit → Act → World → Prop} {z : Value} {by_ : Nat} (hgd : o.guard = none) (Ts : TypeId) (hu : Try.prog.underlying Ts = some (.slice k.T))
    (hi : (Try.prog.info? k.T).map (fun i => (i.zero, i.size, i.bytes)) = some (some z, k.n, by_)) (hzs : z.cells.size = k.n) (hby : by_ ≤ 200) (s x : Operand)
    (ho : o.op = .call { callee := .builtin .append, args := #[s, x], argTypes := #[Ts, Ts] })
    (base : Nat) (v : Value) (l : List α) (hs : a.eval s = v) (hown : OwnG k base w v l) (A : Option Addr) (m c : Nat) (n : List α) (hx : a.eval x = .slice A m c) (hm : n.length = m) (hr : RdG k w A n) (hA : n = [] → A = none ∨ ∃ b off, A = some ⟨b, off, none⟩) (hz : A = none → c = 0)
    (hb : l.length + m ≤ 100000000000) (hbase : base ≤ w.heap.size)
    (h : ∀ v' w', OwnG k base w' v' (l ++ n) → w.grownBy w' v.ownBlock → (∀ q, v'.ownBlock = some q → v.ownBlock = some q ∨ w.heap.size ≤ q) → (v' = .slice none 0 0 → v = .slice none 0 0 ∧ n = []) → wpList Try.prog ops Q rest (a.put o.dst v') w') : wpList Try.prog ops Q (o :: rest) a w :=
  wpList_plain hgd fun _ hK => wp_appG Ts hu hi hzs hby s x ho base v l hs hown A m c n hx hm hr hA hz hb hbase fun v' w' h1 h2 h3 h4 => hK _ _ (h v' w' h1 h2 h3 h4)

/-- One element in a block of its own, as a slice of one. -/
theorem RdG.one {w : World} {b : Nat} {t : TypeId} {x : α} (h : Bx w b t (k.enc x).toArray) : RdG k w (some ⟨b, 0, none⟩) [x] := fun _ => ⟨b, 0, rfl, h.lt, fun j y hy i v hv => by
  match j, hy with
  | 0, hy =>
    simp at hy
    subst hy
    rw [Nat.zero_mul, Nat.add_zero, Nat.zero_add]
    exact h.cell (by simpa using hv)
  | j + 1, hy => simp at hy⟩

/-- A load of an element amid a block. -/
theorem wpList_loadG {P : Program} {ops : Array Oper} {rest : List Oper} {o : Oper} {a : Act} {w : World} {Q : Exit → Act → World → Prop} (hgd : Region.wanted o (yielded ops a.tmps) = true) (ty : TypeId) (x : Operand) (ho : o.op = .load ty x)
    (b off : Nat) (hx : a.eval x = .pointer (some ⟨b, off, none⟩)) (cs : Array Value) (d : TypeDesc) (hr : w.rangeAt b off cs.toList) (hu : P.underlying ty = some d) (hd : d.isRow = true) (hi : (P.info? ty).map (·.size) = some cs.size)
    (h : wpList P ops Q rest (a.put o.dst (.agg cs)) w) : wpList P ops Q (o :: rest) a w :=
  wpList_step fun K hK => by
    rw [if_pos hgd]
    unfold Oper.wp
    rw [exec_load_mid b off cs d w ho hx hr hu hd hi]
    exact hK _ _ h

end Go.Proofs.Ytolbihfnogbjaaa

/- A slice literal of one element of many cells. Conditions: as the theorems say. -/
namespace Go.Proofs.Ytolbihfnogbjaaa
open Go.RowKit

theorem run_one {α : Type} {k : Wd α} {z : Value} {by_ : Nat} {Ts : TypeId} (w : World) (hu : Try.prog.underlying Ts = some (.slice k.T)) (hi : (Try.prog.info? k.T).map (fun i => (i.zero, i.size, i.bytes)) = some (some z, k.n, by_)) (hn : k.n ≤ 100) (x : α)
    (hf : Instr.fill (fun i => some (i * k.n, k.n)) ((Array.range (1 * k.n)).map (z.cells[· % z.cells.size]!)) [(0, .agg (k.enc x).toArray)] = some (k.enc x).toArray) :
    (Instr.buildSlice Ts 1 #[(0, .agg (k.enc x).toArray)]).run Try.prog w = .ok (.slice (some ⟨w.heap.size, 0, none⟩) 1 1) (w.alloc (.cells (k.enc x).toArray k.T)) := by
  obtain ⟨i1, hj, hy0, hy1, hy2⟩ := info_parts hi
  have hp := k.pos
  exact run_buildSlice w Ts k.T 1 _ _ i1 z hu hj hy0 (by rw [hy1]; omega) (by rw [hy1]; omega) (by rw [hy1]; exact hf)

theorem wp_one {α : Type} {k : Wd α} {z : Value} {by_ : Nat} {o : Oper} {a : Act} {w : World} {K : Act → World → Prop} {Q : Exit → Act → World → Prop} (Ts : TypeId) (hu : Try.prog.underlying Ts = some (.slice k.T)) (hi : (Try.prog.info? k.T).map (fun i => (i.zero, i.size, i.bytes)) = some (some z, k.n, by_)) (hn : k.n ≤ 100) (x : α)
    (hf : Instr.fill (fun i => some (i * k.n, k.n)) ((Array.range (1 * k.n)).map (z.cells[· % z.cells.size]!)) [(0, .agg (k.enc x).toArray)] = some (k.enc x).toArray) (p : Operand) (ho : o.op = .buildSlice Ts 1 #[(0, p)]) (hp : a.eval p = .agg (k.enc x).toArray)
    (h : K (a.put o.dst (.slice (some ⟨w.heap.size, 0, none⟩) 1 1)) (w.alloc (.cells (k.enc x).toArray k.T))) : o.wp Try.prog a w K Q := by
  unfold Oper.wp execOp
  simp only [ho, List.map_toArray, List.map_cons, List.map_nil, hp, Sem.run_bind, run_one w hu hi hn x hf, Result.andThen_ok]
  exact h
theorem wpList_one {α : Type} {k : Wd α} {z : Value} {by_ : Nat} {ops : Array Oper} {rest : List Oper} {o : Oper} {a : Act} {w : World} {Q : Exit → Act → World → Prop} (hgd : Region.wanted o (yielded ops a.tmps) = true) (Ts : TypeId) (hu : Try.prog.underlying Ts = some (.slice k.T)) (hi : (Try.prog.info? k.T).map (fun i => (i.zero, i.size, i.bytes)) = some (some z, k.n, by_)) (hn : k.n ≤ 100) (x : α)
    (hf : Instr.fill (fun i => some (i * k.n, k.n)) ((Array.range (1 * k.n)).map (z.cells[· % z.cells.size]!)) [(0, .agg (k.enc x).toArray)] = some (k.enc x).toArray) (p : Operand) (ho : o.op = .buildSlice Ts 1 #[(0, p)]) (hp : a.eval p = .agg (k.enc x).toArray)
    (h : wpList Try.prog ops Q rest (a.put o.dst (.slice (some ⟨w.heap.size, 0, none⟩) 1 1)) (w.alloc (.cells (k.enc x).toArray k.T))) : wpList Try.prog ops Q (o :: rest) a w :=
  wpList_step fun K hK => by
    rw [if_pos hgd]
    exact wp_one Ts hu hi hn x hf p ho hp (hK _ _ h)

end Go.Proofs.Ytolbihfnogbjaaa

/- Windows in plain words: what is wrong with them, the last minute, the next one, and what follows. Conditions: none beyond each lemma's own premises. -/
namespace Go.Proofs.Ytolbihfnogbjaaa

def last1 (acc : Int × Bool) (s : Sp) : Int × Bool :=
  if s.1 < s.2 ∧ (acc.2 = false ∨ acc.1 < s.2 - 1) then (s.2 - 1, true) else acc

def lastL (l : List Sp) : Int × Bool := l.foldl last1 (0, false)

theorem lastL_more (l : List Sp) (k : Nat) (h : k < l.length) : (l.take (k + 1)).foldl last1 (0, false) = last1 ((l.take k).foldl last1 (0, false)) (l.getD k (0, 0)) := by
  rw [take_more l (0, 0) k h, List.foldl_append]; rfl

theorem last_stop {l : List Sp} {k : Nat} {acc : Int × Bool} (hk : l.length ≤ k) (h : (l.take k).foldl last1 (0, false) = acc) : lastL l = acc := by
  rw [List.take_of_length_le hk] at h; exact h

theorem last_skip {acc : Int × Bool} {s : Sp} (h : ¬ s.1 < s.2) : last1 acc s = acc := by unfold last1; rw [if_neg (fun k => h k.1)]

theorem last_first {z : Int} {s : Sp} (h : s.1 < s.2) : last1 (z, false) s = (s.2 - 1, true) := by unfold last1; rw [if_pos ⟨h, Or.inl rfl⟩]

theorem last_take {z : Int} {s : Sp} (h : s.1 < s.2) (h2 : z < s.2 - 1) : last1 (z, true) s = (s.2 - 1, true) := by unfold last1; rw [if_pos ⟨h, Or.inr h2⟩]

theorem last_leave {z : Int} {s : Sp} (h2 : ¬ z < s.2 - 1) : last1 (z, true) s = (z, true) := by
  unfold last1; rw [if_neg]; rintro ⟨_, k | k⟩
  · cases k
  · exact h2 k

theorem last_from : ∀ (l : List Sp) (acc : Int × Bool),
    ((l.foldl last1 acc).2 = false → acc.2 = false ∧ ∀ s ∈ l, ¬ s.1 < s.2) ∧
    ((l.foldl last1 acc).2 = true → ((acc.2 = true ∧ (l.foldl last1 acc).1 = acc.1) ∨ ∃ s ∈ l, s.1 < s.2 ∧ (l.foldl last1 acc).1 = s.2 - 1) ∧
      (acc.2 = true → acc.1 ≤ (l.foldl last1 acc).1) ∧ ∀ s ∈ l, s.1 < s.2 → s.2 - 1 ≤ (l.foldl last1 acc).1)
  | [], acc => ⟨fun h => ⟨h, by simp⟩, fun h => ⟨Or.inl ⟨h, rfl⟩, fun _ => Int.le_refl _, by simp⟩⟩
  | s :: l, acc => by
    obtain ⟨i1, i2⟩ := last_from l (last1 acc s)
    rw [List.foldl_cons]
    by_cases hs : s.1 < s.2 ∧ (acc.2 = false ∨ acc.1 < s.2 - 1)
    · have e : last1 acc s = (s.2 - 1, true) := if_pos hs
      rw [e] at i1 i2 ⊢
      refine ⟨fun h => absurd (i1 h).1 (by simp), fun h => ?_⟩
      obtain ⟨j1, j2, j3⟩ := i2 h
      refine ⟨Or.inr ?_, fun ha => ?_, fun t ht hr => ?_⟩
      · rcases j1 with ⟨_, j⟩ | ⟨t, ht, j⟩
        · exact ⟨s, List.mem_cons_self .., hs.1, j⟩
        · exact ⟨t, List.mem_cons_of_mem _ ht, j⟩
      · have := j2 rfl
        rcases hs.2 with k | k
        · rw [ha] at k; cases k
        · simp only at this; omega
      · rcases List.mem_cons.1 ht with rfl | ht
        · exact j2 rfl
        · exact j3 t ht hr
    · have e : last1 acc s = acc := if_neg hs
      rw [e] at i1 i2 ⊢
      refine ⟨fun h => ?_, fun h => ?_⟩
      · obtain ⟨a, b⟩ := i1 h
        refine ⟨a, fun t ht => ?_⟩
        rcases List.mem_cons.1 ht with rfl | ht
        · exact fun k => hs ⟨k, Or.inl a⟩
        · exact b t ht
      · obtain ⟨j1, j2, j3⟩ := i2 h
        refine ⟨?_, j2, fun t ht hr => ?_⟩
        · rcases j1 with j | ⟨t, ht, j⟩
          · exact Or.inl j
          · exact Or.inr ⟨t, List.mem_cons_of_mem _ ht, j⟩
        · rcases List.mem_cons.1 ht with rfl | ht
          · have ha : acc.2 = true := by
              cases h2 : acc.2 with
              | true => rfl
              | false => exact absurd ⟨hr, Or.inl h2⟩ hs
            have := j2 ha
            have : ¬ acc.1 < t.2 - 1 := fun k => hs ⟨hr, Or.inr k⟩
            omega
          · exact j3 t ht hr

theorem next_from (m : Int) : ∀ (l : List Sp) (acc : Int × Bool),
    ((l.foldl (next1 m) acc).2 = false → acc.2 = false ∧ ∀ s ∈ l, ¬ (s.1 < s.2 ∧ m < s.2)) ∧
    ((l.foldl (next1 m) acc).2 = true → ((acc.2 = true ∧ (l.foldl (next1 m) acc).1 = acc.1) ∨ ∃ s ∈ l, s.1 ≤ (l.foldl (next1 m) acc).1 ∧ (l.foldl (next1 m) acc).1 < s.2 ∧ m ≤ (l.foldl (next1 m) acc).1) ∧
      (acc.2 = true → (l.foldl (next1 m) acc).1 ≤ acc.1) ∧ ∀ s ∈ l, s.1 < s.2 → m < s.2 → ∀ n, m ≤ n → s.1 ≤ n → (l.foldl (next1 m) acc).1 ≤ n)
  | [], acc => ⟨fun h => ⟨h, by simp⟩, fun h => ⟨Or.inl ⟨h, rfl⟩, fun _ => Int.le_refl _, by simp⟩⟩
  | s :: l, acc => by
    obtain ⟨i1, i2⟩ := next_from m l (next1 m acc s)
    rw [List.foldl_cons]
    by_cases hs : s.1 < s.2 ∧ m < s.2
    · obtain ⟨k, hk⟩ : ∃ k, (if s.1 < m then m else s.1) = k := ⟨_, rfl⟩
      have kb : s.1 ≤ k ∧ m ≤ k ∧ k < s.2 ∧ (k = m ∨ k = s.1) := by
        rw [← hk]; split <;> (refine ⟨?_, ?_, ?_, ?_⟩ <;> omega)
      by_cases hc : acc.2 = false ∨ k < acc.1
      · have e : next1 m acc s = (k, true) := by unfold next1; rw [if_pos hs, hk, if_pos hc]
        rw [e] at i1 i2 ⊢
        refine ⟨fun h => absurd (i1 h).1 (by simp), fun h => ?_⟩
        obtain ⟨j1, j2, j3⟩ := i2 h
        have j2' := j2 rfl
        simp only at j2'
        refine ⟨Or.inr ?_, fun ha => ?_, fun t ht hr hm n h1 h2 => ?_⟩
        · rcases j1 with ⟨_, j⟩ | ⟨t, ht, j⟩
          · simp only at j
            exact ⟨s, List.mem_cons_self .., by omega, by omega, by omega⟩
          · exact ⟨t, List.mem_cons_of_mem _ ht, j⟩
        · rcases hc with c | c
          · rw [ha] at c; cases c
          · omega
        · rcases List.mem_cons.1 ht with rfl | ht
          · omega
          · exact j3 t ht hr hm n h1 h2
      · have e : next1 m acc s = acc := by unfold next1; rw [if_pos hs, hk, if_neg hc]
        have ha : acc.2 = true := by
          cases h2 : acc.2 with
          | true => rfl
          | false => exact absurd (Or.inl h2) hc
        have hk2 : ¬ k < acc.1 := fun h => hc (Or.inr h)
        rw [e] at i1 i2 ⊢
        refine ⟨fun h => absurd (i1 h).1 (by rw [ha]; simp), fun h => ?_⟩
        obtain ⟨j1, j2, j3⟩ := i2 h
        have j2' := j2 ha
        refine ⟨?_, j2, fun t ht hr hm n h1 h2 => ?_⟩
        · rcases j1 with j | ⟨t, ht, j⟩
          · exact Or.inl j
          · exact Or.inr ⟨t, List.mem_cons_of_mem _ ht, j⟩
        · rcases List.mem_cons.1 ht with rfl | ht
          · omega
          · exact j3 t ht hr hm n h1 h2
    · have e : next1 m acc s = acc := by unfold next1; rw [if_neg hs]
      rw [e] at i1 i2 ⊢
      refine ⟨fun h => ?_, fun h => ?_⟩
      · obtain ⟨a, b⟩ := i1 h
        refine ⟨a, fun t ht => ?_⟩
        rcases List.mem_cons.1 ht with rfl | ht
        · exact hs
        · exact b t ht
      · obtain ⟨j1, j2, j3⟩ := i2 h
        refine ⟨?_, j2, fun t ht hr hm => ?_⟩
        · rcases j1 with j | ⟨t, ht, j⟩
          · exact Or.inl j
          · exact Or.inr ⟨t, List.mem_cons_of_mem _ ht, j⟩
        · rcases List.mem_cons.1 ht with rfl | ht
          · exact absurd ⟨hr, hm⟩ hs
          · exact j3 t ht hr hm

theorem last_no {l : List Sp} (h : (lastL l).2 = false) (n : Int) : hasL l n = false := by
  rw [hasL_no]; intro s hs k
  exact ((last_from l (0, false)).1 h).2 s hs (by omega)

theorem last_has {l : List Sp} (h : (lastL l).2 = true) : hasL l (lastL l).1 = true := by
  obtain ⟨j1, _, _⟩ := (last_from l (0, false)).2 h
  rcases j1 with ⟨k, _⟩ | ⟨s, hs, h1, h2⟩
  · cases k
  · rw [hasL_iff]
    refine ⟨s, hs, ?_⟩
    unfold lastL
    omega

theorem last_end {l : List Sp} (h : (lastL l).2 = true) {n : Int} (hn : (lastL l).1 < n) : hasL l n = false := by
  obtain ⟨_, _, j3⟩ := (last_from l (0, false)).2 h
  rw [hasL_no]; intro s hs k
  have := j3 s hs (by omega)
  unfold lastL at hn
  omega

theorem next_no {l : List Sp} {m : Int} (h : (nextL l m).2 = false) {n : Int} (hn : m ≤ n) : hasL l n = false := by
  rw [hasL_no]; intro s hs k
  exact ((next_from m l (0, false)).1 h).2 s hs (by omega)

theorem next_has {l : List Sp} {m : Int} (h : (nextL l m).2 = true) : m ≤ (nextL l m).1 ∧ hasL l (nextL l m).1 = true := by
  obtain ⟨j1, _, _⟩ := (next_from m l (0, false)).2 h
  rcases j1 with ⟨k, _⟩ | ⟨s, hs, h1, h2, h3⟩
  · cases k
  · exact ⟨h3, hasL_iff.2 ⟨s, hs, h1, h2⟩⟩

theorem next_none {l : List Sp} {m : Int} (h : (nextL l m).2 = true) {n : Int} (hn : m ≤ n) (h2 : n < (nextL l m).1) : hasL l n = false := by
  obtain ⟨_, _, j3⟩ := (next_from m l (0, false)).2 h
  rw [hasL_no]; intro s hs k
  have := j3 s hs (by omega) (by omega) n hn k.1
  unfold nextL at h2
  omega

theorem next_last {l : List Sp} {m : Int} (h : (nextL l m).2 = true) : (lastL l).2 = true ∧ (nextL l m).1 ≤ (lastL l).1 := by
  have hh := (next_has h).2
  have ht : (lastL l).2 = true := by
    cases h2 : (lastL l).2 with
    | true => rfl
    | false => rw [last_no h2] at hh; cases hh
  refine ⟨ht, ?_⟩
  rcases Int.lt_or_le (lastL l).1 (nextL l m).1 with k | k
  · rw [last_end ht k] at hh; cases hh
  · exact k

/-- A window that is not right; one that is not within the limits. -/
def wrongS (s : Sp) : Bool := !decide (s.1 < s.2)
def rangeS (s : Sp) : Bool := decide (s.1 < 0) || decide (40320 < s.2)

/-- What is wrong with windows, by the error's number. -/
def checkW (l : List Sp) : Int :=
  if l.length = 0 then 13 else if 8 < l.length then 12 else if l.any wrongS then 3 else if l.any rangeS then 4 else if rightB l then 0 else 6

theorem any_at {p : Sp → Bool} {l : List Sp} {k : Nat} (h : k < l.length) (hp : p (l.getD k (0, 0)) = true) : l.any p = true :=
  List.any_eq_true.2 ⟨_, getD_mem h, hp⟩

theorem any_none {p : Sp → Bool} {l : List Sp} {k : Nat} (hk : l.length ≤ k) (h : ∀ j, j < k → p (l.getD j (0, 0)) = false) : l.any p = false := by
  rw [List.any_eq_false]
  intro s hs
  obtain ⟨j, hj, e⟩ := List.getElem_of_mem hs
  have := h j (by omega)
  rw [List.getD_eq_getElem?_getD, List.getElem?_eq_getElem hj] at this
  simp only [Option.getD_some, e] at this
  rw [this]; simp

theorem check_none {l : List Sp} (h : l.length = 0) : checkW l = 13 := if_pos h
theorem check_many {l : List Sp} (h : 8 < l.length) : checkW l = 12 := by unfold checkW; rw [if_neg (by omega), if_pos h]
theorem check_wrong {l : List Sp} (h0 : l.length ≠ 0) (h : ¬ 8 < l.length) (h1 : l.any wrongS = true) : checkW l = 3 := by unfold checkW; rw [if_neg h0, if_neg h, if_pos h1]
theorem check_range {l : List Sp} (h0 : l.length ≠ 0) (h : ¬ 8 < l.length) (h1 : l.any wrongS = false) (h2 : l.any rangeS = true) : checkW l = 4 := by
  unfold checkW; rw [if_neg h0, if_neg h, if_neg (by rw [h1]; simp), if_pos h2]
theorem check_right {l : List Sp} (h0 : l.length ≠ 0) (h : ¬ 8 < l.length) (h1 : l.any wrongS = false) (h2 : l.any rangeS = false) (h3 : rightB l = true) : checkW l = 0 := by
  unfold checkW; rw [if_neg h0, if_neg h, if_neg (by rw [h1]; simp), if_neg (by rw [h2]; simp), if_pos h3]
theorem check_over {l : List Sp} (h0 : l.length ≠ 0) (h : ¬ 8 < l.length) (h1 : l.any wrongS = false) (h2 : l.any rangeS = false) (h3 : rightB l = false) : checkW l = 6 := by
  unfold checkW; rw [if_neg h0, if_neg h, if_neg (by rw [h1]; simp), if_neg (by rw [h2]; simp), if_neg (by rw [h3]; simp)]

end Go.Proofs.Ytolbihfnogbjaaa

/- Tasks in plain words: whether a spot is right, the spot behind a minute, what is left. Conditions: none beyond each lemma's own premises. -/
namespace Go.Proofs.Ytolbihfnogbjaaa

/-- A task: its drive, its service, the windows. -/
abbrev Tk := Int × Int × List Sp
/-- A spot: how many tasks are done, and how much of the next one is driven and served. -/
abbrev Pt := Int × Int × Int

def tk (l : List Tk) (i : Int) : Tk := l.getD i.toNat (0, 0, [])

/-- What is wrong with a task, by the error's number. -/
def taskV (t : Tk) : Int :=
  if t.1 < 0 ∨ 10080 < t.1 ∨ t.2.1 < 0 ∨ 1440 < t.2.1 then 4 else if 0 < t.2.1 then checkW t.2.2 else if t.2.2 = [] then 0 else 1

/-- The numbers of a task are none below 0. -/
def TkOk (t : Tk) : Prop := 0 ≤ t.1 ∧ t.1 ≤ 10080 ∧ 0 ≤ t.2.1 ∧ t.2.1 ≤ 1440

def Fits (l : List Tk) (s : Pt) : Prop :=
  0 ≤ s.1 ∧ s.1 ≤ l.length ∧ (s.1 = l.length → s.2.1 = 0 ∧ s.2.2 = 0) ∧
    (s.1 < l.length → 0 ≤ s.2.1 ∧ s.2.1 ≤ (tk l s.1).1 ∧ 0 ≤ s.2.2 ∧ s.2.2 ≤ (tk l s.1).2.1 ∧ (s.2.2 = 0 ∨ s.2.1 = (tk l s.1).1) ∧ ¬ (s.2.1 = (tk l s.1).1 ∧ s.2.2 = (tk l s.1).2.1))

instance (l : List Tk) (s : Pt) : Decidable (Fits l s) := by unfold Fits; infer_instance

/-- All of the task is done. -/
def Full (l : List Tk) (s : Pt) : Prop := s.1 < l.length ∧ s.2.1 = (tk l s.1).1 ∧ s.2.2 = (tk l s.1).2.1

instance (l : List Tk) (s : Pt) : Decidable (Full l s) := by unfold Full; infer_instance

/-- Tasks of which all is done gone past, n of them at most. -/
def pastN (l : List Tk) : Nat → Pt → Pt
  | 0, s => s
  | n + 1, s => if Full l s then pastN l n (s.1 + 1, 0, 0) else s

def pastT (l : List Tk) (s : Pt) : Pt := pastN l ((l.length : Int) - s.1).toNat s

/-- What is left, of driving and of services. -/
def sumD (l : List Tk) : Int := (l.map fun t => t.1).sum
def sumS (l : List Tk) : Int := (l.map fun t => t.2.1).sum
def leftT (l : List Tk) (s : Pt) : Int × Int := (sumD (l.drop s.1.toNat) - s.2.1, sumS (l.drop s.1.toNat) - s.2.2)

theorem tk_drop {l : List Tk} {i : Int} (h0 : 0 ≤ i) (h : i < l.length) : l.drop i.toNat = tk l i :: l.drop (i + 1).toNat := by
  have hk : i.toNat < l.length := by omega
  have e : (i + 1).toNat = i.toNat + 1 := by omega
  rw [e, List.drop_eq_getElem_cons hk]
  unfold tk
  rw [List.getD_eq_getElem?_getD, List.getElem?_eq_getElem hk, Option.getD_some]

theorem left_move {l : List Tk} {s : Pt} (h0 : 0 ≤ s.1) (h : Full l s) : leftT l (s.1 + 1, 0, 0) = leftT l s := by
  obtain ⟨h1, h2, h3⟩ := h
  unfold leftT
  rw [tk_drop h0 h1]
  unfold sumD sumS
  simp only [List.map_cons, List.sum_cons, h2, h3]
  ext <;> simp <;> omega

theorem past_left {l : List Tk} : ∀ (n : Nat) (s : Pt), 0 ≤ s.1 → leftT l (pastN l n s) = leftT l s
  | 0, _, _ => rfl
  | n + 1, s, h0 => by
    unfold pastN
    by_cases h : Full l s
    · rw [if_pos h, past_left n _ (by simp; omega), left_move h0 h]
    · rw [if_neg h]

/-- What may lie before the tasks of which all is done are gone past. -/
def Near (l : List Tk) (s : Pt) : Prop :=
  0 ≤ s.1 ∧ s.1 ≤ l.length ∧ (s.1 = l.length → s.2.1 = 0 ∧ s.2.2 = 0) ∧
    (s.1 < l.length → 0 ≤ s.2.1 ∧ s.2.1 ≤ (tk l s.1).1 ∧ 0 ≤ s.2.2 ∧ s.2.2 ≤ (tk l s.1).2.1 ∧ (s.2.2 = 0 ∨ s.2.1 = (tk l s.1).1))

theorem Fits.near {l : List Tk} {s : Pt} (h : Fits l s) : Near l s := by
  obtain ⟨h1, h2, h3, h4⟩ := h
  exact ⟨h1, h2, h3, fun k => ⟨(h4 k).1, (h4 k).2.1, (h4 k).2.2.1, (h4 k).2.2.2.1, (h4 k).2.2.2.2.1⟩⟩

theorem Near.fits {l : List Tk} {s : Pt} (h : Near l s) (hf : ¬ Full l s) : Fits l s := by
  obtain ⟨h1, h2, h3, h4⟩ := h
  exact ⟨h1, h2, h3, fun k => ⟨(h4 k).1, (h4 k).2.1, (h4 k).2.2.1, (h4 k).2.2.2.1, (h4 k).2.2.2.2, fun q => hf ⟨k, q⟩⟩⟩

theorem Fits.not_full {l : List Tk} {s : Pt} (h : Fits l s) : ¬ Full l s := fun k => (h.2.2.2 k.1).2.2.2.2.2 k.2

theorem tk_mem {l : List Tk} {i : Int} (h0 : 0 ≤ i) (h : i < l.length) : tk l i ∈ l := by
  have hk : i.toNat < l.length := by omega
  unfold tk
  rw [List.getD_eq_getElem?_getD, List.getElem?_eq_getElem hk]
  exact List.getElem_mem hk

theorem Near.move {l : List Tk} (ok : ∀ t ∈ l, TkOk t) {s : Pt} (h : Near l s) (hf : Full l s) : Near l (s.1 + 1, 0, 0) := by
  have h1 := h.1
  have h2 := hf.1
  refine ⟨by simp; omega, by simp; omega, fun _ => ⟨rfl, rfl⟩, fun k => ?_⟩
  simp only at k
  have := ok _ (tk_mem (l := l) (i := s.1 + 1) (by omega) k)
  exact ⟨Int.le_refl _, this.1, Int.le_refl _, this.2.2.1, Or.inl rfl⟩

theorem past_fits {l : List Tk} (ok : ∀ t ∈ l, TkOk t) : ∀ (n : Nat) (s : Pt), Near l s → (l.length : Int) - s.1 ≤ n → Fits l (pastN l n s)
  | 0, s, h, hn => h.fits fun k => by have := k.1; omega
  | n + 1, s, h, hn => by
    unfold pastN
    by_cases hf : Full l s
    · rw [if_pos hf]
      exact past_fits ok n _ (h.move ok hf) (by simp; omega)
    · rw [if_neg hf]
      exact h.fits hf

theorem pastT_fits {l : List Tk} (ok : ∀ t ∈ l, TkOk t) {s : Pt} (h : Near l s) : Fits l (pastT l s) := past_fits ok _ s h (by omega)

theorem pastT_left {l : List Tk} {s : Pt} (h0 : 0 ≤ s.1) : leftT l (pastT l s) = leftT l s := past_left _ s h0

theorem pastT_still {l : List Tk} {s : Pt} (h : ¬ Full l s) : pastT l s = s := by
  unfold pastT
  cases ((l.length : Int) - s.1).toNat with
  | zero => rfl
  | succ n => unfold pastN; rw [if_neg h]

theorem pastT_move {l : List Tk} {s : Pt} (h : Full l s) : pastT l s = pastT l (s.1 + 1, 0, 0) := by
  have h1 := h.1
  unfold pastT
  have e : ((l.length : Int) - s.1).toNat = ((l.length : Int) - (s.1 + 1)).toNat + 1 := by omega
  rw [e]
  conv => lhs; unfold pastN
  rw [if_pos h]

/-- The spot before tasks are gone past, and what is broken: ClDrive, ClWork, ClOpen, ClServe. -/
def CanD (l : List Tk) (s : Pt) : Prop := s.1 < l.length ∧ s.2.1 < (tk l s.1).1
def CanW (l : List Tk) (s : Pt) : Prop := s.1 < l.length ∧ s.2.1 = (tk l s.1).1 ∧ s.2.2 < (tk l s.1).2.1

instance (l : List Tk) (s : Pt) : Decidable (CanD l s) := by unfold CanD; infer_instance
instance (l : List Tk) (s : Pt) : Decidable (CanW l s) := by unfold CanW; infer_instance

def goT (l : List Tk) (s : Pt) (k : Int) : Pt :=
  if k = 3 ∧ CanD l s then (s.1, s.2.1 + 1, s.2.2) else if k = 2 ∧ CanW l s then (s.1, s.2.1, s.2.2 + 1) else s

def stepT (l : List Tk) (s : Pt) (k : Int) : Pt := pastT l (goT l s k)

theorem go_near {l : List Tk} {s : Pt} (h : Fits l s) (k : Int) : Near l (goT l s k) := by
  have hn := h.near
  unfold goT
  by_cases h1 : k = 3 ∧ CanD l s
  · rw [if_pos h1]
    obtain ⟨_, c1, c2⟩ := h1
    obtain ⟨n1, n2, n3, n4⟩ := hn
    have n4 := n4 c1
    refine ⟨n1, n2, fun e => ?_, fun _ => ?_⟩
    · simp only at e; omega
    · simp only
      refine ⟨by omega, by omega, n4.2.2.1, n4.2.2.2.1, Or.inl ?_⟩
      omega
  · rw [if_neg h1]
    by_cases h2 : k = 2 ∧ CanW l s
    · rw [if_pos h2]
      obtain ⟨_, c1, c2, c3⟩ := h2
      obtain ⟨n1, n2, n3, n4⟩ := hn
      have n4 := n4 c1
      refine ⟨n1, n2, fun e => ?_, fun _ => ?_⟩
      · simp only at e; omega
      · exact ⟨n4.1, n4.2.1, by simp only; omega, by simp only; omega, Or.inr c2⟩
    · rw [if_neg h2]
      exact hn

theorem step_fits {l : List Tk} (ok : ∀ t ∈ l, TkOk t) {s : Pt} (h : Fits l s) (k : Int) : Fits l (stepT l s k) := pastT_fits ok (go_near h k)

theorem step_left {l : List Tk} {s : Pt} (h : Fits l s) (k : Int) :
    leftT l (stepT l s k) = if k = 3 ∧ CanD l s then ((leftT l s).1 - 1, (leftT l s).2) else if k = 2 ∧ CanW l s then ((leftT l s).1, (leftT l s).2 - 1) else leftT l s := by
  unfold stepT
  rw [pastT_left (go_near h k).1]
  unfold goT
  split
  · unfold leftT; ext <;> simp <;> omega
  · split
    · unfold leftT; ext <;> simp <;> omega
    · rfl

theorem step_still {l : List Tk} {s : Pt} (h : Fits l s) {k : Int} (h1 : ¬ (k = 3 ∧ CanD l s)) (h2 : ¬ (k = 2 ∧ CanW l s)) : stepT l s k = s := by
  unfold stepT goT
  rw [if_neg h1, if_neg h2]
  exact pastT_still h.not_full

/-- Nothing is left just if all is done. -/
theorem sum_pos {l : List Tk} (ok : ∀ t ∈ l, TkOk t) : 0 ≤ sumD l ∧ 0 ≤ sumS l := by
  induction l with
  | nil => exact ⟨Int.le_refl _, Int.le_refl _⟩
  | cons t l ih =>
    have h1 := ok t (List.mem_cons_self ..)
    have h2 := ih fun u hu => ok u (List.mem_cons_of_mem _ hu)
    unfold sumD sumS at *
    simp only [List.map_cons, List.sum_cons]
    unfold TkOk at h1
    omega

theorem left_none {l : List Tk} (ok : ∀ t ∈ l, TkOk t) {s : Pt} (h : Fits l s) : 0 ≤ (leftT l s).1 ∧ 0 ≤ (leftT l s).2 ∧ ((leftT l s).1 + (leftT l s).2 = 0 ↔ s.1 = l.length) := by
  obtain ⟨h1, h2, h3, h4⟩ := h
  by_cases he : s.1 = l.length
  · obtain ⟨e1, e2⟩ := h3 he
    have hd : l.drop s.1.toNat = [] := by rw [List.drop_eq_nil_iff]; omega
    unfold leftT
    rw [hd, e1, e2]
    simp [sumD, sumS, he]
  · have hlt : s.1 < l.length := by omega
    obtain ⟨f1, f2, f3, f4, f5, f6⟩ := h4 hlt
    have sp := sum_pos (l := l.drop (s.1 + 1).toNat) fun u hu => ok u (List.mem_of_mem_drop hu)
    unfold leftT
    rw [tk_drop h1 hlt]
    unfold sumD sumS at *
    simp only [List.map_cons, List.sum_cons]
    refine ⟨by omega, by omega, fun e => ?_, fun e => absurd e he⟩
    exact absurd ⟨by omega, by omega⟩ f6

end Go.Proofs.Ytolbihfnogbjaaa

/- A slice of tasks that can be read: each task's two numbers, and its windows. Conditions: none beyond each lemma's own premises. -/
namespace Go.Proofs.Ytolbihfnogbjaaa
open Go.RowKit

def tz : Tk := (0, 0, [])

/-- At the address A the tasks of l lie one behind the other (of no task nothing is asked). -/
def RdK (w : World) (A : Option Addr) (l : List Tk) : Prop :=
  l ≠ [] → ∃ b off, A = some ⟨b, off, none⟩ ∧ b < w.heap.size ∧ ∀ k, k < l.length → ∃ B c,
    w.cell? ⟨b, off + k * 3, none⟩ = some (.int .i64 (l.getD k tz).1) ∧ w.cell? ⟨b, off + k * 3 + 1, none⟩ = some (.int .i64 (l.getD k tz).2.1) ∧
      w.cell? ⟨b, off + k * 3 + 2, none⟩ = some (.slice B (l.getD k tz).2.2.length c) ∧ RdS w B (l.getD k tz).2.2

theorem RdK.nil (w : World) (A : Option Addr) : RdK w A [] := fun h => absurd rfl h

theorem RdK.at_ {w : World} {A : Option Addr} {l : List Tk} (h : RdK w A l) {k : Nat} (hk : k < l.length) : ∃ b off d v B n c, A = some ⟨b, off, none⟩ ∧ b < w.heap.size ∧
    w.cell? ⟨b, off + k * 3, none⟩ = some (.int .i64 d) ∧ w.cell? ⟨b, off + k * 3 + 1, none⟩ = some (.int .i64 v) ∧ w.cell? ⟨b, off + k * 3 + 2, none⟩ = some (.slice B n c) ∧
      Hid (∃ o : List Sp, l.getD k tz = (d, v, o) ∧ o.length = n ∧ RdS w B o) := by
  obtain ⟨b, off, hA, hb, hc⟩ := h (nonnil hk)
  obtain ⟨B, c, h1, h2, h3, h4⟩ := hc k hk
  exact ⟨b, off, _, _, B, _, c, hA, hb, h1, h2, h3, Lib.hid ⟨_, rfl, rfl, h4⟩⟩

theorem RdK.keep {w w' : World} {A : Option Addr} {l : List Tk} (h : RdK w A l) (hs : w.heap.size ≤ w'.heap.size) (hc : ∀ p : Addr, p.block < w.heap.size → w'.cell? p = w.cell? p) : RdK w' A l := fun hl => by
  obtain ⟨b, off, hA, hbb, hk⟩ := h hl
  refine ⟨b, off, hA, Nat.lt_of_lt_of_le hbb hs, fun k hk' => ?_⟩
  obtain ⟨B, c, h1, h2, h3, h4⟩ := hk k hk'
  exact ⟨B, c, by rw [hc ⟨b, _, none⟩ hbb]; exact h1, by rw [hc ⟨b, _, none⟩ hbb]; exact h2, by rw [hc ⟨b, _, none⟩ hbb]; exact h3, h4.keep hs hc⟩

theorem RdK.below {w w' : World} {A : Option Addr} {l : List Tk} (h : RdK w A l) (hb : Below w.heap.size w w') : RdK w' A l :=
  h.keep hb.size fun _ hp => hb.cell hp

/-- Below block n all is as it was: tasks that lie there can be read. -/
def RdKn (n : Nat) (w : World) (A : Option Addr) (l : List Tk) : Prop := ∃ w0 : World, w0.heap.size = n ∧ RdK w0 A l ∧ Below n w0 w

theorem RdKn.rd {n : Nat} {w : World} {A : Option Addr} {l : List Tk} (h : RdKn n w A l) : RdK w A l := by
  obtain ⟨w0, rfl, h0, hb⟩ := h
  exact h0.below hb
theorem RdKn.below {n : Nat} {w w' : World} {A : Option Addr} {l : List Tk} (h : RdKn n w A l) (hb : Below n w w') : RdKn n w' A l := by
  obtain ⟨w0, h0, h1, hb0⟩ := h
  exact ⟨w0, h0, h1, hb0.trans hb⟩
theorem RdKn.of {w : World} {A : Option Addr} {l : List Tk} (h : RdK w A l) : RdKn w.heap.size w A l := ⟨w, rfl, h, Below.refl _ _⟩

/-- The windows are few enough for what the library says of slices. -/
def Few (l : List Tk) : Prop := ∀ t ∈ l, t.2.2.length ≤ 4611686018427387904

theorem Few.at_ {l : List Tk} (h : Few l) {k : Nat} (hk : k < l.length) {d v : Int} {o : List Sp} (e : l.getD k tz = (d, v, o)) : o.length ≤ 4611686018427387904 := by
  have : l.getD k tz ∈ l := by
    rw [List.getD_eq_getElem?_getD, List.getElem?_eq_getElem hk]; exact List.getElem_mem hk
  have h1 := h _ this
  rw [e] at h1; exact h1

theorem tk_nat {l : List Tk} {i : Int} {k : Nat} (e : i = (k : Int)) : tk l i = l.getD k tz := by subst e; rfl

end Go.Proofs.Ytolbihfnogbjaaa

/- Tasks in plain words, part two: what is wrong with tasks and a spot, and minutes one behind the other, with the first ones that break clauses. Conditions: none beyond each lemma's own premises. -/
namespace Go.Proofs.Ytolbihfnogbjaaa

theorem task_low {d v : Int} {o : List Sp} (h : d < 0 ∨ 10080 < d ∨ v < 0 ∨ 1440 < v) : taskV (d, v, o) = 4 := by unfold taskV; rw [if_pos h]
theorem task_win {d v : Int} {o : List Sp} (h : ¬ (d < 0 ∨ 10080 < d ∨ v < 0 ∨ 1440 < v)) (hv : 0 < v) : taskV (d, v, o) = checkW o := by
  unfold taskV; rw [if_neg h]; simp only; rw [if_pos hv]
theorem task_arg {d v : Int} {o : List Sp} (h : ¬ (d < 0 ∨ 10080 < d ∨ v < 0 ∨ 1440 < v)) (hv : ¬ 0 < v) (ho : 0 < o.length) : taskV (d, v, o) = 1 := by
  unfold taskV; rw [if_neg h]; simp only; rw [if_neg hv, if_neg (by rintro rfl; cases ho)]
theorem task_ok {d v : Int} {o : List Sp} (h : ¬ (d < 0 ∨ 10080 < d ∨ v < 0 ∨ 1440 < v)) (hv : ¬ 0 < v) (ho : ¬ 0 < o.length) : taskV (d, v, o) = 0 := by
  unfold taskV; rw [if_neg h]; simp only; rw [if_neg hv, if_pos (List.eq_nil_of_length_eq_zero (by omega))]

theorem task_right {t : Tk} (h : taskV t = 0) : TkOk t := by
  unfold taskV at h
  unfold TkOk
  split at h
  · cases h
  · rename_i hn; omega

/-- The first task that is wrong, by the error's number. -/
def firstT : List Tk → Int
  | [] => 0
  | t :: l => if taskV t = 0 then firstT l else taskV t

def checkT (l : List Tk) : Int := if 2001 < l.length then 12 else firstT l

theorem first_at : ∀ {l : List Tk} {k : Nat} {e : Int}, k < l.length → (∀ j, j < k → taskV (l.getD j tz) = 0) → taskV (l.getD k tz) = e → e ≠ 0 → firstT l = e
  | t :: l, 0, e, _, _, he, hne => by
    have h1 : taskV t = e := he
    unfold firstT; rw [if_neg (by rw [h1]; exact hne), h1]
  | t :: l, k + 1, e, hk, h, he, hne => by
    have h0 : taskV t = 0 := h 0 (by omega)
    unfold firstT; rw [if_pos h0]
    exact first_at (by simpa using hk) (fun j hj => by have := h (j + 1) (by omega); simpa using this) (by simpa using he) hne

theorem first_none : ∀ {l : List Tk}, (∀ j, j < l.length → taskV (l.getD j tz) = 0) → firstT l = 0
  | [], _ => rfl
  | t :: l, h => by
    have h0 : taskV t = 0 := h 0 (by simp)
    unfold firstT; rw [if_pos h0]
    exact first_none fun j hj => by have := h (j + 1) (by simpa using hj); simpa using this

theorem first_zero : ∀ {l : List Tk}, firstT l = 0 → ∀ t ∈ l, TkOk t
  | t :: l, h, u, hu => by
    unfold firstT at h
    by_cases h0 : taskV t = 0
    · rw [if_pos h0] at h
      rcases List.mem_cons.1 hu with rfl | hu
      · exact task_right h0
      · exact first_zero h u hu
    · rw [if_neg h0] at h; exact absurd h h0

theorem checkt_many {l : List Tk} (h : 2001 < l.length) : checkT l = 12 := if_pos h
theorem checkt_at {l : List Tk} {k : Nat} {e : Int} (h0 : ¬ 2001 < l.length) (hk : k < l.length) (h : ∀ j, j < k → taskV (l.getD j tz) = 0) (he : taskV (l.getD k tz) = e) (hne : e ≠ 0) : checkT l = e := by
  unfold checkT; rw [if_neg h0]; exact first_at hk h he hne
theorem checkt_none {l : List Tk} (h0 : ¬ 2001 < l.length) (h : ∀ j, j < l.length → taskV (l.getD j tz) = 0) : checkT l = 0 := by
  unfold checkT; rw [if_neg h0]; exact first_none h
theorem checkt_zero {l : List Tk} (h : checkT l = 0) : (∀ t ∈ l, TkOk t) ∧ l.length ≤ 2001 := by
  unfold checkT at h
  by_cases h0 : 2001 < l.length
  · rw [if_pos h0] at h; cases h
  · rw [if_neg h0] at h; exact ⟨first_zero h, by omega⟩

/-- What is wrong with the tasks, or with the spot. -/
def spotV (l : List Tk) (s : Pt) : Int := if checkT l = 0 then (if Fits l s then 0 else 1) else checkT l

theorem spot_bad {l : List Tk} {s : Pt} {e : Int} (h : checkT l = e) (hne : e ≠ 0) : spotV l s = e := by unfold spotV; rw [h, if_neg hne]
theorem spot_no {l : List Tk} {s : Pt} (h : checkT l = 0) (hf : ¬ Fits l s) : spotV l s = 1 := by unfold spotV; rw [if_pos h, if_neg hf]
theorem spot_yes {l : List Tk} {s : Pt} (h : checkT l = 0) (hf : Fits l s) : spotV l s = 0 := by unfold spotV; rw [if_pos h, if_pos hf]
theorem spot_zero {l : List Tk} {s : Pt} (h : spotV l s = 0) : checkT l = 0 ∧ Fits l s := by
  unfold spotV at h
  by_cases h0 : checkT l = 0
  · rw [if_pos h0] at h
    by_cases h1 : Fits l s
    · exact ⟨h0, h1⟩
    · rw [if_neg h1] at h; cases h
  · rw [if_neg h0] at h; exact absurd h h0

theorem fits_start {l : List Tk} (ok : ∀ t ∈ l, TkOk t) : Near l (0, 0, 0) :=
  ⟨Int.le_refl _, by simp, fun _ => ⟨rfl, rfl⟩, fun k => by
    have := ok _ (tk_mem (l := l) (i := 0) (Int.le_refl _) k)
    exact ⟨Int.le_refl _, this.1, Int.le_refl _, this.2.2.1, Or.inl rfl⟩⟩

/-! ### Minutes, one behind the other -/

/-- The first minutes that break ClDrive, ClWork, ClOpen, ClServe (or -1). -/
abbrev Fs := Int × Int × Int × Int

def noteF (f : Int) (b : Bool) (m : Int) : Int := if b = true ∧ f < 0 then m else f

theorem note_no (f m : Int) : noteF f false m = f := by unfold noteF; rw [if_neg (by simp)]
theorem note_old {f : Int} (h : 0 ≤ f) (b : Bool) (m : Int) : noteF f b m = f := by unfold noteF; rw [if_neg (by omega)]
theorem note_again (f : Int) (b : Bool) (m : Int) : noteF (noteF f b m) b m = noteF f b m := by
  unfold noteF; repeat' split
  all_goals first | rfl | omega
theorem note_set {f m : Int} (hm : 0 ≤ m) : 0 ≤ noteF f true m := by unfold noteF; split <;> simp_all

def b0 (l : List Tk) (s : Pt) (k : Int) : Bool := decide (k = 3 ∧ ¬ CanD l s)
def b1 (l : List Tk) (s : Pt) (k : Int) : Bool := decide (k = 2 ∧ ¬ CanW l s)
def b2 (l : List Tk) (s : Pt) (m k : Int) : Bool := decide (k = 2 ∧ CanW l s ∧ s.2.2 = 0 ∧ hasL (tk l s.1).2.2 m = false)
def b3 (s : Pt) (k : Int) : Bool := decide (0 < s.2.2 ∧ k ≠ 2)

/-- One minute m of kind k. -/
def minT (l : List Tk) (k m : Int) (st : Pt × Fs) : Pt × Fs :=
  (stepT l st.1 k, noteF st.2.1 (b0 l st.1 k) m, noteF st.2.2.1 (b1 l st.1 k) m, noteF st.2.2.2.1 (b2 l st.1 m k) m, noteF st.2.2.2.2 (b3 st.1 k) m)

/-- n minutes of kind k, from m on. -/
def runK (l : List Tk) (k : Int) : Nat → Int → Pt × Fs → Pt × Fs
  | 0, _, st => st
  | n + 1, m, st => runK l k n (m + 1) (minT l k m st)

theorem runK_add (l : List Tk) (k : Int) : ∀ (a b : Nat) (m : Int) (st : Pt × Fs), runK l k (a + b) m st = runK l k b (m + a) (runK l k a m st)
  | 0, b, m, st => by simp [runK]
  | a + 1, b, m, st => by
    have e : a + 1 + b = (a + b) + 1 := by omega
    rw [e]
    show runK l k (a + b) (m + 1) (minT l k m st) = runK l k b (m + (a + 1 : Nat)) (runK l k a (m + 1) (minT l k m st))
    rw [runK_add l k a b]
    congr 1; omega

theorem runK_snoc (l : List Tk) (k : Int) (n : Nat) (m : Int) (st : Pt × Fs) : runK l k (n + 1) m st = minT l k (m + n) (runK l k n m st) := by
  rw [runK_add]; rfl

theorem runK_fits {l : List Tk} (ok : ∀ t ∈ l, TkOk t) (k : Int) : ∀ (n : Nat) (m : Int) (st : Pt × Fs), Fits l st.1 → Fits l (runK l k n m st).1
  | 0, _, _, h => h
  | n + 1, m, st, h => runK_fits ok k n (m + 1) (minT l k m st) (step_fits ok h k)

/-- What is broken off is so with the first minute. -/
theorem runK_pre (l : List Tk) (k : Int) (n : Nat) (m : Int) (s : Pt) (f0 f1 f2 f3 : Int) : runK l k (n + 1) m (s, f0, f1, f2, noteF f3 (b3 s k) m) = runK l k (n + 1) m (s, f0, f1, f2, f3) := by
  unfold runK minT
  simp only [note_again]

theorem min_still {l : List Tk} {s : Pt} (h : Fits l s) {k m : Int} {f0 f1 f2 f3 : Int} (hd : k = 3 → ¬ CanD l s) (hw : k = 2 → ¬ CanW l s) (h0 : k = 3 → 0 ≤ f0) (h1 : k = 2 → 0 ≤ f1) (h3 : k ≠ 2 → 0 < s.2.2 → 0 ≤ f3) :
    minT l k m (s, f0, f1, f2, f3) = (s, f0, f1, f2, f3) := by
  unfold minT
  simp only
  rw [step_still h (fun c => hd c.1 c.2) (fun c => hw c.1 c.2)]
  have e0 : noteF f0 (b0 l s k) m = f0 := by
    by_cases hk : k = 3
    · exact note_old (h0 hk) _ _
    · have : b0 l s k = false := by unfold b0; simp [hk]
      rw [this, note_no]
  have e1 : noteF f1 (b1 l s k) m = f1 := by
    by_cases hk : k = 2
    · exact note_old (h1 hk) _ _
    · have : b1 l s k = false := by unfold b1; simp [hk]
      rw [this, note_no]
  have e2 : noteF f2 (b2 l s m k) m = f2 := by
    have : b2 l s m k = false := by unfold b2; rw [decide_eq_false]; exact fun c => hw c.1 c.2.1
    rw [this, note_no]
  have e3 : noteF f3 (b3 s k) m = f3 := by
    by_cases hc : 0 < s.2.2 ∧ k ≠ 2
    · exact note_old (h3 hc.2 hc.1) _ _
    · have : b3 s k = false := by unfold b3; exact decide_eq_false hc
      rw [this, note_no]
  rw [e0, e1, e2, e3]

theorem runK_still {l : List Tk} {s : Pt} (h : Fits l s) {k : Int} {f0 f1 f2 f3 : Int} (hd : k = 3 → ¬ CanD l s) (hw : k = 2 → ¬ CanW l s) (h0 : k = 3 → 0 ≤ f0) (h1 : k = 2 → 0 ≤ f1) (h3 : k ≠ 2 → 0 < s.2.2 → 0 ≤ f3) :
    ∀ (n : Nat) (m : Int), runK l k n m (s, f0, f1, f2, f3) = (s, f0, f1, f2, f3)
  | 0, _ => rfl
  | n + 1, m => by
    unfold runK
    rw [min_still h hd hw h0 h1 h3]
    exact runK_still h hd hw h0 h1 h3 n (m + 1)

/-- Rests. -/
theorem runK_rest {l : List Tk} {s : Pt} (h : Fits l s) {k : Int} {f0 f1 f2 f3 : Int} (hd : k ≠ 3) (hw : k ≠ 2) (h3 : 0 < s.2.2 → 0 ≤ f3) (n : Nat) (m : Int) :
    runK l k n m (s, f0, f1, f2, f3) = (s, f0, f1, f2, f3) :=
  runK_still h (fun c => absurd c hd) (fun c => absurd c hw) (fun c => absurd c hd) (fun c => absurd c hw) (fun _ => h3) n m

/-- Driving where there is none to do. -/
theorem runK_nodrive {l : List Tk} {s : Pt} (h : Fits l s) {f0 f1 f2 f3 : Int} (hd : ¬ CanD l s) (h3 : 0 < s.2.2 → 0 ≤ f3) {m : Int} (hm : 0 ≤ m) (n : Nat) :
    runK l 3 (n + 1) m (s, f0, f1, f2, f3) = (s, noteF f0 true m, f1, f2, f3) := by
  unfold runK
  have e : minT l 3 m (s, f0, f1, f2, f3) = (s, noteF f0 true m, f1, f2, f3) := by
    unfold minT
    simp only
    rw [step_still h (fun c => hd c.2) (fun c => absurd c.1 (by decide))]
    have e0 : b0 l s 3 = true := by unfold b0; simp [hd]
    have e1 : b1 l s 3 = false := by unfold b1; simp
    have e2 : b2 l s m 3 = false := by unfold b2; simp
    rw [e0, e1, e2, note_no, note_no]
    by_cases hc : 0 < s.2.2
    · rw [note_old (h3 hc)]
    · have : b3 s 3 = false := by unfold b3; exact decide_eq_false fun k => hc k.1
      rw [this, note_no]
  rw [e]
  exact runK_still h (fun _ => hd) (fun c => absurd c (by decide)) (fun _ => note_set hm) (fun c => absurd c (by decide)) (fun _ => h3) n _

/-- Work where there is none to do. -/
theorem runK_nowork {l : List Tk} {s : Pt} (h : Fits l s) {f0 f1 f2 f3 : Int} (hw : ¬ CanW l s) {m : Int} (hm : 0 ≤ m) (n : Nat) :
    runK l 2 (n + 1) m (s, f0, f1, f2, f3) = (s, f0, noteF f1 true m, f2, f3) := by
  unfold runK
  have e : minT l 2 m (s, f0, f1, f2, f3) = (s, f0, noteF f1 true m, f2, f3) := by
    unfold minT
    simp only
    rw [step_still h (fun c => absurd c.1 (by decide)) (fun c => hw c.2)]
    have e0 : b0 l s 2 = false := by unfold b0; simp
    have e1 : b1 l s 2 = true := by unfold b1; simp [hw]
    have e2 : b2 l s m 2 = false := by unfold b2; rw [decide_eq_false]; exact fun c => hw c.2.1
    have e3 : b3 s 2 = false := by unfold b3; simp
    rw [e0, e1, e2, e3, note_no, note_no, note_no]
  rw [e]
  exact runK_still h (fun c => absurd c (by decide)) (fun _ => hw) (fun c => absurd c (by decide)) (fun _ => note_set hm) (fun c => absurd rfl c) n _

theorem fits_undriven {l : List Tk} {s : Pt} (h : Fits l s) (hd : CanD l s) : s.2.2 = 0 := by
  have := (h.2.2.2 hd.1).2.2.2.2.1
  have := hd.2
  omega

/-- One minute of driving. -/
theorem min_drive {l : List Tk} {s : Pt} (h : Fits l s) (hd : CanD l s) (m : Int) (f0 f1 f2 f3 : Int) : minT l 3 m (s, f0, f1, f2, f3) = (pastT l (s.1, s.2.1 + 1, s.2.2), f0, f1, f2, f3) := by
  have hz := fits_undriven h hd
  unfold minT stepT goT
  simp only
  have e0 : b0 l s 3 = false := by unfold b0; simp [hd]
  have e1 : b1 l s 3 = false := by unfold b1; simp
  have e2 : b2 l s m 3 = false := by unfold b2; simp
  have e3 : b3 s 3 = false := by unfold b3; simp [hz]
  rw [e0, e1, e2, e3, note_no, note_no, note_no, note_no, if_pos ⟨trivial, hd⟩]

theorem runK_drive {l : List Tk} (ok : ∀ t ∈ l, TkOk t) : ∀ (n : Nat) {s : Pt} (_ : Fits l s) (_ : CanD l s) (m : Int) (f0 f1 f2 f3 : Int), (n : Int) + 1 ≤ (tk l s.1).1 - s.2.1 →
    runK l 3 (n + 1) m (s, f0, f1, f2, f3) = (pastT l (s.1, s.2.1 + (n + 1), s.2.2), f0, f1, f2, f3)
  | 0, s, h, hd, m, f0, f1, f2, f3, _ => by
    unfold runK runK
    rw [min_drive h hd]
    simp
  | n + 1, s, h, hd, m, f0, f1, f2, f3, hn => by
    unfold runK
    rw [min_drive h hd]
    have hlt : s.2.1 + 1 < (tk l s.1).1 := by omega
    have hnf : ¬ Full l (s.1, s.2.1 + 1, s.2.2) := fun c => by have := c.2.1; simp only at this; omega
    have hf := step_fits ok h 3
    have e : stepT l s 3 = (s.1, s.2.1 + 1, s.2.2) := by
      unfold stepT goT; rw [if_pos ⟨rfl, hd⟩, pastT_still hnf]
    rw [e] at hf
    rw [pastT_still hnf, runK_drive ok n hf ⟨hd.1, hlt⟩ (m + 1) f0 f1 f2 f3 (by simp only; omega)]
    simp only
    congr 2
    ext <;> simp
    omega

/-- One minute of work. -/
theorem min_work {l : List Tk} {s : Pt} (hw : CanW l s) (m : Int) (f0 f1 f2 f3 : Int) :
    minT l 2 m (s, f0, f1, f2, f3) = (pastT l (s.1, s.2.1, s.2.2 + 1), f0, f1, noteF f2 (decide (s.2.2 = 0 ∧ hasL (tk l s.1).2.2 m = false)) m, f3) := by
  unfold minT stepT goT
  simp only
  have e0 : b0 l s 2 = false := by unfold b0; simp
  have e1 : b1 l s 2 = false := by unfold b1; simp [hw]
  have e2 : b2 l s m 2 = decide (s.2.2 = 0 ∧ hasL (tk l s.1).2.2 m = false) := by unfold b2; simp [hw]
  have e3 : b3 s 2 = false := by unfold b3; simp
  rw [e0, e1, e2, e3, note_no, note_no, note_no, if_neg (fun c => absurd c.1 (by decide)), if_pos ⟨trivial, hw⟩]

theorem runK_work {l : List Tk} (ok : ∀ t ∈ l, TkOk t) : ∀ (n : Nat) {s : Pt} (_ : Fits l s) (_ : CanW l s) (m : Int) (f0 f1 f2 f3 : Int), (n : Int) + 1 ≤ (tk l s.1).2.1 - s.2.2 →
    runK l 2 (n + 1) m (s, f0, f1, f2, f3) = (pastT l (s.1, s.2.1, s.2.2 + (n + 1)), f0, f1, noteF f2 (decide (s.2.2 = 0 ∧ hasL (tk l s.1).2.2 m = false)) m, f3)
  | 0, s, h, hw, m, f0, f1, f2, f3, _ => by
    unfold runK runK
    rw [min_work hw]
    simp
  | n + 1, s, h, hw, m, f0, f1, f2, f3, hn => by
    have hs := (h.2.2.2 hw.1).2.2.1
    unfold runK
    rw [min_work hw]
    have hlt : s.2.2 + 1 < (tk l s.1).2.1 := by omega
    have hnf : ¬ Full l (s.1, s.2.1, s.2.2 + 1) := fun c => by have := c.2.2; simp only at this; omega
    have hf := step_fits ok h 2
    have e : stepT l s 2 = (s.1, s.2.1, s.2.2 + 1) := by
      unfold stepT goT; rw [if_neg (fun c => absurd c.1 (by decide)), if_pos ⟨rfl, hw⟩, pastT_still hnf]
    rw [e] at hf
    rw [pastT_still hnf, runK_work ok n hf ⟨hw.1, hw.2.1, hlt⟩ (m + 1) f0 f1 _ f3 (by simp only; omega)]
    simp only
    have e2 : decide (s.2.2 + 1 = 0 ∧ hasL (tk l s.1).2.2 (m + 1) = false) = false := decide_eq_false fun c => by omega
    rw [e2, note_no]
    congr 2
    ext <;> simp
    omega

theorem past_unserved {l : List Tk} : ∀ (n : Nat) (s : Pt), s.2.2 = 0 → (pastN l n s).2.2 = 0
  | 0, _, h => h
  | n + 1, s, h => by
    unfold pastN
    by_cases hf : Full l s
    · rw [if_pos hf]; exact past_unserved n _ rfl
    · rw [if_neg hf]; exact h

theorem pastT_unserved {l : List Tk} {s : Pt} (h : s.2.2 = 0) : (pastT l s).2.2 = 0 := past_unserved _ _ h

/-- What Over answers: the spot, the first minutes, the error. -/
def overK (l : List Tk) (s : Pt) (k a b : Int) : Pt × Fs × Int :=
  if spotV l s = 0 then (if aloneV k a b = 0 then ((runK l k (b - a).toNat a (s, -1, -1, -1, -1)).1, (runK l k (b - a).toNat a (s, -1, -1, -1, -1)).2, 0) else ((0, 0, 0), (0, 0, 0, 0), aloneV k a b)) else ((0, 0, 0), (0, 0, 0, 0), spotV l s)

theorem over_spot {l : List Tk} {s : Pt} {k a b e : Int} (h : spotV l s = e) (hne : e ≠ 0) : overK l s k a b = ((0, 0, 0), (0, 0, 0, 0), e) := by unfold overK; rw [h, if_neg hne]
theorem over_rec {l : List Tk} {s : Pt} {k a b e : Int} (h : spotV l s = 0) (he : aloneV k a b = e) (hne : e ≠ 0) : overK l s k a b = ((0, 0, 0), (0, 0, 0, 0), e) := by unfold overK; rw [if_pos h, he, if_neg hne]
theorem over_ok {l : List Tk} {s n : Pt} {k a b : Int} {f : Fs} (h : spotV l s = 0) (he : aloneV k a b = 0) (hr : runK l k (b - a).toNat a (s, -1, -1, -1, -1) = (n, f)) : overK l s k a b = (n, f, 0) := by unfold overK; rw [if_pos h, if_pos he, hr]

end Go.Proofs.Ytolbihfnogbjaaa

/- The block in which a spot goes on, and what breaks of layer 19 leaves in it. Conditions: the block lies in memory. -/
namespace Go.Proofs.Ytolbihfnogbjaaa
open Go.RowKit

/-- The cells of a walk: the tasks, the spot, the first minutes. -/
def wk (A : Option Addr) (n c : Nat) (s : Pt) (f0 f1 f2 f3 : Int) : Array Value :=
  #[.slice A n c, .int .i64 s.1, .int .i64 s.2.1, .int .i64 s.2.2, .int .i64 f0, .int .i64 f1, .int .i64 f2, .int .i64 f3]

theorem note_yes {f m : Int} (h : f < 0) : noteF f true m = m := if_pos ⟨rfl, h⟩

set_option maxRecDepth 20000 in
set_option maxHeartbeats 2000000 in
theorem breaks19_0 (g : Nat) (A : Option Addr) (n c : Nat) (s : Pt) (f0 f1 f2 f3 m : Int) (w : World) (hB : Bx w g 123 (wk A n c s f0 f1 f2 f3)) :
    Calls Try.prog 59 #[.pointer (some ⟨g, 0, none⟩), .int .i64 10, .int .i64 m] w fun e w' => e = .returned (.tuple #[]) ∧ Upd w g 123 (wk A n c s (noteF f0 true m) f1 f2 f3) w' := by
  have p : w.cell? ⟨g, 4, none⟩ = some (.int .i64 f0) := hB.cell (k := 4) rfl
  have hlt := hB.lt
  by_cases h : f0 < 0
  · rw [note_yes h]
    go_enter Try.func59, Try.ntmps59
    go_wp2_with (refine wpList_store_fld (by rfl) 3 _ _ rfl g 4 (.int .i64 m) rfl rfl rfl 123 (wk A n c s f0 f1 f2 f3) hB (show 4 < 8 by decide) (by kernel_rfl) (fun w1 u => ?_))
    refine bodyPost_end (results_none Try.results59 _ _ _) rfl ⟨rfl, u⟩
  · have h' : 0 ≤ f0 := by omega
    rw [note_old h']
    clear h
    go_enter Try.func59, Try.ntmps59
    go_wp2
    refine bodyPost_end (results_none Try.results59 _ _ _) rfl ⟨rfl, Upd.same hB⟩

set_option maxRecDepth 20000 in
set_option maxHeartbeats 2000000 in
theorem breaks19_1 (g : Nat) (A : Option Addr) (n c : Nat) (s : Pt) (f0 f1 f2 f3 m : Int) (w : World) (hB : Bx w g 123 (wk A n c s f0 f1 f2 f3)) :
    Calls Try.prog 59 #[.pointer (some ⟨g, 0, none⟩), .int .i64 11, .int .i64 m] w fun e w' => e = .returned (.tuple #[]) ∧ Upd w g 123 (wk A n c s f0 (noteF f1 true m) f2 f3) w' := by
  have p : w.cell? ⟨g, 5, none⟩ = some (.int .i64 f1) := hB.cell (k := 5) rfl
  have hlt := hB.lt
  by_cases h : f1 < 0
  · rw [note_yes h]
    go_enter Try.func59, Try.ntmps59
    go_wp2_with (refine wpList_store_fld (by rfl) 3 _ _ rfl g 5 (.int .i64 m) rfl rfl rfl 123 (wk A n c s f0 f1 f2 f3) hB (show 5 < 8 by decide) (by kernel_rfl) (fun w1 u => ?_))
    refine bodyPost_end (results_none Try.results59 _ _ _) rfl ⟨rfl, u⟩
  · have h' : 0 ≤ f1 := by omega
    rw [note_old h']
    clear h
    go_enter Try.func59, Try.ntmps59
    go_wp2
    refine bodyPost_end (results_none Try.results59 _ _ _) rfl ⟨rfl, Upd.same hB⟩

set_option maxRecDepth 20000 in
set_option maxHeartbeats 2000000 in
theorem breaks19_2 (g : Nat) (A : Option Addr) (n c : Nat) (s : Pt) (f0 f1 f2 f3 m : Int) (w : World) (hB : Bx w g 123 (wk A n c s f0 f1 f2 f3)) :
    Calls Try.prog 59 #[.pointer (some ⟨g, 0, none⟩), .int .i64 12, .int .i64 m] w fun e w' => e = .returned (.tuple #[]) ∧ Upd w g 123 (wk A n c s f0 f1 (noteF f2 true m) f3) w' := by
  have p : w.cell? ⟨g, 6, none⟩ = some (.int .i64 f2) := hB.cell (k := 6) rfl
  have hlt := hB.lt
  by_cases h : f2 < 0
  · rw [note_yes h]
    go_enter Try.func59, Try.ntmps59
    go_wp2_with (refine wpList_store_fld (by rfl) 3 _ _ rfl g 6 (.int .i64 m) rfl rfl rfl 123 (wk A n c s f0 f1 f2 f3) hB (show 6 < 8 by decide) (by kernel_rfl) (fun w1 u => ?_))
    refine bodyPost_end (results_none Try.results59 _ _ _) rfl ⟨rfl, u⟩
  · have h' : 0 ≤ f2 := by omega
    rw [note_old h']
    clear h
    go_enter Try.func59, Try.ntmps59
    go_wp2
    refine bodyPost_end (results_none Try.results59 _ _ _) rfl ⟨rfl, Upd.same hB⟩

set_option maxRecDepth 20000 in
set_option maxHeartbeats 2000000 in
theorem breaks19_3 (g : Nat) (A : Option Addr) (n c : Nat) (s : Pt) (f0 f1 f2 f3 m : Int) (w : World) (hB : Bx w g 123 (wk A n c s f0 f1 f2 f3)) :
    Calls Try.prog 59 #[.pointer (some ⟨g, 0, none⟩), .int .i64 13, .int .i64 m] w fun e w' => e = .returned (.tuple #[]) ∧ Upd w g 123 (wk A n c s f0 f1 f2 (noteF f3 true m)) w' := by
  have p : w.cell? ⟨g, 7, none⟩ = some (.int .i64 f3) := hB.cell (k := 7) rfl
  have hlt := hB.lt
  by_cases h : f3 < 0
  · rw [note_yes h]
    go_enter Try.func59, Try.ntmps59
    go_wp2_with (refine wpList_store_fld (by rfl) 3 _ _ rfl g 7 (.int .i64 m) rfl rfl rfl 123 (wk A n c s f0 f1 f2 f3) hB (show 7 < 8 by decide) (by kernel_rfl) (fun w1 u => ?_))
    refine bodyPost_end (results_none Try.results59 _ _ _) rfl ⟨rfl, u⟩
  · have h' : 0 ≤ f3 := by omega
    rw [note_old h']
    clear h
    go_enter Try.func59, Try.ntmps59
    go_wp2
    refine bodyPost_end (results_none Try.results59 _ _ _) rfl ⟨rfl, Upd.same hB⟩

end Go.Proofs.Ytolbihfnogbjaaa

/- What the statements' Light answers. Conditions: the tasks can be read. -/
namespace Go.Proofs.Ytolbihfnogbjaaa
open Go.RowKit

/-- At most forty tasks, each with at most twenty windows. -/
def LightK (l : List Tk) : Prop := l.length ≤ 40 ∧ ∀ j, j < l.length → (l.getD j tz).2.2.length ≤ 20
theorem LightK.few {l : List Tk} (h : LightK l) : Few l := fun t ht => by
  obtain ⟨i, hi, rfl⟩ := List.getElem_of_mem ht
  have := h.2 i hi
  rw [List.getD_eq_getElem?_getD, List.getElem?_eq_getElem hi] at this
  simp only [Option.getD_some] at this
  omega

open Classical in
set_option maxRecDepth 20000 in
set_option maxHeartbeats 2000000 in
theorem light19_any (A : Option Addr) (n c : Nat) (l : List Tk) (hn : l.length = n) (w : World) (h : RdK w A l) :
    Calls Try.prog 6 #[.slice A n c] w fun e w' => e = .returned (.bool (decide (LightK l))) ∧ Below w.heap.size w w' := by
  by_cases hm : 40 < n
  case pos =>
    rw [decide_eq_false (show ¬ LightK l from fun k => by have := k.1; omega)]
    have hm' : (40 : Int) < (n : Int) := by omega
    clear h
    go_enter Try.func6, Try.ntmps6
    go_wp2
    go_ret
    exact ⟨rfl, by (repeat (first | exact Below.refl _ _ | (refine b_st ?_ (by first | (simp; done) | (simp; omega))) | (refine b_al ?_ (Nat.le_refl _) _) | refine b_dn ?_ | refine b_dr ?_ | (refine b_cl ?_ (Nat.le_refl _) (by assumption))))⟩
  have hm' : (n : Int) ≤ 40 := by omega
  obtain ⟨V, hV⟩ : ∃ V, decide (LightK l) = V := ⟨_, rfl⟩
  have HV := Lib.hid hV
  rw [hV]
  clear hV
  have HN := Lib.hid hn
  go_enter Try.func6, Try.ntmps6
  go_wp2
  go_loopw [10] (fun i wr => ∃ k : Nat, k ≤ n ∧ i = .int .i64 k ∧ Below w.heap.size w wr ∧ Hid (∀ j, j < k → (l.getD j tz).2.2.length ≤ 20)) (fun i _ => n - (intOf i).toNat)
  case atStart => exact ⟨0, Nat.zero_le _, rfl, Below.refl _ _, Lib.hid (fun j hj => by omega)⟩
  case round =>
    obtain ⟨k, hk, rfl, hb, hA⟩ := hrel
    obtain ⟨w2, rfl⟩ : ∃ w2 : World, w2 = wr := ⟨_, rfl⟩
    have hsz := hb.size
    by_cases hlt : k < n
    · obtain ⟨b, off, d, v, B, q, u, rfl, hbb, h0, h1, h2, hs⟩ := (h.below hb).at_ (k := k) (by omega)
      obtain ⟨o, ho, hq, hr⟩ := hs.out
      have HO := Lib.hid (show (l.getD k tz).2.2.length = q by rw [ho]; exact hq)
      clear hs ho hq hr hn
      by_cases hq : 20 < q
      · have hq' : (20 : Int) < (q : Int) := by omega
        have HE := Lib.hid (decide_eq_false (show ¬ LightK l from fun c => by have h1 := c.2 k (by have := HN.out; omega); have h2 := HO.out; omega))
        go_wp2
        go_ret
        refine ⟨?_, by (repeat (first | exact Below.refl _ _ | (refine b_st ?_ (by first | (simp; done) | (simp; omega))) | (refine b_al ?_ (Nat.le_refl _) _) | refine b_dn ?_ | refine b_dr ?_ | (refine b_cl ?_ (Nat.le_refl _) (by assumption))))⟩
        rw [← HV.out, HE.out]; rfl
      · have hq' : (q : Int) ≤ 20 := by omega
        have HX := Lib.hid (show (l.getD k tz).2.2.length ≤ 20 by have := HO.out; omega)
        go_wp2
        go_roundw
        case rel => exact ⟨k + 1, by omega, by go_num, by (repeat (first | exact Below.refl _ _ | (refine b_st ?_ (by first | (simp; done) | (simp; omega))) | (refine b_al ?_ (Nat.le_refl _) _) | refine b_dn ?_ | refine b_dr ?_ | (refine b_cl ?_ (Nat.le_refl _) (by assumption)))), Lib.hid (fun j hj => by
          by_cases e : j = k
          · subst e; exact HX.out
          · exact hA.out j (by omega))⟩
        case measure => simp [intOf]; omega
    · have HE := Lib.hid (decide_eq_true (show LightK l from ⟨by have := HN.out; omega, fun j hj => hA.out j (by have := HN.out; omega)⟩))
      go_wp2
      go_ret
      refine ⟨?_, hb⟩
      rw [← HV.out, HE.out]; rfl

end Go.Proofs.Ytolbihfnogbjaaa

/- A slice of tasks, a spot, a minute as arguments: opened to what they hold. Conditions: none. -/
namespace Go.Proofs.Ytolbihfnogbjaaa
open Go.ChangeShapes Go.WideShapes Go.ChangeAt Go.RowKit Go.Joins Go.Deep

theorem cells_span19 : Try.prog.cellsOf 102 = 2 := by kernel_rfl
theorem cells_task19 : Try.prog.cellsOf 59 = 3 := by kernel_rfl
theorem cells_spot19 : Try.prog.cellsOf 28 = 3 := by kernel_rfl
theorem cells_int19 : Try.prog.cellsOf 3 = 1 := by kernel_rfl
theorem cells_open19 : Try.prog.cellsOf 57 = 1 := by kernel_rfl

/-- What a slice of spans reads as, wherever it lies. -/
theorem read_spans19 {H : Type} {enc : TypeId × Value → H} {w : World} {base : Nat} {spare : Nat → Bool} {held : Bool} {fuel : Nat} {cs : List Value} {x : DataW H × List MemPlace}
    (hf : DataW.trod enc Try.prog w base spare held fuel 57 cs = some x) :
    ∃ (A : Option Addr) (c : Nat) (l : List Sp), cs = [.slice A l.length c] ∧ RdS w A l := by
  rcases open_slice_pairs Try.underlying57 Try.underlying102 cells_span19 rfl rfl (by kernel_rfl) (by kernel_rfl) hf with ⟨hcs, _⟩ | ⟨a, len, cap, m, n, V0, V1, D0, D1, P0, P1, hcs, _, hl, _, hm, _, hx⟩
  · exact ⟨none, 0, [], hcs, RdS.nil _ _⟩
  · have hlm : len ≤ m := by rw [hm]; split <;> omega
    have hz : ∀ i, i < len → ∃ s : Sp, w.cell? (a.add (i * 2)) = some (.int .i64 s.1) ∧ w.cell? (a.add (i * 2 + 1)) = some (.int .i64 s.2) := by
      intro i hi
      obtain ⟨h0, h1, t0, t1⟩ := hx i (by omega)
      obtain ⟨x, e0, _, wx⟩ := DataW.trod_int Try.underlying3 t0
      obtain ⟨y, e1, _, wy⟩ := DataW.trod_int Try.underlying3 t1
      simp at e0 e1
      rw [e0] at h0
      rw [e1] at h1
      exact ⟨(x, y), h0, h1⟩
    obtain ⟨f, hF⟩ := choose_lt hz
    have hlen : ((List.range len).map f).length = len := by simp
    refine ⟨some a, cap, (List.range len).map f, by rw [hlen]; exact hcs, fun hne => ?_⟩
    obtain ⟨b, off, spot⟩ := a
    have h0 : 0 < len := by
      rcases Nat.eq_zero_or_pos len with h | h
      · subst h; exact absurd rfl hne
      · exact h
    have hspot : spot = none := by simpa [Addr.add] using World.cell?_spot (hF 0 h0).1
    subst hspot
    refine ⟨b, off, rfl, ?_, fun k hk => ?_⟩
    · have := World.block_lt_of_cell? w _ (hF 0 h0).1
      rwa [addr_plain] at this
    · have hk' : k < len := by simpa using hk
      have hf := hF k hk'
      rw [addr_plain, addr_plain] at hf
      have e : ((List.range len).map f).getD k (0, 0) = f k := by simp [List.getD, hk']
      rw [e, Nat.add_assoc]
      exact hf

set_option maxRecDepth 20000 in
/-- What lies in the three cells of a task that is read. -/
theorem read_task {H : Type} {enc : TypeId × Value → H} {w : World} {base : Nat} {spare : Nat → Bool} {held : Bool} {fuel : Nat} {cs : List Value} {x : DataW H × List MemPlace}
    (h : DataW.trod enc Try.prog w base spare held fuel 59 cs = some x) :
    ∃ (t : Tk) (B : Option Addr) (c : Nat), cs = [.int .i64 t.1, .int .i64 t.2.1, .slice B t.2.2.length c] ∧ RdS w B t.2.2 := by
  obtain ⟨ys, n, _, _, hl, hyl, hf⟩ := DataW.trod_struct Try.underlying59 h
  rw [cells_task19] at hl
  match cs, hl with
  | [c0, c1, c2], _ =>
    have hyl3 : ys.length = 3 := hyl
    match ys, hyl3 with
    | [y0, y1, y2], _ =>
      obtain ⟨a, ha, _, _⟩ := DataW.trod_int Try.underlying3 (hf 0 _ rfl)
      obtain ⟨b, hb, _, _⟩ := DataW.trod_int Try.underlying3 (hf 1 _ rfl)
      obtain ⟨B, c, o, hc, hr⟩ := read_spans19 (hf 2 _ rfl)
      simp [cells_int19] at ha hb
      simp [cells_open19] at hc
      exact ⟨(a, b, o), B, c, by rw [ha, hb, hc], hr⟩

set_option maxRecDepth 20000 in
theorem open_tasks {H : Type} {enc : TypeId × Value → H} {w : World} {base : Nat} {spare : Nat → Bool} {held : Bool} {r : Reach} {b0 : Nat} {v : Value} {d : DataW H} {p : List MemPlace}
    (hv : Value.okWide Try.prog w r b0 24 v) (h : DataW.Trod enc Try.prog w base spare held 24 v d p) :
    ∃ (A : Option Addr) (n c : Nat) (l : List Tk), v = .slice A n c ∧ l.length = n ∧ RdK w A l ∧ n ≤ c ∧ (A = none → c = 0) := by
  obtain ⟨a0, len0, cap0, rfl⟩ := okWide_slice Try.underlying24 hv
  obtain ⟨fuel, hf⟩ := h
  rcases open_slice Try.underlying24 hf with ⟨hcs, _⟩ | ⟨a, len, cap, m, n, D, Pl, hcs, _, hl, _, hm, _, hx⟩
  · simp [Value.cells] at hcs
    obtain ⟨rfl, rfl, rfl⟩ := hcs
    exact ⟨none, 0, 0, [], rfl, rfl, RdK.nil _ _, Nat.le_refl _, fun _ => rfl⟩
  · simp [Value.cells] at hcs
    obtain ⟨rfl, rfl, rfl⟩ := hcs
    have hlm : len0 ≤ m := by rw [hm]; split <;> omega
    have hz : ∀ i, i < len0 → ∃ q : Tk × Option Addr × Nat, w.cell? (a.add (i * 3)) = some (.int .i64 q.1.1) ∧ w.cell? (a.add (i * 3 + 1)) = some (.int .i64 q.1.2.1) ∧ w.cell? (a.add (i * 3 + 2)) = some (.slice q.2.1 q.1.2.2.length q.2.2) ∧ RdS w q.2.1 q.1.2.2 := by
      intro i hi
      obtain ⟨cs', hc, ht⟩ := hx i (by omega)
      rw [cells_task19] at hc
      obtain ⟨q, B, c, rfl, hr⟩ := read_task ht
      obtain ⟨_, _, hat⟩ := World.cells?_some hc
      have h0 := hat 0 (by omega)
      have h1 := hat 1 (by omega)
      have h2 := hat 2 (by omega)
      rw [Go.Deep.add_add] at h0 h1 h2
      exact ⟨(q, B, c), h0, h1, h2, hr⟩
    obtain ⟨f, hF⟩ := choose_lt hz
    refine ⟨some a, len0, cap0, (List.range len0).map fun i => (f i).1, rfl, by simp, fun hne => ?_, hl, fun h => by cases h⟩
    obtain ⟨b, off, spot⟩ := a
    have h0 : 0 < len0 := by
      rcases Nat.eq_zero_or_pos len0 with h | h
      · subst h; exact absurd rfl hne
      · exact h
    have hspot : spot = none := by simpa [Addr.add] using World.cell?_spot (hF 0 h0).1
    subst hspot
    refine ⟨b, off, rfl, ?_, fun k hk => ?_⟩
    · have := World.block_lt_of_cell? w _ (hF 0 h0).1
      rwa [addr_plain] at this
    · have hk' : k < len0 := by simpa using hk
      have hf := hF k hk'
      rw [addr_plain, addr_plain, addr_plain] at hf
      have e : ((List.range len0).map fun i => (f i).1).getD k tz = (f k).1 := by simp [List.getD, hk']
      rw [e, Nat.add_assoc, Nat.add_assoc]
      exact ⟨(f k).2.1, (f k).2.2, hf⟩

set_option maxRecDepth 100000 in
theorem open_spot {H : Type} {enc : TypeId × Value → H} {w : World} {base : Nat} {spare : Nat → Bool} {held : Bool} {r : Reach} {b0 : Nat} {v : Value} {d : DataW H} {p : List MemPlace}
    (hv : Value.okWide Try.prog w r b0 28 v) (h : DataW.Trod enc Try.prog w base spare held 28 v d p) :
    ∃ a b c : Int, v = .agg #[.int .i64 a, .int .i64 b, .int .i64 c] ∧ d = .agg [.lit (.int .i64 a), .lit (.int .i64 b), .lit (.int .i64 c)] ∧ p = [] ∧ (Lit.int .i64 a).wf = true ∧ (Lit.int .i64 b).wf = true ∧ (Lit.int .i64 c).wf = true := by
  obtain ⟨c0, c1, c2, y0, y1, y2, m, rfl, rfl, rfl, hy0, hy1, hy2⟩ := open_agg3 Try.underlying28 (by kernel_rfl) cells_spot19 hv h
  obtain ⟨a, e0, rfl, wa⟩ := DataW.trod_int Try.underlying3 hy0
  obtain ⟨b, e1, rfl, wb⟩ := DataW.trod_int Try.underlying3 hy1
  obtain ⟨c, e2, rfl, wc⟩ := DataW.trod_int Try.underlying3 hy2
  simp at e0 e1 e2
  subst e0 e1 e2
  exact ⟨a, b, c, rfl, rfl, rfl, wa, wb, wc⟩

set_option maxRecDepth 100000 in
theorem shut_spot {H : Type} {enc : TypeId × Value → H} {w : World} {base : Nat} {spare : Nat → Bool} {held : Bool} {a b c : Int} (wa : (Lit.int .i64 a).wf = true) (wb : (Lit.int .i64 b).wf = true) (wc : (Lit.int .i64 c).wf = true) :
    DataW.Trod enc Try.prog w base spare held 28 (.agg #[.int .i64 a, .int .i64 b, .int .i64 c]) (.agg [.lit (.int .i64 a), .lit (.int .i64 b), .lit (.int .i64 c)]) [] :=
  shut_agg3 (y0 := (.lit (.int .i64 a), [])) (y1 := (.lit (.int .i64 b), [])) (y2 := (.lit (.int .i64 c), [])) Try.underlying28 (by kernel_rfl) cells_spot19 ⟨1, by simp [DataW.trod, Try.underlying3, wa]⟩ ⟨1, by simp [DataW.trod, Try.underlying3, wb]⟩ ⟨1, by simp [DataW.trod, Try.underlying3, wc]⟩

theorem wf_i64 {x : Int} (h : (Lit.int .i64 x).wf = true) : -9223372036854775808 ≤ x ∧ x ≤ 9223372036854775807 := by
  simpa [Lit.wf, IntKind.min, IntKind.max, IntKind.signed, IntKind.bits] using h

end Go.Proofs.Ytolbihfnogbjaaa

/- What lies in the cells of a slice of tasks, and of a spot, that is read. Conditions: none. -/
namespace Go.Proofs.Ytolbihfnogbjaaa
open Go.ChangeShapes Go.WideShapes Go.ChangeAt Go.RowKit Go.Joins Go.Deep
set_option linter.unusedVariables false

theorem cells_tasks22 : Try.prog.cellsOf 24 = 1 := by kernel_rfl

set_option maxRecDepth 100000 in
theorem read_tasks22 {H : Type} {enc : TypeId × Value → H} {w : World} {base : Nat} {spare : Nat → Bool} {held : Bool} {fuel : Nat} {cs : List Value} {y : DataW H × List MemPlace}
    (hf : DataW.trod enc Try.prog w base spare held fuel 24 cs = some y) :
    ∃ (A : Option Addr) (n c : Nat) (l : List Tk), cs = [.slice A n c] ∧ l.length = n ∧ RdK w A l ∧ n ≤ c ∧ (A = none → c = 0) := by
  rcases open_slice Try.underlying24 hf with ⟨hcs, _⟩ | ⟨a, len0, cap0, m, n, D, Pl, hcs, _, hl, _, hm, _, hx⟩
  · exact ⟨none, 0, 0, [], hcs, rfl, RdK.nil _ _, Nat.le_refl _, fun _ => rfl⟩
  · have hlm : len0 ≤ m := by rw [hm]; split <;> omega
    have hz : ∀ i, i < len0 → ∃ q : Tk × Option Addr × Nat, w.cell? (a.add (i * 3)) = some (.int .i64 q.1.1) ∧ w.cell? (a.add (i * 3 + 1)) = some (.int .i64 q.1.2.1) ∧ w.cell? (a.add (i * 3 + 2)) = some (.slice q.2.1 q.1.2.2.length q.2.2) ∧ RdS w q.2.1 q.1.2.2 := by
      intro i hi
      obtain ⟨cs', hc, ht⟩ := hx i (by omega)
      rw [cells_task19] at hc
      obtain ⟨q, B, c, rfl, hr⟩ := read_task ht
      obtain ⟨_, _, hat⟩ := World.cells?_some hc
      have h0 := hat 0 (by omega)
      have h1 := hat 1 (by omega)
      have h2 := hat 2 (by omega)
      rw [Go.Deep.add_add] at h0 h1 h2
      exact ⟨(q, B, c), h0, h1, h2, hr⟩
    obtain ⟨f, hF⟩ := choose_lt hz
    refine ⟨some a, len0, cap0, (List.range len0).map fun i => (f i).1, hcs, by simp, fun hne => ?_, hl, fun h => by cases h⟩
    obtain ⟨b, off, spot⟩ := a
    have h0 : 0 < len0 := by
      rcases Nat.eq_zero_or_pos len0 with h | h
      · subst h; exact absurd rfl hne
      · exact h
    have hspot : spot = none := by simpa [Addr.add] using World.cell?_spot (hF 0 h0).1
    subst hspot
    refine ⟨b, off, rfl, ?_, fun k hk => ?_⟩
    · have := World.block_lt_of_cell? w _ (hF 0 h0).1
      rwa [addr_plain] at this
    · have hk' : k < len0 := by simpa using hk
      have hf := hF k hk'
      rw [addr_plain, addr_plain, addr_plain] at hf
      have e : ((List.range len0).map fun i => (f i).1).getD k tz = (f k).1 := by simp [List.getD, hk']
      rw [e, Nat.add_assoc, Nat.add_assoc]
      exact ⟨(f k).2.1, (f k).2.2, hf⟩

set_option maxRecDepth 100000 in
theorem read_spot22 {H : Type} {enc : TypeId × Value → H} {w : World} {base : Nat} {spare : Nat → Bool} {held : Bool} {fuel : Nat} {cs : List Value} {x : DataW H × List MemPlace}
    (h : DataW.trod enc Try.prog w base spare held fuel 28 cs = some x) :
    ∃ a b c : Int, cs = [.int .i64 a, .int .i64 b, .int .i64 c] ∧ (Lit.int .i64 b).wf = true ∧ (Lit.int .i64 c).wf = true := by
  obtain ⟨ys, n, _, _, hl, hyl, hf⟩ := DataW.trod_struct Try.underlying28 h
  rw [cells_spot19] at hl
  match cs, hl with
  | [c0, c1, c2], _ =>
    have hyl3 : ys.length = 3 := hyl
    match ys, hyl3 with
    | [y0, y1, y2], _ =>
      obtain ⟨a, ha, _, _⟩ := DataW.trod_int Try.underlying3 (hf 0 _ rfl)
      obtain ⟨b, hb, _, wb⟩ := DataW.trod_int Try.underlying3 (hf 1 _ rfl)
      obtain ⟨c, hc, _, wc⟩ := DataW.trod_int Try.underlying3 (hf 2 _ rfl)
      simp [cells_int19] at ha hb hc
      exact ⟨a, b, c, by rw [ha, hb, hc], wb, wc⟩

end Go.Proofs.Ytolbihfnogbjaaa
