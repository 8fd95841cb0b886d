/- Plain facts, several texts in one: Box, BoxRes, Build, BookRow, BookLaws, BookLeaf, BookOpen, Chg, LabelPlaysA0, Row, BookBel, FindHeap, IvalsWords, RecHeap, Apart, IntsOpen, RowBlock. Conditions: none beyond each lemma's own premises. -/
import Derived.Test.YtolbihfnogbjaaaRows
import Derived.Test.YtolbihfnogbjaaaBase
import Derived.WalkKit
import Derived.WalkSpells
import Derived.WalkSmall
import Derived.Below
import Derived.Lib.Hide
import Derived.Laws.Tables
import Derived.Laws.Rows
import Derived.Laws.CopyRow
import Derived.Laws.StructEq
import Derived.Deep.Quiet
import Derived.Deep.MidRow
import Derived.OrdersHeld
import Derived.KernelRfl
import Derived.Laws.Cover3
import Derived.Outline
import Derived.Great.BuildSlice
import Derived.OpenShut
import Derived.ChangeSame
import Derived.ChangeSlices
import Derived.Lib.SmallJoins
import Derived.Deep.Fields
import Derived.ProofKit
import Derived.BigQuiet
import Derived.OwnWalk
import Derived.Maps.RangeWalk
import Derived.Deep.DeepCutAuto
import Derived.Deep.RegionHeld3
import Derived.Deep.Draws
import Derived.Deep.QuietTactic
import Derived.Laws.OwnMore
import Derived.Laws.AppendOwn
import Derived.Test.YtolbihfnogbjaaaZ1
import Derived.ChangeArms
import Derived.Deep.Slices

/- Boxed values of many cells: a block's cells known whole; loads and stores of whole rows and of single cells, the new world a variable; structs compared cell by cell. Conditions: none beyond each lemma's own premises. -/
namespace Go.Proofs.Ytolbihfnogbjaaa
open Go.RowKit

/-- Block g holds these cells, and none is frozen. -/
def Bx (W : World) (g : Nat) (t : TypeId) (cs : Array Value) : Prop := W.heap[g]? = some (.cells cs t (0, 0))

theorem Bx.lt {W : World} {g : Nat} {t : TypeId} {cs : Array Value} (h : Bx W g t cs) : g < W.heap.size := (Array.getElem?_eq_some_iff.1 h).1
theorem Bx.cell {W : World} {g : Nat} {t : TypeId} {cs : Array Value} (h : Bx W g t cs) {k : Nat} {v : Value} (hk : cs[k]? = some v) : W.cell? ⟨g, k, none⟩ = some v := by
  rw [cell_of_row W g k cs t (0, 0) h]; exact hk
theorem Bx.free {W : World} {g : Nat} {t : TypeId} {cs : Array Value} (h : Bx W g t cs) (k : Nat) : W.frozen? ⟨g, k, none⟩ = false := frozen_of_row W g k cs t h
theorem Bx.below {W W' : World} {g : Nat} {t : TypeId} {cs : Array Value} (h : Bx W g t cs) (hb : Below W.heap.size W W') : Bx W' g t cs := (hb.block g h.lt).trans h
theorem Bx.keep {W W' : World} {g n : Nat} {t : TypeId} {cs : Array Value} (h : Bx W g t cs) (hb : Below n W W') (hn : g < n) : Bx W' g t cs := (hb.block g hn).trans h
theorem Bx.alloc {W : World} {g : Nat} {t : TypeId} {cs : Array Value} (h : Bx W g t cs) (o : Obj) : Bx (W.alloc o) g t cs := (heap_alloc_old _ _ h.lt).trans h
theorem Bx.drew {W : World} {g : Nat} {t : TypeId} {cs : Array Value} (h : Bx W g t cs) : Bx W.drew g t cs := h
theorem Bx.drewN {W : World} {g n : Nat} {t : TypeId} {cs : Array Value} (h : Bx W g t cs) : Bx (W.drewN n) g t cs := h
theorem Bx.new {W : World} {g : Nat} (t : TypeId) (cs : Array Value) (hg : g = W.heap.size) : Bx (W.alloc (.cells cs t)) g t cs := by
  subst hg; exact heap_alloc_new W _

theorem Bx.range2 {W : World} {g off : Nat} {t : TypeId} {cs : Array Value} {a b : Value} (h : Bx W g t cs) (ha : cs[off]? = some a) (hb : cs[off + 1]? = some b) : W.rangeAt g off [a, b] := fun j v hj => by
  rw [cell_of_row W g (off + j) cs t (0, 0) h]
  match j, hj with
  | 0, hj => simp at hj; subst hj; exact ha
  | 1, hj => simp at hj; subst hj; exact hb

/-- What a store into block g leaves: the block holds cs, all else is as it was. -/
structure Upd (W : World) (g : Nat) (t : TypeId) (cs : Array Value) (W' : World) : Prop where
  size : W'.heap.size = W.heap.size
  box : Bx W' g t cs
  other : ∀ k, k ≠ g → W'.heap[k]? = W.heap[k]?
  bel : ∀ n, n ≤ g → Below n W W'

theorem Upd.cell {W W' : World} {g : Nat} {t : TypeId} {cs : Array Value} (u : Upd W g t cs W') {p : Addr} (hp : p.block ≠ g) : W'.cell? p = W.cell? p := World.cell?_of_block (w := W) (u.other p.block hp)
theorem Upd.bx {W W' : World} {g h : Nat} {t s : TypeId} {cs ds : Array Value} (u : Upd W g t cs W') (hb : Bx W h s ds) (hp : h ≠ g) : Bx W' h s ds := (u.other h hp).trans hb
theorem Upd.of_setRow {W : World} {g : Nat} {t : TypeId} {old : Array Value} (cs : Array Value) (h : Bx W g t old) : Upd W g t cs (W.setRow g cs) :=
  ⟨setRow_size _ _ _, setRow_heap W g old cs t (0, 0) h, fun k hk => setRow_other W g k cs hk, fun n hn => ⟨rfl, rfl, rfl, by rw [setRow_size]; exact Nat.le_refl _, fun k hk => setRow_other W g k cs (by omega)⟩⟩

section
variable {P : Program}
theorem run_storeVar_fld (W : World) (g k : Nat) (t ty : TypeId) (cs : Array Value) (v : Value) (h : Bx W g t cs) (hk : k < cs.size) (hi : (P.info? ty).map (·.size) = some 1) (h1 : v.oneCell' = true) :
    (storeVar ty ⟨g, k, none⟩ v).run P W = .ok () (W.setRow g (cs.setIfInBounds k v)) := by
  have := run_storeCells_at (P := P) g k t [v] 0 cs W h (by simp; omega) (fun x hx => by simp at hx; subst hx; exact h1)
  have hc : v.cells = #[v] := by cases v <;> first | rfl | cases h1
  have e : (cs.toList.take k ++ [v] ++ cs.toList.drop (k + 1)).toArray = cs.setIfInBounds k v := by
    apply Array.ext'
    rw [Array.toList_setIfInBounds, List.set_eq_take_append_cons_drop, if_pos (by simpa using hk)]
    simp
  cases hq : P.info? ty with
  | none => simp [hq] at hi
  | some i =>
    have hs : i.size = 1 := by simpa [hq] using hi
    simp only [Nat.add_zero, List.length_singleton] at this
    rw [e] at this
    simp [storeVar, sizeOf, typeInfo, hq, hc, hs, this]

theorem wpList_store_fld {ops : Array Oper} {rest : List Oper} {o : Oper} {a : Act} {w : World} {Q : Exit → Act → World → Prop} (hgd : Region.wanted o (yielded ops a.tmps) = true) (ty : TypeId) (x y : Operand) (ho : o.op = .store ty x y)
    (g k : Nat) (v : Value) (hx : a.eval x = .pointer (some ⟨g, k, none⟩)) (hy : a.eval y = v) (h1 : v.oneCell' = true) (t : TypeId) (cs : Array Value) (hb : Bx w g t cs) (hk : k < cs.size) (hi : (P.info? ty).map (·.size) = some 1)
    (h : ∀ W', Upd w g t (cs.setIfInBounds k v) W' → wpList P ops Q rest (a.put o.dst undef) W') : wpList P ops Q (o :: rest) a w :=
  wpList_step fun K hK => by
    rw [if_pos hgd]
    unfold Oper.wp execOp
    simp only [ho, hx, hy, Instr.storeAt, Instr.sureAddr, Sem.run_bind, Sem.run_pure, Result.andThen_ok, run_storeVar_fld w g k t ty cs v hb hk hi h1]
    exact hK _ _ (h _ (Upd.of_setRow _ hb))

/-- A whole row is stored into a block. -/
theorem wpList_store_box {ops : Array Oper} {rest : List Oper} {o : Oper} {a : Act} {w : World} {Q : Exit → Act → World → Prop} (hgd : o.guard = none) (ty : TypeId) (x y : Operand) (ho : o.op = .store ty x y)
    (g : Nat) (cells : Array Value) (hx : a.eval x = .pointer (some ⟨g, 0, none⟩)) (hy : a.eval y = .agg cells)
    (t : TypeId) (old : Array Value) (hb : Bx w g t old) (hi : (P.info? ty).map (·.size) = some cells.size)
    (hold : old.size = cells.size) (h1 : cells.all (·.oneCell') = true)
    (h : ∀ W', Upd w g t cells W' → wpList P ops Q rest (a.put o.dst undef) W') : wpList P ops Q (o :: rest) a w :=
  wpList_store_row hgd ty x y ho g cells hx hy t old hb hi hold h1 (h _ (Upd.of_setRow _ hb))

theorem exec_load_box {r : Operand → Value} {o : Oper} {ty : TypeId} {y : Operand} (g : Nat) (t : TypeId) (cs : Array Value) (d : TypeDesc) (w : World) (ho : o.op = .load ty y) (hx : r y = .pointer (some ⟨g, 0, none⟩)) (hb : Bx w g t cs)
    (hu : P.underlying ty = some d) (hd : (match d with | .struct _ | .array _ _ => true | _ => false) = true) (hi : (P.info? ty).map (·.size) = some cs.size) : (execOp r o).run P w = .ok (.value (.agg cs)) w := by
  unfold execOp
  simp only [ho, hx, Instr.loadAt, Instr.sureAddr, Sem.run_bind, Sem.run_pure, Result.andThen_ok, run_loadVar_row w g t ty cs (0, 0) d hb hu hd hi]

theorem wpList_load_box {ops : Array Oper} {rest : List Oper} {o : Oper} {a : Act} {w : World} {Q : Exit → Act → World → Prop} (hgd : Region.wanted o (yielded ops a.tmps) = true) (ty : TypeId) (x : Operand) (ho : o.op = .load ty x)
    (g : Nat) (hx : a.eval x = .pointer (some ⟨g, 0, none⟩)) (t : TypeId) (cs : Array Value) (d : TypeDesc) (hb : Bx w g t cs)
    (hu : P.underlying ty = some d) (hd : (match d with | .struct _ | .array _ _ => true | _ => false) = true) (hi : (P.info? ty).map (·.size) = some cs.size)
    (h : wpList P ops Q rest (a.put o.dst (.agg cs)) w) : wpList P ops Q (o :: rest) a w :=
  wpList_step fun K hK => by
    rw [if_pos hgd]
    unfold Oper.wp
    rw [exec_load_box g t cs d w ho hx hb hu hd hi]
    exact hK _ _ h

/-! ### In a region that draws its order -/
theorem wp_alloc_any {o : Oper} {a : Act} {w : World} {K : Act → World → Prop} {Q : Exit → Act → World → Prop} (t : TypeId) (cs : Array Value)
    (hrun : (execOp a.eval o).run P w = .ok (.value (.pointer (some ⟨w.heap.size, 0, none⟩))) (w.alloc (.cells cs t)))
    (h : ∀ g W', w.heap.size ≤ g → Bx W' g t cs → Below w.heap.size w W' → K (a.put o.dst (.pointer (some ⟨g, 0, none⟩))) W') : o.wp P a w K Q := by
  unfold Oper.wp
  rw [hrun]
  exact h _ _ (Nat.le_refl _) (Bx.new t cs rfl) ((Below.refl _ _).alloc (Nat.le_refl _) _)

theorem wp_store_any {o : Oper} {a : Act} {w : World} {K : Act → World → Prop} {Q : Exit → Act → World → Prop} (ty : TypeId) (x y : Operand) (ho : o.op = .store ty x y)
    (g : Nat) (cells : Array Value) (hx : a.eval x = .pointer (some ⟨g, 0, none⟩)) (hy : a.eval y = .agg cells)
    (t : TypeId) (old : Array Value) (hb : Bx w g t old) (hi : (P.info? ty).map (·.size) = some cells.size)
    (hold : old.size = cells.size) (h1 : cells.all (·.oneCell') = true)
    (h : ∀ W', Upd w g t cells W' → K (a.put o.dst undef) W') : o.wp P a w K Q :=
  wp_store_row ty x y ho g cells hx hy t old hb hi hold h1 (h _ (Upd.of_setRow _ hb))

/-- A struct's result that lies in a block, with one more number behind it, or alone. -/
theorem results_box2 {fn : Func} {p q : Tmp} {ty : TypeId} (h : fn.results = #[.cell p ty, .tmp q]) (tmps : Array Value) (w : World) (g : Nat) (t : TypeId) (cs : Array Value) (d : TypeDesc) (v : Value)
    (hp : tmps.getD p undef = .pointer (some ⟨g, 0, none⟩)) (hb : Bx w g t cs) (hq : tmps.getD q undef = v)
    (hu : P.underlying ty = some d) (hd : (match d with | .struct _ | .array _ _ => true | _ => false) = true) (hi : (P.info? ty).map (·.size) = some cs.size) :
    (results fn tmps).run P w = .ok (.tuple #[.agg cs, v]) w := by
  have hp' : tmps[p]?.getD undef = .pointer (some ⟨g, 0, none⟩) := by simpa using hp
  have hq' : tmps[q]?.getD undef = v := by simpa using hq
  simp [results, h, hp', hq', asAddr, run_loadVar_row w g t ty cs (0, 0) d hb hu hd hi]

theorem results_box1 {fn : Func} {p : Tmp} {ty : TypeId} (h : fn.results = #[.cell p ty]) (tmps : Array Value) (w : World) (g : Nat) (t : TypeId) (cs : Array Value) (d : TypeDesc)
    (hp : tmps.getD p undef = .pointer (some ⟨g, 0, none⟩)) (hb : Bx w g t cs)
    (hu : P.underlying ty = some d) (hd : (match d with | .struct _ | .array _ _ => true | _ => false) = true) (hi : (P.info? ty).map (·.size) = some cs.size) :
    (results fn tmps).run P w = .ok (.agg cs) w :=
  results_cell_row h tmps w g t cs (0, 0) d hp hb hu hd hi

/-- Two cells of one basic kind: are they the same? -/
def veq : Value → Value → Bool
  | .int _ a, .int _ b => a == b
  | .bool a, .bool b => a == b
  | _, _ => false

/-- The cells v and u are a number each, or a truth each, of this type. -/
def Bas (P : Program) (t : TypeId) (v u : Value) : Prop := (∃ k a b, P.underlying t = some (.int k) ∧ v = .int k a ∧ u = .int k b) ∨ (∃ a b, P.underlying t = some .bool ∧ v = .bool a ∧ u = .bool b)

theorem eqFields_bas (xs ys : Array Value) (w : World) (d : Nat) : ∀ fs : List Field, (∀ f ∈ fs, f.name ≠ "_" ∧ ∃ v u, xs[f.offset]? = some v ∧ ys[f.offset]? = some u ∧ Bas P f.type v u) →
    (Op.eqFields (d + 1) xs ys fs).run P w = .ok (fs.all fun f => veq (xs.getD f.offset undef) (ys.getD f.offset undef)) w
  | [], _ => rfl
  | f :: fs, h => by
    obtain ⟨hn, v, u, hv, hu, hb⟩ := h f (by simp)
    have ih := eqFields_bas xs ys w d fs (fun g hg => h g (by simp [hg]))
    have hagg : ∀ w, (isAgg f.type).run P w = .ok false w := fun w => by
      unfold isAgg
      rcases hb with ⟨k, a, b, ht, _, _⟩ | ⟨a, b, ht, _, _⟩ <;> (rw [Sem.run_bind, run_underlying ht w]; simp)
    have p1 : (part f.type xs f.offset).run P w = .ok v w := by unfold part; rw [Sem.run_bind, hagg]; simp [hv]
    have p2 : (part f.type ys f.offset).run P w = .ok u w := by unfold part; rw [Sem.run_bind, hagg]; simp [hu]
    have p3 : (Op.equalIn (d + 1) f.type v u).run P w = .ok (veq v u) w := by
      rcases hb with ⟨k, a, b, ht, rfl, rfl⟩ | ⟨a, b, ht, rfl, rfl⟩
      · exact run_equalIn_int w d f.type k k _ _ ht
      · exact run_equalIn_bool w d f.type _ _ ht
    have hx : xs.getD f.offset undef = v := by simp [hv]
    have hy : ys.getD f.offset undef = u := by simp [hu]
    unfold Op.eqFields
    rw [if_pos hn]
    simp only [Sem.run_bind, p1, p2, p3, Result.andThen_ok, List.all_cons, hx, hy]
    cases he : veq v u with
    | true => simp [ih]
    | false => simp
end

end Go.Proofs.Ytolbihfnogbjaaa

/- Results that lie in blocks; a row amid a block loaded. Conditions: none beyond each lemma's own premises. -/
namespace Go.Proofs.Ytolbihfnogbjaaa
open Go.RowKit

theorem results_box3 {P : Program} {fn : Func} {p q r : Tmp} {ty : TypeId} (h : fn.results = #[.cell p ty, .tmp q, .tmp r]) (tmps : Array Value) (w : World) (g : Nat) (t : TypeId) (cs : Array Value) (d : TypeDesc) (v v' : Value)
    (hp : tmps.getD p undef = .pointer (some ⟨g, 0, none⟩)) (hb : Bx w g t cs) (hq : tmps.getD q undef = v) (hr : tmps.getD r undef = v')
    (hu : P.underlying ty = some d) (hd : (match d with | .struct _ | .array _ _ => true | _ => false) = true) (hi : (P.info? ty).map (·.size) = some cs.size) :
    (results fn tmps).run P w = .ok (.tuple #[.agg cs, v, v']) w := by
  have hp' : tmps[p]?.getD undef = .pointer (some ⟨g, 0, none⟩) := by simpa using hp
  have hq' : tmps[q]?.getD undef = v := by simpa using hq
  have hr' : tmps[r]?.getD undef = v' := by simpa using hr
  simp [results, h, hp', hq', hr', asAddr, run_loadVar_row w g t ty cs (0, 0) d hb hu hd hi]

theorem results_box22 {P : Program} {fn : Func} {p q r : Tmp} {ty tz : TypeId} (h : fn.results = #[.cell p ty, .cell q tz, .tmp r]) (tmps : Array Value) (w : World) (g g' : Nat) (t t' : TypeId) (cs ds : Array Value) (d d' : TypeDesc) (v : Value)
    (hp : tmps.getD p undef = .pointer (some ⟨g, 0, none⟩)) (hb : Bx w g t cs) (hq : tmps.getD q undef = .pointer (some ⟨g', 0, none⟩)) (hb' : Bx w g' t' ds) (hr : tmps.getD r undef = v)
    (hu : P.underlying ty = some d) (hd : (match d with | .struct _ | .array _ _ => true | _ => false) = true) (hi : (P.info? ty).map (·.size) = some cs.size)
    (hu' : P.underlying tz = some d') (hd' : (match d' with | .struct _ | .array _ _ => true | _ => false) = true) (hi' : (P.info? tz).map (·.size) = some ds.size) :
    (results fn tmps).run P w = .ok (.tuple #[.agg cs, .agg ds, v]) w := by
  have hp' : tmps[p]?.getD undef = .pointer (some ⟨g, 0, none⟩) := by simpa using hp
  have hq' : tmps[q]?.getD undef = .pointer (some ⟨g', 0, none⟩) := by simpa using hq
  have hr' : tmps[r]?.getD undef = v := by simpa using hr
  simp [results, h, hp', hq', hr', asAddr, run_loadVar_row w g t ty cs (0, 0) d hb hu hd hi, run_loadVar_row w g' t' tz ds (0, 0) d' hb' hu' hd' hi']

/-- Two results that lie in two blocks. -/
theorem results_boxes {P : Program} {fn : Func} {p q : Tmp} {ty tz : TypeId} (h : fn.results = #[.cell p ty, .cell q tz]) (tmps : Array Value) (w : World) (g g' : Nat) (t t' : TypeId) (cs ds : Array Value) (d d' : TypeDesc)
    (hp : tmps.getD p undef = .pointer (some ⟨g, 0, none⟩)) (hb : Bx w g t cs) (hq : tmps.getD q undef = .pointer (some ⟨g', 0, none⟩)) (hb' : Bx w g' t' ds)
    (hu : P.underlying ty = some d) (hd : (match d with | .struct _ | .array _ _ => true | _ => false) = true) (hi : (P.info? ty).map (·.size) = some cs.size)
    (hu' : P.underlying tz = some d') (hd' : (match d' with | .struct _ | .array _ _ => true | _ => false) = true) (hi' : (P.info? tz).map (·.size) = some ds.size) :
    (results fn tmps).run P w = .ok (.tuple #[.agg cs, .agg ds]) w := by
  have hp' : tmps[p]?.getD undef = .pointer (some ⟨g, 0, none⟩) := by simpa using hp
  have hq' : tmps[q]?.getD undef = .pointer (some ⟨g', 0, none⟩) := by simpa using hq
  simp [results, h, hp', hq', asAddr, run_loadVar_row w g t ty cs (0, 0) d hb hu hd hi, run_loadVar_row w g' t' tz ds (0, 0) d' hb' hu' hd' hi']

section
variable {P : Program}
theorem exec_load_mid {r : Operand → Value} {o : Oper} {ty : TypeId} {y : Operand} (b off : Nat) (cs : Array Value) (d : TypeDesc) (w : World) (ho : o.op = .load ty y) (hx : r y = .pointer (some ⟨b, off, none⟩)) (hr : w.rangeAt b off cs.toList)
    (hu : P.underlying ty = some d) (hd : d.isRow = true) (hi : (P.info? ty).map (·.size) = some cs.size) : (execOp r o).run P w = .ok (.value (.agg cs)) w := by
  have := run_loadAt_mid (P := P) w b off ty cs.toList d hr hu hd (by simpa using hi)
  rw [Array.toArray_toList] at this
  unfold execOp
  simp only [ho, hx, this, Sem.run_bind, Result.andThen_ok]
  rfl
end

end Go.Proofs.Ytolbihfnogbjaaa

/- Whole rows built, stored in a new block; an operation that yields one value in every world. Conditions: none beyond each lemma's own premises. -/
namespace Go.Proofs.Ytolbihfnogbjaaa
open Go.RowKit

section
variable {P : Program}
theorem setRow_new (W : World) (g : Nat) (old cs : Array Value) (t : TypeId) (hg : g = W.heap.size) : (W.alloc (.cells old t)).setRow g cs = W.alloc (.cells cs t) := by
  subst hg
  unfold World.setRow World.alloc
  congr 1
  apply Array.ext
  · simp
  · intro i h1 h2
    simp only [Array.getElem_modify]
    split
    · rename_i h; subst h; simp
    · rename_i h
      simp at h1
      have hi : i < W.heap.size := by omega
      simp [Array.getElem_push_lt hi]

theorem wpList_build_as {ops : Array Oper} {rest : List Oper} {o : Oper} {a : Act} {w : World} {Q : Exit → Act → World → Prop} (hg : o.guard = none) (t : TypeId) (parts : Array (Nat × Operand)) (ho : o.op = .build t parts) (cells : Array Value)
    (hf : P.built t (parts.map fun (i, x) => (i, a.eval x)).toList = some cells)
    (h : wpList P ops Q rest (a.put o.dst (.agg cells)) w) : wpList P ops Q (o :: rest) a w :=
  wpList_build hg t parts ho (by rw [hf]; rfl) (by rw [hf]; exact h)

theorem wpList_store_new {ops : Array Oper} {rest : List Oper} {o : Oper} {a : Act} {W : World} {old : Array Value} {t : TypeId} {Q : Exit → Act → World → Prop} (hgd : o.guard = none) (ty : TypeId) (x y : Operand) (ho : o.op = .store ty x y)
    (g : Nat) (cells : Array Value) (hx : a.eval x = .pointer (some ⟨g, 0, none⟩)) (hy : a.eval y = .agg cells) (hgg : g = W.heap.size) (hi : (P.info? ty).map (·.size) = some cells.size)
    (hold : old.size = cells.size) (h1 : cells.all (·.oneCell') = true)
    (h : wpList P ops Q rest (a.put o.dst undef) (W.alloc (.cells cells t))) : wpList P ops Q (o :: rest) a (W.alloc (.cells old t)) :=
  wpList_store_row hgd ty x y ho g cells hx hy t old (by subst hgg; exact heap_alloc_new _ _) hi hold h1 (by rw [setRow_new W g old cells t hgg]; exact h)
end

section
variable {ops : Array Oper} {rest : List Oper} {o : Oper} {a : Act} {w : World} {Q : Exit → Act → World → Prop} {K : Act → World → Prop}
/-- An operation that yields v in every world. -/
theorem wpList_yields (hw : Region.wanted o (yielded ops a.tmps) = true) {v : Value} (he : ∀ w, (execOp a.eval o).run Try.prog w = .ok (.value v) w)
    (h : wpList Try.prog ops Q rest (a.put o.dst v) w) : wpList Try.prog ops Q (o :: rest) a w :=
  wpList_step fun K hK => by
    rw [if_pos hw]
    unfold Oper.wp
    rw [he]
    exact hK _ _ h
/-- In the lexical walk. -/
theorem quiet_yields {C : World → Prop} {K : Act → Prop} {v : Value} (he : ∀ w, C w → (execOp a.eval o).run Try.prog w = .ok (.value v) w) (h : K (a.put o.dst v)) : o.quiet Try.prog a C K :=
  ⟨v, fun w hw => by unfold Oper.quietAt; rw [he w hw]; exact ⟨rfl, rfl⟩, h⟩
theorem exec_build {r : Operand → Value} {ty : TypeId} {parts : Array (Nat × Operand)} (cells : Array Value) (w : World) (ho : o.op = .build ty parts) (hf : Try.prog.built ty (parts.map fun (i, x) => (i, r x)).toList = some cells) :
    (execOp r o).run Try.prog w = .ok (.value (.agg cells)) w := by
  unfold execOp
  simp only [ho, Sem.run_bind, run_build w ty _ cells hf, Result.andThen_ok]
  rfl
theorem yieldsIf_exec {S : World → Prop} {v : Value} (hw : Region.wanted o (yielded ops a.tmps) = true) (he : ∀ w, S w → (execOp a.eval o).run Try.prog w = .ok (.value v) w) : YieldsIf Try.prog ops S o v a := .inl ⟨hw, he⟩
end

end Go.Proofs.Ytolbihfnogbjaaa

/- Nineteen numbers as cells; whole rows built, stored in a new block and read. Conditions: none beyond each lemma's own premises. -/
namespace Go.Proofs.Ytolbihfnogbjaaa
open Go.RowKit

/-- The cells of nineteen numbers. -/
def bk (x : Nat → Int) : Array Value := #[.int .i64 (x 0), .int .i64 (x 1), .int .i64 (x 2), .int .i64 (x 3), .int .i64 (x 4), .int .i64 (x 5), .int .i64 (x 6), .int .i64 (x 7), .int .i64 (x 8), .int .i64 (x 9), .int .i64 (x 10), .int .i64 (x 11), .int .i64 (x 12), .int .i64 (x 13), .int .i64 (x 14), .int .i64 (x 15), .int .i64 (x 16), .int .i64 (x 17), .int .i64 (x 18)]

theorem bk_size (x : Nat → Int) : (bk x).size = 19 := rfl
theorem bk_at (x : Nat → Int) : ∀ i, i < 19 → (bk x)[i]? = some (.int .i64 (x i)) := by
  intro i hi
  have : i = 0 ∨ i = 1 ∨ i = 2 ∨ i = 3 ∨ i = 4 ∨ i = 5 ∨ i = 6 ∨ i = 7 ∨ i = 8 ∨ i = 9 ∨ i = 10 ∨ i = 11 ∨ i = 12 ∨ i = 13 ∨ i = 14 ∨ i = 15 ∨ i = 16 ∨ i = 17 ∨ i = 18 := by omega
  rcases this with rfl | rfl | rfl | rfl | rfl | rfl | rfl | rfl | rfl | rfl | rfl | rfl | rfl | rfl | rfl | rfl | rfl | rfl | rfl <;> rfl
theorem bk_one (x : Nat → Int) : (bk x).all (·.oneCell') = true := by kernel_rfl

/-- Nineteen numbers lie in block b from offset off on. -/
def RdI (w : World) (b off : Nat) (x : Nat → Int) : Prop := b < w.heap.size ∧ ∀ i, i < 19 → w.cell? ⟨b, off + i, none⟩ = some (.int .i64 (x i))

theorem RdI.below {w w' : World} {b off : Nat} {x : Nat → Int} (h : RdI w b off x) (hb : Below w.heap.size w w') : RdI w' b off x :=
  ⟨Nat.lt_of_lt_of_le h.1 hb.size, fun i hi => (hb.cell (p := ⟨b, off + i, none⟩) h.1).trans (h.2 i hi)⟩
theorem RdI.alloc {w : World} {b off : Nat} {x : Nat → Int} (h : RdI w b off x) (o : Obj) : RdI (w.alloc o) b off x :=
  h.below ((Below.refl _ _).alloc (Nat.le_refl _) o)
theorem RdI.new {w : World} {g : Nat} (x : Nat → Int) (t : TypeId) (hg : g = w.heap.size) : RdI (w.alloc (.cells (bk x) t)) g 0 x := by
  subst hg
  refine ⟨by simp, fun i hi => ?_⟩
  rw [Nat.zero_add, cell_of_row _ _ _ _ _ _ (heap_alloc_new w _)]
  exact bk_at x i hi

section
variable {P : Program}
theorem RdI.range {w : World} {b off : Nat} {x : Nat → Int} (h : RdI w b off x) : w.rangeAt b off (bk x).toList := fun j v hj => by
  have hl : j < 19 := by
    have := (List.getElem?_eq_some_iff.1 hj).1
    simpa [bk_size] using this
  have e := bk_at x j hl
  rw [Array.getElem?_toList, e] at hj
  cases hj
  exact h.2 j hl

theorem run_loadAt_bk (w : World) (b off : Nat) (ty : TypeId) (x : Nat → Int) (d : TypeDesc) (h : RdI w b off x)
    (hu : P.underlying ty = some d) (hd : d.isRow = true) (hi : (P.info? ty).map (·.size) = some 19) :
    (Instr.loadAt ty (.pointer (some ⟨b, off, none⟩))).run P w = .ok (.agg (bk x)) w := by
  have := run_loadAt_mid (P := P) w b off ty (bk x).toList d h.range hu hd (by simpa [bk_size] using hi)
  simpa using this

theorem wpList_load_bk {ops : Array Oper} {rest : List Oper} {o : Oper} {a : Act} {w : World} {Q : Exit → Act → World → Prop} (hgd : Region.wanted o (yielded ops a.tmps) = true) (ty : TypeId) (y : Operand) (ho : o.op = .load ty y)
    (b off : Nat) (hx : a.eval y = .pointer (some ⟨b, off, none⟩)) (x : Nat → Int) (d : TypeDesc) (hr : RdI w b off x)
    (hu : P.underlying ty = some d) (hd : d.isRow = true) (hi : (P.info? ty).map (·.size) = some 19)
    (h : wpList P ops Q rest (a.put o.dst (.agg (bk x))) w) : wpList P ops Q (o :: rest) a w :=
  wpList_step fun K hK => by
    rw [if_pos hgd]
    exact wp_load_mid ty y ho b off hx (bk x).toList d hr.range hu hd (by simpa [bk_size] using hi) (hK _ _ (by simpa using h))

theorem results_bk {fn : Func} {p : Tmp} {ty : TypeId} (h : fn.results = #[.cell p ty]) (tmps : Array Value) (w : World) (g : Nat) (x : Nat → Int) (d : TypeDesc)
    (hp : tmps.getD p undef = .pointer (some ⟨g, 0, none⟩)) (hr : RdI w g 0 x)
    (hu : P.underlying ty = some d) (hd : d.isRow = true) (hi : (P.info? ty).map (·.size) = some 19) :
    (results fn tmps).run P w = .ok (.agg (bk x)) w := by
  have hp' : tmps[p]?.getD undef = .pointer (some ⟨g, 0, none⟩) := by simpa using hp
  have hl : (loadVar ty ⟨g, 0, none⟩).run P w = .ok (.agg (bk x)) w := by
    have := run_loadVar_mid (P := P) w g 0 ty (bk x).toList d hr.range hu hd (by simpa [bk_size] using hi)
    simpa using this
  simp [results, h, hp', asAddr, hl]
end

theorem index_any (x : Nat → Int) (w : World) : ∀ k, k < 19 → (Instr.index 87 (.agg (bk x)) (.int .i64 (k : Nat))).run Try.prog w = .ok (.int .i64 (x k)) w := by
  intro i hi
  have : i = 0 ∨ i = 1 ∨ i = 2 ∨ i = 3 ∨ i = 4 ∨ i = 5 ∨ i = 6 ∨ i = 7 ∨ i = 8 ∨ i = 9 ∨ i = 10 ∨ i = 11 ∨ i = 12 ∨ i = 13 ∨ i = 14 ∨ i = 15 ∨ i = 16 ∨ i = 17 ∨ i = 18 := by omega
  rcases this with rfl | rfl | rfl | rfl | rfl | rfl | rfl | rfl | rfl | rfl | rfl | rfl | rfl | rfl | rfl | rfl | rfl | rfl | rfl <;> (show _ = _; kernel_rfl)

end Go.Proofs.Ytolbihfnogbjaaa

/- Laws for nineteen numbers: equality, loads and literals in regions that draw their order, a row stored. Conditions: none beyond each lemma's own premises. -/
namespace Go.Proofs.Ytolbihfnogbjaaa
open Go.RowKit

/-- Are the nineteen numbers the same? -/
def eqB (x y : Nat → Int) : Bool := (List.range 19).all fun i => x i == y i

theorem eqB_iff {x y : Nat → Int} : eqB x y = true ↔ ∀ i, i < 19 → x i = y i := by
  simp [eqB, List.all_eq_true]
theorem eqB_self (x : Nat → Int) : eqB x x = true := eqB_iff.2 fun _ _ => rfl
theorem eqB_no {x y : Nat → Int} (h : ¬ ∀ i, i < 19 → x i = y i) : eqB x y = false := by
  cases he : eqB x y with
  | false => rfl
  | true => exact absurd (eqB_iff.1 he) h
theorem bk_eq {x y : Nat → Int} (h : ∀ i, i < 19 → x i = y i) : bk x = bk y := by
  unfold bk
  rw [h 0 (by omega), h 1 (by omega), h 2 (by omega), h 3 (by omega), h 4 (by omega), h 5 (by omega), h 6 (by omega), h 7 (by omega), h 8 (by omega), h 9 (by omega), h 10 (by omega), h 11 (by omega), h 12 (by omega), h 13 (by omega), h 14 (by omega), h 15 (by omega), h 16 (by omega), h 17 (by omega), h 18 (by omega)]

section
theorem b_sr {n : Nat} {w W : World} {g : Nat} {cs : Array Value} (h : Below n w W) (hg : n ≤ g) : Below n w (W.setRow g cs) :=
  ⟨h.os, h.tape, h.output, by rw [setRow_size]; exact h.size, fun k hk => (setRow_other W g k cs (by omega)).trans (h.block k hk)⟩

theorem RdI.stored {W : World} {g : Nat} (x : Nat → Int) {old : Array Value} {t : TypeId} {fr : Nat × Nat} (hg : W.heap[g]? = some (.cells old t fr)) : RdI (W.setRow g (bk x)) g 0 x := by
  refine ⟨by rw [setRow_size]; exact (Array.getElem?_eq_some_iff.1 hg).1, fun i hi => ?_⟩
  rw [Nat.zero_add, cell_setRow_same W g i old _ t fr hg]
  exact bk_at x i hi

theorem h_al {W : World} {g : Nat} {v : Obj} (o : Obj) (h : W.heap[g]? = some v) : (W.alloc o).heap[g]? = some v := by
  rw [heap_alloc_old _ _ (Array.getElem?_eq_some_iff.1 h).1, h]
theorem h_new {W : World} {g : Nat} (o : Obj) (h : g = W.heap.size) : (W.alloc o).heap[g]? = some o := by subst h; exact heap_alloc_new _ _
theorem h_cl {W w1 : World} {g : Nat} {v : Obj} (h : W.heap[g]? = some v) (hb : Below W.heap.size W w1) : w1.heap[g]? = some v := by
  rw [hb.block g (Array.getElem?_eq_some_iff.1 h).1, h]
end

section
variable {P : Program}
theorem eqFields_all (x y : Nat → Int) (w : World) (d : Nat) (t : TypeId) (ht : P.underlying t = some (.int .i64)) : ∀ fs : List Field, (∀ f ∈ fs, f.name ≠ "_" ∧ f.type = t ∧ f.offset < 19) →
    (Op.eqFields (d + 1) (bk x) (bk y) fs).run P w = .ok (fs.all fun f => x f.offset == y f.offset) w
  | [], _ => rfl
  | f :: fs, h => by
    obtain ⟨hn, hty, ho⟩ := h f (by simp)
    have ih := eqFields_all x y w d t ht fs (fun g hg => h g (by simp [hg]))
    have hagg : ∀ w, (isAgg t).run P w = .ok false w := fun w => by
      unfold isAgg
      rw [Sem.run_bind, run_underlying ht w]
      simp
    have p1 : (part f.type (bk x) f.offset).run P w = .ok (.int .i64 (x f.offset)) w := by
      rw [hty]; unfold part; rw [Sem.run_bind, hagg]; simp [bk_at x f.offset ho]
    have p2 : (part f.type (bk y) f.offset).run P w = .ok (.int .i64 (y f.offset)) w := by
      rw [hty]; unfold part; rw [Sem.run_bind, hagg]; simp [bk_at y f.offset ho]
    have p3 : (Op.equalIn (d + 1) f.type (.int .i64 (x f.offset)) (.int .i64 (y f.offset))).run P w = .ok (x f.offset == y f.offset) w := by
      rw [hty]; exact run_equalIn_int w d t .i64 .i64 _ _ ht
    unfold Op.eqFields
    rw [if_pos hn]
    simp only [Sem.run_bind, p1, p2, p3, Result.andThen_ok]
    cases he : (x f.offset == y f.offset) with
    | true => simp [ih, he]
    | false => simp [he]
end

theorem fields_book : (Try.prog.fieldsOf 23).toList.map (·.offset) = List.range 19 := by kernel_rfl
theorem fields_int : ∀ f ∈ (Try.prog.fieldsOf 23).toList, f.name ≠ "_" ∧ f.type = 3 ∧ f.offset < 19 := of_decide_eq_true (by kernel_rfl)

theorem equal_bk (x y : Nat → Int) (w : World) : (Op.equalIn 10000 23 (.agg (bk x)) (.agg (bk y))).run Try.prog w = .ok (eqB x y) w := by
  rw [show (10000 : Nat) = 9998 + 1 + 1 from rfl, run_equalIn_struct w (9998 + 1) 23 (bk x) (bk y) (by kernel_rfl) (by kernel_rfl), eqFields_all x y w 9998 3 Try.underlying3 _ fields_int]
  have e : eqB x y = (Try.prog.fieldsOf 23).toList.all fun f => x f.offset == y f.offset := by
    unfold eqB
    rw [← fields_book, List.all_map]
    rfl
  rw [e]

theorem guard_book : Try.prog.eqGuardType Try.prog.depth 23 = false := by kernel_rfl

section
variable {ops : Array Oper} {rest : List Oper} {o : Oper} {a : Act} {w : World} {Q : Exit → Act → World → Prop} {K : Act → World → Prop}
theorem exec_eql {r : Operand → Value} {e f : Operand} {u : TypeId} (x y : Nat → Int) (w : World) (ho : o.op = .binOp .eql 23 e f u) (hx : r e = .agg (bk x)) (hy : r f = .agg (bk y)) : (execOp r o).run Try.prog w = .ok (.value (.bool (eqB x y))) w := by
  unfold execOp
  simp only [ho, hx, hy, Sem.run_bind, run_eqGuard_agg w .eql 23 e f (bk x) (bk y) guard_book, run_eql_struct, equal_bk, Result.andThen_ok]
  rfl
theorem exec_neq {r : Operand → Value} {e f : Operand} {u : TypeId} (x y : Nat → Int) (w : World) (ho : o.op = .binOp .neq 23 e f u) (hx : r e = .agg (bk x)) (hy : r f = .agg (bk y)) : (execOp r o).run Try.prog w = .ok (.value (.bool (!eqB x y))) w := by
  unfold execOp
  simp only [ho, hx, hy, Sem.run_bind, run_eqGuard_agg w .neq 23 e f (bk x) (bk y) guard_book, run_neq_struct, equal_bk, Result.andThen_ok]
  rfl
theorem wpList_eql_bk (hw : Region.wanted o (yielded ops a.tmps) = true) {e f : Operand} {u : TypeId} (ho : o.op = .binOp .eql 23 e f u) (x y : Nat → Int) (v : Bool) (hx : a.eval e = .agg (bk x)) (hy : a.eval f = .agg (bk y)) (hv : eqB x y = v)
    (h : wpList Try.prog ops Q rest (a.put o.dst (.bool v)) w) : wpList Try.prog ops Q (o :: rest) a w :=
  wpList_yields hw (fun w => exec_eql x y w ho hx hy) (by rw [hv]; exact h)
theorem wpList_neq_bk (hw : Region.wanted o (yielded ops a.tmps) = true) {e f : Operand} {u : TypeId} (ho : o.op = .binOp .neq 23 e f u) (x y : Nat → Int) (v : Bool) (hx : a.eval e = .agg (bk x)) (hy : a.eval f = .agg (bk y)) (hv : eqB x y = v)
    (h : wpList Try.prog ops Q rest (a.put o.dst (.bool (!v))) w) : wpList Try.prog ops Q (o :: rest) a w :=
  wpList_yields hw (fun w => exec_neq x y w ho hx hy) (by rw [hv]; exact h)
theorem exec_load {r : Operand → Value} {ty : TypeId} {y : Operand} (b off : Nat) (x : Nat → Int) (d : TypeDesc) (w : World) (ho : o.op = .load ty y) (hx : r y = .pointer (some ⟨b, off, none⟩)) (hr : RdI w b off x)
    (hu : Try.prog.underlying ty = some d) (hd : d.isRow = true) (hi : (Try.prog.info? ty).map (·.size) = some 19) : (execOp r o).run Try.prog w = .ok (.value (.agg (bk x))) w := by
  unfold execOp
  simp only [ho, hx, run_loadAt_bk w b off ty x d hr hu hd hi, Sem.run_bind, Result.andThen_ok]
  rfl
theorem wpList_arrayAt (hg : Region.wanted o (yielded ops a.tmps) = true) (arr e : TypeId) (n : Nat) (y : Operand) (ho : o.op = .sliceToArrayPointer arr y) (A : Option Addr) (len cap : Nat) (hx : a.eval y = .slice A len cap)
    (hu : Try.prog.underlying arr = some (.array n e)) (hn : n ≤ len) (h : wpList Try.prog ops Q rest (a.put o.dst (.pointer A)) w) : wpList Try.prog ops Q (o :: rest) a w :=
  wpList_yields hg (fun w => by unfold execOp; simp only [ho, hx, Sem.run_bind, run_arrayAt w arr e n A len cap hu hn, Result.andThen_ok]; rfl) h
end

theorem results_bk2 {fn : Func} {p q : Tmp} {ty : TypeId} (h : fn.results = #[.cell p ty, .tmp q]) (tmps : Array Value) (w : World) (g : Nat) (x : Nat → Int) (d : TypeDesc) (v : Value)
    (hp : tmps.getD p undef = .pointer (some ⟨g, 0, none⟩)) (hr : RdI w g 0 x) (hq : tmps.getD q undef = v)
    (hu : Try.prog.underlying ty = some d) (hd : d.isRow = true) (hi : (Try.prog.info? ty).map (·.size) = some 19) :
    (results fn tmps).run Try.prog w = .ok (.tuple #[.agg (bk x), v]) w := by
  have hp' : tmps[p]?.getD undef = .pointer (some ⟨g, 0, none⟩) := by simpa using hp
  have hq' : tmps[q]?.getD undef = v := by simpa using hq
  have hl : (loadVar ty ⟨g, 0, none⟩).run Try.prog w = .ok (.agg (bk x)) w := by
    have := run_loadVar_mid (P := Try.prog) w g 0 ty (bk x).toList d hr.range hu hd (by simpa [bk_size] using hi)
    simpa using this
  simp [results, h, hp', hq', asAddr, hl]

end Go.Proofs.Ytolbihfnogbjaaa

/- What laid, made, fixed, Europe and Numbers of layer 7 return, and the document's own, for any book. Conditions: none beyond each theorem's own premises. -/
namespace Go.Proofs.Ytolbihfnogbjaaa
open Go.RowKit

/-- What of a book must be the same in another. -/
def fixV (x : Nat → Int) : Nat → Int
  | 1 => x 1
  | 2 => x 2
  | 3 => x 3
  | 7 => x 7
  | 8 => x 8
  | 10 => x 10
  | 12 => x 12
  | 13 => x 13
  | 18 => x 18
  | _ => 0

/-- The European book's numbers. -/
def euV : Nat → Int
  | 0 => 270
  | 1 => 45
  | 2 => 15
  | 3 => 30
  | 4 => 540
  | 5 => 600
  | 6 => 2
  | 7 => 660
  | 8 => 540
  | 9 => 3
  | 10 => 180
  | 11 => 1440
  | 12 => 2700
  | 13 => 1440
  | 14 => 8640
  | 15 => 3360
  | 16 => 5400
  | 17 => 3600
  | 18 => 10080
  | _ => 0

set_option maxRecDepth 20000 in
theorem laid_any (x : Nat → Int) (w : World) :
    Calls Try.prog 34 #[.agg (bk x)] w fun e w' => e = .returned (.agg (bk x)) ∧ Below w.heap.size w w' := by
  have z0 := bk_at x 0 (by omega); have z1 := bk_at x 1 (by omega); have z2 := bk_at x 2 (by omega); have z3 := bk_at x 3 (by omega); have z4 := bk_at x 4 (by omega); have z5 := bk_at x 5 (by omega); have z6 := bk_at x 6 (by omega); have z7 := bk_at x 7 (by omega); have z8 := bk_at x 8 (by omega); have z9 := bk_at x 9 (by omega); have z10 := bk_at x 10 (by omega); have z11 := bk_at x 11 (by omega); have z12 := bk_at x 12 (by omega); have z13 := bk_at x 13 (by omega); have z14 := bk_at x 14 (by omega); have z15 := bk_at x 15 (by omega); have z16 := bk_at x 16 (by omega); have z17 := bk_at x 17 (by omega); have z18 := bk_at x 18 (by omega)
  go_enter Try.func34, Try.ntmps34
  go_wp2_with (first | refine wpList_build_as rfl 87 _ rfl (bk x) (by kernel_rfl) ?_ | refine wpList_store_new rfl 87 _ _ rfl _ (bk x) rfl rfl (by first | rfl | (simp; done)) (by kernel_rfl) rfl (bk_one x) ?_)
  refine bodyPost_ret (v := .agg (bk x)) (results_bk Try.results34 _ _ _ x _ (by rfl) (RdI.new x _ (by first | rfl | (simp; done))) Try.underlying87 rfl (by kernel_rfl)) rfl ⟨rfl, ?_⟩
  (repeat (first | exact Below.refl _ _ | (refine b_st ?_ (by first | (simp; done) | (simp; omega))) | (refine b_al ?_ (Nat.le_refl _) _) | refine b_dn ?_ | refine b_dr ?_ | (refine b_cl ?_ (Nat.le_refl _) (by assumption))))

set_option maxRecDepth 20000 in
theorem refeurope_any  (w : World) :
    Calls Try.prog 14 #[] w fun e w' => e = .returned (.agg (bk euV)) ∧ Below w.heap.size w w' := by
  go_enter Try.func14, Try.ntmps14
  go_wp2_with (first | refine wpList_build_as rfl 23 _ rfl (bk euV) (by kernel_rfl) ?_ | refine wpList_store_new rfl 23 _ _ rfl _ (bk euV) rfl rfl (by first | rfl | (simp; done)) (by kernel_rfl) rfl (bk_one euV) ?_)
  refine bodyPost_ret (v := .agg (bk euV)) (results_bk Try.results14 _ _ _ euV _ (by rfl) (RdI.new euV _ (by first | rfl | (simp; done))) Try.underlying23 rfl (by kernel_rfl)) rfl ⟨rfl, ?_⟩
  (repeat (first | exact Below.refl _ _ | (refine b_st ?_ (by first | (simp; done) | (simp; omega))) | (refine b_al ?_ (Nat.le_refl _) _) | refine b_dn ?_ | refine b_dr ?_ | (refine b_cl ?_ (Nat.le_refl _) (by assumption))))

end Go.Proofs.Ytolbihfnogbjaaa

/- A book and a slice of numbers as arguments: opened to what they hold. Conditions: none. -/
namespace Go.Proofs.Ytolbihfnogbjaaa
open Go.ChangeShapes Go.WideShapes Go.ChangeAt Go.RowKit Go.Joins Go.Deep
set_option maxRecDepth 100000

theorem choose_nat {P : Nat → Int → Prop} {n : Nat} (h : ∀ i, i < n → ∃ v, P i v) : ∃ x : Nat → Int, ∀ i, i < n → P i (x i) := by
  classical
  refine ⟨fun i => if hi : i < n then (h i hi).choose else 0, fun i hi => ?_⟩
  simp only [dif_pos hi]
  exact (h i hi).choose_spec

theorem bk_of {cs : Array Value} {x : Nat → Int} (hs : cs.size = 19) (h : ∀ i, i < 19 → cs[i]? = some (.int .i64 (x i))) : cs = bk x := by
  refine Array.ext_getElem? fun i => ?_
  by_cases hi : i < 19
  · rw [h i hi, bk_at x i hi]
  · rw [Array.getElem?_eq_none (by omega), Array.getElem?_eq_none (by rw [bk_size]; omega)]

theorem cells_book : Try.prog.cellsOf 23 = 19 := by kernel_rfl
theorem fields_ok : ∃ fs, Try.prog.underlying 23 = some (.struct fs) ∧ oneCellFields Try.prog fs = true ∧ fs.size = 19 ∧ ∀ (i : Nat) (f : Field), fs[i]? = some f → f.type = 3 := by
  refine ⟨_, Try.underlying23, by kernel_rfl, by kernel_rfl, fun i f hf => ?_⟩
  have : ∀ g ∈ (Try.prog.fieldsOf 23).toList, g.type = 3 := of_decide_eq_true (by kernel_rfl)
  exact this f (by have := Array.mem_of_getElem? hf; simpa [Program.fieldsOf, Try.underlying23] using this)

theorem open_book {H : Type} {enc : TypeId × Value → H} {w : World} {base : Nat} {spare : Nat → Bool} {held : Bool} {r : Reach} {b0 : Nat} {v : Value} {d : DataW H} {p : List MemPlace}
    (hv : Value.okWide Try.prog w r b0 23 v) (h : DataW.Trod enc Try.prog w base spare held 23 v d p) :
    ∃ x : Nat → Int, v = .agg (bk x) := by
  obtain ⟨fs, hs, hone, hfs, hty⟩ := fields_ok
  obtain ⟨cs, rfl, hsz⟩ := okWide_struct hs hv
  rw [cells_book] at hsz
  obtain ⟨fuel, hf⟩ := h
  obtain ⟨xs, n, _, _, _, hlen, hg⟩ := DataW.trod_struct hs hf
  obtain ⟨x, hx⟩ := choose_nat (P := fun i n => cs[i]? = some (.int .i64 n)) (n := 19) (fun i hi => by
    have hfi : fs[i]? = some (fs[i]'(by omega)) := Array.getElem?_eq_getElem (by omega)
    obtain ⟨o, k⟩ := hone_of hone i _ hfi
    have h1 := hg i _ hfi
    rw [o, k, hty i _ hfi] at h1
    have hxs : xs[i]? = some (xs[i]'(by omega)) := List.getElem?_eq_getElem (by omega)
    rw [hxs] at h1
    have hone' : (((Value.agg cs).cells.toList).drop i).take 1 = [cs[i]'(by omega)] := by
      show (cs.toList.drop i).take 1 = _
      rw [List.drop_eq_getElem_cons (by simpa using (by omega : i < cs.size))]
      rfl
    rw [hone'] at h1
    obtain ⟨m, e, _, _⟩ := DataW.trod_int Try.underlying3 h1
    refine ⟨m, ?_⟩
    rw [Array.getElem?_eq_getElem (by omega)]
    injection e with e _
    rw [e])
  exact ⟨x, by rw [bk_of hsz hx]⟩

theorem open_ints7 {H : Type} {enc : TypeId × Value → H} {w : World} {base : Nat} {spare : Nat → Bool} {held : Bool} {r : Reach} {b0 : Nat} {v : Value} {d : DataW H} {p : List MemPlace}
    (hv : Value.okWide Try.prog w r b0 40 v) (h : DataW.Trod enc Try.prog w base spare held 40 v d p) :
    ∃ (A : Option Addr) (n c : Nat), v = .slice A n c ∧ (n = 19 → ∃ b off x, A = some ⟨b, off, none⟩ ∧ RdI w b off x) := by
  obtain ⟨a0, len0, cap0, rfl⟩ := okWide_slice Try.underlying40 hv
  obtain ⟨fuel, hf⟩ := h
  refine ⟨a0, len0, cap0, rfl, fun h19 => ?_⟩
  subst h19
  rcases open_ints Try.underlying40 Try.underlying3 (by kernel_rfl) hf with ⟨hcs, _⟩ | ⟨a, len, cap, zs, hcs, _, hl, _, hzl, _, hc, _⟩
  · simp [Value.cells] at hcs
  · simp [Value.cells] at hcs
    obtain ⟨rfl, rfl, rfl⟩ := hcs
    have hlm : 19 ≤ zs.length := by rw [hzl]; split <;> omega
    obtain ⟨b, off, spot⟩ := a
    have h0 := hc 0 (by omega)
    have hspot : spot = none := by simpa [Addr.add] using World.cell?_spot h0
    subst hspot
    refine ⟨b, off, fun i => zs.getD i 0, rfl, ?_, fun i hi => ?_⟩
    · have := World.block_lt_of_cell? w _ h0
      simpa [Addr.add] using this
    · have := hc i (by omega)
      have e : (⟨b, off, none⟩ : Addr).add i = ⟨b, off + i, none⟩ := Addr.add_mid b off i
      rwa [e] at this

end Go.Proofs.Ytolbihfnogbjaaa

/- What a call leaves that turns one block and may make memory. Conditions: none beyond each lemma's own premises. -/
namespace Go.Proofs.Ytolbihfnogbjaaa
open Go.RowKit

/-- What a call leaves that turns block g and may make memory: g holds cs, all else that lay is as it was. -/
structure Chg (W : World) (g : Nat) (t : TypeId) (cs : Array Value) (W' : World) : Prop where
  size : W.heap.size ≤ W'.heap.size
  box : Bx W' g t cs
  other : ∀ k, k ≠ g → k < W.heap.size → W'.heap[k]? = W.heap[k]?
  bel : ∀ n, n ≤ g → n ≤ W.heap.size → Below n W W'

theorem Chg.refl {W : World} {g : Nat} {t : TypeId} {cs : Array Value} (h : Bx W g t cs) : Chg W g t cs W := ⟨Nat.le_refl _, h, fun _ _ _ => rfl, fun _ _ _ => Below.refl _ _⟩
theorem Chg.upd {W W1 W2 : World} {g : Nat} {t s : TypeId} {cs ds : Array Value} (c : Chg W g t cs W1) (u : Upd W1 g s ds W2) : Chg W g s ds W2 :=
  ⟨by rw [u.size]; exact c.size, u.box, fun k hk hl => (u.other k hk).trans (c.other k hk hl), fun n hn hl => (c.bel n hn hl).trans (u.bel n hn)⟩
theorem Chg.trans {W W1 W2 : World} {g : Nat} {t s : TypeId} {cs ds : Array Value} (c : Chg W g t cs W1) (d : Chg W1 g s ds W2) : Chg W g s ds W2 :=
  ⟨Nat.le_trans c.size d.size, d.box, fun k hk hl => (d.other k hk (Nat.lt_of_lt_of_le hl c.size)).trans (c.other k hk hl), fun n hn hl => (c.bel n hn hl).trans (d.bel n hn (Nat.le_trans hl c.size))⟩
theorem Chg.below {W W1 W2 : World} {g : Nat} {t : TypeId} {cs : Array Value} (c : Chg W g t cs W1) (hb : Below W1.heap.size W1 W2) : Chg W g t cs W2 :=
  ⟨Nat.le_trans c.size hb.size, c.box.below hb, fun k hk hl => (hb.block k (Nat.lt_of_lt_of_le hl c.size)).trans (c.other k hk hl), fun n hn hl => (c.bel n hn hl).trans (hb.mono (Nat.le_trans hl c.size))⟩
theorem Chg.alloc {W W1 : World} {g : Nat} {t : TypeId} {cs : Array Value} (c : Chg W g t cs W1) (o : Obj) : Chg W g t cs (W1.alloc o) := c.below ((Below.refl _ _).alloc (Nat.le_refl _) o)
theorem Chg.drew {W W1 : World} {g : Nat} {t : TypeId} {cs : Array Value} (c : Chg W g t cs W1) : Chg W g t cs W1.drew := ⟨c.size, c.box.drew, c.other, fun n hn hl => b_dr (c.bel n hn hl)⟩
theorem Chg.bx {W W' : World} {g h : Nat} {t s : TypeId} {cs ds : Array Value} (c : Chg W g t cs W') (hb : Bx W h s ds) (hp : h ≠ g) : Bx W' h s ds := (c.other h hp hb.lt).trans hb
theorem Chg.cell {W W' : World} {g : Nat} {t : TypeId} {cs : Array Value} (c : Chg W g t cs W') {p : Addr} (hp : p.block ≠ g) (hl : p.block < W.heap.size) : W'.cell? p = W.cell? p := World.cell?_of_block (w := W) (c.other p.block hp hl)

/-- What is stored is what lay there. -/
theorem Upd.same {W : World} {g : Nat} {t : TypeId} {cs : Array Value} (h : Bx W g t cs) : Upd W g t cs W := ⟨rfl, h, fun _ _ => rfl, fun _ _ => Below.refl _ _⟩
/-- One cell is stored. -/
theorem Bx.setOne {W : World} {g k : Nat} {t : TypeId} {cs : Array Value} {v : Value} (h : Bx W g t cs) : Upd W g t (cs.setIfInBounds k v) (W.setCell ⟨g, k, none⟩ v) := by
  unfold Bx at h
  have hs : (W.setCell ⟨g, k, none⟩ v).heap.size = W.heap.size := by simp [World.setCell]
  have ho : ∀ q, q ≠ g → (W.setCell ⟨g, k, none⟩ v).heap[q]? = W.heap[q]? := fun q hq => by
    simp only [World.setCell]
    rw [Array.getElem?_modify, if_neg (fun e => hq e.symm)]
  refine ⟨hs, ?_, ho, fun n hn => ⟨rfl, rfl, rfl, by rw [hs]; exact Nat.le_refl _, fun q hq => ho q (by omega)⟩⟩
  unfold Bx
  simp only [World.setCell]
  rw [Array.getElem?_modify, if_pos rfl, h]
  rfl
theorem Upd.trans {W W1 W2 : World} {g : Nat} {t s : TypeId} {cs ds : Array Value} (c : Upd W g t cs W1) (d : Upd W1 g s ds W2) : Upd W g s ds W2 :=
  ⟨by rw [d.size, c.size], d.box, fun k hk => (d.other k hk).trans (c.other k hk), fun n hn => (c.bel n hn).trans (d.bel n hn)⟩

end Go.Proofs.Ytolbihfnogbjaaa

/- A struct that is built, guarded or not. Conditions: none. -/
namespace Go.Proofs.Ytolbihfnogbjaaa
open Go.RowKit

set_option linter.unusedVariables false

/-- A struct that is built, guarded or not. -/
theorem wpList_build_g {ops : Array Oper} {rest : List Oper} {o : Oper} {a : Act} {w : World} {Q : Exit → Act → World → Prop} (hw : Region.wanted o (yielded ops a.tmps) = true) (ty : TypeId) (parts : Array (Nat × Operand)) (ho : o.op = .build ty parts) (cells : Array Value)
    (hf : Try.prog.built ty (parts.map fun (i, x) => (i, a.eval x)).toList = some cells) (h : wpList Try.prog ops Q rest (a.put o.dst (.agg cells)) w) : wpList Try.prog ops Q (o :: rest) a w :=
  wpList_yields hw (fun w => exec_build cells w ho hf) h

end Go.Proofs.Ytolbihfnogbjaaa

/- A region that draws its order and makes memory; rows of a slice that the call itself has made. Conditions: none beyond each lemma's own premises. -/
namespace Go.Proofs.Ytolbihfnogbjaaa
open Go.RowKit

/-- A world in which all that lay in w lies unturned. -/
structure BelowOf (w : World) where
  world : World
  ok : Below w.heap.size w world

instance (w : World) : Inhabited (BelowOf w) := ⟨⟨w, Below.refl _ _⟩⟩

theorem BelowOf.cell {w : World} (p : BelowOf w) {a : Addr} {v : Value} (h : w.cell? a = some v) : p.world.cell? a = some v :=
  (p.ok.cell (World.block_lt_of_cell? w a h)).trans h

theorem wp_region_bel {P : Program} {id : Nat} {Q : Exit → Act → World → Prop} {a : Act} {w : World} {l : List Oper} (hm : P.follows .mixedOrders = true) (hB : Region.lexB .any l.toArray = true)
    (h : wpQuiet P l.toArray (fun w' => ∃ p : BelowOf w, w' = p.world) (fun a' => ∀ w', (∃ p : BelowOf w, w' = p.world) → Q .normal a' w') l a) : (Code.region id l.toArray true).wp P Q a w :=
  wp_region_quiet (C := fun w' => ∃ p : BelowOf w, w' = p.world) hm hB ⟨⟨w.drew, b_dr (Below.refl _ _)⟩, rfl⟩ (by simpa using h)

theorem bel_all {w : World} {Q : World → Prop} (h : ∀ wq, Below w.heap.size w wq → Q wq) : ∀ w', (∃ p : BelowOf w, w' = p.world) → Q w' := fun _ ⟨⟨_, ok⟩, e⟩ => e ▸ h _ ok

theorem Calls.bel_of {P : Program} {f : FuncId} {args : Array Value} {w : World} {p : BelowOf w} {v : Value}
    (h : Calls P f args p.world fun e w' => e = .returned v ∧ Below p.world.heap.size p.world w') : Calls P f args p.world fun e w'' => e = .returned v ∧ ∃ q : BelowOf w, w'' = q.world :=
  h.mono fun _ _ ⟨he, hb⟩ => ⟨he, ⟨_, p.ok.trans (hb.mono p.ok.size)⟩, rfl⟩

/-! ### Rows of a slice of the call's own -/

theorem row_below {base sz n : Nat} {e : TypeId} {w w' : World} {v : Value} {cs : List Value} (h : w.ownsRow base e sz v n cs) (hb : Below w.heap.size w w') : w'.ownsRow base e sz v n cs := by
  refine ⟨h.1, ?_⟩
  rcases h.2 with h2 | ⟨g, cap, cur, hv, hg, hh, r⟩
  · exact Or.inl h2
  · refine Or.inr ⟨g, cap, cur, hv, hg, ?_, r⟩
    have hlt : g < w.heap.size := by
      rcases Nat.lt_or_ge g w.heap.size with h | h
      · exact h
      · rw [Array.getElem?_eq_none h] at hh; cases hh
    rw [hb.block g hlt]; exact hh

theorem row_more {base base' sz n : Nat} {e : TypeId} {w : World} {v : Value} {cs : List Value} (h : w.ownsRow base e sz v n cs) (hb : base' ≤ base) : w.ownsRow base' e sz v n cs := by
  refine ⟨h.1, ?_⟩
  rcases h.2 with h2 | ⟨g, cap, cur, hv, hg, hh, r⟩
  · exact Or.inl h2
  · exact Or.inr ⟨g, cap, cur, hv, Nat.le_trans hb hg, hh, r⟩

theorem row_form {base sz n : Nat} {e : TypeId} {w : World} {v : Value} {cs : List Value} (h : w.ownsRow base e sz v n cs) : ∃ A c, v = .slice A n c ∧ (n ≠ 0 → ∃ g, A = some ⟨g, 0, none⟩ ∧ base ≤ g ∧ g < w.heap.size) ∧ (n = 0 → A = none → c = 0) := by
  have h0 := h
  rcases h.2 with ⟨rfl, hn⟩ | ⟨g, cap, cur, rfl, hb, hg, h1, h2, h3, h4⟩
  · subst hn; exact ⟨none, 0, rfl, fun h => absurd rfl h, fun _ _ => rfl⟩
  · exact ⟨some ⟨g, 0, none⟩, cap, rfl, fun _ => ⟨g, rfl, hb, (h0.lt g rfl).2⟩, fun _ h => by cases h⟩

/-- The block, where there is one: it may be written. -/
theorem row_some {base sz n c b off : Nat} {e : TypeId} {w : World} {cs : List Value} (h : w.ownsRow base e sz (.slice (some ⟨b, off, none⟩) n c) n cs) : off = 0 ∧ base ≤ b ∧ ∀ j, w.frozen? ⟨b, j, none⟩ = false := by
  rcases h.2 with ⟨h', _⟩ | ⟨g, cap, cur, h', hb, hg, _⟩
  · simp at h'
  · simp only [Value.slice.injEq, Option.some.injEq, Addr.mk.injEq, and_true] at h'
    obtain ⟨⟨rfl, rfl⟩, _, rfl⟩ := h'
    exact ⟨rfl, hb, fun j => by simp [World.frozen?, hg]⟩

/-- Behind an append ahead of which two blocks were made. -/
theorem grown_two {W w5 : World} {row : Option Nat} {base : Nat} {o1 o2 : Obj} (hg : ((W.alloc o1).alloc o2).grownBy w5 row) (hrow : ∀ k, row = some k → base ≤ k ∧ k < W.heap.size) (hbase : base ≤ W.heap.size) :
    w5.heap[W.heap.size]? = some o1 ∧ Below base W w5 ∧ W.heap.size + 2 ≤ w5.heap.size := by
  have hs : ((W.alloc o1).alloc o2).heap.size = W.heap.size + 2 := by simp
  have hz := hg.size
  refine ⟨?_, ((((Below.refl base W).alloc hbase o1).alloc (by simp; omega) o2).grown hg (by simp; omega) (fun k hk => (hrow k hk).1)), by omega⟩
  rw [hg.block W.heap.size (by omega) (fun e => by have := (hrow _ e.symm).2; omega), Below.heap_alloc _ _ _ (by simp)]
  exact heap_alloc_new W o1

/-- A span in a block of its own, that may be written. -/
structure Box2 (w : World) (B : Nat) (x y : Int) : Prop where
  c0 : w.cell? ⟨B, 0, none⟩ = some (.int .i64 x)
  c1 : w.cell? ⟨B, 1, none⟩ = some (.int .i64 y)
  f0 : w.frozen? ⟨B, 0, none⟩ = false
  f1 : w.frozen? ⟨B, 1, none⟩ = false

theorem Box2.lt {w : World} {B : Nat} {x y : Int} (h : Box2 w B x y) : B < w.heap.size := World.block_lt_of_cell? w ⟨B, 0, none⟩ h.c0

theorem Box2.new (w : World) (x y : Int) (t : TypeId) : Box2 (w.alloc (.cells #[.int .i64 x, .int .i64 y] t)) w.heap.size x y := ⟨by simp, by simp, by simp, by simp⟩

theorem Box2.newAt (w : World) {n : Nat} (hn : n = w.heap.size) (x y : Int) (t : TypeId) : Box2 (w.alloc (.cells #[.int .i64 x, .int .i64 y] t)) n x y := by
  subst hn; exact Box2.new w x y t

theorem Box2.below {w w' : World} {B : Nat} {x y : Int} (h : Box2 w B x y) (hb : Below w.heap.size w w') : Box2 w' B x y :=
  ⟨by rw [hb.cell (p := ⟨B, 0, none⟩) h.lt]; exact h.c0, by rw [hb.cell (p := ⟨B, 1, none⟩) h.lt]; exact h.c1, by rw [hb.frozen (p := ⟨B, 0, none⟩) h.lt]; exact h.f0, by rw [hb.frozen (p := ⟨B, 1, none⟩) h.lt]; exact h.f1⟩

theorem Box2.alloc {w : World} {B : Nat} {x y : Int} (h : Box2 w B x y) (o : Obj) : Box2 (w.alloc o) B x y := h.below ((Below.refl _ _).alloc (Nat.le_refl _) o)

theorem Box2.set1 {w : World} {B : Nat} {x y : Int} (h : Box2 w B x y) (z : Int) : Box2 (w.setCell ⟨B, 1, none⟩ (.int .i64 z)) B x z :=
  ⟨by rw [World.cell?_setCell_other w _ _ _ (by simp)]; exact h.c0, World.cell?_setCell_same' _ _ _ (by rw [h.c1]; rfl), by rw [World.frozen?_setCell]; exact h.f0, by rw [World.frozen?_setCell]; exact h.f1⟩

theorem Box2.set0 {w : World} {B : Nat} {x y : Int} (h : Box2 w B x y) (z : Int) : Box2 (w.setCell ⟨B, 0, none⟩ (.int .i64 z)) B z y :=
  ⟨World.cell?_setCell_same' _ _ _ (by rw [h.c0]; rfl), by rw [World.cell?_setCell_other w _ _ _ (by simp)]; exact h.c1, by rw [World.frozen?_setCell]; exact h.f0, by rw [World.frozen?_setCell]; exact h.f1⟩

theorem Box2.other {w : World} {B : Nat} {x y : Int} (h : Box2 w B x y) {p : Addr} (hp : p.block ≠ B) (u : Value) : Box2 (w.setCell p u) B x y :=
  ⟨by rw [World.cell?_setCell_other w _ _ _ (by rintro rfl; exact hp rfl)]; exact h.c0, by rw [World.cell?_setCell_other w _ _ _ (by rintro rfl; exact hp rfl)]; exact h.c1, by rw [World.frozen?_setCell]; exact h.f0, by rw [World.frozen?_setCell]; exact h.f1⟩

theorem b_un {n : Nat} {w W : World} (h : Below n w.drew W) : Below n w W := ⟨h.os, h.tape, h.output, h.size, h.block⟩

theorem c_dr {W : World} {p : Addr} {v : Value} (h : W.cell? p = some v) : W.drew.cell? p = some v := h

theorem nonnil {α : Type} {l : List α} {k : Nat} (h : k < l.length) : l ≠ [] := by rintro rfl; cases h

theorem b_tr {a b c : World} (h1 : Below a.heap.size a b) (h2 : Below b.heap.size b c) : Below a.heap.size a c := h1.trans (h2.mono h1.size)

theorem addr_plain (b off i : Nat) : (⟨b, off, none⟩ : Addr).add i = ⟨b, off + i, none⟩ := by
  unfold Addr.add
  by_cases h : i = 0 <;> simp [h]

end Go.Proofs.Ytolbihfnogbjaaa

/- A region that draws its order and makes memory. Conditions: none beyond each lemma's own premises. -/
namespace Go.Proofs.Ytolbihfnogbjaaa
open Go.RowKit

end Go.Proofs.Ytolbihfnogbjaaa

/- Slices of findings that can be read, or that the call itself has made. Conditions: none beyond each lemma's own premises. -/
namespace Go.Proofs.Ytolbihfnogbjaaa
open Go.RowKit

/-! ### Findings -/

/-- At the address A the findings of l lie one behind the other (of no finding nothing is asked). -/
def RdF (w : World) (A : Option Addr) (l : List Rc) : Prop :=
  l ≠ [] → ∃ b off, A = some ⟨b, off, none⟩ ∧ b < w.heap.size ∧ ∀ k, k < l.length →
    w.cell? ⟨b, off + k * 3, none⟩ = some (.int .i64 (l.getD k rz).1) ∧ w.cell? ⟨b, off + k * 3 + 1, none⟩ = some (.int .i64 (l.getD k rz).2.1) ∧ w.cell? ⟨b, off + k * 3 + 2, none⟩ = some (.int .i64 (l.getD k rz).2.2)

theorem RdF.nil (w : World) (A : Option Addr) : RdF w A [] := fun h => absurd rfl h

theorem RdF.at_ {w : World} {A : Option Addr} {l : List Rc} (h : RdF w A l) {k : Nat} (hk : k < l.length) : ∃ b off x y z, A = some ⟨b, off, none⟩ ∧ b < w.heap.size ∧
    w.cell? ⟨b, off + k * 3, none⟩ = some (.int .i64 x) ∧ w.cell? ⟨b, off + k * 3 + 1, none⟩ = some (.int .i64 y) ∧ w.cell? ⟨b, off + k * 3 + 2, none⟩ = some (.int .i64 z) ∧ Hid (l.getD k rz = (x, y, z)) := by
  obtain ⟨b, off, hA, hb, hc⟩ := h (nonnil hk)
  exact ⟨b, off, _, _, _, hA, hb, (hc k hk).1, (hc k hk).2.1, (hc k hk).2.2, Lib.hid rfl⟩

theorem RdF.below {w w' : World} {A : Option Addr} {l : List Rc} (h : RdF w A l) (hb : Below w.heap.size w w') : RdF w' A l := fun hl => by
  obtain ⟨b, off, hA, hbb, hk⟩ := h hl
  exact ⟨b, off, hA, Nat.lt_of_lt_of_le hbb hb.size, fun k hk' => ⟨by rw [hb.cell (p := ⟨b, _, none⟩) hbb]; exact (hk k hk').1, by rw [hb.cell (p := ⟨b, _, none⟩) hbb]; exact (hk k hk').2.1, by rw [hb.cell (p := ⟨b, _, none⟩) hbb]; exact (hk k hk').2.2⟩⟩

def flatF (l : List Rc) : List Value := l.flatMap fun s => [.int .i64 s.1, .int .i64 s.2.1, .int .i64 s.2.2]

theorem flatF_cons (s : Rc) (l : List Rc) : flatF (s :: l) = .int .i64 s.1 :: .int .i64 s.2.1 :: .int .i64 s.2.2 :: flatF l := rfl
theorem flatF_append (a b : List Rc) : flatF (a ++ b) = flatF a ++ flatF b := by simp [flatF]

theorem flatF_len (l : List Rc) : (flatF l).length = l.length * 3 := by
  induction l with
  | nil => rfl
  | cons s l ih => rw [flatF_cons, List.length_cons, List.length_cons, List.length_cons, ih, List.length_cons]; omega

theorem flatF_get : ∀ (l : List Rc) (k : Nat), k < l.length → (flatF l)[k * 3]? = some (.int .i64 (l.getD k rz).1) ∧ (flatF l)[k * 3 + 1]? = some (.int .i64 (l.getD k rz).2.1) ∧ (flatF l)[k * 3 + 2]? = some (.int .i64 (l.getD k rz).2.2)
  | s :: l, 0, _ => by simp [flatF_cons]
  | s :: l, k + 1, h => by
    have ih := flatF_get l k (by simpa using h)
    have e : (k + 1) * 3 = k * 3 + 1 + 1 + 1 := by omega
    rw [e, flatF_cons]
    simpa using ih

theorem flatF_one {l : List Rc} {u : Value} (h : u ∈ flatF l) : u.oneCell' = true := by
  obtain ⟨s, _, hs⟩ := List.mem_flatMap.1 h
  simp at hs
  rcases hs with rfl | rfl | rfl <;> rfl

theorem flatF_set (a : List Rc) (k x y z : Int) : (flatF (a ++ [(k, x, y)])).set (a.length * 3 + 2) (.int .i64 z) = flatF (a ++ [(k, x, z)]) := by
  rw [flatF_append, flatF_append, List.set_append_right _ _ (by rw [flatF_len]; omega), flatF_len]
  have e : a.length * 3 + 2 - a.length * 3 = 2 := by omega
  rw [e]
  rfl

/-- The cells of one finding in a block of their own. -/
theorem find_news {w : World} {n : Nat} (hn : n = w.heap.size) {k x y : Int} {t : TypeId} : ∀ j u, ([.int .i64 k, .int .i64 x, .int .i64 y] : List Value)[j]? = some u → (w.alloc (.cells #[.int .i64 k, .int .i64 x, .int .i64 y] t)).cell? ((⟨n, 0, none⟩ : Addr).add j) = some u := by
  intro j u hj
  subst hn
  match j, hj with
  | 0, hj => simp at hj; subst hj; simp [Addr.add]
  | 1, hj => simp at hj; subst hj; simp [Addr.add]
  | 2, hj => simp at hj; subst hj; simp [Addr.add]
  | j + 3, hj => simp at hj

theorem find_cells {k x y : Int} : ∀ u ∈ ([.int .i64 k, .int .i64 x, .int .i64 y] : List Value), u.oneCell' = true := by
  intro u hu
  simp at hu
  rcases hu with rfl | rfl | rfl <;> rfl

/-- The cells of a slice that reads as l, one by one. -/
theorem RdF.news {w : World} {ad : Addr} {l : List Rc} (h : RdF w (some ad) l) : ∀ j u, (flatF l)[j]? = some u → w.cell? (ad.add j) = some u := by
  intro j u hu
  have hj : j < l.length * 3 := by
    rw [← flatF_len]
    exact (List.getElem?_eq_some_iff.1 hu).1
  obtain ⟨b, off, hA, _, hc⟩ := h (nonnil (k := j / 3) (by omega))
  injection hA with hA
  subst hA
  have hk : j / 3 < l.length := by omega
  have hf := flatF_get l (j / 3) hk
  have hcc := hc (j / 3) hk
  rw [addr_plain]
  have hm : j = j / 3 * 3 ∨ j = j / 3 * 3 + 1 ∨ j = j / 3 * 3 + 2 := by omega
  rcases hm with e | e | e
  · rw [e, hf.1] at hu
    injection hu with hu
    rw [e, ← hu]; exact hcc.1
  · rw [e, hf.2.1] at hu
    injection hu with hu
    rw [e, ← hu, ← Nat.add_assoc]; exact hcc.2.1
  · rw [e, hf.2.2] at hu
    injection hu with hu
    rw [e, ← hu, ← Nat.add_assoc]; exact hcc.2.2

/-- A finding in a block of its own. -/
structure BoxF (w : World) (B : Nat) (k x y : Int) : Prop where
  c0 : w.cell? ⟨B, 0, none⟩ = some (.int .i64 k)
  c1 : w.cell? ⟨B, 1, none⟩ = some (.int .i64 x)
  c2 : w.cell? ⟨B, 2, none⟩ = some (.int .i64 y)

theorem BoxF.new (w : World) (k x y : Int) (t : TypeId) : BoxF (w.alloc (.cells #[.int .i64 k, .int .i64 x, .int .i64 y] t)) w.heap.size k x y := ⟨by simp, by simp, by simp⟩
theorem BoxF.below {w w' : World} {B : Nat} {k x y : Int} (h : BoxF w B k x y) (hb : Below w.heap.size w w') : BoxF w' B k x y := ⟨c_cl h.c0 hb, c_cl h.c1 hb, c_cl h.c2 hb⟩

end Go.Proofs.Ytolbihfnogbjaaa

/- A slice of spans that reads as a list, for any program. Conditions: none beyond each lemma's own premises. -/
namespace Go.Proofs.Ytolbihfnogbjaaa
open Go.RowKit

/-- At the address A the spans of l lie one behind the other, in a block of w (of no span nothing is asked). -/
def RdS (w : World) (A : Option Addr) (l : List Sp) : Prop :=
  l ≠ [] → ∃ b off, A = some ⟨b, off, none⟩ ∧ b < w.heap.size ∧ ∀ k, k < l.length →
    w.cell? ⟨b, off + k * 2, none⟩ = some (.int .i64 (l.getD k (0, 0)).1) ∧ w.cell? ⟨b, off + k * 2 + 1, none⟩ = some (.int .i64 (l.getD k (0, 0)).2)

theorem RdS.nil (w : World) (A : Option Addr) : RdS w A [] := fun h => absurd rfl h

theorem ne_nil_of_lt {l : List Sp} {k : Nat} (h : k < l.length) : l ≠ [] := by
  intro e; subst e; cases h

theorem RdS.at_ {w : World} {A : Option Addr} {l : List Sp} (h : RdS w A l) {k : Nat} (hk : k < l.length) : ∃ b off x y, A = some ⟨b, off, none⟩ ∧ b < w.heap.size ∧
    w.cell? ⟨b, off + k * 2, none⟩ = some (.int .i64 x) ∧ w.cell? ⟨b, off + k * 2 + 1, none⟩ = some (.int .i64 y) ∧ Hid (l.getD k (0, 0) = (x, y)) := by
  obtain ⟨b, off, hA, hb, hc⟩ := h (ne_nil_of_lt hk)
  exact ⟨b, off, _, _, hA, hb, (hc k hk).1, (hc k hk).2, Lib.hid rfl⟩

theorem RdS.keep {w w' : World} {A : Option Addr} {l : List Sp} (h : RdS w A l) (hs : w.heap.size ≤ w'.heap.size) (hc : ∀ p : Addr, p.block < w.heap.size → w'.cell? p = w.cell? p) : RdS w' A l := fun hl => by
  obtain ⟨b, off, hA, hb, hk⟩ := h hl
  exact ⟨b, off, hA, by omega, fun k hk' => ⟨by rw [hc _ hb]; exact (hk k hk').1, by rw [hc _ hb]; exact (hk k hk').2⟩⟩

theorem RdS.below {w w' : World} {A : Option Addr} {l : List Sp} (h : RdS w A l) (hb : Below w.heap.size w w') : RdS w' A l :=
  h.keep hb.size fun _ hp => hb.cell hp

end Go.Proofs.Ytolbihfnogbjaaa

/- Slices of records and of ints that can be read, or that the call itself has made. Conditions: none beyond each lemma's own premises. -/
namespace Go.Proofs.Ytolbihfnogbjaaa
open Go.RowKit

/-! ### Records -/

/-- At the address A the records of l lie one behind the other (of no record nothing is asked). -/
def RdR (w : World) (A : Option Addr) (l : List Rc) : Prop :=
  l ≠ [] → ∃ b off, A = some ⟨b, off, none⟩ ∧ b < w.heap.size ∧ ∀ k, k < l.length →
    w.cell? ⟨b, off + k * 3, none⟩ = some (.int .i64 (l.getD k rz).1) ∧ w.cell? ⟨b, off + k * 3 + 1, none⟩ = some (.int .i64 (l.getD k rz).2.1) ∧ w.cell? ⟨b, off + k * 3 + 2, none⟩ = some (.int .i64 (l.getD k rz).2.2)

theorem RdR.nil (w : World) (A : Option Addr) : RdR w A [] := fun h => absurd rfl h

theorem RdR.at_ {w : World} {A : Option Addr} {l : List Rc} (h : RdR w A l) {k : Nat} (hk : k < l.length) : ∃ b off x y z, A = some ⟨b, off, none⟩ ∧ b < w.heap.size ∧
    w.cell? ⟨b, off + k * 3, none⟩ = some (.int .i64 x) ∧ w.cell? ⟨b, off + k * 3 + 1, none⟩ = some (.int .i64 y) ∧ w.cell? ⟨b, off + k * 3 + 2, none⟩ = some (.int .i64 z) ∧ Hid (l.getD k rz = (x, y, z)) := by
  obtain ⟨b, off, hA, hb, hc⟩ := h (nonnil hk)
  exact ⟨b, off, _, _, _, hA, hb, (hc k hk).1, (hc k hk).2.1, (hc k hk).2.2, Lib.hid rfl⟩

theorem RdR.below {w w' : World} {A : Option Addr} {l : List Rc} (h : RdR w A l) (hb : Below w.heap.size w w') : RdR w' A l := fun hl => by
  obtain ⟨b, off, hA, hbb, hk⟩ := h hl
  exact ⟨b, off, hA, Nat.lt_of_lt_of_le hbb hb.size, fun k hk' => ⟨by rw [hb.cell (p := ⟨b, _, none⟩) hbb]; exact (hk k hk').1, by rw [hb.cell (p := ⟨b, _, none⟩) hbb]; exact (hk k hk').2.1, by rw [hb.cell (p := ⟨b, _, none⟩) hbb]; exact (hk k hk').2.2⟩⟩

def flatR (l : List Rc) : List Value := l.flatMap fun s => [.int .i64 s.1, .int .i64 s.2.1, .int .i64 s.2.2]

theorem flatR_cons (s : Rc) (l : List Rc) : flatR (s :: l) = .int .i64 s.1 :: .int .i64 s.2.1 :: .int .i64 s.2.2 :: flatR l := rfl
theorem flatR_append (a b : List Rc) : flatR (a ++ b) = flatR a ++ flatR b := by simp [flatR]

theorem flatR_len (l : List Rc) : (flatR l).length = l.length * 3 := by
  induction l with
  | nil => rfl
  | cons s l ih => rw [flatR_cons, List.length_cons, List.length_cons, List.length_cons, ih, List.length_cons]; omega

theorem flatR_get : ∀ (l : List Rc) (k : Nat), k < l.length → (flatR l)[k * 3]? = some (.int .i64 (l.getD k rz).1) ∧ (flatR l)[k * 3 + 1]? = some (.int .i64 (l.getD k rz).2.1) ∧ (flatR l)[k * 3 + 2]? = some (.int .i64 (l.getD k rz).2.2)
  | s :: l, 0, _ => by simp [flatR_cons]
  | s :: l, k + 1, h => by
    have ih := flatR_get l k (by simpa using h)
    have e : (k + 1) * 3 = k * 3 + 1 + 1 + 1 := by omega
    rw [e, flatR_cons]
    simpa using ih

theorem flatR_one {l : List Rc} {u : Value} (h : u ∈ flatR l) : u.oneCell' = true := by
  obtain ⟨s, _, hs⟩ := List.mem_flatMap.1 h
  simp at hs
  rcases hs with rfl | rfl | rfl <;> rfl

theorem flatR_set (a : List Rc) (k x y z : Int) : (flatR (a ++ [(k, x, y)])).set (a.length * 3 + 2) (.int .i64 z) = flatR (a ++ [(k, x, z)]) := by
  rw [flatR_append, flatR_append, List.set_append_right _ _ (by rw [flatR_len]; omega), flatR_len]
  have e : a.length * 3 + 2 - a.length * 3 = 2 := by omega
  rw [e]
  rfl

/-- The slice is the call's own (its block's number is base or more) and holds l. -/
def OwnR (base : Nat) (w : World) (v : Value) (l : List Rc) : Prop := w.ownsRow base 117 3 v l.length (flatR l)

theorem OwnR.nil (base : Nat) (w : World) : OwnR base w (.slice none 0 0) [] := World.ownsRow_nil w base _ 3

theorem OwnR.read {base : Nat} {w : World} {v : Value} {l : List Rc} (h : OwnR base w v l) : ∃ A c, v = .slice A l.length c ∧ RdR w A l ∧ (A = none → c = 0) := by
  have h0 := h
  rcases h.2 with ⟨rfl, hn⟩ | ⟨g, cap, cur, rfl, hb, hg, h1, h2, h3, h4⟩
  · obtain rfl : l = [] := List.eq_nil_of_length_eq_zero hn
    exact ⟨none, 0, rfl, RdR.nil _ _, fun _ => rfl⟩
  · refine ⟨some ⟨g, 0, none⟩, cap, rfl, fun _ => ⟨g, 0, rfl, (World.ownsRow.lt h0 g rfl).2, fun k hk => ?_⟩, fun h => by cases h⟩
    have hf := flatR_get l k hk
    rw [Nat.zero_add, World.ownsRow.cellAt h0 (k * 3) (by omega), World.ownsRow.cellAt h0 (k * 3 + 1) (by omega), World.ownsRow.cellAt h0 (k * 3 + 2) (by omega)]
    exact hf

theorem OwnR.rd {base : Nat} {w : World} {A : Option Addr} {n c : Nat} {l : List Rc} (h : OwnR base w (.slice A n c) l) : RdR w A l := by
  obtain ⟨A', c', he, hr, _⟩ := h.read
  injection he with e1 e2 e3
  rw [e1]; exact hr

theorem OwnR.below {base : Nat} {w w' : World} {v : Value} {l : List Rc} (h : OwnR base w v l) (hb : Below w.heap.size w w') : OwnR base w' v l := row_below h hb
theorem OwnR.more {base base' : Nat} {w : World} {v : Value} {l : List Rc} (h : OwnR base w v l) (hb : base' ≤ base) : OwnR base' w v l := row_more h hb
theorem OwnR.alloc {base : Nat} {w : World} {v : Value} {l : List Rc} (h : OwnR base w v l) (o : Obj) : OwnR base (w.alloc o) v l := World.ownsRow.alloc h o

theorem OwnR.snoc {base : Nat} {w : World} {v : Value} {l : List Rc} {k x y : Int} (h : w.ownsRow base 117 3 v (l.length + 1) (flatR l ++ [.int .i64 k, .int .i64 x, .int .i64 y])) : OwnR base w v (l ++ [(k, x, y)]) := by
  unfold OwnR
  rw [flatR_append, List.length_append]
  exact h

theorem OwnR.stored {base : Nat} {w : World} {b n c : Nat} {o : List Rc} {k x y z : Int} (h : OwnR base w (.slice (some ⟨b, 0, none⟩) n c) (o ++ [(k, x, y)])) (hn : n = o.length + 1) :
    OwnR base (w.setCell ⟨b, o.length * 3 + 2, none⟩ (.int .i64 z)) (.slice (some ⟨b, 0, none⟩) n c) (o ++ [(k, x, z)]) := by
  have e1 : (o ++ [(k, x, y)]).length = n := by rw [hn]; simp
  have e2 : (o ++ [(k, x, z)]).length = n := by rw [hn]; simp
  unfold OwnR at *
  rw [e1] at h
  rw [e2]
  have h2 := (World.ownsRow.stored h (o.length * 3 + 2) (.int .i64 z)).1
  rw [flatR_set] at h2
  exact h2

theorem OwnR.some_ {base : Nat} {w : World} {b off n c : Nat} {l : List Rc} (h : OwnR base w (.slice (some ⟨b, off, none⟩) n c) l) : off = 0 ∧ base ≤ b ∧ ∀ j, w.frozen? ⟨b, j, none⟩ = false := by
  rcases h.2 with ⟨h', _⟩ | ⟨g, cap, cur, h', hb, hg, _⟩
  · simp at h'
  · simp only [Value.slice.injEq, Option.some.injEq, Addr.mk.injEq, and_true] at h'
    obtain ⟨⟨rfl, rfl⟩, _, rfl⟩ := h'
    exact ⟨rfl, hb, fun j => by simp [World.frozen?, hg]⟩

theorem info_rec : (Try.prog.info? 117).map (fun i => (i.zero, i.size, i.bytes)) = some (some (.agg #[.int .i64 0, .int .i64 0, .int .i64 0]), 3, 24) := by kernel_rfl

/-- The cells of one record in a block of their own. -/
theorem rec_news {w : World} {n : Nat} (hn : n = w.heap.size) {k x y : Int} {t : TypeId} : ∀ j u, ([.int .i64 k, .int .i64 x, .int .i64 y] : List Value)[j]? = some u → (w.alloc (.cells #[.int .i64 k, .int .i64 x, .int .i64 y] t)).cell? ((⟨n, 0, none⟩ : Addr).add j) = some u := by
  intro j u hj
  subst hn
  match j, hj with
  | 0, hj => simp at hj; subst hj; simp [Addr.add]
  | 1, hj => simp at hj; subst hj; simp [Addr.add]
  | 2, hj => simp at hj; subst hj; simp [Addr.add]
  | j + 3, hj => simp at hj

theorem rec_cells {k x y : Int} : ∀ u ∈ ([.int .i64 k, .int .i64 x, .int .i64 y] : List Value), u.oneCell' = true := by
  intro u hu
  simp at hu
  rcases hu with rfl | rfl | rfl <;> rfl

/-- The cells of a slice that reads as l, one by one. -/
theorem RdR.news {w : World} {ad : Addr} {l : List Rc} (h : RdR w (some ad) l) : ∀ j u, (flatR l)[j]? = some u → w.cell? (ad.add j) = some u := by
  intro j u hu
  have hj : j < l.length * 3 := by
    rw [← flatR_len]
    exact (List.getElem?_eq_some_iff.1 hu).1
  obtain ⟨b, off, hA, _, hc⟩ := h (nonnil (k := j / 3) (by omega))
  injection hA with hA
  subst hA
  have hk : j / 3 < l.length := by omega
  have hf := flatR_get l (j / 3) hk
  have hcc := hc (j / 3) hk
  rw [addr_plain]
  have hm : j = j / 3 * 3 ∨ j = j / 3 * 3 + 1 ∨ j = j / 3 * 3 + 2 := by omega
  rcases hm with e | e | e
  · rw [e, hf.1] at hu
    injection hu with hu
    rw [e, ← hu]; exact hcc.1
  · rw [e, hf.2.1] at hu
    injection hu with hu
    rw [e, ← hu, ← Nat.add_assoc]; exact hcc.2.1
  · rw [e, hf.2.2] at hu
    injection hu with hu
    rw [e, ← hu, ← Nat.add_assoc]; exact hcc.2.2

/-- A record in a block of its own. -/
structure BoxR (w : World) (B : Nat) (k x y : Int) : Prop where
  c0 : w.cell? ⟨B, 0, none⟩ = some (.int .i64 k)
  c1 : w.cell? ⟨B, 1, none⟩ = some (.int .i64 x)
  c2 : w.cell? ⟨B, 2, none⟩ = some (.int .i64 y)

theorem BoxR.new (w : World) (k x y : Int) (t : TypeId) : BoxR (w.alloc (.cells #[.int .i64 k, .int .i64 x, .int .i64 y] t)) w.heap.size k x y := ⟨by simp, by simp, by simp⟩
theorem BoxR.below {w w' : World} {B : Nat} {k x y : Int} (h : BoxR w B k x y) (hb : Below w.heap.size w w') : BoxR w' B k x y := ⟨c_cl h.c0 hb, c_cl h.c1 hb, c_cl h.c2 hb⟩

/-! ### Ints -/

def RdN (w : World) (A : Option Addr) (l : List Int) : Prop :=
  l ≠ [] → ∃ b off, A = some ⟨b, off, none⟩ ∧ b < w.heap.size ∧ ∀ k, k < l.length → w.cell? ⟨b, off + k, none⟩ = some (.int .i64 (l.getD k 0))

theorem RdN.at_ {w : World} {A : Option Addr} {l : List Int} (h : RdN w A l) {k : Nat} (hk : k < l.length) : ∃ b off x, A = some ⟨b, off, none⟩ ∧ b < w.heap.size ∧ w.cell? ⟨b, off + k, none⟩ = some (.int .i64 x) ∧ Hid (l[k]? = some x) := by
  obtain ⟨b, off, hA, hb, hc⟩ := h (nonnil hk)
  refine ⟨b, off, _, hA, hb, hc k hk, Lib.hid ?_⟩
  rw [List.getD_eq_getElem?_getD, List.getElem?_eq_getElem hk]; rfl

theorem RdN.below {w w' : World} {A : Option Addr} {l : List Int} (h : RdN w A l) (hb : Below w.heap.size w w') : RdN w' A l := fun hl => by
  obtain ⟨b, off, hA, hbb, hk⟩ := h hl
  exact ⟨b, off, hA, Nat.lt_of_lt_of_le hbb hb.size, fun k hk' => by rw [hb.cell (p := ⟨b, _, none⟩) hbb]; exact hk k hk'⟩

def OwnN (base : Nat) (w : World) (v : Value) (l : List Int) : Prop := w.ownsRow base 3 1 v l.length (l.map (Value.int .i64))

theorem OwnN.nil (base : Nat) (w : World) : OwnN base w (.slice none 0 0) [] := World.ownsRow_nil w base _ 1

theorem OwnN.read {base : Nat} {w : World} {v : Value} {l : List Int} (h : OwnN base w v l) : ∃ A c, v = .slice A l.length c ∧ RdN w A l := by
  have h0 := h
  rcases h.2 with ⟨rfl, hn⟩ | ⟨g, cap, cur, rfl, hb, hg, h1, h2, h3, h4⟩
  · obtain rfl : l = [] := List.eq_nil_of_length_eq_zero hn
    exact ⟨none, 0, rfl, fun h => absurd rfl h⟩
  · refine ⟨some ⟨g, 0, none⟩, cap, rfl, fun _ => ⟨g, 0, rfl, (World.ownsRow.lt h0 g rfl).2, fun k hk => ?_⟩⟩
    rw [Nat.zero_add, World.ownsRow.cellAt h0 k (by omega)]
    simp [hk]

theorem OwnN.below {base : Nat} {w w' : World} {v : Value} {l : List Int} (h : OwnN base w v l) (hb : Below w.heap.size w w') : OwnN base w' v l := row_below h hb
theorem OwnN.more {base base' : Nat} {w : World} {v : Value} {l : List Int} (h : OwnN base w v l) (hb : base' ≤ base) : OwnN base' w v l := row_more h hb
theorem OwnN.alloc {base : Nat} {w : World} {v : Value} {l : List Int} (h : OwnN base w v l) (o : Obj) : OwnN base (w.alloc o) v l := World.ownsRow.alloc h o

theorem OwnN.snoc {base : Nat} {w : World} {v : Value} {l : List Int} {x : Int} (h : w.ownsRow base 3 1 v (l.length + 1) (l.map (Value.int .i64) ++ [.int .i64 x])) : OwnN base w v (l ++ [x]) := by
  unfold OwnN
  rw [List.map_append, List.length_append]
  exact h

theorem info_int : (Try.prog.info? 3).map (fun i => (i.zero, i.size, i.bytes)) = some (some (.int .i64 0), 1, 8) := by kernel_rfl

theorem int_news {w : World} {n : Nat} (hn : n = w.heap.size) {x : Int} {t : TypeId} : ∀ j u, ([.int .i64 x] : List Value)[j]? = some u → (w.alloc (.cells #[.int .i64 x] t)).cell? ((⟨n, 0, none⟩ : Addr).add j) = some u := by
  intro j u hj
  subst hn
  match j, hj with
  | 0, hj => simp at hj; subst hj; simp [Addr.add]
  | j + 1, hj => simp at hj

theorem int_cells {x : Int} : ∀ u ∈ ([.int .i64 x] : List Value), u.oneCell' = true := by
  intro u hu
  simp at hu
  subst hu
  rfl

end Go.Proofs.Ytolbihfnogbjaaa

/- Appending one int to a slice of the call's own: the block behind it is the old one or a new one. Conditions: as the theorems say. -/
namespace Go.Proofs.Ytolbihfnogbjaaa
open Go.RowKit

/-- Where the slice lies behind an append: where it lay, or in a block that is new. -/
theorem append_apart {w : World} {base : Nat} {e : TypeId} {size : Nat} {t ty : TypeId} {i : TypeInfo} {z : Value} (ht : Try.prog.underlying t = some (.slice e)) (hi : Try.prog.info? e = some i) (hz : i.zero = some z) (hsize : i.size = size)
    {bytes : Nat} (hby : i.bytes = bytes) (hzs : z.cells.size = size) (hsz : 0 < size)
    {v : Value} {n : Nat} {xs : List Value} (hown : w.ownsRow base e size v n xs) {a : Addr} {m c : Nat} {news : List Value} (hl : news.length = m * size) (hnews : ∀ j u, news[j]? = some u → w.cell? (a.add j) = some u) (h1 : ∀ u ∈ news, u.oneCell' = true)
    (h63 : n + m ≤ maxLen) (hbytes : (n + m) * bytes ≤ 140737488355328) {v' : Value} {w' : World}
    (hr : (Builtin.append_ #[t, t] ty #[v, .slice (some a) m c]).run Try.prog w = .ok v' w') : ∀ q, v'.ownBlock = some q → v.ownBlock = some q ∨ w.heap.size ≤ q := by
  intro q hq
  rcases hown.2 with ⟨rfl, rfl⟩ | ⟨g, cap, cur, rfl, hbg, hg, hnc, hcm, hcs, htake⟩
  · obtain rfl : xs = [] := List.eq_nil_of_length_eq_zero (by simpa using hown.1)
    obtain ⟨v2, w2, hr2, ho2, _, _⟩ := run_append_own (P := Try.prog) w w.heap.size t ty e i z size bytes ht hi hz hsize hby hzs hsz _ 0 [] (World.ownsRow_nil w w.heap.size e size) a m c news hl hnews h1 h63 hbytes (Nat.le_refl _)
    rw [hr] at hr2
    injection hr2 with e1 e2
    subst e1 e2
    exact .inr (World.ownsRow.lt ho2 q hq).1
  · by_cases hroom : n + m ≤ cap
    · have hfit : n * i.size + news.length ≤ cur.size := by rw [hl, hcs, hsize, ← Nat.add_mul]; exact Nat.mul_le_mul_right _ hroom
      have hr2 := run_append_room (P := Try.prog) w t ty e i ht hi g n cap cur hg a m c news (by rw [hl, hsize]) hnews h1 hroom hfit
      rw [hr] at hr2
      injection hr2 with e1 e2
      subst e1
      exact .inl hq
    · subst hsize
      subst hby
      have holds : ∀ j u, xs[j]? = some u → w.cell? ((⟨g, 0, none⟩ : Addr).add j) = some u := hown.cells (g := g) rfl
      have hr2 := run_append_grow (P := Try.prog) w t ty e i z ht hi hz ⟨g, 0, none⟩ n cap xs hown.1 holds a m c news hl hnews (by omega) (by unfold maxLen at h63; omega) (growslice_fits (by omega) hbytes)
      rw [hr] at hr2
      injection hr2 with e1 e2
      subst e1
      simp [Value.ownBlock] at hq
      exact .inr (by omega)

/-- One int more. -/
theorem wpList_snoc_int {ops : Array Oper} {rest : List Oper} {o : Oper} {a : Act} {w : World} {Q : Exit → Act → World → Prop} (hgd : o.guard = none) (s x : Operand)
    (ho : o.op = .call { callee := .builtin .append, args := #[s, x], argTypes := #[40, 40] })
    (base : Nat) (v : Value) (l : List Int) (hs : a.eval s = v) (hown : OwnN base w v l) (b : Nat) (y : Int) (hx : a.eval x = .slice (some ⟨b, 0, none⟩) 1 1) (hc : w.cell? ⟨b, 0, none⟩ = some (.int .i64 y))
    (hb : l.length ≤ 1000000) (hbase : base ≤ w.heap.size)
    (h : ∀ v' w', OwnN base w' v' (l ++ [y]) → w.grownBy w' v.ownBlock → (∀ q, v'.ownBlock = some q → v.ownBlock = some q ∨ w.heap.size ≤ q) → wpList Try.prog ops Q rest (a.put o.dst v') w') : wpList Try.prog ops Q (o :: rest) a w := by
  obtain ⟨i1, hj, hy0, hy1, hy2⟩ := info_parts info_int
  have hn : ∀ j u, ([.int .i64 y] : List Value)[j]? = some u → w.cell? ((⟨b, 0, none⟩ : Addr).add j) = some u := by
    intro j u hj
    match j, hj with
    | 0, hj => simp at hj; subst hj; simpa [Addr.add] using hc
    | j + 1, hj => simp at hj
  refine wpList_plain hgd fun K hK => ?_
  obtain ⟨v', w', hr, h2, h3, _⟩ := run_append_own (P := Try.prog) w base 40 o.type 3 i1 (.int .i64 0) 1 8 Try.underlying40 hj hy0 hy1 hy2 rfl (by decide) v l.length _ hown ⟨b, 0, none⟩ 1 1 [.int .i64 y] rfl hn int_cells (by unfold maxLen; omega) (by omega) hbase
  have h4 := append_apart Try.underlying40 hj hy0 hy1 hy2 rfl (by decide) hown rfl hn int_cells (by unfold maxLen; omega) (by omega) hr
  unfold Oper.wp execOp
  simp only [ho, resolve, invoke, builtin, Sem.run_bind, Sem.run_pure, Result.andThen_ok, List.map_toArray, List.map_cons, List.map_nil, hs, hx, hr]
  exact hK _ _ (h v' w' (OwnN.snoc h2) h3 h4)

theorem OwnN.grown {base : Nat} {w w' : World} {v : Value} {l : List Int} (h : OwnN base w v l) {row : Option Nat} (hg : w.grownBy w' row) (hne : ∀ q, v.ownBlock = some q → row ≠ some q) : OwnN base w' v l := by
  refine World.ownsRow.kept h hg ?_
  cases hv : v.ownBlock with
  | none => exact .inl rfl
  | some q => exact .inr fun e => hne q hv e.symm

end Go.Proofs.Ytolbihfnogbjaaa

/- A slice of ints as an argument: opened to what it holds. Conditions: none. -/
namespace Go.Proofs.Ytolbihfnogbjaaa
open Go.ChangeShapes Go.WideShapes Go.ChangeAt Go.RowKit Go.Joins Go.Deep

/-- A slice of ints that is read. -/
theorem read_ints {H : Type} {enc : TypeId × Value → H} {w : World} {base : Nat} {spare : Nat → Bool} {held : Bool} {fuel : Nat} {cs : List Value} {x : DataW H × List MemPlace}
    (h : DataW.trod enc Try.prog w base spare held fuel 40 cs = some x) : ∃ (A : Option Addr) (c : Nat) (l : List Int), cs = [.slice A l.length c] ∧ RdN w A l ∧ (A = none → c = 0) := by
  rcases open_ints Try.underlying40 Try.underlying3 (by kernel_rfl) h with ⟨hcs, _⟩ | ⟨a, len, cap, zs, hcs, _, hl, _, hzl, _, hc, _⟩
  · exact ⟨none, 0, [], hcs, fun h => absurd rfl h, fun _ => rfl⟩
  · have hlm : len ≤ zs.length := by rw [hzl]; split <;> omega
    refine ⟨some a, cap, zs.take len, by rw [hcs, List.length_take, Nat.min_eq_left hlm], fun hne => ?_, fun h => by cases h⟩
    obtain ⟨b, off, spot⟩ := a
    have h0 : 0 < (zs.take len).length := by
      rcases Nat.eq_zero_or_pos (zs.take len).length with h | h
      · exact absurd (List.eq_nil_of_length_eq_zero h) hne
      · exact h
    rw [List.length_take] at h0
    have c0 := hc 0 (by omega)
    have hspot : spot = none := by simpa [Addr.add] using World.cell?_spot c0
    subst hspot
    refine ⟨b, off, rfl, ?_, fun k hk => ?_⟩
    · have := World.block_lt_of_cell? w _ c0
      simpa [Addr.add] using this
    · rw [List.length_take] at hk
      have := hc k (by omega)
      have e : (⟨b, off, none⟩ : Addr).add k = ⟨b, off + k, none⟩ := Addr.add_mid b off k
      rw [e] at this
      rw [this]
      simp only [List.getD_eq_getElem?_getD, List.getElem?_take]
      rw [if_pos (by omega)]

set_option maxRecDepth 100000 in
theorem open_ints13 {H : Type} {enc : TypeId × Value → H} {w : World} {base : Nat} {spare : Nat → Bool} {held : Bool} {r : Reach} {b0 : Nat} {v : Value} {d : DataW H} {p : List MemPlace}
    (hv : Value.okWide Try.prog w r b0 40 v) (h : DataW.Trod enc Try.prog w base spare held 40 v d p) :
    ∃ (A : Option Addr) (c : Nat) (l : List Int), v = .slice A l.length c ∧ RdN w A l ∧ (A = none → c = 0) := by
  obtain ⟨a0, len0, cap0, rfl⟩ := okWide_slice Try.underlying40 hv
  obtain ⟨fuel, hf⟩ := h
  obtain ⟨A, c, l, hcs, hr, hz⟩ := read_ints hf
  simp [Value.cells] at hcs
  obtain ⟨rfl, rfl, rfl⟩ := hcs
  exact ⟨_, _, l, rfl, hr, hz⟩

end Go.Proofs.Ytolbihfnogbjaaa

/- Rows of a slice of the call's own and stores elsewhere; one cell stored in a region that draws its order. Conditions: none beyond each lemma's own premises. -/
namespace Go.Proofs.Ytolbihfnogbjaaa
open Go.RowKit

theorem row_type {base sz n : Nat} {e : TypeId} {w : World} {v : Value} {xs : List Value} (h : w.ownsRow base e sz v n xs) {q : Nat} (hq : v.ownBlock = some q) : ∃ cs z, w.heap[q]? = some (.cells cs e z) := by
  rcases h.2 with ⟨h2, _⟩ | ⟨g, cap, cur, hv, hg, hh, r⟩
  · rw [h2] at hq; cases hq
  · rw [hv] at hq
    injection hq with hq
    have hq' : g = q := hq
    subst hq'
    exact ⟨_, _, hh⟩

theorem row_block {base sz n : Nat} {e : TypeId} {w w' : World} {v : Value} {xs : List Value} (h : w.ownsRow base e sz v n xs) (hq : ∀ k, v.ownBlock = some k → w'.heap[k]? = w.heap[k]?) : w'.ownsRow base e sz v n xs := by
  refine ⟨h.1, ?_⟩
  rcases h.2 with h2 | ⟨g, cap, cur, hv, hg, hh, r⟩
  · exact Or.inl h2
  · refine Or.inr ⟨g, cap, cur, hv, hg, ?_, r⟩
    rw [hq g (by rw [hv]; rfl)]
    exact hh

theorem wp_store_fld {P : Program} {o : Oper} {a : Act} {w : World} {K : Act → World → Prop} {Q : Exit → Act → World → Prop} (ty : TypeId) (x y : Operand) (ho : o.op = .store ty x y)
    (g k : Nat) (v : Value) (hx : a.eval x = .pointer (some ⟨g, k, none⟩)) (hy : a.eval y = v) (h1 : v.oneCell' = true) (t : TypeId) (cs : Array Value) (hb : Bx w g t cs) (hk : k < cs.size) (hi : (P.info? ty).map (·.size) = some 1)
    (h : ∀ W', Upd w g t (cs.setIfInBounds k v) W' → K (a.put o.dst undef) W') : o.wp P a w K Q := by
  unfold Oper.wp execOp
  simp only [ho, hx, hy, Instr.storeAt, Instr.sureAddr, Sem.run_bind, Sem.run_pure, Result.andThen_ok, run_storeVar_fld w g k t ty cs v hb hk hi h1]
  exact h _ (Upd.of_setRow _ hb)

end Go.Proofs.Ytolbihfnogbjaaa
