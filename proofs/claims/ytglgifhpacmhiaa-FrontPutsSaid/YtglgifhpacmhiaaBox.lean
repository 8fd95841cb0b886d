/- Boxed values of many cells: a block's cells known whole; loads and stores of whole rows and of single cells, the new world a variable; structs compared cell by cell. Conditions: none beyond each lemma's own premises. -/
import Derived.Test.YtglgifhpacmhiaaRows
import Derived.Test.YtglgifhpacmhiaaBase
import Derived.WalkKit
import Derived.WalkSpells
import Derived.WalkSmall
import Derived.Below
import Derived.Lib.Hide
import Derived.Laws.Tables
import Derived.Laws.Rows
import Derived.Laws.CopyRow
import Derived.Laws.StructEq
import Derived.Deep.Quiet
import Derived.Deep.MidRow
import Derived.OrdersHeld
import Derived.KernelRfl
namespace Go.Proofs.Ytglgifhpacmhiaa
open Go.RowKit

/-- Block g holds these cells, and none is frozen. -/
def Bx (W : World) (g : Nat) (t : TypeId) (cs : Array Value) : Prop := W.heap[g]? = some (.cells cs t (0, 0))

theorem Bx.lt {W : World} {g : Nat} {t : TypeId} {cs : Array Value} (h : Bx W g t cs) : g < W.heap.size := (Array.getElem?_eq_some_iff.1 h).1
theorem Bx.cell {W : World} {g : Nat} {t : TypeId} {cs : Array Value} (h : Bx W g t cs) {k : Nat} {v : Value} (hk : cs[k]? = some v) : W.cell? ⟨g, k, none⟩ = some v := by
  rw [cell_of_row W g k cs t (0, 0) h]; exact hk
theorem Bx.free {W : World} {g : Nat} {t : TypeId} {cs : Array Value} (h : Bx W g t cs) (k : Nat) : W.frozen? ⟨g, k, none⟩ = false := frozen_of_row W g k cs t h
theorem Bx.below {W W' : World} {g : Nat} {t : TypeId} {cs : Array Value} (h : Bx W g t cs) (hb : Below W.heap.size W W') : Bx W' g t cs := (hb.block g h.lt).trans h
theorem Bx.keep {W W' : World} {g n : Nat} {t : TypeId} {cs : Array Value} (h : Bx W g t cs) (hb : Below n W W') (hn : g < n) : Bx W' g t cs := (hb.block g hn).trans h
theorem Bx.alloc {W : World} {g : Nat} {t : TypeId} {cs : Array Value} (h : Bx W g t cs) (o : Obj) : Bx (W.alloc o) g t cs := (heap_alloc_old _ _ h.lt).trans h
theorem Bx.drew {W : World} {g : Nat} {t : TypeId} {cs : Array Value} (h : Bx W g t cs) : Bx W.drew g t cs := h
theorem Bx.drewN {W : World} {g n : Nat} {t : TypeId} {cs : Array Value} (h : Bx W g t cs) : Bx (W.drewN n) g t cs := h
theorem Bx.new {W : World} {g : Nat} (t : TypeId) (cs : Array Value) (hg : g = W.heap.size) : Bx (W.alloc (.cells cs t)) g t cs := by
  subst hg; exact heap_alloc_new W _

theorem Bx.range2 {W : World} {g off : Nat} {t : TypeId} {cs : Array Value} {a b : Value} (h : Bx W g t cs) (ha : cs[off]? = some a) (hb : cs[off + 1]? = some b) : W.rangeAt g off [a, b] := fun j v hj => by
  rw [cell_of_row W g (off + j) cs t (0, 0) h]
  match j, hj with
  | 0, hj => simp at hj; subst hj; exact ha
  | 1, hj => simp at hj; subst hj; exact hb

/-- What a store into block g leaves: the block holds cs, all else is as it was. -/
structure Upd (W : World) (g : Nat) (t : TypeId) (cs : Array Value) (W' : World) : Prop where
  size : W'.heap.size = W.heap.size
  box : Bx W' g t cs
  other : ∀ k, k ≠ g → W'.heap[k]? = W.heap[k]?
  bel : ∀ n, n ≤ g → Below n W W'

theorem Upd.cell {W W' : World} {g : Nat} {t : TypeId} {cs : Array Value} (u : Upd W g t cs W') {p : Addr} (hp : p.block ≠ g) : W'.cell? p = W.cell? p := World.cell?_of_block (w := W) (u.other p.block hp)
theorem Upd.bx {W W' : World} {g h : Nat} {t s : TypeId} {cs ds : Array Value} (u : Upd W g t cs W') (hb : Bx W h s ds) (hp : h ≠ g) : Bx W' h s ds := (u.other h hp).trans hb
theorem Upd.of_setRow {W : World} {g : Nat} {t : TypeId} {old : Array Value} (cs : Array Value) (h : Bx W g t old) : Upd W g t cs (W.setRow g cs) :=
  ⟨setRow_size _ _ _, setRow_heap W g old cs t (0, 0) h, fun k hk => setRow_other W g k cs hk, fun n hn => ⟨rfl, rfl, rfl, by rw [setRow_size]; exact Nat.le_refl _, fun k hk => setRow_other W g k cs (by omega)⟩⟩

section
variable {P : Program}
theorem run_storeVar_fld (W : World) (g k : Nat) (t ty : TypeId) (cs : Array Value) (v : Value) (h : Bx W g t cs) (hk : k < cs.size) (hi : (P.info? ty).map (·.size) = some 1) (h1 : v.oneCell' = true) :
    (storeVar ty ⟨g, k, none⟩ v).run P W = .ok () (W.setRow g (cs.setIfInBounds k v)) := by
  have := run_storeCells_at (P := P) g k t [v] 0 cs W h (by simp; omega) (fun x hx => by simp at hx; subst hx; exact h1)
  have hc : v.cells = #[v] := by cases v <;> first | rfl | cases h1
  have e : (cs.toList.take k ++ [v] ++ cs.toList.drop (k + 1)).toArray = cs.setIfInBounds k v := by
    apply Array.ext'
    rw [Array.toList_setIfInBounds, List.set_eq_take_append_cons_drop, if_pos (by simpa using hk)]
    simp
  cases hq : P.info? ty with
  | none => simp [hq] at hi
  | some i =>
    have hs : i.size = 1 := by simpa [hq] using hi
    simp only [Nat.add_zero, List.length_singleton] at this
    rw [e] at this
    simp [storeVar, sizeOf, typeInfo, hq, hc, hs, this]

theorem wpList_store_fld {ops : Array Oper} {rest : List Oper} {o : Oper} {a : Act} {w : World} {Q : Exit → Act → World → Prop} (hgd : Region.wanted o (yielded ops a.tmps) = true) (ty : TypeId) (x y : Operand) (ho : o.op = .store ty x y)
    (g k : Nat) (v : Value) (hx : a.eval x = .pointer (some ⟨g, k, none⟩)) (hy : a.eval y = v) (h1 : v.oneCell' = true) (t : TypeId) (cs : Array Value) (hb : Bx w g t cs) (hk : k < cs.size) (hi : (P.info? ty).map (·.size) = some 1)
    (h : ∀ W', Upd w g t (cs.setIfInBounds k v) W' → wpList P ops Q rest (a.put o.dst undef) W') : wpList P ops Q (o :: rest) a w :=
  wpList_step fun K hK => by
    rw [if_pos hgd]
    unfold Oper.wp execOp
    simp only [ho, hx, hy, Instr.storeAt, Instr.sureAddr, Sem.run_bind, Sem.run_pure, Result.andThen_ok, run_storeVar_fld w g k t ty cs v hb hk hi h1]
    exact hK _ _ (h _ (Upd.of_setRow _ hb))

/-- A whole row is stored into a block. -/
theorem wpList_store_box {ops : Array Oper} {rest : List Oper} {o : Oper} {a : Act} {w : World} {Q : Exit → Act → World → Prop} (hgd : o.guard = none) (ty : TypeId) (x y : Operand) (ho : o.op = .store ty x y)
    (g : Nat) (cells : Array Value) (hx : a.eval x = .pointer (some ⟨g, 0, none⟩)) (hy : a.eval y = .agg cells)
    (t : TypeId) (old : Array Value) (hb : Bx w g t old) (hi : (P.info? ty).map (·.size) = some cells.size)
    (hold : old.size = cells.size) (h1 : cells.all (·.oneCell') = true)
    (h : ∀ W', Upd w g t cells W' → wpList P ops Q rest (a.put o.dst undef) W') : wpList P ops Q (o :: rest) a w :=
  wpList_store_row hgd ty x y ho g cells hx hy t old hb hi hold h1 (h _ (Upd.of_setRow _ hb))

theorem exec_load_box {r : Operand → Value} {o : Oper} {ty : TypeId} {y : Operand} (g : Nat) (t : TypeId) (cs : Array Value) (d : TypeDesc) (w : World) (ho : o.op = .load ty y) (hx : r y = .pointer (some ⟨g, 0, none⟩)) (hb : Bx w g t cs)
    (hu : P.underlying ty = some d) (hd : (match d with | .struct _ | .array _ _ => true | _ => false) = true) (hi : (P.info? ty).map (·.size) = some cs.size) : (execOp r o).run P w = .ok (.value (.agg cs)) w := by
  unfold execOp
  simp only [ho, hx, Instr.loadAt, Instr.sureAddr, Sem.run_bind, Sem.run_pure, Result.andThen_ok, run_loadVar_row w g t ty cs (0, 0) d hb hu hd hi]

theorem wpList_load_box {ops : Array Oper} {rest : List Oper} {o : Oper} {a : Act} {w : World} {Q : Exit → Act → World → Prop} (hgd : Region.wanted o (yielded ops a.tmps) = true) (ty : TypeId) (x : Operand) (ho : o.op = .load ty x)
    (g : Nat) (hx : a.eval x = .pointer (some ⟨g, 0, none⟩)) (t : TypeId) (cs : Array Value) (d : TypeDesc) (hb : Bx w g t cs)
    (hu : P.underlying ty = some d) (hd : (match d with | .struct _ | .array _ _ => true | _ => false) = true) (hi : (P.info? ty).map (·.size) = some cs.size)
    (h : wpList P ops Q rest (a.put o.dst (.agg cs)) w) : wpList P ops Q (o :: rest) a w :=
  wpList_step fun K hK => by
    rw [if_pos hgd]
    unfold Oper.wp
    rw [exec_load_box g t cs d w ho hx hb hu hd hi]
    exact hK _ _ h

/-! ### In a region that draws its order -/
theorem wp_alloc_any {o : Oper} {a : Act} {w : World} {K : Act → World → Prop} {Q : Exit → Act → World → Prop} (t : TypeId) (cs : Array Value)
    (hrun : (execOp a.eval o).run P w = .ok (.value (.pointer (some ⟨w.heap.size, 0, none⟩))) (w.alloc (.cells cs t)))
    (h : ∀ g W', w.heap.size ≤ g → Bx W' g t cs → Below w.heap.size w W' → K (a.put o.dst (.pointer (some ⟨g, 0, none⟩))) W') : o.wp P a w K Q := by
  unfold Oper.wp
  rw [hrun]
  exact h _ _ (Nat.le_refl _) (Bx.new t cs rfl) ((Below.refl _ _).alloc (Nat.le_refl _) _)

theorem wp_store_any {o : Oper} {a : Act} {w : World} {K : Act → World → Prop} {Q : Exit → Act → World → Prop} (ty : TypeId) (x y : Operand) (ho : o.op = .store ty x y)
    (g : Nat) (cells : Array Value) (hx : a.eval x = .pointer (some ⟨g, 0, none⟩)) (hy : a.eval y = .agg cells)
    (t : TypeId) (old : Array Value) (hb : Bx w g t old) (hi : (P.info? ty).map (·.size) = some cells.size)
    (hold : old.size = cells.size) (h1 : cells.all (·.oneCell') = true)
    (h : ∀ W', Upd w g t cells W' → K (a.put o.dst undef) W') : o.wp P a w K Q :=
  wp_store_row ty x y ho g cells hx hy t old hb hi hold h1 (h _ (Upd.of_setRow _ hb))

/-- A struct's result that lies in a block, with one more number behind it, or alone. -/
theorem results_box2 {fn : Func} {p q : Tmp} {ty : TypeId} (h : fn.results = #[.cell p ty, .tmp q]) (tmps : Array Value) (w : World) (g : Nat) (t : TypeId) (cs : Array Value) (d : TypeDesc) (v : Value)
    (hp : tmps.getD p undef = .pointer (some ⟨g, 0, none⟩)) (hb : Bx w g t cs) (hq : tmps.getD q undef = v)
    (hu : P.underlying ty = some d) (hd : (match d with | .struct _ | .array _ _ => true | _ => false) = true) (hi : (P.info? ty).map (·.size) = some cs.size) :
    (results fn tmps).run P w = .ok (.tuple #[.agg cs, v]) w := by
  have hp' : tmps[p]?.getD undef = .pointer (some ⟨g, 0, none⟩) := by simpa using hp
  have hq' : tmps[q]?.getD undef = v := by simpa using hq
  simp [results, h, hp', hq', asAddr, run_loadVar_row w g t ty cs (0, 0) d hb hu hd hi]

theorem results_box1 {fn : Func} {p : Tmp} {ty : TypeId} (h : fn.results = #[.cell p ty]) (tmps : Array Value) (w : World) (g : Nat) (t : TypeId) (cs : Array Value) (d : TypeDesc)
    (hp : tmps.getD p undef = .pointer (some ⟨g, 0, none⟩)) (hb : Bx w g t cs)
    (hu : P.underlying ty = some d) (hd : (match d with | .struct _ | .array _ _ => true | _ => false) = true) (hi : (P.info? ty).map (·.size) = some cs.size) :
    (results fn tmps).run P w = .ok (.agg cs) w :=
  results_cell_row h tmps w g t cs (0, 0) d hp hb hu hd hi

/-- Two cells of one basic kind: are they the same? -/
def veq : Value → Value → Bool
  | .int _ a, .int _ b => a == b
  | .bool a, .bool b => a == b
  | _, _ => false

/-- The cells v and u are a number each, or a truth each, of this type. -/
def Bas (P : Program) (t : TypeId) (v u : Value) : Prop := (∃ k a b, P.underlying t = some (.int k) ∧ v = .int k a ∧ u = .int k b) ∨ (∃ a b, P.underlying t = some .bool ∧ v = .bool a ∧ u = .bool b)

theorem eqFields_bas (xs ys : Array Value) (w : World) (d : Nat) : ∀ fs : List Field, (∀ f ∈ fs, f.name ≠ "_" ∧ ∃ v u, xs[f.offset]? = some v ∧ ys[f.offset]? = some u ∧ Bas P f.type v u) →
    (Op.eqFields (d + 1) xs ys fs).run P w = .ok (fs.all fun f => veq (xs.getD f.offset undef) (ys.getD f.offset undef)) w
  | [], _ => rfl
  | f :: fs, h => by
    obtain ⟨hn, v, u, hv, hu, hb⟩ := h f (by simp)
    have ih := eqFields_bas xs ys w d fs (fun g hg => h g (by simp [hg]))
    have hagg : ∀ w, (isAgg f.type).run P w = .ok false w := fun w => by
      unfold isAgg
      rcases hb with ⟨k, a, b, ht, _, _⟩ | ⟨a, b, ht, _, _⟩ <;> (rw [Sem.run_bind, run_underlying ht w]; simp)
    have p1 : (part f.type xs f.offset).run P w = .ok v w := by unfold part; rw [Sem.run_bind, hagg]; simp [hv]
    have p2 : (part f.type ys f.offset).run P w = .ok u w := by unfold part; rw [Sem.run_bind, hagg]; simp [hu]
    have p3 : (Op.equalIn (d + 1) f.type v u).run P w = .ok (veq v u) w := by
      rcases hb with ⟨k, a, b, ht, rfl, rfl⟩ | ⟨a, b, ht, rfl, rfl⟩
      · exact run_equalIn_int w d f.type k k _ _ ht
      · exact run_equalIn_bool w d f.type _ _ ht
    have hx : xs.getD f.offset undef = v := by simp [hv]
    have hy : ys.getD f.offset undef = u := by simp [hu]
    unfold Op.eqFields
    rw [if_pos hn]
    simp only [Sem.run_bind, p1, p2, p3, Result.andThen_ok, List.all_cons, hx, hy]
    cases he : veq v u with
    | true => simp [ih]
    | false => simp
end

end Go.Proofs.Ytglgifhpacmhiaa
