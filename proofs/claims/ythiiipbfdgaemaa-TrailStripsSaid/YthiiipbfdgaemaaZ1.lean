/- Plain facts, several texts in one: Base, Box, BoxRes, Build, Chg, ClauseNm, IvalLeaf, IvalTwo, IvalsMath, IvalsEnc, IvalsMath2, IvalsMath3, RecMath, RecLeaf, Row, ClauseLeaf, FindHeap, FindSame, IvalsWords, IvalsHas, IvalsNextC, IvalsRight. Conditions: none beyond each lemma's own premises. -/
import Derived.Below
import Derived.Deep.Draws
import Derived.Deep.RegionHeld
import Derived.Lib.Hide
import Derived.Test.YthiiipbfdgaemaaRows
import Derived.WalkKit
import Derived.WalkSpells
import Derived.WalkSmall
import Derived.Laws.Tables
import Derived.Laws.Rows
import Derived.Laws.CopyRow
import Derived.Laws.StructEq
import Derived.Deep.Quiet
import Derived.Deep.MidRow
import Derived.OrdersHeld
import Derived.KernelRfl
import Derived.RowKit
import Derived.Outline
import Derived.Deep.RegionWith
import Derived.OwnWalk
import Derived.BigQuiet
import Derived.Deep.QuietTactic
import Derived.Laws.OwnMore
import Derived.Laws.AppendOwn
import Derived.Lib.SlicesS

/- Small facts on what a call leaves as it was, for any program. Conditions: none beyond each lemma's own premises. -/
namespace Go.Proofs.Ythiiipbfdgaemaa
open Go.RowKit

theorem bcell {W w1 : World} (hb : Below W.heap.size W w1) : (∀ b o, b < W.heap.size → w1.cell? ⟨b, o, none⟩ = W.cell? ⟨b, o, none⟩) ∧ (∀ b o, b < W.heap.size → w1.frozen? ⟨b, o, none⟩ = W.frozen? ⟨b, o, none⟩) :=
  ⟨fun b o h => hb.cell (p := ⟨b, o, none⟩) h, fun b o h => hb.frozen (p := ⟨b, o, none⟩) h⟩
theorem b_al {n : Nat} {w W : World} (h : Below n w W) (hn : n ≤ w.heap.size) (o : Obj) : Below n w (W.alloc o) := h.alloc (Nat.le_trans hn h.size) o
theorem b_cl {n : Nat} {w W w1 : World} (h : Below n w W) (hn : n ≤ w.heap.size) (hb : Below W.heap.size W w1) : Below n w w1 := h.trans (hb.mono (Nat.le_trans hn h.size))
theorem b_st {n : Nat} {w W : World} {p : Addr} {v : Value} (h : Below n w W) (hp : n ≤ p.block) : Below n w (W.setCell p v) := h.setCell hp _
theorem b_dn {n k : Nat} {w W : World} (h : Below n w W) : Below n w (W.drewN k) := ⟨h.os, h.tape, h.output, h.size, h.block⟩
theorem b_dr {n : Nat} {w W : World} (h : Below n w W) : Below n w W.drew := ⟨h.os, h.tape, h.output, h.size, h.block⟩

theorem c_lt {W : World} {p : Addr} {v : Value} (h : W.cell? p = some v) : p.block < W.heap.size := World.block_lt_of_cell? W p h
theorem c_al {W : World} {p : Addr} {v : Value} (o : Obj) (h : W.cell? p = some v) : (W.alloc o).cell? p = some v := by
  rw [World.cell?_alloc_some W p o (by rw [h]; rfl), h]
theorem c_cl {W w1 : World} {p : Addr} {v : Value} (h : W.cell? p = some v) (hb : Below W.heap.size W w1) : w1.cell? p = some v := by
  rw [hb.cell (c_lt h), h]

end Go.Proofs.Ythiiipbfdgaemaa

/- Boxed values of many cells: a block's cells known whole; loads and stores of whole rows and of single cells, the new world a variable; structs compared cell by cell. Conditions: none beyond each lemma's own premises. -/
namespace Go.Proofs.Ythiiipbfdgaemaa
open Go.RowKit

/-- Block g holds these cells, and none is frozen. -/
def Bx (W : World) (g : Nat) (t : TypeId) (cs : Array Value) : Prop := W.heap[g]? = some (.cells cs t (0, 0))

theorem Bx.lt {W : World} {g : Nat} {t : TypeId} {cs : Array Value} (h : Bx W g t cs) : g < W.heap.size := (Array.getElem?_eq_some_iff.1 h).1
theorem Bx.cell {W : World} {g : Nat} {t : TypeId} {cs : Array Value} (h : Bx W g t cs) {k : Nat} {v : Value} (hk : cs[k]? = some v) : W.cell? ⟨g, k, none⟩ = some v := by
  rw [cell_of_row W g k cs t (0, 0) h]; exact hk
theorem Bx.free {W : World} {g : Nat} {t : TypeId} {cs : Array Value} (h : Bx W g t cs) (k : Nat) : W.frozen? ⟨g, k, none⟩ = false := frozen_of_row W g k cs t h
theorem Bx.below {W W' : World} {g : Nat} {t : TypeId} {cs : Array Value} (h : Bx W g t cs) (hb : Below W.heap.size W W') : Bx W' g t cs := (hb.block g h.lt).trans h
theorem Bx.keep {W W' : World} {g n : Nat} {t : TypeId} {cs : Array Value} (h : Bx W g t cs) (hb : Below n W W') (hn : g < n) : Bx W' g t cs := (hb.block g hn).trans h
theorem Bx.alloc {W : World} {g : Nat} {t : TypeId} {cs : Array Value} (h : Bx W g t cs) (o : Obj) : Bx (W.alloc o) g t cs := (heap_alloc_old _ _ h.lt).trans h
theorem Bx.drew {W : World} {g : Nat} {t : TypeId} {cs : Array Value} (h : Bx W g t cs) : Bx W.drew g t cs := h
theorem Bx.drewN {W : World} {g n : Nat} {t : TypeId} {cs : Array Value} (h : Bx W g t cs) : Bx (W.drewN n) g t cs := h
theorem Bx.new {W : World} {g : Nat} (t : TypeId) (cs : Array Value) (hg : g = W.heap.size) : Bx (W.alloc (.cells cs t)) g t cs := by
  subst hg; exact heap_alloc_new W _

theorem Bx.range2 {W : World} {g off : Nat} {t : TypeId} {cs : Array Value} {a b : Value} (h : Bx W g t cs) (ha : cs[off]? = some a) (hb : cs[off + 1]? = some b) : W.rangeAt g off [a, b] := fun j v hj => by
  rw [cell_of_row W g (off + j) cs t (0, 0) h]
  match j, hj with
  | 0, hj => simp at hj; subst hj; exact ha
  | 1, hj => simp at hj; subst hj; exact hb

/-- What a store into block g leaves: the block holds cs, all else is as it was. -/
structure Upd (W : World) (g : Nat) (t : TypeId) (cs : Array Value) (W' : World) : Prop where
  size : W'.heap.size = W.heap.size
  box : Bx W' g t cs
  other : ∀ k, k ≠ g → W'.heap[k]? = W.heap[k]?
  bel : ∀ n, n ≤ g → Below n W W'

theorem Upd.cell {W W' : World} {g : Nat} {t : TypeId} {cs : Array Value} (u : Upd W g t cs W') {p : Addr} (hp : p.block ≠ g) : W'.cell? p = W.cell? p := World.cell?_of_block (w := W) (u.other p.block hp)
theorem Upd.bx {W W' : World} {g h : Nat} {t s : TypeId} {cs ds : Array Value} (u : Upd W g t cs W') (hb : Bx W h s ds) (hp : h ≠ g) : Bx W' h s ds := (u.other h hp).trans hb
theorem Upd.of_setRow {W : World} {g : Nat} {t : TypeId} {old : Array Value} (cs : Array Value) (h : Bx W g t old) : Upd W g t cs (W.setRow g cs) :=
  ⟨setRow_size _ _ _, setRow_heap W g old cs t (0, 0) h, fun k hk => setRow_other W g k cs hk, fun n hn => ⟨rfl, rfl, rfl, by rw [setRow_size]; exact Nat.le_refl _, fun k hk => setRow_other W g k cs (by omega)⟩⟩

section
variable {P : Program}
theorem run_storeVar_fld (W : World) (g k : Nat) (t ty : TypeId) (cs : Array Value) (v : Value) (h : Bx W g t cs) (hk : k < cs.size) (hi : (P.info? ty).map (·.size) = some 1) (h1 : v.oneCell' = true) :
    (storeVar ty ⟨g, k, none⟩ v).run P W = .ok () (W.setRow g (cs.setIfInBounds k v)) := by
  have := run_storeCells_at (P := P) g k t [v] 0 cs W h (by simp; omega) (fun x hx => by simp at hx; subst hx; exact h1)
  have hc : v.cells = #[v] := by cases v <;> first | rfl | cases h1
  have e : (cs.toList.take k ++ [v] ++ cs.toList.drop (k + 1)).toArray = cs.setIfInBounds k v := by
    apply Array.ext'
    rw [Array.toList_setIfInBounds, List.set_eq_take_append_cons_drop, if_pos (by simpa using hk)]
    simp
  cases hq : P.info? ty with
  | none => simp [hq] at hi
  | some i =>
    have hs : i.size = 1 := by simpa [hq] using hi
    simp only [Nat.add_zero, List.length_singleton] at this
    rw [e] at this
    simp [storeVar, sizeOf, typeInfo, hq, hc, hs, this]

theorem wpList_store_fld {ops : Array Oper} {rest : List Oper} {o : Oper} {a : Act} {w : World} {Q : Exit → Act → World → Prop} (hgd : Region.wanted o (yielded ops a.tmps) = true) (ty : TypeId) (x y : Operand) (ho : o.op = .store ty x y)
    (g k : Nat) (v : Value) (hx : a.eval x = .pointer (some ⟨g, k, none⟩)) (hy : a.eval y = v) (h1 : v.oneCell' = true) (t : TypeId) (cs : Array Value) (hb : Bx w g t cs) (hk : k < cs.size) (hi : (P.info? ty).map (·.size) = some 1)
    (h : ∀ W', Upd w g t (cs.setIfInBounds k v) W' → wpList P ops Q rest (a.put o.dst undef) W') : wpList P ops Q (o :: rest) a w :=
  wpList_step fun K hK => by
    rw [if_pos hgd]
    unfold Oper.wp execOp
    simp only [ho, hx, hy, Instr.storeAt, Instr.sureAddr, Sem.run_bind, Sem.run_pure, Result.andThen_ok, run_storeVar_fld w g k t ty cs v hb hk hi h1]
    exact hK _ _ (h _ (Upd.of_setRow _ hb))

/-- A whole row is stored into a block. -/
theorem wpList_store_box {ops : Array Oper} {rest : List Oper} {o : Oper} {a : Act} {w : World} {Q : Exit → Act → World → Prop} (hgd : o.guard = none) (ty : TypeId) (x y : Operand) (ho : o.op = .store ty x y)
    (g : Nat) (cells : Array Value) (hx : a.eval x = .pointer (some ⟨g, 0, none⟩)) (hy : a.eval y = .agg cells)
    (t : TypeId) (old : Array Value) (hb : Bx w g t old) (hi : (P.info? ty).map (·.size) = some cells.size)
    (hold : old.size = cells.size) (h1 : cells.all (·.oneCell') = true)
    (h : ∀ W', Upd w g t cells W' → wpList P ops Q rest (a.put o.dst undef) W') : wpList P ops Q (o :: rest) a w :=
  wpList_store_row hgd ty x y ho g cells hx hy t old hb hi hold h1 (h _ (Upd.of_setRow _ hb))

theorem exec_load_box {r : Operand → Value} {o : Oper} {ty : TypeId} {y : Operand} (g : Nat) (t : TypeId) (cs : Array Value) (d : TypeDesc) (w : World) (ho : o.op = .load ty y) (hx : r y = .pointer (some ⟨g, 0, none⟩)) (hb : Bx w g t cs)
    (hu : P.underlying ty = some d) (hd : (match d with | .struct _ | .array _ _ => true | _ => false) = true) (hi : (P.info? ty).map (·.size) = some cs.size) : (execOp r o).run P w = .ok (.value (.agg cs)) w := by
  unfold execOp
  simp only [ho, hx, Instr.loadAt, Instr.sureAddr, Sem.run_bind, Sem.run_pure, Result.andThen_ok, run_loadVar_row w g t ty cs (0, 0) d hb hu hd hi]

theorem wpList_load_box {ops : Array Oper} {rest : List Oper} {o : Oper} {a : Act} {w : World} {Q : Exit → Act → World → Prop} (hgd : Region.wanted o (yielded ops a.tmps) = true) (ty : TypeId) (x : Operand) (ho : o.op = .load ty x)
    (g : Nat) (hx : a.eval x = .pointer (some ⟨g, 0, none⟩)) (t : TypeId) (cs : Array Value) (d : TypeDesc) (hb : Bx w g t cs)
    (hu : P.underlying ty = some d) (hd : (match d with | .struct _ | .array _ _ => true | _ => false) = true) (hi : (P.info? ty).map (·.size) = some cs.size)
    (h : wpList P ops Q rest (a.put o.dst (.agg cs)) w) : wpList P ops Q (o :: rest) a w :=
  wpList_step fun K hK => by
    rw [if_pos hgd]
    unfold Oper.wp
    rw [exec_load_box g t cs d w ho hx hb hu hd hi]
    exact hK _ _ h

/-! ### In a region that draws its order -/
theorem wp_alloc_any {o : Oper} {a : Act} {w : World} {K : Act → World → Prop} {Q : Exit → Act → World → Prop} (t : TypeId) (cs : Array Value)
    (hrun : (execOp a.eval o).run P w = .ok (.value (.pointer (some ⟨w.heap.size, 0, none⟩))) (w.alloc (.cells cs t)))
    (h : ∀ g W', w.heap.size ≤ g → Bx W' g t cs → Below w.heap.size w W' → K (a.put o.dst (.pointer (some ⟨g, 0, none⟩))) W') : o.wp P a w K Q := by
  unfold Oper.wp
  rw [hrun]
  exact h _ _ (Nat.le_refl _) (Bx.new t cs rfl) ((Below.refl _ _).alloc (Nat.le_refl _) _)

theorem wp_store_any {o : Oper} {a : Act} {w : World} {K : Act → World → Prop} {Q : Exit → Act → World → Prop} (ty : TypeId) (x y : Operand) (ho : o.op = .store ty x y)
    (g : Nat) (cells : Array Value) (hx : a.eval x = .pointer (some ⟨g, 0, none⟩)) (hy : a.eval y = .agg cells)
    (t : TypeId) (old : Array Value) (hb : Bx w g t old) (hi : (P.info? ty).map (·.size) = some cells.size)
    (hold : old.size = cells.size) (h1 : cells.all (·.oneCell') = true)
    (h : ∀ W', Upd w g t cells W' → K (a.put o.dst undef) W') : o.wp P a w K Q :=
  wp_store_row ty x y ho g cells hx hy t old hb hi hold h1 (h _ (Upd.of_setRow _ hb))

/-- A struct's result that lies in a block, with one more number behind it, or alone. -/
theorem results_box2 {fn : Func} {p q : Tmp} {ty : TypeId} (h : fn.results = #[.cell p ty, .tmp q]) (tmps : Array Value) (w : World) (g : Nat) (t : TypeId) (cs : Array Value) (d : TypeDesc) (v : Value)
    (hp : tmps.getD p undef = .pointer (some ⟨g, 0, none⟩)) (hb : Bx w g t cs) (hq : tmps.getD q undef = v)
    (hu : P.underlying ty = some d) (hd : (match d with | .struct _ | .array _ _ => true | _ => false) = true) (hi : (P.info? ty).map (·.size) = some cs.size) :
    (results fn tmps).run P w = .ok (.tuple #[.agg cs, v]) w := by
  have hp' : tmps[p]?.getD undef = .pointer (some ⟨g, 0, none⟩) := by simpa using hp
  have hq' : tmps[q]?.getD undef = v := by simpa using hq
  simp [results, h, hp', hq', asAddr, run_loadVar_row w g t ty cs (0, 0) d hb hu hd hi]

theorem results_box1 {fn : Func} {p : Tmp} {ty : TypeId} (h : fn.results = #[.cell p ty]) (tmps : Array Value) (w : World) (g : Nat) (t : TypeId) (cs : Array Value) (d : TypeDesc)
    (hp : tmps.getD p undef = .pointer (some ⟨g, 0, none⟩)) (hb : Bx w g t cs)
    (hu : P.underlying ty = some d) (hd : (match d with | .struct _ | .array _ _ => true | _ => false) = true) (hi : (P.info? ty).map (·.size) = some cs.size) :
    (results fn tmps).run P w = .ok (.agg cs) w :=
  results_cell_row h tmps w g t cs (0, 0) d hp hb hu hd hi

/-- Two cells of one basic kind: are they the same? -/
def veq : Value → Value → Bool
  | .int _ a, .int _ b => a == b
  | .bool a, .bool b => a == b
  | _, _ => false

/-- The cells v and u are a number each, or a truth each, of this type. -/
def Bas (P : Program) (t : TypeId) (v u : Value) : Prop := (∃ k a b, P.underlying t = some (.int k) ∧ v = .int k a ∧ u = .int k b) ∨ (∃ a b, P.underlying t = some .bool ∧ v = .bool a ∧ u = .bool b)

theorem eqFields_bas (xs ys : Array Value) (w : World) (d : Nat) : ∀ fs : List Field, (∀ f ∈ fs, f.name ≠ "_" ∧ ∃ v u, xs[f.offset]? = some v ∧ ys[f.offset]? = some u ∧ Bas P f.type v u) →
    (Op.eqFields (d + 1) xs ys fs).run P w = .ok (fs.all fun f => veq (xs.getD f.offset undef) (ys.getD f.offset undef)) w
  | [], _ => rfl
  | f :: fs, h => by
    obtain ⟨hn, v, u, hv, hu, hb⟩ := h f (by simp)
    have ih := eqFields_bas xs ys w d fs (fun g hg => h g (by simp [hg]))
    have hagg : ∀ w, (isAgg f.type).run P w = .ok false w := fun w => by
      unfold isAgg
      rcases hb with ⟨k, a, b, ht, _, _⟩ | ⟨a, b, ht, _, _⟩ <;> (rw [Sem.run_bind, run_underlying ht w]; simp)
    have p1 : (part f.type xs f.offset).run P w = .ok v w := by unfold part; rw [Sem.run_bind, hagg]; simp [hv]
    have p2 : (part f.type ys f.offset).run P w = .ok u w := by unfold part; rw [Sem.run_bind, hagg]; simp [hu]
    have p3 : (Op.equalIn (d + 1) f.type v u).run P w = .ok (veq v u) w := by
      rcases hb with ⟨k, a, b, ht, rfl, rfl⟩ | ⟨a, b, ht, rfl, rfl⟩
      · exact run_equalIn_int w d f.type k k _ _ ht
      · exact run_equalIn_bool w d f.type _ _ ht
    have hx : xs.getD f.offset undef = v := by simp [hv]
    have hy : ys.getD f.offset undef = u := by simp [hu]
    unfold Op.eqFields
    rw [if_pos hn]
    simp only [Sem.run_bind, p1, p2, p3, Result.andThen_ok, List.all_cons, hx, hy]
    cases he : veq v u with
    | true => simp [ih]
    | false => simp
end

end Go.Proofs.Ythiiipbfdgaemaa

/- Results that lie in blocks; a row amid a block loaded. Conditions: none beyond each lemma's own premises. -/
namespace Go.Proofs.Ythiiipbfdgaemaa
open Go.RowKit

theorem results_box3 {P : Program} {fn : Func} {p q r : Tmp} {ty : TypeId} (h : fn.results = #[.cell p ty, .tmp q, .tmp r]) (tmps : Array Value) (w : World) (g : Nat) (t : TypeId) (cs : Array Value) (d : TypeDesc) (v v' : Value)
    (hp : tmps.getD p undef = .pointer (some ⟨g, 0, none⟩)) (hb : Bx w g t cs) (hq : tmps.getD q undef = v) (hr : tmps.getD r undef = v')
    (hu : P.underlying ty = some d) (hd : (match d with | .struct _ | .array _ _ => true | _ => false) = true) (hi : (P.info? ty).map (·.size) = some cs.size) :
    (results fn tmps).run P w = .ok (.tuple #[.agg cs, v, v']) w := by
  have hp' : tmps[p]?.getD undef = .pointer (some ⟨g, 0, none⟩) := by simpa using hp
  have hq' : tmps[q]?.getD undef = v := by simpa using hq
  have hr' : tmps[r]?.getD undef = v' := by simpa using hr
  simp [results, h, hp', hq', hr', asAddr, run_loadVar_row w g t ty cs (0, 0) d hb hu hd hi]

theorem results_box22 {P : Program} {fn : Func} {p q r : Tmp} {ty tz : TypeId} (h : fn.results = #[.cell p ty, .cell q tz, .tmp r]) (tmps : Array Value) (w : World) (g g' : Nat) (t t' : TypeId) (cs ds : Array Value) (d d' : TypeDesc) (v : Value)
    (hp : tmps.getD p undef = .pointer (some ⟨g, 0, none⟩)) (hb : Bx w g t cs) (hq : tmps.getD q undef = .pointer (some ⟨g', 0, none⟩)) (hb' : Bx w g' t' ds) (hr : tmps.getD r undef = v)
    (hu : P.underlying ty = some d) (hd : (match d with | .struct _ | .array _ _ => true | _ => false) = true) (hi : (P.info? ty).map (·.size) = some cs.size)
    (hu' : P.underlying tz = some d') (hd' : (match d' with | .struct _ | .array _ _ => true | _ => false) = true) (hi' : (P.info? tz).map (·.size) = some ds.size) :
    (results fn tmps).run P w = .ok (.tuple #[.agg cs, .agg ds, v]) w := by
  have hp' : tmps[p]?.getD undef = .pointer (some ⟨g, 0, none⟩) := by simpa using hp
  have hq' : tmps[q]?.getD undef = .pointer (some ⟨g', 0, none⟩) := by simpa using hq
  have hr' : tmps[r]?.getD undef = v := by simpa using hr
  simp [results, h, hp', hq', hr', asAddr, run_loadVar_row w g t ty cs (0, 0) d hb hu hd hi, run_loadVar_row w g' t' tz ds (0, 0) d' hb' hu' hd' hi']

/-- Two results that lie in two blocks. -/
theorem results_boxes {P : Program} {fn : Func} {p q : Tmp} {ty tz : TypeId} (h : fn.results = #[.cell p ty, .cell q tz]) (tmps : Array Value) (w : World) (g g' : Nat) (t t' : TypeId) (cs ds : Array Value) (d d' : TypeDesc)
    (hp : tmps.getD p undef = .pointer (some ⟨g, 0, none⟩)) (hb : Bx w g t cs) (hq : tmps.getD q undef = .pointer (some ⟨g', 0, none⟩)) (hb' : Bx w g' t' ds)
    (hu : P.underlying ty = some d) (hd : (match d with | .struct _ | .array _ _ => true | _ => false) = true) (hi : (P.info? ty).map (·.size) = some cs.size)
    (hu' : P.underlying tz = some d') (hd' : (match d' with | .struct _ | .array _ _ => true | _ => false) = true) (hi' : (P.info? tz).map (·.size) = some ds.size) :
    (results fn tmps).run P w = .ok (.tuple #[.agg cs, .agg ds]) w := by
  have hp' : tmps[p]?.getD undef = .pointer (some ⟨g, 0, none⟩) := by simpa using hp
  have hq' : tmps[q]?.getD undef = .pointer (some ⟨g', 0, none⟩) := by simpa using hq
  simp [results, h, hp', hq', asAddr, run_loadVar_row w g t ty cs (0, 0) d hb hu hd hi, run_loadVar_row w g' t' tz ds (0, 0) d' hb' hu' hd' hi']

section
variable {P : Program}
theorem exec_load_mid {r : Operand → Value} {o : Oper} {ty : TypeId} {y : Operand} (b off : Nat) (cs : Array Value) (d : TypeDesc) (w : World) (ho : o.op = .load ty y) (hx : r y = .pointer (some ⟨b, off, none⟩)) (hr : w.rangeAt b off cs.toList)
    (hu : P.underlying ty = some d) (hd : d.isRow = true) (hi : (P.info? ty).map (·.size) = some cs.size) : (execOp r o).run P w = .ok (.value (.agg cs)) w := by
  have := run_loadAt_mid (P := P) w b off ty cs.toList d hr hu hd (by simpa using hi)
  rw [Array.toArray_toList] at this
  unfold execOp
  simp only [ho, hx, this, Sem.run_bind, Result.andThen_ok]
  rfl
end

end Go.Proofs.Ythiiipbfdgaemaa

/- Whole rows built, stored in a new block; an operation that yields one value in every world. Conditions: none beyond each lemma's own premises. -/
namespace Go.Proofs.Ythiiipbfdgaemaa
open Go.RowKit

section
variable {P : Program}
theorem setRow_new (W : World) (g : Nat) (old cs : Array Value) (t : TypeId) (hg : g = W.heap.size) : (W.alloc (.cells old t)).setRow g cs = W.alloc (.cells cs t) := by
  subst hg
  unfold World.setRow World.alloc
  congr 1
  apply Array.ext
  · simp
  · intro i h1 h2
    simp only [Array.getElem_modify]
    split
    · rename_i h; subst h; simp
    · rename_i h
      simp at h1
      have hi : i < W.heap.size := by omega
      simp [Array.getElem_push_lt hi]

theorem wpList_build_as {ops : Array Oper} {rest : List Oper} {o : Oper} {a : Act} {w : World} {Q : Exit → Act → World → Prop} (hg : o.guard = none) (t : TypeId) (parts : Array (Nat × Operand)) (ho : o.op = .build t parts) (cells : Array Value)
    (hf : P.built t (parts.map fun (i, x) => (i, a.eval x)).toList = some cells)
    (h : wpList P ops Q rest (a.put o.dst (.agg cells)) w) : wpList P ops Q (o :: rest) a w :=
  wpList_build hg t parts ho (by rw [hf]; rfl) (by rw [hf]; exact h)

theorem wpList_store_new {ops : Array Oper} {rest : List Oper} {o : Oper} {a : Act} {W : World} {old : Array Value} {t : TypeId} {Q : Exit → Act → World → Prop} (hgd : o.guard = none) (ty : TypeId) (x y : Operand) (ho : o.op = .store ty x y)
    (g : Nat) (cells : Array Value) (hx : a.eval x = .pointer (some ⟨g, 0, none⟩)) (hy : a.eval y = .agg cells) (hgg : g = W.heap.size) (hi : (P.info? ty).map (·.size) = some cells.size)
    (hold : old.size = cells.size) (h1 : cells.all (·.oneCell') = true)
    (h : wpList P ops Q rest (a.put o.dst undef) (W.alloc (.cells cells t))) : wpList P ops Q (o :: rest) a (W.alloc (.cells old t)) :=
  wpList_store_row hgd ty x y ho g cells hx hy t old (by subst hgg; exact heap_alloc_new _ _) hi hold h1 (by rw [setRow_new W g old cells t hgg]; exact h)
end

section
variable {ops : Array Oper} {rest : List Oper} {o : Oper} {a : Act} {w : World} {Q : Exit → Act → World → Prop} {K : Act → World → Prop}
/-- An operation that yields v in every world. -/
theorem wpList_yields (hw : Region.wanted o (yielded ops a.tmps) = true) {v : Value} (he : ∀ w, (execOp a.eval o).run Try.prog w = .ok (.value v) w)
    (h : wpList Try.prog ops Q rest (a.put o.dst v) w) : wpList Try.prog ops Q (o :: rest) a w :=
  wpList_step fun K hK => by
    rw [if_pos hw]
    unfold Oper.wp
    rw [he]
    exact hK _ _ h
/-- In the lexical walk. -/
theorem quiet_yields {C : World → Prop} {K : Act → Prop} {v : Value} (he : ∀ w, C w → (execOp a.eval o).run Try.prog w = .ok (.value v) w) (h : K (a.put o.dst v)) : o.quiet Try.prog a C K :=
  ⟨v, fun w hw => by unfold Oper.quietAt; rw [he w hw]; exact ⟨rfl, rfl⟩, h⟩
theorem exec_build {r : Operand → Value} {ty : TypeId} {parts : Array (Nat × Operand)} (cells : Array Value) (w : World) (ho : o.op = .build ty parts) (hf : Try.prog.built ty (parts.map fun (i, x) => (i, r x)).toList = some cells) :
    (execOp r o).run Try.prog w = .ok (.value (.agg cells)) w := by
  unfold execOp
  simp only [ho, Sem.run_bind, run_build w ty _ cells hf, Result.andThen_ok]
  rfl
theorem yieldsIf_exec {S : World → Prop} {v : Value} (hw : Region.wanted o (yielded ops a.tmps) = true) (he : ∀ w, S w → (execOp a.eval o).run Try.prog w = .ok (.value v) w) : YieldsIf Try.prog ops S o v a := .inl ⟨hw, he⟩
end

end Go.Proofs.Ythiiipbfdgaemaa

/- What a call leaves that turns one block and may make memory. Conditions: none beyond each lemma's own premises. -/
namespace Go.Proofs.Ythiiipbfdgaemaa
open Go.RowKit

/-- What a call leaves that turns block g and may make memory: g holds cs, all else that lay is as it was. -/
structure Chg (W : World) (g : Nat) (t : TypeId) (cs : Array Value) (W' : World) : Prop where
  size : W.heap.size ≤ W'.heap.size
  box : Bx W' g t cs
  other : ∀ k, k ≠ g → k < W.heap.size → W'.heap[k]? = W.heap[k]?
  bel : ∀ n, n ≤ g → n ≤ W.heap.size → Below n W W'

theorem Chg.refl {W : World} {g : Nat} {t : TypeId} {cs : Array Value} (h : Bx W g t cs) : Chg W g t cs W := ⟨Nat.le_refl _, h, fun _ _ _ => rfl, fun _ _ _ => Below.refl _ _⟩
theorem Chg.upd {W W1 W2 : World} {g : Nat} {t s : TypeId} {cs ds : Array Value} (c : Chg W g t cs W1) (u : Upd W1 g s ds W2) : Chg W g s ds W2 :=
  ⟨by rw [u.size]; exact c.size, u.box, fun k hk hl => (u.other k hk).trans (c.other k hk hl), fun n hn hl => (c.bel n hn hl).trans (u.bel n hn)⟩
theorem Chg.trans {W W1 W2 : World} {g : Nat} {t s : TypeId} {cs ds : Array Value} (c : Chg W g t cs W1) (d : Chg W1 g s ds W2) : Chg W g s ds W2 :=
  ⟨Nat.le_trans c.size d.size, d.box, fun k hk hl => (d.other k hk (Nat.lt_of_lt_of_le hl c.size)).trans (c.other k hk hl), fun n hn hl => (c.bel n hn hl).trans (d.bel n hn (Nat.le_trans hl c.size))⟩
theorem Chg.below {W W1 W2 : World} {g : Nat} {t : TypeId} {cs : Array Value} (c : Chg W g t cs W1) (hb : Below W1.heap.size W1 W2) : Chg W g t cs W2 :=
  ⟨Nat.le_trans c.size hb.size, c.box.below hb, fun k hk hl => (hb.block k (Nat.lt_of_lt_of_le hl c.size)).trans (c.other k hk hl), fun n hn hl => (c.bel n hn hl).trans (hb.mono (Nat.le_trans hl c.size))⟩
theorem Chg.alloc {W W1 : World} {g : Nat} {t : TypeId} {cs : Array Value} (c : Chg W g t cs W1) (o : Obj) : Chg W g t cs (W1.alloc o) := c.below ((Below.refl _ _).alloc (Nat.le_refl _) o)
theorem Chg.drew {W W1 : World} {g : Nat} {t : TypeId} {cs : Array Value} (c : Chg W g t cs W1) : Chg W g t cs W1.drew := ⟨c.size, c.box.drew, c.other, fun n hn hl => b_dr (c.bel n hn hl)⟩
theorem Chg.bx {W W' : World} {g h : Nat} {t s : TypeId} {cs ds : Array Value} (c : Chg W g t cs W') (hb : Bx W h s ds) (hp : h ≠ g) : Bx W' h s ds := (c.other h hp hb.lt).trans hb
theorem Chg.cell {W W' : World} {g : Nat} {t : TypeId} {cs : Array Value} (c : Chg W g t cs W') {p : Addr} (hp : p.block ≠ g) (hl : p.block < W.heap.size) : W'.cell? p = W.cell? p := World.cell?_of_block (w := W) (c.other p.block hp hl)

/-- What is stored is what lay there. -/
theorem Upd.same {W : World} {g : Nat} {t : TypeId} {cs : Array Value} (h : Bx W g t cs) : Upd W g t cs W := ⟨rfl, h, fun _ _ => rfl, fun _ _ => Below.refl _ _⟩
/-- One cell is stored. -/
theorem Bx.setOne {W : World} {g k : Nat} {t : TypeId} {cs : Array Value} {v : Value} (h : Bx W g t cs) : Upd W g t (cs.setIfInBounds k v) (W.setCell ⟨g, k, none⟩ v) := by
  unfold Bx at h
  have hs : (W.setCell ⟨g, k, none⟩ v).heap.size = W.heap.size := by simp [World.setCell]
  have ho : ∀ q, q ≠ g → (W.setCell ⟨g, k, none⟩ v).heap[q]? = W.heap[q]? := fun q hq => by
    simp only [World.setCell]
    rw [Array.getElem?_modify, if_neg (fun e => hq e.symm)]
  refine ⟨hs, ?_, ho, fun n hn => ⟨rfl, rfl, rfl, by rw [hs]; exact Nat.le_refl _, fun q hq => ho q (by omega)⟩⟩
  unfold Bx
  simp only [World.setCell]
  rw [Array.getElem?_modify, if_pos rfl, h]
  rfl
theorem Upd.trans {W W1 W2 : World} {g : Nat} {t s : TypeId} {cs ds : Array Value} (c : Upd W g t cs W1) (d : Upd W1 g s ds W2) : Upd W g s ds W2 :=
  ⟨by rw [d.size, c.size], d.box, fun k hk => (d.other k hk).trans (c.other k hk), fun n hn => (c.bel n hn).trans (d.bel n hn)⟩

end Go.Proofs.Ythiiipbfdgaemaa

/- Clauses in plain words: their names and articles, and sets of them. Conditions: none beyond each lemma's own premises. -/
namespace Go.Proofs.Ythiiipbfdgaemaa
open Go.RowKit

/-! ### Names and articles -/

def nmL : List ByteArray := [⟨#[98, 114, 101, 97, 107]⟩, ⟨#[108, 111, 110, 103, 101, 114]⟩, ⟨#[108, 111, 110, 103, 101, 114, 115]⟩, ⟨#[119, 101, 101, 107]⟩, ⟨#[102, 111, 114, 116, 110, 105, 103, 104, 116]⟩, ⟨#[100, 97, 105, 108, 121]⟩, ⟨#[114, 101, 100, 117, 99, 101, 115]⟩, ⟨#[119, 101, 101, 107, 108, 121]⟩, ⟨#[98, 114, 105, 101, 102]⟩, ⟨#[108, 97, 98, 111, 117, 114]⟩, ⟨#[100, 114, 105, 118, 101]⟩, ⟨#[119, 111, 114, 107]⟩, ⟨#[111, 112, 101, 110]⟩, ⟨#[115, 101, 114, 118, 101]⟩, ⟨#[108, 101, 102, 116]⟩, ⟨#[108, 111, 97, 100]⟩]

def arL : List ByteArray := [⟨#[55]⟩, ⟨#[54, 40, 49, 41]⟩, ⟨#[54, 40, 49, 41]⟩, ⟨#[54, 40, 50, 41]⟩, ⟨#[54, 40, 51, 41]⟩, ⟨#[56, 40, 50, 41]⟩, ⟨#[56, 40, 52, 41]⟩, ⟨#[56, 40, 54, 41]⟩, ⟨#[56, 40, 54, 41]⟩, ⟨#[68, 52]⟩, ⟨#[82, 49]⟩, ⟨#[82, 49]⟩, ⟨#[82, 50]⟩, ⟨#[82, 51]⟩, ⟨#[82, 52]⟩, ⟨#[82, 53]⟩]

def nmB (k : Nat) : ByteArray := nmL.getD k ⟨#[]⟩
def arB (k : Nat) : ByteArray := arL.getD k ⟨#[]⟩
def artW : ByteArray := ⟨#[97, 114, 116, 46]⟩

/-- Is the number a clause's? -/
def isC (c : Int) : Prop := 0 ≤ c ∧ c < 16
instance (c : Int) : Decidable (isC c) := by unfold isC; infer_instance

def nameV (c : Int) : ByteArray := if isC c then nmB c.toNat else ⟨#[]⟩
def artV (c : Int) : ByteArray := if isC c then arB c.toNat else ⟨#[]⟩
def noneV (c : Int) : Int := if isC c then 0 else 13

theorem isC_nat {k : Nat} (h : k < 16) : isC (k : Int) := ⟨by omega, by omega⟩
theorem name_yes {k : Nat} (h : k < 16) : nameV (k : Int) = nmB k := by unfold nameV; rw [if_pos (isC_nat h)]; rfl
theorem art_yes {k : Nat} (h : k < 16) : artV (k : Int) = arB k := by unfold artV; rw [if_pos (isC_nat h)]; rfl
theorem name_no {c : Int} (h : ¬ isC c) : nameV c = ⟨#[]⟩ := if_neg h
theorem art_no {c : Int} (h : ¬ isC c) : artV c = ⟨#[]⟩ := if_neg h
theorem none_yes {c : Int} (h : isC c) : noneV c = 0 := if_pos h
theorem none_no {c : Int} (h : ¬ isC c) : noneV c = 13 := if_neg h
theorem isC_of {c : Int} (h : isC c) : ∃ k : Nat, k < 16 ∧ c = (k : Int) := ⟨c.toNat, by have := h.1; have := h.2; omega, by have := h.1; omega⟩

theorem fin16 {p : Nat → Prop} (h : ∀ k : Fin 16, p k.val) : ∀ k, k < 16 → p k := fun k hk => h ⟨k, hk⟩

theorem nm_size : ∀ k, k < 16 → (nmB k).size ≠ 0 ∧ (nmB k).size ≤ 9 := fin16 (by decide +kernel)
theorem ar_size : ∀ k, k < 16 → (arB k).size ≤ 4 := fin16 (by decide +kernel)
theorem nm_clean : ∀ k, k < 16 → ∀ b ∈ (nmB k).data.toList, 33 ≤ b.toNat ∧ b.toNat ≤ 126 := fin16 (by decide +kernel)
theorem ar_clean : ∀ k, k < 16 → ∀ b ∈ (artW ++ arB k).data.toList, 33 ≤ b.toNat ∧ b.toNat ≤ 126 := fin16 (by decide +kernel)

/-- The clause of that name. -/
def findN (s : ByteArray) : Option Nat := (List.range 16).find? fun k => (nmB k).data.toList == s.data.toList
def findV (s : ByteArray) : Int := match findN s with | some k => k | none => -1

theorem fnd_nm : ∀ k, k < 16 → findN (nmB k) = some k := fin16 (by decide +kernel)

theorem fnd_none {s : ByteArray} (h : findN s = none) : findV s = -1 := by unfold findV; rw [h]
theorem fnd_some {s : ByteArray} {k : Nat} (h : findN s = some k) : findV s = (k : Int) := by unfold findV; rw [h]
theorem fnd_is {s : ByteArray} {k : Nat} (h : findN s = some k) : k < 16 ∧ nmB k = s := by
  unfold findN at h
  have h1 := List.find?_some h
  have h2 := List.mem_of_find?_eq_some h
  exact ⟨by simpa using h2, ByteArray.ext (Array.toList_inj.1 (by simpa using h1))⟩
theorem fnd_at {s : ByteArray} {k : Nat} (hk : k < 16) (h : nmB k = s) : findN s = some k := by subst h; exact fnd_nm k hk
theorem fnd_no {s : ByteArray} (h : ∀ k, k < 16 → nmB k ≠ s) : findN s = none := by
  cases hf : findN s with
  | none => rfl
  | some k => exact absurd (fnd_is hf).2 (h k (fnd_is hf).1)

/-! ### Sets -/

/-- Is the clause k in the set? -/
def bitV (s : Int) (k : Nat) : Bool := s / 2 ^ k % 2 == 1

/-- The clauses of the set below k. -/
def allN (s : Int) (k : Nat) : List Int := ((List.range k).filter (bitV s)).map Int.ofNat

def inV (s c : Int) : Bool := decide (isC c) && bitV s c.toNat

theorem all_yes {s : Int} {k : Nat} (h : bitV s k = true) : allN s (k + 1) = allN s k ++ [(k : Int)] := by
  unfold allN
  rw [List.range_succ, List.filter_append, List.map_append]
  simp [h]
theorem all_no {s : Int} {k : Nat} (h : bitV s k = false) : allN s (k + 1) = allN s k := by
  unfold allN
  rw [List.range_succ, List.filter_append, List.map_append]
  simp [h]
theorem all_len (s : Int) (k : Nat) : (allN s k).length ≤ k := by
  unfold allN
  rw [List.length_map]
  exact Nat.le_trans (List.length_filter_le _ _) (by simp)

theorem all_mem (s c : Int) : c ∈ allN s 16 ↔ isC c ∧ bitV s c.toNat = true := by
  simp only [allN, List.mem_map, List.mem_filter, List.mem_range]
  constructor
  · rintro ⟨k, ⟨hk, hb⟩, rfl⟩
    exact ⟨isC_nat hk, by simpa using hb⟩
  · rintro ⟨h, hb⟩
    obtain ⟨k, hk, rfl⟩ := isC_of h
    exact ⟨k, ⟨hk, by simpa using hb⟩, rfl⟩

theorem all_in (s c : Int) : inV s c = decide (c ∈ allN s 16) := by
  unfold inV
  rw [Bool.eq_iff_iff, Bool.and_eq_true, decide_eq_true_eq, decide_eq_true_eq, all_mem]

/-- The number's lowest 64 bits have the same lowest sixteen ones. -/
theorem bit_low (s : Int) : ∀ k, k < 16 → bitV s k = (s % 18446744073709551616 / 2 ^ k % 2 == 1) := by
  intro k hk
  unfold bitV
  have : k = 0 ∨ k = 1 ∨ k = 2 ∨ k = 3 ∨ k = 4 ∨ k = 5 ∨ k = 6 ∨ k = 7 ∨ k = 8 ∨ k = 9 ∨ k = 10 ∨ k = 11 ∨ k = 12 ∨ k = 13 ∨ k = 14 ∨ k = 15 := by omega
  rcases this with rfl | rfl | rfl | rfl | rfl | rfl | rfl | rfl | rfl | rfl | rfl | rfl | rfl | rfl | rfl | rfl <;> (congr 1; simp only [Int.reducePow]; omega)

end Go.Proofs.Ythiiipbfdgaemaa

/- What Right and Has of layer 2 return, for any span and any minute. Conditions: none. -/
namespace Go.Proofs.Ythiiipbfdgaemaa
open Go.RowKit

theorem right_any (f t : Int) (w : World) :
    Calls Try.prog 59 #[.agg #[.int .i64 f, .int .i64 t]] w fun e w' => e = .returned (.bool (decide (f < t))) ∧ Below w.heap.size w w' := by
  go_enter Try.func59, Try.ntmps59
  go_wp2
  go_ret
  exact ⟨rfl, (Below.refl _ _).alloc (Nat.le_refl _) _⟩

theorem refright_any (f t : Int) (w : World) :
    Calls Try.prog 61 #[.agg #[.int .i64 f, .int .i64 t]] w fun e w' => e = .returned (.bool (decide (f < t))) ∧ Below w.heap.size w w' := by
  go_enter Try.func61, Try.ntmps61
  go_wp2
  go_ret
  exact ⟨rfl, (Below.refl _ _).alloc (Nat.le_refl _) _⟩

theorem has_any (f t m : Int) (w : World) :
    Calls Try.prog 98 #[.agg #[.int .i64 f, .int .i64 t], .int .i64 m] w fun e w' => e = .returned (.bool (decide (f ≤ m) && decide (m < t))) ∧ Below w.heap.size w w' := by
  by_cases h : f ≤ m
  · go_enter Try.func98, Try.ntmps98
    go_wp2
    go_ret
    exact ⟨by simp [h], (Below.refl _ _).alloc (Nat.le_refl _) _⟩
  · have hd : decide (f ≤ m) = false := by simpa using h
    go_enter Try.func98, Try.ntmps98
    go_wp2
    go_ret
    exact ⟨by simp, (Below.refl _ _).alloc (Nat.le_refl _) _⟩

theorem refhas_any (f t m : Int) (w : World) :
    Calls Try.prog 56 #[.agg #[.int .i64 f, .int .i64 t], .int .i64 m] w fun e w' => e = .returned (.bool (decide (f ≤ m) && decide (m < t))) ∧ Below w.heap.size w w' := by
  by_cases h : f ≤ m
  · go_enter Try.func56, Try.ntmps56
    go_wp2
    go_ret
    exact ⟨by simp [h], (Below.refl _ _).alloc (Nat.le_refl _) _⟩
  · have hd : decide (f ≤ m) = false := by simpa using h
    go_enter Try.func56, Try.ntmps56
    go_wp2
    go_ret
    exact ⟨by simp, (Below.refl _ _).alloc (Nat.le_refl _) _⟩

theorem right_yes (f t : Int) (w : World) (h : f < t) :
    Calls Try.prog 59 #[.agg #[.int .i64 f, .int .i64 t]] w fun e w' => e = .returned (.bool true) ∧ Below w.heap.size w w' := by
  have := right_any f t w
  rwa [decide_eq_true h] at this

theorem right_no (f t : Int) (w : World) (h : ¬ f < t) :
    Calls Try.prog 59 #[.agg #[.int .i64 f, .int .i64 t]] w fun e w' => e = .returned (.bool false) ∧ Below w.heap.size w w' := by
  have := right_any f t w
  rwa [decide_eq_false h] at this

theorem refright_yes (f t : Int) (w : World) (h : f < t) :
    Calls Try.prog 61 #[.agg #[.int .i64 f, .int .i64 t]] w fun e w' => e = .returned (.bool true) ∧ Below w.heap.size w w' := by
  have := refright_any f t w
  rwa [decide_eq_true h] at this

theorem refright_no (f t : Int) (w : World) (h : ¬ f < t) :
    Calls Try.prog 61 #[.agg #[.int .i64 f, .int .i64 t]] w fun e w' => e = .returned (.bool false) ∧ Below w.heap.size w w' := by
  have := refright_any f t w
  rwa [decide_eq_false h] at this

theorem has_yes (f t m : Int) (w : World) (h : f ≤ m ∧ m < t) :
    Calls Try.prog 98 #[.agg #[.int .i64 f, .int .i64 t], .int .i64 m] w fun e w' => e = .returned (.bool true) ∧ Below w.heap.size w w' := by
  have := has_any f t m w
  rwa [decide_eq_true h.1, decide_eq_true h.2] at this

theorem has_no (f t m : Int) (w : World) (h : ¬ (f ≤ m ∧ m < t)) :
    Calls Try.prog 98 #[.agg #[.int .i64 f, .int .i64 t], .int .i64 m] w fun e w' => e = .returned (.bool false) ∧ Below w.heap.size w w' := by
  have := has_any f t m w
  have hd : (decide (f ≤ m) && decide (m < t)) = false := by simp; omega
  rwa [hd] at this

theorem refhas_yes (f t m : Int) (w : World) (h : f ≤ m ∧ m < t) :
    Calls Try.prog 56 #[.agg #[.int .i64 f, .int .i64 t], .int .i64 m] w fun e w' => e = .returned (.bool true) ∧ Below w.heap.size w w' := by
  have := refhas_any f t m w
  rwa [decide_eq_true h.1, decide_eq_true h.2] at this

theorem refhas_no (f t m : Int) (w : World) (h : ¬ (f ≤ m ∧ m < t)) :
    Calls Try.prog 56 #[.agg #[.int .i64 f, .int .i64 t], .int .i64 m] w fun e w' => e = .returned (.bool false) ∧ Below w.heap.size w w' := by
  have := refhas_any f t m w
  have hd : (decide (f ≤ m) && decide (m < t)) = false := by simp; omega
  rwa [hd] at this

end Go.Proofs.Ythiiipbfdgaemaa

/- What Both, Hull and Meets of layer 2 return, for any two spans. Conditions: none. -/
namespace Go.Proofs.Ythiiipbfdgaemaa
open Go.RowKit

/-- The greater and the lesser of two. -/
def up2 (a b : Int) : Int := if b ≤ a then a else b
def lo2 (a b : Int) : Int := if a ≤ b then a else b

theorem up2_l {a b : Int} (h : b ≤ a) : up2 a b = a := if_pos h
theorem up2_r {a b : Int} (h : ¬ b ≤ a) : up2 a b = b := if_neg h
theorem lo2_l {a b : Int} (h : a ≤ b) : lo2 a b = a := if_pos h
theorem lo2_r {a b : Int} (h : ¬ a ≤ b) : lo2 a b = b := if_neg h

/-- What Both and Hull tell. -/
def bothv (a0 a1 b0 b1 : Int) : Int × Int × Bool := if up2 a0 b0 < lo2 a1 b1 then (up2 a0 b0, lo2 a1 b1, true) else (0, 0, false)
def hullv (a0 a1 b0 b1 : Int) : Int × Int × Bool := if a0 < a1 ∧ b0 < b1 then (lo2 a0 b0, up2 a1 b1, true) else (0, 0, false)

end Go.Proofs.Ythiiipbfdgaemaa

/- Sets of minutes as lists of spans: plain facts on lists of pairs of numbers. Conditions: none beyond each lemma's own premises. -/
namespace Go.Proofs.Ythiiipbfdgaemaa

abbrev Sp := Int × Int

def hasS (s : Sp) (m : Int) : Bool := decide (s.1 ≤ m) && decide (m < s.2)

def hasL (l : List Sp) (m : Int) : Bool := l.any (fun s => hasS s m)

structure IsSet (l : List Sp) : Prop where
  right : ∀ s ∈ l, s.1 < s.2
  rise : l.Pairwise (fun s t => s.2 < t.1)

theorem hasS_iff {s : Sp} {m : Int} : hasS s m = true ↔ s.1 ≤ m ∧ m < s.2 := by simp [hasS]

theorem hasS_no {s : Sp} {m : Int} : hasS s m = false ↔ ¬ (s.1 ≤ m ∧ m < s.2) := by
  rw [← hasS_iff]; simp

theorem hasL_iff {l : List Sp} {m : Int} : hasL l m = true ↔ ∃ s ∈ l, s.1 ≤ m ∧ m < s.2 := by
  simp [hasL, hasS]

theorem hasL_no {l : List Sp} {m : Int} : hasL l m = false ↔ ∀ s ∈ l, ¬ (s.1 ≤ m ∧ m < s.2) := by
  constructor
  · intro h s hs hm
    have : hasL l m = true := hasL_iff.2 ⟨s, hs, hm⟩
    rw [h] at this; cases this
  · intro h
    cases hh : hasL l m with
    | false => rfl
    | true =>
      obtain ⟨s, hs, hm⟩ := hasL_iff.1 hh
      exact absurd hm (h s hs)

theorem hasL_nil (m : Int) : hasL [] m = false := rfl

theorem hasL_cons (s : Sp) (l : List Sp) (m : Int) : hasL (s :: l) m = (hasS s m || hasL l m) := rfl

theorem hasL_append (a b : List Sp) (m : Int) : hasL (a ++ b) m = (hasL a m || hasL b m) := by simp [hasL]

/-- Two lists have the same minutes. -/
theorem hasL_ext {a b : List Sp} {m n : Int} (h : hasL a m = true ↔ hasL b n = true) : hasL a m = hasL b n := by
  cases h1 : hasL a m <;> cases h2 : hasL b n <;> simp_all

theorem IsSet.nil : IsSet [] := ⟨by simp, List.Pairwise.nil⟩

theorem IsSet.tail {s : Sp} {l : List Sp} (h : IsSet (s :: l)) : IsSet l :=
  ⟨fun t ht => h.right t (List.mem_cons_of_mem _ ht), (List.pairwise_cons.1 h.rise).2⟩

theorem IsSet.head {s : Sp} {l : List Sp} (h : IsSet (s :: l)) : s.1 < s.2 := h.right s (List.mem_cons_self ..)

theorem IsSet.later {s : Sp} {l : List Sp} (h : IsSet (s :: l)) : ∀ t ∈ l, s.2 < t.1 := (List.pairwise_cons.1 h.rise).1

theorem IsSet.cons {s : Sp} {l : List Sp} (h : IsSet l) (h1 : s.1 < s.2) (h2 : ∀ t ∈ l, s.2 < t.1) : IsSet (s :: l) :=
  ⟨fun t ht => by
    rcases List.mem_cons.1 ht with rfl | ht
    · exact h1
    · exact h.right t ht, List.pairwise_cons.2 ⟨h2, h.rise⟩⟩

theorem IsSet.snoc {s : Sp} {l : List Sp} (h : IsSet l) (h1 : s.1 < s.2) (h2 : ∀ t ∈ l, t.2 < s.1) : IsSet (l ++ [s]) :=
  ⟨fun t ht => by
    rcases List.mem_append.1 ht with ht | ht
    · exact h.right t ht
    · rw [List.mem_singleton.1 ht]; exact h1, List.pairwise_append.2 ⟨h.rise, List.pairwise_singleton _ _, fun a ha b hb => by
      rw [List.mem_singleton.1 hb]; exact h2 a ha⟩⟩

theorem IsSet.init {s : Sp} {l : List Sp} (h : IsSet (l ++ [s])) : IsSet l ∧ s.1 < s.2 ∧ ∀ t ∈ l, t.2 < s.1 := by
  refine ⟨⟨fun t ht => h.right t (List.mem_append_left _ ht), (List.pairwise_append.1 h.rise).1⟩, h.right s (by simp), fun t ht => (List.pairwise_append.1 h.rise).2.2 t ht s (by simp)⟩

/-- Of each list there is one set with its minutes. -/
theorem set_unique : ∀ {a b : List Sp}, IsSet a → IsSet b → (∀ m, hasL a m = hasL b m) → a = b
  | [], [], _, _, _ => rfl
  | [], t :: b, _, hb, h => by
    have h1 := h t.1
    have : hasL (t :: b) t.1 = true := hasL_iff.2 ⟨t, List.mem_cons_self .., by have := hb.head; omega⟩
    rw [this] at h1; cases h1
  | s :: a, [], ha, _, h => by
    have h1 := h s.1
    have : hasL (s :: a) s.1 = true := hasL_iff.2 ⟨s, List.mem_cons_self .., by have := ha.head; omega⟩
    rw [this] at h1; cases h1
  | s :: a, t :: b, ha, hb, h => by
    have hs := ha.head
    have ht := hb.head
    have la := ha.later
    have lb := hb.later
    have e1 : s.1 = t.1 := by
      have h1 : hasL (t :: b) s.1 = true := by rw [← h]; exact hasL_iff.2 ⟨s, List.mem_cons_self .., by omega⟩
      have h2 : hasL (s :: a) t.1 = true := by rw [h]; exact hasL_iff.2 ⟨t, List.mem_cons_self .., by omega⟩
      obtain ⟨x, hx, hx1, hx2⟩ := hasL_iff.1 h1
      obtain ⟨y, hy, hy1, hy2⟩ := hasL_iff.1 h2
      have c1 : t.1 ≤ s.1 := by
        rcases List.mem_cons.1 hx with rfl | hx
        · exact hx1
        · have := lb x hx; omega
      have c2 : s.1 ≤ t.1 := by
        rcases List.mem_cons.1 hy with rfl | hy
        · exact hy1
        · have := la y hy; omega
      omega
    have e2 : s.2 = t.2 := by
      rcases Int.lt_trichotomy s.2 t.2 with hlt | he | hgt
      · have h1 : hasL (s :: a) s.2 = true := by rw [h]; exact hasL_iff.2 ⟨t, List.mem_cons_self .., by omega⟩
        obtain ⟨x, hx, hx1, hx2⟩ := hasL_iff.1 h1
        rcases List.mem_cons.1 hx with rfl | hx
        · omega
        · have := la x hx; omega
      · exact he
      · have h1 : hasL (t :: b) t.2 = true := by rw [← h]; exact hasL_iff.2 ⟨s, List.mem_cons_self .., by omega⟩
        obtain ⟨x, hx, hx1, hx2⟩ := hasL_iff.1 h1
        rcases List.mem_cons.1 hx with rfl | hx
        · omega
        · have := lb x hx; omega
    have e : s = t := Prod.ext e1 e2
    subst e
    congr 1
    refine set_unique ha.tail hb.tail fun m => ?_
    have hm := h m
    rw [hasL_cons, hasL_cons] at hm
    cases hsm : hasS s m with
    | false => simpa [hsm] using hm
    | true =>
      have hh := hasS_iff.1 hsm
      rw [hasL_no.2 fun x hx hxm => by have := la x hx; omega, hasL_no.2 fun x hx hxm => by have := lb x hx; omega]

/-- What Right asks at place k. -/
def okAt (l : List Sp) (k : Nat) : Bool := decide ((l.getD k (0, 0)).1 < (l.getD k (0, 0)).2) && (decide (k = 0) || decide ((l.getD (k - 1) (0, 0)).2 < (l.getD k (0, 0)).1))

def rightB (l : List Sp) : Bool := (List.range l.length).all (okAt l)

theorem rightB_iff (l : List Sp) : rightB l = true ↔ IsSet l := by
  constructor
  · intro h
    have hk : ∀ k, k < l.length → okAt l k = true := fun k hk => by
      have := List.all_eq_true.1 h k (List.mem_range.2 hk); simpa using this
    have hr : ∀ k (hk : k < l.length), l[k].1 < l[k].2 := fun k hkl => by
      have := hk k hkl
      simp [okAt, List.getD, hkl] at this
      exact this.1
    have hs : ∀ k (h0 : 0 < k) (hk : k < l.length), l[k - 1].2 < l[k].1 := fun k h0 hkl => by
      have := hk k hkl
      have h1 : k - 1 < l.length := by omega
      simp [okAt, List.getD, hkl, h1] at this
      rcases this.2 with h2 | h2
      · omega
      · exact h2
    refine ⟨fun s hs' => ?_, ?_⟩
    · obtain ⟨k, hkl, rfl⟩ := List.mem_iff_getElem.1 hs'
      exact hr k hkl
    · rw [List.pairwise_iff_getElem]
      have key : ∀ (d i : Nat) (hj : i + d + 1 < l.length), (l[i]'(by omega)).2 < l[i + d + 1].1 := by
        intro d
        induction d with
        | zero => intro i hj; exact hs (i + 1) (by omega) hj
        | succ d ih =>
          intro i hj
          have h1 := ih i (by omega)
          have h2 := hr (i + d + 1) (by omega)
          have h3 := hs (i + d + 1 + 1) (by omega) hj
          have h4 : (l[i + d + 1 + 1 - 1]'(by omega)) = l[i + d + 1] := rfl
          rw [h4] at h3
          have h5 : i + (d + 1) + 1 = i + d + 1 + 1 := by omega
          simp only [h5]
          omega
      intro i j hi hj hij
      obtain ⟨d, rfl⟩ : ∃ d, j = i + d + 1 := ⟨j - i - 1, by omega⟩
      exact key d i hj
  · intro h
    refine List.all_eq_true.2 fun k hk => ?_
    have hk := List.mem_range.1 hk
    have h1 := h.right l[k] (List.getElem_mem hk)
    simp only [okAt, List.getD, hk, List.getElem?_eq_getElem, Option.getD_some, h1, decide_true, Bool.true_and, Bool.or_eq_true, decide_eq_true_eq]
    by_cases h0 : k = 0
    · exact Or.inl h0
    · refine Or.inr ?_
      have h2 : k - 1 < l.length := by omega
      have := List.pairwise_iff_getElem.1 h.rise (k - 1) k h2 hk (by omega)
      simpa [h2] using this

theorem rightB_no {l : List Sp} {k : Nat} (hk : k < l.length) (h : okAt l k = false) : rightB l = false := by
  cases hh : rightB l with
  | false => rfl
  | true =>
    have := List.all_eq_true.1 hh k (List.mem_range.2 hk)
    rw [h] at this; cases this

theorem rightB_yes {l : List Sp} (h : ∀ k, k < l.length → okAt l k = true) : rightB l = true :=
  List.all_eq_true.2 fun k hk => h k (List.mem_range.1 hk)

/-- Those that are right. -/
def onlyR (l : List Sp) : List Sp := l.filter fun s => decide (s.1 < s.2)

theorem hasL_onlyR (l : List Sp) (m : Int) : hasL (onlyR l) m = hasL l m := by
  refine hasL_ext ⟨fun h => ?_, fun h => ?_⟩
  · obtain ⟨s, hs, hm⟩ := hasL_iff.1 h
    exact hasL_iff.2 ⟨s, (List.mem_filter.1 hs).1, hm⟩
  · obtain ⟨s, hs, hm⟩ := hasL_iff.1 h
    exact hasL_iff.2 ⟨s, List.mem_filter.2 ⟨hs, by simp; omega⟩, hm⟩

theorem hasL_perm {a b : List Sp} (h : a.Perm b) (m : Int) : hasL a m = hasL b m := by
  refine hasL_ext ⟨fun hh => ?_, fun hh => ?_⟩
  · obtain ⟨s, hs, hm⟩ := hasL_iff.1 hh
    exact hasL_iff.2 ⟨s, h.mem_iff.1 hs, hm⟩
  · obtain ⟨s, hs, hm⟩ := hasL_iff.1 hh
    exact hasL_iff.2 ⟨s, h.mem_iff.2 hs, hm⟩

/-- One span more, put to a set whose last one begins no later. -/
def put1 (set : List Sp) (s : Sp) : List Sp :=
  match set.getLast? with
  | some t => if s.1 ≤ t.2 then set.dropLast ++ [(t.1, if s.2 ≤ t.2 then t.2 else s.2)] else set ++ [s]
  | none => [s]

def putAll (l : List Sp) : List Sp := l.foldl put1 []

theorem put1_nil (s : Sp) : put1 [] s = [s] := rfl

theorem put1_join (a : List Sp) (t s : Sp) (h : s.1 ≤ t.2) : put1 (a ++ [t]) s = a ++ [(t.1, if s.2 ≤ t.2 then t.2 else s.2)] := by
  simp [put1, h]

theorem put1_new (a : List Sp) (t s : Sp) (h : ¬ s.1 ≤ t.2) : put1 (a ++ [t]) s = a ++ [t] ++ [s] := by
  simp [put1, h]

theorem put1_len (set : List Sp) (s : Sp) : (put1 set s).length ≤ set.length + 1 := by
  rcases List.eq_nil_or_concat set with rfl | ⟨a, t, rfl⟩
  · simp [put1_nil]
  · by_cases h : s.1 ≤ t.2
    · simp [List.concat_eq_append, put1_join a t s h]
    · simp [List.concat_eq_append, put1_new a t s h]

theorem put1_ok {set : List Sp} {s : Sp} (h : IsSet set) (hs : s.1 < s.2) (hb : ∀ t ∈ set, t.1 ≤ s.1) :
    IsSet (put1 set s) ∧ (∀ m, hasL (put1 set s) m = (hasL set m || hasS s m)) ∧ (∀ t ∈ put1 set s, t.1 ≤ s.1) := by
  rcases List.eq_nil_or_concat set with rfl | ⟨a, t, rfl⟩
  · rw [put1_nil]
    exact ⟨IsSet.nil.cons hs (by simp), fun m => by simp [hasL], by simp⟩
  · rw [List.concat_eq_append] at *
    have hi := h.init
    have ht1 : t.1 ≤ s.1 := hb t (by simp)
    by_cases c : s.1 ≤ t.2
    · rw [put1_join a t s c]
      refine ⟨hi.1.snoc (s := (t.1, if s.2 ≤ t.2 then t.2 else s.2)) ?_ hi.2.2, fun m => ?_, fun u hu => ?_⟩
      · show t.1 < if s.2 ≤ t.2 then t.2 else s.2
        split <;> omega
      · rw [hasL_append, hasL_append, Bool.or_assoc]
        congr 1
        simp only [hasL, List.any_cons, List.any_nil, Bool.or_false]
        rw [Bool.eq_iff_iff, Bool.or_eq_true, hasS_iff, hasS_iff, hasS_iff]
        show (t.1 ≤ m ∧ m < if s.2 ≤ t.2 then t.2 else s.2) ↔ _
        split <;> omega
      · rcases List.mem_append.1 hu with hu | hu
        · exact hb u (by simp [hu])
        · rw [List.mem_singleton.1 hu]; exact ht1
    · rw [put1_new a t s c]
      refine ⟨h.snoc hs fun u hu => ?_, fun m => ?_, fun u hu => ?_⟩
      · rcases List.mem_append.1 hu with hu | hu
        · have := hi.2.2 u hu; omega
        · rw [List.mem_singleton.1 hu]; omega
      · rw [hasL_append (a ++ [t])]
        simp [hasL]
      · rcases List.mem_append.1 hu with hu | hu
        · exact hb u hu
        · rw [List.mem_singleton.1 hu]; exact Int.le_refl _

theorem putAll_from : ∀ (l set : List Sp), IsSet set → (∀ s ∈ l, s.1 < s.2) → l.Pairwise (fun s t => s.1 ≤ t.1) → (∀ t ∈ set, ∀ s ∈ l, t.1 ≤ s.1) →
    IsSet (l.foldl put1 set) ∧ ∀ m, hasL (l.foldl put1 set) m = (hasL set m || hasL l m)
  | [], set, h, _, _, _ => ⟨h, fun m => by simp [hasL]⟩
  | s :: l, set, h, hr, hp, hb => by
    have hp' := List.pairwise_cons.1 hp
    have h1 := put1_ok h (hr s (List.mem_cons_self ..)) (fun t ht => hb t ht s (List.mem_cons_self ..))
    have h2 := putAll_from l (put1 set s) h1.1 (fun u hu => hr u (List.mem_cons_of_mem _ hu)) hp'.2 (fun t ht u hu => Int.le_trans (h1.2.2 t ht) (hp'.1 u hu))
    refine ⟨h2.1, fun m => ?_⟩
    rw [List.foldl_cons, h2.2, h1.2.1, hasL_cons, Bool.or_assoc]

theorem putAll_ok {l d : List Sp} (hp : d.Perm (onlyR l)) (hs : d.Pairwise (fun s t => s.1 ≤ t.1)) : IsSet (putAll d) ∧ ∀ m, hasL (putAll d) m = hasL l m := by
  have h := putAll_from d [] IsSet.nil (fun s h => by
    have := (List.mem_filter.1 (hp.mem_iff.1 h)).2
    simpa using this) hs (by simp)
  exact ⟨h.1, fun m => by rw [putAll, h.2, hasL_nil, Bool.false_or, hasL_perm hp, hasL_onlyR]⟩

end Go.Proofs.Ythiiipbfdgaemaa

/- A span's two cells, as the library's contracts of slices ask for them. Conditions: none. -/
namespace Go.Proofs.Ythiiipbfdgaemaa

def encS (s : Sp) : List Value := [.int .i64 s.1, .int .i64 s.2]

end Go.Proofs.Ythiiipbfdgaemaa

/- Sets of minutes: the set of a list, what two sets have in common, what is free between, and the reference's way to the set. Conditions: none beyond each lemma's own premises. -/
namespace Go.Proofs.Ythiiipbfdgaemaa

/-- The set of a list. -/
def setOf (l : List Sp) : List Sp := putAll ((onlyR l).mergeSort fun a b => decide (a.1 ≤ b.1))

theorem setOf_ok (l : List Sp) : IsSet (setOf l) ∧ ∀ m, hasL (setOf l) m = hasL l m := by
  refine putAll_ok (List.mergeSort_perm _ _) ?_
  have h := List.pairwise_mergeSort (le := fun (a b : Sp) => decide (a.1 ≤ b.1)) (fun a b c h1 h2 => by simp at *; omega) (fun a b => by simp; omega) (onlyR l)
  exact h.imp fun {a b} hab => by simpa using hab

theorem set_is {x l : List Sp} (h : IsSet x) (hm : ∀ m, hasL x m = hasL l m) : x = setOf l :=
  set_unique h (setOf_ok l).1 fun m => by rw [hm, (setOf_ok l).2]

theorem putAll_is {l d : List Sp} (hp : d.Perm (onlyR l)) (hs : d.Pairwise (fun s t => s.1 ≤ t.1)) : putAll d = setOf l :=
  set_is (putAll_ok hp hs).1 (putAll_ok hp hs).2

theorem setOf_set {l : List Sp} (h : IsSet l) : setOf l = l := (set_is h fun _ => rfl).symm

theorem setOf_congr {a b : List Sp} (h : ∀ m, hasL a m = hasL b m) : setOf a = setOf b :=
  set_is (setOf_ok a).1 fun m => by rw [(setOf_ok a).2, h]

theorem foldl_put1_len : ∀ (l set : List Sp), (l.foldl put1 set).length ≤ set.length + l.length
  | [], set => by simp
  | s :: l, set => by
    have h1 := foldl_put1_len l (put1 set s)
    have h2 := put1_len set s
    simp only [List.foldl_cons, List.length_cons]
    omega

theorem onlyR_len (l : List Sp) : (onlyR l).length ≤ l.length := List.length_filter_le _ _

theorem setOf_len (l : List Sp) : (setOf l).length ≤ l.length := by
  have h := foldl_put1_len ((onlyR l).mergeSort fun a b => decide (a.1 ≤ b.1)) []
  have h2 := onlyR_len l
  have h3 : ((onlyR l).mergeSort fun a b => decide (a.1 ≤ b.1)).length = (onlyR l).length := (List.mergeSort_perm _ _).length_eq
  unfold setOf putAll
  simp only [List.length_nil] at h
  omega

theorem no_minutes {l : List Sp} (h : IsSet l) (hm : ∀ m, hasL l m = false) : l = [] :=
  set_unique h IsSet.nil fun m => by rw [hm, hasL_nil]

/-- The greater, and the lesser. -/
def mx (a b : Int) : Int := if b ≤ a then a else b

def mn (a b : Int) : Int := if a ≤ b then a else b

theorem mx_le {a b c : Int} : mx a b ≤ c ↔ a ≤ c ∧ b ≤ c := by unfold mx; split <;> omega

theorem lt_mn {a b c : Int} : c < mn a b ↔ c < a ∧ c < b := by unfold mn; split <;> omega

theorem mx_ge (a b : Int) : a ≤ mx a b ∧ b ≤ mx a b := by unfold mx; split <;> omega

theorem mn_le (a b : Int) : mn a b ≤ a ∧ mn a b ≤ b := by unfold mn; split <;> omega

theorem snoc_ind {P : List Sp → Prop} (nil : P []) (snoc : ∀ l s, P l → P (l ++ [s])) (l : List Sp) : P l := by
  have h : ∀ r : List Sp, P r.reverse := by
    intro r
    induction r with
    | nil => exact nil
    | cons s r ih => rw [List.reverse_cons]; exact snoc _ _ ih
  simpa using h l.reverse

/-- What both have: of the first ones what they have in common, and whichever ends first goes. -/
def bothL (a b : List Sp) : List Sp :=
  match a, b with
  | s :: a, t :: b =>
    (if (mx s.1 t.1) < (mn s.2 t.2) then [((mx s.1 t.1), (mn s.2 t.2))] else []) ++
      (if s.2 < t.2 then bothL a (t :: b) else bothL (s :: a) b)
  | _, _ => []
termination_by a.length + b.length

/-- What the first ones have in common. -/
def both1 (s t : Sp) : List Sp := if (mx s.1 t.1) < (mn s.2 t.2) then [((mx s.1 t.1), (mn s.2 t.2))] else []

theorem bothL_nil_l (b : List Sp) : bothL [] b = [] := by unfold bothL; rfl

theorem bothL_nil_r (a : List Sp) : bothL a [] = [] := by
  cases a <;> (unfold bothL; rfl)

theorem bothL_lt (s t : Sp) (a b : List Sp) (h : s.2 < t.2) : bothL (s :: a) (t :: b) = both1 s t ++ bothL a (t :: b) := by
  rw [bothL, if_pos h]; rfl

theorem bothL_ge (s t : Sp) (a b : List Sp) (h : ¬ s.2 < t.2) : bothL (s :: a) (t :: b) = both1 s t ++ bothL (s :: a) b := by
  rw [bothL, if_neg h]; rfl

theorem both1_mem {s t x : Sp} (h : x ∈ both1 s t) : s.1 ≤ x.1 ∧ t.1 ≤ x.1 ∧ x.1 < x.2 ∧ x.2 ≤ s.2 ∧ x.2 ≤ t.2 := by
  unfold both1 at h
  split at h
  · rename_i hlt
    rw [List.mem_singleton.1 h]
    have h1 := mx_ge s.1 t.1
    have h2 := mn_le s.2 t.2
    exact ⟨h1.1, h1.2, hlt, h2.1, h2.2⟩
  · cases h

theorem both1_has (s t : Sp) (m : Int) : hasL (both1 s t) m = (hasS s m && hasS t m) := by
  unfold both1
  split
  · rw [Bool.eq_iff_iff, Bool.and_eq_true, hasS_iff, hasS_iff, hasL_iff]
    simp only [List.mem_singleton, exists_eq_left, mx_le, lt_mn]
    omega
  · rename_i h
    rw [hasL_nil, Bool.eq_iff_iff, Bool.and_eq_true, hasS_iff, hasS_iff]
    simp only [Bool.false_eq_true, false_iff]
    intro hh
    exact h (Int.lt_of_le_of_lt (mx_le.2 ⟨hh.1.1, hh.2.1⟩) (lt_mn.2 ⟨hh.1.2, hh.2.2⟩))

theorem bothL_from (c : Int) : ∀ (n : Nat) (a b : List Sp), a.length + b.length ≤ n → ((∀ s ∈ a, c < s.1) ∨ (∀ s ∈ b, c < s.1)) → ∀ x ∈ bothL a b, c < x.1
  | n, [], b, _, _, x, hx => by rw [bothL_nil_l] at hx; cases hx
  | n, s :: a, [], _, _, x, hx => by rw [bothL_nil_r] at hx; cases hx
  | 0, s :: a, t :: b, hn, _, _, _ => by simp at hn
  | n + 1, s :: a, t :: b, hn, hc, x, hx => by
    simp only [List.length_cons] at hn
    have h1 : ∀ x ∈ both1 s t, c < x.1 := fun x hx => by
      have := both1_mem hx
      rcases hc with hc | hc
      · have := hc s (List.mem_cons_self ..); omega
      · have := hc t (List.mem_cons_self ..); omega
    by_cases h : s.2 < t.2
    · rw [bothL_lt s t a b h] at hx
      rcases List.mem_append.1 hx with hx | hx
      · exact h1 x hx
      · exact bothL_from c n a (t :: b) (by simp only [List.length_cons]; omega) (hc.imp (fun g u hu => g u (List.mem_cons_of_mem _ hu)) id) x hx
    · rw [bothL_ge s t a b h] at hx
      rcases List.mem_append.1 hx with hx | hx
      · exact h1 x hx
      · exact bothL_from c n (s :: a) b (by simp only [List.length_cons]; omega) (hc.imp id (fun g u hu => g u (List.mem_cons_of_mem _ hu))) x hx

theorem both1_cons {s t : Sp} {l : List Sp} (h : IsSet l) (hl : ∀ x ∈ l, s.2 < x.1 ∨ t.2 < x.1) : IsSet (both1 s t ++ l) := by
  cases hb : both1 s t with
  | nil => exact h
  | cons x r =>
    have hr : r = [] := by
      unfold both1 at hb
      split at hb
      · simp at hb; exact hb.2
      · cases hb
    subst hr
    have hm := both1_mem (s := s) (t := t) (x := x) (by rw [hb]; simp)
    exact h.cons (by omega) fun u hu => by have := hl u hu; omega

theorem bothL_ok : ∀ (n : Nat) (a b : List Sp), a.length + b.length ≤ n → IsSet a → IsSet b → IsSet (bothL a b) ∧ ∀ m, hasL (bothL a b) m = (hasL a m && hasL b m)
  | n, [], b, _, _, _ => by rw [bothL_nil_l]; exact ⟨IsSet.nil, fun m => by simp [hasL]⟩
  | n, s :: a, [], _, _, _ => by rw [bothL_nil_r]; exact ⟨IsSet.nil, fun m => by simp [hasL]⟩
  | 0, s :: a, t :: b, hn, _, _ => by simp at hn
  | n + 1, s :: a, t :: b, hn, ha, hb => by
    simp only [List.length_cons] at hn
    by_cases h : s.2 < t.2
    · have ih := bothL_ok n a (t :: b) (by simp only [List.length_cons]; omega) ha.tail hb
      rw [bothL_lt s t a b h]
      refine ⟨both1_cons ih.1 fun x hx => Or.inl (bothL_from s.2 _ a (t :: b) (Nat.le_refl _) (Or.inl ha.later) x hx), fun m => ?_⟩
      rw [hasL_append, both1_has, ih.2, hasL_cons, hasL_cons]
      cases h1 : hasS s m
      · simp
      · have hs := hasS_iff.1 h1
        have hb0 : hasL b m = false := hasL_no.2 fun x hx hm => by have := hb.later x hx; omega
        have ha0 : hasL a m = false := hasL_no.2 fun x hx hm => by have := ha.later x hx; omega
        simp [hb0, ha0]
    · have ih := bothL_ok n (s :: a) b (by simp only [List.length_cons]; omega) ha hb.tail
      rw [bothL_ge s t a b h]
      refine ⟨both1_cons ih.1 fun x hx => Or.inr (bothL_from t.2 _ (s :: a) b (Nat.le_refl _) (Or.inr hb.later) x hx), fun m => ?_⟩
      rw [hasL_append, both1_has, ih.2, hasL_cons, hasL_cons]
      cases h1 : hasS t m
      · simp
      · have hs := hasS_iff.1 h1
        have hb0 : hasL b m = false := hasL_no.2 fun x hx hm => by have := hb.later x hx; omega
        have ha0 : hasL a m = false := hasL_no.2 fun x hx hm => by have := ha.later x hx; omega
        simp [hb0, ha0]

/-- The set of what both lists have. -/
def bothOf (a b : List Sp) : List Sp := bothL (setOf a) (setOf b)

theorem bothOf_ok (a b : List Sp) : IsSet (bothOf a b) ∧ ∀ m, hasL (bothOf a b) m = (hasL a m && hasL b m) := by
  have h := bothL_ok _ (setOf a) (setOf b) (Nat.le_refl _) (setOf_ok a).1 (setOf_ok b).1
  exact ⟨h.1, fun m => by rw [bothOf, h.2, (setOf_ok a).2, (setOf_ok b).2]⟩

theorem both1_len (s t : Sp) : (both1 s t).length ≤ 1 := by
  unfold both1; split <;> simp

theorem bothL_len : ∀ (n : Nat) (a b : List Sp), a.length + b.length ≤ n → (bothL a b).length ≤ a.length + b.length
  | n, [], b, _ => by rw [bothL_nil_l]; simp
  | n, s :: a, [], _ => by rw [bothL_nil_r]; simp
  | 0, s :: a, t :: b, hn => by simp at hn
  | n + 1, s :: a, t :: b, hn => by
    simp only [List.length_cons] at hn
    have h1 := both1_len s t
    by_cases h : s.2 < t.2
    · have ih := bothL_len n a (t :: b) (by simp only [List.length_cons]; omega)
      rw [bothL_lt s t a b h, List.length_append]
      simp only [List.length_cons] at *
      omega
    · have ih := bothL_len n (s :: a) b (by simp only [List.length_cons]; omega)
      rw [bothL_ge s t a b h, List.length_append]
      simp only [List.length_cons] at *
      omega

theorem bothOf_len (a b : List Sp) : (bothOf a b).length ≤ a.length + b.length := by
  have h := bothL_len _ (setOf a) (setOf b) (Nat.le_refl _)
  have h1 := setOf_len a
  have h2 := setOf_len b
  unfold bothOf
  omega

/-- What is free ahead of each, and where the last one ends. -/
def gap1 (g : List Sp × Int) (s : Sp) : List Sp × Int := (g.1 ++ [(g.2, s.1)], s.2)

def gapTo (lo : Int) (l : List Sp) : List Sp × Int := l.foldl gap1 ([], lo)

theorem gapTo_nil (lo : Int) : gapTo lo [] = ([], lo) := rfl

theorem gapTo_snoc (lo : Int) (l : List Sp) (s : Sp) : gapTo lo (l ++ [s]) = gap1 (gapTo lo l) s := by
  unfold gapTo; rw [List.foldl_append]; rfl

theorem gapTo_len (lo : Int) (l : List Sp) : (gapTo lo l).1.length = l.length := by
  induction l using snoc_ind with
  | nil => rfl
  | snoc l s ih => rw [gapTo_snoc]; simp [gap1, ih]

def gapsOf (lo hi : Int) (b : List Sp) : List Sp := (gapTo lo (setOf b)).1 ++ [((gapTo lo (setOf b)).2, hi)]

theorem gapTo_ok (lo : Int) (l : List Sp) : IsSet l → (∀ s ∈ l, lo ≤ s.1) →
    lo ≤ (gapTo lo l).2 ∧ (∀ s ∈ l, s.2 ≤ (gapTo lo l).2) ∧ ∀ m, lo ≤ m → m < (gapTo lo l).2 → hasL (gapTo lo l).1 m = !hasL l m := by
  induction l using snoc_ind with
  | nil => intro _ _; exact ⟨Int.le_refl _, by simp, fun m h1 h2 => by simp [gapTo] at h2; omega⟩
  | snoc l s ih =>
    intro h hlo
    have hi := h.init
    have ih := ih hi.1 fun u hu => hlo u (List.mem_append_left _ hu)
    have hs : lo ≤ s.1 := hlo s (by simp)
    have hg : (gapTo lo l).2 ≤ s.1 := by
      rcases List.eq_nil_or_concat l with rfl | ⟨l0, t, rfl⟩
      · exact hs
      · rw [List.concat_eq_append, gapTo_snoc] at *
        have := hi.2.2 t (by simp)
        show t.2 ≤ s.1
        omega
    rw [gapTo_snoc]
    refine ⟨by show lo ≤ s.2; omega, fun u hu => ?_, fun m h1 h2 => ?_⟩
    · show u.2 ≤ s.2
      rcases List.mem_append.1 hu with hu | hu
      · have := hi.2.2 u hu; omega
      · rw [List.mem_singleton.1 hu]; exact Int.le_refl _
    · have h2 : m < s.2 := h2
      show hasL ((gapTo lo l).1 ++ [((gapTo lo l).2, s.1)]) m = _
      rw [hasL_append, hasL_append]
      by_cases c : m < (gapTo lo l).2
      · rw [ih.2.2 m h1 c]
        have e1 : hasL [((gapTo lo l).2, s.1)] m = false := hasL_no.2 fun x hx hm => by
          rw [List.mem_singleton.1 hx] at hm; simp only at hm; omega
        have e2 : hasL [s] m = false := hasL_no.2 fun x hx hm => by
          rw [List.mem_singleton.1 hx] at hm; omega
        rw [e1, e2]; simp
      · have e0 : hasL l m = false := hasL_no.2 fun x hx hm => by have := ih.2.1 x hx; omega
        have e1 : hasL (gapTo lo l).1 m = false := by
          have key : ∀ (l : List Sp), IsSet l → (∀ s ∈ l, lo ≤ s.1) → ∀ x ∈ (gapTo lo l).1, x.2 ≤ (gapTo lo l).2 := by
            intro l
            induction l using snoc_ind with
            | nil => intro _ _ x hx; cases hx
            | snoc l s ih =>
              intro h hlo x hx
              have hi := h.init
              rw [gapTo_snoc] at hx ⊢
              show x.2 ≤ s.2
              rcases List.mem_append.1 hx with hx | hx
              · have h1 := ih hi.1 (fun u hu => hlo u (List.mem_append_left _ hu)) x hx
                have h2 : (gapTo lo l).2 ≤ s.1 := by
                  rcases List.eq_nil_or_concat l with rfl | ⟨l0, t, rfl⟩
                  · exact hlo s (by simp)
                  · rw [List.concat_eq_append, gapTo_snoc] at *
                    have := hi.2.2 t (by simp)
                    show t.2 ≤ s.1
                    omega
                omega
              · rw [List.mem_singleton.1 hx]
                have := hi.2.1
                show s.1 ≤ s.2
                omega
          exact hasL_no.2 fun x hx hm => by have := key l hi.1 (fun u hu => hlo u (List.mem_append_left _ hu)) x hx; omega
        rw [e0, e1, Bool.false_or, Bool.false_or]
        simp only [hasL, List.any_cons, List.any_nil, Bool.or_false]
        rw [Bool.eq_iff_iff, Bool.not_eq_true', hasS_iff, hasS_no]
        show _ ↔ _
        simp only
        omega

theorem gapsOf_has (lo hi : Int) (b : List Sp) (h1 : ∀ s ∈ setOf b, lo ≤ s.1) (m : Int) (hm : lo ≤ m) (hm2 : m < hi) : hasL (gapsOf lo hi b) m = !hasL b m := by
  have h := gapTo_ok lo (setOf b) (setOf_ok b).1 h1
  unfold gapsOf
  rw [hasL_append, ← (setOf_ok b).2]
  by_cases c : m < (gapTo lo (setOf b)).2
  · rw [h.2.2 m hm c, hasL_no (l := [((gapTo lo (setOf b)).2, hi)]) |>.2 fun x hx hm => by rw [List.mem_singleton.1 hx] at hm; simp only at hm; omega, Bool.or_false]
  · rw [hasL_iff.2 ⟨_, List.mem_singleton.2 rfl, by simp only; omega⟩, Bool.or_true, hasL_no.2 fun x hx hm => by have := h.2.1 x hx; omega]
    rfl

theorem gapsOf_len (lo hi : Int) (b : List Sp) : (gapsOf lo hi b).length ≤ b.length + 1 := by
  have h := setOf_len b
  unfold gapsOf
  rw [List.length_append, gapTo_len]
  simp; omega

/-- All are numbers of 64 bits. -/
def Bd (l : List Sp) : Prop := ∀ s ∈ l, (-9223372036854775808 ≤ s.1 ∧ s.1 ≤ 9223372036854775807) ∧ (-9223372036854775808 ≤ s.2 ∧ s.2 ≤ 9223372036854775807)

theorem setOf_lo {l : List Sp} {lo : Int} (h : ∀ s ∈ l, lo ≤ s.1) : ∀ s ∈ setOf l, lo ≤ s.1 := fun s hs => by
  have h0 := setOf_ok l
  have h1 : hasL (setOf l) s.1 = true := hasL_iff.2 ⟨s, hs, by have := h0.1.right s hs; omega⟩
  rw [h0.2] at h1
  obtain ⟨t, ht, hm⟩ := hasL_iff.1 h1
  have := h t ht
  omega

/-- The set of what a has and b has not. -/
def minusOf (a b : List Sp) : List Sp := bothOf a (gapsOf (-9223372036854775808) 9223372036854775807 b)

theorem minusOf_ok {a b : List Sp} (ha : Bd a) (hb : Bd b) : IsSet (minusOf a b) ∧ ∀ m, hasL (minusOf a b) m = (hasL a m && !hasL b m) := by
  have h := bothOf_ok a (gapsOf (-9223372036854775808) 9223372036854775807 b)
  refine ⟨h.1, fun m => ?_⟩
  rw [minusOf, h.2]
  cases hm : hasL a m with
  | false => rfl
  | true =>
    obtain ⟨s, hs, h1, h2⟩ := hasL_iff.1 hm
    have := ha s hs
    rw [gapsOf_has _ _ _ (setOf_lo fun t ht => (hb t ht).1.1) m (by omega) (by omega)]

theorem minusOf_len (a b : List Sp) : (minusOf a b).length ≤ a.length + b.length + 1 := by
  have h := bothOf_len a (gapsOf (-9223372036854775808) 9223372036854775807 b)
  have h2 := gapsOf_len (-9223372036854775808) 9223372036854775807 b
  unfold minusOf
  omega

/-- What both have, and what one has alone, are together that one. -/
theorem parts {a b : List Sp} (ha : Bd a) (hb : Bd b) : setOf (bothOf a b ++ minusOf a b) = setOf a :=
  setOf_congr fun m => by
    rw [hasL_append, (bothOf_ok a b).2, (minusOf_ok ha hb).2]
    cases hasL a m <;> cases hasL b m <;> rfl

theorem minus_self {a : List Sp} (ha : Bd a) : minusOf a a = [] :=
  no_minutes (minusOf_ok ha ha).1 fun m => by rw [(minusOf_ok ha ha).2]; cases hasL a m <;> rfl

theorem both_self (a : List Sp) : bothOf a a = setOf a :=
  set_is (bothOf_ok a a).1 fun m => by rw [(bothOf_ok a a).2]; cases hasL a m <;> rfl

/-- The next minute: one span more. -/
def next1 (m : Int) (acc : Int × Bool) (s : Sp) : Int × Bool :=
  if s.1 < s.2 ∧ m < s.2 then
    (if acc.2 = false ∨ (if s.1 < m then m else s.1) < acc.1 then ((if s.1 < m then m else s.1), true) else acc)
  else acc

def nextL (l : List Sp) (m : Int) : Int × Bool := l.foldl (next1 m) (0, false)

end Go.Proofs.Ythiiipbfdgaemaa

/- The reference's way to the set of a list: from one begin to the next, as far as the minutes go on. Conditions: none beyond each lemma's own premises. -/
namespace Go.Proofs.Ythiiipbfdgaemaa

/-- May a span be the next one behind those that are there? -/
def elig (out : List Sp) (s : Sp) : Bool := decide (s.1 < s.2) && (match out.getLast? with | none => true | some t => decide (t.2 < s.1))

def best1 (out : List Sp) (acc : Sp × Bool) (s : Sp) : Sp × Bool := if elig out s = true then (if acc.2 = false ∨ s.1 < acc.1.1 then (s, true) else acc) else acc

def bestOf (out l : List Sp) : Sp × Bool := l.foldl (best1 out) ((0, 0), false)

theorem best_from (out : List Sp) : ∀ (l : List Sp) (acc : Sp × Bool),
    ((l.foldl (best1 out) acc).2 = false → acc.2 = false ∧ ∀ s ∈ l, elig out s = false) ∧
    ((l.foldl (best1 out) acc).2 = true → ((acc.2 = true ∧ (l.foldl (best1 out) acc).1 = acc.1) ∨ ((l.foldl (best1 out) acc).1 ∈ l ∧ elig out (l.foldl (best1 out) acc).1 = true)) ∧
      (acc.2 = true → (l.foldl (best1 out) acc).1.1 ≤ acc.1.1) ∧ ∀ s ∈ l, elig out s = true → (l.foldl (best1 out) acc).1.1 ≤ s.1)
  | [], acc => ⟨fun h => ⟨h, by simp⟩, fun h => ⟨Or.inl ⟨h, rfl⟩, fun _ => Int.le_refl _, by simp⟩⟩
  | s :: l, acc => by
    have ih := best_from out l (best1 out acc s)
    rw [List.foldl_cons]
    by_cases he : elig out s = true
    · by_cases hc : acc.2 = false ∨ s.1 < acc.1.1
      · have e : best1 out acc s = (s, true) := by unfold best1; rw [if_pos he, if_pos hc]
        rw [e] at ih ⊢
        refine ⟨fun h => absurd (ih.1 h).1 (by simp), fun h => ?_⟩
        have i2 := ih.2 h
        have i3 := i2.2.1 rfl
        simp only at i3
        refine ⟨Or.inr ?_, fun ha => ?_, fun u hu hue => ?_⟩
        · rcases i2.1 with ⟨_, h2⟩ | ⟨h2, h3⟩
          · rw [h2]; exact ⟨List.mem_cons_self .., he⟩
          · exact ⟨List.mem_cons_of_mem _ h2, h3⟩
        · rcases hc with hc | hc
          · rw [hc] at ha; cases ha
          · omega
        · rcases List.mem_cons.1 hu with rfl | hu
          · exact i3
          · exact i2.2.2 u hu hue
      · have e : best1 out acc s = acc := by unfold best1; rw [if_pos he, if_neg hc]
        rw [e] at ih ⊢
        have ha : acc.2 = true := by cases h : acc.2 <;> simp_all
        have hs : acc.1.1 ≤ s.1 := by
          rcases Int.lt_or_le s.1 acc.1.1 with h | h
          · exact absurd (Or.inr h) hc
          · exact h
        refine ⟨fun h => absurd (ih.1 h).1 (by simp [ha]), fun h => ?_⟩
        have i2 := ih.2 h
        refine ⟨?_, i2.2.1, fun u hu hue => ?_⟩
        · rcases i2.1 with h2 | ⟨h2, h3⟩
          · exact Or.inl h2
          · exact Or.inr ⟨List.mem_cons_of_mem _ h2, h3⟩
        · rcases List.mem_cons.1 hu with rfl | hu
          · have := i2.2.1 ha; omega
          · exact i2.2.2 u hu hue
    · have e : best1 out acc s = acc := by unfold best1; rw [if_neg he]
      have he' : elig out s = false := by cases h : elig out s <;> simp_all
      rw [e] at ih ⊢
      refine ⟨fun h => ⟨(ih.1 h).1, fun u hu => ?_⟩, fun h => ?_⟩
      · rcases List.mem_cons.1 hu with rfl | hu
        · exact he'
        · exact (ih.1 h).2 u hu
      · have i2 := ih.2 h
        refine ⟨?_, i2.2.1, fun u hu hue => ?_⟩
        · rcases i2.1 with h2 | ⟨h2, h3⟩
          · exact Or.inl h2
          · exact Or.inr ⟨List.mem_cons_of_mem _ h2, h3⟩
        · rcases List.mem_cons.1 hu with rfl | hu
          · rw [he'] at hue; cases hue
          · exact i2.2.2 u hu hue

/-- As far as one span goes on. -/
def grow1 (b s : Sp) : Sp := if s.1 < s.2 ∧ s.1 ≤ b.2 ∧ b.2 < s.2 then (b.1, s.2) else b

def growP (l : List Sp) (b : Sp) : Sp := l.foldl grow1 b

def growN (l : List Sp) : Nat → Sp → Sp
  | 0, b => b
  | n + 1, b => growP l (growN l n b)

/-- Nothing goes on behind it. -/
def Still (l : List Sp) (b : Sp) : Prop := ∀ s ∈ l, s.1 < s.2 → s.1 ≤ b.2 → s.2 ≤ b.2

def beyond (l : List Sp) (x : Int) : Nat := l.countP fun s => decide (x < s.2)

theorem beyond_mono (l : List Sp) {x y : Int} (h : x ≤ y) : beyond l y ≤ beyond l x :=
  List.countP_mono_left fun s _ hs => by simp at *; omega

theorem beyond_lt {l : List Sp} {x y : Int} (h : x < y) (hs : ∃ s ∈ l, s.2 = y) : beyond l y < beyond l x := by
  induction l with
  | nil => obtain ⟨s, hs, _⟩ := hs; cases hs
  | cons t l ih =>
    unfold beyond at *
    rw [List.countP_cons, List.countP_cons]
    have hm : List.countP (fun s : Sp => decide (y < s.2)) l ≤ List.countP (fun s : Sp => decide (x < s.2)) l := beyond_mono l (Int.le_of_lt h)
    obtain ⟨s, hs, he⟩ := hs
    rcases List.mem_cons.1 hs with rfl | hs
    · have e1 : decide (y < s.2) = false := by simp; omega
      have e2 : decide (x < s.2) = true := by simp; omega
      rw [if_neg (by rw [e1]; simp), if_pos e2]
      omega
    · have := ih ⟨s, hs, he⟩
      by_cases c : y < t.2
      · rw [if_pos (by simpa using c), if_pos (by simp; omega)]; omega
      · rw [if_neg (by simpa using c)]; split <;> omega

theorem growP_from (L : List Sp) : ∀ (l : List Sp) (b : Sp), (∀ s ∈ l, s ∈ L) →
    (l.foldl grow1 b).1 = b.1 ∧ b.2 ≤ (l.foldl grow1 b).2 ∧ ((∀ m, b.1 ≤ m → m < b.2 → hasL L m = true) → ∀ m, b.1 ≤ m → m < (l.foldl grow1 b).2 → hasL L m = true) ∧
    (((l.foldl grow1 b).2 = b.2 ∧ ∀ s ∈ l, s.1 < s.2 → s.1 ≤ b.2 → s.2 ≤ b.2) ∨ (b.2 < (l.foldl grow1 b).2 ∧ ∃ s ∈ L, s.2 = (l.foldl grow1 b).2))
  | [], b, _ => ⟨rfl, Int.le_refl _, fun h => h, Or.inl ⟨rfl, by simp⟩⟩
  | s :: l, b, hl => by
    rw [List.foldl_cons]
    have ih := growP_from L l (grow1 b s) fun u hu => hl u (List.mem_cons_of_mem _ hu)
    by_cases hc : s.1 < s.2 ∧ s.1 ≤ b.2 ∧ b.2 < s.2
    · have e : grow1 b s = (b.1, s.2) := by unfold grow1; rw [if_pos hc]
      rw [e] at ih ⊢
      simp only at ih
      refine ⟨ih.1, by omega, fun h m h1 h2 => ?_, Or.inr ⟨by omega, ?_⟩⟩
      · refine ih.2.2.1 (fun m h1 h2 => ?_) m h1 h2
        by_cases c : m < b.2
        · exact h m h1 c
        · exact hasL_iff.2 ⟨s, hl s (List.mem_cons_self ..), by omega⟩
      · rcases ih.2.2.2 with h | h
        · rw [h.1]; exact ⟨s, hl s (List.mem_cons_self ..), rfl⟩
        · exact h.2
    · have e : grow1 b s = b := by unfold grow1; rw [if_neg hc]
      rw [e] at ih ⊢
      refine ⟨ih.1, ih.2.1, ih.2.2.1, ?_⟩
      rcases ih.2.2.2 with h | h
      · refine Or.inl ⟨h.1, fun u hu h1 h2 => ?_⟩
        rcases List.mem_cons.1 hu with rfl | hu
        · omega
        · exact h.2 u hu h1 h2
      · exact Or.inr h

theorem growN_ok (l : List Sp) (b : Sp) (hb : ∀ m, b.1 ≤ m → m < b.2 → hasL l m = true) : ∀ n,
    (growN l n b).1 = b.1 ∧ b.2 ≤ (growN l n b).2 ∧ (∀ m, b.1 ≤ m → m < (growN l n b).2 → hasL l m = true) ∧ (Still l (growN l n b) ∨ beyond l (growN l n b).2 + n ≤ l.length)
  | 0 => ⟨rfl, Int.le_refl _, hb, Or.inr (List.countP_le_length ..)⟩
  | n + 1 => by
    have ih := growN_ok l b hb n
    have g := growP_from l l (growN l n b) (fun _ h => h)
    refine ⟨g.1.trans ih.1, Int.le_trans ih.2.1 g.2.1, fun m h1 h2 => g.2.2.1 (fun m h1 h2 => ih.2.2.1 m (by rw [ih.1] at h1; exact h1) h2) m (by rw [ih.1]; exact h1) h2, ?_⟩
    rcases g.2.2.2 with h | h
    · refine Or.inl fun s hs h1 h2 => ?_
      show s.2 ≤ (l.foldl grow1 (growN l n b)).2
      rw [h.1]
      have h2 : s.1 ≤ (l.foldl grow1 (growN l n b)).2 := h2
      rw [h.1] at h2
      exact h.2 s hs h1 h2
    · rcases ih.2.2.2 with hs | hn
      · obtain ⟨h3, s, hs', he⟩ := h
        exfalso
        have key : ∀ (l' : List Sp) (b : Sp), (∀ s ∈ l', s.1 < s.2 → s.1 ≤ b.2 → s.2 ≤ b.2) → l'.foldl grow1 b = b := by
          intro l'
          induction l' with
          | nil => intro b _; rfl
          | cons u l' ih =>
            intro b h
            have e : grow1 b u = b := by
              unfold grow1
              rw [if_neg fun hc => by have := h u (List.mem_cons_self ..) hc.1 hc.2.1; omega]
            rw [List.foldl_cons, e]
            exact ih b fun v hv => h v (List.mem_cons_of_mem _ hv)
        rw [key l _ hs] at h3
        omega
      · refine Or.inr ?_
        have := beyond_lt h.1 h.2
        show beyond l (l.foldl grow1 (growN l n b)).2 + (n + 1) ≤ l.length
        omega

theorem growN_still (l : List Sp) (b : Sp) (hb : ∀ m, b.1 ≤ m → m < b.2 → hasL l m = true) : Still l (growN l (l.length + 1) b) := by
  rcases (growN_ok l b hb (l.length + 1)).2.2.2 with h | h
  · exact h
  · omega

/-- What the reference's rounds keep. -/
structure RInv (l out : List Sp) : Prop where
  set : IsSet out
  count : out.length + l.countP (elig out) ≤ l.length
  upto : ∀ t, out.getLast? = some t → (∀ m, m ≤ t.2 → hasL out m = hasL l m) ∧ Still l t

theorem RInv.start (l : List Sp) : RInv l [] := ⟨IsSet.nil, by simpa using List.countP_le_length, by simp⟩

theorem elig_nil (s : Sp) : elig [] s = decide (s.1 < s.2) := by simp [elig]

theorem elig_snoc (out : List Sp) (t s : Sp) : elig (out ++ [t]) s = (decide (s.1 < s.2) && decide (t.2 < s.1)) := by simp [elig]

theorem elig_last {out : List Sp} {s : Sp} (h : elig out s = true) : s.1 < s.2 ∧ ∀ t, out.getLast? = some t → t.2 < s.1 := by
  unfold elig at h
  rw [Bool.and_eq_true] at h
  refine ⟨by simpa using h.1, fun t ht => ?_⟩
  have := h.2
  rw [ht] at this
  simpa using this

theorem elig_no {out : List Sp} {s : Sp} (h : elig out s = false) (hs : s.1 < s.2) : ∃ t, out.getLast? = some t ∧ s.1 ≤ t.2 := by
  cases hl : out.getLast? with
  | none => simp [elig, hl, hs] at h
  | some t => simp [elig, hl, hs] at h; exact ⟨t, rfl, h⟩

theorem RInv.done {l out : List Sp} (h : RInv l out) (hb : (bestOf out l).2 = false) : out = setOf l := by
  have hn := ((best_from out l ((0, 0), false)).1 hb).2
  refine set_is h.set fun m => ?_
  rcases List.eq_nil_or_concat out with rfl | ⟨o, t, rfl⟩
  · refine (hasL_no.2 (by simp)).trans (hasL_no.2 fun s hs hm => ?_).symm
    obtain ⟨t, ht, _⟩ := elig_no (hn s hs) (by omega)
    cases ht
  · rw [List.concat_eq_append] at *
    have hu := h.upto t (by simp)
    by_cases c : m ≤ t.2
    · exact hu.1 m c
    · refine (hasL_no.2 fun s hs hm => ?_).trans (hasL_no.2 fun s hs hm => ?_).symm
      · rcases List.mem_append.1 hs with hs | hs
        · have := h.set.init.2.2 s hs
          have := h.set.init.2.1
          omega
        · rw [List.mem_singleton.1 hs] at hm; omega
      · obtain ⟨t', ht, h1⟩ := elig_no (hn s hs) (by omega)
        have e : t' = t := by simpa using ht.symm
        subst e
        have := hu.2 s hs (by omega) h1
        omega

theorem countP_lt {p q : Sp → Bool} {l : List Sp} (h : ∀ s ∈ l, q s = true → p s = true) {x : Sp} (hx : x ∈ l) (h1 : p x = true) (h2 : q x = false) : l.countP q < l.countP p := by
  induction l with
  | nil => cases hx
  | cons t l ih =>
    rw [List.countP_cons, List.countP_cons]
    have hm : l.countP q ≤ l.countP p := List.countP_mono_left fun s hs => h s (List.mem_cons_of_mem _ hs)
    rcases List.mem_cons.1 hx with rfl | hx
    · rw [if_neg (by rw [h2]; simp), if_pos h1]; omega
    · have := ih (fun s hs => h s (List.mem_cons_of_mem _ hs)) hx
      by_cases c : q t = true
      · rw [if_pos c, if_pos (h t (List.mem_cons_self ..) c)]; omega
      · rw [if_neg c]; split <;> omega

theorem RInv.step {l out : List Sp} (h : RInv l out) (hb : (bestOf out l).2 = true) :
    RInv l (out ++ [growN l (l.length + 1) (bestOf out l).1]) ∧ l.countP (elig (out ++ [growN l (l.length + 1) (bestOf out l).1])) < l.countP (elig out) := by
  have hbf := (best_from out l ((0, 0), false)).2 hb
  obtain ⟨hmem, hel⟩ : (bestOf out l).1 ∈ l ∧ elig out (bestOf out l).1 = true := by
    rcases hbf.1 with ⟨h0, _⟩ | h1
    · cases h0
    · exact h1
  have hleast := hbf.2.2
  change ∀ s ∈ l, elig out s = true → (bestOf out l).1.1 ≤ s.1 at hleast
  generalize (bestOf out l).1 = b at *
  have hr := elig_last hel
  have hbm : ∀ m, b.1 ≤ m → m < b.2 → hasL l m = true := fun m h1 h2 => hasL_iff.2 ⟨b, hmem, h1, h2⟩
  have hg := growN_ok l b hbm (l.length + 1)
  have hst := growN_still l b hbm
  generalize growN l (l.length + 1) b = g at *
  have hlt : ∀ t ∈ out, t.2 < g.1 := fun t ht => by
    rcases List.eq_nil_or_concat out with rfl | ⟨o, u, rfl⟩
    · cases ht
    · rw [List.concat_eq_append] at *
      have hu := hr.2 u (by simp)
      rw [hg.1]
      rcases List.mem_append.1 ht with ht | ht
      · have h1 := h.set.init.2.2 t ht
        have h2 := h.set.init.2.1
        omega
      · rw [List.mem_singleton.1 ht]; exact hu
  have hle : ∀ s, elig (out ++ [g]) s = true → elig out s = true := fun s hs => by
    rw [elig_snoc, Bool.and_eq_true] at hs
    have h1 : s.1 < s.2 := by simpa using hs.1
    have h2 : g.2 < s.1 := by simpa using hs.2
    unfold elig
    rw [Bool.and_eq_true]
    refine ⟨by simpa using h1, ?_⟩
    cases hl : out.getLast? with
    | none => rfl
    | some t =>
      have := hlt t (List.mem_of_getLast? hl)
      simp
      omega
  have hcnt : l.countP (elig (out ++ [g])) < l.countP (elig out) :=
    countP_lt (fun s _ => hle s) hmem hel (by rw [elig_snoc]; simp; intro _; omega)
  refine ⟨⟨h.set.snoc (by omega) hlt, ?_, fun t ht => ?_⟩, hcnt⟩
  · have := h.count
    rw [List.length_append, List.length_singleton]
    omega
  · have e : t = g := by simpa using ht.symm
    subst e
    refine ⟨fun m hm => ?_, hst⟩
    rw [hasL_append]
    by_cases c1 : t.1 ≤ m
    · by_cases c2 : m < t.2
      · rw [hasL_iff (l := [t]) |>.2 ⟨t, by simp, c1, c2⟩, Bool.or_true, hg.2.2.1 m (by omega) c2]
      · have em : m = t.2 := by omega
        rw [hasL_no (l := [t]) |>.2 fun x hx hxm => by rw [List.mem_singleton.1 hx] at hxm; omega, Bool.or_false]
        refine (hasL_no.2 fun x hx hxm => ?_).trans (hasL_no.2 fun x hx hxm => ?_).symm
        · have := hlt x hx; omega
        · have := hst x hx (by omega) (by omega); omega
    · rw [hasL_no (l := [t]) |>.2 fun x hx hxm => by rw [List.mem_singleton.1 hx] at hxm; omega, Bool.or_false]
      rcases List.eq_nil_or_concat out with rfl | ⟨o, u, rfl⟩
      · refine (hasL_no.2 (by simp)).trans (hasL_no.2 fun x hx hxm => ?_).symm
        have := hleast x hx (by rw [elig_nil]; exact decide_eq_true (by omega))
        omega
      · rw [List.concat_eq_append] at *
        have hu := h.upto u (by simp)
        by_cases c3 : m ≤ u.2
        · exact hu.1 m c3
        · refine (hasL_no.2 fun x hx hxm => ?_).trans (hasL_no.2 fun x hx hxm => ?_).symm
          · rcases List.mem_append.1 hx with hx | hx
            · have h1 := h.set.init.2.2 x hx
              have h2 := h.set.init.2.1
              omega
            · rw [List.mem_singleton.1 hx] at hxm; omega
          · by_cases c4 : x.1 ≤ u.2
            · have := hu.2 x hx (by omega) c4; omega
            · have := hleast x hx (by rw [elig_snoc, decide_eq_true (show x.1 < x.2 by omega), decide_eq_true (show u.2 < x.1 by omega)]; rfl)
              omega

theorem RInv.len {l out : List Sp} (h : RInv l out) : out.length ≤ l.length := by have := h.count; omega

/-- Prefixes, one more. -/
theorem take_more {α : Type} [Inhabited α] (l : List α) (d : α) (k : Nat) (h : k < l.length) : l.take (k + 1) = l.take k ++ [l.getD k d] := by
  rw [List.take_succ_eq_append_getElem h]; simp [List.getD, h]

theorem best_more (out l : List Sp) (k : Nat) (h : k < l.length) : (l.take (k + 1)).foldl (best1 out) ((0, 0), false) = best1 out ((l.take k).foldl (best1 out) ((0, 0), false)) (l.getD k (0, 0)) := by
  rw [take_more l (0, 0) k h, List.foldl_append]; rfl

theorem grow_more (l : List Sp) (b : Sp) (k : Nat) (h : k < l.length) : (l.take (k + 1)).foldl grow1 b = grow1 ((l.take k).foldl grow1 b) (l.getD k (0, 0)) := by
  rw [take_more l (0, 0) k h, List.foldl_append]; rfl

theorem next_more (l : List Sp) (m : Int) (k : Nat) (h : k < l.length) : (l.take (k + 1)).foldl (next1 m) (0, false) = next1 m ((l.take k).foldl (next1 m) (0, false)) (l.getD k (0, 0)) := by
  rw [take_more l (0, 0) k h, List.foldl_append]; rfl

theorem put_more (l set : List Sp) (k : Nat) (h : k < l.length) : (l.take (k + 1)).foldl put1 set = put1 ((l.take k).foldl put1 set) (l.getD k (0, 0)) := by
  rw [take_more l (0, 0) k h, List.foldl_append]; rfl

theorem only_more (l : List Sp) (k : Nat) (h : k < l.length) : onlyR (l.take (k + 1)) = onlyR (l.take k) ++ if (l.getD k (0, 0)).1 < (l.getD k (0, 0)).2 then [l.getD k (0, 0)] else [] := by
  rw [take_more l (0, 0) k h]
  unfold onlyR
  rw [List.filter_append]
  congr 1
  simp [List.filter_cons]

theorem gap_more (lo : Int) (l : List Sp) (k : Nat) (h : k < l.length) : gapTo lo (l.take (k + 1)) = gap1 (gapTo lo (l.take k)) (l.getD k (0, 0)) := by
  rw [take_more l (0, 0) k h, gapTo_snoc]

theorem getD_mem {l : List Sp} {k : Nat} (h : k < l.length) : l.getD k (0, 0) ∈ l := by
  simp [List.getD, h]

theorem hasL_of (l : List Sp) (m : Int) (k : Nat) (h : k < l.length) (hm : (l.getD k (0, 0)).1 ≤ m ∧ m < (l.getD k (0, 0)).2) : hasL l m = true :=
  hasL_iff.2 ⟨_, getD_mem h, hm⟩

theorem hasL_not (l : List Sp) (m : Int) (k : Nat) (h : k < l.length) (hm : ¬ ((l.getD k (0, 0)).1 ≤ m ∧ m < (l.getD k (0, 0)).2)) (hn : ∀ s ∈ l.take k, ¬ (s.1 ≤ m ∧ m < s.2)) :
    ∀ s ∈ l.take (k + 1), ¬ (s.1 ≤ m ∧ m < s.2) := by
  rw [take_more l (0, 0) k h]
  intro s hs
  rcases List.mem_append.1 hs with hs | hs
  · exact hn s hs
  · rw [List.mem_singleton.1 hs]; exact hm

theorem best_skip {out : List Sp} {acc : Sp × Bool} {s : Sp} (h : elig out s = false) : best1 out acc s = acc := by unfold best1; rw [if_neg (by rw [h]; simp)]

theorem best_take {out : List Sp} {acc : Sp × Bool} {s : Sp} (h : elig out s = true) (h2 : acc.2 = false ∨ s.1 < acc.1.1) : best1 out acc s = (s, true) := by unfold best1; rw [if_pos h, if_pos h2]

theorem best_leave {out : List Sp} {acc : Sp × Bool} {s : Sp} (h : elig out s = true) (h2 : ¬ (acc.2 = false ∨ s.1 < acc.1.1)) : best1 out acc s = acc := by unfold best1; rw [if_pos h, if_neg h2]

theorem elig_wrong {out : List Sp} {s : Sp} (h : ¬ s.1 < s.2) : elig out s = false := by unfold elig; rw [decide_eq_false h]; rfl

theorem elig_first {out : List Sp} {s : Sp} (hn : out.length = 0) (h : s.1 < s.2) : elig out s = true := by
  obtain rfl := List.eq_nil_of_length_eq_zero hn
  rw [elig_nil]; exact decide_eq_true h

theorem elig_at {out : List Sp} {s : Sp} {j : Nat} {t1 t2 : Int} (hn : out.length = j + 1) (ht : out.getD j (0, 0) = (t1, t2)) (h : s.1 < s.2) : elig out s = decide (t2 < s.1) := by
  rcases List.eq_nil_or_concat out with rfl | ⟨o, t, rfl⟩
  · simp at hn
  · rw [List.concat_eq_append] at *
    rw [elig_snoc, decide_eq_true h, Bool.true_and]
    have hj : o.length = j := by simpa using hn
    subst hj
    have e : t = (t1, t2) := by simpa [List.getD] using ht
    rw [e]

theorem grow_skip {b s : Sp} (h : ¬ (s.1 < s.2 ∧ s.1 ≤ b.2 ∧ b.2 < s.2)) : grow1 b s = b := by unfold grow1; rw [if_neg h]

theorem grow_take {b s : Sp} (h : s.1 < s.2 ∧ s.1 ≤ b.2 ∧ b.2 < s.2) : grow1 b s = (b.1, s.2) := by unfold grow1; rw [if_pos h]

end Go.Proofs.Ythiiipbfdgaemaa

/- Timelines in plain words: which record is wrong first, the minutes' kinds, the normal one. Conditions: none beyond each lemma's own premises. -/
namespace Go.Proofs.Ythiiipbfdgaemaa

/-- A record: its kind, its begin, its end. -/
abbrev Rc := Int × Int × Int
def rz : Rc := (0, 0, 0)

/-- What is wrong with a record alone; and by the end of the one ahead. -/
def aloneV (x y z : Int) : Int := if 0 ≤ x ∧ x < 4 then (if (0 ≤ y ∧ y ≤ 40320) ∧ (0 ≤ z ∧ z ≤ 40320) then (if y < z then 0 else 3) else 4) else 2
def behindV (t y : Int) : Int := if t < y then 5 else if y < t then 6 else 0

theorem alone_zero {x y z : Int} : aloneV x y z = 0 ↔ (0 ≤ x ∧ x < 4) ∧ (0 ≤ y ∧ y < z ∧ z ≤ 40320) := by
  unfold aloneV
  repeat' split
  all_goals first | (constructor <;> intro h <;> omega) | (constructor <;> intro h <;> first | omega | (exfalso; omega))

theorem behind_zero {t y : Int} : behindV t y = 0 ↔ y = t := by
  unfold behindV
  repeat' split
  all_goals (constructor <;> intro h <;> omega)

/-- What is wrong with the record at k. -/
def faultV (l : List Rc) (k : Nat) : Int :=
  if aloneV (l.getD k rz).1 (l.getD k rz).2.1 (l.getD k rz).2.2 = 0 ∧ k ≠ 0 then behindV (l.getD (k - 1) rz).2.2 (l.getD k rz).2.1 else aloneV (l.getD k rz).1 (l.getD k rz).2.1 (l.getD k rz).2.2

theorem fault_alone {l : List Rc} {k : Nat} {x y z : Int} (h : l.getD k rz = (x, y, z)) (ha : aloneV x y z ≠ 0) : faultV l k = aloneV x y z := by
  unfold faultV
  rw [h, if_neg (fun c => ha c.1)]

theorem fault_first {l : List Rc} {x y z : Int} (h : l.getD 0 rz = (x, y, z)) : faultV l 0 = aloneV x y z := by
  unfold faultV
  rw [h, if_neg (fun c => c.2 rfl)]

theorem fault_next {l : List Rc} {j : Nat} {x y z a b c : Int} (h : l.getD (j + 1) rz = (x, y, z)) (ha : aloneV x y z = 0) (hp : l.getD j rz = (a, b, c)) : faultV l (j + 1) = behindV c y := by
  unfold faultV
  rw [h, if_pos ⟨ha, by omega⟩, show j + 1 - 1 = j by omega, hp]

/-- The first record that is wrong, and what is wrong. -/
def checkV (l : List Rc) : Nat × Int := match (List.range l.length).find? (fun j => faultV l j != 0) with | none => (0, 0) | some j => (j, faultV l j)

theorem check_ok {l : List Rc} (h : ∀ j, j < l.length → faultV l j = 0) : checkV l = (0, 0) := by
  unfold checkV
  have e : (List.range l.length).find? (fun j => faultV l j != 0) = none := by
    rw [List.find?_eq_none]
    intro j hj
    simp [h j (by simpa using hj)]
  rw [e]

theorem check_bad {l : List Rc} {k : Nat} {e : Int} (hk : k < l.length) (h : ∀ j, j < k → faultV l j = 0) (he : faultV l k = e) (hne : e ≠ 0) : checkV l = (k, e) := by
  unfold checkV
  have e1 : (List.range l.length).find? (fun j => faultV l j != 0) = some k := by
    rw [List.find?_range_eq_some]
    refine ⟨by simp [he, hne], by simpa using hk, fun j hj => by simp [h j hj]⟩
  rw [e1, ← he]

theorem check_zero {l : List Rc} (h : (checkV l).2 = 0) : ∀ j, j < l.length → faultV l j = 0 := by
  intro j hj
  rcases hf : (List.range l.length).find? (fun j => faultV l j != 0) with _ | k
  · rw [List.find?_eq_none] at hf
    have := hf j (by simpa using hj)
    simpa using this
  · have hk := hf
    rw [List.find?_range_eq_some] at hk
    unfold checkV at h
    rw [hf] at h
    have := hk.1
    simp at this h
    exact absurd h this

/-- A timeline from e on. -/
def Tl (e : Int) : List Rc → Prop
  | [] => True
  | r :: l => ((0 ≤ r.1 ∧ r.1 < 4) ∧ (0 ≤ r.2.1 ∧ r.2.1 < r.2.2 ∧ r.2.2 ≤ 40320)) ∧ r.2.1 = e ∧ Tl r.2.2 l

def beg : List Rc → Int
  | [] => 0
  | r :: _ => r.2.1

def fin : List Rc → Int
  | [] => 0
  | [r] => r.2.2
  | _ :: r :: l => fin (r :: l)

theorem Tl.from_ {e : Int} {l : List Rc} (h : Tl e l) : Tl (beg l) l := by
  cases l with
  | nil => trivial
  | cons r l => exact ⟨h.1, rfl, h.2.2⟩

theorem tl_of {l : List Rc} {e : Int} (h1 : ∀ j, j < l.length → (0 ≤ (l.getD j rz).1 ∧ (l.getD j rz).1 < 4) ∧ (0 ≤ (l.getD j rz).2.1 ∧ (l.getD j rz).2.1 < (l.getD j rz).2.2 ∧ (l.getD j rz).2.2 ≤ 40320))
    (h2 : l ≠ [] → (l.getD 0 rz).2.1 = e) (h3 : ∀ j, j + 1 < l.length → (l.getD (j + 1) rz).2.1 = (l.getD j rz).2.2) : Tl e l := by
  induction l generalizing e with
  | nil => trivial
  | cons r l ih =>
    refine ⟨by simpa using h1 0 (by simp), by simpa using h2 (by simp), ih (fun j hj => by simpa using h1 (j + 1) (by simpa using hj)) (fun hne => ?_) (fun j hj => by simpa using h3 (j + 1) (by simpa using hj))⟩
    have := h3 0 (by have := List.length_pos_iff.2 hne; simp; omega)
    simpa using this

theorem fault_ok {l : List Rc} {k : Nat} (h : faultV l k = 0) : aloneV (l.getD k rz).1 (l.getD k rz).2.1 (l.getD k rz).2.2 = 0 := by
  unfold faultV at h
  split at h
  · rename_i c; exact c.1
  · exact h

theorem check_tl {l : List Rc} (h : (checkV l).2 = 0) : Tl (beg l) l := by
  have hf := check_zero h
  refine tl_of (fun j hj => alone_zero.1 (fault_ok (hf j hj))) (fun hne => ?_) (fun j hj => ?_)
  · cases l with
    | nil => exact absurd rfl hne
    | cons r l => rfl
  · have h1 := hf (j + 1) hj
    have h2 := fault_ok h1
    unfold faultV at h1
    rw [if_pos ⟨h2, by omega⟩, show j + 1 - 1 = j by omega] at h1
    exact behind_zero.1 h1

theorem Tl.at_ {l : List Rc} {e : Int} (h : Tl e l) : ∀ j, j < l.length → (0 ≤ (l.getD j rz).1 ∧ (l.getD j rz).1 < 4) ∧ (0 ≤ (l.getD j rz).2.1 ∧ (l.getD j rz).2.1 < (l.getD j rz).2.2 ∧ (l.getD j rz).2.2 ≤ 40320) := by
  induction l generalizing e with
  | nil => intro j hj; cases hj
  | cons r l ih =>
    intro j hj
    cases j with
    | zero => simpa using h.1
    | succ j => simpa using ih h.2.2 j (by simpa using hj)

theorem Tl.chain {l : List Rc} {e : Int} (h : Tl e l) : ∀ j, j + 1 < l.length → (l.getD (j + 1) rz).2.1 = (l.getD j rz).2.2 := by
  induction l generalizing e with
  | nil => intro j hj; cases hj
  | cons r l ih =>
    intro j hj
    cases j with
    | zero =>
      cases l with
      | nil => simp at hj
      | cons s l => simpa using h.2.2.2.1
    | succ j => simpa using ih h.2.2 j (by simpa using hj)

theorem tl_check {l : List Rc} {e : Int} (h : Tl e l) : checkV l = (0, 0) := by
  refine check_ok fun j hj => ?_
  have h1 := alone_zero.2 (h.at_ j hj)
  unfold faultV
  rw [h1]
  split
  · rename_i c
    obtain ⟨k, rfl⟩ : ∃ k, j = k + 1 := ⟨j - 1, by omega⟩
    rw [show k + 1 - 1 = k by omega]
    exact behind_zero.2 (h.chain k hj)
  · rfl

/-- The kind of each minute. -/
def kindsV (l : List Rc) : List Int := l.flatMap fun r => List.replicate (r.2.2 - r.2.1).toNat r.1

theorem kinds_cons (r : Rc) (l : List Rc) : kindsV (r :: l) = List.replicate (r.2.2 - r.2.1).toNat r.1 ++ kindsV l := rfl

theorem kinds_more {l : List Rc} {k : Nat} {x y z : Int} (h : k < l.length) (hr : l.getD k rz = (x, y, z)) : kindsV (l.take (k + 1)) = kindsV (l.take k) ++ List.replicate (z - y).toNat x := by
  have e : l[k]? = some (x, y, z) := by
    rw [List.getElem?_eq_getElem h]
    rw [List.getD_eq_getElem?_getD, List.getElem?_eq_getElem h] at hr
    simpa using hr
  rw [List.take_add_one, e]
  simp [kindsV]

/-- Where it ends. -/
theorem Tl.len {l : List Rc} {e : Int} (h : Tl e l) : l ≠ [] → e + ((kindsV l).length : Int) = fin l ∧ 0 ≤ e ∧ fin l ≤ 40320 := by
  induction l generalizing e with
  | nil => intro h; exact absurd rfl h
  | cons r l ih =>
    intro _
    obtain ⟨⟨h1, h2⟩, h3, h4⟩ := h
    have hr : ((List.replicate (r.2.2 - r.2.1).toNat r.1).length : Int) = r.2.2 - r.2.1 := by simp; omega
    cases l with
    | nil => rw [kinds_cons]; simp [kindsV, fin]; omega
    | cons s l =>
      have := ih h4 (by simp)
      rw [kinds_cons, List.length_append, fin]
      omega

theorem Tl.short {l : List Rc} {e : Int} (h : Tl e l) : (kindsV l).length ≤ 40320 := by
  cases l with
  | nil => simp [kindsV]
  | cons r l => have := h.len (by simp); omega

theorem Tl.bd {l : List Rc} {e : Int} (h : Tl e l) : 0 ≤ beg l ∧ beg l + ((kindsV l).length : Int) ≤ 40320 := by
  cases l with
  | nil => simp [beg, kindsV]
  | cons r l => have := h.from_.len (by simp); omega

theorem kinds_take (l : List Rc) (k : Nat) : (kindsV (l.take k)).length ≤ (kindsV l).length := by
  have e : kindsV l = kindsV (l.take k) ++ kindsV (l.drop k) := by
    unfold kindsV
    rw [← List.flatMap_append, List.take_append_drop]
  rw [e, List.length_append]
  omega

theorem Tl.kinds {l : List Rc} {e : Int} (h : Tl e l) : ∀ x ∈ kindsV l, 0 ≤ x ∧ x < 4 := by
  induction l generalizing e with
  | nil => intro x hx; simp [kindsV] at hx
  | cons r l ih =>
    intro x hx
    rw [kinds_cons, List.mem_append] at hx
    rcases hx with hx | hx
    · rw [List.mem_replicate] at hx; rw [hx.2]; exact h.1.1
    · exact ih h.2.2 x hx

/-! ### The normal timeline -/

/-- One more record behind those that are there: the last one's end is moved, where the kinds are the same. -/
def put (out : List Rc) (k f t : Int) : List Rc :=
  match out.getLast? with
  | some (a, b, _) => if a = k then out.dropLast ++ [(k, b, t)] else out ++ [(k, f, t)]
  | none => out ++ [(k, f, t)]

theorem put_nil (k f t : Int) : put [] k f t = [(k, f, t)] := rfl

theorem put_same (o : List Rc) (b c k f t : Int) : put (o ++ [(k, b, c)]) k f t = o ++ [(k, b, t)] := by
  unfold put; simp

theorem put_other (o : List Rc) {a b c k f t : Int} (h : a ≠ k) : put (o ++ [(a, b, c)]) k f t = o ++ [(a, b, c)] ++ [(k, f, t)] := by
  unfold put; simp [h]

theorem snoc_form {out : List Rc} {j : Nat} {a b c : Int} (hl : out.length = j + 1) (hg : out.getD j rz = (a, b, c)) : ∃ o, out = o ++ [(a, b, c)] ∧ o.length = j := by
  rcases List.eq_nil_or_concat out with rfl | ⟨o, r, rfl⟩
  · cases hl
  · have : o.length = j := by simpa using hl
    subst this
    refine ⟨o, ?_, rfl⟩
    simp at hg
    simp [hg]

theorem put_put (out : List Rc) (k f m n t : Int) : put (put out k f m) k n t = put out k f t := by
  rcases List.eq_nil_or_concat out with rfl | ⟨o, ⟨a, b, c⟩, rfl⟩
  · rw [put_nil, put_nil]; exact put_same [] f m k n t
  · by_cases h : a = k
    · subst h; simp only [List.concat_eq_append]; rw [put_same, put_same, put_same]
    · simp only [List.concat_eq_append]; rw [put_other o h, put_other o h, put_same]

def normV (l : List Rc) : List Rc := l.foldl (fun out r => put out r.1 r.2.1 r.2.2) []

theorem norm_more {l : List Rc} {k : Nat} {x y z : Int} (h : k < l.length) (hr : l.getD k rz = (x, y, z)) : normV (l.take (k + 1)) = put (normV (l.take k)) x y z := by
  have e : l[k]? = some (x, y, z) := by
    rw [List.getElem?_eq_getElem h]
    rw [List.getD_eq_getElem?_getD, List.getElem?_eq_getElem h] at hr
    simpa using hr
  rw [List.take_add_one, e]
  simp [normV]

theorem put_len (out : List Rc) (k f t : Int) : (put out k f t).length ≤ out.length + 1 := by
  rcases List.eq_nil_or_concat out with rfl | ⟨o, ⟨a, b, c⟩, rfl⟩
  · rw [put_nil]; simp
  · by_cases h : a = k
    · subst h; simp only [List.concat_eq_append]; rw [put_same]; simp
    · simp only [List.concat_eq_append]; rw [put_other o h]; simp

/-- The normal timeline of minutes' kinds, the first of which is the minute m. -/
def ofS (s : List Rc × Int) (ks : List Int) : List Rc × Int := ks.foldl (fun s k => (put s.1 k s.2 (s.2 + 1), s.2 + 1)) s
def ofR (at_ : Int) (ks : List Int) : List Rc := (ofS ([], at_) ks).1

theorem of_same (out : List Rc) (k f : Int) : ∀ n, ofS (out, f) (List.replicate (n + 1) k) = (put out k f (f + (n + 1 : Nat)), f + (n + 1 : Nat))
  | 0 => by simp [ofS]
  | n + 1 => by
    rw [List.replicate_succ', ofS, List.foldl_append]
    have := of_same out k f n
    unfold ofS at this
    rw [this]
    simp only [List.foldl_cons, List.foldl_nil, put_put]
    have e : f + ((n + 1 : Nat) : Int) + 1 = f + ((n + 1 + 1 : Nat) : Int) := by omega
    rw [e]

theorem of_norm {l : List Rc} {e : Int} (h : Tl e l) : ∀ out, (ofS (out, e) (kindsV l)).1 = l.foldl (fun out r => put out r.1 r.2.1 r.2.2) out := by
  induction l generalizing e with
  | nil => intro out; rfl
  | cons r l ih =>
    intro out
    obtain ⟨⟨h1, h2⟩, h3, h4⟩ := h
    subst h3
    obtain ⟨n, hn⟩ : ∃ n : Nat, (r.2.2 - r.2.1).toNat = n + 1 := ⟨(r.2.2 - r.2.1).toNat - 1, by omega⟩
    rw [kinds_cons, hn]
    show (List.foldl _ (out, r.2.1) (_ ++ _)).1 = _
    rw [List.foldl_append]
    have := of_same out r.1 r.2.1 n
    unfold ofS at this
    rw [this]
    have e : r.2.1 + ((n + 1 : Nat) : Int) = r.2.2 := by omega
    rw [e]
    exact ih h4 _

theorem norm_of {l : List Rc} {e : Int} (h : Tl e l) : ofR (beg l) (kindsV l) = normV l := of_norm h.from_ []

theorem of_more {ks : List Int} {at_ : Int} {k : Nat} {x : Int} (hx : ks[k]? = some x) : ofR at_ (ks.take (k + 1)) = put (ofR at_ (ks.take k)) x (at_ + k) (at_ + k + 1) := by
  have hm : ∀ (ks : List Int) (s : List Rc × Int), (ofS s ks).2 = s.2 + ks.length := by
    intro ks
    induction ks with
    | nil => intro s; simp [ofS]
    | cons y ks ih =>
      intro s
      show (ofS _ ks).2 = _
      rw [ih]
      simp; omega
  rw [List.take_add_one, hx]
  unfold ofR
  simp only [Option.toList_some]
  rw [ofS, List.foldl_append]
  have h2 := hm (ks.take k) ([], at_)
  have hl : (ks.take k).length = k := by
    have := (List.getElem?_eq_some_iff.1 hx).1
    simp; omega
  rw [hl] at h2
  unfold ofS at h2 ⊢
  simp only [List.foldl_cons, List.foldl_nil]
  rw [h2]

theorem of_len (at_ : Int) (ks : List Int) : (ofR at_ ks).length ≤ ks.length := by
  have : ∀ (ks : List Int) (s : List Rc × Int), (ofS s ks).1.length ≤ s.1.length + ks.length := by
    intro ks
    induction ks with
    | nil => intro s; simp [ofS]
    | cons y ks ih =>
      intro s
      have := ih (put s.1 y s.2 (s.2 + 1), s.2 + 1)
      have h2 := put_len s.1 y s.2 (s.2 + 1)
      show (ofS (put s.1 y s.2 (s.2 + 1), s.2 + 1) ks).1.length ≤ _
      simp at this ⊢
      omega
  have h := this ks ([], at_)
  rw [List.length_nil, Nat.zero_add] at h
  exact h

/-- What Normal tells. -/
def nrmV (l : List Rc) : List Rc := if (checkV l).2 = 0 then normV l else []

theorem nrm_ok {l : List Rc} {e : Int} (h : Tl e l) : nrmV l = normV l := by unfold nrmV; rw [tl_check h]; exact if_pos rfl
theorem nrm_bad {l : List Rc} (h : (checkV l).2 ≠ 0) : nrmV l = [] := if_neg h

theorem norm_len (l : List Rc) : (normV l).length ≤ l.length := by
  have : ∀ (l : List Rc) (out : List Rc), (l.foldl (fun out r => put out r.1 r.2.1 r.2.2) out).length ≤ out.length + l.length := by
    intro l
    induction l with
    | nil => intro out; simp
    | cons r l ih =>
      intro out
      have := ih (put out r.1 r.2.1 r.2.2)
      have h2 := put_len out r.1 r.2.1 r.2.2
      simp only [List.foldl_cons, List.length_cons]
      omega
  have h := this l []
  rw [List.length_nil, Nat.zero_add] at h
  exact h

end Go.Proofs.Ythiiipbfdgaemaa

/- What the small functions of layer 8 return: isKind, inTime, span, alone, behind. Conditions: none. -/
namespace Go.Proofs.Ythiiipbfdgaemaa
open Go.RowKit

theorem isKind_yes (x : Int) (w : World) (h : 0 ≤ x ∧ x < 4) :
    Calls Try.prog 57 #[.int .i64 x] w fun e w' => e = .returned (.bool true) ∧ w = w' := by
  obtain ⟨h0, h1⟩ := h
  go_enter Try.func57, Try.ntmps57
  go_wp2
  go_ret
  exact ⟨rfl, rfl⟩

theorem isKind_no (x : Int) (w : World) (h : ¬ (0 ≤ x ∧ x < 4)) :
    Calls Try.prog 57 #[.int .i64 x] w fun e w' => e = .returned (.bool false) ∧ w = w' := by
  by_cases h0 : 0 ≤ x
  · have h1 : 4 ≤ x := by omega
    clear h
    go_enter Try.func57, Try.ntmps57
    go_wp2
    go_ret
    exact ⟨by simp; omega, rfl⟩
  · have h1 : x < 0 := by omega
    clear h h0
    go_enter Try.func57, Try.ntmps57
    go_wp2
    go_ret
    exact ⟨rfl, rfl⟩

theorem inTime_yes (x : Int) (w : World) (h : 0 ≤ x ∧ x ≤ 40320) :
    Calls Try.prog 58 #[.int .i64 x] w fun e w' => e = .returned (.bool true) ∧ w = w' := by
  obtain ⟨h0, h1⟩ := h
  go_enter Try.func58, Try.ntmps58
  go_wp2
  go_ret
  exact ⟨rfl, rfl⟩

theorem inTime_no (x : Int) (w : World) (h : ¬ (0 ≤ x ∧ x ≤ 40320)) :
    Calls Try.prog 58 #[.int .i64 x] w fun e w' => e = .returned (.bool false) ∧ w = w' := by
  by_cases h0 : 0 ≤ x
  · have h1 : 40320 < x := by omega
    clear h
    go_enter Try.func58, Try.ntmps58
    go_wp2
    go_ret
    exact ⟨by simp; omega, rfl⟩
  · have h1 : x < 0 := by omega
    clear h h0
    go_enter Try.func58, Try.ntmps58
    go_wp2
    go_ret
    exact ⟨rfl, rfl⟩

theorem recspan_any (x y z : Int) (w : World) :
    Calls Try.prog 60 #[.agg #[.int .i64 x, .int .i64 y, .int .i64 z]] w fun e w' => e = .returned (.agg #[.int .i64 y, .int .i64 z]) ∧ Below w.heap.size w w' := by
  go_enter Try.func60, Try.ntmps60
  go_wp2
  refine bodyPost_ret (v := .agg #[.int .i64 y, .int .i64 z]) (by simp [results, Try.results60, go_sem, *]) rfl ⟨rfl, ?_⟩
  (repeat (first | exact Below.refl _ _ | (refine b_st ?_ (by first | (simp; done) | (simp; omega))) | (refine b_al ?_ (Nat.le_refl _) _) | refine b_dn ?_ | refine b_dr ?_ | (refine b_cl ?_ (Nat.le_refl _) (by assumption))))

theorem behind_any (x y z a b c : Int) (w : World) :
    Calls Try.prog 47 #[.agg #[.int .i64 a, .int .i64 b, .int .i64 c], .agg #[.int .i64 x, .int .i64 y, .int .i64 z]] w fun e w' => e = .returned (.int .i64 (behindV c y)) ∧ Below w.heap.size w w' := by
  unfold behindV
  by_cases h1 : c < y
  · rw [if_pos h1]
    go_enter Try.func47, Try.ntmps47
    go_wp2
    go_ret
    exact ⟨rfl, by (repeat (first | exact Below.refl _ _ | (refine b_st ?_ (by first | (simp; done) | (simp; omega))) | (refine b_al ?_ (Nat.le_refl _) _) | refine b_dn ?_ | refine b_dr ?_ | (refine b_cl ?_ (Nat.le_refl _) (by assumption))))⟩
  · rw [if_neg h1]
    by_cases h2 : y < c
    · rw [if_pos h2]
      have h1' : y ≤ c := by omega
      go_enter Try.func47, Try.ntmps47
      go_wp2
      go_ret
      exact ⟨rfl, by (repeat (first | exact Below.refl _ _ | (refine b_st ?_ (by first | (simp; done) | (simp; omega))) | (refine b_al ?_ (Nat.le_refl _) _) | refine b_dn ?_ | refine b_dr ?_ | (refine b_cl ?_ (Nat.le_refl _) (by assumption))))⟩
    · rw [if_neg h2]
      have h1' : y ≤ c := by omega
      have h2' : c ≤ y := by omega
      go_enter Try.func47, Try.ntmps47
      go_wp2
      go_ret
      exact ⟨rfl, by (repeat (first | exact Below.refl _ _ | (refine b_st ?_ (by first | (simp; done) | (simp; omega))) | (refine b_al ?_ (Nat.le_refl _) _) | refine b_dn ?_ | refine b_dr ?_ | (refine b_cl ?_ (Nat.le_refl _) (by assumption))))⟩

theorem alone_no_kind (x y z : Int) (w : World) (h : ¬ (0 ≤ x ∧ x < 4)) :
    Calls Try.prog 46 #[.agg #[.int .i64 x, .int .i64 y, .int .i64 z]] w fun e w' => e = .returned (.int .i64 2) ∧ Below w.heap.size w w' := by
  have C := fun W => isKind_no x W h
  clear h
  go_enter Try.func46, Try.ntmps46
  go_wp2_with (first | (go_at_call 57; (with_reducible refine (C _).mono ?_); rintro e w' ⟨rfl, rfl⟩))
  go_ret
  exact ⟨rfl, by (repeat (first | exact Below.refl _ _ | (refine b_st ?_ (by first | (simp; done) | (simp; omega))) | (refine b_al ?_ (Nat.le_refl _) _) | refine b_dn ?_ | refine b_dr ?_ | (refine b_cl ?_ (Nat.le_refl _) (by assumption))))⟩

theorem alone_no_from (x y z : Int) (w : World) (h : 0 ≤ x ∧ x < 4) (hy : ¬ (0 ≤ y ∧ y ≤ 40320)) :
    Calls Try.prog 46 #[.agg #[.int .i64 x, .int .i64 y, .int .i64 z]] w fun e w' => e = .returned (.int .i64 4) ∧ Below w.heap.size w w' := by
  have C := fun W => isKind_yes x W h
  have D := fun W => inTime_no y W hy
  clear h hy
  go_enter Try.func46, Try.ntmps46
  go_wp2_with (first | (go_at_call 57; (with_reducible refine (C _).mono ?_); rintro e w' ⟨rfl, rfl⟩) | (go_at_call 58; (with_reducible refine (D _).mono ?_); rintro e w' ⟨rfl, rfl⟩))
  go_ret
  exact ⟨rfl, by (repeat (first | exact Below.refl _ _ | (refine b_st ?_ (by first | (simp; done) | (simp; omega))) | (refine b_al ?_ (Nat.le_refl _) _) | refine b_dn ?_ | refine b_dr ?_ | (refine b_cl ?_ (Nat.le_refl _) (by assumption))))⟩

theorem alone_no_to (x y z : Int) (w : World) (h : 0 ≤ x ∧ x < 4) (hy : 0 ≤ y ∧ y ≤ 40320) (hz : ¬ (0 ≤ z ∧ z ≤ 40320)) :
    Calls Try.prog 46 #[.agg #[.int .i64 x, .int .i64 y, .int .i64 z]] w fun e w' => e = .returned (.int .i64 4) ∧ Below w.heap.size w w' := by
  have C := fun W => isKind_yes x W h
  have D := fun W => inTime_yes y W hy
  have E := fun W => inTime_no z W hz
  have tok1 : True := trivial
  clear h hy hz
  go_enter Try.func46, Try.ntmps46
  go_wp2_with (first | (go_at_call 57; (with_reducible refine (C _).mono ?_); rintro e w' ⟨rfl, rfl⟩) | (go_at_call 58; (clear tok1); (with_reducible refine (D _).mono ?_); rintro e w' ⟨rfl, rfl⟩) | (go_at_call 58; (with_reducible refine (E _).mono ?_); rintro e w' ⟨rfl, rfl⟩))
  go_ret
  exact ⟨rfl, by (repeat (first | exact Below.refl _ _ | (refine b_st ?_ (by first | (simp; done) | (simp; omega))) | (refine b_al ?_ (Nat.le_refl _) _) | refine b_dn ?_ | refine b_dr ?_ | (refine b_cl ?_ (Nat.le_refl _) (by assumption))))⟩

theorem alone_in (x y z : Int) (g : Bool) (w : World) (h : 0 ≤ x ∧ x < 4) (hy : 0 ≤ y ∧ y ≤ 40320) (hz : 0 ≤ z ∧ z ≤ 40320) (hg : decide (y < z) = g) :
    Calls Try.prog 46 #[.agg #[.int .i64 x, .int .i64 y, .int .i64 z]] w fun e w' => e = .returned (.int .i64 (if g then 0 else 3)) ∧ Below w.heap.size w w' := by
  have C := fun W => isKind_yes x W h
  have D := fun W => inTime_yes y W hy
  have E := fun W => inTime_yes z W hz
  have G := fun W => right_any y z W
  rw [hg] at G
  have tok1 : True := trivial
  clear h hy hz hg
  cases g
  · go_enter Try.func46, Try.ntmps46
    go_wp2_with (first | (go_at_call 57; (with_reducible refine (C _).mono ?_); rintro e w' ⟨rfl, rfl⟩) | (go_at_call 58; (clear tok1); (with_reducible refine (D _).mono ?_); rintro e w' ⟨rfl, rfl⟩) | (go_at_call 58; (with_reducible refine (E _).mono ?_); rintro e w' ⟨rfl, rfl⟩) | (go_at_call 60; refine (recspan_any _ _ _ _).mono ?_; rintro e w1 ⟨rfl, hb1⟩) | (go_at_call 59; (with_reducible refine (G _).mono ?_); rintro e w2 ⟨rfl, hb2⟩))
    go_ret
    exact ⟨rfl, by (repeat (first | exact Below.refl _ _ | (refine b_st ?_ (by first | (simp; done) | (simp; omega))) | (refine b_al ?_ (Nat.le_refl _) _) | refine b_dn ?_ | refine b_dr ?_ | (refine b_cl ?_ (Nat.le_refl _) (by assumption))))⟩
  · go_enter Try.func46, Try.ntmps46
    go_wp2_with (first | (go_at_call 57; (with_reducible refine (C _).mono ?_); rintro e w' ⟨rfl, rfl⟩) | (go_at_call 58; (clear tok1); (with_reducible refine (D _).mono ?_); rintro e w' ⟨rfl, rfl⟩) | (go_at_call 58; (with_reducible refine (E _).mono ?_); rintro e w' ⟨rfl, rfl⟩) | (go_at_call 60; refine (recspan_any _ _ _ _).mono ?_; rintro e w1 ⟨rfl, hb1⟩) | (go_at_call 59; (with_reducible refine (G _).mono ?_); rintro e w2 ⟨rfl, hb2⟩))
    go_ret
    exact ⟨rfl, by (repeat (first | exact Below.refl _ _ | (refine b_st ?_ (by first | (simp; done) | (simp; omega))) | (refine b_al ?_ (Nat.le_refl _) _) | refine b_dn ?_ | refine b_dr ?_ | (refine b_cl ?_ (Nat.le_refl _) (by assumption))))⟩

theorem alone_any (x y z : Int) (w : World) :
    Calls Try.prog 46 #[.agg #[.int .i64 x, .int .i64 y, .int .i64 z]] w fun e w' => e = .returned (.int .i64 (aloneV x y z)) ∧ Below w.heap.size w w' := by
  unfold aloneV
  by_cases h : 0 ≤ x ∧ x < 4
  · rw [if_pos h]
    by_cases hy : 0 ≤ y ∧ y ≤ 40320
    · by_cases hz : 0 ≤ z ∧ z ≤ 40320
      · rw [if_pos ⟨hy, hz⟩]
        have := alone_in x y z _ w h hy hz rfl
        by_cases hg : y < z
        · rw [decide_eq_true hg] at this; rw [if_pos hg]; exact this
        · rw [decide_eq_false hg] at this; rw [if_neg hg]; exact this
      · rw [if_neg (fun k => hz k.2)]
        exact alone_no_to x y z w h hy hz
    · rw [if_neg (fun k => hy k.1)]
      exact alone_no_from x y z w h hy
  · rw [if_neg h]
    exact alone_no_kind x y z w h

end Go.Proofs.Ythiiipbfdgaemaa

/- A region that draws its order and makes memory; rows of a slice that the call itself has made. Conditions: none beyond each lemma's own premises. -/
namespace Go.Proofs.Ythiiipbfdgaemaa
open Go.RowKit

/-- A world in which all that lay in w lies unturned. -/
structure BelowOf (w : World) where
  world : World
  ok : Below w.heap.size w world

instance (w : World) : Inhabited (BelowOf w) := ⟨⟨w, Below.refl _ _⟩⟩

theorem BelowOf.cell {w : World} (p : BelowOf w) {a : Addr} {v : Value} (h : w.cell? a = some v) : p.world.cell? a = some v :=
  (p.ok.cell (World.block_lt_of_cell? w a h)).trans h

theorem wp_region_bel {P : Program} {id : Nat} {Q : Exit → Act → World → Prop} {a : Act} {w : World} {l : List Oper} (hm : P.follows .mixedOrders = true) (hB : Region.lexB .any l.toArray = true)
    (h : wpQuiet P l.toArray (fun w' => ∃ p : BelowOf w, w' = p.world) (fun a' => ∀ w', (∃ p : BelowOf w, w' = p.world) → Q .normal a' w') l a) : (Code.region id l.toArray true).wp P Q a w :=
  wp_region_quiet (C := fun w' => ∃ p : BelowOf w, w' = p.world) hm hB ⟨⟨w.drew, b_dr (Below.refl _ _)⟩, rfl⟩ (by simpa using h)

theorem bel_all {w : World} {Q : World → Prop} (h : ∀ wq, Below w.heap.size w wq → Q wq) : ∀ w', (∃ p : BelowOf w, w' = p.world) → Q w' := fun _ ⟨⟨_, ok⟩, e⟩ => e ▸ h _ ok

theorem Calls.bel_of {P : Program} {f : FuncId} {args : Array Value} {w : World} {p : BelowOf w} {v : Value}
    (h : Calls P f args p.world fun e w' => e = .returned v ∧ Below p.world.heap.size p.world w') : Calls P f args p.world fun e w'' => e = .returned v ∧ ∃ q : BelowOf w, w'' = q.world :=
  h.mono fun _ _ ⟨he, hb⟩ => ⟨he, ⟨_, p.ok.trans (hb.mono p.ok.size)⟩, rfl⟩

/-! ### Rows of a slice of the call's own -/

theorem row_below {base sz n : Nat} {e : TypeId} {w w' : World} {v : Value} {cs : List Value} (h : w.ownsRow base e sz v n cs) (hb : Below w.heap.size w w') : w'.ownsRow base e sz v n cs := by
  refine ⟨h.1, ?_⟩
  rcases h.2 with h2 | ⟨g, cap, cur, hv, hg, hh, r⟩
  · exact Or.inl h2
  · refine Or.inr ⟨g, cap, cur, hv, hg, ?_, r⟩
    have hlt : g < w.heap.size := by
      rcases Nat.lt_or_ge g w.heap.size with h | h
      · exact h
      · rw [Array.getElem?_eq_none h] at hh; cases hh
    rw [hb.block g hlt]; exact hh

theorem row_more {base base' sz n : Nat} {e : TypeId} {w : World} {v : Value} {cs : List Value} (h : w.ownsRow base e sz v n cs) (hb : base' ≤ base) : w.ownsRow base' e sz v n cs := by
  refine ⟨h.1, ?_⟩
  rcases h.2 with h2 | ⟨g, cap, cur, hv, hg, hh, r⟩
  · exact Or.inl h2
  · exact Or.inr ⟨g, cap, cur, hv, Nat.le_trans hb hg, hh, r⟩

theorem row_form {base sz n : Nat} {e : TypeId} {w : World} {v : Value} {cs : List Value} (h : w.ownsRow base e sz v n cs) : ∃ A c, v = .slice A n c ∧ (n ≠ 0 → ∃ g, A = some ⟨g, 0, none⟩ ∧ base ≤ g ∧ g < w.heap.size) ∧ (n = 0 → A = none → c = 0) := by
  have h0 := h
  rcases h.2 with ⟨rfl, hn⟩ | ⟨g, cap, cur, rfl, hb, hg, h1, h2, h3, h4⟩
  · subst hn; exact ⟨none, 0, rfl, fun h => absurd rfl h, fun _ _ => rfl⟩
  · exact ⟨some ⟨g, 0, none⟩, cap, rfl, fun _ => ⟨g, rfl, hb, (h0.lt g rfl).2⟩, fun _ h => by cases h⟩

/-- The block, where there is one: it may be written. -/
theorem row_some {base sz n c b off : Nat} {e : TypeId} {w : World} {cs : List Value} (h : w.ownsRow base e sz (.slice (some ⟨b, off, none⟩) n c) n cs) : off = 0 ∧ base ≤ b ∧ ∀ j, w.frozen? ⟨b, j, none⟩ = false := by
  rcases h.2 with ⟨h', _⟩ | ⟨g, cap, cur, h', hb, hg, _⟩
  · simp at h'
  · simp only [Value.slice.injEq, Option.some.injEq, Addr.mk.injEq, and_true] at h'
    obtain ⟨⟨rfl, rfl⟩, _, rfl⟩ := h'
    exact ⟨rfl, hb, fun j => by simp [World.frozen?, hg]⟩

/-- Behind an append ahead of which two blocks were made. -/
theorem grown_two {W w5 : World} {row : Option Nat} {base : Nat} {o1 o2 : Obj} (hg : ((W.alloc o1).alloc o2).grownBy w5 row) (hrow : ∀ k, row = some k → base ≤ k ∧ k < W.heap.size) (hbase : base ≤ W.heap.size) :
    w5.heap[W.heap.size]? = some o1 ∧ Below base W w5 ∧ W.heap.size + 2 ≤ w5.heap.size := by
  have hs : ((W.alloc o1).alloc o2).heap.size = W.heap.size + 2 := by simp
  have hz := hg.size
  refine ⟨?_, ((((Below.refl base W).alloc hbase o1).alloc (by simp; omega) o2).grown hg (by simp; omega) (fun k hk => (hrow k hk).1)), by omega⟩
  rw [hg.block W.heap.size (by omega) (fun e => by have := (hrow _ e.symm).2; omega), Below.heap_alloc _ _ _ (by simp)]
  exact heap_alloc_new W o1

/-- A span in a block of its own, that may be written. -/
structure Box2 (w : World) (B : Nat) (x y : Int) : Prop where
  c0 : w.cell? ⟨B, 0, none⟩ = some (.int .i64 x)
  c1 : w.cell? ⟨B, 1, none⟩ = some (.int .i64 y)
  f0 : w.frozen? ⟨B, 0, none⟩ = false
  f1 : w.frozen? ⟨B, 1, none⟩ = false

theorem Box2.lt {w : World} {B : Nat} {x y : Int} (h : Box2 w B x y) : B < w.heap.size := World.block_lt_of_cell? w ⟨B, 0, none⟩ h.c0

theorem Box2.new (w : World) (x y : Int) (t : TypeId) : Box2 (w.alloc (.cells #[.int .i64 x, .int .i64 y] t)) w.heap.size x y := ⟨by simp, by simp, by simp, by simp⟩

theorem Box2.newAt (w : World) {n : Nat} (hn : n = w.heap.size) (x y : Int) (t : TypeId) : Box2 (w.alloc (.cells #[.int .i64 x, .int .i64 y] t)) n x y := by
  subst hn; exact Box2.new w x y t

theorem Box2.below {w w' : World} {B : Nat} {x y : Int} (h : Box2 w B x y) (hb : Below w.heap.size w w') : Box2 w' B x y :=
  ⟨by rw [hb.cell (p := ⟨B, 0, none⟩) h.lt]; exact h.c0, by rw [hb.cell (p := ⟨B, 1, none⟩) h.lt]; exact h.c1, by rw [hb.frozen (p := ⟨B, 0, none⟩) h.lt]; exact h.f0, by rw [hb.frozen (p := ⟨B, 1, none⟩) h.lt]; exact h.f1⟩

theorem Box2.alloc {w : World} {B : Nat} {x y : Int} (h : Box2 w B x y) (o : Obj) : Box2 (w.alloc o) B x y := h.below ((Below.refl _ _).alloc (Nat.le_refl _) o)

theorem Box2.set1 {w : World} {B : Nat} {x y : Int} (h : Box2 w B x y) (z : Int) : Box2 (w.setCell ⟨B, 1, none⟩ (.int .i64 z)) B x z :=
  ⟨by rw [World.cell?_setCell_other w _ _ _ (by simp)]; exact h.c0, World.cell?_setCell_same' _ _ _ (by rw [h.c1]; rfl), by rw [World.frozen?_setCell]; exact h.f0, by rw [World.frozen?_setCell]; exact h.f1⟩

theorem Box2.set0 {w : World} {B : Nat} {x y : Int} (h : Box2 w B x y) (z : Int) : Box2 (w.setCell ⟨B, 0, none⟩ (.int .i64 z)) B z y :=
  ⟨World.cell?_setCell_same' _ _ _ (by rw [h.c0]; rfl), by rw [World.cell?_setCell_other w _ _ _ (by simp)]; exact h.c1, by rw [World.frozen?_setCell]; exact h.f0, by rw [World.frozen?_setCell]; exact h.f1⟩

theorem Box2.other {w : World} {B : Nat} {x y : Int} (h : Box2 w B x y) {p : Addr} (hp : p.block ≠ B) (u : Value) : Box2 (w.setCell p u) B x y :=
  ⟨by rw [World.cell?_setCell_other w _ _ _ (by rintro rfl; exact hp rfl)]; exact h.c0, by rw [World.cell?_setCell_other w _ _ _ (by rintro rfl; exact hp rfl)]; exact h.c1, by rw [World.frozen?_setCell]; exact h.f0, by rw [World.frozen?_setCell]; exact h.f1⟩

theorem b_un {n : Nat} {w W : World} (h : Below n w.drew W) : Below n w W := ⟨h.os, h.tape, h.output, h.size, h.block⟩

theorem c_dr {W : World} {p : Addr} {v : Value} (h : W.cell? p = some v) : W.drew.cell? p = some v := h

theorem nonnil {α : Type} {l : List α} {k : Nat} (h : k < l.length) : l ≠ [] := by rintro rfl; cases h

theorem b_tr {a b c : World} (h1 : Below a.heap.size a b) (h2 : Below b.heap.size b c) : Below a.heap.size a c := h1.trans (h2.mono h1.size)

theorem addr_plain (b off i : Nat) : (⟨b, off, none⟩ : Addr).add i = ⟨b, off + i, none⟩ := by
  unfold Addr.add
  by_cases h : i = 0 <;> simp [h]

end Go.Proofs.Ythiiipbfdgaemaa

/- What Name, Article and Find of layer 15 return, and the document's own. Conditions: the table of the clauses' names and articles reads as the program lays it. -/
namespace Go.Proofs.Ythiiipbfdgaemaa
open Go.RowKit

/-- Its cells. -/
def tvL : List Value := (List.range 16).flatMap fun k => [.string (nmB k), .string (arB k)]

theorem tv_len : tvL.length = 32 := by decide +kernel
theorem tv_at : ∀ k, k < 16 → tvL[k * 2]? = some (.string (nmB k)) ∧ tvL[k * 2 + 1]? = some (.string (arB k)) := by
  intro k hk
  have : k = 0 ∨ k = 1 ∨ k = 2 ∨ k = 3 ∨ k = 4 ∨ k = 5 ∨ k = 6 ∨ k = 7 ∨ k = 8 ∨ k = 9 ∨ k = 10 ∨ k = 11 ∨ k = 12 ∨ k = 13 ∨ k = 14 ∨ k = 15 := by omega
  rcases this with rfl | rfl | rfl | rfl | rfl | rfl | rfl | rfl | rfl | rfl | rfl | rfl | rfl | rfl | rfl | rfl <;> exact ⟨rfl, rfl⟩

theorem is_any (c : Int) (w : World) :
    Calls Try.prog 37 #[.int .i64 c] w fun e w' => e = .returned (.bool (decide (isC c))) ∧ w = w' := by
  by_cases h : isC c
  · rw [decide_eq_true h]
    obtain ⟨h0, h1⟩ := h
    go_enter Try.func37, Try.ntmps37
    go_wp2
    go_ret
    exact ⟨rfl, rfl⟩
  · rw [decide_eq_false h]
    by_cases h0 : 0 ≤ c
    · have h1 : ¬ c < 16 := fun k => h ⟨h0, k⟩
      clear h
      go_enter Try.func37, Try.ntmps37
      go_wp2
      go_ret
      exact ⟨rfl, rfl⟩
    · clear h
      go_enter Try.func37, Try.ntmps37
      go_wp2
      go_ret
      exact ⟨rfl, rfl⟩

end Go.Proofs.Ythiiipbfdgaemaa

/- Slices of findings that can be read, or that the call itself has made. Conditions: none beyond each lemma's own premises. -/
namespace Go.Proofs.Ythiiipbfdgaemaa
open Go.RowKit

/-! ### Findings -/

/-- At the address A the findings of l lie one behind the other (of no finding nothing is asked). -/
def RdF (w : World) (A : Option Addr) (l : List Rc) : Prop :=
  l ≠ [] → ∃ b off, A = some ⟨b, off, none⟩ ∧ b < w.heap.size ∧ ∀ k, k < l.length →
    w.cell? ⟨b, off + k * 3, none⟩ = some (.int .i64 (l.getD k rz).1) ∧ w.cell? ⟨b, off + k * 3 + 1, none⟩ = some (.int .i64 (l.getD k rz).2.1) ∧ w.cell? ⟨b, off + k * 3 + 2, none⟩ = some (.int .i64 (l.getD k rz).2.2)

theorem RdF.nil (w : World) (A : Option Addr) : RdF w A [] := fun h => absurd rfl h

theorem RdF.at_ {w : World} {A : Option Addr} {l : List Rc} (h : RdF w A l) {k : Nat} (hk : k < l.length) : ∃ b off x y z, A = some ⟨b, off, none⟩ ∧ b < w.heap.size ∧
    w.cell? ⟨b, off + k * 3, none⟩ = some (.int .i64 x) ∧ w.cell? ⟨b, off + k * 3 + 1, none⟩ = some (.int .i64 y) ∧ w.cell? ⟨b, off + k * 3 + 2, none⟩ = some (.int .i64 z) ∧ Hid (l.getD k rz = (x, y, z)) := by
  obtain ⟨b, off, hA, hb, hc⟩ := h (nonnil hk)
  exact ⟨b, off, _, _, _, hA, hb, (hc k hk).1, (hc k hk).2.1, (hc k hk).2.2, Lib.hid rfl⟩

theorem RdF.below {w w' : World} {A : Option Addr} {l : List Rc} (h : RdF w A l) (hb : Below w.heap.size w w') : RdF w' A l := fun hl => by
  obtain ⟨b, off, hA, hbb, hk⟩ := h hl
  exact ⟨b, off, hA, Nat.lt_of_lt_of_le hbb hb.size, fun k hk' => ⟨by rw [hb.cell (p := ⟨b, _, none⟩) hbb]; exact (hk k hk').1, by rw [hb.cell (p := ⟨b, _, none⟩) hbb]; exact (hk k hk').2.1, by rw [hb.cell (p := ⟨b, _, none⟩) hbb]; exact (hk k hk').2.2⟩⟩

def flatF (l : List Rc) : List Value := l.flatMap fun s => [.int .i64 s.1, .int .i64 s.2.1, .int .i64 s.2.2]

theorem flatF_cons (s : Rc) (l : List Rc) : flatF (s :: l) = .int .i64 s.1 :: .int .i64 s.2.1 :: .int .i64 s.2.2 :: flatF l := rfl
theorem flatF_append (a b : List Rc) : flatF (a ++ b) = flatF a ++ flatF b := by simp [flatF]

theorem flatF_len (l : List Rc) : (flatF l).length = l.length * 3 := by
  induction l with
  | nil => rfl
  | cons s l ih => rw [flatF_cons, List.length_cons, List.length_cons, List.length_cons, ih, List.length_cons]; omega

theorem flatF_get : ∀ (l : List Rc) (k : Nat), k < l.length → (flatF l)[k * 3]? = some (.int .i64 (l.getD k rz).1) ∧ (flatF l)[k * 3 + 1]? = some (.int .i64 (l.getD k rz).2.1) ∧ (flatF l)[k * 3 + 2]? = some (.int .i64 (l.getD k rz).2.2)
  | s :: l, 0, _ => by simp [flatF_cons]
  | s :: l, k + 1, h => by
    have ih := flatF_get l k (by simpa using h)
    have e : (k + 1) * 3 = k * 3 + 1 + 1 + 1 := by omega
    rw [e, flatF_cons]
    simpa using ih

theorem flatF_one {l : List Rc} {u : Value} (h : u ∈ flatF l) : u.oneCell' = true := by
  obtain ⟨s, _, hs⟩ := List.mem_flatMap.1 h
  simp at hs
  rcases hs with rfl | rfl | rfl <;> rfl

theorem flatF_set (a : List Rc) (k x y z : Int) : (flatF (a ++ [(k, x, y)])).set (a.length * 3 + 2) (.int .i64 z) = flatF (a ++ [(k, x, z)]) := by
  rw [flatF_append, flatF_append, List.set_append_right _ _ (by rw [flatF_len]; omega), flatF_len]
  have e : a.length * 3 + 2 - a.length * 3 = 2 := by omega
  rw [e]
  rfl

/-- The slice is the call's own (its block's number is base or more) and holds l. -/
def OwnF (base : Nat) (w : World) (v : Value) (l : List Rc) : Prop := w.ownsRow base 62 3 v l.length (flatF l)

theorem OwnF.nil (base : Nat) (w : World) : OwnF base w (.slice none 0 0) [] := World.ownsRow_nil w base _ 3

theorem OwnF.read {base : Nat} {w : World} {v : Value} {l : List Rc} (h : OwnF base w v l) : ∃ A c, v = .slice A l.length c ∧ RdF w A l ∧ (A = none → c = 0) := by
  have h0 := h
  rcases h.2 with ⟨rfl, hn⟩ | ⟨g, cap, cur, rfl, hb, hg, h1, h2, h3, h4⟩
  · obtain rfl : l = [] := List.eq_nil_of_length_eq_zero hn
    exact ⟨none, 0, rfl, RdF.nil _ _, fun _ => rfl⟩
  · refine ⟨some ⟨g, 0, none⟩, cap, rfl, fun _ => ⟨g, 0, rfl, (World.ownsRow.lt h0 g rfl).2, fun k hk => ?_⟩, fun h => by cases h⟩
    have hf := flatF_get l k hk
    rw [Nat.zero_add, World.ownsRow.cellAt h0 (k * 3) (by omega), World.ownsRow.cellAt h0 (k * 3 + 1) (by omega), World.ownsRow.cellAt h0 (k * 3 + 2) (by omega)]
    exact hf

theorem OwnF.rd {base : Nat} {w : World} {A : Option Addr} {n c : Nat} {l : List Rc} (h : OwnF base w (.slice A n c) l) : RdF w A l := by
  obtain ⟨A', c', he, hr, _⟩ := h.read
  injection he with e1 e2 e3
  rw [e1]; exact hr

theorem OwnF.below {base : Nat} {w w' : World} {v : Value} {l : List Rc} (h : OwnF base w v l) (hb : Below w.heap.size w w') : OwnF base w' v l := row_below h hb
theorem OwnF.more {base base' : Nat} {w : World} {v : Value} {l : List Rc} (h : OwnF base w v l) (hb : base' ≤ base) : OwnF base' w v l := row_more h hb
theorem OwnF.alloc {base : Nat} {w : World} {v : Value} {l : List Rc} (h : OwnF base w v l) (o : Obj) : OwnF base (w.alloc o) v l := World.ownsRow.alloc h o

theorem OwnF.snoc {base : Nat} {w : World} {v : Value} {l : List Rc} {k x y : Int} (h : w.ownsRow base 62 3 v (l.length + 1) (flatF l ++ [.int .i64 k, .int .i64 x, .int .i64 y])) : OwnF base w v (l ++ [(k, x, y)]) := by
  unfold OwnF
  rw [flatF_append, List.length_append]
  exact h

theorem OwnF.stored {base : Nat} {w : World} {b n c : Nat} {o : List Rc} {k x y z : Int} (h : OwnF base w (.slice (some ⟨b, 0, none⟩) n c) (o ++ [(k, x, y)])) (hn : n = o.length + 1) :
    OwnF base (w.setCell ⟨b, o.length * 3 + 2, none⟩ (.int .i64 z)) (.slice (some ⟨b, 0, none⟩) n c) (o ++ [(k, x, z)]) := by
  have e1 : (o ++ [(k, x, y)]).length = n := by rw [hn]; simp
  have e2 : (o ++ [(k, x, z)]).length = n := by rw [hn]; simp
  unfold OwnF at *
  rw [e1] at h
  rw [e2]
  have h2 := (World.ownsRow.stored h (o.length * 3 + 2) (.int .i64 z)).1
  rw [flatF_set] at h2
  exact h2

theorem OwnF.some_ {base : Nat} {w : World} {b off n c : Nat} {l : List Rc} (h : OwnF base w (.slice (some ⟨b, off, none⟩) n c) l) : off = 0 ∧ base ≤ b ∧ ∀ j, w.frozen? ⟨b, j, none⟩ = false := by
  rcases h.2 with ⟨h', _⟩ | ⟨g, cap, cur, h', hb, hg, _⟩
  · simp at h'
  · simp only [Value.slice.injEq, Option.some.injEq, Addr.mk.injEq, and_true] at h'
    obtain ⟨⟨rfl, rfl⟩, _, rfl⟩ := h'
    exact ⟨rfl, hb, fun j => by simp [World.frozen?, hg]⟩

theorem info_find : (Try.prog.info? 62).map (fun i => (i.zero, i.size, i.bytes)) = some (some (.agg #[.int .i64 0, .int .i64 0, .int .i64 0]), 3, 24) := by kernel_rfl

/-- The cells of one finding in a block of their own. -/
theorem find_news {w : World} {n : Nat} (hn : n = w.heap.size) {k x y : Int} {t : TypeId} : ∀ j u, ([.int .i64 k, .int .i64 x, .int .i64 y] : List Value)[j]? = some u → (w.alloc (.cells #[.int .i64 k, .int .i64 x, .int .i64 y] t)).cell? ((⟨n, 0, none⟩ : Addr).add j) = some u := by
  intro j u hj
  subst hn
  match j, hj with
  | 0, hj => simp at hj; subst hj; simp [Addr.add]
  | 1, hj => simp at hj; subst hj; simp [Addr.add]
  | 2, hj => simp at hj; subst hj; simp [Addr.add]
  | j + 3, hj => simp at hj

theorem find_cells {k x y : Int} : ∀ u ∈ ([.int .i64 k, .int .i64 x, .int .i64 y] : List Value), u.oneCell' = true := by
  intro u hu
  simp at hu
  rcases hu with rfl | rfl | rfl <;> rfl

/-- The cells of a slice that reads as l, one by one. -/
theorem RdF.news {w : World} {ad : Addr} {l : List Rc} (h : RdF w (some ad) l) : ∀ j u, (flatF l)[j]? = some u → w.cell? (ad.add j) = some u := by
  intro j u hu
  have hj : j < l.length * 3 := by
    rw [← flatF_len]
    exact (List.getElem?_eq_some_iff.1 hu).1
  obtain ⟨b, off, hA, _, hc⟩ := h (nonnil (k := j / 3) (by omega))
  injection hA with hA
  subst hA
  have hk : j / 3 < l.length := by omega
  have hf := flatF_get l (j / 3) hk
  have hcc := hc (j / 3) hk
  rw [addr_plain]
  have hm : j = j / 3 * 3 ∨ j = j / 3 * 3 + 1 ∨ j = j / 3 * 3 + 2 := by omega
  rcases hm with e | e | e
  · rw [e, hf.1] at hu
    injection hu with hu
    rw [e, ← hu]; exact hcc.1
  · rw [e, hf.2.1] at hu
    injection hu with hu
    rw [e, ← hu, ← Nat.add_assoc]; exact hcc.2.1
  · rw [e, hf.2.2] at hu
    injection hu with hu
    rw [e, ← hu, ← Nat.add_assoc]; exact hcc.2.2

/-- A finding in a block of its own. -/
structure BoxF (w : World) (B : Nat) (k x y : Int) : Prop where
  c0 : w.cell? ⟨B, 0, none⟩ = some (.int .i64 k)
  c1 : w.cell? ⟨B, 1, none⟩ = some (.int .i64 x)
  c2 : w.cell? ⟨B, 2, none⟩ = some (.int .i64 y)

theorem BoxF.new (w : World) (k x y : Int) (t : TypeId) : BoxF (w.alloc (.cells #[.int .i64 k, .int .i64 x, .int .i64 y] t)) w.heap.size k x y := ⟨by simp, by simp, by simp⟩
theorem BoxF.below {w w' : World} {B : Nat} {k x y : Int} (h : BoxF w B k x y) (hb : Below w.heap.size w w') : BoxF w' B k x y := ⟨c_cl h.c0 hb, c_cl h.c1 hb, c_cl h.c2 hb⟩

end Go.Proofs.Ythiiipbfdgaemaa

/- What the document's own Same of layer 15 returns. Conditions: the findings can be read. -/
namespace Go.Proofs.Ythiiipbfdgaemaa
open Go.RowKit

theorem samef_go {a b : List Rc} {k : Nat} (h : a.length = b.length) (hk : a.length ≤ k) (hn : ∀ j, j < k → a.getD j rz = b.getD j rz) : decide (a = b) = true := by
  refine decide_eq_true (List.ext_getElem h fun i h1 h2 => ?_)
  have := hn i (by omega)
  simpa [List.getD, h1, h2] using this

theorem samef_no {a b : List Rc} {k : Nat} (h : a.getD k rz ≠ b.getD k rz) : decide (a = b) = false := by
  refine decide_eq_false fun e => h (by rw [e])

set_option maxHeartbeats 1600000 in
theorem sameF_even (A B : Option Addr) (c d n : Nat) (a b : List Rc) (w : World) (hna : Hid (a.length = n)) (hnb : Hid (b.length = n)) (ha : RdF w A a) (hb : RdF w B b) (hl : n ≤ 4611686018427387904) :
    Calls Try.prog 10 #[.slice A n c, .slice B n d] w fun e w' => e = .returned (.bool (decide (a = b))) ∧ Below w.heap.size w w' := by
  go_enter Try.func10, Try.ntmps10
  go_wp2
  go_loopw [5] (fun i wr => ∃ k : Nat, k ≤ n ∧ i = .int .i64 k ∧ Below w.heap.size w wr ∧ Hid (∀ j, j < k → a.getD j rz = b.getD j rz)) (fun i _ => n - (intOf i).toNat)
  case atStart => exact ⟨0, Nat.zero_le _, rfl, Below.refl _ _, Lib.hid (by omega)⟩
  case round =>
    obtain ⟨k, hk, rfl, hbw, hn⟩ := hrel
    have hsz := hbw.size
    by_cases hlt : k < n
    · obtain ⟨b1, off, x, y, z, rfl, hbb, hc0, hc1, hc2, hs⟩ := ha.at_ (k := k) (by rw [hna.out]; exact hlt)
      obtain ⟨b2, off2, x2, y2, z2, rfl, hbb2, hd0, hd1, hd2, hs2⟩ := hb.at_ (k := k) (by rw [hnb.out]; exact hlt)
      rw [← hbw.cell (p := ⟨b1, _, none⟩) hbb] at hc0 hc1 hc2
      rw [← hbw.cell (p := ⟨b2, _, none⟩) hbb2] at hd0 hd1 hd2
      have q0 : ∀ p : BelowOf wr, p.world.cell? ⟨b1, off + k * 3, none⟩ = some (.int .i64 x) := fun p => p.cell hc0
      have q1 : ∀ p : BelowOf wr, p.world.cell? ⟨b1, off + k * 3 + 1, none⟩ = some (.int .i64 y) := fun p => p.cell hc1
      have q2 : ∀ p : BelowOf wr, p.world.cell? ⟨b1, off + k * 3 + 2, none⟩ = some (.int .i64 z) := fun p => p.cell hc2
      have q3 : ∀ p : BelowOf wr, p.world.cell? ⟨b2, off2 + k * 3, none⟩ = some (.int .i64 x2) := fun p => p.cell hd0
      have q4 : ∀ p : BelowOf wr, p.world.cell? ⟨b2, off2 + k * 3 + 1, none⟩ = some (.int .i64 y2) := fun p => p.cell hd1
      have q5 : ∀ p : BelowOf wr, p.world.cell? ⟨b2, off2 + k * 3 + 2, none⟩ = some (.int .i64 z2) := fun p => p.cell hd2
      by_cases hx : x = x2
      · subst hx
        by_cases hy : y = y2
        · subst hy
          by_cases hz : z = z2
          · subst hz
            go_wp2
            refine wp_region_bel (by kernel_rfl) (by kernel_rfl) ?_
            repeat (go_big_quiet_step (first | (fail)))
            refine wpQuiet_nil ?_
            refine bel_all fun wq hbq => ?_
            clear q0 q1 q2 q3 q4 q5
            go_wp2
            go_roundw
            case rel => exact ⟨k + 1, by omega, by go_num, hbw.trans (hbq.mono hsz), Lib.hid (fun j hj => by
              by_cases e : j = k
              · subst e; rw [hs.out, hs2.out]
              · exact hn.out j (by omega))⟩
            case measure => simp [intOf]; omega
          · have e1 : (z == z2) = false := by simpa using hz
            have H := Lib.hid hz
            clear hz
            go_wp2
            refine wp_region_bel (by kernel_rfl) (by kernel_rfl) ?_
            repeat (go_big_quiet_step (first | (fail)))
            refine wpQuiet_nil ?_
            refine bel_all fun wq hbq => ?_
            clear q0 q1 q2 q3 q4 q5
            go_wp2
            go_ret
            refine ⟨?_, hbw.trans (hbq.mono hsz)⟩
            rw [samef_no (k := k) (by rw [hs.out, hs2.out]; intro e; simp only [Prod.mk.injEq] at e; exact H.out (by first | exact e.1 | exact e.2.1 | exact e.2.2))]; rfl
        · have e1 : (y == y2) = false := by simpa using hy
          have H := Lib.hid hy
          clear hy
          go_wp2
          refine wp_region_bel (by kernel_rfl) (by kernel_rfl) ?_
          repeat (go_big_quiet_step (first | (fail)))
          refine wpQuiet_nil ?_
          refine bel_all fun wq hbq => ?_
          clear q0 q1 q2 q3 q4 q5
          go_wp2
          go_ret
          refine ⟨?_, hbw.trans (hbq.mono hsz)⟩
          rw [samef_no (k := k) (by rw [hs.out, hs2.out]; intro e; simp only [Prod.mk.injEq] at e; exact H.out (by first | exact e.1 | exact e.2.1 | exact e.2.2))]; rfl
      · have e1 : (x == x2) = false := by simpa using hx
        have H := Lib.hid hx
        clear hx
        go_wp2
        refine wp_region_bel (by kernel_rfl) (by kernel_rfl) ?_
        repeat (go_big_quiet_step (first | (fail)))
        refine wpQuiet_nil ?_
        refine bel_all fun wq hbq => ?_
        clear q0 q1 q2 q3 q4 q5
        go_wp2
        go_ret
        refine ⟨?_, hbw.trans (hbq.mono hsz)⟩
        rw [samef_no (k := k) (by rw [hs.out, hs2.out]; intro e; simp only [Prod.mk.injEq] at e; exact H.out (by first | exact e.1 | exact e.2.1 | exact e.2.2))]; rfl
    · go_wp2
      go_ret
      refine ⟨?_, hbw⟩
      rw [samef_go (hna.out.trans hnb.out.symm) (by rw [hna.out]; omega) hn.out]; rfl

theorem sameF_any (A B : Option Addr) (c d n m : Nat) (a b : List Rc) (w : World) (hn : Hid (a.length = n)) (hm : Hid (b.length = m)) (ha : RdF w A a) (hb : RdF w B b) (hl : n ≤ 4611686018427387904) :
    Calls Try.prog 10 #[.slice A n c, .slice B m d] w fun e w' => e = .returned (.bool (decide (a = b))) ∧ Below w.heap.size w w' := by
  by_cases hlen : m = n
  · subst hlen
    exact sameF_even A B c d m a b w hn hm ha hb hl
  · have e : decide (a = b) = false := decide_eq_false fun e => hlen (by rw [← hn.out, ← hm.out, e])
    have hbl : ((n : Int) == (m : Int)) = false := by simp; omega
    rw [e]
    have H := Lib.hid hlen
    clear hlen e
    go_enter Try.func10, Try.ntmps10
    go_wp2
    go_ret
    exact ⟨rfl, Below.refl _ _⟩

end Go.Proofs.Ythiiipbfdgaemaa

/- A slice of spans that reads as a list, for any program. Conditions: none beyond each lemma's own premises. -/
namespace Go.Proofs.Ythiiipbfdgaemaa
open Go.RowKit

/-- At the address A the spans of l lie one behind the other, in a block of w (of no span nothing is asked). -/
def RdS (w : World) (A : Option Addr) (l : List Sp) : Prop :=
  l ≠ [] → ∃ b off, A = some ⟨b, off, none⟩ ∧ b < w.heap.size ∧ ∀ k, k < l.length →
    w.cell? ⟨b, off + k * 2, none⟩ = some (.int .i64 (l.getD k (0, 0)).1) ∧ w.cell? ⟨b, off + k * 2 + 1, none⟩ = some (.int .i64 (l.getD k (0, 0)).2)

theorem RdS.nil (w : World) (A : Option Addr) : RdS w A [] := fun h => absurd rfl h

theorem ne_nil_of_lt {l : List Sp} {k : Nat} (h : k < l.length) : l ≠ [] := by
  intro e; subst e; cases h

theorem RdS.at_ {w : World} {A : Option Addr} {l : List Sp} (h : RdS w A l) {k : Nat} (hk : k < l.length) : ∃ b off x y, A = some ⟨b, off, none⟩ ∧ b < w.heap.size ∧
    w.cell? ⟨b, off + k * 2, none⟩ = some (.int .i64 x) ∧ w.cell? ⟨b, off + k * 2 + 1, none⟩ = some (.int .i64 y) ∧ Hid (l.getD k (0, 0) = (x, y)) := by
  obtain ⟨b, off, hA, hb, hc⟩ := h (ne_nil_of_lt hk)
  exact ⟨b, off, _, _, hA, hb, (hc k hk).1, (hc k hk).2, Lib.hid rfl⟩

theorem RdS.keep {w w' : World} {A : Option Addr} {l : List Sp} (h : RdS w A l) (hs : w.heap.size ≤ w'.heap.size) (hc : ∀ p : Addr, p.block < w.heap.size → w'.cell? p = w.cell? p) : RdS w' A l := fun hl => by
  obtain ⟨b, off, hA, hb, hk⟩ := h hl
  exact ⟨b, off, hA, by omega, fun k hk' => ⟨by rw [hc _ hb]; exact (hk k hk').1, by rw [hc _ hb]; exact (hk k hk').2⟩⟩

theorem RdS.below {w w' : World} {A : Option Addr} {l : List Sp} (h : RdS w A l) (hb : Below w.heap.size w w') : RdS w' A l :=
  h.keep hb.size fun _ hp => hb.cell hp

end Go.Proofs.Ythiiipbfdgaemaa

/- What the reference's Has and Right of layer 3 return, for any slice of spans that can be read. Conditions: as each theorem says. -/
namespace Go.Proofs.Ythiiipbfdgaemaa
open Go.RowKit

set_option maxHeartbeats 400000 in
theorem refhasl_any (A : Option Addr) (c : Nat) (l : List Sp) (m : Int) (w : World) (h : RdS w A l) (hl : l.length ≤ 4611686018427387904) :
    Calls Try.prog 44 #[.slice A l.length c, .int .i64 m] w fun e w' => e = .returned (.bool (hasL l m)) ∧ Below w.heap.size w w' := by
  go_enter Try.func44, Try.ntmps44
  go_wp2
  go_loopw [5] (fun i wr => ∃ k : Nat, k ≤ l.length ∧ i = .int .i64 k ∧ Below w.heap.size w wr ∧ Hid (∀ s ∈ l.take k, ¬ (s.1 ≤ m ∧ m < s.2))) (fun i _ => l.length - (intOf i).toNat)
  case atStart => exact ⟨0, Nat.zero_le _, rfl, Below.refl _ _, Lib.hid (by simp)⟩
  case round =>
    obtain ⟨k, hk, rfl, hb, hn⟩ := hrel
    by_cases hlt : k < l.length
    · obtain ⟨b, off, x, y, rfl, hbb, hc1, hc2, hs⟩ := h.at_ hlt
      rw [← hb.cell (p := ⟨b, _, none⟩) hbb] at hc1 hc2
      have hsz := hb.size
      by_cases hxy : x ≤ m ∧ m < y
      · go_wp2_with (go_at_call 56; refine (refhas_yes _ _ _ _ hxy).mono ?_; rintro e w1 ⟨rfl, hb1⟩)
        go_ret
        refine ⟨?_, hb.trans (hb1.mono hsz)⟩
        rw [hasL_of l m k hlt (by rw [hs.out]; exact hxy)]; rfl
      · go_wp2_with (go_at_call 56; refine (refhas_no _ _ _ _ hxy).mono ?_; rintro e w1 ⟨rfl, hb1⟩)
        go_roundw
        case rel => exact ⟨k + 1, by omega, by go_num, hb.trans (hb1.mono hsz), Lib.hid (hasL_not l m k hlt (by rw [hs.out]; exact hxy) hn.out)⟩
        case measure => simp [intOf]; omega
    · go_wp2
      go_ret
      refine ⟨?_, hb⟩
      rw [hasL_no.2 (by have := hn.out; rwa [List.take_of_length_le (by omega)] at this)]; rfl

end Go.Proofs.Ythiiipbfdgaemaa

/- What Next of layer 3, and the reference's, return, for any slice of spans that can be read. Conditions: as each theorem says. -/
namespace Go.Proofs.Ythiiipbfdgaemaa
open Go.RowKit

theorem next_skip {m x y : Int} {acc : Int × Bool} (h : ¬ (x < y ∧ m < y)) : next1 m acc (x, y) = acc := by unfold next1; rw [if_neg h]

theorem next_take {m x y z : Int} {acc : Int × Bool} (h : x < y ∧ m < y) (hz : (if x < m then m else x) = z) (h2 : acc.2 = false ∨ z < acc.1) : next1 m acc (x, y) = (z, true) := by
  unfold next1; rw [if_pos h]; simp only [hz]; rw [if_pos h2]

theorem next_leave {m x y z : Int} {acc : Int × Bool} (h : x < y ∧ m < y) (hz : (if x < m then m else x) = z) (h2 : ¬ (acc.2 = false ∨ z < acc.1)) : next1 m acc (x, y) = acc := by
  unfold next1; rw [if_pos h]; simp only [hz]; rw [if_neg h2]

theorem next_end {l : List Sp} {m : Int} {k : Nat} {acc : Int × Bool} (hk : l.length ≤ k) (h : (l.take k).foldl (next1 m) (0, false) = acc) : nextL l m = acc := by
  rw [List.take_of_length_le hk] at h; exact h

theorem up2_next (x m : Int) : (if x < m then m else x) = up2 x m := by
  unfold up2; by_cases h : x < m
  · rw [if_pos h, if_neg (by omega)]
  · rw [if_neg h, if_pos (by omega)]

theorem both_next {x y m : Int} (hy : y ≤ 9223372036854775807) : (up2 x m < lo2 y 9223372036854775807) ↔ (x < y ∧ m < y) := by
  unfold up2 lo2; rw [if_pos hy]; split <;> omega

end Go.Proofs.Ythiiipbfdgaemaa

/- What the reference's Right of layer 3 returns, for any slice of spans that can be read. Conditions: as each theorem says. -/
namespace Go.Proofs.Ythiiipbfdgaemaa
open Go.RowKit

set_option maxHeartbeats 400000 in
theorem refrightl_any (A : Option Addr) (c : Nat) (l : List Sp) (w : World) (h : RdS w A l) (hl : l.length ≤ 4611686018427387904) :
    Calls Try.prog 62 #[.slice A l.length c] w fun e w' => e = .returned (.bool (rightB l)) ∧ Below w.heap.size w w' := by
  go_enter Try.func62, Try.ntmps62
  go_wp2
  go_loopw [3] (fun i wr => ∃ k : Nat, k ≤ l.length ∧ i = .int .i64 k ∧ Below w.heap.size w wr ∧ Hid (∀ j, j < k → okAt l j = true)) (fun i _ => l.length - (intOf i).toNat)
  case atStart => exact ⟨0, Nat.zero_le _, rfl, Below.refl _ _, Lib.hid (by omega)⟩
  case round =>
    obtain ⟨k, hk, rfl, hb, hn⟩ := hrel
    have hsz := hb.size
    by_cases hlt : k < l.length
    · obtain ⟨b, off, x, y, rfl, hbb, hc1, hc2, hs⟩ := h.at_ hlt
      rw [← hb.cell (p := ⟨b, _, none⟩) hbb] at hc1 hc2
      have q1 : ∀ p : BelowOf wr, p.world.cell? ⟨b, off + k * 2, none⟩ = some (.int .i64 x) := fun p => p.cell hc1
      have q2 : ∀ p : BelowOf wr, p.world.cell? ⟨b, off + k * 2 + 1, none⟩ = some (.int .i64 y) := fun p => p.cell hc2
      by_cases hxy : x < y
      · by_cases h0 : k = 0
        · subst h0
          have hg : decide ((0 : Int) < 0) = false := by decide
          simp only [Nat.zero_mul, Nat.add_zero] at q1 q2
          go_wp2
          refine wp_region_bel (by kernel_rfl) (by kernel_rfl) ?_
          repeat (go_big_quiet_step (first | (go_at_call 61; exact Calls.bel_of (refright_yes _ _ _ hxy))))
          refine wpQuiet_nil ?_
          rintro _ ⟨⟨wq, hbq⟩, rfl⟩
          clear q1 q2
          go_wp2
          go_roundw
          case rel => exact ⟨0 + 1, by omega, by go_num, hb.trans (hbq.mono hsz), Lib.hid (fun j hj => by
            have : j = 0 := by omega
            subst this
            unfold okAt; rw [hs.out]; simp [hxy])⟩
          case measure => simp [intOf]; omega
        · obtain ⟨j, rfl⟩ : ∃ j, k = j + 1 := ⟨k - 1, by omega⟩
          obtain ⟨b', off', x', y', hA, hbb', hc1', hc2', hs'⟩ := h.at_ (show j < l.length by omega)
          obtain ⟨rfl, rfl⟩ : b = b' ∧ off = off' := by simpa using hA
          clear hA
          rw [← hb.cell (p := ⟨b, _, none⟩) hbb'] at hc1' hc2'
          have q3 : ∀ p : BelowOf wr, p.world.cell? ⟨b, off + j * 2 + 1, none⟩ = some (.int .i64 y') := fun p => p.cell hc2'
          have hg : decide ((0 : Int) < (j : Int) + 1) = true := decide_eq_true (by omega)
          have ok : okAt l (j + 1) = decide (y' < x) := by
            unfold okAt; rw [hs.out, show j + 1 - 1 = j from rfl, hs'.out]; simp [hxy]
          have OK := Lib.hid ok
          clear ok
          by_cases hp : x ≤ y'
          · go_wp2
            refine wp_region_bel (by kernel_rfl) (by kernel_rfl) ?_
            repeat (go_big_quiet_step (first | (go_at_call 61; exact Calls.bel_of (refright_yes _ _ _ hxy))))
            refine wpQuiet_nil ?_
            rintro _ ⟨⟨wq, hbq⟩, rfl⟩
            clear q1 q2 q3
            go_wp2
            go_ret
            refine ⟨?_, hb.trans (hbq.mono hsz)⟩
            rw [rightB_no hlt (by rw [OK.out]; simp; omega)]; rfl
          · have hp' : y' < x := by omega
            go_wp2
            refine wp_region_bel (by kernel_rfl) (by kernel_rfl) ?_
            repeat (go_big_quiet_step (first | (go_at_call 61; exact Calls.bel_of (refright_yes _ _ _ hxy))))
            refine wpQuiet_nil ?_
            rintro _ ⟨⟨wq, hbq⟩, rfl⟩
            clear q1 q2 q3
            go_wp2
            go_roundw
            case rel => exact ⟨j + 1 + 1, by omega, by go_num, hb.trans (hbq.mono hsz), Lib.hid (fun i hi => by
              by_cases e : i = j + 1
              · subst e; rw [OK.out]; simpa using hp'
              · exact hn.out i (by omega))⟩
            case measure => simp [intOf]; omega
      · go_wp2
        refine wp_region_bel (by kernel_rfl) (by kernel_rfl) ?_
        repeat (go_big_quiet_step (first | (go_at_call 61; exact Calls.bel_of (refright_no _ _ _ (by omega)))))
        refine wpQuiet_nil ?_
        rintro _ ⟨⟨wq, hbq⟩, rfl⟩
        clear q1 q2
        go_wp2
        go_ret
        refine ⟨?_, hb.trans (hbq.mono hsz)⟩
        rw [rightB_no hlt (by unfold okAt; rw [hs.out]; simp; omega)]; rfl
    · go_wp2
      go_ret
      refine ⟨?_, hb⟩
      rw [rightB_yes fun j hj => hn.out j (by omega)]; rfl

end Go.Proofs.Ythiiipbfdgaemaa
