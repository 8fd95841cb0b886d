/- Appending a triple, or many, to a slice of the call's own, of any struct type of three numbers; where it lies then. Conditions: as the theorems say. -/
import Derived.Test.YtpfmkggnnilknaaRows
import Derived.Test.YtpfmkggnnilknaaBase
import Derived.Test.YtpfmkggnnilknaaRow
import Derived.Test.YtpfmkggnnilknaaRecMath
import Derived.Test.YtpfmkggnnilknaaBox
import Derived.Test.YtpfmkggnnilknaaFindHeap
import Derived.Test.YtpfmkggnnilknaaTriHeap
import Derived.Test.YtpfmkggnnilknaaHeapHeap
import Derived.Test.YtpfmkggnnilknaaApart
import Derived.Laws.AppendOwn
import Derived.Laws.AppendOwnNone
import Derived.OwnWalk
import Derived.Below
namespace Go.Proofs.Ytpfmkggnnilknaa
open Go.RowKit

theorem maxLen_big {n : Nat} (h : n ≤ 2000000000000) : n ≤ maxLen := by unfold maxLen; omega

/-- The triples of a slice that can be read go behind those of one of the call's own. -/
theorem wp_app3 {o : Oper} {a : Act} {w : World} {K : Act → World → Prop} {Q : Exit → Act → World → Prop} (Ts T : TypeId) (hu : Try.prog.underlying Ts = some (.slice T))
    (hi : (Try.prog.info? T).map (fun i => (i.zero, i.size, i.bytes)) = some (some (.agg #[.int .i64 0, .int .i64 0, .int .i64 0]), 3, 24)) (s x : Operand)
    (ho : o.op = .call { callee := .builtin .append, args := #[s, x], argTypes := #[Ts, Ts] })
    (base : Nat) (v : Value) (l : List Rc) (hs : a.eval s = v) (hown : OwnT T base w v l) (A : Option Addr) (m c : Nat) (n : List Rc) (hx : a.eval x = .slice A m c) (hm : n.length = m) (hr : RdF w A n) (hz : A = none → c = 0)
    (hb : l.length + m ≤ 2000000000000) (hbase : base ≤ w.heap.size)
    (h : ∀ v' w', OwnT T base w' v' (l ++ n) → w.grownBy w' v.ownBlock → (∀ q, v'.ownBlock = some q → v.ownBlock = some q ∨ w.heap.size ≤ q) → K (a.put o.dst v') w') : o.wp Try.prog a w K Q := by
  obtain ⟨i1, hj, hy0, hy1, hy2⟩ := info_parts hi
  subst hm
  cases A with
  | none =>
    obtain rfl : n = [] := by
      apply Classical.byContradiction
      intro hl
      obtain ⟨b, off, e, _⟩ := hr hl
      cases e
    obtain rfl := hz rfl
    have hrun := run_append_owned_none (P := Try.prog) (w := w) base Ts o.type T i1 3 hu hj v l.length _ hown
    unfold Oper.wp
    simp [execOp, ho, resolve, invoke, builtin, hs, hx, hrun, Result.andThen]
    exact h _ _ (by rw [List.append_nil]; exact hown) ⟨rfl, rfl, rfl, Nat.le_refl _, fun _ _ _ => rfl⟩ (fun q hq => .inl hq)
  | some ad =>
    have hl : (flatF n).length = n.length * 3 := flatF_len n
    obtain ⟨v', w', hrun, h2, h3, _⟩ := run_append_own (P := Try.prog) w base Ts o.type T i1 _ 3 24 hu hj hy0 hy1 hy2 rfl (by decide) v l.length _ hown ad n.length c (flatF n) hl (RdF.news hr) (fun u hu => flatF_one hu) (maxLen_big hb) (by omega) hbase
    have h4 := append_apart hu hj hy0 hy1 hy2 rfl (by decide) hown hl (RdF.news hr) (fun u hu => flatF_one hu) (maxLen_big hb) (by omega) hrun
    unfold Oper.wp execOp
    simp only [ho, resolve, invoke, builtin, Sem.run_bind, Sem.run_pure, Result.andThen_ok, List.map_toArray, List.map_cons, List.map_nil, hs, hx, hrun]
    refine h v' w' ?_ h3 h4
    unfold OwnT
    rw [flatF_append, List.length_append]
    exact h2

theorem wpList_app3 {ops : Array Oper} {rest : List Oper} {o : Oper} {a : Act} {w : World} {Q : Exit → Act → World → Prop} (hgd : o.guard = none) (Ts T : TypeId) (hu : Try.prog.underlying Ts = some (.slice T))
    (hi : (Try.prog.info? T).map (fun i => (i.zero, i.size, i.bytes)) = some (some (.agg #[.int .i64 0, .int .i64 0, .int .i64 0]), 3, 24)) (s x : Operand)
    (ho : o.op = .call { callee := .builtin .append, args := #[s, x], argTypes := #[Ts, Ts] })
    (base : Nat) (v : Value) (l : List Rc) (hs : a.eval s = v) (hown : OwnT T base w v l) (A : Option Addr) (m c : Nat) (n : List Rc) (hx : a.eval x = .slice A m c) (hm : n.length = m) (hr : RdF w A n) (hz : A = none → c = 0)
    (hb : l.length + m ≤ 2000000000000) (hbase : base ≤ w.heap.size)
    (h : ∀ v' w', OwnT T base w' v' (l ++ n) → w.grownBy w' v.ownBlock → (∀ q, v'.ownBlock = some q → v.ownBlock = some q ∨ w.heap.size ≤ q) → wpList Try.prog ops Q rest (a.put o.dst v') w') : wpList Try.prog ops Q (o :: rest) a w :=
  wpList_plain hgd fun _ hK => wp_app3 Ts T hu hi s x ho base v l hs hown A m c n hx hm hr hz hb hbase fun v' w' h1 h2 h3 => hK _ _ (h v' w' h1 h2 h3)

/-- One triple in a block of its own, as a slice of one. -/
theorem RdF.one {w : World} {b : Nat} {t : TypeId} {x : Rc} (h : Bx w b t #[.int .i64 x.1, .int .i64 x.2.1, .int .i64 x.2.2]) : RdF w (some ⟨b, 0, none⟩) [x] := fun _ => ⟨b, 0, rfl, h.lt, fun k hk => by
  have : k = 0 := by simpa using hk
  subst this
  exact ⟨h.cell (k := 0) rfl, h.cell (k := 1) rfl, h.cell (k := 2) rfl⟩⟩

theorem OwnT.some1 {T : TypeId} {base : Nat} {w : World} {v : Value} {l : List Rc} (h : OwnT T base w v l) (hl : l ≠ []) : ∃ b c, v = .slice (some ⟨b, 0, none⟩) l.length c ∧ base ≤ b := by
  rcases h.2 with ⟨_, h'⟩ | ⟨g, cap, cur, h', hb, _⟩
  · exact absurd (List.eq_nil_of_length_eq_zero h') hl
  · exact ⟨g, cap, h', hb⟩

theorem OwnT.re {T : TypeId} {base b n c : Nat} {w : World} {l : List Rc} (h : OwnT T base w (.slice (some ⟨b, 0, none⟩) n c) l) : OwnT T b w (.slice (some ⟨b, 0, none⟩) n c) l := by
  obtain ⟨cur, _, hg, h1, h2, h3, h4, h5⟩ := h.cur
  exact OwnT.of_cur (Nat.le_refl _) hg h1 h2 h3 h4 h5

theorem Mv.grown {w w' : World} {g b : Nat} {row : Option Nat} (h : w.grownBy w' row) (hr : ∀ k, row = some k → k = b) : Mv w g b b w' :=
  ⟨h.size, fun k _ k2 k3 => h.block k k3 (fun e => k2 (hr k e.symm)), fun n _ n2 n3 => (Below.refl n w).grown h n3 (fun k e => by have := hr k e; omega), .inl rfl⟩

theorem info_item : (Try.prog.info? 28).map (fun i => (i.zero, i.size, i.bytes)) = some (some (.agg #[.int .i64 0, .int .i64 0, .int .i64 0]), 3, 24) := by kernel_rfl

theorem info_ritem : (Try.prog.info? 37).map (fun i => (i.zero, i.size, i.bytes)) = some (some (.agg #[.int .i64 0, .int .i64 0, .int .i64 0]), 3, 24) := by kernel_rfl

end Go.Proofs.Ytpfmkggnnilknaa
