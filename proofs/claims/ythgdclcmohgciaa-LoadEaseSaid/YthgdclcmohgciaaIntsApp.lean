/- Appending any ints to a slice of the call's own, whether they lie somewhere or there are none. Conditions: as the theorem says. -/
import Derived.Test.YthgdclcmohgciaaRows
import Derived.Test.YthgdclcmohgciaaBase
import Derived.Test.YthgdclcmohgciaaRow
import Derived.Test.YthgdclcmohgciaaRecMath
import Derived.Test.YthgdclcmohgciaaRecHeap
import Derived.Laws.AppendOwnNone
import Derived.OwnWalk
import Derived.Below
namespace Go.Proofs.Ythgdclcmohgciaa
open Go.RowKit

theorem ints_news {w : World} {ad : Addr} {l : List Int} (h : RdN w (some ad) l) : ∀ j u, (l.map (Value.int .i64))[j]? = some u → w.cell? (ad.add j) = some u := by
  intro j u hu
  have hj : j < l.length := by
    have := (List.getElem?_eq_some_iff.1 hu).1
    simpa using this
  obtain ⟨b, off, hA, _, hc⟩ := h (nonnil hj)
  injection hA with hA
  subst hA
  rw [addr_plain, hc j hj]
  rw [List.getElem?_map, List.getElem?_eq_getElem hj] at hu
  rw [List.getD_eq_getElem?_getD, List.getElem?_eq_getElem hj]
  simpa using hu

theorem wp_append_ints {o : Oper} {a : Act} {w : World} {K : Act → World → Prop} {Q : Exit → Act → World → Prop} (s x : Operand)
    (ho : o.op = .call { callee := .builtin .append, args := #[s, x], argTypes := #[22, 22] })
    (base : Nat) (v : Value) (xs : List Int) (hs : a.eval s = v) (hown : OwnN base w v xs)
    (A : Option Addr) (c : Nat) (l : List Int) (hx : a.eval x = .slice A l.length c) (hr : RdN w A l) (hz : A = none → c = 0)
    (hb : xs.length + l.length ≤ 1000000) (hbase : base ≤ w.heap.size)
    (h : ∀ v' w', OwnN base w' v' (xs ++ l) → Below base w w' → K (a.put o.dst v') w') : o.wp Try.prog a w K Q := by
  obtain ⟨i1, hj, hy0, hy1, hy2⟩ := info_parts info_int
  cases A with
  | none =>
    obtain rfl : l = [] := by
      apply Classical.byContradiction
      intro hl
      obtain ⟨b, off, e, _⟩ := hr hl
      cases e
    obtain rfl := hz rfl
    have hrun := run_append_owned_none (P := Try.prog) (w := w) base 22 o.type 3 i1 1 Try.underlying22 hj v xs.length _ hown
    unfold Oper.wp
    simp [execOp, ho, resolve, invoke, builtin, hs, hx, hrun, Result.andThen]
    exact h _ _ (by rw [List.append_nil]; exact hown) (Below.refl _ _)
  | some ad =>
    refine wp_append_own w s x 22 ho base 3 i1 (.int .i64 0) 1 8 Try.underlying22 hj hy0 hy1 hy2 rfl (by decide) v xs.length _ hs hown ad l.length c (l.map (Value.int .i64)) hx (by simp) (ints_news hr) (by intro u hu; obtain ⟨y, _, rfl⟩ := List.mem_map.1 hu; rfl) (by unfold maxLen; omega) (by omega) hbase (fun v' w' h2 h3 _ => ?_)
    refine h v' w' ?_ ((Below.refl base w).grown h3 hbase (fun q hq => (World.ownsRow.lt hown q hq).1))
    unfold OwnN
    rw [List.map_append, List.length_append]
    exact h2

end Go.Proofs.Ythgdclcmohgciaa
