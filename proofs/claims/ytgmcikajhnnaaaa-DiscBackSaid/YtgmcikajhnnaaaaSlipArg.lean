/- A slip (a place, and a byte) as an argument: opened to its two numbers, and shut again. Conditions: none. -/
import Derived.Test.YtgmcikajhnnaaaaRows
import Derived.OpenShut
import Derived.ChangeSame
import Derived.Lib.SmallJoins
import Derived.ProofKit
namespace Go.Proofs.Ytgmcikajhnnaaaa
open Go.ChangeShapes Go.WideShapes Go.ChangeAt Go.RowKit Go.Joins

theorem cells_slip : Try.prog.cellsOf 34 = 2 := by kernel_rfl
set_option maxRecDepth 100000 in
theorem open_slip {H : Type} {enc : TypeId × Value → H} {w : World} {base : Nat} {spare : Nat → Bool} {held : Bool} {r : Reach} {b0 : Nat} {v : Value} {d : DataW H} {p : List MemPlace}
    (hv : Value.okWide Try.prog w r b0 34 v) (h : DataW.Trod enc Try.prog w base spare held 34 v d p) :
    ∃ a b : Int, v = .agg #[.int .i64 a, .int .u8 b] ∧ d = .agg [.lit (.int .i64 a), .lit (.int .u8 b)] ∧ p = [] ∧ (Lit.int .i64 a).wf = true ∧ (Lit.int .u8 b).wf = true := by
  obtain ⟨c0, c1, y0, y1, m, rfl, rfl, rfl, hy0, hy1⟩ := open_agg2 Try.underlying34 (by kernel_rfl) cells_slip hv h
  obtain ⟨a, e0, rfl, wa⟩ := DataW.trod_int Try.underlying3 hy0
  obtain ⟨b, e1, rfl, wb⟩ := DataW.trod_int Try.underlying5 hy1
  simp at e0 e1
  subst e0 e1
  exact ⟨a, b, rfl, rfl, rfl, wa, wb⟩
set_option maxRecDepth 100000 in
theorem shut_slip {H : Type} {enc : TypeId × Value → H} {w : World} {base : Nat} {spare : Nat → Bool} {held : Bool} {a b : Int} (wa : (Lit.int .i64 a).wf = true) (wb : (Lit.int .u8 b).wf = true) :
    DataW.Trod enc Try.prog w base spare held 34 (.agg #[.int .i64 a, .int .u8 b]) (.agg [.lit (.int .i64 a), .lit (.int .u8 b)]) [] :=
  shut_agg2 (y0 := (.lit (.int .i64 a), [])) (y1 := (.lit (.int .u8 b), [])) Try.underlying34 (by kernel_rfl) cells_slip ⟨1, by simp [DataW.trod, Try.underlying3, wa]⟩ ⟨1, by simp [DataW.trod, Try.underlying5, wb]⟩

end Go.Proofs.Ytgmcikajhnnaaaa
