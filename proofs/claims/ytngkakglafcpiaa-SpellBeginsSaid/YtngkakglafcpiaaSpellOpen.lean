/- A spell with what was ahead of it, as an argument: opened to its five cells. Conditions: none. -/
import Derived.Test.YtngkakglafcpiaaRows
import Derived.OpenShut
import Derived.ChangeSame
import Derived.ChangeArms
import Derived.Lib.SmallJoins
import Derived.Deep.Fields
import Derived.ProofKit
import Derived.KernelRfl
namespace Go.Proofs.Ytngkakglafcpiaa
open Go.ChangeShapes Go.WideShapes Go.ChangeAt Go.RowKit Go.Joins Go.Deep

theorem cells_rested : Try.prog.cellsOf 27 = 5 := by kernel_rfl
theorem cells_span12 : Try.prog.cellsOf 25 = 2 := by kernel_rfl
theorem cells_int12 : Try.prog.cellsOf 3 = 1 := by kernel_rfl
theorem cells_bool12 : Try.prog.cellsOf 4 = 1 := by kernel_rfl

set_option maxRecDepth 20000 in
/-- What lies in the two cells of a span that is read. -/
theorem read_span12 {H : Type} {enc : TypeId × Value → H} {w : World} {base : Nat} {spare : Nat → Bool} {held : Bool} {fuel : Nat} {cs : List Value} {x : DataW H × List MemPlace}
    (h : DataW.trod enc Try.prog w base spare held fuel 25 cs = some x) : ∃ f t : Int, cs = [.int .i64 f, .int .i64 t] := by
  obtain ⟨ys, n, _, _, hl, hyl, hf⟩ := DataW.trod_struct Try.underlying25 h
  rw [cells_span12] at hl
  match cs, hl with
  | [c0, c1], _ =>
    have hyl3 : ys.length = 2 := hyl
    match ys, hyl3 with
    | [y0, y1], _ =>
      obtain ⟨a, ha, _, _⟩ := DataW.trod_int Try.underlying3 (hf 0 _ rfl)
      obtain ⟨b, hb, _, _⟩ := DataW.trod_int Try.underlying3 (hf 1 _ rfl)
      simp [cells_int12] at ha hb
      exact ⟨a, b, by rw [ha, hb]⟩

set_option maxRecDepth 20000 in
theorem open_rested {H : Type} {enc : TypeId × Value → H} {w : World} {base : Nat} {spare : Nat → Bool} {held : Bool} {r : Reach} {b0 : Nat} {v : Value} {d : DataW H} {p : List MemPlace}
    (hv : Value.okWide Try.prog w r b0 27 v) (h : DataW.Trod enc Try.prog w base spare held 27 v d p) :
    ∃ (f t dawn : Int) (half split : Bool), v = .agg #[.int .i64 f, .int .i64 t, .int .i64 dawn, .bool half, .bool split] ∧ (Lit.int .i64 t).wf = true := by
  obtain ⟨cs, rfl, hsz⟩ := okWide_struct Try.underlying27 hv
  rw [cells_rested] at hsz
  obtain ⟨fuel, hf⟩ := h
  obtain ⟨xs, n, _, _, hl, hlen, hg⟩ := DataW.trod_struct Try.underlying27 hf
  obtain ⟨l, rfl⟩ : ∃ l : List Value, cs = l.toArray := ⟨cs.toList, by simp⟩
  have hl5 : l.length = 5 := by simpa using hsz
  match l, hl5 with
  | [c0, c1, c2, c3, c4], _ =>
    have hyl : xs.length = 4 := hlen
    match xs, hyl with
    | [y0, y1, y2, y3], _ =>
      have g0 := hg 0 _ rfl
      obtain ⟨f, t, hs⟩ := read_span12 g0
      obtain ⟨a, ha, _, _⟩ := DataW.trod_int Try.underlying3 (hg 1 _ rfl)
      obtain ⟨b, hb, _⟩ := DataW.trod_bool Try.underlying4 (hg 2 _ rfl)
      obtain ⟨c, hc, _⟩ := DataW.trod_bool Try.underlying4 (hg 3 _ rfl)
      simp [Value.cells, cells_int12, cells_bool12, cells_span12] at hs ha hb hc
      obtain ⟨rfl, rfl⟩ := hs
      subst ha hb hc
      obtain ⟨ys, m, _, _, _, hyl2, hf2⟩ := DataW.trod_struct Try.underlying25 g0
      have h2 : ys.length = 2 := hyl2
      match ys, h2 with
      | [z0, z1], _ =>
        obtain ⟨t', ht', _, wt⟩ := DataW.trod_int Try.underlying3 (hf2 1 _ rfl)
        simp [Value.cells, cells_int12, cells_span12] at ht'
        subst ht'
        exact ⟨f, t, a, b, c, rfl, wt⟩

end Go.Proofs.Ytngkakglafcpiaa
