/- Two meters as one argument: opened to what they hold; each of them loaded. Conditions: none beyond each lemma's own premises. -/
import Derived.Test.YtojdaigilagppaaRows
import Derived.Test.YtojdaigilagppaaBase
import Derived.Test.YtojdaigilagppaaBox
import Derived.Test.YtojdaigilagppaaMeterMath
import Derived.Test.YtojdaigilagppaaMeterOpen
import Derived.OpenShut
import Derived.ChangeSame
import Derived.ChangeArms
import Derived.Lib.SmallJoins
import Derived.Deep.Fields
import Derived.Deep.MidRow
import Derived.Laws.Tables
import Derived.Laws.Rows
import Derived.ProofKit
import Derived.KernelRfl
namespace Go.Proofs.Ytojdaigilagppaa
open Go.ChangeShapes Go.WideShapes Go.ChangeAt Go.RowKit Go.Joins Go.Deep

/-- Two meters, one behind the other. -/
def bo (s t : Mt) : Array Value := ((mt s).toList ++ (mt t).toList).toArray
theorem bo_size (s t : Mt) : (bo s t).size = 28 := rfl
theorem cells_both : Try.prog.cellsOf 29 = 28 := by kernel_rfl

set_option maxRecDepth 20000 in
/-- What lies in the cells of a meter that is read. -/
theorem read_meter17 {H : Type} {enc : TypeId × Value → H} {w : World} {base : Nat} {spare : Nat → Bool} {held : Bool} {fuel : Nat} {cs : List Value} {x : DataW H × List MemPlace}
    (h : DataW.trod enc Try.prog w base spare held fuel 25 cs = some x) : ∃ m : Mt, cs = (mt m).toList := by
  obtain ⟨xs, n, _, _, hl, hlen, hg⟩ := DataW.trod_struct Try.underlying25 h
  rw [cells_meter] at hl
  match cs, hl with
  | [c0, c1, c2, c3, c4, c5, c6, c7, c8, c9, c10, c11, c12, c13], _ =>
    have hyl : xs.length = 14 := hlen
    match xs, hyl with
    | [y0, y1, y2, y3, y4, y5, y6, y7, y8, y9, y10, y11, y12, y13], _ =>
      obtain ⟨a0, ha0, _, _⟩ := DataW.trod_int Try.underlying3 (hg 0 _ rfl)
      obtain ⟨a1, ha1, _, _⟩ := DataW.trod_int Try.underlying3 (hg 1 _ rfl)
      obtain ⟨a2, ha2, _⟩ := DataW.trod_bool Try.underlying4 (hg 2 _ rfl)
      obtain ⟨a3, ha3, _, _⟩ := DataW.trod_int Try.underlying3 (hg 3 _ rfl)
      obtain ⟨a4, ha4, _, _⟩ := DataW.trod_int Try.underlying3 (hg 4 _ rfl)
      obtain ⟨a5, ha5, _, _⟩ := DataW.trod_int Try.underlying3 (hg 5 _ rfl)
      obtain ⟨a6, ha6, _, _⟩ := DataW.trod_int Try.underlying3 (hg 6 _ rfl)
      obtain ⟨a7, ha7, _⟩ := DataW.trod_bool Try.underlying4 (hg 7 _ rfl)
      obtain ⟨a8, ha8, _, _⟩ := DataW.trod_int Try.underlying3 (hg 8 _ rfl)
      obtain ⟨a9, ha9, _, _⟩ := DataW.trod_int Try.underlying3 (hg 9 _ rfl)
      obtain ⟨a10, ha10, _⟩ := DataW.trod_bool Try.underlying4 (hg 10 _ rfl)
      obtain ⟨a11, ha11, _, _⟩ := DataW.trod_int Try.underlying3 (hg 11 _ rfl)
      obtain ⟨a12, ha12, _, _⟩ := DataW.trod_int Try.underlying3 (hg 12 _ rfl)
      obtain ⟨a13, ha13, _, _⟩ := DataW.trod_int Try.underlying3 (hg 13 _ rfl)
      simp [cells_int13, cells_bool13] at ha0 ha1 ha2 ha3 ha4 ha5 ha6 ha7 ha8 ha9 ha10 ha11 ha12 ha13
      subst ha0 ha1 ha2 ha3 ha4 ha5 ha6 ha7 ha8 ha9 ha10 ha11 ha12 ha13
      exact ⟨⟨a0, a1, a2, a3, a4, a5, a6, a7, a8, a9, a10, a11, a12, a13⟩, rfl⟩

set_option maxRecDepth 20000 in
theorem open_both17 {H : Type} {enc : TypeId × Value → H} {w : World} {base : Nat} {spare : Nat → Bool} {held : Bool} {r : Reach} {b0 : Nat} {v : Value} {d : DataW H} {p : List MemPlace}
    (hv : Value.okWide Try.prog w r b0 29 v) (h : DataW.Trod enc Try.prog w base spare held 29 v d p) :
    ∃ s t : Mt, v = .agg (bo s t) := by
  obtain ⟨cs, rfl, hsz⟩ := okWide_struct Try.underlying29 hv
  rw [cells_both] at hsz
  obtain ⟨fuel, hf⟩ := h
  obtain ⟨xs, n, _, _, hl, hlen, hg⟩ := DataW.trod_struct Try.underlying29 hf
  have hyl : xs.length = 2 := hlen
  match xs, hyl with
  | [y0, y1], _ =>
    obtain ⟨s, hs⟩ := read_meter17 (hg 0 _ rfl)
    obtain ⟨t, ht⟩ := read_meter17 (hg 1 _ rfl)
    have hs : (cs.toList.drop 0).take (Try.prog.cellsOf 25) = (mt s).toList := hs
    have ht : (cs.toList.drop 14).take (Try.prog.cellsOf 25) = (mt t).toList := ht
    rw [cells_meter] at hs ht
    refine ⟨s, t, ?_⟩
    have e : cs.toList = (mt s).toList ++ (mt t).toList := by
      rw [← hs, ← ht, List.drop_zero, List.take_of_length_le (l := cs.toList.drop 14) (by simp [hsz]), List.take_append_drop]
    unfold bo
    rw [← e]

theorem bo_fst {W : World} {g : Nat} {T : TypeId} {s t : Mt} (h : Bx W g T (bo s t)) : W.rangeAt g 0 (mt s).toList := fun j v hj => by
  rw [cell_of_row W g (0 + j) _ _ (0, 0) h]
  have hl := (List.getElem?_eq_some_iff.1 hj).1
  unfold bo
  rw [Nat.zero_add, List.getElem?_toArray, List.getElem?_append_left hl]
  exact hj
theorem bo_snd {W : World} {g : Nat} {T : TypeId} {s t : Mt} (h : Bx W g T (bo s t)) : W.rangeAt g 14 (mt t).toList := fun j v hj => by
  rw [cell_of_row W g (14 + j) _ _ (0, 0) h]
  unfold bo
  rw [List.getElem?_toArray, List.getElem?_append_right (by show 14 ≤ 14 + j; omega)]
  show (mt t).toList[14 + j - 14]? = some v
  rw [Nat.add_sub_cancel_left]
  exact hj

section
variable {P : Program}
theorem exec_load_of17 {r : Operand → Value} {o : Oper} {ty : TypeId} {y : Operand} (b off : Nat) (cs : Array Value) (d : TypeDesc) (w : World) (ho : o.op = .load ty y) (hx : r y = .pointer (some ⟨b, off, none⟩)) (hr : w.rangeAt b off cs.toList)
    (hu : P.underlying ty = some d) (hd : d.isRow = true) (hi : (P.info? ty).map (·.size) = some cs.size) : (execOp r o).run P w = .ok (.value (.agg cs)) w := by
  have := run_loadAt_mid (P := P) w b off ty cs.toList d hr hu hd (by simpa using hi)
  rw [Array.toArray_toList] at this
  unfold execOp
  simp only [ho, hx, this, Sem.run_bind, Result.andThen_ok]
  rfl
theorem wpList_load_of17 {ops : Array Oper} {rest : List Oper} {o : Oper} {a : Act} {w : World} {Q : Exit → Act → World → Prop} (hgd : Region.wanted o (yielded ops a.tmps) = true) (ty : TypeId) (x : Operand) (ho : o.op = .load ty x)
    (b off : Nat) (hx : a.eval x = .pointer (some ⟨b, off, none⟩)) (cs : Array Value) (d : TypeDesc) (hr : w.rangeAt b off cs.toList)
    (hu : P.underlying ty = some d) (hd : d.isRow = true) (hi : (P.info? ty).map (·.size) = some cs.size)
    (h : wpList P ops Q rest (a.put o.dst (.agg cs)) w) : wpList P ops Q (o :: rest) a w :=
  wpList_step fun K hK => by
    rw [if_pos hgd]
    unfold Oper.wp
    rw [exec_load_of17 b off cs d w ho hx hr hu hd hi]
    exact hK _ _ h
end

end Go.Proofs.Ytojdaigilagppaa
