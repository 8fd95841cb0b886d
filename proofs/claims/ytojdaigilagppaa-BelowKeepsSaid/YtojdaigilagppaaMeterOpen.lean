/- A meter, a slice of ints and two of them as arguments: opened to what they hold. Conditions: none. -/
import Derived.Test.YtojdaigilagppaaRows
import Derived.Test.YtojdaigilagppaaRecMath
import Derived.Test.YtojdaigilagppaaRecHeap
import Derived.Test.YtojdaigilagppaaMeterMath
import Derived.OpenShut
import Derived.ChangeSame
import Derived.ChangeArms
import Derived.ChangeSlices
import Derived.Lib.SmallJoins
import Derived.Deep.Fields
import Derived.Deep.Slices
import Derived.ProofKit
import Derived.KernelRfl
namespace Go.Proofs.Ytojdaigilagppaa
open Go.ChangeShapes Go.WideShapes Go.ChangeAt Go.RowKit Go.Joins Go.Deep

theorem cells_meter : Try.prog.cellsOf 25 = 14 := by kernel_rfl
theorem cells_int13 : Try.prog.cellsOf 3 = 1 := by kernel_rfl
theorem cells_bool13 : Try.prog.cellsOf 4 = 1 := by kernel_rfl
theorem cells_ints13 : Try.prog.cellsOf 30 = 1 := by kernel_rfl

set_option maxRecDepth 20000 in
theorem open_meter {H : Type} {enc : TypeId × Value → H} {w : World} {base : Nat} {spare : Nat → Bool} {held : Bool} {r : Reach} {b0 : Nat} {v : Value} {d : DataW H} {p : List MemPlace}
    (hv : Value.okWide Try.prog w r b0 25 v) (h : DataW.Trod enc Try.prog w base spare held 25 v d p) :
    ∃ m : Mt, v = .agg (mt m) := by
  obtain ⟨cs, rfl, hsz⟩ := okWide_struct Try.underlying25 hv
  rw [cells_meter] at hsz
  obtain ⟨fuel, hf⟩ := h
  obtain ⟨xs, n, _, _, hl, hlen, hg⟩ := DataW.trod_struct Try.underlying25 hf
  obtain ⟨l, rfl⟩ : ∃ l : List Value, cs = l.toArray := ⟨cs.toList, by simp⟩
  have hl5 : l.length = 14 := by simpa using hsz
  match l, hl5 with
  | [c0, c1, c2, c3, c4, c5, c6, c7, c8, c9, c10, c11, c12, c13], _ =>
    have hyl : xs.length = 14 := hlen
    match xs, hyl with
    | [y0, y1, y2, y3, y4, y5, y6, y7, y8, y9, y10, y11, y12, y13], _ =>
      obtain ⟨a0, ha0, _, _⟩ := DataW.trod_int Try.underlying3 (hg 0 _ rfl)
      obtain ⟨a1, ha1, _, _⟩ := DataW.trod_int Try.underlying3 (hg 1 _ rfl)
      obtain ⟨a2, ha2, _⟩ := DataW.trod_bool Try.underlying4 (hg 2 _ rfl)
      obtain ⟨a3, ha3, _, _⟩ := DataW.trod_int Try.underlying3 (hg 3 _ rfl)
      obtain ⟨a4, ha4, _, _⟩ := DataW.trod_int Try.underlying3 (hg 4 _ rfl)
      obtain ⟨a5, ha5, _, _⟩ := DataW.trod_int Try.underlying3 (hg 5 _ rfl)
      obtain ⟨a6, ha6, _, _⟩ := DataW.trod_int Try.underlying3 (hg 6 _ rfl)
      obtain ⟨a7, ha7, _⟩ := DataW.trod_bool Try.underlying4 (hg 7 _ rfl)
      obtain ⟨a8, ha8, _, _⟩ := DataW.trod_int Try.underlying3 (hg 8 _ rfl)
      obtain ⟨a9, ha9, _, _⟩ := DataW.trod_int Try.underlying3 (hg 9 _ rfl)
      obtain ⟨a10, ha10, _⟩ := DataW.trod_bool Try.underlying4 (hg 10 _ rfl)
      obtain ⟨a11, ha11, _, _⟩ := DataW.trod_int Try.underlying3 (hg 11 _ rfl)
      obtain ⟨a12, ha12, _, _⟩ := DataW.trod_int Try.underlying3 (hg 12 _ rfl)
      obtain ⟨a13, ha13, _, _⟩ := DataW.trod_int Try.underlying3 (hg 13 _ rfl)
      simp [Value.cells, cells_int13, cells_bool13] at ha0 ha1 ha2 ha3 ha4 ha5 ha6 ha7 ha8 ha9 ha10 ha11 ha12 ha13
      subst ha0 ha1 ha2 ha3 ha4 ha5 ha6 ha7 ha8 ha9 ha10 ha11 ha12 ha13
      exact ⟨⟨a0, a1, a2, a3, a4, a5, a6, a7, a8, a9, a10, a11, a12, a13⟩, rfl⟩

/-- A slice of ints that is read. -/
theorem read_ints {H : Type} {enc : TypeId × Value → H} {w : World} {base : Nat} {spare : Nat → Bool} {held : Bool} {fuel : Nat} {cs : List Value} {x : DataW H × List MemPlace}
    (h : DataW.trod enc Try.prog w base spare held fuel 30 cs = some x) : ∃ (A : Option Addr) (c : Nat) (l : List Int), cs = [.slice A l.length c] ∧ RdN w A l ∧ (A = none → c = 0) := by
  rcases open_ints Try.underlying30 Try.underlying3 (by kernel_rfl) h with ⟨hcs, _⟩ | ⟨a, len, cap, zs, hcs, _, hl, _, hzl, _, hc, _⟩
  · exact ⟨none, 0, [], hcs, fun h => absurd rfl h, fun _ => rfl⟩
  · have hlm : len ≤ zs.length := by rw [hzl]; split <;> omega
    refine ⟨some a, cap, zs.take len, by rw [hcs, List.length_take, Nat.min_eq_left hlm], fun hne => ?_, fun h => by cases h⟩
    obtain ⟨b, off, spot⟩ := a
    have h0 : 0 < (zs.take len).length := by
      rcases Nat.eq_zero_or_pos (zs.take len).length with h | h
      · exact absurd (List.eq_nil_of_length_eq_zero h) hne
      · exact h
    rw [List.length_take] at h0
    have c0 := hc 0 (by omega)
    have hspot : spot = none := by simpa [Addr.add] using World.cell?_spot c0
    subst hspot
    refine ⟨b, off, rfl, ?_, fun k hk => ?_⟩
    · have := World.block_lt_of_cell? w _ c0
      simpa [Addr.add] using this
    · rw [List.length_take] at hk
      have := hc k (by omega)
      have e : (⟨b, off, none⟩ : Addr).add k = ⟨b, off + k, none⟩ := Addr.add_mid b off k
      rw [e] at this
      rw [this]
      simp only [List.getD_eq_getElem?_getD, List.getElem?_take]
      rw [if_pos (by omega)]

theorem open_ints13 {H : Type} {enc : TypeId × Value → H} {w : World} {base : Nat} {spare : Nat → Bool} {held : Bool} {r : Reach} {b0 : Nat} {v : Value} {d : DataW H} {p : List MemPlace}
    (hv : Value.okWide Try.prog w r b0 30 v) (h : DataW.Trod enc Try.prog w base spare held 30 v d p) :
    ∃ (A : Option Addr) (c : Nat) (l : List Int), v = .slice A l.length c ∧ RdN w A l ∧ (A = none → c = 0) := by
  obtain ⟨a0, len0, cap0, rfl⟩ := okWide_slice Try.underlying30 hv
  obtain ⟨fuel, hf⟩ := h
  obtain ⟨A, c, l, hcs, hr, hz⟩ := read_ints hf
  simp [Value.cells] at hcs
  obtain ⟨rfl, rfl, rfl⟩ := hcs
  exact ⟨_, _, l, rfl, hr, hz⟩

end Go.Proofs.Ytojdaigilagppaa
