/- A slice of records as an argument: opened to the list that it holds. Conditions: none. -/
import Derived.Test.YthgieanhlmnneaaRows
import Derived.Test.YthgieanhlmnneaaRecHeap
import Derived.OpenShut
import Derived.ChangeSame
import Derived.Lib.SmallJoins
import Derived.ProofKit
import Derived.Deep.Slices
import Derived.Deep.Fields
namespace Go.Proofs.Ythgieanhlmnneaa
open Go.ChangeShapes Go.WideShapes Go.ChangeAt Go.RowKit Go.Joins Go.Deep

theorem cells_rec : Try.prog.cellsOf 46 = 3 := by kernel_rfl
theorem cells_int : Try.prog.cellsOf 3 = 1 := by kernel_rfl

set_option maxRecDepth 20000 in
/-- What lies in the three cells of a record that is read. -/
theorem read_rec {H : Type} {enc : TypeId × Value → H} {w : World} {base : Nat} {spare : Nat → Bool} {held : Bool} {fuel : Nat} {cs : List Value} {x : DataW H × List MemPlace}
    (h : DataW.trod enc Try.prog w base spare held fuel 46 cs = some x) : ∃ r : Rc, cs = [.int .i64 r.1, .int .i64 r.2.1, .int .i64 r.2.2] := by
  obtain ⟨ys, n, _, _, hl, hyl, hf⟩ := DataW.trod_struct Try.underlying46 h
  rw [cells_rec] at hl
  match cs, hl with
  | [c0, c1, c2], _ =>
    have hyl3 : ys.length = 3 := hyl
    match ys, hyl3 with
    | [y0, y1, y2], _ =>
      obtain ⟨a, ha, _, _⟩ := DataW.trod_int Try.underlying3 (hf 0 _ rfl)
      obtain ⟨b, hb, _, _⟩ := DataW.trod_int Try.underlying3 (hf 1 _ rfl)
      obtain ⟨c, hc, _, _⟩ := DataW.trod_int Try.underlying3 (hf 2 _ rfl)
      simp [cells_int] at ha hb hc
      exact ⟨(a, b, c), by rw [ha, hb, hc]⟩

set_option maxRecDepth 20000 in
theorem open_recs {H : Type} {enc : TypeId × Value → H} {w : World} {base : Nat} {spare : Nat → Bool} {held : Bool} {r : Reach} {b0 : Nat} {v : Value} {d : DataW H} {p : List MemPlace}
    (hv : Value.okWide Try.prog w r b0 69 v) (h : DataW.Trod enc Try.prog w base spare held 69 v d p) :
    ∃ (A : Option Addr) (n c : Nat) (l : List Rc), v = .slice A n c ∧ l.length = n ∧ RdR w A l ∧ (A = none → c = 0) := by
  obtain ⟨a0, len0, cap0, rfl⟩ := okWide_slice Try.underlying69 hv
  obtain ⟨fuel, hf⟩ := h
  rcases open_slice Try.underlying69 hf with ⟨hcs, _⟩ | ⟨a, len, cap, m, n, D, Pl, hcs, _, hl, _, hm, _, hx⟩
  · simp [Value.cells] at hcs
    obtain ⟨rfl, rfl, rfl⟩ := hcs
    exact ⟨none, 0, 0, [], rfl, rfl, RdR.nil _ _, fun _ => rfl⟩
  · simp [Value.cells] at hcs
    obtain ⟨rfl, rfl, rfl⟩ := hcs
    have hlm : len0 ≤ m := by rw [hm]; split <;> omega
    have hz : ∀ i, i < len0 → ∃ r : Rc, w.cell? (a.add (i * 3)) = some (.int .i64 r.1) ∧ w.cell? (a.add (i * 3 + 1)) = some (.int .i64 r.2.1) ∧ w.cell? (a.add (i * 3 + 2)) = some (.int .i64 r.2.2) := by
      intro i hi
      obtain ⟨cs', hc, ht⟩ := hx i (by omega)
      rw [cells_rec] at hc
      obtain ⟨q, rfl⟩ := read_rec ht
      obtain ⟨_, _, hat⟩ := World.cells?_some hc
      have h0 := hat 0 (by omega)
      have h1 := hat 1 (by omega)
      have h2 := hat 2 (by omega)
      rw [Go.Deep.add_add] at h0 h1 h2
      exact ⟨q, h0, h1, h2⟩
    obtain ⟨f, hF⟩ := choose_lt hz
    refine ⟨some a, len0, cap0, (List.range len0).map f, rfl, by simp, fun hne => ?_, fun h => by cases h⟩
    obtain ⟨b, off, spot⟩ := a
    have h0 : 0 < len0 := by
      rcases Nat.eq_zero_or_pos len0 with h | h
      · subst h; exact absurd rfl hne
      · exact h
    have hspot : spot = none := by simpa [Addr.add] using World.cell?_spot (hF 0 h0).1
    subst hspot
    refine ⟨b, off, rfl, ?_, fun k hk => ?_⟩
    · have := World.block_lt_of_cell? w _ (hF 0 h0).1
      rwa [addr_plain] at this
    · have hk' : k < len0 := by simpa using hk
      have hf := hF k hk'
      rw [addr_plain, addr_plain, addr_plain] at hf
      have e : ((List.range len0).map f).getD k rz = f k := by simp [List.getD, hk']
      rw [e, Nat.add_assoc, Nat.add_assoc]
      exact hf

end Go.Proofs.Ythgieanhlmnneaa
