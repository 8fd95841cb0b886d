/- A slice of meters, of meters at spots, a spot as arguments: opened to what they hold. Conditions: none. -/
import Derived.Test.YtglgifhpacmhiaaRows
import Derived.Test.YtglgifhpacmhiaaRow
import Derived.Test.YtglgifhpacmhiaaWide
import Derived.Test.YtglgifhpacmhiaaFrontHeap
import Derived.OpenShut
import Derived.ChangeSame
import Derived.Lib.SmallJoins
import Derived.ProofKit
import Derived.Deep.Slices
import Derived.Deep.Fields
namespace Go.Proofs.Ytglgifhpacmhiaa
open Go.ChangeShapes Go.WideShapes Go.ChangeAt Go.RowKit Go.Joins Go.Deep

theorem cells_mtr24 : Try.prog.cellsOf 36 = 14 := by kernel_rfl
theorem cells_spot24 : Try.prog.cellsOf 26 = 3 := by kernel_rfl
theorem cells_at24 : Try.prog.cellsOf 42 = 17 := by kernel_rfl
theorem cells_int24 : Try.prog.cellsOf 3 = 1 := by kernel_rfl
theorem cells_bool24 : Try.prog.cellsOf 4 = 1 := by kernel_rfl

section
variable {H : Type} {enc : TypeId × Value → H} {w : World} {base : Nat} {spare : Nat → Bool} {held : Bool}

set_option maxRecDepth 20000 in
theorem read_mtr24 {fuel : Nat} {cs : List Value} {x : DataW H × List MemPlace} (h : DataW.trod enc Try.prog w base spare held fuel 36 cs = some x) : ∃ m : Mt, cs = (mt m).toList := by
  obtain ⟨xs, n, _, _, hl, hlen, hg⟩ := DataW.trod_struct Try.underlying36 h
  rw [cells_mtr24] at hl
  match cs, hl with
  | [c0, c1, c2, c3, c4, c5, c6, c7, c8, c9, c10, c11, c12, c13], _ =>
    have hyl : xs.length = 14 := hlen
    match xs, hyl with
    | [y0, y1, y2, y3, y4, y5, y6, y7, y8, y9, y10, y11, y12, y13], _ =>
      obtain ⟨a0, ha0, _, _⟩ := DataW.trod_int Try.underlying3 (hg 0 _ rfl)
      obtain ⟨a1, ha1, _, _⟩ := DataW.trod_int Try.underlying3 (hg 1 _ rfl)
      obtain ⟨a2, ha2, _⟩ := DataW.trod_bool Try.underlying4 (hg 2 _ rfl)
      obtain ⟨a3, ha3, _, _⟩ := DataW.trod_int Try.underlying3 (hg 3 _ rfl)
      obtain ⟨a4, ha4, _, _⟩ := DataW.trod_int Try.underlying3 (hg 4 _ rfl)
      obtain ⟨a5, ha5, _, _⟩ := DataW.trod_int Try.underlying3 (hg 5 _ rfl)
      obtain ⟨a6, ha6, _, _⟩ := DataW.trod_int Try.underlying3 (hg 6 _ rfl)
      obtain ⟨a7, ha7, _⟩ := DataW.trod_bool Try.underlying4 (hg 7 _ rfl)
      obtain ⟨a8, ha8, _, _⟩ := DataW.trod_int Try.underlying3 (hg 8 _ rfl)
      obtain ⟨a9, ha9, _, _⟩ := DataW.trod_int Try.underlying3 (hg 9 _ rfl)
      obtain ⟨a10, ha10, _⟩ := DataW.trod_bool Try.underlying4 (hg 10 _ rfl)
      obtain ⟨a11, ha11, _, _⟩ := DataW.trod_int Try.underlying3 (hg 11 _ rfl)
      obtain ⟨a12, ha12, _, _⟩ := DataW.trod_int Try.underlying3 (hg 12 _ rfl)
      obtain ⟨a13, ha13, _, _⟩ := DataW.trod_int Try.underlying3 (hg 13 _ rfl)
      simp [cells_int24, cells_bool24] at ha0 ha1 ha2 ha3 ha4 ha5 ha6 ha7 ha8 ha9 ha10 ha11 ha12 ha13
      subst ha0 ha1 ha2 ha3 ha4 ha5 ha6 ha7 ha8 ha9 ha10 ha11 ha12 ha13
      exact ⟨⟨a0, a1, a2, a3, a4, a5, a6, a7, a8, a9, a10, a11, a12, a13⟩, rfl⟩

theorem read_spot24 {fuel : Nat} {cs : List Value} {x : DataW H × List MemPlace} (h : DataW.trod enc Try.prog w base spare held fuel 26 cs = some x) : ∃ s : Rc, cs = (sp s).toList := by
  obtain ⟨ys, n, _, _, hl, hyl, hf⟩ := DataW.trod_struct Try.underlying26 h
  rw [cells_spot24] at hl
  match cs, hl with
  | [c0, c1, c2], _ =>
    have hyl3 : ys.length = 3 := hyl
    match ys, hyl3 with
    | [y0, y1, y2], _ =>
      obtain ⟨a, ha, _, _⟩ := DataW.trod_int Try.underlying3 (hf 0 _ rfl)
      obtain ⟨b, hb, _, _⟩ := DataW.trod_int Try.underlying3 (hf 1 _ rfl)
      obtain ⟨c, hc, _, _⟩ := DataW.trod_int Try.underlying3 (hf 2 _ rfl)
      simp [cells_int24] at ha hb hc
      exact ⟨(a, b, c), by rw [ha, hb, hc]; rfl⟩

theorem read_at24 {fuel : Nat} {cs : List Value} {x : DataW H × List MemPlace} (h : DataW.trod enc Try.prog w base spare held fuel 42 cs = some x) : ∃ a : Ad, cs = (ad a).toList := by
  obtain ⟨ys, n, _, _, hl, hyl, hf⟩ := DataW.trod_struct Try.underlying42 h
  rw [cells_at24] at hl
  have hyl2 : ys.length = 2 := hyl
  match ys, hyl2 with
  | [y0, y1], _ =>
    obtain ⟨s, hs⟩ := read_spot24 (hf 0 _ rfl)
    obtain ⟨m, hm⟩ := read_mtr24 (hf 1 _ rfl)
    refine ⟨(s, m), ?_⟩
    rw [show (ad (s, m)).toList = (sp s).toList ++ (mt m).toList from rfl, ← hs, ← hm]
    have e1 : Try.prog.cellsOf 26 = 3 := cells_spot24
    have e2 : Try.prog.cellsOf 36 = 14 := cells_mtr24
    show cs = (cs.drop 0).take (Try.prog.cellsOf 26) ++ (cs.drop 3).take (Try.prog.cellsOf 36)
    rw [e1, e2, List.drop_zero, List.take_of_length_le (l := cs.drop 3) (by simp; omega), List.take_append_drop]

/-- A slice of elements, of a kind of which each that is read is known. -/
theorem open_wide {α : Type} [Inhabited α] {k : Wd α} {Ts : TypeId} {r : Reach} {b0 : Nat} {v : Value} {d : DataW H} {p : List MemPlace} (hu : Try.prog.underlying Ts = some (.slice k.T)) (hc : Try.prog.cellsOf k.T = k.n)
    (hrd : ∀ {fuel : Nat} {cs : List Value} {x : DataW H × List MemPlace}, DataW.trod enc Try.prog w base spare held fuel k.T cs = some x → ∃ a : α, cs = k.enc a)
    (hv : Value.okWide Try.prog w r b0 Ts v) (h : DataW.Trod enc Try.prog w base spare held Ts v d p) :
    ∃ (A : Option Addr) (n c : Nat) (l : List α), v = .slice A n c ∧ l.length = n ∧ RdG k w A l ∧ (A = none → n = 0 ∧ c = 0) := by
  obtain ⟨a0, len0, cap0, rfl⟩ := okWide_slice hu hv
  obtain ⟨fuel, hf⟩ := h
  rcases open_slice hu hf with ⟨hcs, _⟩ | ⟨a, len, cap, m, n, D, Pl, hcs, _, hl, _, hm, _, hx⟩
  · simp [Value.cells] at hcs
    obtain ⟨rfl, rfl, rfl⟩ := hcs
    exact ⟨none, 0, 0, [], rfl, rfl, RdG.nil _ _ _, fun _ => ⟨rfl, rfl⟩⟩
  · simp [Value.cells] at hcs
    obtain ⟨rfl, rfl, rfl⟩ := hcs
    have hlm : len0 ≤ m := by rw [hm]; split <;> omega
    have hz : ∀ i, i < len0 → ∃ q : α, ∀ j u, (k.enc q)[j]? = some u → w.cell? (a.add (i * k.n + j)) = some u := by
      intro i hi
      obtain ⟨cs', hcc, ht⟩ := hx i (by omega)
      rw [hc] at hcc
      obtain ⟨q, hq⟩ := hrd ht
      obtain ⟨_, _, hat⟩ := World.cells?_some hcc
      refine ⟨q, fun j u hj => ?_⟩
      have hjl : j < k.n := by rw [← k.len q]; exact (List.getElem?_eq_some_iff.1 hj).1
      have h0 := hat j hjl
      rw [Go.Deep.add_add] at h0
      rw [h0]
      have hju : cs'[j]? = some u := by rw [hq]; exact hj
      exact hju
    obtain ⟨f, hF⟩ := choose_lt hz
    refine ⟨some a, len0, cap0, (List.range len0).map f, rfl, by simp, fun hne => ?_, fun h => by cases h⟩
    obtain ⟨b, off, spot⟩ := a
    have h0 : 0 < len0 := by
      rcases Nat.eq_zero_or_pos len0 with h | h
      · subst h; exact absurd rfl hne
      · exact h
    have hp := k.pos
    obtain ⟨u, hu0⟩ : ∃ u, (k.enc (f 0))[0]? = some u := ⟨_, List.getElem?_eq_getElem (by rw [k.len]; exact hp)⟩
    have hc0 := hF 0 h0 0 u hu0
    have hspot : spot = none := by simpa [Addr.add] using World.cell?_spot hc0
    subst hspot
    refine ⟨b, off, rfl, ?_, fun j x hx2 i u hi => ?_⟩
    · have := World.block_lt_of_cell? w _ hc0
      rwa [addr_plain] at this
    · have hj : j < len0 := by have := (List.getElem?_eq_some_iff.1 hx2).1; simpa using this
      have e : f j = x := by simpa [hj] using hx2
      have := hF j hj i u (by rw [e]; exact hi)
      rw [addr_plain, ← Nat.add_assoc] at this
      exact this

theorem open_mtrs24 {r : Reach} {b0 : Nat} {v : Value} {d : DataW H} {p : List MemPlace} (hv : Value.okWide Try.prog w r b0 37 v) (h : DataW.Trod enc Try.prog w base spare held 37 v d p) :
    ∃ (A : Option Addr) (n c : Nat) (l : List Mt), v = .slice A n c ∧ l.length = n ∧ RdG mtW w A l ∧ (A = none → n = 0 ∧ c = 0) := open_wide (k := mtW) Try.underlying37 cells_mtr24 (fun h => read_mtr24 h) hv h

instance : Inhabited Ad := ⟨(rz, .zero)⟩

theorem open_ats24 {r : Reach} {b0 : Nat} {v : Value} {d : DataW H} {p : List MemPlace} (hv : Value.okWide Try.prog w r b0 24 v) (h : DataW.Trod enc Try.prog w base spare held 24 v d p) :
    ∃ (A : Option Addr) (n c : Nat) (l : List Ad), v = .slice A n c ∧ l.length = n ∧ RdG adW w A l ∧ (A = none → n = 0 ∧ c = 0) := open_wide (k := adW) Try.underlying24 cells_at24 (fun h => read_at24 h) hv h

theorem open_spot24 {r : Reach} {b0 : Nat} {v : Value} {d : DataW H} {p : List MemPlace} (hv : Value.okWide Try.prog w r b0 26 v) (h : DataW.Trod enc Try.prog w base spare held 26 v d p) : ∃ s : Rc, v = .agg (sp s) := by
  obtain ⟨cs, rfl, hsz⟩ := okWide_struct Try.underlying26 hv
  obtain ⟨fuel, hf⟩ := h
  obtain ⟨s, hs⟩ := read_spot24 hf
  refine ⟨s, ?_⟩
  have : cs = sp s := Array.ext' hs
  rw [this]

end

end Go.Proofs.Ytglgifhpacmhiaa
