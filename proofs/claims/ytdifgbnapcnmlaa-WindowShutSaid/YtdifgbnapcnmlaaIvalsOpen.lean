/- A slice of spans as an argument: opened to the list that it holds. Conditions: none. -/
import Derived.Test.YtdifgbnapcnmlaaRows
import Derived.Test.YtdifgbnapcnmlaaIvalsWords
import Derived.Test.YtdifgbnapcnmlaaIvalsOwn
import Derived.OpenShut
import Derived.ChangeSame
import Derived.Lib.SmallJoins
import Derived.ProofKit
import Derived.Deep.SlicePairs
import Derived.Test.YtdifgbnapcnmlaaMath
namespace Go.Proofs.Ytdifgbnapcnmlaa
open Go.ChangeShapes Go.WideShapes Go.ChangeAt Go.RowKit Go.Joins Go.Deep

theorem addr_spot {w : World} {x : Addr} {v : Value} (h : w.cell? x = some v) : x.spot = none := World.cell?_spot h

theorem cells_spanE : Try.prog.cellsOf 31 = 2 := by kernel_rfl

theorem open_spans {H : Type} {enc : TypeId × Value → H} {w : World} {base : Nat} {spare : Nat → Bool} {held : Bool} {r : Reach} {b0 : Nat} {v : Value} {d : DataW H} {p : List MemPlace}
    (hv : Value.okWide Try.prog w r b0 22 v) (h : DataW.Trod enc Try.prog w base spare held 22 v d p) :
    ∃ (A : Option Addr) (n c : Nat) (l : List Sp), v = .slice A n c ∧ l.length = n ∧ RdS w A l ∧ Bd l := by
  obtain ⟨a0, len0, cap0, rfl⟩ := okWide_slice Try.underlying22 hv
  obtain ⟨fuel, hf⟩ := h
  rcases open_slice_pairs Try.underlying22 Try.underlying31 cells_spanE rfl rfl (by kernel_rfl) (by kernel_rfl) hf with ⟨hcs, _⟩ | ⟨a, len, cap, m, n, V0, V1, D0, D1, P0, P1, hcs, _, hl, _, hm, _, hx⟩
  · simp [Value.cells] at hcs
    obtain ⟨rfl, rfl, rfl⟩ := hcs
    exact ⟨none, 0, 0, [], rfl, rfl, RdS.nil _ _, fun s hs => by cases hs⟩
  · simp [Value.cells] at hcs
    obtain ⟨rfl, rfl, rfl⟩ := hcs
    have hlm : len0 ≤ m := by rw [hm]; split <;> omega
    have hz : ∀ i, i < len0 → ∃ s : Sp, (w.cell? (a.add (i * 2)) = some (.int .i64 s.1) ∧ w.cell? (a.add (i * 2 + 1)) = some (.int .i64 s.2)) ∧ (Lit.int .i64 s.1).wf = true ∧ (Lit.int .i64 s.2).wf = true := by
      intro i hi
      obtain ⟨h0, h1, t0, t1⟩ := hx i (by omega)
      obtain ⟨x, e0, _, wx⟩ := DataW.trod_int Try.underlying3 t0
      obtain ⟨y, e1, _, wy⟩ := DataW.trod_int Try.underlying3 t1
      simp at e0 e1
      rw [e0] at h0
      rw [e1] at h1
      exact ⟨(x, y), ⟨h0, h1⟩, wx, wy⟩
    obtain ⟨f, hF⟩ := choose_lt hz
    refine ⟨some a, len0, cap0, (List.range len0).map f, rfl, by simp, fun hne => ?_, fun s hs => ?_⟩
    · obtain ⟨b, off, spot⟩ := a
      have h0 : 0 < len0 := by
        rcases Nat.eq_zero_or_pos len0 with h | h
        · subst h; exact absurd rfl hne
        · exact h
      have hspot : spot = none := by simpa [Addr.add] using addr_spot (hF 0 h0).1.1
      subst hspot
      refine ⟨b, off, rfl, ?_, fun k hk => ?_⟩
      · have := World.block_lt_of_cell? w _ (hF 0 h0).1.1
        rwa [addr_plain] at this
      · have hk' : k < len0 := by simpa using hk
        have hf := (hF k hk').1
        rw [addr_plain, addr_plain] at hf
        have e : ((List.range len0).map f).getD k (0, 0) = f k := by simp [List.getD, hk']
        rw [e, Nat.add_assoc]
        exact hf
    · obtain ⟨i, hi, rfl⟩ := List.mem_map.1 hs
      have hi' : i < len0 := by simpa using hi
      exact ⟨wf_bd (hF i hi').2.1, wf_bd (hF i hi').2.2⟩

theorem open_spansz {H : Type} {enc : TypeId × Value → H} {w : World} {base : Nat} {spare : Nat → Bool} {held : Bool} {r : Reach} {b0 : Nat} {v : Value} {d : DataW H} {p : List MemPlace}
    (hv : Value.okWide Try.prog w r b0 22 v) (h : DataW.Trod enc Try.prog w base spare held 22 v d p) :
    ∃ (A : Option Addr) (n c : Nat) (l : List Sp), v = .slice A n c ∧ l.length = n ∧ RdS w A l ∧ Bd l ∧ (A = none → c = 0) := by
  obtain ⟨a0, len0, cap0, rfl⟩ := okWide_slice Try.underlying22 hv
  obtain ⟨fuel, hf⟩ := h
  rcases open_slice_pairs Try.underlying22 Try.underlying31 cells_spanE rfl rfl (by kernel_rfl) (by kernel_rfl) hf with ⟨hcs, _⟩ | ⟨a, len, cap, m, n, V0, V1, D0, D1, P0, P1, hcs, _, hl, _, hm, _, hx⟩
  · simp [Value.cells] at hcs
    obtain ⟨rfl, rfl, rfl⟩ := hcs
    exact ⟨none, 0, 0, [], rfl, rfl, RdS.nil _ _, fun s hs => (by cases hs), fun _ => rfl⟩
  · simp [Value.cells] at hcs
    obtain ⟨rfl, rfl, rfl⟩ := hcs
    have hlm : len0 ≤ m := by rw [hm]; split <;> omega
    have hz : ∀ i, i < len0 → ∃ s : Sp, (w.cell? (a.add (i * 2)) = some (.int .i64 s.1) ∧ w.cell? (a.add (i * 2 + 1)) = some (.int .i64 s.2)) ∧ (Lit.int .i64 s.1).wf = true ∧ (Lit.int .i64 s.2).wf = true := by
      intro i hi
      obtain ⟨h0, h1, t0, t1⟩ := hx i (by omega)
      obtain ⟨x, e0, _, wx⟩ := DataW.trod_int Try.underlying3 t0
      obtain ⟨y, e1, _, wy⟩ := DataW.trod_int Try.underlying3 t1
      simp at e0 e1
      rw [e0] at h0
      rw [e1] at h1
      exact ⟨(x, y), ⟨h0, h1⟩, wx, wy⟩
    obtain ⟨f, hF⟩ := choose_lt hz
    refine ⟨some a, len0, cap0, (List.range len0).map f, rfl, by simp, fun hne => ?_, fun s hs => ?_, fun h => by cases h⟩
    · obtain ⟨b, off, spot⟩ := a
      have h0 : 0 < len0 := by
        rcases Nat.eq_zero_or_pos len0 with h | h
        · subst h; exact absurd rfl hne
        · exact h
      have hspot : spot = none := by simpa [Addr.add] using addr_spot (hF 0 h0).1.1
      subst hspot
      refine ⟨b, off, rfl, ?_, fun k hk => ?_⟩
      · have := World.block_lt_of_cell? w _ (hF 0 h0).1.1
        rwa [addr_plain] at this
      · have hk' : k < len0 := by simpa using hk
        have hf := (hF k hk').1
        rw [addr_plain, addr_plain] at hf
        have e : ((List.range len0).map f).getD k (0, 0) = f k := by simp [List.getD, hk']
        rw [e, Nat.add_assoc]
        exact hf
    · obtain ⟨i, hi, rfl⟩ := List.mem_map.1 hs
      have hi' : i < len0 := by simpa using hi
      exact ⟨wf_bd (hF i hi').2.1, wf_bd (hF i hi').2.2⟩

theorem Own.nilcap {base : Nat} {w : World} {A : Option Addr} {n c : Nat} {l : List Sp} (h : Own base w (.slice A n c) l) : A = none → c = 0 := by
  rintro rfl
  rcases h.2 with ⟨h', _⟩ | ⟨g, cap, cur, h', _⟩
  · simp only [Value.slice.injEq] at h'
    exact h'.2.2
  · simp at h'

end Go.Proofs.Ytdifgbnapcnmlaa
