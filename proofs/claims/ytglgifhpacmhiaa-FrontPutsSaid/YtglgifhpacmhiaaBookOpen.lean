/- A book and a slice of numbers as arguments: opened to what they hold. Conditions: none. -/
import Derived.Test.YtglgifhpacmhiaaRows
import Derived.Test.YtglgifhpacmhiaaBookRow
import Derived.OpenShut
import Derived.ChangeSame
import Derived.ChangeSlices
import Derived.Lib.SmallJoins
import Derived.Deep.Fields
import Derived.ProofKit
namespace Go.Proofs.Ytglgifhpacmhiaa
open Go.ChangeShapes Go.WideShapes Go.ChangeAt Go.RowKit Go.Joins Go.Deep
set_option maxRecDepth 100000

theorem choose_nat {P : Nat → Int → Prop} {n : Nat} (h : ∀ i, i < n → ∃ v, P i v) : ∃ x : Nat → Int, ∀ i, i < n → P i (x i) := by
  classical
  refine ⟨fun i => if hi : i < n then (h i hi).choose else 0, fun i hi => ?_⟩
  simp only [dif_pos hi]
  exact (h i hi).choose_spec

theorem bk_of {cs : Array Value} {x : Nat → Int} (hs : cs.size = 19) (h : ∀ i, i < 19 → cs[i]? = some (.int .i64 (x i))) : cs = bk x := by
  refine Array.ext_getElem? fun i => ?_
  by_cases hi : i < 19
  · rw [h i hi, bk_at x i hi]
  · rw [Array.getElem?_eq_none (by omega), Array.getElem?_eq_none (by rw [bk_size]; omega)]

theorem cells_book : Try.prog.cellsOf 23 = 19 := by kernel_rfl
theorem fields_ok : ∃ fs, Try.prog.underlying 23 = some (.struct fs) ∧ oneCellFields Try.prog fs = true ∧ fs.size = 19 ∧ ∀ (i : Nat) (f : Field), fs[i]? = some f → f.type = 3 := by
  refine ⟨_, Try.underlying23, by kernel_rfl, by kernel_rfl, fun i f hf => ?_⟩
  have : ∀ g ∈ (Try.prog.fieldsOf 23).toList, g.type = 3 := of_decide_eq_true (by kernel_rfl)
  exact this f (by have := Array.mem_of_getElem? hf; simpa [Program.fieldsOf, Try.underlying23] using this)

theorem open_book {H : Type} {enc : TypeId × Value → H} {w : World} {base : Nat} {spare : Nat → Bool} {held : Bool} {r : Reach} {b0 : Nat} {v : Value} {d : DataW H} {p : List MemPlace}
    (hv : Value.okWide Try.prog w r b0 23 v) (h : DataW.Trod enc Try.prog w base spare held 23 v d p) :
    ∃ x : Nat → Int, v = .agg (bk x) := by
  obtain ⟨fs, hs, hone, hfs, hty⟩ := fields_ok
  obtain ⟨cs, rfl, hsz⟩ := okWide_struct hs hv
  rw [cells_book] at hsz
  obtain ⟨fuel, hf⟩ := h
  obtain ⟨xs, n, _, _, _, hlen, hg⟩ := DataW.trod_struct hs hf
  obtain ⟨x, hx⟩ := choose_nat (P := fun i n => cs[i]? = some (.int .i64 n)) (n := 19) (fun i hi => by
    have hfi : fs[i]? = some (fs[i]'(by omega)) := Array.getElem?_eq_getElem (by omega)
    obtain ⟨o, k⟩ := hone_of hone i _ hfi
    have h1 := hg i _ hfi
    rw [o, k, hty i _ hfi] at h1
    have hxs : xs[i]? = some (xs[i]'(by omega)) := List.getElem?_eq_getElem (by omega)
    rw [hxs] at h1
    have hone' : (((Value.agg cs).cells.toList).drop i).take 1 = [cs[i]'(by omega)] := by
      show (cs.toList.drop i).take 1 = _
      rw [List.drop_eq_getElem_cons (by simpa using (by omega : i < cs.size))]
      rfl
    rw [hone'] at h1
    obtain ⟨m, e, _, _⟩ := DataW.trod_int Try.underlying3 h1
    refine ⟨m, ?_⟩
    rw [Array.getElem?_eq_getElem (by omega)]
    injection e with e _
    rw [e])
  exact ⟨x, by rw [bk_of hsz hx]⟩

theorem open_ints7 {H : Type} {enc : TypeId × Value → H} {w : World} {base : Nat} {spare : Nat → Bool} {held : Bool} {r : Reach} {b0 : Nat} {v : Value} {d : DataW H} {p : List MemPlace}
    (hv : Value.okWide Try.prog w r b0 56 v) (h : DataW.Trod enc Try.prog w base spare held 56 v d p) :
    ∃ (A : Option Addr) (n c : Nat), v = .slice A n c ∧ (n = 19 → ∃ b off x, A = some ⟨b, off, none⟩ ∧ RdI w b off x) := by
  obtain ⟨a0, len0, cap0, rfl⟩ := okWide_slice Try.underlying56 hv
  obtain ⟨fuel, hf⟩ := h
  refine ⟨a0, len0, cap0, rfl, fun h19 => ?_⟩
  subst h19
  rcases open_ints Try.underlying56 Try.underlying3 (by kernel_rfl) hf with ⟨hcs, _⟩ | ⟨a, len, cap, zs, hcs, _, hl, _, hzl, _, hc, _⟩
  · simp [Value.cells] at hcs
  · simp [Value.cells] at hcs
    obtain ⟨rfl, rfl, rfl⟩ := hcs
    have hlm : 19 ≤ zs.length := by rw [hzl]; split <;> omega
    obtain ⟨b, off, spot⟩ := a
    have h0 := hc 0 (by omega)
    have hspot : spot = none := by simpa [Addr.add] using World.cell?_spot h0
    subst hspot
    refine ⟨b, off, fun i => zs.getD i 0, rfl, ?_, fun i hi => ?_⟩
    · have := World.block_lt_of_cell? w _ h0
      simpa [Addr.add] using this
    · have := hc i (by omega)
      have e : (⟨b, off, none⟩ : Addr).add i = ⟨b, off + i, none⟩ := Addr.add_mid b off i
      rwa [e] at this

end Go.Proofs.Ytglgifhpacmhiaa
