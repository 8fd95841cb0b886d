/- A listed package-level variable, wherever it stands on a row's list; an array of texts. Conditions: none beyond each lemma's own premises. -/
import Derived.Stop.LaidErr
import Derived.OpenShut
import Derived.LaidMore
import Derived.MakeChecks
namespace Go.Proofs.YtdepglceffpfhaaDoor

theorem laid_at {P : Program} {W : World} {n : String} {d : DataW Unit} : ∀ {l : List (String × DataW Unit)}, laidMet P l W → (n, d) ∈ l → ∃ r, laidMet P ((n, d) :: r) W
  | [], _, hm => by cases hm
  | x :: r, h, hm => by
    rcases List.mem_cons.1 hm with rfl | hm
    · exact ⟨r, h⟩
    · exact laid_at h.tail hm

/-- An array of texts that reads as the list holds these, cell for cell. -/
theorem texts_of_head {P : Program} {W : World} {name : String} {zs : List (List UInt8)} {rest : List (String × DataW Unit)} {g : Nat} {t e : TypeId} {n : Nat}
    (hg : P.globalNamed name = some g) (hty : (P.globals[g]?).map (·.type) = some t) (ht : P.underlying t = some (.array n e)) (he : P.underlying e = some .string) (hce : P.cellsOf e = 1)
    (h : laidMet P ((name, .agg (zs.map fun z => .lit (.string z))) :: rest) W) : ∀ k z, zs[k]? = some z → W.cell? ⟨g, k, none⟩ = some (.string ⟨z.toArray⟩) := by
  intro k z hz
  obtain ⟨ps, ⟨g', t', cs, fuel, p, q, hg', ht', hvar, hd, _, _⟩, _⟩ := h
  obtain rfl := Option.some.inj (hg.symm.trans hg')
  obtain rfl := Option.some.inj (hty.symm.trans ht')
  obtain ⟨xs, m, rfl, hx, _, hn, hel⟩ := DataW.trod_array ht hd
  have hxs : xs.map (·.1) = zs.map fun z => (DataW.lit (.string z) : DataW Unit) := by
    have := congrArg Prod.fst hx
    simpa using this.symm
  have hl : zs.length = xs.length := by
    have := congrArg List.length hxs
    simpa using this.symm
  have hkn : k < n := by
    have := (List.getElem?_eq_some_iff.1 hz).1
    omega
  have hk := hel k hkn
  have hkx : k < xs.length := by omega
  rw [List.getElem?_eq_getElem hkx] at hk
  obtain ⟨s, hc, hs, _⟩ := DataW.trod_string he hk
  have hsz : s.data.toList = z := by
    have h1 : (xs.map (·.1))[k]? = some (DataW.lit (.string s.data.toList) : DataW Unit) := by
      rw [List.getElem?_map, List.getElem?_eq_getElem hkx, hs]; rfl
    rw [hxs, List.getElem?_map, hz] at h1
    simpa using h1.symm
  subst hsz
  have h2 : cs[k]? = some (.string s) := by
    have := congrArg (·[0]?) hc
    simp [hce] at this
    simpa using this
  rw [World.var?_cell hg hvar k, h2]

end Go.Proofs.YtdepglceffpfhaaDoor
