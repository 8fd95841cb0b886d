/- An array of pairs of texts that a row lists reads as it is laid, cell for cell, wherever it stands on the list. Conditions: none beyond the lemma's own premises. -/
import Derived.Test.YtdepglceffpfhaaDoorLaid
import Derived.ChangeArms
import Derived.ChangeSame
namespace Go.Proofs.YtdepglceffpfhaaDoor
open Go.ChangeShapes

theorem pairs_of_head {P : Program} {W : World} {name : String} {zs : List (List UInt8 × List UInt8)} {rest : List (String × DataW Unit)} {g : Nat} {t e s : TypeId} {n : Nat} {f0 f1 : Field}
    (hg : P.globalNamed name = some g) (hty : (P.globals[g]?).map (·.type) = some t) (ht : P.underlying t = some (.array n e)) (he : P.underlying e = some (.struct #[f0, f1]))
    (h0 : f0.type = s) (o0 : f0.offset = 0) (h1 : f1.type = s) (o1 : f1.offset = 1) (hs : P.underlying s = some .string) (hcs : P.cellsOf s = 1) (hce : P.cellsOf e = 2)
    (h : laidMet P ((name, .agg (zs.map fun z => .agg [.lit (.string z.1), .lit (.string z.2)])) :: rest) W) :
    ∀ k z, zs[k]? = some z → W.cell? ⟨g, k * 2, none⟩ = some (.string ⟨z.1.toArray⟩) ∧ W.cell? ⟨g, k * 2 + 1, none⟩ = some (.string ⟨z.2.toArray⟩) := by
  intro k z hz
  obtain ⟨ps, ⟨g', t', cs, fuel, p, q, hg', ht', hvar, hd, _, _⟩, _⟩ := h
  obtain rfl := Option.some.inj (hg.symm.trans hg')
  obtain rfl := Option.some.inj (hty.symm.trans ht')
  obtain ⟨xs, m, rfl, hx, _, hn, hel⟩ := DataW.trod_array ht hd
  have hxs : xs.map (·.1) = zs.map fun z => (DataW.agg [.lit (.string z.1), .lit (.string z.2)] : DataW Unit) := by
    have := congrArg Prod.fst hx
    simpa using this.symm
  have hl : zs.length = xs.length := by
    have := congrArg List.length hxs
    simpa using this.symm
  have hkn : k < n := by
    have := (List.getElem?_eq_some_iff.1 hz).1
    omega
  have hk := hel k hkn
  have hkx : k < xs.length := by omega
  rw [List.getElem?_eq_getElem hkx] at hk
  obtain ⟨y0, y1, m2, hy, hlen, t0, t1⟩ := trod_struct2 he hk
  rw [h0, o0, hcs] at t0
  rw [h1, o1, hcs] at t1
  obtain ⟨a, ha, ha2, _⟩ := DataW.trod_string hs t0
  obtain ⟨b, hb, hb2, _⟩ := DataW.trod_string hs t1
  have hzz : (xs[k]).1 = (DataW.agg [.lit (.string z.1), .lit (.string z.2)] : DataW Unit) := by
    have h2 : (xs.map (·.1))[k]? = some (xs[k]).1 := by rw [List.getElem?_map, List.getElem?_eq_getElem hkx]; rfl
    rw [hxs, List.getElem?_map, hz] at h2
    exact (Option.some.inj h2).symm
  rw [hy, ha2, hb2] at hzz
  simp only [DataW.agg.injEq, List.cons.injEq, DataW.lit.injEq, Lit.string.injEq, and_true] at hzz
  obtain ⟨e1, e2⟩ := hzz
  rw [hce] at ha hb
  have q0 : cs[k * 2]? = some (.string a) := by
    have := congrArg (·[0]?) ha
    simpa using this
  have q1 : cs[k * 2 + 1]? = some (.string b) := by
    have := congrArg (·[0]?) hb
    simpa using this
  rw [World.var?_cell hg hvar (k * 2), World.var?_cell hg hvar (k * 2 + 1), q0, q1, ← e1, ← e2]
  exact ⟨rfl, rfl⟩

end Go.Proofs.YtdepglceffpfhaaDoor
