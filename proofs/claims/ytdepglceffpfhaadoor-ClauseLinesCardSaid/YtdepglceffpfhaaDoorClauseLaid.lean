/- The table of the clauses' names and articles reads as the program lays it, wherever it stands on a row's list. Conditions: none. -/
import Derived.Test.YtdepglceffpfhaaDoorClauseLeaf
import Derived.Test.YtdepglceffpfhaaDoorPairsLaid
import Derived.MakeChecks
namespace Go.Proofs.YtdepglceffpfhaaDoor

theorem gTitles : Tryd.prog.globalNamed "haulier/clause.titles" = some 0 := by kernel_rfl
theorem tTitles : (Tryd.prog.globals[0]?).map (·.type) = some 50 := by kernel_rfl
theorem cTitle : Tryd.prog.cellsOf 47 = 2 := by kernel_rfl
theorem cTitleS : Tryd.prog.cellsOf 9 = 1 := by kernel_rfl

def titleL : List (List UInt8 × List UInt8) := [([98, 114, 101, 97, 107], [55]), ([108, 111, 110, 103, 101, 114], [54, 40, 49, 41]), ([108, 111, 110, 103, 101, 114, 115], [54, 40, 49, 41]), ([119, 101, 101, 107], [54, 40, 50, 41]), ([102, 111, 114, 116, 110, 105, 103, 104, 116], [54, 40, 51, 41]), ([100, 97, 105, 108, 121], [56, 40, 50, 41]), ([114, 101, 100, 117, 99, 101, 115], [56, 40, 52, 41]), ([119, 101, 101, 107, 108, 121], [56, 40, 54, 41]), ([98, 114, 105, 101, 102], [56, 40, 54, 41]), ([108, 97, 98, 111, 117, 114], [68, 52]), ([100, 114, 105, 118, 101], [82, 49]), ([119, 111, 114, 107], [82, 49]), ([111, 112, 101, 110], [82, 50]), ([115, 101, 114, 118, 101], [82, 51]), ([108, 101, 102, 116], [82, 52]), ([108, 111, 97, 100], [82, 53])]

theorem title_at : ∀ k, k < 16 → ∃ z, titleL[k]? = some z ∧ (⟨z.1.toArray⟩ : ByteArray) = nmB k ∧ (⟨z.2.toArray⟩ : ByteArray) = arB k := by
  intro k hk
  have : k = 0 ∨ k = 1 ∨ k = 2 ∨ k = 3 ∨ k = 4 ∨ k = 5 ∨ k = 6 ∨ k = 7 ∨ k = 8 ∨ k = 9 ∨ k = 10 ∨ k = 11 ∨ k = 12 ∨ k = 13 ∨ k = 14 ∨ k = 15 := by omega
  rcases this with rfl | rfl | rfl | rfl | rfl | rfl | rfl | rfl | rfl | rfl | rfl | rfl | rfl | rfl | rfl | rfl <;> exact ⟨_, rfl, rfl, rfl⟩

theorem titles_of_laid {W : World} {l : List (String × DataW Unit)} (h : laidMetH Tryd.prog l W) (hp : (l.all fun x => x.2.handleName?.isNone) = true) (hm : ("haulier/clause.titles", Rows.laid_haulier_clause_titles) ∈ l) : Titles W := by
  rw [MakeChecks.laidMetH_plain _ _ _ hp] at h
  obtain ⟨r, hr⟩ := laid_at h hm
  have hc := pairs_of_head (zs := titleL) (s := 9) gTitles tTitles Tryd.underlying50 Tryd.underlying47 rfl rfl rfl rfl Tryd.underlying9 cTitleS cTitle hr
  intro k hk
  obtain ⟨z, hz, e1, e2⟩ := title_at k hk
  have := hc k z hz
  rw [e1, e2] at this
  exact this

end Go.Proofs.YtdepglceffpfhaaDoor
