/- The listed variables of layer 15 read as the program lays them, wherever they stand on a row's list. Conditions: none beyond each lemma's own premises. -/
import Derived.Test.YtdepglceffpfhaaDoorWordRow
import Derived.Test.YtdepglceffpfhaaDoorClauseLaid
import Derived.Test.YtdepglceffpfhaaDoorClauseLine
namespace Go.Proofs.YtdepglceffpfhaaDoor
open Go.RowKit

theorem laid15_of {W : World} {l : List (String × DataW Unit)} (h : laidMetH Tryd.prog l W) (hp : (l.all fun x => x.2.handleName?.isNone) = true)
    (h1 : ("internal/strconv.uint64pow10", Rows.laid_internal_strconv_uint64pow10) ∈ l) (h2 : ("haulier/clause.titles", Rows.laid_haulier_clause_titles) ∈ l) : Laid15 W := by
  refine ⟨titles_of_laid h hp h2, ?_⟩
  rw [MakeChecks.laidMetH_plain _ _ _ hp] at h
  obtain ⟨r, hr⟩ := laid_at h h1
  rw [powData] at hr
  exact Lib.tabIs_of_head gPow tPow Tryd.underlying140 Tryd.underlying51 cU64 cPow hr

end Go.Proofs.YtdepglceffpfhaaDoor
