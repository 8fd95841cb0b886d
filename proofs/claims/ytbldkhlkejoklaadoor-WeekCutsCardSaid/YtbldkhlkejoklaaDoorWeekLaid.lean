/- The table of the days' names reads as the program lays it, wherever it stands on a row's list. Conditions: none. -/
import Derived.Test.YtbldkhlkejoklaaDoorWeekNameC
import Derived.Test.YtbldkhlkejoklaaDoorLaid
namespace Go.Proofs.YtbldkhlkejoklaaDoor

theorem gDays : Tryd.prog.globalNamed "haulier/week.days" = some 0 := by kernel_rfl
theorem tDays : (Tryd.prog.globals[0]?).map (·.type) = some 43 := by kernel_rfl
theorem cString : Tryd.prog.cellsOf 9 = 1 := by kernel_rfl

def dayL : List (List UInt8) := [[77, 111, 110], [84, 117, 101], [87, 101, 100], [84, 104, 117], [70, 114, 105], [83, 97, 116], [83, 117, 110]]

theorem days_of_laid {W : World} {l : List (String × DataW Unit)} (h : laidMetH Tryd.prog l W) (hp : (l.all fun x => x.2.handleName?.isNone) = true) (hm : ("haulier/week.days", Rows.laid_haulier_week_days) ∈ l) : Days W := by
  rw [MakeChecks.laidMetH_plain _ _ _ hp] at h
  obtain ⟨r, hr⟩ := laid_at h hm
  have hc := texts_of_head (zs := dayL) gDays tDays Tryd.underlying43 Tryd.underlying9 cString hr
  intro k hk
  have hz : dayL[k]? = some [(dayC k).1, (dayC k).2.1, (dayC k).2.2] := by
    match k, hk with
    | 0, _ => rfl
    | 1, _ => rfl
    | 2, _ => rfl
    | 3, _ => rfl
    | 4, _ => rfl
    | 5, _ => rfl
    | 6, _ => rfl
  exact hc k _ hz

end Go.Proofs.YtbldkhlkejoklaaDoor
