/- What Name, Article and Find of layer 15 return, and the document's own. Conditions: the table of the clauses' names and articles reads as the program lays it. -/
import Derived.Test.YtdepglceffpfhaaDoorRows
import Derived.Test.YtdepglceffpfhaaDoorBase
import Derived.Test.YtdepglceffpfhaaDoorRow
import Derived.Test.YtdepglceffpfhaaDoorBox
import Derived.Test.YtdepglceffpfhaaDoorClauseNm
import Derived.Lib.SlicesS
import Derived.WalkKit
import Derived.WalkSpells
import Derived.WalkSmall
import Derived.Below
import Derived.Outline
import Derived.OwnWalk
import Derived.Lib.Hide
import Derived.Deep.MidRow
namespace Go.Proofs.YtdepglceffpfhaaDoor
open Go.RowKit

/-- The table of the clauses' names and articles. -/
def Titles (w : World) : Prop := ∀ k : Nat, k < 16 → w.cell? ⟨0, k * 2, none⟩ = some (.string (nmB k)) ∧ w.cell? ⟨0, k * 2 + 1, none⟩ = some (.string (arB k))

theorem Titles.lt {w : World} (h : Titles w) : 0 < w.heap.size := World.block_lt_of_cell? w _ (h 0 (by omega)).1
theorem Titles.below {w w' : World} (h : Titles w) (hb : Below w.heap.size w w') : Titles w' := fun k hk => ⟨c_cl (h k hk).1 hb, c_cl (h k hk).2 hb⟩

/-- Its cells. -/
def tvL : List Value := (List.range 16).flatMap fun k => [.string (nmB k), .string (arB k)]

theorem tv_len : tvL.length = 32 := by decide +kernel
theorem tv_at : ∀ k, k < 16 → tvL[k * 2]? = some (.string (nmB k)) ∧ tvL[k * 2 + 1]? = some (.string (arB k)) := by
  intro k hk
  have : k = 0 ∨ k = 1 ∨ k = 2 ∨ k = 3 ∨ k = 4 ∨ k = 5 ∨ k = 6 ∨ k = 7 ∨ k = 8 ∨ k = 9 ∨ k = 10 ∨ k = 11 ∨ k = 12 ∨ k = 13 ∨ k = 14 ∨ k = 15 := by omega
  rcases this with rfl | rfl | rfl | rfl | rfl | rfl | rfl | rfl | rfl | rfl | rfl | rfl | rfl | rfl | rfl | rfl <;> exact ⟨rfl, rfl⟩

theorem Titles.range {w : World} (h : Titles w) : w.rangeAt 0 0 tvL := fun j v hj => by
  have hl : j < 32 := by
    have := (List.getElem?_eq_some_iff.1 hj).1
    rwa [tv_len] at this
  have hk : j / 2 < 16 := by omega
  have h1 := tv_at (j / 2) hk
  have h2 := h (j / 2) hk
  rw [Nat.zero_add]
  have : j = j / 2 * 2 ∨ j = j / 2 * 2 + 1 := by omega
  rcases this with e | e
  · rw [e] at hj ⊢
    rw [h1.1] at hj
    cases hj
    exact h2.1
  · rw [e] at hj ⊢
    rw [h1.2] at hj
    cases hj
    exact h2.2

theorem size_titles : (Tryd.prog.info? 50).map (·.size) = some 32 := by kernel_rfl

theorem load_titles {w : World} (h : Titles w) : (Instr.loadAt 50 (.pointer (some ⟨0, 0, none⟩))).run Tryd.prog w = .ok (.agg tvL.toArray) w :=
  run_loadAt_mid w _ 0 50 tvL _ h.range Tryd.underlying50 rfl (by rw [tv_len]; exact size_titles)

theorem index_titles : ∀ k, k < 16 → ∀ w : World, (Instr.index 50 (.agg tvL.toArray) (.int .i64 (k : Nat))).run Tryd.prog w = .ok (.agg #[.string (nmB k), .string (arB k)]) w := by
  intro k hk w
  have : k = 0 ∨ k = 1 ∨ k = 2 ∨ k = 3 ∨ k = 4 ∨ k = 5 ∨ k = 6 ∨ k = 7 ∨ k = 8 ∨ k = 9 ∨ k = 10 ∨ k = 11 ∨ k = 12 ∨ k = 13 ∨ k = 14 ∨ k = 15 := by omega
  rcases this with rfl | rfl | rfl | rfl | rfl | rfl | rfl | rfl | rfl | rfl | rfl | rfl | rfl | rfl | rfl | rfl <;> exact (show _ = _ by kernel_rfl)

theorem is_any (c : Int) (w : World) :
    Calls Tryd.prog 25 #[.int .i64 c] w fun e w' => e = .returned (.bool (decide (isC c))) ∧ w = w' := by
  by_cases h : isC c
  · rw [decide_eq_true h]
    obtain ⟨h0, h1⟩ := h
    go_enter Tryd.func25, Tryd.ntmps25
    go_wp2
    go_ret
    exact ⟨rfl, rfl⟩
  · rw [decide_eq_false h]
    by_cases h0 : 0 ≤ c
    · have h1 : ¬ c < 16 := fun k => h ⟨h0, k⟩
      clear h
      go_enter Tryd.func25, Tryd.ntmps25
      go_wp2
      go_ret
      exact ⟨rfl, rfl⟩
    · clear h
      go_enter Tryd.func25, Tryd.ntmps25
      go_wp2
      go_ret
      exact ⟨rfl, rfl⟩

theorem title_yes (k : Nat) (w : World) (hk : k < 16) (hT : Titles w) :
    Calls Tryd.prog 24 #[.int .i64 (k : Nat)] w fun e w' => e = .returned (.tuple #[.agg #[.string (nmB k), .string (arB k)], .int .i64 0]) ∧ Below w.heap.size w w' := by
  have CI := fun W => is_any (k : Int) W
  rw [decide_eq_true (isC_nat hk)] at CI
  obtain ⟨q0, q1⟩ := hT k hk
  have hlt := hT.lt
  have k0 : (0 : Int) ≤ (k : Int) := by omega
  have k1 : (k : Int) < 16 := by omega
  generalize nmB k = a at q0
  generalize arB k = b at q1
  clear hT
  go_enter Tryd.func24, Tryd.ntmps24
  go_wp2_with (go_at_call 25; (with_reducible refine (CI _).mono ?_); rintro e w1 ⟨rfl, rfl⟩)
  refine bodyPost_ret (v := .tuple #[.agg #[.string a, .string b], .int .i64 0]) (by simp [results, Tryd.results24, go_sem, *]) rfl ⟨rfl, ?_⟩
  (repeat (first | assumption | exact Below.refl _ _ | (refine b_st ?_ (by first | (simp; done) | (simp; omega))) | (refine b_al ?_ (Nat.le_refl _) _) | refine b_dn ?_ | refine b_dr ?_ | (refine b_cl ?_ (Nat.le_refl _) (by assumption))))

theorem title_no (c : Int) (w : World) (h : ¬ isC c) :
    Calls Tryd.prog 24 #[.int .i64 c] w fun e w' => e = .returned (.tuple #[.agg #[.string ⟨#[]⟩, .string ⟨#[]⟩], .int .i64 13]) ∧ Below w.heap.size w w' := by
  have CI := fun W => is_any c W
  rw [decide_eq_false h] at CI
  clear h
  go_enter Tryd.func24, Tryd.ntmps24
  go_wp2_with (go_at_call 25; (with_reducible refine (CI _).mono ?_); rintro e w1 ⟨rfl, rfl⟩)
  refine bodyPost_ret (v := .tuple #[.agg #[.string ⟨#[]⟩, .string ⟨#[]⟩], .int .i64 13]) (by simp [results, Tryd.results24, go_sem, *]) rfl ⟨rfl, ?_⟩
  (repeat (first | assumption | exact Below.refl _ _ | (refine b_st ?_ (by first | (simp; done) | (simp; omega))) | (refine b_al ?_ (Nat.le_refl _) _) | refine b_dn ?_ | refine b_dr ?_ | (refine b_cl ?_ (Nat.le_refl _) (by assumption))))

theorem title_any (c : Int) (w : World) (hT : Titles w) :
    Calls Tryd.prog 24 #[.int .i64 c] w fun e w' => e = .returned (.tuple #[.agg #[.string (nameV c), .string (artV c)], .int .i64 (noneV c)]) ∧ Below w.heap.size w w' := by
  by_cases h : isC c
  · rw [none_yes h]
    obtain ⟨k, hk, rfl⟩ := isC_of h
    rw [name_yes hk, art_yes hk]
    exact title_yes k w hk hT
  · rw [name_no h, art_no h, none_no h]
    exact title_no c w h

theorem name_any (c : Int) (w : World) (hT : Titles w) :
    Calls Tryd.prog 7 #[.int .i64 c] w fun e w' => e = .returned (.tuple #[.string (nameV c), .int .i64 (noneV c)]) ∧ Below w.heap.size w w' := by
  have CT := fun W (h : Titles W) => title_any c W h
  generalize nameV c = a at CT
  generalize artV c = b at CT
  generalize noneV c = n at CT
  go_enter Tryd.func7, Tryd.ntmps7
  go_wp2_with (go_at_call 24; (with_reducible refine (CT _ hT).mono ?_); rintro e w1 ⟨rfl, hb1⟩)
  go_ret2
  refine ⟨rfl, ?_⟩
  (repeat (first | assumption | exact Below.refl _ _ | (refine b_st ?_ (by first | (simp; done) | (simp; omega))) | (refine b_al ?_ (Nat.le_refl _) _) | refine b_dn ?_ | refine b_dr ?_ | (refine b_cl ?_ (Nat.le_refl _) (by assumption))))

theorem art_any (c : Int) (w : World) (hT : Titles w) :
    Calls Tryd.prog 8 #[.int .i64 c] w fun e w' => e = .returned (.tuple #[.string (artV c), .int .i64 (noneV c)]) ∧ Below w.heap.size w w' := by
  have CT := fun W (h : Titles W) => title_any c W h
  generalize nameV c = a at CT
  generalize artV c = b at CT
  generalize noneV c = n at CT
  go_enter Tryd.func8, Tryd.ntmps8
  go_wp2_with (go_at_call 24; (with_reducible refine (CT _ hT).mono ?_); rintro e w1 ⟨rfl, hb1⟩)
  go_ret2
  refine ⟨rfl, ?_⟩
  (repeat (first | assumption | exact Below.refl _ _ | (refine b_st ?_ (by first | (simp; done) | (simp; omega))) | (refine b_al ?_ (Nat.le_refl _) _) | refine b_dn ?_ | refine b_dr ?_ | (refine b_cl ?_ (Nat.le_refl _) (by assumption))))

end Go.Proofs.YtdepglceffpfhaaDoor
