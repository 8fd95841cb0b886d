/- What Number of layer 6 returns, and the document's own, for any text. Conditions: as each theorem says; the program's listed variables are laid. -/
import Derived.Test.YtdepglceffpfhaaDoorWordLeaf
import Derived.Test.YtdepglceffpfhaaDoorNums
namespace Go.Proofs.YtdepglceffpfhaaDoor
open Go.RowKit

/-- What the library's functions want of the variables that they read. -/
structure Laid6 (w : World) : Prop where
  most : ∃ m, w.cell? ⟨1, 0, none⟩ = some (.int .i64 m)
  err : ∃ tp p, w.var? Tryd.prog "strconv.ErrRange" = some #[.iface tp p]
  tab : Lib.TabIs Tryd.prog w "internal/strconv.uint64pow10" .u64 Lib.pow10Tab

theorem var_below {w w' : World} {n : String} {cs : Array Value} (h : w.var? Tryd.prog n = some cs) (hb : Below w.heap.size w w') : w'.var? Tryd.prog n = some cs := by
  unfold World.var? at *
  cases hg : Tryd.prog.globalNamed n with
  | none => rw [hg] at h; cases h
  | some g =>
    rw [hg] at h
    simp only [Option.bind_some] at h ⊢
    have hlt : g < w.heap.size := by
      rcases Nat.lt_or_ge g w.heap.size with h' | h'
      · exact h'
      · rw [Array.getElem?_eq_none h'] at h; simp at h
    rw [hb.block g hlt]
    exact h

theorem Laid6.below {w w' : World} (h : Laid6 w) (hb : Below w.heap.size w w') : Laid6 w' :=
  ⟨let ⟨m, hm⟩ := h.most; ⟨m, c_cl hm hb⟩, let ⟨tp, p, hp⟩ := h.err; ⟨tp, p, var_below hp hb⟩, var_below h.tab hb⟩

theorem bytes_below {w w' : World} (h : w' = w ∨ ∃ t, w' = Lib.bytesWorld w 5 t) : Below w.heap.size w w' := by
  rcases h with rfl | ⟨t, rfl⟩
  · exact Below.refl _ _
  · exact Lib.bytesWorld_below _ _ _

theorem number_no (s : ByteArray) (most : Int) (w : World) (hs : s.size ≤ maxLen) (h : ¬ numOk s) :
    Calls Tryd.prog 50 #[.string s, .int .i64 most] w fun e w' => e = .returned (.tuple #[.int .i64 0, .int .i64 7]) ∧ Below w.heap.size w w' := by
  go_enter Tryd.func50, Tryd.ntmps50
  go_wp2_with (go_at_call 68; (with_reducible refine (isnum_no _ _ hs h).mono ?_); rintro e w' ⟨rfl, rfl⟩)
  go_ret2
  exact ⟨rfl, Below.refl _ _⟩

theorem number_beyond (s : ByteArray) (most : Int) (w : World) (hl : Laid6 w) (hs : s.size ≤ 281474976710656) (h : numOk s) (hv : 9223372036854775808 ≤ numV s) :
    Calls Tryd.prog 50 #[.string s, .int .i64 most] w fun e w' => e = .returned (.tuple #[.int .i64 0, .int .i64 4]) ∧ Below w.heap.size w w' := by
  obtain ⟨tp, p, hp⟩ := hl.err
  have ha := atoi_val h
  rw [if_neg (by omega)] at ha
  have K := atoi_range s hs ha tp p w hp
  have I := fun W => isnum_yes s W (by unfold maxLen; omega) h
  generalize Lib.atoiSat s.data.toList = sat at K
  clear ha h hp hv hl
  go_enter Tryd.func50, Tryd.ntmps50
  go_wp2_with (first
    | (go_at_call 68; (with_reducible refine (I _).mono ?_); rintro e w' ⟨rfl, rfl⟩)
    | (go_at_call 69; (with_reducible refine K.mono ?_); rintro e w1 ⟨N, rfl, hN, hb1⟩))
  go_ret2
  exact ⟨rfl, hb1⟩

theorem number_in (s : ByteArray) (most : Int) (w : World) (hs : s.size ≤ 281474976710656) (h : numOk s) (hv : numV s < 9223372036854775808) :
    Calls Tryd.prog 50 #[.string s, .int .i64 most] w fun e w' => e = .returned (if most < (numV s : Int) then .tuple #[.int .i64 0, .int .i64 4] else .tuple #[.int .i64 (numV s), .int .i64 0]) ∧ Below w.heap.size w w' := by
  have ha := atoi_val h
  rw [if_pos hv] at ha
  have K := fun W => (atoi_ok s (by omega) _ ha W).mono fun e w' ⟨he, hw⟩ => And.intro he (bytes_below hw)
  have I := fun W => isnum_yes s W (by unfold maxLen; omega) h
  generalize (numV s : Int) = v at K
  clear ha h hv
  by_cases hm : most < v
  · rw [if_pos hm]
    go_enter Tryd.func50, Tryd.ntmps50
    go_wp2_with (first
      | (go_at_call 68; (with_reducible refine (I _).mono ?_); rintro e w' ⟨rfl, rfl⟩)
      | (go_at_call 69; (with_reducible refine (K _).mono ?_); rintro e w1 ⟨rfl, hb1⟩))
    go_ret2
    exact ⟨rfl, hb1⟩
  · rw [if_neg hm]
    go_enter Tryd.func50, Tryd.ntmps50
    go_wp2_with (first
      | (go_at_call 68; (with_reducible refine (I _).mono ?_); rintro e w' ⟨rfl, rfl⟩)
      | (go_at_call 69; (with_reducible refine (K _).mono ?_); rintro e w1 ⟨rfl, hb1⟩))
    go_ret2
    exact ⟨rfl, hb1⟩

theorem number_any (s : ByteArray) (most : Int) (w : World) (hl : Laid6 w) (hm : most ≤ 9223372036854775807) (hs : s.size ≤ 281474976710656) :
    Calls Tryd.prog 50 #[.string s, .int .i64 most] w fun e w' => e = .returned (.tuple #[.int .i64 (numberV s most).1, .int .i64 (numberV s most).2]) ∧ Below w.heap.size w w' := by
  by_cases h : numOk s
  · by_cases hv : numV s < 9223372036854775808
    · refine (number_in s most w hs h hv).mono fun e w' ⟨he, hb⟩ => ⟨?_, hb⟩
      rw [he]
      by_cases h2 : most < (numV s : Int)
      · rw [if_pos h2, number_far h h2]
      · rw [if_neg h2, number_good h (by omega)]
    · rw [number_far h (by omega)]
      exact number_beyond s most w hl hs h (by omega)
  · rw [number_form h]
    exact number_no s most w (by unfold maxLen; omega) h

end Go.Proofs.YtdepglceffpfhaaDoor
