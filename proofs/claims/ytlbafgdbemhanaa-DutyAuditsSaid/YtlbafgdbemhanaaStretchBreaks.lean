/- What breaks of layer 14 leaves. Conditions: as the theorem says. -/
import Derived.Test.YtlbafgdbemhanaaRows
import Derived.Test.YtlbafgdbemhanaaBase
import Derived.Test.YtlbafgdbemhanaaZ2
import Derived.Test.YtlbafgdbemhanaaZ3
import Derived.Test.YtlbafgdbemhanaaMeterChk
import Derived.Test.YtlbafgdbemhanaaZ4
import Derived.WalkKit
import Derived.WalkSpells
import Derived.WalkSmall
import Derived.Below
import Derived.Lib.Hide
import Derived.Shelf.Abstract
import Derived.BigQuiet
import Derived.OwnWalk
import Derived.Outline
import Derived.Deep.DeepCutAuto
import Derived.StillTailTactics
import Derived.Maps.RangeWalk
import Derived.OrdersHeld
namespace Go.Proofs.Ytlbafgdbemhanaa
open Go.RowKit

set_option maxRecDepth 20000 in
theorem breaks14_any (g : Nat) (x : Nat → Int) (k : Int) (m : Mt) (y : Nat → Int) (c : Nat) (q a t : Int) (w : World) (hb : Bk w g x k m y) (hc : c < 10) (hq : q = ((c : Nat) : Int)) :
    Calls Try.prog 85 #[.pointer (some ⟨g, 0, none⟩), .int .i64 q, .int .i64 a, .int .i64 t] w fun e w' => e = .returned (.tuple #[]) ∧ BkTo w g x k m (brk y c a t) w' := by
  subst hq
  have f0 : w.cell? ⟨g, 34 + c, none⟩ = some (.int .i64 (y c)) := hb.cell (blk_first x k m y c hc)
  have hs := blk_fs x k m y a c hc
  obtain ⟨v, hv⟩ : ∃ v, y c = v := ⟨_, rfl⟩
  rw [hv] at f0
  by_cases h1 : a < t
  case neg =>
    have e : brk y c a t = y := by unfold brk; rw [if_neg (fun h => h1 h.1)]
    rw [e]
    have d1 : decide (a < t) = false := decide_eq_false h1
    clear e hs hv
    go_enter Try.func85, Try.ntmps85
    go_wp2
    refine bodyPost_end (results_none Try.results85 _ _ _) rfl ⟨rfl, Chg.refl hb⟩
  have d1 : decide (a < t) = true := decide_eq_true h1
  by_cases h2 : v < 0
  case neg =>
    have e : brk y c a t = y := by unfold brk; rw [if_neg (fun h => h2 (by rw [← hv]; exact h.2))]
    rw [e]
    have d2 : decide (v < 0) = false := decide_eq_false h2
    clear e hs hv h1
    go_enter Try.func85, Try.ntmps85
    go_wp2
    refine bodyPost_end (results_none Try.results85 _ _ _) rfl ⟨rfl, Chg.refl hb⟩
  have e : brk y c a t = fs y c a := by unfold brk; rw [if_pos ⟨h1, by rw [hv]; exact h2⟩]
  rw [e]
  have d2 : decide (v < 0) = true := decide_eq_true h2
  clear e hv h1
  go_enter Try.func85, Try.ntmps85
  go_wp2_with (refine wpList_store_fld (by rfl) 3 _ _ rfl g (34 + c) (.int .i64 a) rfl rfl rfl _ _ hb (by rw [blk_size]; omega) (by kernel_rfl) (fun W' u => ?_))
  rw [hs] at u
  refine bodyPost_end (results_none Try.results85 _ _ _) rfl ⟨rfl, (Chg.refl hb).upd u⟩

end Go.Proofs.Ytlbafgdbemhanaa
