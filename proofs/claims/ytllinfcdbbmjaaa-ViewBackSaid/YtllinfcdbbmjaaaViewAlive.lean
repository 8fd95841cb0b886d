/- The chapter's example of layer 9 is answered as it is written; which records are light. Conditions: as each theorem says. -/
import Derived.Test.YtllinfcdbbmjaaaRows
import Derived.Test.YtllinfcdbbmjaaaViewOfC
import Derived.WalkKit
import Derived.WalkSpells
import Derived.WalkSmall
import Derived.Outline
import Derived.OwnWalk
import Derived.Lib.Hide
import Derived.BigQuiet
import Derived.Deep.QuietTactic
import Derived.Lib.SlicesS
namespace Go.Proofs.Ytllinfcdbbmjaaa
open Go.RowKit

theorem rdr_two {w : World} {g : Nat} {t : TypeId} {a b c d e f : Int} (h : w.heap[g]? = some (.cells #[.int .i64 a, .int .i64 b, .int .i64 c, .int .i64 d, .int .i64 e, .int .i64 f] t (0, 0))) : RdR w (some ⟨g, 0, none⟩) [(a, b, c), (d, e, f)] := fun _ => by
  refine ⟨g, 0, rfl, ?_, fun k hk => ?_⟩
  · rcases Nat.lt_or_ge g w.heap.size with h1 | h1
    · exact h1
    · rw [Array.getElem?_eq_none h1] at h; cases h
  · rw [Nat.zero_add, cell_of_row w g _ _ t (0, 0) h, cell_of_row w g _ _ t (0, 0) h, cell_of_row w g _ _ t (0, 0) h]
    match k, hk with
    | 0, _ => exact ⟨rfl, rfl, rfl⟩
    | 1, _ => exact ⟨rfl, rfl, rfl⟩

theorem example_view : viewV [(3, 5, 7), (0, 7, 8)] = (5, ⟨#[68, 68, 82]⟩, 0) := by decide +kernel

set_option maxHeartbeats 1000000 in
theorem alive9_any (w : World) :
    Calls Try.prog 8 #[] w fun e w' => e = .returned (.bool true) ∧ Below w.heap.size w w' := by
  have OF := of9_any (some ⟨w.heap.size, 0, none⟩) 2 [(3, 5, 7), (0, 7, 8)] (w.alloc (.cells #[.int .i64 3, .int .i64 5, .int .i64 7, .int .i64 0, .int .i64 7, .int .i64 8] 50)) (rdr_two (heap_alloc_new w _)) (by decide)
  rw [example_view] at OF
  have e1 : ((⟨#[68, 68, 82]⟩ : ByteArray) == (⟨#[68, 68, 82]⟩ : ByteArray)) = true := by rfl
  go_enter Try.func8, Try.ntmps8
  go_wp2_with (go_at_call 9; refine OF.mono ?_; rintro e w1 ⟨rfl, hb1⟩)
  go_ret
  exact ⟨rfl, (((Below.refl w.heap.size w).alloc (Nat.le_refl _) (.cells #[.int .i64 3, .int .i64 5, .int .i64 7, .int .i64 0, .int .i64 7, .int .i64 8] 50)).trans (hb1.mono (by simp)))⟩

/-- Are records light? -/
def lightS (n : Int) : List Rc → Bool
  | [] => decide (n ≤ 3000)
  | r :: l => if (r.2.1 < 0 ∨ 40320 < r.2.2) ∨ (r.2.2 < 0 ∨ 40320 < r.2.1) then true else lightS (n + (r.2.2 - r.2.1)) l

def lightV (l : List Rc) : Bool := if 100 < l.length then false else lightS 0 l

theorem light_short {l : List Rc} (h : lightV l = true) : l.length ≤ 100 := by
  unfold lightV at h
  split at h
  · cases h
  · omega

theorem lightS_at {n : Int} {l : List Rc} {k : Nat} {x y z : Int} (h : k < l.length) (hr : l.getD k rz = (x, y, z)) : lightS n (l.drop k) = if (y < 0 ∨ 40320 < z) ∨ (z < 0 ∨ 40320 < y) then true else lightS (n + (z - y)) (l.drop (k + 1)) := by
  have e : l[k] = (x, y, z) := by
    rw [List.getD_eq_getElem?_getD, List.getElem?_eq_getElem h] at hr
    simpa using hr
  rw [List.drop_eq_getElem_cons h, e]
  rfl

set_option maxRecDepth 100000 in
set_option maxHeartbeats 2000000 in
theorem light_any (A : Option Addr) (c n : Nat) (l : List Rc) (w : World) (hn : Hid (l.length = n)) (h : RdR w A l) :
    Calls Try.prog 7 #[.slice A n c] w fun e w' => e = .returned (.bool (lightV l)) ∧ Below w.heap.size w w' := by
  have HR := Lib.hid h
  clear h
  by_cases h100 : 100 < n
  · have hv : lightV l = false := by unfold lightV; rw [hn.out, if_pos h100]
    rw [hv]
    have g1 : (100 : Int) < (n : Int) := by omega
    clear hv h100
    go_enter Try.func7, Try.ntmps7
    go_wp2
    go_ret
    exact ⟨rfl, Below.refl _ _⟩
  · have hv : lightV l = lightS 0 l := by unfold lightV; rw [hn.out, if_neg h100]
    rw [hv]
    have g1 : (n : Int) ≤ 100 := by omega
    obtain ⟨V, hV⟩ : ∃ V, lightS 0 l = V := ⟨_, rfl⟩
    have HV := Lib.hid hV
    rw [hV]
    clear hv h100 hV
    go_enter Try.func7, Try.ntmps7
    go_wp2
    go_loopw [3, 11] (fun s i wr => ∃ (k : Nat) (q : Int), k ≤ n ∧ i = .int .i64 k ∧ s = .int .i64 q ∧ -(40320 * (k : Int)) ≤ q ∧ q ≤ 40320 * (k : Int) ∧ Hid (lightS q (l.drop k) = V) ∧ Below w.heap.size w wr) (fun _ i _ => n - (intOf i).toNat)
    case atStart => exact ⟨0, 0, Nat.zero_le _, rfl, rfl, by omega, by omega, Lib.hid (by rw [List.drop_zero]; exact HV.out), Below.refl _ _⟩
    case round =>
      obtain ⟨k, q, hk, rfl, rfl, q0, q1, HQ, hb⟩ := hrel
      have hsz := hb.size
      by_cases hlt : k < n
      · obtain ⟨b, off, x, y, z, rfl, hbb, hc0, hc1, hc2, hs⟩ := HR.out.at_ (k := k) (by rw [hn.out]; exact hlt)
        rw [← hb.cell (p := ⟨b, _, none⟩) hbb] at hc0 hc1 hc2
        have hbr : b < wr.heap.size := by omega
        have HL := Lib.hid (lightS_at (n := q) (by rw [hn.out]; exact hlt) hs.out)
        clear hs
        by_cases c1 : y < 0
        · have HT : Hid (V = true) := Lib.hid (by rw [← HQ.out, HL.out, if_pos (.inl (.inl c1))])
          go_wp2
          go_ret
          exact ⟨by rw [HT.out]; rfl, hb.alloc hb.size _⟩
        · have c1' : 0 ≤ y := by omega
          by_cases c2 : 40320 < z
          · have HT : Hid (V = true) := Lib.hid (by rw [← HQ.out, HL.out, if_pos (.inl (.inr c2))])
            clear c1
            go_wp2
            go_ret
            exact ⟨by rw [HT.out]; rfl, hb.alloc hb.size _⟩
          · have c2' : z ≤ 40320 := by omega
            by_cases c3 : z < 0
            · have HT : Hid (V = true) := Lib.hid (by rw [← HQ.out, HL.out, if_pos (.inr (.inl c3))])
              clear c1 c2
              go_wp2
              go_ret
              exact ⟨by rw [HT.out]; rfl, hb.alloc hb.size _⟩
            · have c3' : 0 ≤ z := by omega
              by_cases c4 : 40320 < y
              · have HT : Hid (V = true) := Lib.hid (by rw [← HQ.out, HL.out, if_pos (.inr (.inr c4))])
                clear c1 c2 c3
                go_wp2
                go_ret
                exact ⟨by rw [HT.out]; rfl, hb.alloc hb.size _⟩
              · have c4' : y ≤ 40320 := by omega
                have HT : Hid (lightS (q + (z - y)) (l.drop (k + 1)) = V) := Lib.hid (by rw [← HQ.out, HL.out, if_neg (by omega)])
                clear c1 c2 c3 c4
                go_wp2
                go_roundw
                case rel => exact ⟨k + 1, q + (z - y), by omega, by go_num, by go_num, by omega, by omega, HT, hb.alloc hb.size _⟩
                case measure => simp [intOf]; omega
      · have HT : Hid (V = decide (q ≤ 3000)) := Lib.hid (by
          rw [← HQ.out, List.drop_of_length_le (by rw [hn.out]; omega)]; rfl)
        go_wp2
        go_ret
        exact ⟨by rw [HT.out]; rfl, hb⟩

end Go.Proofs.Ytllinfcdbbmjaaa
