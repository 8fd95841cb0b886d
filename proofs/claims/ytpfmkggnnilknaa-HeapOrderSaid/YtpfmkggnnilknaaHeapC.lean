/- What the calls of layer 23 make of a heap, told by the list of its items in order: Len, Push, Peek, Pop. Conditions: the heap lies as it is told, and has fewer than a million million items. -/
import Derived.Test.YtpfmkggnnilknaaRows
import Derived.Test.YtpfmkggnnilknaaBase
import Derived.Test.YtpfmkggnnilknaaRow
import Derived.Test.YtpfmkggnnilknaaRecMath
import Derived.Test.YtpfmkggnnilknaaTriLt
import Derived.Test.YtpfmkggnnilknaaBox
import Derived.Test.YtpfmkggnnilknaaFindHeap
import Derived.Test.YtpfmkggnnilknaaTriHeap
import Derived.Test.YtpfmkggnnilknaaHeapMath
import Derived.Test.YtpfmkggnnilknaaHeapHeap
import Derived.Test.YtpfmkggnnilknaaHeapLeaf
import Derived.Test.YtpfmkggnnilknaaHeapApp
import Derived.Test.YtpfmkggnnilknaaHeapPile
import Derived.Test.YtpfmkggnnilknaaHeapLib
import Derived.Test.YtpfmkggnnilknaaHeapPush
import Derived.Test.YtpfmkggnnilknaaHeapLib2
import Derived.WalkKit
import Derived.WalkSpells
import Derived.WalkSmall
import Derived.Below
import Derived.Lib.Hide
import Derived.BigQuiet
import Derived.Outline
import Derived.OwnWalk
import Derived.Deep.QuietTactic
import Derived.Deep.DeepCutAuto
import Derived.Deep.RegionWith
namespace Go.Proofs.Ytpfmkggnnilknaa
open Go.RowKit

/-- The heap whose box is g, and whose row lies in block b, has the items of s, which are in order. -/
def Hs (w : World) (g b : Nat) (s : List Rc) : Prop := ∃ l, Pl w g b l ∧ HpL l ∧ Srt s ∧ s.Perm l

theorem Hs.below {w w' : World} {g b : Nat} {s : List Rc} (h : Hs w g b s) (hb : Below w.heap.size w w') : Hs w' g b s := by
  obtain ⟨l, h1, h2⟩ := h
  exact ⟨l, h1.below hb, h2⟩

theorem Hs.lt {w : World} {g b : Nat} {s : List Rc} (h : Hs w g b s) : g < w.heap.size ∧ b < w.heap.size ∧ g ≠ b := by
  obtain ⟨l, h1, h2⟩ := h
  exact h1.lt

theorem Hs.srt {w : World} {g b : Nat} {s : List Rc} (h : Hs w g b s) : Srt s := by
  obtain ⟨l, _, _, h, _⟩ := h
  exact h

theorem len23_nil (w : World) : Calls Try.prog 10 #[.pointer none] w fun e w' => e = .returned (.int .i64 0) ∧ w = w' := by
  go_enter Try.func10, Try.ntmps10
  go_wp2
  go_ret
  exact ⟨rfl, rfl⟩

theorem len23_any {w : World} {g b : Nat} {s : List Rc} (h : Hs w g b s) : Calls Try.prog 10 #[.pointer (some ⟨g, 0, none⟩)] w fun e w' => e = .returned (.int .i64 (s.length : Int)) ∧ w = w' := by
  obtain ⟨l, hp, _, _, hs⟩ := h
  obtain ⟨c, h1⟩ := hp.box
  have q0 := h1.cell (k := 0) rfl
  rw [← hs.length_eq] at q0
  clear h1 hp hs
  go_enter Try.func10, Try.ntmps10
  go_wp2
  go_ret
  exact ⟨rfl, rfl⟩

theorem push23_nil (x : Rc) (w : World) : Calls Try.prog 7 #[.pointer none, itV x] w fun e w' => e = .returned (.tuple #[]) ∧ Below w.heap.size w w' := by
  unfold itV
  go_enter Try.func7, Try.ntmps7
  go_wp2
  refine bodyPost_end (results_none Try.results7 _ _ _) rfl ⟨rfl, ?_⟩
  exact b_al (Below.refl _ _) (Nat.le_refl _) _

set_option maxHeartbeats 1600000 in
theorem push23_any {w : World} {g b : Nat} {s : List Rc} (h : Hs w g b s) (hl : s.length < 1000000000000) (x : Rc) :
    Calls Try.prog 7 #[.pointer (some ⟨g, 0, none⟩), itV x] w fun e w' => e = .returned (.tuple #[]) ∧ ∃ b', Hs w' g b' (ins x s) ∧ Mv w g b b' w' := by
  have HH := Lib.hid h
  obtain ⟨l, hp, hh, hs, hperm⟩ := h
  rw [hperm.length_eq] at hl
  have CP := fun W (hb : Below w.heap.size w W) => hpush23_any (hp.below hb) hl hh x
  have HS := Lib.hid hs
  have HP := Lib.hid hperm
  obtain ⟨a, b0, c⟩ := x
  unfold itV plV at *
  simp only at CP ⊢
  have q0 : (w.alloc (.cells #[.int .i64 a, .int .i64 b0, .int .i64 c] 28)).cell? ⟨w.heap.size, 0, none⟩ = some (.int .i64 a) := by simp
  have q1 : (w.alloc (.cells #[.int .i64 a, .int .i64 b0, .int .i64 c] 28)).cell? ⟨w.heap.size, 1, none⟩ = some (.int .i64 b0) := by simp
  have q2 : (w.alloc (.cells #[.int .i64 a, .int .i64 b0, .int .i64 c] 28)).cell? ⟨w.heap.size, 2, none⟩ = some (.int .i64 c) := by simp
  have HB := Lib.hid (show Below w.heap.size w (w.alloc (.cells #[.int .i64 a, .int .i64 b0, .int .i64 c] 28)).drew from b_dr (b_al (Below.refl _ _) (Nat.le_refl _) _))
  have CP2 := CP _ HB.out
  clear hp hh hs hperm CP
  go_enter Try.func7, Try.ntmps7
  go_wp2
  go_region_with (go_at_call 17; refine CP2.mono ?_; rintro e w2 ⟨rfl, b1, o, p1, p2, p3, p4⟩; have P1 := Lib.hid p1; have P2 := Lib.hid p2; have P3 := Lib.hid p3; have P4 := Lib.hid p4; clear p1 p2 p3 p4)
  go_wp2
  refine bodyPost_end (results_none Try.results7 _ _ _) rfl ⟨rfl, b1, ?_, ?_⟩
  · refine ⟨o, P3.out, P2.out, ins_srt _ HS.out, ?_⟩
    refine (ins_perm _ _).trans ((HP.out.cons _).trans ?_)
    refine List.Perm.trans ?_ P1.out.symm
    simpa using (List.perm_append_comm (l₁ := [(a, b0, c)]) (l₂ := l))
  · exact (Mv.of_below HB.out).trans P4.out

end Go.Proofs.Ytpfmkggnnilknaa
