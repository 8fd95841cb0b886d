/- What readDay of layer 11 returns: the normal timeline of a day's minutes, or that the bytes are none. Conditions: as the theorem says. -/
import Derived.Test.YtgmcikajhnnaaaaRows
import Derived.Test.YtgmcikajhnnaaaaDiscChs
import Derived.WalkKit
import Derived.WalkSpells
import Derived.WalkSmall
import Derived.Below
import Derived.Lib.Hide
import Derived.Outline
import Derived.OwnWalk
import Derived.OneCell
import Derived.BigQuiet
import Derived.RegionTactic
import Derived.Deep.QuietTactic
namespace Go.Proofs.Ytgmcikajhnnaaaa
open Go.RowKit

/-- The world in which readDay reads. -/
abbrev dayW (w : World) (s e B0 : Int) : World := ((w.alloc (.cells #[.int .i64 s, .int .i64 e] 45)).alloc (.cells #[.slice none 0 0] 29)).alloc (.cells #[.int .i64 B0] 3)

theorem dayW_size (w : World) (s e B0 : Int) : (dayW w s e B0).heap.size = w.heap.size + 3 := by simp [dayW]

theorem dayW_S (w : World) (s e B0 : Int) : DayS (w.heap.size + 2) w.heap.size (w.heap.size + 1) (w.heap.size + 3) B0 s e (.slice none 0 0) [] (dayW w s e B0) := by
  refine ⟨?_, ?_, ?_, OwnR.nil _ _, by omega, by omega, by omega, by omega, by omega, by rw [dayW_size]; omega⟩
  · have := heap_alloc_new ((w.alloc (.cells #[.int .i64 s, .int .i64 e] 45)).alloc (.cells #[.slice none 0 0] 29)) (.cells #[.int .i64 B0] 3)
    simpa using this
  · rw [Below.heap_alloc _ _ _ (by simp only [World.size_alloc]; omega), Below.heap_alloc _ _ _ (by simp only [World.size_alloc]; omega)]
    exact heap_alloc_new w _
  · rw [Below.heap_alloc _ _ _ (by simp only [World.size_alloc]; omega)]
    have := heap_alloc_new (w.alloc (.cells #[.int .i64 s, .int .i64 e] 45)) (.cells #[.slice none 0 0] 29)
    simpa using this

theorem dayW_kt (T : Nat) (w : World) (s e B0 : Int) : KT T w (dayW w s e B0) := (((KT.refl T w).alloc _).alloc _).alloc _

theorem KD.toKT {base L T : Nat} {u v w : World} (h : KT T u v) (k : KD base L T v w) (hb : u.heap.size ≤ base) (hL : u.heap.size ≤ L) : KT T u w :=
  ⟨k.os.trans h.os, k.tape.trans h.tape, k.output.trans h.output, Nat.le_trans h.size k.size, fun q h1 h2 => (k.block q (by omega) (by omega) h2).trans (h.block q h1 h2)⟩

/-- What readDay answers. -/
def DayP (T : Nat) (t : ByteArray) (w : World) (tot : Option (List Rc × List UInt8)) (r : Ending) (w' : World) : Prop :=
  KT T w w' ∧ (∀ R u, tot = some (R, u) → ∃ v p', r = .returned (.tuple #[v, .int .i64 0, .int .i64 0]) ∧ OwnR w.heap.size w' v R ∧ Tak T t p' w' ∧ rest t p' = u) ∧
    (tot = none → ∃ (v : Value) (pl er : Int), r = .returned (.tuple #[v, .int .i64 pl, .int .i64 er]) ∧ er ≠ 0)

set_option maxRecDepth 20000 in
set_option maxHeartbeats 1000000 in
theorem readDay_any (T p : Nat) (s e : Int) (t : ByteArray) (w : World) (hT : Tak T t p w) (hs0 : 0 ≤ s) (hse : s < e) (he : e ≤ 40320) (hd : e ≤ dEnd s) (ht : t.size ≤ 1000000) :
    Calls Try.prog 47 #[.agg #[.int .i64 s, .int .i64 e], .func (.func 46) #[.pointer (some ⟨T, 0, none⟩)] #[]] w fun r w' => DayP T t w (rdDay s e (rest t p)) r w' := by
  have hTl := hT.lt
  have hS := dayW_S w s e (s - s % 1440)
  have CH := changes_any T (w.heap.size + 2) w.heap.size (w.heap.size + 1) (w.heap.size + 3) p s e t (.slice none 0 0) (dayW w s e (s - s % 1440)) (((hT.alloc _).alloc _).alloc _) hS (by omega) (by omega) (by omega) (by omega) hs0 hse he hd ht
  have HK := Lib.hid (dayW_kt T w s e (s - s % 1440))
  generalize rdDay s e (rest t p) = tot at *
  obtain ⟨B0, hB0⟩ : ∃ B0, s - s % 1440 = B0 := ⟨_, rfl⟩
  rw [hB0] at CH HK
  clear hS hT hd
  cases tot with
  | none =>
    have CH2 := CH.mono (R' := fun r w' => ∃ (pl er : Int) (v : Value) (l : List Rc), r = .returned (.tuple #[.int .i64 pl, .int .i64 er]) ∧ er ≠ 0 ∧ DayS (w.heap.size + 2) w.heap.size (w.heap.size + 1) (w.heap.size + 3) B0 s e v l w' ∧ KT T w w') fun r w' ⟨k, _, hn⟩ => (by
      obtain ⟨pl, er, v, l, h1, h2, h3⟩ := hn rfl
      exact ⟨pl, er, v, l, h1, h2, h3, KD.toKT HK.out k (by omega) (by omega)⟩)
    clear CH HK
    go_enter Try.func47, Try.ntmps47
    go_wp2_with (go_at_call 60; (with_reducible refine CH2.mono ?_); rintro r1 w1 ⟨pl, er, v, l, rfl, hne, hd1, hk1⟩; obtain ⟨g0, d0, d1, l0, lf⟩ := DayS.cells hd1)
    go_ret3
    exact ⟨hk1, fun R' u' h => (by cases h), fun _ => ⟨v, pl, er, rfl, hne⟩⟩
  | some q =>
    obtain ⟨R, u⟩ := q
    have CH2 := CH.mono (R' := fun r w' => ∃ v p', r = .returned (.tuple #[.int .i64 0, .int .i64 0]) ∧ DayS (w.heap.size + 2) w.heap.size (w.heap.size + 1) (w.heap.size + 3) B0 s e v R w' ∧ Tak T t p' w' ∧ rest t p' = u ∧ KT T w w') fun r w' ⟨k, hy, _⟩ => (by
      obtain ⟨v, p', h1, h2, h3, h4⟩ := hy R u rfl
      exact ⟨v, p', h1, h2, h3, h4, KD.toKT HK.out k (by omega) (by omega)⟩)
    clear CH HK
    go_enter Try.func47, Try.ntmps47
    go_wp2_with (go_at_call 60; (with_reducible refine CH2.mono ?_); rintro r1 w1 ⟨v, p', rfl, hd1, ht1, hr1, hk1⟩; obtain ⟨g0, d0, d1, l0, lf⟩ := DayS.cells hd1)
    go_ret3
    refine ⟨hk1, fun R' u' h => ?_, fun h => by cases h⟩
    injection h with h
    injection h with h1 h2
    subst h1 h2
    exact ⟨v, p', rfl, hd1.own.more (by omega), ht1, hr1⟩

end Go.Proofs.Ytgmcikajhnnaaaa
