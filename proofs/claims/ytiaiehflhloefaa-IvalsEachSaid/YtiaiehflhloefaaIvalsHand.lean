/- What the closure of the law on Each keeps and leaves. Conditions: the spans can be read; at most some hundreds. -/
import Derived.Test.YtiaiehflhloefaaRows
import Derived.Test.YtiaiehflhloefaaBase
import Derived.Test.YtiaiehflhloefaaIvalsWords
import Derived.Test.YtiaiehflhloefaaIvalsOwn
import Derived.Test.YtiaiehflhloefaaIvalsEachC
import Derived.Test.YtiaiehflhloefaaIvalsGapsC
import Derived.Test.YtiaiehflhloefaaIvalsSame
import Derived.WalkKit
import Derived.WalkSpells
import Derived.WalkSmall
import Derived.Below
import Derived.Outline
import Derived.OwnWalk
import Derived.OneCell
import Derived.Lib.Hide
namespace Go.Proofs.Ytiaiehflhloefaa
open Go.RowKit

set_option maxHeartbeats 1000000 in
/-- The law's closure, handed one span. -/
theorem hand_step (G R base : Nat) (v : Value) (gl : List Sp) (n x y : Int) (W : World) (hF : W.heap[G]? = some (.cells #[v] 22 (0, 0))) (hR : W.heap[R]? = some (.cells #[.int .i64 n] 3 (0, 0)))
    (ho : Own base W v gl) (hFb : G < base) (hRb : R < base) (hne : G ≠ R) (hbs : base ≤ W.heap.size) (hgl : gl.length ≤ 1000) :
    Calls Try.prog 20 #[.agg #[.int .i64 x, .int .i64 y], .pointer (some ⟨G, 0, none⟩), .pointer (some ⟨R, 0, none⟩)] W fun e W' => ∃ v', e = .returned (.bool (decide ((gl.length : Int) + 1 < n))) ∧
      W'.heap[G]? = some (.cells #[v'] 22 (0, 0)) ∧ W'.heap[R]? = some (.cells #[.int .i64 n] 3 (0, 0)) ∧ Own base W' v' (gl ++ [(x, y)]) ∧ W.heap.size ≤ W'.heap.size ∧ W'.os = W.os ∧ W'.tape = W.tape ∧ W'.output = W.output ∧ ∀ q, q < base → q ≠ G → q ≠ R → W'.heap[q]? = W.heap[q]? := by
  obtain ⟨i0, hi, hz0, hz1, hz2⟩ := info_parts info_span
  have cF := cell_of_one hF
  have fF := free_of_one hF
  have cR := cell_of_one hR
  have hFl := lt_of_block hF
  have hRl := lt_of_block hR
  obtain ⟨Av, cv, rfl, _, _, _⟩ := ho.form
  have HF := Lib.hid hF
  have HR := Lib.hid hR
  have HO := Lib.hid ((ho.alloc (.cells #[.int .i64 x, .int .i64 y] 33)).alloc (.cells #[.int .i64 x, .int .i64 y] 33))
  have hrow := Lib.hid fun k (hk : (Value.slice Av gl.length cv).ownBlock = some k) => World.ownsRow.lt ho k hk
  clear hF hR ho
  go_enter Try.func20, Try.ntmps20
  go_wp2_with (at_builtin; refine wpList_append_own _ rfl _ _ 22 rfl base 33 i0 (.agg #[.int .i64 0, .int .i64 0]) 2 16 Try.underlying22 hi hz0 hz1 hz2 rfl (by decide) _ _ _ rfl HO.out ⟨W.heap.size + 1, 0, none⟩ 1 1 [.int .i64 x, .int .i64 y] rfl rfl (one_news_at (by simp)) one_cell2 (by unfold maxLen; omega) (by omega) (by simp; omega) ?_; intro v1 w5 hown5 hgrow5 _; have HS := Lib.hid (Own.snoc hown5); have HG := Lib.hid (grown_old hgrow5 hrow.out); clear hown5 hgrow5; obtain ⟨A5, c5, rfl, _, _, _⟩ := HS.out.form; have hF5 := (HG.out.1 G hFb hFl).trans HF.out; have hR5 := (HG.out.1 R hRb hRl).trans HR.out; have cF5 := cell_of_one hF5; have fF5 := free_of_one hF5; have cR5 := cell_of_one hR5; have HF5 := Lib.hid hF5; have HR5 := Lib.hid hR5; clear hF5 hR5)
  go_ret
  have hlen : (gl ++ [(x, y)]).length = gl.length + 1 := by simp
  have hO := HS.out
  rw [hlen] at hO
  have hl5 := World.ownsRow.lt hO
  have hb1 : ∀ q, q < base → (Value.slice A5 (gl.length + 1) c5).ownBlock ≠ some q := fun q hq e => by
    have := (hl5 q (by rw [← hlen] at *; exact e)).1; omega
  refine ⟨.slice A5 (gl.length + 1) c5, rfl, ?_, ?_, ?_, ?_, HG.out.2.2.2.1, HG.out.2.2.2.2.1, HG.out.2.2.2.2.2, fun q h1 h2 h3 => ?_⟩
  · exact one_setCell HF5.out
  · rw [Below.heap_setCell _ _ _ _ (Ne.symm hne)]; exact HR5.out
  · exact Own.other hO (hb1 G hFb) _
  · have := HG.out.2.2.1; simp; omega
  · rw [Below.heap_setCell _ _ _ _ h2]; exact HG.out.1 q h1 (by omega)

/-- What the law wants to be handed on. -/
def wantOf (s : List Sp) (n : Int) : List Sp := if (max 1 n).toNat < s.length then s.take (max 1 n).toNat else s

theorem want_all {s : List Sp} {n : Int} (h : s.length = 0 ∨ (s.length : Int) < n) : s = wantOf s n := by
  unfold wantOf
  rw [if_neg]
  rcases h with h | h <;> omega

theorem want_some {s : List Sp} {n : Int} {k : Nat} (hk : k ≤ s.length) (h0 : 0 < k) (h1 : ¬ (k : Int) < n) (h2 : k = 1 ∨ (k : Int) - 1 < n) : s.take k = wantOf s n := by
  unfold wantOf
  have e : (max 1 n).toNat = k := by omega
  rw [e]
  split
  · rfl
  · exact List.take_of_length_le (by omega)

/-- The world in which the law calls Each: its two variables laid. -/
def handW (w : World) (n : Int) : World := (w.alloc (.cells #[.int .i64 n] 3)).alloc (.cells #[.slice none 0 0] 22)

theorem handW_size (w : World) (n : Int) : (handW w n).heap.size = w.heap.size + 2 := by simp [handW]

theorem handW_R (w : World) (n : Int) : (handW w n).heap[w.heap.size]? = some (.cells #[.int .i64 n] 3 (0, 0)) := by
  unfold handW
  rw [Below.heap_alloc _ _ _ (by simp)]; exact heap_alloc_new w _

theorem handW_G (w : World) (n : Int) : (handW w n).heap[w.heap.size + 1]? = some (.cells #[.slice none 0 0] 22 (0, 0)) := by
  have := heap_alloc_new (w.alloc (.cells #[.int .i64 n] 3)) (.cells #[.slice none 0 0] 22)
  simpa [handW] using this

/-- What stands in every world in which k spans were handed on. -/
def handS (w : World) (l : List Sp) (n : Int) (base k : Nat) (W : World) : Prop :=
  ∃ v, W.heap[w.heap.size + 1]? = some (.cells #[v] 22 (0, 0)) ∧ W.heap[w.heap.size]? = some (.cells #[.int .i64 n] 3 (0, 0)) ∧ Own base W v ((setOf l).take k) ∧ Below w.heap.size w W ∧ w.heap.size + 2 ≤ W.heap.size

def handI (w : World) (l : List Sp) (n : Int) (b k : Nat) (W : World) : Prop := w.heap.size + 2 ≤ b ∧ (k = 0 ∨ (k : Int) < n) ∧ handS w l n (b + 1) k W

def handJ (w : World) (l : List Sp) (n : Int) (k : Nat) (W : World) : Prop := ¬ (k : Int) < n ∧ (k = 1 ∨ (k : Int) - 1 < n) ∧ handS w l n w.heap.size k W

theorem hand_hands (w : World) (l : List Sp) (n : Int) (hl : l.length ≤ 1000) :
    Hands 20 #[.pointer (some ⟨w.heap.size + 1, 0, none⟩), .pointer (some ⟨w.heap.size, 0, none⟩)] l (handW w n) (handI w l n) (handJ w l n) where
  start W b hb hge := by
    rw [handW_size] at hge
    have hw : Below w.heap.size w (handW w n) := ((Below.refl _ _).alloc (Nat.le_refl _) _).alloc (by simp) _
    refine ⟨hge, .inl rfl, .slice none 0 0, ?_, ?_, Own.nil _ _, hw.trans (hb.mono (by rw [handW_size]; omega)), by have := hb.size; rw [handW_size] at this; exact this⟩
    · rw [hb.block _ (by rw [handW_size]; omega)]; exact handW_G w n
    · rw [hb.block _ (by rw [handW_size]; omega)]; exact handW_R w n
  box b k W x y h := by
    obtain ⟨h1, hk, v, hF, hR, ho, hb, hs⟩ := h
    exact ⟨h1, hk, v, by rw [Below.heap_alloc _ _ _ (by omega)]; exact hF, by rw [Below.heap_alloc _ _ _ (by omega)]; exact hR, ho.alloc _, hb.alloc hb.size _, by simp; omega⟩
  step b k W x y hbW hk hs h := by
    obtain ⟨h1, hkn, v, hF, hR, ho, hb, hsz⟩ := h
    have hlk : ((setOf l).take k).length = k := by rw [List.length_take]; omega
    have hlen : ((setOf l).take k).length ≤ 1000 := by
      have := setOf_len l
      omega
    have hm : (setOf l).take (k + 1) = (setOf l).take k ++ [(x, y)] := by rw [take_more (setOf l) (0, 0) k hk, hs]
    have hg := hand_step (w.heap.size + 1) w.heap.size (b + 1) v _ n x y W hF hR ho (by omega) (by omega) (by omega) (by omega) hlen
    rw [hlk] at hg
    refine hg.mono fun e W' ⟨v', he, hF', hR', ho', hsz', hos, htp, hout, hbl⟩ => ?_
    have hB : Below w.heap.size w W' := ⟨hos.trans hb.os, htp.trans hb.tape, hout.trans hb.output, Nat.le_trans hb.size hsz', fun q hq => (hbl q (by omega) (by omega) (by omega)).trans (hb.block q hq)⟩
    refine ⟨_, he, hsz', fun o => ?_, fun hr => ⟨h1, .inr ?_, v', hF', hR', by rw [hm]; exact ho', hB, by omega⟩, fun hr => ⟨?_, ?_, v', hF', hR', by rw [hm]; exact ho'.more (by omega), hB, by omega⟩⟩
    · exact World.cell?_of_block (a := ⟨b, o, none⟩) (hbl b (by omega) (by omega) (by omega))
    · have := of_decide_eq_true hr; omega
    · have := of_decide_eq_false hr; omega
    · omega

/-- Behind all of it. -/
theorem hand_end {w : World} {l : List Sp} {n : Int} {W : World} (h : (∃ b, handI w l n b (setOf l).length W) ∨ ∃ k, k ≤ (setOf l).length ∧ 0 < k ∧ handJ w l n k W) :
    ∃ v, W.heap[w.heap.size + 1]? = some (.cells #[v] 22 (0, 0)) ∧ W.heap[w.heap.size]? = some (.cells #[.int .i64 n] 3 (0, 0)) ∧ Own w.heap.size W v (wantOf (setOf l) n) ∧ Below w.heap.size w W := by
  rcases h with ⟨b, h1, hk, v, hF, hR, ho, hb, _⟩ | ⟨k, hk, h0, h1, h2, v, hF, hR, ho, hb, _⟩
  · rw [List.take_length] at ho
    exact ⟨v, hF, hR, by rw [← want_all hk]; exact ho.more (by omega), hb⟩
  · exact ⟨v, hF, hR, by rw [← want_some hk h0 h1 h2]; exact ho, hb⟩

theorem same_len (A B : Option Addr) (c d na nb : Nat) (a b : List Sp) (w : World) (hna : a.length = na) (hnb : b.length = nb) (ha : RdS w A a) (hb : RdS w B b) (hl : na ≤ 4611686018427387904) :
    Calls Try.prog 9 #[.slice A na c, .slice B nb d] w fun e w' => e = .returned (.bool (decide (a = b))) ∧ Below w.heap.size w w' := by
  subst hna hnb
  exact same_any A B c d a b w ha hb hl

theorem RdS.take {w : World} {A : Option Addr} {l : List Sp} (h : RdS w A l) (m : Nat) : RdS w A (l.take m) := fun hne => by
  obtain ⟨b, off, hA, hb, hc⟩ := h (by rintro rfl; simp at hne)
  refine ⟨b, off, hA, hb, fun k hk => ?_⟩
  have hk2 : k < m ∧ k < l.length := by rw [List.length_take] at hk; omega
  have := hc k hk2.2
  have e : (l.take m).getD k (0, 0) = l.getD k (0, 0) := by simp [List.getD, hk2.1]
  rw [e]; exact this

end Go.Proofs.Ytiaiehflhloefaa
