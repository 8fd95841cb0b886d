/- What gaps and Minus of layer 3 return. Conditions: the spans can be read; at most some hundreds; numbers of 64 bits. -/
import Derived.Test.YtdifgbnapcnmlaaRows
import Derived.Test.YtdifgbnapcnmlaaBase
import Derived.Test.YtdifgbnapcnmlaaIvalsWords
import Derived.Test.YtdifgbnapcnmlaaIvalsOwn
import Derived.Test.YtdifgbnapcnmlaaIvalsEachC
import Derived.Test.YtdifgbnapcnmlaaIvalsBothC
import Derived.WalkKit
import Derived.WalkSpells
import Derived.WalkSmall
import Derived.Below
import Derived.Outline
import Derived.OwnWalk
import Derived.OneCell
import Derived.Lib.Hide
namespace Go.Proofs.Ytdifgbnapcnmlaa
open Go.RowKit

theorem one_news_at {w : World} {x y : Int} {t : TypeId} {n : Nat} (hn : n = w.heap.size) : ∀ j u, ([.int .i64 x, .int .i64 y] : List Value)[j]? = some u → (w.alloc (.cells #[.int .i64 x, .int .i64 y] t)).cell? ((⟨n, 0, none⟩ : Addr).add j) = some u := by
  subst hn; exact one_news

/-- What stands behind an append, with two blocks laid ahead of it. -/
theorem grown_old {W w5 : World} {row : Option Nat} {base : Nat} {o1 o2 : Obj} (hg : ((W.alloc o1).alloc o2).grownBy w5 row) (hrow : ∀ k, row = some k → base ≤ k ∧ k < W.heap.size) :
    (∀ q, q < base → q < W.heap.size → w5.heap[q]? = W.heap[q]?) ∧ w5.heap[W.heap.size]? = some o1 ∧ W.heap.size + 2 ≤ w5.heap.size ∧ w5.os = W.os ∧ w5.tape = W.tape ∧ w5.output = W.output := by
  have hs : ((W.alloc o1).alloc o2).heap.size = W.heap.size + 2 := by simp
  refine ⟨fun q h1 h2 => ?_, ?_, ?_, hg.os, hg.tape, hg.output⟩
  · rw [hg.block q (by omega) (fun e => by have := (hrow q e.symm).1; omega), Below.heap_alloc _ _ _ (by simp; omega), Below.heap_alloc _ _ _ h2]
  · rw [hg.block W.heap.size (by omega) (fun e => by have := (hrow _ e.symm).2; omega), Below.heap_alloc _ _ _ (by simp)]
    exact heap_alloc_new W o1
  · have := hg.size; omega

set_option maxHeartbeats 1000000 in
/-- The closure of gaps, handed one span. -/
theorem gap_step (F R base : Nat) (v : Value) (fl : List Sp) (fr x y : Int) (W : World) (hF : W.heap[F]? = some (.cells #[v] 22 (0, 0))) (hR : W.heap[R]? = some (.cells #[.int .i64 fr] 3 (0, 0)))
    (ho : Own base W v fl) (hFb : F < base) (hRb : R < base) (hne : F ≠ R) (hbs : base ≤ W.heap.size) (hfl : fl.length ≤ 1000) :
    Calls Try.prog 36 #[.agg #[.int .i64 x, .int .i64 y], .pointer (some ⟨F, 0, none⟩), .pointer (some ⟨R, 0, none⟩)] W fun e W' => ∃ v', e = .returned (.bool true) ∧
      W'.heap[F]? = some (.cells #[v'] 22 (0, 0)) ∧ W'.heap[R]? = some (.cells #[.int .i64 y] 3 (0, 0)) ∧ Own base W' v' (fl ++ [(fr, x)]) ∧ W.heap.size ≤ W'.heap.size ∧ W'.os = W.os ∧ W'.tape = W.tape ∧ W'.output = W.output ∧ ∀ q, q < base → q ≠ F → q ≠ R → W'.heap[q]? = W.heap[q]? := by
  obtain ⟨i0, hi, hz0, hz1, hz2⟩ := info_parts info_span
  have cF := cell_of_one hF
  have fF := free_of_one hF
  have cR := cell_of_one hR
  have fR := free_of_one hR
  have hFl := lt_of_block hF
  have hRl := lt_of_block hR
  obtain ⟨Av, cv, rfl, _, _, _⟩ := ho.form
  have HF := Lib.hid hF
  have HR := Lib.hid hR
  have HO := Lib.hid ((ho.alloc (.cells #[.int .i64 x, .int .i64 y] 31)).alloc (.cells #[.int .i64 fr, .int .i64 x] 31))
  have hrow := Lib.hid fun k (hk : (Value.slice Av fl.length cv).ownBlock = some k) => World.ownsRow.lt ho k hk
  have HB0 := Lib.hid (((Below.refl W.heap.size W).alloc (Nat.le_refl _) (.cells #[.int .i64 x, .int .i64 y] 31)).alloc (by simp) (.cells #[.int .i64 fr, .int .i64 x] 31))
  clear hF hR ho
  go_enter Try.func36, Try.ntmps36
  go_wp2_with (at_builtin; refine wpList_append_own _ rfl _ _ 22 rfl base 31 i0 (.agg #[.int .i64 0, .int .i64 0]) 2 16 Try.underlying22 hi hz0 hz1 hz2 rfl (by decide) _ _ _ rfl HO.out ⟨W.heap.size + 1, 0, none⟩ 1 1 [.int .i64 fr, .int .i64 x] rfl rfl (one_news_at (by simp)) one_cell2 (by unfold maxLen; omega) (by omega) (by simp; omega) ?_; intro v1 w5 hown5 hgrow5 _; have HS := Lib.hid (Own.snoc hown5); have HG := Lib.hid (grown_old hgrow5 hrow.out); clear hown5 hgrow5; obtain ⟨A5, c5, rfl, _, _, _⟩ := HS.out.form; have hF5 := (HG.out.1 F hFb hFl).trans HF.out; have hR5 := (HG.out.1 R hRb hRl).trans HR.out; have cF5 := cell_of_one hF5; have fF5 := free_of_one hF5; have cR5 := cell_of_one hR5; have fR5 := free_of_one hR5; have k5 : w5.cell? ⟨W.heap.size, 1, none⟩ = some (.int .i64 y) := (by rw [cell_of_row w5 W.heap.size 1 _ _ (0, 0) HG.out.2.1]; rfl); have HF5 := Lib.hid hF5; have HR5 := Lib.hid hR5; clear hF5 hR5; have hWF : ¬ W.heap.size = F := (by omega); have hWR : ¬ W.heap.size = R := (by omega))
  go_ret
  have hlen : (fl ++ [(fr, x)]).length = fl.length + 1 := by simp
  have hO := HS.out
  rw [hlen] at hO
  have hl5 := World.ownsRow.lt hO
  have hb1 : ∀ q, q < base → (Value.slice A5 (fl.length + 1) c5).ownBlock ≠ some q := fun q hq e => by
    have := (hl5 q (by rw [← hlen] at *; exact e)).1; omega
  refine ⟨.slice A5 (fl.length + 1) c5, rfl, ?_, ?_, ?_, ?_, HG.out.2.2.2.1, HG.out.2.2.2.2.1, HG.out.2.2.2.2.2, fun q h1 h2 h3 => ?_⟩
  · rw [Below.heap_setCell _ _ _ _ hne]; exact one_setCell HF5.out
  · exact one_setCell (by rw [Below.heap_setCell _ _ _ _ (Ne.symm hne)]; exact HR5.out)
  · exact (Own.other (Own.other hO (hb1 F hFb) _) (hb1 R hRb) _)
  · have := HG.out.2.2.1; simp; omega
  · rw [Below.heap_setCell _ _ _ _ h3, Below.heap_setCell _ _ _ _ h2]; exact HG.out.1 q h1 (by omega)

/-- The world in which gaps calls Each: its two variables laid. -/
def gapsW (w : World) : World := (w.alloc (.cells #[.slice none 0 0] 22)).alloc (.cells #[.int .i64 (-9223372036854775808)] 3)

theorem gapsW_size (w : World) : (gapsW w).heap.size = w.heap.size + 2 := by simp [gapsW]

theorem gapsW_F (w : World) : (gapsW w).heap[w.heap.size]? = some (.cells #[.slice none 0 0] 22 (0, 0)) := by
  unfold gapsW
  rw [Below.heap_alloc _ _ _ (by simp)]; exact heap_alloc_new w _

theorem gapsW_R (w : World) : (gapsW w).heap[w.heap.size + 1]? = some (.cells #[.int .i64 (-9223372036854775808)] 3 (0, 0)) := by
  have := heap_alloc_new (w.alloc (.cells #[.slice none 0 0] 22)) (.cells #[.int .i64 (-9223372036854775808)] 3)
  simpa [gapsW] using this

def gapsI (w : World) (l : List Sp) (b k : Nat) (W : World) : Prop :=
  w.heap.size + 2 ≤ b ∧ ∃ v, W.heap[w.heap.size]? = some (.cells #[v] 22 (0, 0)) ∧ W.heap[w.heap.size + 1]? = some (.cells #[.int .i64 (gapTo (-9223372036854775808) ((setOf l).take k)).2] 3 (0, 0)) ∧
    Own (b + 1) W v (gapTo (-9223372036854775808) ((setOf l).take k)).1 ∧ Below w.heap.size w W ∧ w.heap.size + 2 ≤ W.heap.size

theorem gaps_hands (w : World) (l : List Sp) (hl : l.length ≤ 1000) :
    Hands 36 #[.pointer (some ⟨w.heap.size, 0, none⟩), .pointer (some ⟨w.heap.size + 1, 0, none⟩)] l (gapsW w) (gapsI w l) (fun _ _ => False) where
  start W b hb hge := by
    rw [gapsW_size] at hge
    have hw : Below w.heap.size w (gapsW w) := ((Below.refl _ _).alloc (Nat.le_refl _) _).alloc (by simp) _
    refine ⟨hge, .slice none 0 0, ?_, ?_, Own.nil _ _, hw.trans (hb.mono (by rw [gapsW_size]; omega)), by have := hb.size; rw [gapsW_size] at this; exact this⟩
    · rw [hb.block _ (by rw [gapsW_size]; omega)]; exact gapsW_F w
    · rw [hb.block _ (by rw [gapsW_size]; omega)]; exact gapsW_R w
  box b k W x y h := by
    obtain ⟨h1, v, hF, hR, ho, hb, hs⟩ := h
    exact ⟨h1, v, by rw [Below.heap_alloc _ _ _ (by omega)]; exact hF, by rw [Below.heap_alloc _ _ _ (by omega)]; exact hR, ho.alloc _, hb.alloc hb.size _, by simp; omega⟩
  step b k W x y hbW hk hs h := by
    obtain ⟨h1, v, hF, hR, ho, hb, hsz⟩ := h
    have hlen : (gapTo (-9223372036854775808) ((setOf l).take k)).1.length ≤ 1000 := by
      rw [gapTo_len]
      have := setOf_len l
      have := List.length_take_le k (setOf l)
      omega
    have hm := gap_more (-9223372036854775808) (setOf l) k hk
    rw [hs] at hm
    have hg := gap_step w.heap.size (w.heap.size + 1) (b + 1) v _ _ x y W hF hR ho (by omega) (by omega) (by omega) (by omega) hlen
    refine hg.mono fun e W' ⟨v', he, hF', hR', ho', hsz', hos, htp, hout, hbl⟩ => ⟨true, he, hsz', fun o => ?_, fun _ => ⟨h1, v', hF', ?_, ?_, ?_, by omega⟩, fun h => by cases h⟩
    · exact World.cell?_of_block (a := ⟨b, o, none⟩) (hbl b (by omega) (by omega) (by omega))
    · rw [hm]; exact hR'
    · rw [hm]; exact ho'
    · exact ⟨hos.trans hb.os, htp.trans hb.tape, hout.trans hb.output, Nat.le_trans hb.size hsz', fun q hq => (hbl q (by omega) (by omega) (by omega)).trans (hb.block q hq)⟩

set_option maxHeartbeats 1000000 in
theorem gaps_any (A : Option Addr) (c : Nat) (l : List Sp) (w : World) (h : RdS w A l) (hl : l.length ≤ 900) :
    Calls Try.prog 33 #[.slice A l.length c] w fun e w' => ∃ v, e = .returned v ∧ Own w.heap.size w' v (gapsOf (-9223372036854775808) 9223372036854775807 l) ∧ Below w.heap.size w w' := by
  obtain ⟨i0, hi, hz0, hz1, hz2⟩ := info_parts info_span
  have eg : ∀ args w, (callFunc 36 args).run Try.prog w = .ok (.enter 36 args) w := enters_of Try.func36 (by kernel_rfl) rfl
  have hE := each_any A c l 36 _ (gapsW w) _ _ eg (h.below (((Below.refl _ _).alloc (Nat.le_refl _) _).alloc (by simp) _)) (by omega) (gaps_hands w l (by omega))
  unfold gapsW at hE
  have HE := Lib.hid hE
  clear hE eg h
  have hgl := setOf_len l
  go_enter Try.func33, Try.ntmps33
  obtain ⟨⟨fl, fr⟩, hg⟩ : ∃ p, gapTo (-9223372036854775808) (setOf l) = p := ⟨_, rfl⟩
  have hfl : fl.length ≤ 900 := by
    have := gapTo_len (-9223372036854775808) (setOf l)
    rw [hg] at this
    simp only at this
    omega
  have HG := Lib.hid hg
  clear hg
  go_wp2_with (first
    | (go_at_call 35; refine HE.out.mono ?_; rintro e w1 ⟨rfl, hor⟩; obtain ⟨b, hb1, v, hF, hR, ho, hbw, hsz⟩ : ∃ b, gapsI w l b (setOf l).length w1 := (hor.elim id (fun ⟨_, _, _, h⟩ => h.elim)); rw [List.take_length, HG.out] at hR ho; have cF := cell_of_one hF; have cR := cell_of_one hR; obtain ⟨Av, cv, rfl, _, _, _⟩ := ho.form; have HO := Lib.hid ((ho.more (base' := w.heap.size) (by omega)).alloc (.cells #[.int .i64 fr, .int .i64 9223372036854775807] 31)); have hrow := Lib.hid (fun k hk => (World.ownsRow.lt ho k hk).1); clear hF hR ho hor)
    | (at_builtin; refine wpList_append_own _ rfl _ _ 22 rfl w.heap.size 31 i0 (.agg #[.int .i64 0, .int .i64 0]) 2 16 Try.underlying22 hi hz0 hz1 hz2 rfl (by decide) _ _ _ rfl HO.out ⟨w1.heap.size, 0, none⟩ 1 1 [.int .i64 fr, .int .i64 9223372036854775807] rfl rfl one_news one_cell2 (by unfold maxLen; omega) (by omega) (by simp; omega) ?_; intro v1 w5 hown5 hgrow5 _; have HS := Lib.hid (Own.snoc hown5); have HB5 := Lib.hid ((hbw.alloc hbw.size (.cells #[.int .i64 fr, .int .i64 9223372036854775807] 31)).grown hgrow5 (by simp; omega) (fun k hk => by have := hrow.out k hk; omega)); clear hown5 hgrow5; obtain ⟨A5, c5, rfl, _, _, _⟩ := HS.out.form))
  go_ret
  have e : gapsOf (-9223372036854775808) 9223372036854775807 l = fl ++ [(fr, 9223372036854775807)] := by unfold gapsOf; rw [HG.out]
  exact ⟨_, rfl, by rw [e]; simpa using HS.out, HB5.out⟩

theorem minusl_any (A B : Option Addr) (c d : Nat) (a b : List Sp) (w : World) (ha : RdS w A a) (hb : RdS w B b) (hla : a.length ≤ 1000) (hlb : b.length ≤ 900) :
    Calls Try.prog 27 #[.slice A a.length c, .slice B b.length d] w fun e w' => ∃ v, e = .returned v ∧ Own w.heap.size w' v (minusOf a b) ∧ Below w.heap.size w w' := by
  have hgl := gapsOf_len (-9223372036854775808) 9223372036854775807 b
  have hM := Lib.hid (show minusOf a b = bothOf a (gapsOf (-9223372036854775808) 9223372036854775807 b) from rfl)
  have C1 := fun W h => gaps_any B d b W h hlb
  generalize gapsOf (-9223372036854775808) 9223372036854775807 b = gs at hgl hM C1
  have hg2 : gs.length ≤ 1000 := by omega
  have HA := Lib.hid ha
  have HB := Lib.hid hb
  clear ha hb hgl
  go_enter Try.func27, Try.ntmps27
  go_wp2_with (first
    | (go_at_call 33; refine (C1 _ HB.out).mono ?_; rintro e w1 ⟨v1, rfl, ho1, hb1⟩; obtain ⟨A1, c1, rfl, hr1, _, _⟩ := ho1.form; have R1 := Lib.hid hr1; clear ho1 hr1)
    | (go_at_call 32; refine (bothl_any A A1 c c1 a gs _ (HA.out.below hb1) R1.out hla hg2).mono ?_; rintro e w2 ⟨v2, rfl, ho2, hb2⟩))
  go_ret
  exact ⟨_, rfl, by rw [hM.out]; exact ho2.more hb1.size, hb1.trans (hb2.mono hb1.size)⟩

end Go.Proofs.Ytdifgbnapcnmlaa
