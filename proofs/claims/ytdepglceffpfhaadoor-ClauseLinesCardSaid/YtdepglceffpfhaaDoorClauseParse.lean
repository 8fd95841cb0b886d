/- What Parse of layer 15, and the document's own, return, for any line. Conditions: the line has at most a million bytes; the program's listed variables are laid. -/
import Derived.Test.YtdepglceffpfhaaDoorRows
import Derived.Test.YtdepglceffpfhaaDoorBase
import Derived.Test.YtdepglceffpfhaaDoorRow
import Derived.Test.YtdepglceffpfhaaDoorBox
import Derived.Test.YtdepglceffpfhaaDoorWordHeap
import Derived.Test.YtdepglceffpfhaaDoorWordSplit
import Derived.Test.YtdepglceffpfhaaDoorWordSplitR
import Derived.Test.YtdepglceffpfhaaDoorWordSpan
import Derived.Test.YtdepglceffpfhaaDoorWordSpanR
import Derived.Test.YtdepglceffpfhaaDoorClauseMath
import Derived.Test.YtdepglceffpfhaaDoorClauseFind
import Derived.WalkKit
import Derived.WalkSpells
import Derived.WalkSmall
import Derived.Below
import Derived.Outline
import Derived.OwnWalk
import Derived.Lib.Hide
import Derived.Lib.SlicesS
import Derived.BigQuiet
import Derived.Deep.QuietTactic
namespace Go.Proofs.YtdepglceffpfhaaDoor
open Go.RowKit

theorem words3_at {e : TypeId} {base : Nat} {w : World} {v : Value} {a b d : Wd} (h : OwnW e base w v [a, b, d]) :
    ∃ g c, v = .slice (some ⟨g, 0, none⟩) 3 c ∧ base ≤ g ∧ g < w.heap.size ∧ w.cell? ⟨g, 1, none⟩ = some (.string a.2) ∧ w.cell? ⟨g, 3, none⟩ = some (.string b.2) ∧ w.cell? ⟨g, 5, none⟩ = some (.string d.2) := by
  have h0 := h
  rcases h.2 with ⟨_, hn⟩ | ⟨g, cap, cur, rfl, hb, hg, h1, h2, h3, h4⟩
  · cases hn
  · refine ⟨g, cap, rfl, hb, (World.ownsRow.lt h0 g rfl).2, ?_, ?_, ?_⟩
    · rw [World.ownsRow.cellAt h0 1 (by show 1 < 3 * 2; omega)]; rfl
    · rw [World.ownsRow.cellAt h0 3 (by show 3 < 3 * 2; omega)]; rfl
    · rw [World.ownsRow.cellAt h0 5 (by show 5 < 3 * 2; omega)]; rfl

theorem words_any {e : TypeId} {base : Nat} {w : World} {v : Value} {l : List Wd} (h : OwnW e base w v l) : ∃ A c, v = .slice A l.length c := by
  obtain ⟨A, c, hv, _⟩ := h.read
  exact ⟨A, c, hv⟩

theorem word3_le {s : ByteArray} {a b d : Wd} (h : (splitV s).1 = [a, b, d]) : a.2.size ≤ s.size ∧ b.2.size ≤ s.size ∧ d.2.size ≤ s.size := by
  have h2 := (split_back (split_three0 (s := s) (by rw [h]; rfl))).1
  rw [h] at h2
  have h3 := h2 a (by simp)
  have h4 := h2 b (by simp)
  have h5 := h2 d (by simp)
  omega

theorem three_one15 (a b c : Int) : (#[.int .i64 a, .int .i64 b, .int .i64 c] : Array Value).all (·.oneCell') = true := by simp [Value.oneCell']

theorem size_find15 : (Tryd.prog.info? 41).map (·.size) = some 3 := by kernel_rfl

/-- The listed variables that Parse reads. -/
structure LaidP (w : World) : Prop where
  word : Laid6 w
  titles : Titles w

theorem LaidP.below {w w' : World} (h : LaidP w) (hb : Below w.heap.size w w') : LaidP w' := ⟨h.word.below hb, h.titles.below hb⟩

set_option maxRecDepth 100000 in
set_option maxHeartbeats 2000000 in
theorem parse15_any (s : ByteArray) (w : World) (hl : LaidP w) (hs : s.size ≤ 1000000) :
    Calls Tryd.prog 22 #[.string s] w fun e w' => e = .returned (.tuple #[.agg #[.int .i64 (parse15V s).1.1, .int .i64 (parse15V s).1.2.1, .int .i64 (parse15V s).1.2.2], .int .i64 (parse15V s).2]) ∧ Below w.heap.size w w' := by
  have CS := fun W => split_any s W hs
  have HB0 : Hid (Bx (w.alloc (.cells #[.int .i64 0, .int .i64 0, .int .i64 0] 41)) w.heap.size 41 #[.int .i64 0, .int .i64 0, .int .i64 0]) := Lib.hid (Bx.new _ _ rfl)
  have HW0 : Hid (Below w.heap.size w (w.alloc (.cells #[.int .i64 0, .int .i64 0, .int .i64 0] 41))) := Lib.hid ((Below.refl _ _).alloc (Nat.le_refl _) _)
  have HL0 : Hid (LaidP (w.alloc (.cells #[.int .i64 0, .int .i64 0, .int .i64 0] 41))) := Lib.hid (hl.below HW0.out)
  by_cases h3 : (splitV s).1.length = 3
  · obtain ⟨⟨ia, a⟩, ⟨ib, b⟩, ⟨id, d⟩, he⟩ := three_words h3
    have hz := word3_le he
    simp only at hz
    have e2 : (splitV s).2.2 = 0 := split_three0 h3
    rw [he, e2] at CS
    generalize (splitV s).2.1 = pl at CS
    have CF := fun W (h : Titles W) => find15_any b W h
    have CP := fun W (h : Laid6 W) => span_any d W h (by omega)
    cases hf : findN b with
    | none =>
      rw [parse15_bad he (fun q => by have := q.1; rw [fnd_none hf] at this; omega)]
      rw [hf] at CF
      show Calls _ _ _ _ fun e w' => e = .returned (.tuple #[.agg #[.int .i64 0, .int .i64 0, .int .i64 0], .int .i64 7]) ∧ Below w.heap.size w w'
      generalize (spanV d).1 = x at CP
      generalize (spanV d).2.1 = y at CP
      generalize (spanV d).2.2 = er at CP
      clear h3 hz e2 he hf
      clear hl
      go_enter Tryd.func22, Tryd.ntmps22
      go_wp2_with (first
        | (go_at_call 34; (with_reducible refine (CS _).mono ?_); rintro e w1 ⟨v, rfl, ho, hb1⟩; obtain ⟨g, c1, rfl, _, hg1, cA, cB, cD⟩ := words3_at ho; clear ho; have HB1 := Lib.hid (HB0.out.below hb1); have HX1 := Lib.hid hb1; have HW1 := Lib.hid (HW0.out.trans (hb1.mono HW0.out.size)))
        | (go_at_call 9; (with_reducible refine (CF _ (HL0.out.below HX1.out).titles).mono ?_); rintro e w2 ⟨rfl, hb2⟩; have HB2 := Lib.hid (HB1.out.below hb2); have HW2 := Lib.hid (HW1.out.trans (hb2.mono HW1.out.size)); have HX2 := Lib.hid (HX1.out.trans (hb2.mono HX1.out.size)); have cA2 := c_cl cA hb2; have cD2 := c_cl cD hb2)
        | (go_at_call 35; (with_reducible refine (CP _ (HL0.out.below HX2.out).word).mono ?_); rintro e w3 ⟨rfl, hb3⟩; have HB3 := Lib.hid ((HB2.out.below hb3).alloc (.cells #[.int .i64 x, .int .i64 y] 60)); have HW3 := Lib.hid ((HW2.out.trans (hb3.mono HW2.out.size)).alloc (Nat.le_trans HW2.out.size hb3.size) (.cells #[.int .i64 x, .int .i64 y] 60)); have cA3 := c_cl cA2 hb3; have HX3 := Lib.hid (HX2.out.trans (hb3.mono HX2.out.size))))
      refine wp_region_bel (by kernel_rfl) (by kernel_rfl) ?_
      repeat (go_big_quiet_step (first
        | fail))
      refine wpQuiet_nil ?_
      refine bel_all fun wq hbq => ?_
      have HBq := Lib.hid (HB3.out.below hbq)
      have HWq := Lib.hid (HW3.out.trans (hbq.mono HW3.out.size))
      clear cA3
      go_wp2_with (refine wpList_store_box rfl 41 _ _ rfl w.heap.size #[.int .i64 0, .int .i64 0, .int .i64 0] rfl rfl 41 _ HBq.out size_find15 rfl (three_one15 _ _ _) ?_; intro W9 hu9)
      refine bodyPost_ret (v := .tuple #[.agg #[.int .i64 0, .int .i64 0, .int .i64 0], .int .i64 7]) (results_box2 Tryd.results22 _ _ w.heap.size 41 #[.int .i64 0, .int .i64 0, .int .i64 0] _ _ rfl hu9.box rfl Tryd.underlying41 rfl size_find15) rfl ⟨rfl, ?_⟩
      exact HWq.out.trans (hu9.bel _ (Nat.le_refl _))
    | some k =>
      have hk := (fnd_is hf).1
      rw [hf] at CF
      by_cases hp : (spanV d).2.2 = 0
      · rw [hp] at CP
        by_cases ha : a = artW ++ arB k
        · rw [parse15_good he hf hp ha]
          show Calls _ _ _ _ fun e w' => e = .returned (.tuple #[.agg #[.int .i64 (k : Nat), .int .i64 (spanV d).1, .int .i64 (spanV d).2.1], .int .i64 0]) ∧ Below w.heap.size w w'
          have e1 : (a.toList == (artW ++ arB k).toList) = true := (Lib.bytes_beq_iff a _).2 ha
          have e3 : (a.toList != (artW ++ arB k).toList) = false := by rw [bne, e1]; rfl
          have hzk := ar_size k hk
          have r1 : ∀ W : World, (Op.stringOp .add ⟨#[97, 114, 116, 46]⟩ (arB k)).run Tryd.prog W = .ok (.string (artW ++ arB k)) W := fun W => run_string_add_sum W artW _ (by show 4 + _ ≤ _; omega)
          clear hzk ha
          generalize artW ++ arB k = ak at e1 e3 r1
          obtain ⟨tt, htt0⟩ : ∃ tt, arB k = tt := ⟨_, rfl⟩
          rw [htt0] at r1
          have htt := Lib.hid htt0
          clear htt0
          generalize (spanV d).1 = x at CP ⊢
          generalize (spanV d).2.1 = y at CP ⊢
          have k0 : (0 : Int) ≤ (k : Int) := by omega
          have k1 : (k : Int) < 16 := by omega
          clear h3 hz e2 he hf hp
          clear hl
          go_enter Tryd.func22, Tryd.ntmps22
          go_wp2_with (first
            | (go_at_call 34; (with_reducible refine (CS _).mono ?_); rintro e w1 ⟨v, rfl, ho, hb1⟩; obtain ⟨g, c1, rfl, _, hg1, cA, cB, cD⟩ := words3_at ho; clear ho; have HB1 := Lib.hid (HB0.out.below hb1); have HX1 := Lib.hid hb1; have HW1 := Lib.hid (HW0.out.trans (hb1.mono HW0.out.size)))
            | (go_at_call 9; (with_reducible refine (CF _ (HL0.out.below HX1.out).titles).mono ?_); rintro e w2 ⟨rfl, hb2⟩; have HB2 := Lib.hid (HB1.out.below hb2); have HW2 := Lib.hid (HW1.out.trans (hb2.mono HW1.out.size)); have HX2 := Lib.hid (HX1.out.trans (hb2.mono HX1.out.size)); have cA2 := c_cl cA hb2; have cD2 := c_cl cD hb2)
            | (go_at_call 35; (with_reducible refine (CP _ (HL0.out.below HX2.out).word).mono ?_); rintro e w3 ⟨rfl, hb3⟩; have HB3 := Lib.hid ((HB2.out.below hb3).alloc (.cells #[.int .i64 x, .int .i64 y] 60)); have HW3 := Lib.hid ((HW2.out.trans (hb3.mono HW2.out.size)).alloc (Nat.le_trans HW2.out.size hb3.size) (.cells #[.int .i64 x, .int .i64 y] 60)); have cA3 := c_cl cA2 hb3; have HX3 := Lib.hid (HX2.out.trans (hb3.mono HX2.out.size))))
          have q0 : ∀ p : BelowOf (w3.alloc (.cells #[.int .i64 x, .int .i64 y] 60)), p.world.cell? ⟨g, 1, none⟩ = some (.string a) := fun p => p.cell (c_al _ cA3)
          have HT3 := Lib.hid (((HL0.out.below HX3.out).titles k hk).2)
          rw [htt.out] at HT3
          have q1 : ∀ p : BelowOf (w3.alloc (.cells #[.int .i64 x, .int .i64 y] 60)), p.world.cell? ⟨0, k * 2 + 1, none⟩ = some (.string tt) := fun p => p.cell (c_al _ HT3.out)
          refine wp_region_bel (by kernel_rfl) (by kernel_rfl) ?_
          repeat (go_big_quiet_step (first
            | fail))
          refine wpQuiet_nil ?_
          refine bel_all fun wq hbq => ?_
          have HBq := Lib.hid (HB3.out.below hbq)
          have HWq := Lib.hid (HW3.out.trans (hbq.mono HW3.out.size))
          clear q0 q1
          have u0 : wq.cell? ⟨w3.heap.size, 0, none⟩ = some (.int .i64 x) := c_cl (by simp) hbq
          have u1 : wq.cell? ⟨w3.heap.size, 1, none⟩ = some (.int .i64 y) := c_cl (by simp) hbq
          go_wp2_with (refine wpList_store_box rfl 41 _ _ rfl w.heap.size #[.int .i64 k, .int .i64 x, .int .i64 y] rfl rfl 41 _ HBq.out size_find15 rfl (three_one15 _ _ _) ?_; intro W9 hu9)
          refine bodyPost_ret (v := .tuple #[.agg #[.int .i64 k, .int .i64 x, .int .i64 y], .int .i64 0]) (results_box2 Tryd.results22 _ _ w.heap.size 41 #[.int .i64 k, .int .i64 x, .int .i64 y] _ _ rfl hu9.box rfl Tryd.underlying41 rfl size_find15) rfl ⟨rfl, ?_⟩
          exact HWq.out.trans (hu9.bel _ (Nat.le_refl _))
        · rw [parse15_bad he (fun q => ha (by have h5 : a = artW ++ artV (findV b) := q.2.2; rw [h5, fnd_some hf, art_yes hk]))]
          show Calls _ _ _ _ fun e w' => e = .returned (.tuple #[.agg #[.int .i64 0, .int .i64 0, .int .i64 0], .int .i64 7]) ∧ Below w.heap.size w w'
          have e1 : (a.toList == (artW ++ arB k).toList) = false := (Lib.bytes_beq_false_iff a _).2 ha
          have e3 : (a.toList != (artW ++ arB k).toList) = true := by rw [bne, e1]; rfl
          have hzk := ar_size k hk
          have r1 : ∀ W : World, (Op.stringOp .add ⟨#[97, 114, 116, 46]⟩ (arB k)).run Tryd.prog W = .ok (.string (artW ++ arB k)) W := fun W => run_string_add_sum W artW _ (by show 4 + _ ≤ _; omega)
          clear hzk ha
          generalize artW ++ arB k = ak at e1 e3 r1
          obtain ⟨tt, htt0⟩ : ∃ tt, arB k = tt := ⟨_, rfl⟩
          rw [htt0] at r1
          have htt := Lib.hid htt0
          clear htt0
          generalize (spanV d).1 = x at CP
          generalize (spanV d).2.1 = y at CP
          have k0 : (0 : Int) ≤ (k : Int) := by omega
          have k1 : (k : Int) < 16 := by omega
          clear h3 hz e2 he hf hp
          clear hl
          go_enter Tryd.func22, Tryd.ntmps22
          go_wp2_with (first
            | (go_at_call 34; (with_reducible refine (CS _).mono ?_); rintro e w1 ⟨v, rfl, ho, hb1⟩; obtain ⟨g, c1, rfl, _, hg1, cA, cB, cD⟩ := words3_at ho; clear ho; have HB1 := Lib.hid (HB0.out.below hb1); have HX1 := Lib.hid hb1; have HW1 := Lib.hid (HW0.out.trans (hb1.mono HW0.out.size)))
            | (go_at_call 9; (with_reducible refine (CF _ (HL0.out.below HX1.out).titles).mono ?_); rintro e w2 ⟨rfl, hb2⟩; have HB2 := Lib.hid (HB1.out.below hb2); have HW2 := Lib.hid (HW1.out.trans (hb2.mono HW1.out.size)); have HX2 := Lib.hid (HX1.out.trans (hb2.mono HX1.out.size)); have cA2 := c_cl cA hb2; have cD2 := c_cl cD hb2)
            | (go_at_call 35; (with_reducible refine (CP _ (HL0.out.below HX2.out).word).mono ?_); rintro e w3 ⟨rfl, hb3⟩; have HB3 := Lib.hid ((HB2.out.below hb3).alloc (.cells #[.int .i64 x, .int .i64 y] 60)); have HW3 := Lib.hid ((HW2.out.trans (hb3.mono HW2.out.size)).alloc (Nat.le_trans HW2.out.size hb3.size) (.cells #[.int .i64 x, .int .i64 y] 60)); have cA3 := c_cl cA2 hb3; have HX3 := Lib.hid (HX2.out.trans (hb3.mono HX2.out.size))))
          have q0 : ∀ p : BelowOf (w3.alloc (.cells #[.int .i64 x, .int .i64 y] 60)), p.world.cell? ⟨g, 1, none⟩ = some (.string a) := fun p => p.cell (c_al _ cA3)
          have HT3 := Lib.hid (((HL0.out.below HX3.out).titles k hk).2)
          rw [htt.out] at HT3
          have q1 : ∀ p : BelowOf (w3.alloc (.cells #[.int .i64 x, .int .i64 y] 60)), p.world.cell? ⟨0, k * 2 + 1, none⟩ = some (.string tt) := fun p => p.cell (c_al _ HT3.out)
          refine wp_region_bel (by kernel_rfl) (by kernel_rfl) ?_
          repeat (go_big_quiet_step (first
            | fail))
          refine wpQuiet_nil ?_
          refine bel_all fun wq hbq => ?_
          have HBq := Lib.hid (HB3.out.below hbq)
          have HWq := Lib.hid (HW3.out.trans (hbq.mono HW3.out.size))
          clear q0 q1
          go_wp2_with (refine wpList_store_box rfl 41 _ _ rfl w.heap.size #[.int .i64 0, .int .i64 0, .int .i64 0] rfl rfl 41 _ HBq.out size_find15 rfl (three_one15 _ _ _) ?_; intro W9 hu9)
          refine bodyPost_ret (v := .tuple #[.agg #[.int .i64 0, .int .i64 0, .int .i64 0], .int .i64 7]) (results_box2 Tryd.results22 _ _ w.heap.size 41 #[.int .i64 0, .int .i64 0, .int .i64 0] _ _ rfl hu9.box rfl Tryd.underlying41 rfl size_find15) rfl ⟨rfl, ?_⟩
          exact HWq.out.trans (hu9.bel _ (Nat.le_refl _))
      · rw [parse15_bad he (fun q => hp q.2.1)]
        show Calls _ _ _ _ fun e w' => e = .returned (.tuple #[.agg #[.int .i64 0, .int .i64 0, .int .i64 0], .int .i64 7]) ∧ Below w.heap.size w w'
        have hbn : ((spanV d).2.2 != 0) = true := by simpa using hp
        generalize (spanV d).1 = x at CP
        generalize (spanV d).2.1 = y at CP
        generalize (spanV d).2.2 = er at CP hbn
        clear h3 hz e2 he hf hp
        clear hl
        go_enter Tryd.func22, Tryd.ntmps22
        go_wp2_with (first
          | (go_at_call 34; (with_reducible refine (CS _).mono ?_); rintro e w1 ⟨v, rfl, ho, hb1⟩; obtain ⟨g, c1, rfl, _, hg1, cA, cB, cD⟩ := words3_at ho; clear ho; have HB1 := Lib.hid (HB0.out.below hb1); have HX1 := Lib.hid hb1; have HW1 := Lib.hid (HW0.out.trans (hb1.mono HW0.out.size)))
          | (go_at_call 9; (with_reducible refine (CF _ (HL0.out.below HX1.out).titles).mono ?_); rintro e w2 ⟨rfl, hb2⟩; have HB2 := Lib.hid (HB1.out.below hb2); have HW2 := Lib.hid (HW1.out.trans (hb2.mono HW1.out.size)); have HX2 := Lib.hid (HX1.out.trans (hb2.mono HX1.out.size)); have cA2 := c_cl cA hb2; have cD2 := c_cl cD hb2)
          | (go_at_call 35; (with_reducible refine (CP _ (HL0.out.below HX2.out).word).mono ?_); rintro e w3 ⟨rfl, hb3⟩; have HB3 := Lib.hid ((HB2.out.below hb3).alloc (.cells #[.int .i64 x, .int .i64 y] 60)); have HW3 := Lib.hid ((HW2.out.trans (hb3.mono HW2.out.size)).alloc (Nat.le_trans HW2.out.size hb3.size) (.cells #[.int .i64 x, .int .i64 y] 60)); have cA3 := c_cl cA2 hb3; have HX3 := Lib.hid (HX2.out.trans (hb3.mono HX2.out.size))))
        refine wp_region_bel (by kernel_rfl) (by kernel_rfl) ?_
        repeat (go_big_quiet_step (first
          | fail))
        refine wpQuiet_nil ?_
        refine bel_all fun wq hbq => ?_
        have HBq := Lib.hid (HB3.out.below hbq)
        have HWq := Lib.hid (HW3.out.trans (hbq.mono HW3.out.size))
        clear cA3
        go_wp2_with (refine wpList_store_box rfl 41 _ _ rfl w.heap.size #[.int .i64 0, .int .i64 0, .int .i64 0] rfl rfl 41 _ HBq.out size_find15 rfl (three_one15 _ _ _) ?_; intro W9 hu9)
        refine bodyPost_ret (v := .tuple #[.agg #[.int .i64 0, .int .i64 0, .int .i64 0], .int .i64 7]) (results_box2 Tryd.results22 _ _ w.heap.size 41 #[.int .i64 0, .int .i64 0, .int .i64 0] _ _ rfl hu9.box rfl Tryd.underlying41 rfl size_find15) rfl ⟨rfl, ?_⟩
        exact HWq.out.trans (hu9.bel _ (Nat.le_refl _))
  · rw [parse15_len h3]
    show Calls _ _ _ _ fun e w' => e = .returned (.tuple #[.agg #[.int .i64 0, .int .i64 0, .int .i64 0], .int .i64 7]) ∧ Below w.heap.size w w'
    have hn : (((splitV s).1.length : Int) != 3) = true := by simp; omega
    have hl2 := split_len s
    generalize (splitV s).2.1 = pl at CS
    generalize (splitV s).2.2 = er at CS
    generalize (splitV s).1 = l at CS hn h3 hl2
    clear hl h3 HL0
    go_enter Tryd.func22, Tryd.ntmps22
    go_wp2_with (first
      | (go_at_call 34; (with_reducible refine (CS _).mono ?_); rintro e w1 ⟨v, rfl, ho, hb1⟩; obtain ⟨A1, c1, rfl⟩ := words_any ho; clear ho; have HB1 := Lib.hid (HB0.out.below hb1); have HW1 := Lib.hid (HW0.out.trans (hb1.mono HW0.out.size)))
      | (refine wpList_store_box rfl 41 _ _ rfl w.heap.size #[.int .i64 0, .int .i64 0, .int .i64 0] rfl rfl 41 _ HB1.out size_find15 rfl (three_one15 _ _ _) ?_; intro W9 hu9))
    refine bodyPost_ret (v := .tuple #[.agg #[.int .i64 0, .int .i64 0, .int .i64 0], .int .i64 7]) (results_box2 Tryd.results22 _ _ w.heap.size 41 #[.int .i64 0, .int .i64 0, .int .i64 0] _ _ rfl hu9.box rfl Tryd.underlying41 rfl size_find15) rfl ⟨rfl, ?_⟩
    exact HW1.out.trans (hu9.bel _ (Nat.le_refl _))

set_option maxRecDepth 100000 in
set_option maxHeartbeats 2000000 in
theorem refparse15_any (s : ByteArray) (w : World) (hs : s.size ≤ 1000000) :
    Calls Tryd.prog 23 #[.string s] w fun e w' => e = .returned (.tuple #[.agg #[.int .i64 (parse15V s).1.1, .int .i64 (parse15V s).1.2.1, .int .i64 (parse15V s).1.2.2], .int .i64 (parse15V s).2]) ∧ Below w.heap.size w w' := by
  have CS := fun W => refsplit_any s W hs
  have HB0 : Hid (Bx (w.alloc (.cells #[.int .i64 0, .int .i64 0, .int .i64 0] 41)) w.heap.size 41 #[.int .i64 0, .int .i64 0, .int .i64 0]) := Lib.hid (Bx.new _ _ rfl)
  have HW0 : Hid (Below w.heap.size w (w.alloc (.cells #[.int .i64 0, .int .i64 0, .int .i64 0] 41))) := Lib.hid ((Below.refl _ _).alloc (Nat.le_refl _) _)
  by_cases h3 : (splitV s).1.length = 3
  · obtain ⟨⟨ia, a⟩, ⟨ib, b⟩, ⟨id, d⟩, he⟩ := three_words h3
    have hz := word3_le he
    simp only at hz
    have e2 : (splitV s).2.2 = 0 := split_three0 h3
    rw [he, e2] at CS
    generalize (splitV s).2.1 = pl at CS
    have CF := fun W => reffind15_any b W
    have CP := fun W => refspan_any d W (by omega)
    cases hf : findN b with
    | none =>
      rw [parse15_bad he (fun q => by have := q.1; rw [fnd_none hf] at this; omega)]
      rw [fnd_none hf] at CF
      by_cases hp : (spanV d).2.2 = 0
      · rw [hp] at CP
        show Calls _ _ _ _ fun e w' => e = .returned (.tuple #[.agg #[.int .i64 0, .int .i64 0, .int .i64 0], .int .i64 7]) ∧ Below w.heap.size w w'
        generalize (spanV d).1 = x at CP
        generalize (spanV d).2.1 = y at CP
        clear h3 hz e2 he hf hp
        go_enter Tryd.func23, Tryd.ntmps23
        go_wp2_with (first
          | (go_at_call 36; (with_reducible refine (CS _).mono ?_); rintro e w1 ⟨v, rfl, ho, hb1⟩; obtain ⟨g, c1, rfl, _, hg1, cA, cB, cD⟩ := words3_at ho; clear ho; have HB1 := Lib.hid (HB0.out.below hb1); have HW1 := Lib.hid (HW0.out.trans (hb1.mono HW0.out.size)))
          | (go_at_call 37; (with_reducible refine (CP _).mono ?_); rintro e w2 ⟨rfl, hb2⟩; have HB2 := Lib.hid ((HB1.out.below hb2).alloc (.cells #[.int .i64 x, .int .i64 y] 60)); have HW2 := Lib.hid ((HW1.out.trans (hb2.mono HW1.out.size)).alloc (Nat.le_trans HW1.out.size hb2.size) (.cells #[.int .i64 x, .int .i64 y] 60)); have cA2 := c_al (.cells #[.int .i64 x, .int .i64 y] 60) (c_cl cA hb2); have cB2 := c_al (.cells #[.int .i64 x, .int .i64 y] 60) (c_cl cB hb2); have x02 : (w2.alloc (.cells #[.int .i64 x, .int .i64 y] 60)).cell? ⟨w2.heap.size, 0, none⟩ = some (.int .i64 x) := (by simp); have x12 : (w2.alloc (.cells #[.int .i64 x, .int .i64 y] 60)).cell? ⟨w2.heap.size, 1, none⟩ = some (.int .i64 y) := (by simp))
          | (go_at_call 13; (with_reducible refine (CF _).mono ?_); rintro e w3 ⟨rfl, hb3⟩; have HB3 := Lib.hid (HB2.out.below hb3); have HW3 := Lib.hid (HW2.out.trans (hb3.mono HW2.out.size)); have cA3 := c_cl cA2 hb3; have x03 := c_cl x02 hb3; have x13 := c_cl x12 hb3))
        refine wp_region_bel (by kernel_rfl) (by kernel_rfl) ?_
        repeat (go_big_quiet_step (first
          | fail))
        refine wpQuiet_nil ?_
        refine bel_all fun wq hbq => ?_
        have HBq := Lib.hid (HB3.out.below hbq)
        have HWq := Lib.hid (HW3.out.trans (hbq.mono HW3.out.size))
        clear cA3
        go_wp2_with (refine wpList_store_box rfl 41 _ _ rfl w.heap.size #[.int .i64 0, .int .i64 0, .int .i64 0] rfl rfl 41 _ HBq.out size_find15 rfl (three_one15 _ _ _) ?_; intro W9 hu9)
        refine bodyPost_ret (v := .tuple #[.agg #[.int .i64 0, .int .i64 0, .int .i64 0], .int .i64 7]) (results_box2 Tryd.results23 _ _ w.heap.size 41 #[.int .i64 0, .int .i64 0, .int .i64 0] _ _ rfl hu9.box rfl Tryd.underlying41 rfl size_find15) rfl ⟨rfl, ?_⟩
        exact HWq.out.trans (hu9.bel _ (Nat.le_refl _))
      · have hbn : ((spanV d).2.2 != 0) = true := by simpa using hp
        show Calls _ _ _ _ fun e w' => e = .returned (.tuple #[.agg #[.int .i64 0, .int .i64 0, .int .i64 0], .int .i64 7]) ∧ Below w.heap.size w w'
        generalize (spanV d).1 = x at CP
        generalize (spanV d).2.1 = y at CP
        generalize (spanV d).2.2 = er at CP hbn
        clear h3 hz e2 he hf hp
        go_enter Tryd.func23, Tryd.ntmps23
        go_wp2_with (first
          | (go_at_call 36; (with_reducible refine (CS _).mono ?_); rintro e w1 ⟨v, rfl, ho, hb1⟩; obtain ⟨g, c1, rfl, _, hg1, cA, cB, cD⟩ := words3_at ho; clear ho; have HB1 := Lib.hid (HB0.out.below hb1); have HW1 := Lib.hid (HW0.out.trans (hb1.mono HW0.out.size)))
          | (go_at_call 37; (with_reducible refine (CP _).mono ?_); rintro e w2 ⟨rfl, hb2⟩; have HB2 := Lib.hid ((HB1.out.below hb2).alloc (.cells #[.int .i64 x, .int .i64 y] 60)); have HW2 := Lib.hid ((HW1.out.trans (hb2.mono HW1.out.size)).alloc (Nat.le_trans HW1.out.size hb2.size) (.cells #[.int .i64 x, .int .i64 y] 60)); have cA2 := c_al (.cells #[.int .i64 x, .int .i64 y] 60) (c_cl cA hb2); have cB2 := c_al (.cells #[.int .i64 x, .int .i64 y] 60) (c_cl cB hb2); have x02 : (w2.alloc (.cells #[.int .i64 x, .int .i64 y] 60)).cell? ⟨w2.heap.size, 0, none⟩ = some (.int .i64 x) := (by simp); have x12 : (w2.alloc (.cells #[.int .i64 x, .int .i64 y] 60)).cell? ⟨w2.heap.size, 1, none⟩ = some (.int .i64 y) := (by simp))
          | (go_at_call 13; (with_reducible refine (CF _).mono ?_); rintro e w3 ⟨rfl, hb3⟩; have HB3 := Lib.hid (HB2.out.below hb3); have HW3 := Lib.hid (HW2.out.trans (hb3.mono HW2.out.size)); have cA3 := c_cl cA2 hb3; have x03 := c_cl x02 hb3; have x13 := c_cl x12 hb3))
        refine wp_region_bel (by kernel_rfl) (by kernel_rfl) ?_
        repeat (go_big_quiet_step (first
          | fail))
        refine wpQuiet_nil ?_
        refine bel_all fun wq hbq => ?_
        have HBq := Lib.hid (HB3.out.below hbq)
        have HWq := Lib.hid (HW3.out.trans (hbq.mono HW3.out.size))
        clear cA3
        go_wp2_with (refine wpList_store_box rfl 41 _ _ rfl w.heap.size #[.int .i64 0, .int .i64 0, .int .i64 0] rfl rfl 41 _ HBq.out size_find15 rfl (three_one15 _ _ _) ?_; intro W9 hu9)
        refine bodyPost_ret (v := .tuple #[.agg #[.int .i64 0, .int .i64 0, .int .i64 0], .int .i64 7]) (results_box2 Tryd.results23 _ _ w.heap.size 41 #[.int .i64 0, .int .i64 0, .int .i64 0] _ _ rfl hu9.box rfl Tryd.underlying41 rfl size_find15) rfl ⟨rfl, ?_⟩
        exact HWq.out.trans (hu9.bel _ (Nat.le_refl _))
    | some k =>
      have hk := (fnd_is hf).1
      rw [fnd_some hf] at CF
      by_cases hp : (spanV d).2.2 = 0
      · rw [hp] at CP
        by_cases ha : a = artW ++ arB k
        · rw [parse15_good he hf hp ha]
          show Calls _ _ _ _ fun e w' => e = .returned (.tuple #[.agg #[.int .i64 (k : Nat), .int .i64 (spanV d).1, .int .i64 (spanV d).2.1], .int .i64 0]) ∧ Below w.heap.size w w'
          have e1 : (a.toList == (artW ++ arB k).toList) = true := (Lib.bytes_beq_iff a _).2 ha
          have e3 : (a.toList != (artW ++ arB k).toList) = false := by rw [bne, e1]; rfl
          have hzk := ar_size k hk
          have r1 : ∀ W : World, (Op.stringOp .add ⟨#[97, 114, 116, 46]⟩ (arB k)).run Tryd.prog W = .ok (.string (artW ++ arB k)) W := fun W => run_string_add_sum W artW _ (by show 4 + _ ≤ _; omega)
          have CA := fun W => refar_yes k W hk
          clear hzk ha
          generalize artW ++ arB k = ak at e1 e3 r1
          generalize arB k = tt at r1 CA
          have k0 : ¬ (k : Int) < 0 := by omega
          have kd : decide ((k : Int) < 0) = false := decide_eq_false k0
          generalize (spanV d).1 = x at CP ⊢
          generalize (spanV d).2.1 = y at CP ⊢
          clear h3 hz e2 he hf hp
          go_enter Tryd.func23, Tryd.ntmps23
          go_wp2_with (first
            | (go_at_call 36; (with_reducible refine (CS _).mono ?_); rintro e w1 ⟨v, rfl, ho, hb1⟩; obtain ⟨g, c1, rfl, _, hg1, cA, cB, cD⟩ := words3_at ho; clear ho; have HB1 := Lib.hid (HB0.out.below hb1); have HW1 := Lib.hid (HW0.out.trans (hb1.mono HW0.out.size)))
            | (go_at_call 37; (with_reducible refine (CP _).mono ?_); rintro e w2 ⟨rfl, hb2⟩; have HB2 := Lib.hid ((HB1.out.below hb2).alloc (.cells #[.int .i64 x, .int .i64 y] 60)); have HW2 := Lib.hid ((HW1.out.trans (hb2.mono HW1.out.size)).alloc (Nat.le_trans HW1.out.size hb2.size) (.cells #[.int .i64 x, .int .i64 y] 60)); have cA2 := c_al (.cells #[.int .i64 x, .int .i64 y] 60) (c_cl cA hb2); have cB2 := c_al (.cells #[.int .i64 x, .int .i64 y] 60) (c_cl cB hb2); have x02 : (w2.alloc (.cells #[.int .i64 x, .int .i64 y] 60)).cell? ⟨w2.heap.size, 0, none⟩ = some (.int .i64 x) := (by simp); have x12 : (w2.alloc (.cells #[.int .i64 x, .int .i64 y] 60)).cell? ⟨w2.heap.size, 1, none⟩ = some (.int .i64 y) := (by simp))
            | (go_at_call 13; (with_reducible refine (CF _).mono ?_); rintro e w3 ⟨rfl, hb3⟩; have HB3 := Lib.hid (HB2.out.below hb3); have HW3 := Lib.hid (HW2.out.trans (hb3.mono HW2.out.size)); have cA3 := c_cl cA2 hb3; have x03 := c_cl x02 hb3; have x13 := c_cl x12 hb3))
          have q0 : ∀ p : BelowOf w3, p.world.cell? ⟨g, 1, none⟩ = some (.string a) := fun p => p.cell cA3
          refine wp_region_bel (by kernel_rfl) (by kernel_rfl) ?_
          repeat (go_big_quiet_step (first
            | (go_at_call 12; (with_reducible exact Calls.bel_of (CA _)))))
          refine wpQuiet_nil ?_
          refine bel_all fun wq hbq => ?_
          have HBq := Lib.hid (HB3.out.below hbq)
          have HWq := Lib.hid (HW3.out.trans (hbq.mono HW3.out.size))
          clear q0
          have u0 : wq.cell? ⟨w2.heap.size, 0, none⟩ = some (.int .i64 x) := c_cl x03 hbq
          have u1 : wq.cell? ⟨w2.heap.size, 1, none⟩ = some (.int .i64 y) := c_cl x13 hbq
          go_wp2_with (refine wpList_store_box rfl 41 _ _ rfl w.heap.size #[.int .i64 k, .int .i64 x, .int .i64 y] rfl rfl 41 _ HBq.out size_find15 rfl (three_one15 _ _ _) ?_; intro W9 hu9)
          refine bodyPost_ret (v := .tuple #[.agg #[.int .i64 k, .int .i64 x, .int .i64 y], .int .i64 0]) (results_box2 Tryd.results23 _ _ w.heap.size 41 #[.int .i64 k, .int .i64 x, .int .i64 y] _ _ rfl hu9.box rfl Tryd.underlying41 rfl size_find15) rfl ⟨rfl, ?_⟩
          exact HWq.out.trans (hu9.bel _ (Nat.le_refl _))
        · rw [parse15_bad he (fun q => ha (by have h5 : a = artW ++ artV (findV b) := q.2.2; rw [h5, fnd_some hf, art_yes hk]))]
          show Calls _ _ _ _ fun e w' => e = .returned (.tuple #[.agg #[.int .i64 0, .int .i64 0, .int .i64 0], .int .i64 7]) ∧ Below w.heap.size w w'
          have e1 : (a.toList == (artW ++ arB k).toList) = false := (Lib.bytes_beq_false_iff a _).2 ha
          have e3 : (a.toList != (artW ++ arB k).toList) = true := by rw [bne, e1]; rfl
          have hzk := ar_size k hk
          have r1 : ∀ W : World, (Op.stringOp .add ⟨#[97, 114, 116, 46]⟩ (arB k)).run Tryd.prog W = .ok (.string (artW ++ arB k)) W := fun W => run_string_add_sum W artW _ (by show 4 + _ ≤ _; omega)
          have CA := fun W => refar_yes k W hk
          clear hzk ha
          generalize artW ++ arB k = ak at e1 e3 r1
          generalize arB k = tt at r1 CA
          have k0 : ¬ (k : Int) < 0 := by omega
          have kd : decide ((k : Int) < 0) = false := decide_eq_false k0
          generalize (spanV d).1 = x at CP
          generalize (spanV d).2.1 = y at CP
          clear h3 hz e2 he hf hp
          go_enter Tryd.func23, Tryd.ntmps23
          go_wp2_with (first
            | (go_at_call 36; (with_reducible refine (CS _).mono ?_); rintro e w1 ⟨v, rfl, ho, hb1⟩; obtain ⟨g, c1, rfl, _, hg1, cA, cB, cD⟩ := words3_at ho; clear ho; have HB1 := Lib.hid (HB0.out.below hb1); have HW1 := Lib.hid (HW0.out.trans (hb1.mono HW0.out.size)))
            | (go_at_call 37; (with_reducible refine (CP _).mono ?_); rintro e w2 ⟨rfl, hb2⟩; have HB2 := Lib.hid ((HB1.out.below hb2).alloc (.cells #[.int .i64 x, .int .i64 y] 60)); have HW2 := Lib.hid ((HW1.out.trans (hb2.mono HW1.out.size)).alloc (Nat.le_trans HW1.out.size hb2.size) (.cells #[.int .i64 x, .int .i64 y] 60)); have cA2 := c_al (.cells #[.int .i64 x, .int .i64 y] 60) (c_cl cA hb2); have cB2 := c_al (.cells #[.int .i64 x, .int .i64 y] 60) (c_cl cB hb2); have x02 : (w2.alloc (.cells #[.int .i64 x, .int .i64 y] 60)).cell? ⟨w2.heap.size, 0, none⟩ = some (.int .i64 x) := (by simp); have x12 : (w2.alloc (.cells #[.int .i64 x, .int .i64 y] 60)).cell? ⟨w2.heap.size, 1, none⟩ = some (.int .i64 y) := (by simp))
            | (go_at_call 13; (with_reducible refine (CF _).mono ?_); rintro e w3 ⟨rfl, hb3⟩; have HB3 := Lib.hid (HB2.out.below hb3); have HW3 := Lib.hid (HW2.out.trans (hb3.mono HW2.out.size)); have cA3 := c_cl cA2 hb3; have x03 := c_cl x02 hb3; have x13 := c_cl x12 hb3))
          have q0 : ∀ p : BelowOf w3, p.world.cell? ⟨g, 1, none⟩ = some (.string a) := fun p => p.cell cA3
          refine wp_region_bel (by kernel_rfl) (by kernel_rfl) ?_
          repeat (go_big_quiet_step (first
            | (go_at_call 12; (with_reducible exact Calls.bel_of (CA _)))))
          refine wpQuiet_nil ?_
          refine bel_all fun wq hbq => ?_
          have HBq := Lib.hid (HB3.out.below hbq)
          have HWq := Lib.hid (HW3.out.trans (hbq.mono HW3.out.size))
          clear q0
          clear cA3
          go_wp2_with (refine wpList_store_box rfl 41 _ _ rfl w.heap.size #[.int .i64 0, .int .i64 0, .int .i64 0] rfl rfl 41 _ HBq.out size_find15 rfl (three_one15 _ _ _) ?_; intro W9 hu9)
          refine bodyPost_ret (v := .tuple #[.agg #[.int .i64 0, .int .i64 0, .int .i64 0], .int .i64 7]) (results_box2 Tryd.results23 _ _ w.heap.size 41 #[.int .i64 0, .int .i64 0, .int .i64 0] _ _ rfl hu9.box rfl Tryd.underlying41 rfl size_find15) rfl ⟨rfl, ?_⟩
          exact HWq.out.trans (hu9.bel _ (Nat.le_refl _))
      · rw [parse15_bad he (fun q => hp q.2.1)]
        show Calls _ _ _ _ fun e w' => e = .returned (.tuple #[.agg #[.int .i64 0, .int .i64 0, .int .i64 0], .int .i64 7]) ∧ Below w.heap.size w w'
        have hbn : ((spanV d).2.2 != 0) = true := by simpa using hp
        generalize (spanV d).1 = x at CP
        generalize (spanV d).2.1 = y at CP
        generalize (spanV d).2.2 = er at CP hbn
        clear h3 hz e2 he hf hp
        go_enter Tryd.func23, Tryd.ntmps23
        go_wp2_with (first
          | (go_at_call 36; (with_reducible refine (CS _).mono ?_); rintro e w1 ⟨v, rfl, ho, hb1⟩; obtain ⟨g, c1, rfl, _, hg1, cA, cB, cD⟩ := words3_at ho; clear ho; have HB1 := Lib.hid (HB0.out.below hb1); have HW1 := Lib.hid (HW0.out.trans (hb1.mono HW0.out.size)))
          | (go_at_call 37; (with_reducible refine (CP _).mono ?_); rintro e w2 ⟨rfl, hb2⟩; have HB2 := Lib.hid ((HB1.out.below hb2).alloc (.cells #[.int .i64 x, .int .i64 y] 60)); have HW2 := Lib.hid ((HW1.out.trans (hb2.mono HW1.out.size)).alloc (Nat.le_trans HW1.out.size hb2.size) (.cells #[.int .i64 x, .int .i64 y] 60)); have cA2 := c_al (.cells #[.int .i64 x, .int .i64 y] 60) (c_cl cA hb2); have cB2 := c_al (.cells #[.int .i64 x, .int .i64 y] 60) (c_cl cB hb2); have x02 : (w2.alloc (.cells #[.int .i64 x, .int .i64 y] 60)).cell? ⟨w2.heap.size, 0, none⟩ = some (.int .i64 x) := (by simp); have x12 : (w2.alloc (.cells #[.int .i64 x, .int .i64 y] 60)).cell? ⟨w2.heap.size, 1, none⟩ = some (.int .i64 y) := (by simp))
          | (go_at_call 13; (with_reducible refine (CF _).mono ?_); rintro e w3 ⟨rfl, hb3⟩; have HB3 := Lib.hid (HB2.out.below hb3); have HW3 := Lib.hid (HW2.out.trans (hb3.mono HW2.out.size)); have cA3 := c_cl cA2 hb3; have x03 := c_cl x02 hb3; have x13 := c_cl x12 hb3))
        refine wp_region_bel (by kernel_rfl) (by kernel_rfl) ?_
        repeat (go_big_quiet_step (first
          | fail))
        refine wpQuiet_nil ?_
        refine bel_all fun wq hbq => ?_
        have HBq := Lib.hid (HB3.out.below hbq)
        have HWq := Lib.hid (HW3.out.trans (hbq.mono HW3.out.size))
        clear cA3
        go_wp2_with (refine wpList_store_box rfl 41 _ _ rfl w.heap.size #[.int .i64 0, .int .i64 0, .int .i64 0] rfl rfl 41 _ HBq.out size_find15 rfl (three_one15 _ _ _) ?_; intro W9 hu9)
        refine bodyPost_ret (v := .tuple #[.agg #[.int .i64 0, .int .i64 0, .int .i64 0], .int .i64 7]) (results_box2 Tryd.results23 _ _ w.heap.size 41 #[.int .i64 0, .int .i64 0, .int .i64 0] _ _ rfl hu9.box rfl Tryd.underlying41 rfl size_find15) rfl ⟨rfl, ?_⟩
        exact HWq.out.trans (hu9.bel _ (Nat.le_refl _))
  · rw [parse15_len h3]
    show Calls _ _ _ _ fun e w' => e = .returned (.tuple #[.agg #[.int .i64 0, .int .i64 0, .int .i64 0], .int .i64 7]) ∧ Below w.heap.size w w'
    have hn : (((splitV s).1.length : Int) != 3) = true := by simp; omega
    have hl2 := split_len s
    generalize (splitV s).2.1 = pl at CS
    generalize (splitV s).1 = l at CS hn h3 hl2
    by_cases her : (splitV s).2.2 = 0
    · rw [her] at CS
      clear h3 her
      go_enter Tryd.func23, Tryd.ntmps23
      go_wp2_with (first
        | (go_at_call 36; (with_reducible refine (CS _).mono ?_); rintro e w1 ⟨v, rfl, ho, hb1⟩; obtain ⟨A1, c1, rfl⟩ := words_any ho; clear ho; have HB1 := Lib.hid (HB0.out.below hb1); have HW1 := Lib.hid (HW0.out.trans (hb1.mono HW0.out.size)))
        | (refine wpList_store_box rfl 41 _ _ rfl w.heap.size #[.int .i64 0, .int .i64 0, .int .i64 0] rfl rfl 41 _ HB1.out size_find15 rfl (three_one15 _ _ _) ?_; intro W9 hu9))
      refine bodyPost_ret (v := .tuple #[.agg #[.int .i64 0, .int .i64 0, .int .i64 0], .int .i64 7]) (results_box2 Tryd.results23 _ _ w.heap.size 41 #[.int .i64 0, .int .i64 0, .int .i64 0] _ _ rfl hu9.box rfl Tryd.underlying41 rfl size_find15) rfl ⟨rfl, ?_⟩
      exact HW1.out.trans (hu9.bel _ (Nat.le_refl _))
    · have hbn : ((splitV s).2.2 != 0) = true := by simpa using her
      generalize (splitV s).2.2 = er at CS hbn
      clear h3 her
      go_enter Tryd.func23, Tryd.ntmps23
      go_wp2_with (first
        | (go_at_call 36; (with_reducible refine (CS _).mono ?_); rintro e w1 ⟨v, rfl, ho, hb1⟩; obtain ⟨A1, c1, rfl⟩ := words_any ho; clear ho; have HB1 := Lib.hid (HB0.out.below hb1); have HW1 := Lib.hid (HW0.out.trans (hb1.mono HW0.out.size)))
        | (refine wpList_store_box rfl 41 _ _ rfl w.heap.size #[.int .i64 0, .int .i64 0, .int .i64 0] rfl rfl 41 _ HB1.out size_find15 rfl (three_one15 _ _ _) ?_; intro W9 hu9))
      refine bodyPost_ret (v := .tuple #[.agg #[.int .i64 0, .int .i64 0, .int .i64 0], .int .i64 7]) (results_box2 Tryd.results23 _ _ w.heap.size 41 #[.int .i64 0, .int .i64 0, .int .i64 0] _ _ rfl hu9.box rfl Tryd.underlying41 rfl size_find15) rfl ⟨rfl, ?_⟩
      exact HW1.out.trans (hu9.bel _ (Nat.le_refl _))

end Go.Proofs.YtdepglceffpfhaaDoor
