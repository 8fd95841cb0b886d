/- What Read of layer 10, and the document's own, return. Conditions: the line has at most a million bytes; the program's listed variables are laid. -/
import Derived.Test.YtogcpoaclkomjaaDoorTapeLeaf
import Derived.Test.YtogcpoaclkomjaaDoorWordSpanR
import Derived.Test.YtogcpoaclkomjaaDoorWordSplit
import Derived.Test.YtogcpoaclkomjaaDoorWordSplitR
import Derived.WalkKit
import Derived.WalkSpells
import Derived.WalkSmall
import Derived.Below
import Derived.Outline
import Derived.OwnWalk
import Derived.Lib.Hide
namespace Go.Proofs.YtogcpoaclkomjaaDoor
open Go.RowKit

theorem words_at {e : TypeId} {base : Nat} {w : World} {v : Value} {i j : Nat} {a b : ByteArray} (h : OwnW e base w v [(i, a), (j, b)]) :
    ∃ g c, v = .slice (some ⟨g, 0, none⟩) 2 c ∧ base ≤ g ∧ g < w.heap.size ∧ w.cell? ⟨g, 1, none⟩ = some (.string a) ∧ w.cell? ⟨g, 3, none⟩ = some (.string b) := by
  have h0 := h
  rcases h.2 with ⟨_, hn⟩ | ⟨g, cap, cur, rfl, hb, hg, h1, h2, h3, h4⟩
  · cases hn
  · refine ⟨g, cap, rfl, hb, (World.ownsRow.lt h0 g rfl).2, ?_, ?_⟩
    · rw [World.ownsRow.cellAt h0 1 (by show 1 < 2 * 2; omega)]; rfl
    · rw [World.ownsRow.cellAt h0 3 (by show 3 < 2 * 2; omega)]; rfl

theorem words_len {e : TypeId} {base : Nat} {w : World} {v : Value} {l : List Wd} (h : OwnW e base w v l) : ∃ A c, v = .slice A l.length c := by
  obtain ⟨A, c, hv, _⟩ := h.read
  exact ⟨A, c, hv⟩

theorem word_le {s a b : ByteArray} {i j : Nat} (h : (splitV s).1 = [(i, a), (j, b)]) : a.size ≤ s.size ∧ b.size ≤ s.size := by
  have h2 := (split_back (split_two (s := s) (by rw [h]; rfl))).1
  rw [h] at h2
  have h3 := h2 (i, a) (by simp)
  have h4 := h2 (j, b) (by simp)
  simp only at h3 h4
  omega

set_option maxHeartbeats 1000000 in
theorem read_any (s : ByteArray) (w : World) (hl : Laid6 w) (hs : s.size ≤ 1000000) :
    Calls Tryd.prog 9 #[.string s] w fun e w' => e = .returned (.tuple #[.agg #[.int .i64 (readV s).1.1, .int .i64 (readV s).1.2.1, .int .i64 (readV s).1.2.2], .int .i64 (readV s).2]) ∧ Below w.heap.size w w' := by
  have L0 : Laid6 (w.alloc (.cells #[.int .i64 0, .int .i64 0, .int .i64 0] 23)) := hl.below ((Below.refl _ _).alloc (Nat.le_refl _) _)
  have CS := fun W => split_any s W hs
  clear hl
  by_cases h2 : (splitV s).1.length = 2
  · obtain ⟨⟨i, a⟩, ⟨j, b⟩, he⟩ := two_words h2
    have hz := word_le he
    have e2 : (splitV s).2.2 = 0 := split_two h2
    rw [he, e2] at CS
    by_cases h1 : a.size = 1
    · have h1' : (a.size : Int) = 1 := by omega
      have KD := fun W => kindOf_any a W
      rw [if_pos h1] at KD
      by_cases hL : isL (bt a 0) = true
      · by_cases hb : (spanV b).2.2 = 0
        · rw [read_good he h1 hL hb]
          have CP := fun W (hW : Laid6 W) => span_any b W hW (by omega)
          rw [hb] at CP
          rw [hL] at KD
          generalize (spanV b).1 = x at CP ⊢
          generalize (spanV b).2.1 = y at CP ⊢
          generalize kindB (bt a 0) = k at KD ⊢
          generalize (splitV s).2.1 = pl at CS
          clear h1 h2 he e2 hz hL hb
          go_enter Tryd.func9, Tryd.ntmps9
          go_wp2_with (first
            | (go_at_call 20; (with_reducible refine (CS _).mono ?_); rintro e w1 ⟨v, rfl, ho, hb1⟩; obtain ⟨g, c1, rfl, _, hg1, cA, cB⟩ := words_at ho; clear ho; obtain ⟨hc1, hf1⟩ := bcell hb1; have hz1 := hb1.size; (try simp at hz1); have hlt1 : w.heap.size < w1.heap.size := (by omega); have L1 := L0.below hb1)
            | (go_at_call 21; refine (KD _).mono ?_; rintro e w' ⟨rfl, rfl⟩)
            | (go_at_call 22; (with_reducible refine (CP _ L1).mono ?_); rintro e w2 ⟨rfl, hb2⟩; obtain ⟨hc2, hf2⟩ := bcell hb2; have hz2 := hb2.size; (try simp at hz2); have hlt2 : w.heap.size < w2.heap.size := (by omega)))
          refine bodyPost_ret (v := .tuple #[.agg #[.int .i64 k, .int .i64 x, .int .i64 y], .int .i64 0]) (by simp [results, Tryd.results9, go_sem, *]) rfl ⟨rfl, ?_⟩
          (repeat (first | assumption | exact Below.refl _ _ | (refine b_st ?_ (by first | (simp; done) | (simp; omega))) | (refine b_al ?_ (Nat.le_refl _) _) | refine b_dn ?_ | refine b_dr ?_ | (refine b_cl ?_ (Nat.le_refl _) (by assumption))))
        · rw [read_span he h1 hL hb]
          have CP := fun W (hW : Laid6 W) => span_any b W hW (by omega)
          rw [hL] at KD
          have hbn : ((spanV b).2.2 != 0) = true := by simpa using hb
          generalize (spanV b).1 = x at CP
          generalize (spanV b).2.1 = y at CP
          generalize (spanV b).2.2 = er at CP hbn ⊢
          generalize kindB (bt a 0) = k at KD
          generalize (splitV s).2.1 = pl at CS
          clear h1 h2 he e2 hz hL hb
          unfold rz
          go_enter Tryd.func9, Tryd.ntmps9
          go_wp2_with (first
            | (go_at_call 20; (with_reducible refine (CS _).mono ?_); rintro e w1 ⟨v, rfl, ho, hb1⟩; obtain ⟨g, c1, rfl, _, hg1, cA, cB⟩ := words_at ho; clear ho; obtain ⟨hc1, hf1⟩ := bcell hb1; have hz1 := hb1.size; (try simp at hz1); have hlt1 : w.heap.size < w1.heap.size := (by omega); have L1 := L0.below hb1)
            | (go_at_call 21; refine (KD _).mono ?_; rintro e w' ⟨rfl, rfl⟩)
            | (go_at_call 22; (with_reducible refine (CP _ L1).mono ?_); rintro e w2 ⟨rfl, hb2⟩; obtain ⟨hc2, hf2⟩ := bcell hb2; have hz2 := hb2.size; (try simp at hz2); have hlt2 : w.heap.size < w2.heap.size := (by omega)))
          refine bodyPost_ret (v := .tuple #[.agg #[.int .i64 0, .int .i64 0, .int .i64 0], .int .i64 er]) (by simp [results, Tryd.results9, go_sem, *]) rfl ⟨rfl, ?_⟩
          (repeat (first | assumption | exact Below.refl _ _ | (refine b_st ?_ (by first | (simp; done) | (simp; omega))) | (refine b_al ?_ (Nat.le_refl _) _) | refine b_dn ?_ | refine b_dr ?_ | (refine b_cl ?_ (Nat.le_refl _) (by assumption))))
      · rw [read_kind he (.inr (by simpa using hL))]
        rw [show isL (bt a 0) = false by simpa using hL] at KD
        generalize kindB (bt a 0) = k at KD
        generalize (splitV s).2.1 = pl at CS
        clear h1 h2 he e2 hz hL
        unfold rz
        go_enter Tryd.func9, Tryd.ntmps9
        go_wp2_with (first
          | (go_at_call 20; (with_reducible refine (CS _).mono ?_); rintro e w1 ⟨v, rfl, ho, hb1⟩; obtain ⟨g, c1, rfl, _, hg1, cA, cB⟩ := words_at ho; clear ho; obtain ⟨hc1, hf1⟩ := bcell hb1; have hz1 := hb1.size; (try simp at hz1); have hlt1 : w.heap.size < w1.heap.size := (by omega); have L1 := L0.below hb1)
          | (go_at_call 21; refine (KD _).mono ?_; rintro e w' ⟨rfl, rfl⟩))
        refine bodyPost_ret (v := .tuple #[.agg #[.int .i64 0, .int .i64 0, .int .i64 0], .int .i64 2]) (by simp [results, Tryd.results9, go_sem, *]) rfl ⟨rfl, ?_⟩
        (repeat (first | assumption | exact Below.refl _ _ | (refine b_st ?_ (by first | (simp; done) | (simp; omega))) | (refine b_al ?_ (Nat.le_refl _) _) | refine b_dn ?_ | refine b_dr ?_ | (refine b_cl ?_ (Nat.le_refl _) (by assumption))))
    · rw [read_kind he (.inl h1)]
      have KD := fun W => kindOf_any a W
      rw [if_neg h1] at KD
      generalize (splitV s).2.1 = pl at CS
      clear h1 h2 he e2 hz
      unfold rz
      go_enter Tryd.func9, Tryd.ntmps9
      go_wp2_with (first
        | (go_at_call 20; (with_reducible refine (CS _).mono ?_); rintro e w1 ⟨v, rfl, ho, hb1⟩; obtain ⟨g, c1, rfl, _, hg1, cA, cB⟩ := words_at ho; clear ho; obtain ⟨hc1, hf1⟩ := bcell hb1; have hz1 := hb1.size; (try simp at hz1); have hlt1 : w.heap.size < w1.heap.size := (by omega); have L1 := L0.below hb1)
        | (go_at_call 21; refine (KD _).mono ?_; rintro e w' ⟨rfl, rfl⟩))
      refine bodyPost_ret (v := .tuple #[.agg #[.int .i64 0, .int .i64 0, .int .i64 0], .int .i64 2]) (by simp [results, Tryd.results9, go_sem, *]) rfl ⟨rfl, ?_⟩
      (repeat (first | assumption | exact Below.refl _ _ | (refine b_st ?_ (by first | (simp; done) | (simp; omega))) | (refine b_al ?_ (Nat.le_refl _) _) | refine b_dn ?_ | refine b_dr ?_ | (refine b_cl ?_ (Nat.le_refl _) (by assumption))))
  · rw [read_form h2]
    have h2' : (((splitV s).1.length : Int) != 2) = true := by simp; omega
    have hl2 := split_len s
    generalize (splitV s).2.1 = pl at CS
    generalize (splitV s).2.2 = er at CS
    generalize (splitV s).1 = l at CS h2' h2 hl2
    unfold rz
    go_enter Tryd.func9, Tryd.ntmps9
    go_wp2_with (go_at_call 20; (with_reducible refine (CS _).mono ?_); rintro e w1 ⟨v, rfl, ho, hb1⟩; obtain ⟨A1, c1, rfl⟩ := words_len ho; clear ho; obtain ⟨hc1, hf1⟩ := bcell hb1; have hz1 := hb1.size; (try simp at hz1); have hlt1 : w.heap.size < w1.heap.size := (by omega))
    refine bodyPost_ret (v := .tuple #[.agg #[.int .i64 0, .int .i64 0, .int .i64 0], .int .i64 7]) (by simp [results, Tryd.results9, go_sem, *]) rfl ⟨rfl, ?_⟩
    (repeat (first | assumption | exact Below.refl _ _ | (refine b_st ?_ (by first | (simp; done) | (simp; omega))) | (refine b_al ?_ (Nat.le_refl _) _) | refine b_dn ?_ | refine b_dr ?_ | (refine b_cl ?_ (Nat.le_refl _) (by assumption))))

set_option maxHeartbeats 1000000 in
theorem refread_any (s : ByteArray) (w : World) (hs : s.size ≤ 1000000) :
    Calls Tryd.prog 10 #[.string s] w fun e w' => e = .returned (.tuple #[.agg #[.int .i64 (readV s).1.1, .int .i64 (readV s).1.2.1, .int .i64 (readV s).1.2.2], .int .i64 (readV s).2]) ∧ Below w.heap.size w w' := by
  have CS := fun W => refsplit_any s W hs
  by_cases h2 : (splitV s).1.length = 2
  · obtain ⟨⟨i, a⟩, ⟨j, b⟩, he⟩ := two_words h2
    have hz := word_le he
    have e2 : (splitV s).2.2 = 0 := split_two h2
    rw [he, e2] at CS
    by_cases h1 : a.size = 1
    · have h1' : (a.size : Int) = 1 := by omega
      have hlt : 0 < a.size := by omega
      have KD := fun W => refkind_any ((a[0]'hlt).toNat : Int) W
      have eb := byte_bt a 0 hlt
      rw [eb] at KD
      by_cases hL : isL (bt a 0) = true
      · by_cases hb : (spanV b).2.2 = 0
        · rw [read_good he h1 hL hb]
          have CP := fun W => refspan_any b W (by omega)
          rw [hb] at CP
          rw [hL] at KD
          generalize (spanV b).1 = x at CP ⊢
          generalize (spanV b).2.1 = y at CP ⊢
          generalize kindB (bt a 0) = k at KD ⊢
          generalize bt a 0 = bk at KD eb
          subst eb
          generalize (splitV s).2.1 = pl at CS
          clear h1 h2 he e2 hz hL hb
          go_enter Tryd.func10, Tryd.ntmps10
          go_wp2_with (first
            | (go_at_call 23; (with_reducible refine (CS _).mono ?_); rintro e w1 ⟨v, rfl, ho, hb1⟩; obtain ⟨g, c1, rfl, _, hg1, cA, cB⟩ := words_at ho; clear ho; obtain ⟨hc1, hf1⟩ := bcell hb1; have hz1 := hb1.size; (try simp at hz1); have hlt1 : w.heap.size < w1.heap.size := (by omega))
            | (go_at_call 24; refine (KD _).mono ?_; rintro e w' ⟨rfl, rfl⟩)
            | (go_at_call 25; (with_reducible refine (CP _).mono ?_); rintro e w2 ⟨rfl, hb2⟩; obtain ⟨hc2, hf2⟩ := bcell hb2; have hz2 := hb2.size; (try simp at hz2); have hlt2 : w.heap.size < w2.heap.size := (by omega)))
          refine bodyPost_ret (v := .tuple #[.agg #[.int .i64 k, .int .i64 x, .int .i64 y], .int .i64 0]) (by simp [results, Tryd.results10, go_sem, *]) rfl ⟨rfl, ?_⟩
          (repeat (first | assumption | exact Below.refl _ _ | (refine b_st ?_ (by first | (simp; done) | (simp; omega))) | (refine b_al ?_ (Nat.le_refl _) _) | refine b_dn ?_ | refine b_dr ?_ | (refine b_cl ?_ (Nat.le_refl _) (by assumption))))
        · rw [read_span he h1 hL hb]
          have CP := fun W => refspan_any b W (by omega)
          rw [hL] at KD
          have hbn : ((spanV b).2.2 != 0) = true := by simpa using hb
          generalize (spanV b).1 = x at CP
          generalize (spanV b).2.1 = y at CP
          generalize (spanV b).2.2 = er at CP hbn ⊢
          generalize kindB (bt a 0) = k at KD
          generalize bt a 0 = bk at KD eb
          subst eb
          generalize (splitV s).2.1 = pl at CS
          clear h1 h2 he e2 hz hL hb
          unfold rz
          go_enter Tryd.func10, Tryd.ntmps10
          go_wp2_with (first
            | (go_at_call 23; (with_reducible refine (CS _).mono ?_); rintro e w1 ⟨v, rfl, ho, hb1⟩; obtain ⟨g, c1, rfl, _, hg1, cA, cB⟩ := words_at ho; clear ho; obtain ⟨hc1, hf1⟩ := bcell hb1; have hz1 := hb1.size; (try simp at hz1); have hlt1 : w.heap.size < w1.heap.size := (by omega))
            | (go_at_call 24; refine (KD _).mono ?_; rintro e w' ⟨rfl, rfl⟩)
            | (go_at_call 25; (with_reducible refine (CP _).mono ?_); rintro e w2 ⟨rfl, hb2⟩; obtain ⟨hc2, hf2⟩ := bcell hb2; have hz2 := hb2.size; (try simp at hz2); have hlt2 : w.heap.size < w2.heap.size := (by omega)))
          refine bodyPost_ret (v := .tuple #[.agg #[.int .i64 0, .int .i64 0, .int .i64 0], .int .i64 er]) (by simp [results, Tryd.results10, go_sem, *]) rfl ⟨rfl, ?_⟩
          (repeat (first | assumption | exact Below.refl _ _ | (refine b_st ?_ (by first | (simp; done) | (simp; omega))) | (refine b_al ?_ (Nat.le_refl _) _) | refine b_dn ?_ | refine b_dr ?_ | (refine b_cl ?_ (Nat.le_refl _) (by assumption))))
      · rw [read_kind he (.inr (by simpa using hL))]
        rw [show isL (bt a 0) = false by simpa using hL] at KD
        generalize kindB (bt a 0) = k at KD
        generalize bt a 0 = bk at KD eb
        subst eb
        generalize (splitV s).2.1 = pl at CS
        clear h1 h2 he e2 hz hL
        unfold rz
        go_enter Tryd.func10, Tryd.ntmps10
        go_wp2_with (first
          | (go_at_call 23; (with_reducible refine (CS _).mono ?_); rintro e w1 ⟨v, rfl, ho, hb1⟩; obtain ⟨g, c1, rfl, _, hg1, cA, cB⟩ := words_at ho; clear ho; obtain ⟨hc1, hf1⟩ := bcell hb1; have hz1 := hb1.size; (try simp at hz1); have hlt1 : w.heap.size < w1.heap.size := (by omega))
          | (go_at_call 24; refine (KD _).mono ?_; rintro e w' ⟨rfl, rfl⟩))
        refine bodyPost_ret (v := .tuple #[.agg #[.int .i64 0, .int .i64 0, .int .i64 0], .int .i64 2]) (by simp [results, Tryd.results10, go_sem, *]) rfl ⟨rfl, ?_⟩
        (repeat (first | assumption | exact Below.refl _ _ | (refine b_st ?_ (by first | (simp; done) | (simp; omega))) | (refine b_al ?_ (Nat.le_refl _) _) | refine b_dn ?_ | refine b_dr ?_ | (refine b_cl ?_ (Nat.le_refl _) (by assumption))))
    · rw [read_kind he (.inl h1)]
      have h1' : ((a.size : Int) == 1) = false := by simp; omega
      generalize (splitV s).2.1 = pl at CS
      clear h1 h2 he e2 hz
      unfold rz
      go_enter Tryd.func10, Tryd.ntmps10
      go_wp2_with (go_at_call 23; (with_reducible refine (CS _).mono ?_); rintro e w1 ⟨v, rfl, ho, hb1⟩; obtain ⟨g, c1, rfl, _, hg1, cA, cB⟩ := words_at ho; clear ho; obtain ⟨hc1, hf1⟩ := bcell hb1; have hz1 := hb1.size; (try simp at hz1); have hlt1 : w.heap.size < w1.heap.size := (by omega))
      refine bodyPost_ret (v := .tuple #[.agg #[.int .i64 0, .int .i64 0, .int .i64 0], .int .i64 2]) (by simp [results, Tryd.results10, go_sem, *]) rfl ⟨rfl, ?_⟩
      (repeat (first | assumption | exact Below.refl _ _ | (refine b_st ?_ (by first | (simp; done) | (simp; omega))) | (refine b_al ?_ (Nat.le_refl _) _) | refine b_dn ?_ | refine b_dr ?_ | (refine b_cl ?_ (Nat.le_refl _) (by assumption))))
  · rw [read_form h2]
    have h2' : (((splitV s).1.length : Int) != 2) = true := by simp; omega
    have hl2 := split_len s
    generalize (splitV s).2.1 = pl at CS
    generalize (splitV s).2.2 = er at CS
    generalize (splitV s).1 = l at CS h2' h2 hl2
    unfold rz
    by_cases her : er = 0
    · subst her
      go_enter Tryd.func10, Tryd.ntmps10
      go_wp2_with (go_at_call 23; (with_reducible refine (CS _).mono ?_); rintro e w1 ⟨v, rfl, ho, hb1⟩; obtain ⟨A1, c1, rfl⟩ := words_len ho; clear ho; obtain ⟨hc1, hf1⟩ := bcell hb1; have hz1 := hb1.size; (try simp at hz1); have hlt1 : w.heap.size < w1.heap.size := (by omega))
      refine bodyPost_ret (v := .tuple #[.agg #[.int .i64 0, .int .i64 0, .int .i64 0], .int .i64 7]) (by simp [results, Tryd.results10, go_sem, *]) rfl ⟨rfl, ?_⟩
      (repeat (first | assumption | exact Below.refl _ _ | (refine b_st ?_ (by first | (simp; done) | (simp; omega))) | (refine b_al ?_ (Nat.le_refl _) _) | refine b_dn ?_ | refine b_dr ?_ | (refine b_cl ?_ (Nat.le_refl _) (by assumption))))
    · have her' : (er != 0) = true := by simpa using her
      clear her
      go_enter Tryd.func10, Tryd.ntmps10
      go_wp2_with (go_at_call 23; (with_reducible refine (CS _).mono ?_); rintro e w1 ⟨v, rfl, ho, hb1⟩; obtain ⟨A1, c1, rfl⟩ := words_len ho; clear ho; obtain ⟨hc1, hf1⟩ := bcell hb1; have hz1 := hb1.size; (try simp at hz1); have hlt1 : w.heap.size < w1.heap.size := (by omega))
      refine bodyPost_ret (v := .tuple #[.agg #[.int .i64 0, .int .i64 0, .int .i64 0], .int .i64 7]) (by simp [results, Tryd.results10, go_sem, *]) rfl ⟨rfl, ?_⟩
      (repeat (first | assumption | exact Below.refl _ _ | (refine b_st ?_ (by first | (simp; done) | (simp; omega))) | (refine b_al ?_ (Nat.le_refl _) _) | refine b_dn ?_ | refine b_dr ?_ | (refine b_cl ?_ (Nat.le_refl _) (by assumption))))

end Go.Proofs.YtogcpoaclkomjaaDoor
