/- What Lines of layer 6 returns, for any text. Conditions: the text has at most a million bytes. -/
import Derived.Test.YtogcpoaclkomjaaDoorLinesC
namespace Go.Proofs.YtogcpoaclkomjaaDoor
open Go.RowKit Go.Shelf

theorem is_empty {s : ByteArray} (h : s.size = 0) : s.toList.isEmpty = true := by
  obtain rfl : s = ⟨#[]⟩ := ByteArray.ext (Array.eq_empty_of_size_eq_zero h)
  simp

set_option maxRecDepth 100000 in
set_option maxHeartbeats 4000000 in
theorem lines_none (s : ByteArray) (w : World) (hs : s.size ≤ 1000000) (h0 : s.size = 0) (he : pbeg 10 s s.size = s.size) :
    Calls Tryd.prog 28 #[.string s] w fun e w' => ∃ v, e = .returned (.tuple #[v, .int .i64 0, .int .i64 0]) ∧ OwnT w.heap.size w' v ((pdone 10 s s.size).map (·.2)) ∧ Below w.heap.size w w' := by
  obtain ⟨i0, hi, hz0, hz1', hz2⟩ := info_parts info_string
  have hne := is_empty h0
  have HE := Lib.hid he
  clear he
  refine (callsIn_wide (n := 3)).1 ?_
  refine callsIn_of_wp_marks Tryd.func28 rfl trivial ?_ rfl
  simp only [Tryd.ntmps28, List.size_toArray, List.length_cons, List.length_nil, Nat.reduceAdd, Nat.reduceSub, Array.replicate_succ, Array.replicate_zero, List.push_toArray, List.append_toArray, List.nil_append, List.cons_append]
  gi_wp2
  refine ⟨trivial, ?_⟩
  gi_wp2_with (refine ⟨trivial, ?_⟩; gi_at_call 48; refine (callsIn_wide.2 (seq_any _ _)).mono ?_; rintro e w2 ⟨rfl, hw2⟩; obtain rfl := hw2.symm)
  have hb2 : Below w.heap.size w ((w.alloc (.cells #[.slice none 0 0] 66)).alloc (.cells #[.string s] 9)) := ((Below.refl _ w).alloc (Nat.le_refl _) _).alloc (by simp) _
  have bN := Boxed.new (w.alloc (.cells #[.slice none 0 0] 66)) 9 (.string s)
  rw [World.size_alloc] at bN
  have hW0 : ((w.alloc (.cells #[.slice none 0 0] 66)).alloc (.cells #[.string s] 9)).heap.size = w.heap.size + 2 := by simp
  refine range_text (by omega) (gf := 62) (lb := #[.pointer (some ⟨w.heap.size + 1, 0, none⟩)]) rfl (enters_of Tryd.func62 (by kernel_rfl) rfl) (w.heap.size + 1) (by rw [hW0]; omega) 9 s rfl ((pdone 10 s s.size).map (ended s))
    (fun l J hY hset hdrew W hB hJ => iter_in (3 - 1) (by omega) l (w.heap.size + 1) s hs HE.out J hY hset hdrew W hB hJ) bN (LinesI w) (linesI_from w (by rw [hW0]; omega)) (linesI_set w) (linesI_drew w)
    ⟨⟨_, (Boxed.new w 66 (.slice none 0 0)).alloc _, World.ownsRow_nil _ _ _ _, trivial⟩, hb2, by rw [hW0]; omega⟩
    (fun x => { tmps := #[.string s, undef, .slice none 0 0, .int .i64 0, .int .i64 0, .pointer (some ⟨w.heap.size, 0, none⟩), .string x, .string s, .bool false, .bool false, undef, undef, undef, .bool false, undef, undef, .string s, .func (.func 62) #[] #[.pointer (some ⟨w.heap.size + 1, 0, none⟩)], .string x, undef, undef, undef, undef, undef, undef, undef, undef, undef], defers := [] }) ?assign ?body ?done
  case assign =>
    intro l x W K hK
    gi_wp2
    rw [Oper.semAt_some _ _ _ (by intro c h; cases h)]
    go_simp
    gi_wp2
    exact hK
  case body =>
    rintro l pre x W ⟨⟨v, hv, hrow, _⟩, hB, hWz⟩ x1 x2 x3
    rw [hW0]
    obtain ⟨m, hm⟩ : ∃ m, x.size = m + 1 := ⟨x.size - 1, by omega⟩
    have hchop : chop x = x.extract 0 m := by unfold chop; rw [hm]; rfl
    have hm1 : (x.size : Int) - 1 = (m : Int) := by omega
    have zm : IntKind.i64.wrap ((x.size : Int) - 1) = (m : Int) := by rw [hm1]; exact wrap_of (by omega) (by omega)
    have zm2 : IntKind.i64.wrap (m : Int) = (m : Int) := wrap_of (by omega) (by omega)
    have KP := fun W => piece_any x 0 m W (by omega) (by omega) (by omega)
    have hc := hv.cell
    have hvl := hv.lt
    have HCH := Lib.hid hchop
    clear hchop
    have HV := Lib.hid hv
    have HROW := Lib.hid hrow
    have hzB := hB.size
    clear hv hrow
    gi_wp2
    refine wpIn_region_any (F := Fence.wide.inRound l) (by kernel_rfl) (any_round rfl ?nodefer _ _ _ _ ?_)
    case nodefer =>
      intro i o c' ho
      match i, ho with
      | 0, ho => simp at ho; subst ho; simp
      | 1, ho => simp at ho; subst ho; simp
      | 2, ho => simp at ho; subst ho; simp
      | 3, ho => simp at ho; subst ho; simp
      | 4, ho => simp at ho; subst ho; simp
      | 5, ho => simp at ho; subst ho; simp
      | 6, ho => simp at ho; subst ho; simp
      | 7, ho => simp at ho; subst ho; simp
      | 8, ho => simp at ho; subst ho; simp
      | i + 9, ho => simp at ho
    refine wpAnyIn_take (i := 1) (oi := ⟨some 20, _, _, _, _, _⟩) (v := .string x) rfl rfl (by kernel_rfl) (by kernel_rfl) (by kernel_rfl) (fun _ _ _ h => h) ⟨Or.inl ⟨by rfl, ?_⟩, fun _ => rfl⟩ ?_
    · intro w'
      go_simp
    (try simp only [Act.put, List.setIfInBounds_toArray, List.set_cons_zero, List.set_cons_succ])
    refine wpAnyIn_take (i := 2) (oi := ⟨some 21, _, _, _, _, _⟩) (v := .string x) rfl rfl (by kernel_rfl) (by kernel_rfl) (by kernel_rfl) (fun _ _ _ h => h) ⟨Or.inl ⟨by rfl, ?_⟩, fun _ => rfl⟩ ?_
    · intro w'
      go_simp
    (try simp only [Act.put, List.setIfInBounds_toArray, List.set_cons_zero, List.set_cons_succ])
    refine wpAnyIn_take (i := 3) (oi := ⟨some 22, _, _, _, _, _⟩) (v := .int .i64 x.size) rfl rfl (by kernel_rfl) (by kernel_rfl) (by kernel_rfl) (fun _ _ _ h => h) ⟨Or.inl ⟨by rfl, ?_⟩, fun _ => rfl⟩ ?_
    · intro w'
      go_simp
    (try simp only [Act.put, List.setIfInBounds_toArray, List.set_cons_zero, List.set_cons_succ])
    refine wpAnyIn_take (i := 4) (oi := ⟨some 23, _, _, _, _, _⟩) (v := .int .i64 m) rfl rfl (by kernel_rfl) (by kernel_rfl) (by kernel_rfl) (fun _ _ _ h => h) ⟨Or.inl ⟨by rfl, ?_⟩, fun _ => rfl⟩ ?_
    · intro w'
      go_simp
    (try simp only [Act.put, List.setIfInBounds_toArray, List.set_cons_zero, List.set_cons_succ])
    refine wpAnyIn_ready (rs := [0, 5]) (by kernel_rfl) (by simp) ?_
    refine AllReadyIn.cons (o := ⟨some 19, _, _, _, _, _⟩) rfl (fun K hK => ?_) (AllReadyIn.cons (o := ⟨some 24, _, _, _, _, _⟩) rfl (fun K hK => ?_) AllReadyIn.nil)
    · go_simp
      refine hK _ _ ?_
      clear hK K
      refine wpAnyIn_ready (rs := [5]) (by kernel_rfl) (by simp) ?_
      refine AllReadyIn.cons (o := ⟨some 24, _, _, _, _, _⟩) rfl (fun K hK => ?_) AllReadyIn.nil
      go_simp
      gi_wp2_with (first | (gi_at_call 40; refine (callsIn_wide.2 (KP _)).mono ?_; rintro e w1 ⟨rfl, hb1⟩) | (refine ⟨trivial, ?_⟩; gi_at_call 40; refine (callsIn_wide.2 (KP _)).mono ?_; rintro e w1 ⟨rfl, hb1⟩))
      have hbw : Below W.heap.size W w1 := ⟨hb1.os, hb1.tape, hb1.output, hb1.size, hb1.block⟩
      have hv1 : Boxed w1 w.heap.size 66 v := (hbw.block _ HV.out.lt).trans HV.out
      have hc1 := hv1.cell
      have HV1 := Lib.hid hv1
      have HR1 := Lib.hid (row_below HROW.out hbw)
      have hz1 := hbw.size
      have hlt1 : w.heap.size < w1.heap.size := by omega
      have HBW := Lib.hid hbw
      clear hb1 hbw hv1
      refine wpAnyIn_ready (rs := [6]) (by kernel_rfl) (by simp) ?_
      refine AllReadyIn.cons (o := ⟨some 25, _, _, _, _, _⟩) rfl (fun K hK => ?_) AllReadyIn.nil
      go_simp
      refine hK _ _ ?_
      clear hK K
      refine wpAnyIn_ready (rs := [7]) (by kernel_rfl) (by simp) ?_
      refine AllReadyIn.cons (o := ⟨some 26, _, _, _, _, _⟩) rfl (fun K hK => ?_) AllReadyIn.nil
      refine step_append _ rfl (.tmp 19) (.tmp 25) 66 rfl (w.heap.size + 2) 9 i0 (.string ⟨#[]⟩) 1 16 Tryd.underlying66 hi hz0 hz1' hz2 rfl (by decide) v pre.length ((pre.map chop).map Value.string) rfl (World.ownsRow.alloc HR1.out _) ⟨w1.heap.size, 0, none⟩ 1 1 [.string (x.extract 0 m)] rfl rfl (text_news rfl) text_cells (by unfold maxLen; omega) (by omega) (by simp; omega) ?_
      intro v5 w5 hown5 hgrow5
      refine hK _ _ ?_
      clear hK K
      obtain ⟨g5, cap5, rfl⟩ := ownsRow_succ hown5
      obtain ⟨a1, a2, _, a4, a5⟩ := Boxed.appended (n₀ := w.heap.size) HV1.out (by decide) (row_more HR1.out (by omega)) (by omega) (Nat.le_refl _) (row_more hown5 (by omega)) hgrow5
      have hkeep : w5.heap[w.heap.size + 1]? = W.heap[w.heap.size + 1]? := by
        rw [hgrow5.block (w.heap.size + 1) (by simp; omega) (fun e => by have := (World.ownsRow.lt HR1.out _ e.symm).1; omega), Below.heap_alloc _ _ _ (by omega)]
        exact HBW.out.block _ (by omega)
      have HK5 := Lib.hid hkeep
      have HO5 := Lib.hid (row_other hown5 (a := ⟨w.heap.size, 0, none⟩) (by show w.heap.size < _; omega) (.slice (some ⟨g5, 0, none⟩) (pre.length + 1) cap5))
      have HA2 := Lib.hid a2
      have HA4 := Lib.hid a4
      have HA5 := Lib.hid a5
      have c5 := a1.cell
      have f5 := a1.frozen
      clear a1 a2 a4 a5 hkeep hown5 hgrow5
      refine wpAnyIn_ready (rs := [8]) (by kernel_rfl) (by simp) ?_
      refine AllReadyIn.cons (o := ⟨none, _, _, _, _, _⟩) rfl (fun K hK => ?_) AllReadyIn.nil
      go_simp
      refine hK _ _ ?_
      clear hK K
      refine wpAnyIn_done (by kernel_rfl) ?_ _
      refine ⟨(keeps_below HBW.out).trans (HA4.out.from _), ?_, ⟨⟨_, HA2.out, ?_, trivial⟩, hB.trans ((HBW.out.mono hB.size).trans HA5.out), ?_⟩⟩
      · rw [Below.heap_setCell _ _ _ _ (by show w.heap.size + 1 ≠ w.heap.size; omega)]
        exact HK5.out
      · have h := HO5.out
        rw [List.map_append, List.map_append, List.length_append]
        simp only [List.map_cons, List.map_nil, HCH.out, List.length_cons, List.length_nil]
        exact h
      · have := HA5.out.size
        have := HBW.out.size
        omega
    · go_simp
      gi_wp2_with (first | (gi_at_call 40; refine (callsIn_wide.2 (KP _)).mono ?_; rintro e w1 ⟨rfl, hb1⟩) | (refine ⟨trivial, ?_⟩; gi_at_call 40; refine (callsIn_wide.2 (KP _)).mono ?_; rintro e w1 ⟨rfl, hb1⟩))
      have hbw : Below W.heap.size W w1 := ⟨hb1.os, hb1.tape, hb1.output, hb1.size, hb1.block⟩
      have hv1 : Boxed w1 w.heap.size 66 v := (hbw.block _ HV.out.lt).trans HV.out
      have hc1 := hv1.cell
      have HV1 := Lib.hid hv1
      have HR1 := Lib.hid (row_below HROW.out hbw)
      have hz1 := hbw.size
      have hlt1 : w.heap.size < w1.heap.size := by omega
      have HBW := Lib.hid hbw
      clear hb1 hbw hv1
      refine wpAnyIn_ready (rs := [0, 6]) (by kernel_rfl) (by simp) ?_
      refine AllReadyIn.cons (o := ⟨some 19, _, _, _, _, _⟩) rfl (fun K hK => ?_) (AllReadyIn.cons (o := ⟨some 25, _, _, _, _, _⟩) rfl (fun K hK => ?_) AllReadyIn.nil)
      · go_simp
        refine hK _ _ ?_
        clear hK K
        refine wpAnyIn_ready (rs := [6]) (by kernel_rfl) (by simp) ?_
        refine AllReadyIn.cons (o := ⟨some 25, _, _, _, _, _⟩) rfl (fun K hK => ?_) AllReadyIn.nil
        go_simp
        refine hK _ _ ?_
        clear hK K
        refine wpAnyIn_ready (rs := [7]) (by kernel_rfl) (by simp) ?_
        refine AllReadyIn.cons (o := ⟨some 26, _, _, _, _, _⟩) rfl (fun K hK => ?_) AllReadyIn.nil
        refine step_append _ rfl (.tmp 19) (.tmp 25) 66 rfl (w.heap.size + 2) 9 i0 (.string ⟨#[]⟩) 1 16 Tryd.underlying66 hi hz0 hz1' hz2 rfl (by decide) v pre.length ((pre.map chop).map Value.string) rfl (World.ownsRow.alloc HR1.out _) ⟨w1.heap.size, 0, none⟩ 1 1 [.string (x.extract 0 m)] rfl rfl (text_news rfl) text_cells (by unfold maxLen; omega) (by omega) (by simp; omega) ?_
        intro v5 w5 hown5 hgrow5
        refine hK _ _ ?_
        clear hK K
        obtain ⟨g5, cap5, rfl⟩ := ownsRow_succ hown5
        obtain ⟨a1, a2, _, a4, a5⟩ := Boxed.appended (n₀ := w.heap.size) HV1.out (by decide) (row_more HR1.out (by omega)) (by omega) (Nat.le_refl _) (row_more hown5 (by omega)) hgrow5
        have hkeep : w5.heap[w.heap.size + 1]? = W.heap[w.heap.size + 1]? := by
          rw [hgrow5.block (w.heap.size + 1) (by simp; omega) (fun e => by have := (World.ownsRow.lt HR1.out _ e.symm).1; omega), Below.heap_alloc _ _ _ (by omega)]
          exact HBW.out.block _ (by omega)
        have HK5 := Lib.hid hkeep
        have HO5 := Lib.hid (row_other hown5 (a := ⟨w.heap.size, 0, none⟩) (by show w.heap.size < _; omega) (.slice (some ⟨g5, 0, none⟩) (pre.length + 1) cap5))
        have HA2 := Lib.hid a2
        have HA4 := Lib.hid a4
        have HA5 := Lib.hid a5
        have c5 := a1.cell
        have f5 := a1.frozen
        clear a1 a2 a4 a5 hkeep hown5 hgrow5
        refine wpAnyIn_ready (rs := [8]) (by kernel_rfl) (by simp) ?_
        refine AllReadyIn.cons (o := ⟨none, _, _, _, _, _⟩) rfl (fun K hK => ?_) AllReadyIn.nil
        go_simp
        refine hK _ _ ?_
        clear hK K
        refine wpAnyIn_done (by kernel_rfl) ?_ _
        refine ⟨(keeps_below HBW.out).trans (HA4.out.from _), ?_, ⟨⟨_, HA2.out, ?_, trivial⟩, hB.trans ((HBW.out.mono hB.size).trans HA5.out), ?_⟩⟩
        · rw [Below.heap_setCell _ _ _ _ (by show w.heap.size + 1 ≠ w.heap.size; omega)]
          exact HK5.out
        · have h := HO5.out
          rw [List.map_append, List.map_append, List.length_append]
          simp only [List.map_cons, List.map_nil, HCH.out, List.length_cons, List.length_nil]
          exact h
        · have := HA5.out.size
          have := HBW.out.size
          omega
      · go_simp
        refine hK _ _ ?_
        clear hK K
        refine wpAnyIn_ready (rs := [0]) (by kernel_rfl) (by simp) ?_
        refine AllReadyIn.cons (o := ⟨some 19, _, _, _, _, _⟩) rfl (fun K hK => ?_) AllReadyIn.nil
        go_simp
        refine hK _ _ ?_
        clear hK K
        refine wpAnyIn_ready (rs := [7]) (by kernel_rfl) (by simp) ?_
        refine AllReadyIn.cons (o := ⟨some 26, _, _, _, _, _⟩) rfl (fun K hK => ?_) AllReadyIn.nil
        refine step_append _ rfl (.tmp 19) (.tmp 25) 66 rfl (w.heap.size + 2) 9 i0 (.string ⟨#[]⟩) 1 16 Tryd.underlying66 hi hz0 hz1' hz2 rfl (by decide) v pre.length ((pre.map chop).map Value.string) rfl (World.ownsRow.alloc HR1.out _) ⟨w1.heap.size, 0, none⟩ 1 1 [.string (x.extract 0 m)] rfl rfl (text_news rfl) text_cells (by unfold maxLen; omega) (by omega) (by simp; omega) ?_
        intro v5 w5 hown5 hgrow5
        refine hK _ _ ?_
        clear hK K
        obtain ⟨g5, cap5, rfl⟩ := ownsRow_succ hown5
        obtain ⟨a1, a2, _, a4, a5⟩ := Boxed.appended (n₀ := w.heap.size) HV1.out (by decide) (row_more HR1.out (by omega)) (by omega) (Nat.le_refl _) (row_more hown5 (by omega)) hgrow5
        have hkeep : w5.heap[w.heap.size + 1]? = W.heap[w.heap.size + 1]? := by
          rw [hgrow5.block (w.heap.size + 1) (by simp; omega) (fun e => by have := (World.ownsRow.lt HR1.out _ e.symm).1; omega), Below.heap_alloc _ _ _ (by omega)]
          exact HBW.out.block _ (by omega)
        have HK5 := Lib.hid hkeep
        have HO5 := Lib.hid (row_other hown5 (a := ⟨w.heap.size, 0, none⟩) (by show w.heap.size < _; omega) (.slice (some ⟨g5, 0, none⟩) (pre.length + 1) cap5))
        have HA2 := Lib.hid a2
        have HA4 := Lib.hid a4
        have HA5 := Lib.hid a5
        have c5 := a1.cell
        have f5 := a1.frozen
        clear a1 a2 a4 a5 hkeep hown5 hgrow5
        refine wpAnyIn_ready (rs := [8]) (by kernel_rfl) (by simp) ?_
        refine AllReadyIn.cons (o := ⟨none, _, _, _, _, _⟩) rfl (fun K hK => ?_) AllReadyIn.nil
        go_simp
        refine hK _ _ ?_
        clear hK K
        refine wpAnyIn_done (by kernel_rfl) ?_ _
        refine ⟨(keeps_below HBW.out).trans (HA4.out.from _), ?_, ⟨⟨_, HA2.out, ?_, trivial⟩, hB.trans ((HBW.out.mono hB.size).trans HA5.out), ?_⟩⟩
        · rw [Below.heap_setCell _ _ _ _ (by show w.heap.size + 1 ≠ w.heap.size; omega)]
          exact HK5.out
        · have h := HO5.out
          rw [List.map_append, List.map_append, List.length_append]
          simp only [List.map_cons, List.map_nil, HCH.out, List.length_cons, List.length_nil]
          exact h
        · have := HA5.out.size
          have := HBW.out.size
          omega
  case done =>
    rintro D W hD ⟨⟨v, hv, hrow, _⟩, hB, hWz⟩ hK
    have hc := hv.cell
    gi_wp2
    refine ⟨by simp, .inl ⟨_, _, rfl, run_takeDeferred hK, ?_⟩⟩
    refine ⟨_, results_tmp3 rfl _ _ _, v, rfl, ?_, ?_⟩
    · have h := row_more (ownsRow_putObj hrow (.deferred none) hK rfl) (show w.heap.size ≤ w.heap.size + 2 by omega)
      rw [chop_all] at h
      unfold OwnT
      rw [List.length_map] at h ⊢
      exact h
    · exact hB.trans (belowK_b (w := w) (Nat.le_refl _) W D _ _ (by rw [hW0] at hD; omega) hK rfl rfl)

set_option maxRecDepth 100000 in
theorem lines_wrong (s : ByteArray) (w : World) (hs : s.size ≤ 1000000) (h0 : s.size ≠ 0) (he : pbeg 10 s s.size ≠ s.size) :
    Calls Tryd.prog 28 #[.string s] w fun e w' => e = .returned (.tuple #[.slice none 0 0, .int .i64 s.size, .int .i64 8]) ∧ Below w.heap.size w w' := by
  have hne := not_empty h0
  have K := fun W => suffix_any s ⟨#[10]⟩ W (by omega)
  rw [show (⟨#[10]⟩ : ByteArray).data.toList = [10] from rfl, suffix_is h0, decide_eq_false he] at K
  clear he h0
  refine (callsIn_wide (n := 3)).1 ?_
  refine callsIn_of_wp_marks Tryd.func28 rfl trivial ?_ rfl
  simp only [Tryd.ntmps28, List.size_toArray, List.length_cons, List.length_nil, Nat.reduceAdd, Nat.reduceSub, Array.replicate_succ, Array.replicate_zero, List.push_toArray, List.append_toArray, List.nil_append, List.cons_append]
  gi_wp2_with (refine ⟨trivial, ?_⟩; gi_at_call 47; refine (callsIn_wide.2 (K _)).mono ?_; rintro e w2 ⟨rfl, hw2⟩; obtain rfl := hw2.symm)
  exact ⟨_, results_tmp3 rfl _ _ _, rfl, Below.refl _ _⟩

theorem lines_any (s : ByteArray) (w : World) (hs : s.size ≤ 1000000) :
    Calls Tryd.prog 28 #[.string s] w fun e w' => ∃ v, e = .returned (.tuple #[v, .int .i64 ((linesV s).2.1 : Nat), .int .i64 (linesV s).2.2]) ∧ OwnT w.heap.size w' v (linesV s).1 ∧ Below w.heap.size w w' := by
  by_cases he : pbeg 10 s s.size = s.size
  · rw [lines_good he]
    by_cases h0 : s.size = 0
    · exact lines_none s w hs h0 he
    · exact lines_ended s w hs h0 he
  · rw [lines_bad he]
    have h0 : s.size ≠ 0 := fun h => he (by rw [h]; rfl)
    exact (lines_wrong s w hs h0 he).mono fun e w' ⟨h1, h2⟩ => ⟨_, h1, OwnT.nil _ _, h2⟩

end Go.Proofs.YtogcpoaclkomjaaDoor
