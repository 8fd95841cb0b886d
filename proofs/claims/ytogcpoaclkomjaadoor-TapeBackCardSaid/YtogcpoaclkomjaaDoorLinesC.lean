/- What Lines of layer 6 returns, for any text. Conditions: the text has at most a million bytes. -/
import Derived.Test.YtogcpoaclkomjaaDoorZ3
import Derived.Test.YtogcpoaclkomjaaDoorWordLeaf
import Derived.Maps.AppendAt
namespace Go.Proofs.YtogcpoaclkomjaaDoor
open Go.RowKit Go.Shelf

theorem seq_any (s : ByteArray) (w : World) :
    Calls Tryd.prog 48 #[.string s] w fun e w' => e = .returned (.func (.func 62) #[] #[.pointer (some ⟨w.heap.size, 0, none⟩)]) ∧ w' = w.alloc (.cells #[.string s] 9) := by
  go_enter Tryd.func48, Tryd.ntmps48
  go_wp2
  go_ret
  exact ⟨rfl, rfl⟩

theorem row_other {base sz n : Nat} {e : TypeId} {w : World} {v : Value} {cs : List Value} (h : w.ownsRow base e sz v n cs) {a : Addr} (ha : a.block < base) (u : Value) : (w.setCell a u).ownsRow base e sz v n cs := by
  refine ⟨h.1, ?_⟩
  rcases h.2 with h2 | ⟨g, cap, cur, hv, hg, hh, r⟩
  · exact Or.inl h2
  · exact Or.inr ⟨g, cap, cur, hv, hg, by rw [Below.heap_setCell w a u g (by omega)]; exact hh, r⟩

theorem box_other {W : World} {B : Nat} {t : TypeId} {v : Value} (h : Boxed W B t v) {a : Addr} (ha : B ≠ a.block) (u : Value) : Boxed (W.setCell a u) B t v := (Below.heap_setCell W a u B ha).trans h

theorem keeps_below {D : Nat} {W w1 : World} (h : Below W.heap.size W w1) : KeepsFrom D W w1 := ⟨h.size, fun k _ _ ho _ => (h.block k (Array.getElem?_eq_some_iff.1 ho).1).trans ho⟩

/-- A line without its end. -/
def chop (x : ByteArray) : ByteArray := x.extract 0 (x.size - 1)

theorem chop_ended {t : ByteArray} {s : Wd} (h : s.1 + s.2.size + 1 ≤ t.size) (h2 : t.extract s.1 (s.1 + s.2.size) = s.2) : chop (ended t s) = s.2 := by
  unfold chop ended
  have hz : (t.extract s.1 (s.1 + s.2.size + 1)).size = s.2.size + 1 := by rw [ByteArray.size_extract]; omega
  rw [hz]
  conv => rhs; rw [← h2]
  apply ba_ext
  rw [ext_list, ext_list, ext_list, List.drop_zero, List.take_drop, List.take_take]
  congr 2
  omega

/-- The lines of the text, behind i bytes: each ends ahead of them. -/
theorem piece_room (c : Int) (t : ByteArray) : ∀ i, i ≤ t.size → ∀ s ∈ pdone c t i, s.1 + s.2.size + 1 ≤ i
  | 0, _, s, hs => by simp [pdone] at hs
  | i + 1, h, s, hs => by
    have ih := piece_room c t i (by omega)
    rw [pdone] at hs
    split at hs
    · rcases List.mem_append.1 hs with h1 | h1
      · have := ih s h1
        omega
      · have hle := pbeg_le c t i
        simp only [List.mem_singleton] at h1
        subst h1
        have hsz : (t.extract (pbeg c t i) i).size = i - pbeg c t i := by rw [ByteArray.size_extract]; omega
        simp only [hsz]
        omega
    · have := ih s hs
      omega

theorem chop_all (t : ByteArray) : ((pdone 10 t t.size).map (ended t)).map chop = (pdone 10 t t.size).map (·.2) := by
  rw [List.map_map]
  refine List.map_congr_left fun s hs => ?_
  exact chop_ended (piece_room 10 t t.size (Nat.le_refl _) s hs) (piece_place 10 t t.size (Nat.le_refl _) s hs).2

/-- What stands between two rounds. -/
def LinesI (w : World) (pre : List ByteArray) (W : World) : Prop :=
  (∃ v, Boxed W w.heap.size 66 v ∧ W.ownsRow (w.heap.size + 2) 9 1 v pre.length ((pre.map chop).map Value.string) ∧ True) ∧ Below w.heap.size w W ∧ w.heap.size + 2 ≤ W.heap.size

theorem linesI_from (w : World) {D : Nat} (hD : w.heap.size ≤ D) : OwnFrom D (LinesI w) :=
  OwnFrom.and (Own.from (holdsRow_own (w.heap.size + 2) w.heap.size 66 9 1 (fun (pre : List ByteArray) => pre.length) (fun (pre : List ByteArray) => (pre.map chop).map Value.string) (fun _ _ => True)) _) (OwnFrom.and (ownFrom_below (Nat.le_refl _) hD) (fun _ _ _ _ hs hg _ => Nat.le_trans hs hg.size))

theorem linesI_set (w : World) (pre : List ByteArray) (W : World) (u : Value) (h : LinesI w pre W) : LinesI w pre (W.setCell ⟨w.heap.size + 1, 0, none⟩ u) := by
  obtain ⟨⟨v, hv, hr, _⟩, hb, hz⟩ := h
  exact ⟨⟨v, box_other hv (by show w.heap.size ≠ w.heap.size + 1; omega) u, row_other hr (by show w.heap.size + 1 < _; omega) u, trivial⟩, hb.setCell (p := ⟨w.heap.size + 1, 0, none⟩) (by show w.heap.size ≤ w.heap.size + 1; omega) u, by simpa using hz⟩

theorem linesI_drew (w : World) (pre : List ByteArray) (W : World) (h : LinesI w pre W) : LinesI w pre W.drew := by
  obtain ⟨⟨v, hv, hr, _⟩, hb, hz⟩ := h
  exact ⟨⟨v, hv, hr, trivial⟩, b_dr hb, hz⟩

set_option maxRecDepth 100000 in
set_option maxHeartbeats 4000000 in
theorem lines_ended (s : ByteArray) (w : World) (hs : s.size ≤ 1000000) (h0 : s.size ≠ 0) (he : pbeg 10 s s.size = s.size) :
    Calls Tryd.prog 28 #[.string s] w fun e w' => ∃ v, e = .returned (.tuple #[v, .int .i64 0, .int .i64 0]) ∧ OwnT w.heap.size w' v ((pdone 10 s s.size).map (·.2)) ∧ Below w.heap.size w w' := by
  obtain ⟨i0, hi, hz0, hz1', hz2⟩ := info_parts info_string
  have hne := not_empty h0
  have K := fun W => suffix_any s ⟨#[10]⟩ W (by omega)
  rw [show (⟨#[10]⟩ : ByteArray).data.toList = [10] from rfl, suffix_is h0, decide_eq_true he] at K
  have HE := Lib.hid he
  clear he
  refine (callsIn_wide (n := 3)).1 ?_
  refine callsIn_of_wp_marks Tryd.func28 rfl trivial ?_ rfl
  simp only [Tryd.ntmps28, List.size_toArray, List.length_cons, List.length_nil, Nat.reduceAdd, Nat.reduceSub, Array.replicate_succ, Array.replicate_zero, List.push_toArray, List.append_toArray, List.nil_append, List.cons_append]
  gi_wp2_with (first
    | (refine ⟨trivial, ?_⟩; gi_at_call 47; refine (callsIn_wide.2 (K _)).mono ?_; rintro e w2 ⟨rfl, hw2⟩; obtain rfl := hw2.symm)
    | (refine ⟨trivial, ?_⟩; gi_at_call 48; refine (callsIn_wide.2 (seq_any _ _)).mono ?_; rintro e w2 ⟨rfl, hw2⟩; obtain rfl := hw2.symm))
  have hb2 : Below w.heap.size w ((w.alloc (.cells #[.slice none 0 0] 66)).alloc (.cells #[.string s] 9)) := ((Below.refl _ w).alloc (Nat.le_refl _) _).alloc (by simp) _
  have bN := Boxed.new (w.alloc (.cells #[.slice none 0 0] 66)) 9 (.string s)
  rw [World.size_alloc] at bN
  have hW0 : ((w.alloc (.cells #[.slice none 0 0] 66)).alloc (.cells #[.string s] 9)).heap.size = w.heap.size + 2 := by simp
  refine range_text (by omega) (gf := 62) (lb := #[.pointer (some ⟨w.heap.size + 1, 0, none⟩)]) rfl (enters_of Tryd.func62 (by kernel_rfl) rfl) (w.heap.size + 1) (by rw [hW0]; omega) 9 s rfl ((pdone 10 s s.size).map (ended s))
    (fun l J hY hset hdrew W hB hJ => iter_in (3 - 1) (by omega) l (w.heap.size + 1) s hs HE.out J hY hset hdrew W hB hJ) bN (LinesI w) (linesI_from w (by rw [hW0]; omega)) (linesI_set w) (linesI_drew w)
    ⟨⟨_, (Boxed.new w 66 (.slice none 0 0)).alloc _, World.ownsRow_nil _ _ _ _, trivial⟩, hb2, by rw [hW0]; omega⟩
    (fun x => { tmps := #[.string s, undef, .slice none 0 0, .int .i64 0, .int .i64 0, .pointer (some ⟨w.heap.size, 0, none⟩), .string x, .string s, .bool true, .bool true, .string s, .bool true, .bool false, .bool false, undef, undef, .string s, .func (.func 62) #[] #[.pointer (some ⟨w.heap.size + 1, 0, none⟩)], .string x, undef, undef, undef, undef, undef, undef, undef, undef, undef], defers := [] }) ?assign ?body ?done
  case assign =>
    intro l x W K hK
    gi_wp2
    rw [Oper.semAt_some _ _ _ (by intro c h; cases h)]
    go_simp
    gi_wp2
    exact hK
  case body =>
    rintro l pre x W ⟨⟨v, hv, hrow, _⟩, hB, hWz⟩ x1 x2 x3
    rw [hW0]
    obtain ⟨m, hm⟩ : ∃ m, x.size = m + 1 := ⟨x.size - 1, by omega⟩
    have hchop : chop x = x.extract 0 m := by unfold chop; rw [hm]; rfl
    have hm1 : (x.size : Int) - 1 = (m : Int) := by omega
    have zm : IntKind.i64.wrap ((x.size : Int) - 1) = (m : Int) := by rw [hm1]; exact wrap_of (by omega) (by omega)
    have zm2 : IntKind.i64.wrap (m : Int) = (m : Int) := wrap_of (by omega) (by omega)
    have KP := fun W => piece_any x 0 m W (by omega) (by omega) (by omega)
    have hc := hv.cell
    have hvl := hv.lt
    have HCH := Lib.hid hchop
    clear hchop
    have HV := Lib.hid hv
    have HROW := Lib.hid hrow
    have hzB := hB.size
    clear hv hrow
    gi_wp2
    refine wpIn_region_any (F := Fence.wide.inRound l) (by kernel_rfl) (any_round rfl ?nodefer _ _ _ _ ?_)
    case nodefer =>
      intro i o c' ho
      match i, ho with
      | 0, ho => simp at ho; subst ho; simp
      | 1, ho => simp at ho; subst ho; simp
      | 2, ho => simp at ho; subst ho; simp
      | 3, ho => simp at ho; subst ho; simp
      | 4, ho => simp at ho; subst ho; simp
      | 5, ho => simp at ho; subst ho; simp
      | 6, ho => simp at ho; subst ho; simp
      | 7, ho => simp at ho; subst ho; simp
      | 8, ho => simp at ho; subst ho; simp
      | i + 9, ho => simp at ho
    refine wpAnyIn_take (i := 1) (oi := ⟨some 20, _, _, _, _, _⟩) (v := .string x) rfl rfl (by kernel_rfl) (by kernel_rfl) (by kernel_rfl) (fun _ _ _ h => h) ⟨Or.inl ⟨by rfl, ?_⟩, fun _ => rfl⟩ ?_
    · intro w'
      go_simp
    (try simp only [Act.put, List.setIfInBounds_toArray, List.set_cons_zero, List.set_cons_succ])
    refine wpAnyIn_take (i := 2) (oi := ⟨some 21, _, _, _, _, _⟩) (v := .string x) rfl rfl (by kernel_rfl) (by kernel_rfl) (by kernel_rfl) (fun _ _ _ h => h) ⟨Or.inl ⟨by rfl, ?_⟩, fun _ => rfl⟩ ?_
    · intro w'
      go_simp
    (try simp only [Act.put, List.setIfInBounds_toArray, List.set_cons_zero, List.set_cons_succ])
    refine wpAnyIn_take (i := 3) (oi := ⟨some 22, _, _, _, _, _⟩) (v := .int .i64 x.size) rfl rfl (by kernel_rfl) (by kernel_rfl) (by kernel_rfl) (fun _ _ _ h => h) ⟨Or.inl ⟨by rfl, ?_⟩, fun _ => rfl⟩ ?_
    · intro w'
      go_simp
    (try simp only [Act.put, List.setIfInBounds_toArray, List.set_cons_zero, List.set_cons_succ])
    refine wpAnyIn_take (i := 4) (oi := ⟨some 23, _, _, _, _, _⟩) (v := .int .i64 m) rfl rfl (by kernel_rfl) (by kernel_rfl) (by kernel_rfl) (fun _ _ _ h => h) ⟨Or.inl ⟨by rfl, ?_⟩, fun _ => rfl⟩ ?_
    · intro w'
      go_simp
    (try simp only [Act.put, List.setIfInBounds_toArray, List.set_cons_zero, List.set_cons_succ])
    refine wpAnyIn_ready (rs := [0, 5]) (by kernel_rfl) (by simp) ?_
    refine AllReadyIn.cons (o := ⟨some 19, _, _, _, _, _⟩) rfl (fun K hK => ?_) (AllReadyIn.cons (o := ⟨some 24, _, _, _, _, _⟩) rfl (fun K hK => ?_) AllReadyIn.nil)
    · go_simp
      refine hK _ _ ?_
      clear hK K
      refine wpAnyIn_ready (rs := [5]) (by kernel_rfl) (by simp) ?_
      refine AllReadyIn.cons (o := ⟨some 24, _, _, _, _, _⟩) rfl (fun K hK => ?_) AllReadyIn.nil
      go_simp
      gi_wp2_with (first | (gi_at_call 40; refine (callsIn_wide.2 (KP _)).mono ?_; rintro e w1 ⟨rfl, hb1⟩) | (refine ⟨trivial, ?_⟩; gi_at_call 40; refine (callsIn_wide.2 (KP _)).mono ?_; rintro e w1 ⟨rfl, hb1⟩))
      have hbw : Below W.heap.size W w1 := ⟨hb1.os, hb1.tape, hb1.output, hb1.size, hb1.block⟩
      have hv1 : Boxed w1 w.heap.size 66 v := (hbw.block _ HV.out.lt).trans HV.out
      have hc1 := hv1.cell
      have HV1 := Lib.hid hv1
      have HR1 := Lib.hid (row_below HROW.out hbw)
      have hz1 := hbw.size
      have hlt1 : w.heap.size < w1.heap.size := by omega
      have HBW := Lib.hid hbw
      clear hb1 hbw hv1
      refine wpAnyIn_ready (rs := [6]) (by kernel_rfl) (by simp) ?_
      refine AllReadyIn.cons (o := ⟨some 25, _, _, _, _, _⟩) rfl (fun K hK => ?_) AllReadyIn.nil
      go_simp
      refine hK _ _ ?_
      clear hK K
      refine wpAnyIn_ready (rs := [7]) (by kernel_rfl) (by simp) ?_
      refine AllReadyIn.cons (o := ⟨some 26, _, _, _, _, _⟩) rfl (fun K hK => ?_) AllReadyIn.nil
      refine step_append _ rfl (.tmp 19) (.tmp 25) 66 rfl (w.heap.size + 2) 9 i0 (.string ⟨#[]⟩) 1 16 Tryd.underlying66 hi hz0 hz1' hz2 rfl (by decide) v pre.length ((pre.map chop).map Value.string) rfl (World.ownsRow.alloc HR1.out _) ⟨w1.heap.size, 0, none⟩ 1 1 [.string (x.extract 0 m)] rfl rfl (text_news rfl) text_cells (by unfold maxLen; omega) (by omega) (by simp; omega) ?_
      intro v5 w5 hown5 hgrow5
      refine hK _ _ ?_
      clear hK K
      obtain ⟨g5, cap5, rfl⟩ := ownsRow_succ hown5
      obtain ⟨a1, a2, _, a4, a5⟩ := Boxed.appended (n₀ := w.heap.size) HV1.out (by decide) (row_more HR1.out (by omega)) (by omega) (Nat.le_refl _) (row_more hown5 (by omega)) hgrow5
      have hkeep : w5.heap[w.heap.size + 1]? = W.heap[w.heap.size + 1]? := by
        rw [hgrow5.block (w.heap.size + 1) (by simp; omega) (fun e => by have := (World.ownsRow.lt HR1.out _ e.symm).1; omega), Below.heap_alloc _ _ _ (by omega)]
        exact HBW.out.block _ (by omega)
      have HK5 := Lib.hid hkeep
      have HO5 := Lib.hid (row_other hown5 (a := ⟨w.heap.size, 0, none⟩) (by show w.heap.size < _; omega) (.slice (some ⟨g5, 0, none⟩) (pre.length + 1) cap5))
      have HA2 := Lib.hid a2
      have HA4 := Lib.hid a4
      have HA5 := Lib.hid a5
      have c5 := a1.cell
      have f5 := a1.frozen
      clear a1 a2 a4 a5 hkeep hown5 hgrow5
      refine wpAnyIn_ready (rs := [8]) (by kernel_rfl) (by simp) ?_
      refine AllReadyIn.cons (o := ⟨none, _, _, _, _, _⟩) rfl (fun K hK => ?_) AllReadyIn.nil
      go_simp
      refine hK _ _ ?_
      clear hK K
      refine wpAnyIn_done (by kernel_rfl) ?_ _
      refine ⟨(keeps_below HBW.out).trans (HA4.out.from _), ?_, ⟨⟨_, HA2.out, ?_, trivial⟩, hB.trans ((HBW.out.mono hB.size).trans HA5.out), ?_⟩⟩
      · rw [Below.heap_setCell _ _ _ _ (by show w.heap.size + 1 ≠ w.heap.size; omega)]
        exact HK5.out
      · have h := HO5.out
        rw [List.map_append, List.map_append, List.length_append]
        simp only [List.map_cons, List.map_nil, HCH.out, List.length_cons, List.length_nil]
        exact h
      · have := HA5.out.size
        have := HBW.out.size
        omega
    · go_simp
      gi_wp2_with (first | (gi_at_call 40; refine (callsIn_wide.2 (KP _)).mono ?_; rintro e w1 ⟨rfl, hb1⟩) | (refine ⟨trivial, ?_⟩; gi_at_call 40; refine (callsIn_wide.2 (KP _)).mono ?_; rintro e w1 ⟨rfl, hb1⟩))
      have hbw : Below W.heap.size W w1 := ⟨hb1.os, hb1.tape, hb1.output, hb1.size, hb1.block⟩
      have hv1 : Boxed w1 w.heap.size 66 v := (hbw.block _ HV.out.lt).trans HV.out
      have hc1 := hv1.cell
      have HV1 := Lib.hid hv1
      have HR1 := Lib.hid (row_below HROW.out hbw)
      have hz1 := hbw.size
      have hlt1 : w.heap.size < w1.heap.size := by omega
      have HBW := Lib.hid hbw
      clear hb1 hbw hv1
      refine wpAnyIn_ready (rs := [0, 6]) (by kernel_rfl) (by simp) ?_
      refine AllReadyIn.cons (o := ⟨some 19, _, _, _, _, _⟩) rfl (fun K hK => ?_) (AllReadyIn.cons (o := ⟨some 25, _, _, _, _, _⟩) rfl (fun K hK => ?_) AllReadyIn.nil)
      · go_simp
        refine hK _ _ ?_
        clear hK K
        refine wpAnyIn_ready (rs := [6]) (by kernel_rfl) (by simp) ?_
        refine AllReadyIn.cons (o := ⟨some 25, _, _, _, _, _⟩) rfl (fun K hK => ?_) AllReadyIn.nil
        go_simp
        refine hK _ _ ?_
        clear hK K
        refine wpAnyIn_ready (rs := [7]) (by kernel_rfl) (by simp) ?_
        refine AllReadyIn.cons (o := ⟨some 26, _, _, _, _, _⟩) rfl (fun K hK => ?_) AllReadyIn.nil
        refine step_append _ rfl (.tmp 19) (.tmp 25) 66 rfl (w.heap.size + 2) 9 i0 (.string ⟨#[]⟩) 1 16 Tryd.underlying66 hi hz0 hz1' hz2 rfl (by decide) v pre.length ((pre.map chop).map Value.string) rfl (World.ownsRow.alloc HR1.out _) ⟨w1.heap.size, 0, none⟩ 1 1 [.string (x.extract 0 m)] rfl rfl (text_news rfl) text_cells (by unfold maxLen; omega) (by omega) (by simp; omega) ?_
        intro v5 w5 hown5 hgrow5
        refine hK _ _ ?_
        clear hK K
        obtain ⟨g5, cap5, rfl⟩ := ownsRow_succ hown5
        obtain ⟨a1, a2, _, a4, a5⟩ := Boxed.appended (n₀ := w.heap.size) HV1.out (by decide) (row_more HR1.out (by omega)) (by omega) (Nat.le_refl _) (row_more hown5 (by omega)) hgrow5
        have hkeep : w5.heap[w.heap.size + 1]? = W.heap[w.heap.size + 1]? := by
          rw [hgrow5.block (w.heap.size + 1) (by simp; omega) (fun e => by have := (World.ownsRow.lt HR1.out _ e.symm).1; omega), Below.heap_alloc _ _ _ (by omega)]
          exact HBW.out.block _ (by omega)
        have HK5 := Lib.hid hkeep
        have HO5 := Lib.hid (row_other hown5 (a := ⟨w.heap.size, 0, none⟩) (by show w.heap.size < _; omega) (.slice (some ⟨g5, 0, none⟩) (pre.length + 1) cap5))
        have HA2 := Lib.hid a2
        have HA4 := Lib.hid a4
        have HA5 := Lib.hid a5
        have c5 := a1.cell
        have f5 := a1.frozen
        clear a1 a2 a4 a5 hkeep hown5 hgrow5
        refine wpAnyIn_ready (rs := [8]) (by kernel_rfl) (by simp) ?_
        refine AllReadyIn.cons (o := ⟨none, _, _, _, _, _⟩) rfl (fun K hK => ?_) AllReadyIn.nil
        go_simp
        refine hK _ _ ?_
        clear hK K
        refine wpAnyIn_done (by kernel_rfl) ?_ _
        refine ⟨(keeps_below HBW.out).trans (HA4.out.from _), ?_, ⟨⟨_, HA2.out, ?_, trivial⟩, hB.trans ((HBW.out.mono hB.size).trans HA5.out), ?_⟩⟩
        · rw [Below.heap_setCell _ _ _ _ (by show w.heap.size + 1 ≠ w.heap.size; omega)]
          exact HK5.out
        · have h := HO5.out
          rw [List.map_append, List.map_append, List.length_append]
          simp only [List.map_cons, List.map_nil, HCH.out, List.length_cons, List.length_nil]
          exact h
        · have := HA5.out.size
          have := HBW.out.size
          omega
      · go_simp
        refine hK _ _ ?_
        clear hK K
        refine wpAnyIn_ready (rs := [0]) (by kernel_rfl) (by simp) ?_
        refine AllReadyIn.cons (o := ⟨some 19, _, _, _, _, _⟩) rfl (fun K hK => ?_) AllReadyIn.nil
        go_simp
        refine hK _ _ ?_
        clear hK K
        refine wpAnyIn_ready (rs := [7]) (by kernel_rfl) (by simp) ?_
        refine AllReadyIn.cons (o := ⟨some 26, _, _, _, _, _⟩) rfl (fun K hK => ?_) AllReadyIn.nil
        refine step_append _ rfl (.tmp 19) (.tmp 25) 66 rfl (w.heap.size + 2) 9 i0 (.string ⟨#[]⟩) 1 16 Tryd.underlying66 hi hz0 hz1' hz2 rfl (by decide) v pre.length ((pre.map chop).map Value.string) rfl (World.ownsRow.alloc HR1.out _) ⟨w1.heap.size, 0, none⟩ 1 1 [.string (x.extract 0 m)] rfl rfl (text_news rfl) text_cells (by unfold maxLen; omega) (by omega) (by simp; omega) ?_
        intro v5 w5 hown5 hgrow5
        refine hK _ _ ?_
        clear hK K
        obtain ⟨g5, cap5, rfl⟩ := ownsRow_succ hown5
        obtain ⟨a1, a2, _, a4, a5⟩ := Boxed.appended (n₀ := w.heap.size) HV1.out (by decide) (row_more HR1.out (by omega)) (by omega) (Nat.le_refl _) (row_more hown5 (by omega)) hgrow5
        have hkeep : w5.heap[w.heap.size + 1]? = W.heap[w.heap.size + 1]? := by
          rw [hgrow5.block (w.heap.size + 1) (by simp; omega) (fun e => by have := (World.ownsRow.lt HR1.out _ e.symm).1; omega), Below.heap_alloc _ _ _ (by omega)]
          exact HBW.out.block _ (by omega)
        have HK5 := Lib.hid hkeep
        have HO5 := Lib.hid (row_other hown5 (a := ⟨w.heap.size, 0, none⟩) (by show w.heap.size < _; omega) (.slice (some ⟨g5, 0, none⟩) (pre.length + 1) cap5))
        have HA2 := Lib.hid a2
        have HA4 := Lib.hid a4
        have HA5 := Lib.hid a5
        have c5 := a1.cell
        have f5 := a1.frozen
        clear a1 a2 a4 a5 hkeep hown5 hgrow5
        refine wpAnyIn_ready (rs := [8]) (by kernel_rfl) (by simp) ?_
        refine AllReadyIn.cons (o := ⟨none, _, _, _, _, _⟩) rfl (fun K hK => ?_) AllReadyIn.nil
        go_simp
        refine hK _ _ ?_
        clear hK K
        refine wpAnyIn_done (by kernel_rfl) ?_ _
        refine ⟨(keeps_below HBW.out).trans (HA4.out.from _), ?_, ⟨⟨_, HA2.out, ?_, trivial⟩, hB.trans ((HBW.out.mono hB.size).trans HA5.out), ?_⟩⟩
        · rw [Below.heap_setCell _ _ _ _ (by show w.heap.size + 1 ≠ w.heap.size; omega)]
          exact HK5.out
        · have h := HO5.out
          rw [List.map_append, List.map_append, List.length_append]
          simp only [List.map_cons, List.map_nil, HCH.out, List.length_cons, List.length_nil]
          exact h
        · have := HA5.out.size
          have := HBW.out.size
          omega
  case done =>
    rintro D W hD ⟨⟨v, hv, hrow, _⟩, hB, hWz⟩ hK
    have hc := hv.cell
    gi_wp2
    refine ⟨by simp, .inl ⟨_, _, rfl, run_takeDeferred hK, ?_⟩⟩
    refine ⟨_, results_tmp3 rfl _ _ _, v, rfl, ?_, ?_⟩
    · have h := row_more (ownsRow_putObj hrow (.deferred none) hK rfl) (show w.heap.size ≤ w.heap.size + 2 by omega)
      rw [chop_all] at h
      unfold OwnT
      rw [List.length_map] at h ⊢
      exact h
    · exact hB.trans (belowK_b (w := w) (Nat.le_refl _) W D _ _ (by rw [hW0] at hD; omega) hK rfl rfl)

end Go.Proofs.YtogcpoaclkomjaaDoor
