/- What Of of layer 9 returns: the view of a timeline, or Check's error. Conditions: the records can be read; at most a million. -/
import Derived.Test.YtllinfcdbbmjaaaViewIt
import Derived.Test.YtllinfcdbbmjaaaRound
import Derived.Test.YtllinfcdbbmjaaaRecSmall
import Derived.Test.YtllinfcdbbmjaaaRecSpan
import Derived.Laws.BytesArg
import Derived.Maps.AppendAt
namespace Go.Proofs.Ytllinfcdbbmjaaa
open Go.RowKit Go.Shelf

theorem info_byte : (Try.prog.info? 5).map (fun i => (i.zero, i.size, i.bytes)) = some (some (.int .u8 0), 1, 1) := by kernel_rfl

/-- An append to a boxed row of bytes leaves records alone. -/
theorem KeepR.appended {W w1 : World} {n₀ B k m : Nat} {t e : TypeId} {v v' : Value} {xs : List Value} {tmp : Obj} (hv : Boxed W B t v) (ht : t ≠ 50 ∧ t ≠ 22) (hrow : W.ownsRow n₀ e m v k xs) (he : e ≠ 50 ∧ e ≠ 22) (hte : t ≠ e)
    (hgrow : (W.alloc tmp).grownBy w1 v.ownBlock) : KeepR W (w1.setCell ⟨B, 0, none⟩ v') := by
  have hv1 : Boxed w1 B t v := (hv.alloc tmp).kept hgrow (hv.not_row hte hrow)
  refine ((KeepR.below ((Below.refl _ W).alloc (Nat.le_refl _) tmp)).trans (KeepR.grown hgrow fun r hr => ?_)).trans (KeepR.grown (grownBy_setCell' w1 B v') fun r hr => ?_)
  · rcases (hrow.alloc tmp).2 with ⟨rfl, _⟩ | ⟨g, cap, cur, rfl, _, hgb, _⟩
    · simp [Value.ownBlock] at hr
    · obtain rfl : g = r := by simpa [Value.ownBlock] using hr
      exact ⟨_, _, _, hgb, he.1, he.2⟩
  · cases hr
    exact ⟨_, _, _, hv1, ht.1, ht.2⟩

theorem span_ok {l : List Rc} (h : (checkV l).2 = 0) : (spanTV l).1 = beg l ∧ 0 ≤ (spanTV l).2.1 - (spanTV l).1 ∧ (spanTV l).2.1 - (spanTV l).1 ≤ 40320 ∧ 0 ≤ (spanTV l).1 ∧ (spanTV l).2.1 ≤ 40320 := by
  unfold spanTV
  cases l with
  | nil => simp [beg]
  | cons r l =>
    rw [if_pos ⟨h, by simp⟩]
    have := (check_tl h).len (by simp)
    refine ⟨rfl, ?_⟩
    simp only
    omega

theorem numb_mem {ks : List Int} {e : Int} {p : Int × Int} (h : p ∈ numb e ks) : p.2 ∈ ks := by
  have := List.mem_map_of_mem (f := fun q : Int × Int => q.2) h
  rwa [show List.map (fun q : Int × Int => q.2) (numb e ks) = ks from numb_snd ks e] at this

theorem byte_news {w : World} {n : Nat} (hn : n = w.heap.size) {x : Int} {t : TypeId} : ∀ j u, ([.int .u8 x] : List Value)[j]? = some u → (w.alloc (.cells #[.int .u8 x] t)).cell? ((⟨n, 0, none⟩ : Addr).add j) = some u := by
  intro j u hj
  subst hn
  match j, hj with
  | 0, hj => simp at hj; subst hj; simp [Addr.add]
  | j + 1, hj => simp at hj

theorem byte_cells {x : Int} : ∀ u ∈ ([.int .u8 x] : List Value), u.oneCell' = true := by
  intro u hu
  simp at hu
  subst hu
  rfl

def letK (x : Kd) : Int := ltN x.1.2

theorem text_letK (L : List Kd) : strOfNums (L.map letK) = textV (L.map fun x => x.1.2) := by
  unfold strOfNums textV
  rw [List.map_map, List.map_map]
  rfl

/-- A row of bytes of the call's own as a text. -/
theorem row_text {base k : Nat} {W : World} {v : Value} {ns : List Int} (h : W.ownsRow base 5 1 v k (ns.map (Value.int .u8))) : (convert 57 9 v).run Try.prog W = .ok (.string (strOfNums ns)) W := by
  have h0 := h
  have hk : ns.length = k := by have := h.1; simpa using this
  rcases h.2 with ⟨rfl, hn⟩ | ⟨g, cap, cur, rfl, hb, hg, h1, h2, h3, h4⟩
  · subst hn
    obtain rfl : ns = [] := List.eq_nil_of_length_eq_zero hk
    exact run_convert_bytes_nil W 57 5 Try.underlying57 Try.underlying5 0 0 9 Try.underlying9
  · refine run_convert_bytes_arg W 57 5 Try.underlying57 Try.underlying5 g 0 k cap ns hk (fun i hi => ?_) 9 Try.underlying9
    rw [Nat.zero_add, World.ownsRow.cellAt h0 i (by omega)]
    rw [List.getElem?_map, List.getD_eq_getElem?_getD, List.getElem?_eq_getElem (by omega)]
    rfl

set_option maxRecDepth 100000 in
set_option maxHeartbeats 4000000 in
theorem of9_ok (A : Option Addr) (c : Nat) (l : List Rc) (w : World) (h : RdR w A l) (hl : l.length ≤ 1000000) (h0 : (checkV l).2 = 0) :
    Calls Try.prog 9 #[.slice A l.length c] w fun e w' => e = .returned (.tuple #[.int .i64 (viewV l).1, .string (viewV l).2.1, .int .i64 (viewV l).2.2]) ∧ Below w.heap.size w w' := by
  obtain ⟨i0, hi, hz0, hz1, hz2⟩ := info_parts info_byte
  have CK := fun W (hr : RdR W A l) => rcheck_any A c l W hr (by omega)
  rw [tl_check (check_tl h0)] at CK
  have SP := fun W (hr : RdR W A l) => spant_any A c l.length l W (Lib.hid rfl) hr (by omega)
  have EC := fun W (hr : RdR W A l) => each9_any A c l W hr hl
  obtain ⟨s1, s2, s3, s4, s5⟩ := span_ok h0
  rw [view_ok h0, ← s1]
  have HR := Lib.hid h
  have HE := Lib.hid (each_is (check_tl h0))
  have HN := Lib.hid (norm_tl (check_tl h0))
  have HNK := Lib.hid (nrm_ok (check_tl h0))
  have HNL := Lib.hid (norm_len l)
  obtain ⟨a, ha⟩ : ∃ a, (spanTV l).1 = a := ⟨_, rfl⟩
  obtain ⟨b, hb⟩ : ∃ b, (spanTV l).2.1 = b := ⟨_, rfl⟩
  obtain ⟨g, hg⟩ : ∃ g, (spanTV l).2.2 = g := ⟨_, rfl⟩
  rw [ha, hb, hg] at SP
  rw [ha, hb] at s2 s3
  rw [ha] at s4
  rw [hb] at s5
  rw [ha]
  obtain ⟨m, hm⟩ : ∃ m : Nat, b - a = (m : Int) := ⟨(b - a).toNat, by omega⟩
  have hmb : m ≤ 40320 := by omega
  have HM := Lib.hid hm
  have HC0 := Lib.hid h0
  clear ha hb hg h h0 s1 s2 s3
  refine (callsIn_wide (n := 3)).1 ?_
  refine callsIn_of_wp_marks Try.func9 rfl trivial ?_ rfl
  simp only [Try.ntmps9, List.size_toArray, List.length_cons, List.length_nil, Nat.reduceAdd, Nat.reduceSub, Array.replicate_succ, Array.replicate_zero, List.push_toArray, List.append_toArray, List.nil_append, List.cons_append]
  gi_wp2_with (first
    | (refine ⟨trivial, ?_⟩; gi_at_call 25; refine (callsIn_wide.2 (CK _ HR.out)).mono ?_; rintro e w1 ⟨rfl, hb1⟩; have HB1 := Lib.hid hb1; have HR1 := Lib.hid (HR.out.below hb1); clear hb1)
    | (refine ⟨trivial, ?_⟩; gi_at_call 26; refine (callsIn_wide.2 (SP _ HR1.out)).mono ?_; rintro e w2 ⟨rfl, hb2⟩; have HB2 := Lib.hid (b_tr HB1.out hb2); have HR2 := Lib.hid (HR1.out.below hb2); clear hb2)
    | (gi_at_make; refine wpListIn_make_own _ rfl _ _ 57 rfl (w2.heap.size + 1) 5 i0 (.int .u8 0) 1 Try.underlying57 hi hz0 hz1 .i64 .i64 _ m rfl rfl (by first | rfl | exact hm) (by rw [hz2]; omega) (by unfold maxLen; omega) (by simp) ?_; intro w4 hown4 hgrow4; have HO4 := Lib.hid hown4; have HG4 := Lib.hid hgrow4; clear hown4 hgrow4)
    | (refine ⟨trivial, ?_⟩; gi_at_call 23; refine (callsIn_wide.2 (EC _ ((HR2.out.below ((Below.refl _ _).alloc (Nat.le_refl _) (.cells #[.int .i64 a, .int .i64 b] 54))).below (b_tr ((Below.refl _ _).grown HG4.out (Nat.le_refl _) (fun k e => by cases e)) ((Below.refl _ _).alloc (Nat.le_refl _) (.cells #[.slice (some ⟨w2.heap.size + 1, 0, none⟩) 0 m] 57)))))).mono ?_; rintro e w6 ⟨B3, v3, rfl, hge3, hbx3, ho3, hb6⟩; have HGE := Lib.hid hge3; have HBX := Lib.hid hbx3; have HO6 := Lib.hid ho3; have HB6 := Lib.hid hb6; clear hge3 hbx3 ho3 hb6))
  have HB4 := Lib.hid (show Below w2.heap.size w2 (w4.alloc (.cells #[.slice (some ⟨w2.heap.size + 1, 0, none⟩) 0 m] 57)) from ((((Below.refl _ w2).alloc (Nat.le_refl _) (.cells #[.int .i64 a, .int .i64 b] 54)).grown HG4.out (by simp) (fun k e => by cases e)).alloc (by have := HG4.out.size; simp at this; omega) _))
  have hz4 : w2.heap.size + 1 ≤ w4.heap.size := by have := HG4.out.size; simpa using this
  have hz6 : w4.heap.size + 1 ≤ w6.heap.size := by have := HB6.out.size; simpa using this
  have B7 : Hid (w6.heap[w2.heap.size]? = some (.cells #[.int .i64 a, .int .i64 b] 54 (0, 0))) := Lib.hid (by
    rw [HB6.out.block _ (by simp; omega), Below.heap_alloc _ _ _ (by omega), HG4.out.block _ (by simp) (by simp)]
    exact World.alloc_heap_new w2 _)
  have B9 : Hid (Boxed w6 w4.heap.size 57 (.slice (some ⟨w2.heap.size + 1, 0, none⟩) 0 m)) := Lib.hid ((HB6.out.block _ (by simp)).trans (Boxed.new w4 57 _))
  have R6 : Hid (w6.ownsRow (w2.heap.size + 1) 5 1 (.slice (some ⟨w2.heap.size + 1, 0, none⟩) 0 m) 0 []) := Lib.hid (row_below (World.ownsRow.alloc (by have := HO4.out; rw [World.size_alloc] at this; exact this) _) HB6.out)
  have BW : Hid (Below w.heap.size w w6) := Lib.hid (HB2.out.trans ((HB4.out.trans (HB6.out.mono HB4.out.size)).mono HB2.out.size))
  obtain ⟨L, hL⟩ := kd_exist (minsV (nrmV l)) (fun p hp => by rw [HE.out] at hp; exact (check_tl HC0.out).kinds _ (numb_mem hp))
  have HL := Lib.hid hL
  have hLL : L.length ≤ 40320 := by
    have h1 : (L.map (·.1)).length = (kindsV l).length := by rw [hL, HE.out, numb_len]
    rw [List.length_map] at h1
    rw [h1]
    exact (check_tl HC0.out).short
  refine wpIn_rangeFunc_ownF rfl (by omega) (gf := 32) (lb := #[.pointer (some ⟨B3, 0, none⟩)]) rfl trivial (enters_of Try.func32 (by kernel_rfl) rfl)
    (each_stops (3 - 1) (by omega) B3 v3 (nrmV l) L w6 HBX.out (HO6.out.more (Nat.zero_le _)) hL (by rw [HNK.out]; exact Nat.le_trans HNL.out hl) (fun j hj => by rw [HNK.out] at hj ⊢; have := HN.out.1.at_ j hj; omega))
    (fun h k => KeepR.trans h k) (fun W l o o' _ hl ho _ => KeepR.turn W l o o' hl ho) (Below.refl _ _) (fun _ => rfl)
    (fun pre W => (∃ v, Boxed W w4.heap.size 57 v ∧ W.ownsRow (w2.heap.size + 1) 5 1 v pre.length ((pre.map letK).map (Value.int .u8)) ∧ True) ∧ Below (w2.heap.size + 1) w6 W)
    (fun _ _ _ => False)
    (OwnFrom.and (Own.from (holdsRow_own (w2.heap.size + 1) w4.heap.size 57 5 1 (fun (pre : List Kd) => pre.length) (fun (pre : List Kd) => (pre.map letK).map (Value.int .u8)) (fun _ _ => True)) _) (ownFrom_below (by omega) (by omega)))
    (fun _ _ _ _ _ hs _ _ => hs) ⟨⟨_, B9.out, R6.out, trivial⟩, Below.refl _ _⟩ (fun x => { tmps := #[.slice A l.length c, undef, .int .i64 0, .string { data := #[] }, .int .i64 0, .int .i64 0, .int .i64 0, .pointer (some ⟨w2.heap.size, 0, none⟩), .bool g, .pointer (some ⟨w4.heap.size, 0, none⟩), undef, .int .i64 x.1.2, .tuple #[.int .i64 0, .int .i64 0], .slice A l.length c, .tuple #[.int .i64 0, .int .i64 0], .int .i64 0, .int .i64 0, .int .i64 0, .bool false, undef, .tuple #[.agg #[.int .i64 a, .int .i64 b], .bool g], .slice A l.length c, .tuple #[.agg #[.int .i64 a, .int .i64 b], .bool g], .agg #[.int .i64 a, .int .i64 b], .bool g, .pointer (some ⟨w2.heap.size, 1, none⟩), .int .i64 b, .pointer (some ⟨w2.heap.size, 0, none⟩), .int .i64 a, .int .i64 (m : Nat), .slice (some ⟨w2.heap.size + 1, 0, none⟩) 0 m, .slice A l.length c, .func (.func 32) #[] #[.pointer (some ⟨B3, 0, none⟩)], .int .i64 x.1.1, .int .i64 x.1.2, undef, undef, undef, undef, undef, undef, undef, undef, undef], defers := [] }) ?assign ?body ?done ?stop
  case assign =>
    intro lp x W K hK
    simp only [encK]
    gi_wp2
    rw [Oper.semAt_some _ _ _ (by intro c h; cases h)]
    go_simp
    gi_wp2
    exact hK
  case body =>
    rintro lp pre ⟨⟨mm, k⟩, hk0, hk1⟩ W ⟨⟨v, hv, hrow, _⟩, hB⟩ hlen
    simp only at hk0 hk1
    replace hv : Boxed W.drew w4.heap.size 57 v := hv
    replace hrow : W.drew.ownsRow (w2.heap.size + 1) 5 1 v pre.length ((pre.map letK).map (Value.int .u8)) := hrow
    have hc := hv.cell
    have hf := hv.frozen
    have hvl := hv.lt
    have HV := Lib.hid hv
    have HROW := Lib.hid hrow
    have hzB := hB.size
    have HK := Lib.hid (show k = 0 ∨ k = 1 ∨ k = 2 ∨ k = 3 by omega)
    have HP := Lib.hid (show ((pre ++ [(⟨(mm, k), hk0, hk1⟩ : Kd)]).map letK).map (Value.int .u8) = (pre.map letK).map (Value.int .u8) ++ [.int .u8 (ltN k)] by rw [List.map_append, List.map_append]; rfl)
    have HPL := Lib.hid (show (pre ++ [(⟨(mm, k), hk0, hk1⟩ : Kd)]).length = pre.length + 1 by simp)
    clear hv hrow
    gi_wp2
    clear hc hf
    have hc := HV.out.cell
    refine wpIn_region_any (F := Fence.wide.inRound lp) (by kernel_rfl) (any_round rfl ?nodefer _ _ _ _ ?_)
    case nodefer =>
      intro i o c' ho
      match i, ho with
      | 0, ho => simp at ho; subst ho; simp
      | 1, ho => simp at ho; subst ho; simp
      | 2, ho => simp at ho; subst ho; simp
      | 3, ho => simp at ho; subst ho; simp
      | 4, ho => simp at ho; subst ho; simp
      | 5, ho => simp at ho; subst ho; simp
      | i + 6, ho => simp at ho
    refine wpAnyIn_take (i := 1) (oi := ⟨some 36, _, _, _, _, _⟩) (v := .int .i64 k) rfl rfl (by kernel_rfl) (by kernel_rfl) (by kernel_rfl) (fun _ _ _ h => h) ⟨Or.inl ⟨by rfl, ?_⟩, fun _ => rfl⟩ ?_
    · intro w'
      go_simp
    (try simp only [Act.put, List.setIfInBounds_toArray, List.set_cons_zero, List.set_cons_succ])
    refine wpAnyIn_take (i := 2) (oi := ⟨some 37, _, _, _, _, _⟩) (v := .int .u8 (ltN k)) rfl rfl (by kernel_rfl) (by kernel_rfl) (by kernel_rfl) (fun _ _ _ h => h) ⟨Or.inl ⟨by rfl, ?_⟩, fun _ => rfl⟩ ?_
    · intro w'
      rcases HK.out with rfl | rfl | rfl | rfl
      all_goals
        go_simp
        try rfl
    (try simp only [Act.put, List.setIfInBounds_toArray, List.set_cons_zero, List.set_cons_succ])
    generalize ltN k = b8 at HP ⊢
    have FIN : ∀ (w5 : World) (v5 : Value), w5.ownsRow (w2.heap.size + 1) 5 1 v5 (pre.length + 1) ((pre.map letK).map (Value.int .u8) ++ [.int .u8 b8]) → (W.drew.alloc (.cells #[.int .u8 b8] 5)).grownBy w5 v.ownBlock →
        ∃ g5 cap5, v5 = .slice (some ⟨g5, 0, none⟩) (pre.length + 1) cap5 ∧ w5.cell? ⟨w4.heap.size, 0, none⟩ = some v ∧ w5.frozen? ⟨w4.heap.size, 0, none⟩ = false ∧
          Hid (KeepsOthers W (w5.setCell ⟨w4.heap.size, 0, none⟩ v5) ∧ KeepR W (w5.setCell ⟨w4.heap.size, 0, none⟩ v5) ∧ Boxed (w5.setCell ⟨w4.heap.size, 0, none⟩ v5) w4.heap.size 57 v5 ∧
            (w5.setCell ⟨w4.heap.size, 0, none⟩ v5).ownsRow (w2.heap.size + 1) 5 1 v5 (pre.length + 1) ((pre.map letK).map (Value.int .u8) ++ [.int .u8 b8]) ∧ Below (w2.heap.size + 1) W (w5.setCell ⟨w4.heap.size, 0, none⟩ v5)) := by
      intro w5 v5 hown5 hgrow5
      obtain ⟨g5, cap5, rfl⟩ := ownsRow_succ hown5
      obtain ⟨a1, a2, a3, a4, a5⟩ := Boxed.appended (n₀ := w2.heap.size + 1) HV.out (by decide) HROW.out (by show _ ≤ W.heap.size; omega) (by omega) hown5 hgrow5
      exact ⟨g5, cap5, rfl, a1.cell, a1.frozen, Lib.hid ⟨(KeepsOthers.drew W).trans a4, (KeepR.below (b_dr (Below.refl _ W))).trans (KeepR.appended HV.out (by decide) HROW.out (by decide) (by decide) hgrow5), a2, a3, b_un a5⟩⟩
    have HFIN := Lib.hid FIN
    have hc2 : (W.alloc (.cells #[.int .u8 b8] 5)).cell? ⟨w4.heap.size, 0, none⟩ = some v := c_al _ hc
    clear FIN
    refine wpAnyIn_ready (rs := [0, 3]) (by kernel_rfl) (by simp) ?_
    refine AllReadyIn.cons (o := ⟨some 35, _, _, _, _, _⟩) rfl (fun K hK => ?_) (AllReadyIn.cons (o := ⟨some 38, _, _, _, _, _⟩) rfl (fun K hK => ?_) AllReadyIn.nil)
    · go_simp
      refine hK _ _ ?_
      clear hK K
      refine wpAnyIn_ready (rs := [3]) (by kernel_rfl) (by simp) ?_
      refine AllReadyIn.cons (o := ⟨some 38, _, _, _, _, _⟩) rfl (fun K hK => ?_) AllReadyIn.nil
      go_simp
      refine hK _ _ ?_
      clear hK K
      refine wpAnyIn_ready (rs := [4]) (by kernel_rfl) (by simp) ?_
      refine AllReadyIn.cons (o := ⟨some 39, _, _, _, _, _⟩) rfl (fun K hK => ?_) AllReadyIn.nil
      refine step_append _ rfl (.tmp 35) (.tmp 38) 57 rfl (w2.heap.size + 1) 5 i0 (.int .u8 0) 1 1 Try.underlying57 hi hz0 hz1 hz2 rfl (by decide) v pre.length ((pre.map letK).map (Value.int .u8)) rfl (World.ownsRow.alloc HROW.out _) ⟨W.heap.size, 0, none⟩ 1 1 [.int .u8 b8] rfl rfl (byte_news rfl) byte_cells (by unfold maxLen; omega) (by omega) (by simp; omega) ?_
      intro v5 w5 hown5 hgrow5
      refine hK _ _ ?_
      clear hK K
      obtain ⟨g5, cap5, rfl, c5, f5, HH⟩ := HFIN.out w5 v5 hown5 hgrow5
      clear hown5 hgrow5
      refine wpAnyIn_ready (rs := [5]) (by kernel_rfl) (by simp) ?_
      refine AllReadyIn.cons (o := ⟨none, _, _, _, _, _⟩) rfl (fun K hK => ?_) AllReadyIn.nil
      go_simp
      refine hK _ _ ?_
      clear hK K
      refine wpAnyIn_done (by kernel_rfl) ?_ _
      exact ⟨HH.out.1, HH.out.2.1, ⟨_, HH.out.2.2.1, by rw [HP.out, HPL.out]; exact HH.out.2.2.2.1, trivial⟩, hB.trans HH.out.2.2.2.2⟩
    · go_simp
      refine hK _ _ ?_
      clear hK K
      refine wpAnyIn_ready (rs := [0]) (by kernel_rfl) (by simp) ?_
      refine AllReadyIn.cons (o := ⟨some 35, _, _, _, _, _⟩) rfl (fun K hK => ?_) AllReadyIn.nil
      go_simp
      refine hK _ _ ?_
      clear hK K
      refine wpAnyIn_ready (rs := [4]) (by kernel_rfl) (by simp) ?_
      refine AllReadyIn.cons (o := ⟨some 39, _, _, _, _, _⟩) rfl (fun K hK => ?_) AllReadyIn.nil
      refine step_append _ rfl (.tmp 35) (.tmp 38) 57 rfl (w2.heap.size + 1) 5 i0 (.int .u8 0) 1 1 Try.underlying57 hi hz0 hz1 hz2 rfl (by decide) v pre.length ((pre.map letK).map (Value.int .u8)) rfl (World.ownsRow.alloc HROW.out _) ⟨W.heap.size, 0, none⟩ 1 1 [.int .u8 b8] rfl rfl (byte_news rfl) byte_cells (by unfold maxLen; omega) (by omega) (by simp; omega) ?_
      intro v5 w5 hown5 hgrow5
      refine hK _ _ ?_
      clear hK K
      obtain ⟨g5, cap5, rfl, c5, f5, HH⟩ := HFIN.out w5 v5 hown5 hgrow5
      clear hown5 hgrow5
      refine wpAnyIn_ready (rs := [5]) (by kernel_rfl) (by simp) ?_
      refine AllReadyIn.cons (o := ⟨none, _, _, _, _, _⟩) rfl (fun K hK => ?_) AllReadyIn.nil
      go_simp
      refine hK _ _ ?_
      clear hK K
      refine wpAnyIn_done (by kernel_rfl) ?_ _
      exact ⟨HH.out.1, HH.out.2.1, ⟨_, HH.out.2.2.1, by rw [HP.out, HPL.out]; exact HH.out.2.2.2.1, trivial⟩, hB.trans HH.out.2.2.2.2⟩
  case done =>
    rintro D ys W hD hS ⟨⟨v, hv, hrow, _⟩, hB⟩ hK
    subst hS
    have hc := hv.cell
    have hcv := row_text (W := W.drew) hrow
    have htx : strOfNums (ys.map letK) = textV (kindsV l) := by
      rw [text_letK]
      congr 1
      have h1 : (ys.map (·.1)).map (fun q : Int × Int => q.2) = kindsV l := by rw [HL.out, HE.out]; exact numb_snd _ _
      rw [List.map_map] at h1
      exact h1
    rw [htx] at hcv
    have h7 : W.heap[w2.heap.size]? = some (.cells #[.int .i64 a, .int .i64 b] 54 (0, 0)) := (hB.block _ (by omega)).trans B7.out
    have hc7 : W.cell? ⟨w2.heap.size, 0, none⟩ = some (.int .i64 a) := by rw [cell_of_row W w2.heap.size 0 _ _ (0, 0) h7]; rfl
    have HBF := Lib.hid (BW.out.trans (hB.mono (by have := HB2.out.size; omega)))
    clear htx h7 hrow hv
    gi_wp2
    gi_region
    gi_wp2
    refine ⟨by simp, .inl ⟨_, _, rfl, run_takeDeferred hK, ?_⟩⟩
    refine ⟨_, results_tmp3 rfl _ _ _, rfl, ?_⟩
    exact HBF.out.trans ((b_dr (Below.refl w.heap.size W)).trans (belowK_b (w := w6) (by have := BW.out.size; omega) W.drew D _ _ hD hK rfl rfl))
  case stop =>
    rintro D c pre W _ _ h _
    exact h.elim

set_option maxRecDepth 100000 in
theorem of9_bad (A : Option Addr) (c : Nat) (l : List Rc) (w : World) (h : RdR w A l) (hl : l.length ≤ 1000000) (h0 : (checkV l).2 ≠ 0) :
    Calls Try.prog 9 #[.slice A l.length c] w fun e w' => e = .returned (.tuple #[.int .i64 (viewV l).1, .string (viewV l).2.1, .int .i64 (viewV l).2.2]) ∧ Below w.heap.size w w' := by
  have CK := fun W (hr : RdR W A l) => rcheck_any A c l W hr (by omega)
  rw [view_bad h0]
  have HR := Lib.hid h
  obtain ⟨p, e, hv⟩ : ∃ p e, checkV l = (p, e) := ⟨_, _, rfl⟩
  rw [hv] at CK h0 ⊢
  have e1 : (e == 0) = false := by simpa using h0
  have e2 : (e != 0) = true := by simpa using h0
  clear h0 hv h
  refine (callsIn_wide (n := 3)).1 ?_
  refine callsIn_of_wp_marks Try.func9 rfl trivial ?_ rfl
  simp only [Try.ntmps9, List.size_toArray, List.length_cons, List.length_nil, Nat.reduceAdd, Nat.reduceSub, Array.replicate_succ, Array.replicate_zero, List.push_toArray, List.append_toArray, List.nil_append, List.cons_append]
  gi_wp2_with (refine ⟨trivial, ?_⟩; gi_at_call 25; refine (callsIn_wide.2 (CK _ HR.out)).mono ?_; rintro e w1 ⟨rfl, hb1⟩; have HB1 := Lib.hid hb1; clear hb1)
  exact ⟨_, results_tmp3 rfl _ _ _, rfl, HB1.out⟩

theorem of9_any (A : Option Addr) (c : Nat) (l : List Rc) (w : World) (h : RdR w A l) (hl : l.length ≤ 1000000) :
    Calls Try.prog 9 #[.slice A l.length c] w fun e w' => e = .returned (.tuple #[.int .i64 (viewV l).1, .string (viewV l).2.1, .int .i64 (viewV l).2.2]) ∧ Below w.heap.size w w' := by
  by_cases h0 : (checkV l).2 = 0
  · exact of9_ok A c l w h hl h0
  · exact of9_bad A c l w h hl h0

end Go.Proofs.Ytllinfcdbbmjaaa
