/- What Make of layer 3 returns: the set of the list. Conditions: the spans can be read; at most a thousand. -/
import Derived.Test.YtdifgbnapcnmlaaRows
import Derived.Test.YtdifgbnapcnmlaaBase
import Derived.Test.YtdifgbnapcnmlaaIvalsWords
import Derived.Test.YtdifgbnapcnmlaaIvalsOwn
import Derived.Test.YtdifgbnapcnmlaaIvalLeaf
import Derived.Test.YtdifgbnapcnmlaaIvalsSort
import Derived.WalkKit
import Derived.WalkSpells
import Derived.WalkSmall
import Derived.Below
import Derived.Outline
import Derived.OwnWalk
import Derived.Lib.Hide
import Derived.BigQuiet
import Derived.Deep.QuietTactic
import Derived.StillTailTactics
import Derived.RegionTactic
namespace Go.Proofs.Ytdifgbnapcnmlaa
open Go.RowKit

theorem put_first {set : List Sp} (h : set.length = 0) (s : Sp) : put1 set s = set ++ [s] := by
  obtain rfl := List.eq_nil_of_length_eq_zero h
  rfl

theorem last_form {set : List Sp} {j : Nat} {t1 t2 : Int} (hn : set.length = j + 1) (ht : set.getD j (0, 0) = (t1, t2)) : ∃ a, a.length = j ∧ set = a ++ [(t1, t2)] := by
  rcases List.eq_nil_or_concat set with rfl | ⟨o, t, rfl⟩
  · simp at hn
  · rw [List.concat_eq_append] at *
    have hj : o.length = j := by simpa using hn
    subst hj
    refine ⟨o, rfl, ?_⟩
    have e : t = (t1, t2) := by simpa [List.getD] using ht
    rw [e]

theorem put_new {set : List Sp} {j : Nat} {t1 t2 : Int} (hn : set.length = j + 1) (ht : set.getD j (0, 0) = (t1, t2)) {s : Sp} (h : ¬ s.1 ≤ t2) : put1 set s = set ++ [s] := by
  obtain ⟨a, _, rfl⟩ := last_form hn ht
  exact put1_new a (t1, t2) s h

/-- What is stored into the last one's end. -/
theorem put_join {set : List Sp} {j : Nat} {t1 t2 : Int} (hn : set.length = j + 1) (ht : set.getD j (0, 0) = (t1, t2)) {s : Sp} (h : s.1 ≤ t2) :
    (put1 set s).length = set.length ∧ flat (put1 set s) = (flat set).set (j * 2 + 1) (.int .i64 (if s.2 ≤ t2 then t2 else s.2)) := by
  obtain ⟨a, rfl, rfl⟩ := last_form hn ht
  rw [put1_join a (t1, t2) s h]
  exact ⟨by simp, (flat_set a t1 t2 _).symm⟩

theorem own_some {base : Nat} {w : World} {b off n c : Nat} {l : List Sp} (h : Own base w (.slice (some ⟨b, off, none⟩) n c) l) : off = 0 ∧ base ≤ b ∧ ∀ j, w.frozen? ⟨b, j, none⟩ = false := by
  rcases h.2 with ⟨h', _⟩ | ⟨g, cap, cur, h', hb, hg, _⟩
  · simp at h'
  · simp only [Value.slice.injEq, Option.some.injEq, Addr.mk.injEq, and_true] at h'
    obtain ⟨⟨rfl, rfl⟩, _, rfl⟩ := h'
    exact ⟨rfl, hb, fun j => by simp [World.frozen?, hg]⟩

theorem own_joined {base : Nat} {w : World} {b n c j : Nat} {l l' : List Sp} {z : Int} (h : Own base w (.slice (some ⟨b, 0, none⟩) n c) l) (hn : l.length = n) (hl : l'.length = l.length) (hf : flat l' = (flat l).set (j * 2 + 1) (.int .i64 z)) :
    Own base (w.setCell ⟨b, j * 2 + 1, none⟩ (.int .i64 z)) (.slice (some ⟨b, 0, none⟩) n c) l' := by
  unfold Own at *
  rw [hn] at h
  have h2 := (World.ownsRow.stored h (j * 2 + 1) (.int .i64 z)).1
  rw [hl, hn, hf]
  exact h2

set_option maxRecDepth 100000 in
set_option maxHeartbeats 4000000 in
/-- The second half: the sorted ones, one after the other. -/
theorem makel_any (A : Option Addr) (c : Nat) (l : List Sp) (w : World) (h : RdS w A l) (hl : l.length ≤ 1000) :
    Calls Try.prog 34 #[.slice A l.length c] w fun e w' => ∃ v, e = .returned v ∧ Own w.heap.size w' v (setOf l) ∧ Below w.heap.size w w' := by
  obtain ⟨i0, hi, hz0, hz1, hz2⟩ := info_parts info_span
  go_enter Try.func34, Try.ntmps34
  go_wp2
  go_loopw [3, 12] (fun v i wr => ∃ (k n : Nat) (A' : Option Addr) (c' : Nat), k ≤ l.length ∧ i = .int .i64 k ∧ v = .slice A' n c' ∧ Hid ((onlyR (l.take k)).length = n) ∧ n ≤ k ∧
      Hid (Own w.heap.size wr (.slice A' n c') (onlyR (l.take k))) ∧ Below w.heap.size w wr) (fun _ i _ => l.length - (intOf i).toNat)
  case atStart => exact ⟨0, 0, none, 0, Nat.zero_le _, rfl, rfl, Lib.hid rfl, Nat.le_refl _, Lib.hid (Own.nil _ _), Below.refl _ _⟩
  case round =>
    obtain ⟨k, n, A', c', hk, rfl, rfl, hln, hnk, hown, hb⟩ := hrel
    obtain ⟨wo, rfl⟩ : ∃ wo : World, wo = wr := ⟨_, rfl⟩
    have hsz := hb.size
    by_cases hlt : k < l.length
    · obtain ⟨b, off, x, y, rfl, hbb, hc1, hc2, hs⟩ := h.at_ hlt
      rw [← hb.cell (p := ⟨b, _, none⟩) hbb] at hc1 hc2
      have hbr : b < wo.heap.size := by omega
      have OM := Lib.hid (only_more l k hlt)
      by_cases hxy : x < y
      · have hon : (onlyR (l.take k)).length = n := hln.out
        have HON := Lib.hid hon
        have hnb : (onlyR (l.take k)).length ≤ 1000 := by omega
        have OM2 := Lib.hid (show onlyR (l.take (k + 1)) = onlyR (l.take k) ++ [(x, y)] by rw [OM.out, hs.out, if_pos hxy])
        clear hon
        go_wp2_with (first | (go_at_call 20; refine (right_yes _ _ _ hxy).mono ?_; rintro e w1 ⟨rfl, hb1⟩; obtain ⟨hcc, hff⟩ := bcell hb1; have hz1' := hb1.size; (try simp at hz1'); have HO := Lib.hid ((hown.out.alloc (.cells #[.int .i64 x, .int .i64 y] 31)).below hb1); have hbw1 := (hb.alloc hsz (.cells #[.int .i64 x, .int .i64 y] 31)).trans (hb1.mono (by simp; omega))) | (at_builtin; refine wpList_append_own _ rfl _ _ 22 rfl w.heap.size 31 i0 (.agg #[.int .i64 0, .int .i64 0]) 2 16 Try.underlying22 hi hz0 hz1 hz2 rfl (by decide) _ _ _ rfl (HO.out.alloc _) ⟨w1.heap.size, 0, none⟩ 1 1 [.int .i64 x, .int .i64 y] rfl rfl one_news one_cell2 (by unfold maxLen; omega) (by omega) (by have := hbw1.size; simp; omega) ?_; intro v1 w5 hown5 hgrow5 _))
        have HS := Lib.hid (Own.snoc hown5)
        have HBel := (hbw1.alloc hbw1.size (.cells #[.int .i64 x, .int .i64 y] 31)).grown hgrow5 (by simp; omega) (fun k hk => (World.ownsRow.lt HO.out k hk).1)
        clear hown5 hgrow5
        obtain ⟨A5, c5, rfl, hrd5, _, _⟩ := HS.out.form
        have HL5 := Lib.hid (show (onlyR (l.take k) ++ [(x, y)]).length = n + 1 by rw [List.length_append, HON.out]; rfl)
        go_wp2
        go_roundw
        case rel => exact ⟨k + 1, n + 1, A5, c5, by omega, by go_num, by rw [HL5.out], Lib.hid (by rw [OM2.out, HL5.out]), by omega, Lib.hid (by rw [OM2.out]; have := HS.out; rw [HL5.out] at this; exact this), HBel⟩
        case measure => simp [intOf]; omega
      · have OM2 := Lib.hid (show onlyR (l.take (k + 1)) = onlyR (l.take k) by rw [OM.out, hs.out, if_neg (by simpa using hxy), List.append_nil])
        go_wp2_with (go_at_call 20; refine (right_no _ _ _ (by omega)).mono ?_; rintro e w1 ⟨rfl, hb1⟩; have HO := Lib.hid ((hown.out.alloc (.cells #[.int .i64 x, .int .i64 y] 31)).below hb1); have hbw1 := (hb.alloc hsz (.cells #[.int .i64 x, .int .i64 y] 31)).trans (hb1.mono (by simp; omega)))
        go_roundw
        case rel => exact ⟨k + 1, n, A', c', by omega, by go_num, rfl, Lib.hid (by rw [OM2.out]; exact hln.out), by omega, Lib.hid (by rw [OM2.out]; exact HO.out), hbw1⟩
        case measure => simp [intOf]; omega
    · have hkl : k = l.length := by omega
      subst hkl
      have HR := Lib.hid (show onlyR (l.take l.length) = onlyR l by rw [List.take_of_length_le (Nat.le_refl _)])
      rw [HR.out] at hln hown
      clear hk hlt
      -- the sort
      have hsort : Calls Try.prog 37 #[.slice A' n c', .func (.func 38) #[] #[]] wo fun e w' =>
          e = .returned (.tuple #[]) ∧ ∃ d : List Sp, d.length = n ∧ d.Perm (onlyR l) ∧ d.Pairwise (fun s t => s.1 ≤ t.1) ∧ RdS w' A' d ∧ Below w.heap.size wo w' := by
        rcases hown.out.2 with ⟨h', h0⟩ | ⟨g, cap, cur, h', _⟩
        · simp only [Value.slice.injEq] at h'
          obtain ⟨rfl, rfl, rfl⟩ := h'
          have e0 : onlyR l = [] := List.eq_nil_of_length_eq_zero h0
          rw [e0]
          exact (AnyF.slices_SortFunc_none sortL none 0 (.func (.func 38) #[] #[]) wo).mono fun e w' ⟨he, hw⟩ => ⟨he, [], rfl, List.Perm.refl _, List.Pairwise.nil, RdS.nil _ _, by rw [hw]; exact Below.refl _ _⟩
        · simp only [Value.slice.injEq] at h'
          obtain ⟨rfl, hn', rfl⟩ := h'
          have ho := hown.out
          subst hn'
          exact (sort_any w.heap.size g c' (onlyR l) wo ho (by have := hln.out; omega)).mono fun e w' ⟨he, d, h1, h2, h3, h4, h5⟩ => ⟨he, d, h1, h2, h3, h4, h5⟩
      go_wp2_with (go_at_call 37; refine hsort.mono ?_; rintro e ws ⟨rfl, d, hdl0, hdp, hds, hrd0, hbs⟩)
      have hdl := Lib.hid hdl0
      have hrd := Lib.hid hrd0
      have HPA := Lib.hid (putAll_is hdp hds)
      have hwsz : w.heap.size ≤ ws.heap.size := Nat.le_trans hsz hbs.size
      have hfin : ∀ (v : Value) (w' : World), Own ws.heap.size w' v (putAll d) → Below ws.heap.size ws w' → Own w.heap.size w' v (setOf l) ∧ Below w.heap.size w w' := fun v w' ho hb' => by
        rw [← HPA.out]
        exact ⟨ho.more hwsz, (hb.trans hbs).trans (hb'.mono hwsz)⟩
      have HF := Lib.hid hfin
      obtain ⟨m, hmn⟩ : ∃ m, m = n := ⟨_, rfl⟩
      have hm1 : m ≤ 1000 := by omega
      subst hmn
      clear hown hln hb hsz hdl0 hrd0 hdp hds hbs hfin hwsz hnk h hl
      go_loopw [6, 27] (fun v i wr => ∃ (k n : Nat) (A2 : Option Addr) (c2 : Nat), k ≤ m ∧ i = .int .i64 k ∧ v = .slice A2 n c2 ∧ Hid (((d.take k).foldl put1 []).length = n) ∧ n ≤ k ∧
          Hid (RdS wr A2 ((d.take k).foldl put1 []) ∧ Own ws.heap.size wr (.slice A2 n c2) ((d.take k).foldl put1 [])) ∧ Below ws.heap.size ws wr) (fun _ i _ => m - (intOf i).toNat)
      case atStart => exact ⟨0, 0, none, 0, Nat.zero_le _, rfl, rfl, Lib.hid rfl, Nat.le_refl _, Lib.hid ⟨RdS.nil _ _, Own.nil _ _⟩, Below.refl _ _⟩
      case round =>
        obtain ⟨k, n, A2, c2, hk, rfl, rfl, hln, hnk, hown2, hb⟩ := hrel
        obtain ⟨w2, rfl⟩ : ∃ w2 : World, w2 = wr := ⟨_, rfl⟩
        have hsz := hb.size
        by_cases hlt : k < m
        · obtain ⟨b, off, x, y, rfl, hbb, hc1, hc2, hs⟩ := hrd.out.at_ (k := k) (by rw [hdl.out]; exact hlt)
          rw [← hb.cell (p := ⟨b, _, none⟩) hbb] at hc1 hc2
          have hbr : b < w2.heap.size := by omega
          have PM := Lib.hid (put_more d [] k (by rw [hdl.out]; exact hlt))
          have q1 : ∀ p : BelowOf (w2.alloc (.cells #[.int .i64 x, .int .i64 y] 31)), p.world.cell? ⟨w2.heap.size, 0, none⟩ = some (.int .i64 x) := fun p => p.cell (by simp)
          have q2 : ∀ p : BelowOf (w2.alloc (.cells #[.int .i64 x, .int .i64 y] 31)), p.world.cell? ⟨w2.heap.size, 1, none⟩ = some (.int .i64 y) := fun p => p.cell (by simp)
          by_cases hn0 : n = 0
          · subst hn0
            have HP := Lib.hid (put_first hln.out (x, y))
            go_wp2
            refine wp_region_bel (by kernel_rfl) (by kernel_rfl) ?_
            repeat (go_big_quiet_step (fail))
            refine wpQuiet_nil ?_
            refine bel_all fun wq hbq => ?_
            clear q1 q2
            have hS := (Box2.new w2 x y 31).below hbq
            have HO := Lib.hid ((hown2.out.2.alloc _).below hbq)
            have hzq := hbq.size
            simp only [World.size_alloc] at hzq
            have hbw : Below ws.heap.size ws wq := ((hb.alloc hb.size _).trans (hbq.mono (by simp; omega)))
            obtain ⟨S0, S1, S2, S3⟩ := hS
            have hon : ((d.take k).foldl put1 []).length = 0 := hln.out
            have HON := Lib.hid hon
            have hnb : ((d.take k).foldl put1 []).length ≤ 1000 := by omega
            clear hon hbq
            go_wp2_with (at_builtin; refine wpList_append_own _ rfl _ _ 22 rfl ws.heap.size 31 i0 (.agg #[.int .i64 0, .int .i64 0]) 2 16 Try.underlying22 hi hz0 hz1 hz2 rfl (by decide) _ _ _ rfl (HO.out.alloc _) ⟨wq.heap.size, 0, none⟩ 1 1 [.int .i64 x, .int .i64 y] rfl rfl one_news one_cell2 (by unfold maxLen; omega) (by omega) (by simp; omega) ?_; intro v1 w5 hown5 hgrow5 _)
            have HS := Lib.hid (Own.snoc hown5)
            have HBel := (hbw.alloc hbw.size (.cells #[.int .i64 x, .int .i64 y] 31)).grown hgrow5 (by simp; omega) (fun k hk => (World.ownsRow.lt HO.out k hk).1)
            clear hown5 hgrow5
            obtain ⟨A5, c5, rfl, hrd5, _, _⟩ := HS.out.form
            have HL5 := Lib.hid (show ((d.take k).foldl put1 [] ++ [(x, y)]).length = 0 + 1 by rw [List.length_append, HON.out]; rfl)
            go_wp2
            go_roundw
            case rel => exact ⟨k + 1, 0 + 1, A5, c5, by omega, by go_num, by rw [HL5.out], Lib.hid (by rw [PM.out, hs.out, HP.out, HL5.out]), by omega, Lib.hid (by rw [PM.out, hs.out, HP.out]; exact ⟨hrd5, by have := HS.out; rw [HL5.out] at this; exact this⟩), HBel⟩
            case measure => simp [intOf]; omega
          · obtain ⟨j, hj⟩ : ∃ j, n = j + 1 := ⟨n - 1, by omega⟩
            have HLJ := Lib.hid (hln.out.trans hj)
            have hnj : (n : Int) - 1 = (j : Int) := by omega
            have hjn : j < n := by omega
            have hg : decide ((0 : Int) ≤ (j : Int)) = true := decide_eq_true (by omega)
            clear hj
            obtain ⟨bo, oo, t1, t2, rfl, hbo, hd1, hd2, ht⟩ := hown2.out.1.at_ (k := j) (by rw [hln.out]; omega)
            obtain ⟨rfl, hgb, hfz⟩ := own_some hown2.out.2
            rw [Nat.zero_add] at hd1 hd2
            have q3 : ∀ p : BelowOf (w2.alloc (.cells #[.int .i64 x, .int .i64 y] 31)), p.world.cell? ⟨bo, j * 2 + 1, none⟩ = some (.int .i64 t2) := fun p => p.cell (c_al _ hd2)
            by_cases hxt : x ≤ t2
            · have HP := Lib.hid (put_join HLJ.out ht.out (s := (x, y)) hxt)
              by_cases hyt : y ≤ t2
              · go_wp2
                refine wp_region_bel (by kernel_rfl) (by kernel_rfl) ?_
                repeat (go_big_quiet_step (fail))
                refine wpQuiet_nil ?_
                refine bel_all fun wq hbq => ?_
                clear q1 q2 q3
                have hS := (Box2.new w2 x y 31).below hbq
                have HO := Lib.hid ((hown2.out.2.alloc _).below hbq)
                have hzq := hbq.size
                simp only [World.size_alloc] at hzq
                have hbw : Below ws.heap.size ws wq := ((hb.alloc hb.size _).trans (hbq.mono (by simp; omega)))
                obtain ⟨S0, S1, S2, S3⟩ := hS
                have hd2q : wq.cell? ⟨bo, j * 2 + 1, none⟩ = some (.int .i64 t2) := c_cl (c_al _ hd2) hbq
                have hfzq : wq.frozen? ⟨bo, j * 2 + 1, none⟩ = false := (own_some HO.out).2.2 _
                clear hbq
                go_wp2
                go_region
                go_wp2
                go_roundw
                case rel =>
                  have hj := own_joined (z := t2) HO.out hln.out HP.out.1 (HP.out.2.trans (by congr 2; exact if_pos hyt))
                  have hm : max t2 y = t2 := by omega
                  have hj2 : Own ws.heap.size (wq.setCell ⟨bo, j * 2 + 1, none⟩ (.int .i64 (max t2 y))) (.slice (some ⟨bo, 0, none⟩) n c2) (put1 ((d.take k).foldl put1 []) (x, y)) := by rw [hm]; exact hj
                  obtain ⟨A5, c5, he5, hrd5, _, _⟩ := hj2.form
                  injection he5 with e1 e2 e3
                  rw [← e1] at hrd5
                  exact ⟨k + 1, n, _, c2, by omega, by go_num, rfl, Lib.hid (by rw [PM.out, hs.out, HP.out.1]; exact hln.out), by omega, Lib.hid (by rw [PM.out, hs.out]; exact ⟨hrd5, hj2⟩), (hbw.setCell (by exact hgb) _).drew⟩
                case measure => simp [intOf]; omega
              · go_wp2
                refine wp_region_bel (by kernel_rfl) (by kernel_rfl) ?_
                repeat (go_big_quiet_step (fail))
                refine wpQuiet_nil ?_
                refine bel_all fun wq hbq => ?_
                clear q1 q2 q3
                have hS := (Box2.new w2 x y 31).below hbq
                have HO := Lib.hid ((hown2.out.2.alloc _).below hbq)
                have hzq := hbq.size
                simp only [World.size_alloc] at hzq
                have hbw : Below ws.heap.size ws wq := ((hb.alloc hb.size _).trans (hbq.mono (by simp; omega)))
                obtain ⟨S0, S1, S2, S3⟩ := hS
                have hd2q : wq.cell? ⟨bo, j * 2 + 1, none⟩ = some (.int .i64 t2) := c_cl (c_al _ hd2) hbq
                have hfzq : wq.frozen? ⟨bo, j * 2 + 1, none⟩ = false := (own_some HO.out).2.2 _
                clear hbq
                go_wp2
                go_region
                go_wp2
                go_roundw
                case rel =>
                  have hj := own_joined (z := y) HO.out hln.out HP.out.1 (HP.out.2.trans (by congr 2; exact if_neg (by omega)))
                  have hm : max t2 y = y := by omega
                  have hj2 : Own ws.heap.size (wq.setCell ⟨bo, j * 2 + 1, none⟩ (.int .i64 (max t2 y))) (.slice (some ⟨bo, 0, none⟩) n c2) (put1 ((d.take k).foldl put1 []) (x, y)) := by rw [hm]; exact hj
                  obtain ⟨A5, c5, he5, hrd5, _, _⟩ := hj2.form
                  injection he5 with e1 e2 e3
                  rw [← e1] at hrd5
                  exact ⟨k + 1, n, _, c2, by omega, by go_num, rfl, Lib.hid (by rw [PM.out, hs.out, HP.out.1]; exact hln.out), by omega, Lib.hid (by rw [PM.out, hs.out]; exact ⟨hrd5, hj2⟩), (hbw.setCell (by exact hgb) _).drew⟩
                case measure => simp [intOf]; omega
            · have HP := Lib.hid (put_new HLJ.out ht.out (s := (x, y)) hxt)
              go_wp2
              refine wp_region_bel (by kernel_rfl) (by kernel_rfl) ?_
              repeat (go_big_quiet_step (fail))
              refine wpQuiet_nil ?_
              refine bel_all fun wq hbq => ?_
              clear q1 q2 q3
              have hS := (Box2.new w2 x y 31).below hbq
              have HO := Lib.hid ((hown2.out.2.alloc _).below hbq)
              have hzq := hbq.size
              simp only [World.size_alloc] at hzq
              have hbw : Below ws.heap.size ws wq := ((hb.alloc hb.size _).trans (hbq.mono (by simp; omega)))
              obtain ⟨S0, S1, S2, S3⟩ := hS
              have hon : ((d.take k).foldl put1 []).length = n := hln.out
              have HON := Lib.hid hon
              have hnb : ((d.take k).foldl put1 []).length ≤ 1000 := by omega
              clear hon hbq
              go_wp2_with (at_builtin; refine wpList_append_own _ rfl _ _ 22 rfl ws.heap.size 31 i0 (.agg #[.int .i64 0, .int .i64 0]) 2 16 Try.underlying22 hi hz0 hz1 hz2 rfl (by decide) _ _ _ rfl (HO.out.alloc _) ⟨wq.heap.size, 0, none⟩ 1 1 [.int .i64 x, .int .i64 y] rfl rfl one_news one_cell2 (by unfold maxLen; omega) (by omega) (by simp; omega) ?_; intro v1 w5 hown5 hgrow5 _)
              have HS := Lib.hid (Own.snoc hown5)
              have HBel := (hbw.alloc hbw.size (.cells #[.int .i64 x, .int .i64 y] 31)).grown hgrow5 (by simp; omega) (fun k hk => (World.ownsRow.lt HO.out k hk).1)
              clear hown5 hgrow5
              obtain ⟨A5, c5, rfl, hrd5, _, _⟩ := HS.out.form
              have HL5 := Lib.hid (show ((d.take k).foldl put1 [] ++ [(x, y)]).length = n + 1 by rw [List.length_append, HON.out]; rfl)
              go_wp2
              go_roundw
              case rel => exact ⟨k + 1, n + 1, A5, c5, by omega, by go_num, by rw [HL5.out], Lib.hid (by rw [PM.out, hs.out, HP.out, HL5.out]), by omega, Lib.hid (by rw [PM.out, hs.out, HP.out]; exact ⟨hrd5, by have := HS.out; rw [HL5.out] at this; exact this⟩), HBel⟩
              case measure => simp [intOf]; omega
        · have hkm : k = m := by omega
          subst hkm
          have HE := Lib.hid (show (d.take k).foldl put1 [] = putAll d by rw [List.take_of_length_le (by rw [hdl.out]; exact Nat.le_refl _)]; rfl)
          rw [HE.out] at hown2
          go_wp2
          go_ret
          exact ⟨_, rfl, HF.out _ _ hown2.out.2 hb⟩

end Go.Proofs.Ytdifgbnapcnmlaa
