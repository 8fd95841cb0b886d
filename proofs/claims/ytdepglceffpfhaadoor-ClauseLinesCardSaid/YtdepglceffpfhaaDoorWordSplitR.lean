/- What the document's Split of layer 6 returns, for any line. Conditions: the line has at most a million bytes. -/
import Derived.Test.YtdepglceffpfhaaDoorWordSplit
import Derived.Test.YtdepglceffpfhaaDoorWordPrint
import Derived.BigRegion
namespace Go.Proofs.YtdepglceffpfhaaDoor
open Go.RowKit

/-- The words behind k bytes, the one that is under way too. -/
def refW (s : ByteArray) (k : Nat) : List Wd := if pbeg 32 s k < k then pdone 32 s k ++ [(pbeg 32 s k, s.extract (pbeg 32 s k) k)] else pdone 32 s k

theorem ext_join (s : ByteArray) {b k : Nat} (h : b ≤ k) (hk : k < s.size) : s.extract b k ++ s.extract k (k + 1) = s.extract b (k + 1) := by
  apply ba_ext
  rw [ByteArray.data_append, Array.toList_append, ext_list, ext_list, ext_list]
  obtain ⟨c, hc, _⟩ := byte_list s k hk
  have hl : (s.data.toList.take k).length = k := by rw [List.length_take, size_list]; omega
  have e : List.take (k + 1) s.data.toList = List.take k s.data.toList ++ [c] := by rw [List.take_add_one, hc]; rfl
  have e1 : (List.take k s.data.toList ++ [c]).drop b = (List.take k s.data.toList).drop b ++ [c] := List.drop_append_of_le_length (by rw [hl]; exact h)
  have e2 : (List.take k s.data.toList ++ [c]).drop k = [c] := by
    rw [List.drop_append_of_le_length (by rw [hl]; exact Nat.le_refl _), List.drop_of_length_le (by rw [hl]; exact Nat.le_refl _)]
    rfl
  rw [e, e1, e2]

theorem refW_blank {s : ByteArray} {k : Nat} (hc : bt s k = 32) (hb : pbeg 32 s k ≠ k) : refW s (k + 1) = refW s k := by
  have := pbeg_le 32 s k
  unfold refW
  rw [pbeg_hit hc, pdone_hit hc, if_neg (by omega), if_pos (by omega)]

theorem refW_begin {s : ByteArray} {k : Nat} (hc : bt s k ≠ 32) (hb : pbeg 32 s k = k) : refW s k = pdone 32 s k ∧ refW s (k + 1) = pdone 32 s k ++ [(k, s.extract k (k + 1))] := by
  unfold refW
  rw [pbeg_miss hc, pdone_miss hc, hb, if_neg (by omega), if_pos (by omega)]
  exact ⟨rfl, rfl⟩

theorem refW_more {s : ByteArray} {k b : Nat} (hk : k < s.size) (hc : bt s k ≠ 32) (hb : pbeg 32 s k = b) (hlt : b < k) : refW s k = pdone 32 s k ++ [(b, s.extract b k)] ∧ refW s (k + 1) = pdone 32 s k ++ [(b, s.extract b k ++ s.extract k (k + 1))] := by
  unfold refW
  rw [pbeg_miss hc, pdone_miss hc, hb, if_pos hlt, if_pos (by omega), ext_join s (by omega) hk]
  exact ⟨rfl, rfl⟩

theorem refW_len (s : ByteArray) (k : Nat) : (refW s k).length ≤ k + 1 := by
  have := pdone_len 32 s k
  unfold refW
  split
  · simp; omega
  · omega

theorem refW_end {s : ByteArray} (h0 : s.size ≠ 0) (hn : ∀ j, j < s.size → ¬ bad s j) (he : pbeg 32 s s.size ≠ s.size) : splitV s = (refW s s.size, 0, 0) := by
  have := pbeg_le 32 s s.size
  rw [split_full h0 hn he]
  unfold refW fullW
  rw [if_pos (by omega)]

/-- The last word's text, in its cell. -/
theorem last_cell {e : TypeId} {base n c x : Nat} {w : World} {A : Option Addr} {L : List Wd} {old : ByteArray} (h : OwnW e base w (.slice A n c) (L ++ [(x, old)])) (hn : (L ++ [(x, old)]).length = n) :
    ∃ g, A = some ⟨g, 0, none⟩ ∧ base ≤ g ∧ g < w.heap.size ∧ w.cell? ⟨g, L.length * 2 + 1, none⟩ = some (.string old) ∧ ∀ j, w.frozen? ⟨g, j, none⟩ = false := by
  obtain ⟨A', c', hv, hr⟩ := h.read
  obtain ⟨rfl, _, rfl⟩ : A = A' ∧ n = _ ∧ c = c' := by simpa using hv
  have hk : L.length < (L ++ [(x, old)]).length := by simp
  obtain ⟨b, off, hA, hb, hc⟩ := hr (nonnil hk)
  subst hA
  have h2 : w.ownsRow base e 2 (.slice (some ⟨b, off, none⟩) n c) n (flatW (L ++ [(x, old)])) := by
    have h1 := h
    unfold OwnW at h1
    rw [hn] at h1
    exact h1
  obtain ⟨rfl, hbb, hf⟩ := row_some h2
  have hcc := (hc L.length hk).2
  rw [Nat.zero_add] at hcc
  refine ⟨b, rfl, hbb, hb, ?_, hf⟩
  rw [hcc]
  simp

/-- Behind the store into it. -/
theorem last_set {e : TypeId} {base n c g x : Nat} {w : World} {L : List Wd} {old z : ByteArray} (h : OwnW e base w (.slice (some ⟨g, 0, none⟩) n c) (L ++ [(x, old)])) (hn : (L ++ [(x, old)]).length = n) :
    OwnW e base (w.setCell ⟨g, L.length * 2 + 1, none⟩ (.string z)) (.slice (some ⟨g, 0, none⟩) n c) (L ++ [(x, z)]) :=
  OwnW.stored h hn (by simp) (flatW_set L x old z).symm

set_option maxHeartbeats 4000000 in
theorem refsplit_any (s : ByteArray) (w : World) (hs : s.size ≤ 1000000) :
    Calls Tryd.prog 36 #[.string s] w fun e w' => ∃ v, e = .returned (.tuple #[v, .int .i64 ((splitV s).2.1 : Nat), .int .i64 (splitV s).2.2]) ∧ OwnW 71 w.heap.size w' v (splitV s).1 ∧ Below w.heap.size w w' := by
  obtain ⟨i0, hi, hz0, hz1, hz2⟩ := info_parts info_refword
  by_cases h0 : s.size = 0
  · rw [split_empty h0]
    obtain rfl : s = ⟨#[]⟩ := ByteArray.ext (Array.eq_empty_of_size_eq_zero h0)
    clear h0
    go_enter Tryd.func36, Tryd.ntmps36
    go_wp2
    go_loop [5, 6] (fun v i => v = .slice none 0 0 ∧ i = .int .i64 0) (fun _ _ => 0)
    case atStart => exact ⟨rfl, rfl⟩
    case round =>
      obtain ⟨rfl, rfl⟩ := hrel
      go_wp2
      go_ret3
      exact ⟨_, rfl, OwnW.nil _ _ _, Below.refl _ _⟩
  have H0 := Lib.hid h0
  clear h0
  obtain ⟨V, hV⟩ : ∃ V, splitV s = V := ⟨_, rfl⟩
  have HV := Lib.hid hV
  rw [hV]
  clear hV
  go_enter Tryd.func36, Tryd.ntmps36
  go_wp2
  go_loopw [5, 6] (fun v i wr => ∃ (k n c : Nat) (A : Option Addr), k ≤ s.size ∧ i = .int .i64 k ∧ v = .slice A n c ∧ Hid ((refW s k).length = n) ∧ n ≤ k + 1 ∧ Hid (OwnW 71 w.heap.size wr (.slice A n c) (refW s k)) ∧ Below w.heap.size w wr ∧ Hid (∀ j, j < k → ¬ bad s j)) (fun _ i _ => s.size - (intOf i).toNat)
  case atStart => exact ⟨0, 0, 0, none, Nat.zero_le _, rfl, rfl, Lib.hid rfl, by omega, Lib.hid (OwnW.nil _ _ _), Below.refl _ _, Lib.hid (fun j hj => by omega)⟩
  case round =>
    obtain ⟨k, n, c, A, hk, rfl, rfl, HL, hnk, HO, hb, HN⟩ := hrel
    have hwz := hb.size
    by_cases hlt : k < s.size
    · have hble := pbeg_le 32 s k
      have hbh := pbeg_here 32 s k
      have eb := byte_bt s k hlt
      have hcl := (s[k]'hlt).toNat_lt
      by_cases hk0 : k = 0
      · have hp : pbeg 32 s k = k := hbh.2 (.inl hk0)
        have b1 : ((k : Int) == 0) = true := by simp; omega
        clear hk0
        by_cases d1 : ((s[k]'hlt).toNat : Int) < 32
        · have q1 : (((s[k]'hlt).toNat : Int) == 32) = false := by simp; omega
          have HE := Lib.hid (split_bad hlt (.inl (by omega)) HN.out)
          clear hble hbh eb
          go_wp2
          go_ret3
          rw [← HV.out, HE.out]
          exact ⟨_, rfl, OwnW.nil _ _ _, hb⟩
        · by_cases d2 : (126 : Int) < ((s[k]'hlt).toNat : Int)
          · have q1 : (((s[k]'hlt).toNat : Int) == 32) = false := by simp; omega
            have HE := Lib.hid (split_bad hlt (.inr (.inl (by omega))) HN.out)
            clear hble hbh eb
            go_wp2
            go_ret3
            rw [← HV.out, HE.out]
            exact ⟨_, rfl, OwnW.nil _ _ _, hb⟩
          · by_cases d3 : ((s[k]'hlt).toNat : Int) = 32
            · have q1 : (((s[k]'hlt).toNat : Int) == 32) = true := by simp; omega
              have HE := Lib.hid (split_bad hlt (.inr (.inr ⟨by omega, hp⟩)) HN.out)
              clear d3 hble hbh eb
              go_wp2
              go_ret3
              rw [← HV.out, HE.out]
              exact ⟨_, rfl, OwnW.nil _ _ _, hb⟩
            · have q1 : (((s[k]'hlt).toNat : Int) == 32) = false := by simp; omega
              have hnb : ¬ bad s k := by rintro (h | h | ⟨h, _⟩) <;> omega
              have HN2 := Lib.hid (not_bad HN.out hnb)
              have HW := Lib.hid (refW_begin (show bt s k ≠ 32 by omega) hp)
              have HO1 : Hid (OwnW 71 w.heap.size wr (.slice A n c) (pdone 32 s k)) := Lib.hid (by rw [← HW.out.1]; exact HO.out)
              have hpl := pdone_len 32 s k
              clear d3 hble hbh eb hnb hp
              have i1 : (k : Int) ≤ (k : Int) + 1 := by omega
              have i2 : (k : Int) + 1 ≤ (s.size : Int) := by omega
              have z1 : (s.extract k (k + 1)).size = 1 := by rw [ByteArray.size_extract]; omega
              have r1 : ∀ W : World, (Op.stringOp .add ⟨#[]⟩ (s.extract k (k + 1))).run Tryd.prog W = .ok (.string (s.extract k (k + 1))) W := fun W => by
                have h := run_string_add_sum (P := Tryd.prog) W ⟨#[]⟩ (s.extract k (k + 1)) (by rw [z1]; decide)
                rw [show (⟨#[]⟩ : ByteArray) ++ s.extract k (k + 1) = s.extract k (k + 1) from ba_ext (by simp [ByteArray.data_append])] at h
                exact h
              go_wp2_with (at_builtin; refine wpList_append_own _ rfl _ _ 68 rfl w.heap.size 71 i0 (.agg #[.int .i64 0, .string ⟨#[]⟩]) 2 24 Tryd.underlying68 hi hz0 hz1 hz2 rfl (by decide) _ _ _ rfl (World.ownsRow.alloc HO1.out _) ⟨wr.heap.size, 0, none⟩ 1 1 [.int .i64 k, .string ⟨#[]⟩] rfl rfl (word_news rfl) word_cells (by unfold maxLen; omega) (by omega) (by simp; omega) ?_; intro v5 w5 hown5 hgrow5 _; have HS := Lib.hid (OwnW.snoc hown5); have HB5 := Lib.hid ((b_al hb (Nat.le_refl _) (.cells #[.int .i64 k, .string ⟨#[]⟩] 71)).grown hgrow5 (by simp; omega) (fun q hq => (World.ownsRow.lt HO1.out q hq).1)); clear hown5 hgrow5; obtain ⟨A5, c5, rfl, _⟩ := HS.out.read; obtain ⟨n5, hn5⟩ : ∃ n5, (pdone 32 s k ++ [(k, (⟨#[]⟩ : ByteArray))]).length = n5 := ⟨_, rfl⟩; have HN5 := Lib.hid hn5; have HS2 : Hid (OwnW 71 w.heap.size w5 (.slice A5 n5 c5) (pdone 32 s k ++ [(k, (⟨#[]⟩ : ByteArray))])) := Lib.hid (by rw [← hn5]; exact HS.out); rw [hn5]; clear HS; obtain ⟨g, rfl, hgb, hgl, hcell, hfz⟩ := last_cell HS2.out hn5; have hon := hn5; rw [List.length_append] at hon; clear hn5; have HLL := Lib.hid (fun (z : ByteArray) => show (pdone 32 s k ++ [(k, z)]).length = n5 by rw [List.length_append]; exact hon); obtain ⟨j5, hj5⟩ : ∃ j5, (pdone 32 s k).length = j5 := ⟨_, rfl⟩; have HJ5 := Lib.hid hj5; have hjk : j5 ≤ k := (by omega); have hjb : j5 ≤ 1000000 := (by omega); have hjn : (n5 : Int) - 1 = (j5 : Int) := (by simp at hon; omega); have hjl : j5 < n5 := (by simp at hon; omega); rw [hj5] at hcell; have hgj : decide ((0 : Int) ≤ (j5 : Int)) = true := decide_eq_true (by omega); have hfz2 := hfz (j5 * 2 + 1); clear hj5 hon hfz)
              go_region
              go_wp2
              go_roundw
              case rel => exact ⟨k + 1, n5, c5, _, by omega, by go_num, rfl, Lib.hid (by rw [HW.out.2]; exact HLL.out _), by omega, Lib.hid (by rw [HW.out.2]; have h := last_set (z := s.extract k (k + 1)) HS2.out (HLL.out _); rw [HJ5.out] at h; exact h), (HB5.out.setCell (p := ⟨g, j5 * 2 + 1, none⟩) hgb _).drew, HN2⟩
              case measure => simp [intOf]; omega
      · obtain ⟨j, hj⟩ : ∃ j, k = j + 1 := ⟨k - 1, by omega⟩
        have hjs : j < s.size := by omega
        have ej := byte_bt s j hjs
        have b1 : ((k : Int) == 0) = false := by simp; omega
        have b2 : (k : Int) - 1 = (j : Int) := by omega
        have b5 : k - 1 = j := by omega
        have b3 : decide ((0 : Int) ≤ (j : Int)) = true := decide_eq_true (by omega)
        by_cases hj32 : bt s j = 32
        · have hp : pbeg 32 s k = k := hbh.2 (.inr (by rw [b5]; exact hj32))
          have b4 : (((s[j]'hjs).toNat : Int) == 32) = true := by simp; omega
          clear hj hk0 hj32 ej b5
          by_cases d1 : ((s[k]'hlt).toNat : Int) < 32
          · have q1 : (((s[k]'hlt).toNat : Int) == 32) = false := by simp; omega
            have HE := Lib.hid (split_bad hlt (.inl (by omega)) HN.out)
            clear hble hbh eb
            go_wp2
            go_ret3
            rw [← HV.out, HE.out]
            exact ⟨_, rfl, OwnW.nil _ _ _, hb⟩
          · by_cases d2 : (126 : Int) < ((s[k]'hlt).toNat : Int)
            · have q1 : (((s[k]'hlt).toNat : Int) == 32) = false := by simp; omega
              have HE := Lib.hid (split_bad hlt (.inr (.inl (by omega))) HN.out)
              clear hble hbh eb
              go_wp2
              go_ret3
              rw [← HV.out, HE.out]
              exact ⟨_, rfl, OwnW.nil _ _ _, hb⟩
            · by_cases d3 : ((s[k]'hlt).toNat : Int) = 32
              · have q1 : (((s[k]'hlt).toNat : Int) == 32) = true := by simp; omega
                have HE := Lib.hid (split_bad hlt (.inr (.inr ⟨by omega, hp⟩)) HN.out)
                clear d3 hble hbh eb
                go_wp2
                go_ret3
                rw [← HV.out, HE.out]
                exact ⟨_, rfl, OwnW.nil _ _ _, hb⟩
              · have q1 : (((s[k]'hlt).toNat : Int) == 32) = false := by simp; omega
                have hnb : ¬ bad s k := by rintro (h | h | ⟨h, _⟩) <;> omega
                have HN2 := Lib.hid (not_bad HN.out hnb)
                have HW := Lib.hid (refW_begin (show bt s k ≠ 32 by omega) hp)
                have HO1 : Hid (OwnW 71 w.heap.size wr (.slice A n c) (pdone 32 s k)) := Lib.hid (by rw [← HW.out.1]; exact HO.out)
                have hpl := pdone_len 32 s k
                clear d3 hble hbh eb hnb hp
                have i1 : (k : Int) ≤ (k : Int) + 1 := by omega
                have i2 : (k : Int) + 1 ≤ (s.size : Int) := by omega
                have z1 : (s.extract k (k + 1)).size = 1 := by rw [ByteArray.size_extract]; omega
                have r1 : ∀ W : World, (Op.stringOp .add ⟨#[]⟩ (s.extract k (k + 1))).run Tryd.prog W = .ok (.string (s.extract k (k + 1))) W := fun W => by
                  have h := run_string_add_sum (P := Tryd.prog) W ⟨#[]⟩ (s.extract k (k + 1)) (by rw [z1]; decide)
                  rw [show (⟨#[]⟩ : ByteArray) ++ s.extract k (k + 1) = s.extract k (k + 1) from ba_ext (by simp [ByteArray.data_append])] at h
                  exact h
                go_wp2_with (at_builtin; refine wpList_append_own _ rfl _ _ 68 rfl w.heap.size 71 i0 (.agg #[.int .i64 0, .string ⟨#[]⟩]) 2 24 Tryd.underlying68 hi hz0 hz1 hz2 rfl (by decide) _ _ _ rfl (World.ownsRow.alloc HO1.out _) ⟨wr.heap.size, 0, none⟩ 1 1 [.int .i64 k, .string ⟨#[]⟩] rfl rfl (word_news rfl) word_cells (by unfold maxLen; omega) (by omega) (by simp; omega) ?_; intro v5 w5 hown5 hgrow5 _; have HS := Lib.hid (OwnW.snoc hown5); have HB5 := Lib.hid ((b_al hb (Nat.le_refl _) (.cells #[.int .i64 k, .string ⟨#[]⟩] 71)).grown hgrow5 (by simp; omega) (fun q hq => (World.ownsRow.lt HO1.out q hq).1)); clear hown5 hgrow5; obtain ⟨A5, c5, rfl, _⟩ := HS.out.read; obtain ⟨n5, hn5⟩ : ∃ n5, (pdone 32 s k ++ [(k, (⟨#[]⟩ : ByteArray))]).length = n5 := ⟨_, rfl⟩; have HN5 := Lib.hid hn5; have HS2 : Hid (OwnW 71 w.heap.size w5 (.slice A5 n5 c5) (pdone 32 s k ++ [(k, (⟨#[]⟩ : ByteArray))])) := Lib.hid (by rw [← hn5]; exact HS.out); rw [hn5]; clear HS; obtain ⟨g, rfl, hgb, hgl, hcell, hfz⟩ := last_cell HS2.out hn5; have hon := hn5; rw [List.length_append] at hon; clear hn5; have HLL := Lib.hid (fun (z : ByteArray) => show (pdone 32 s k ++ [(k, z)]).length = n5 by rw [List.length_append]; exact hon); obtain ⟨j5, hj5⟩ : ∃ j5, (pdone 32 s k).length = j5 := ⟨_, rfl⟩; have HJ5 := Lib.hid hj5; have hjk : j5 ≤ k := (by omega); have hjb : j5 ≤ 1000000 := (by omega); have hjn : (n5 : Int) - 1 = (j5 : Int) := (by simp at hon; omega); have hjl : j5 < n5 := (by simp at hon; omega); rw [hj5] at hcell; have hgj : decide ((0 : Int) ≤ (j5 : Int)) = true := decide_eq_true (by omega); have hfz2 := hfz (j5 * 2 + 1); clear hj5 hon hfz)
                go_region
                go_wp2
                go_roundw
                case rel => exact ⟨k + 1, n5, c5, _, by omega, by go_num, rfl, Lib.hid (by rw [HW.out.2]; exact HLL.out _), by omega, Lib.hid (by rw [HW.out.2]; have h := last_set (z := s.extract k (k + 1)) HS2.out (HLL.out _); rw [HJ5.out] at h; exact h), (HB5.out.setCell (p := ⟨g, j5 * 2 + 1, none⟩) hgb _).drew, HN2⟩
                case measure => simp [intOf]; omega
        · have hp : pbeg 32 s k ≠ k := fun h => by
            rcases hbh.1 h with h | h
            · omega
            · rw [b5] at h; exact hj32 h
          have b4 : (((s[j]'hjs).toNat : Int) == 32) = false := by simp; omega
          clear hj hk0 hj32 ej b5
          by_cases d1 : ((s[k]'hlt).toNat : Int) < 32
          · have q1 : (((s[k]'hlt).toNat : Int) == 32) = false := by simp; omega
            have HE := Lib.hid (split_bad hlt (.inl (by omega)) HN.out)
            clear hble hbh eb
            go_wp2
            go_ret3
            rw [← HV.out, HE.out]
            exact ⟨_, rfl, OwnW.nil _ _ _, hb⟩
          · by_cases d2 : (126 : Int) < ((s[k]'hlt).toNat : Int)
            · have q1 : (((s[k]'hlt).toNat : Int) == 32) = false := by simp; omega
              have HE := Lib.hid (split_bad hlt (.inr (.inl (by omega))) HN.out)
              clear hble hbh eb
              go_wp2
              go_ret3
              rw [← HV.out, HE.out]
              exact ⟨_, rfl, OwnW.nil _ _ _, hb⟩
            · by_cases d3 : ((s[k]'hlt).toNat : Int) = 32
              · have q1 : (((s[k]'hlt).toNat : Int) == 32) = true := by simp; omega
                have hnb : ¬ bad s k := by rintro (h | h | ⟨_, h⟩) <;> omega
                have HN2 := Lib.hid (not_bad HN.out hnb)
                have HB := Lib.hid (refW_blank (s := s) (k := k) (by omega) hp)
                clear d3 hble hbh eb hnb
                go_wp2
                go_roundw
                case rel => exact ⟨k + 1, n, c, A, by omega, by go_num, rfl, Lib.hid (by rw [HB.out]; exact HL.out), by omega, Lib.hid (by rw [HB.out]; exact HO.out), hb, HN2⟩
                case measure => simp [intOf]; omega
              · have q1 : (((s[k]'hlt).toNat : Int) == 32) = false := by simp; omega
                have hnb : ¬ bad s k := by rintro (h | h | ⟨h, _⟩) <;> omega
                have HN2 := Lib.hid (not_bad HN.out hnb)
                obtain ⟨bg, hbg⟩ : ∃ bg, pbeg 32 s k = bg := ⟨_, rfl⟩
                have HW := Lib.hid (refW_more hlt (show bt s k ≠ 32 by omega) hbg (by omega))
                have hol : Hid ((pdone 32 s k ++ [(bg, s.extract bg k)]).length = n) := Lib.hid (by rw [← HW.out.1]; exact HL.out)
                have HO2 : Hid (OwnW 71 w.heap.size wr (.slice A n c) (pdone 32 s k ++ [(bg, s.extract bg k)])) := Lib.hid (by rw [← HW.out.1]; exact HO.out)
                obtain ⟨g, rfl, hgb, hgl, hcell, hfz⟩ := last_cell HO2.out hol.out
                have hon := hol.out
                rw [List.length_append] at hon
                have hzo : (s.extract bg k).size ≤ 1000000 := by rw [ByteArray.size_extract]; omega
                have HLL := Lib.hid (fun (z : ByteArray) => show (pdone 32 s k ++ [(bg, z)]).length = n by rw [List.length_append]; exact hon)
                generalize s.extract bg k = old at HW HO2 hcell hzo
                obtain ⟨j5, hj5⟩ : ∃ j5, (pdone 32 s k).length = j5 := ⟨_, rfl⟩
                have HJ5 := Lib.hid hj5
                have hjn : (n : Int) - 1 = (j5 : Int) := by simp at hon; omega
                have hjl : j5 < n := by simp at hon; omega
                have hgj : decide ((0 : Int) ≤ (j5 : Int)) = true := decide_eq_true (by omega)
                rw [hj5] at hcell
                have hfz2 := hfz (j5 * 2 + 1)
                clear hj5 hon hfz d3 hble hbh eb hnb hp hbg
                have i1 : (k : Int) ≤ (k : Int) + 1 := by omega
                have i2 : (k : Int) + 1 ≤ (s.size : Int) := by omega
                have z1 : (s.extract k (k + 1)).size = 1 := by rw [ByteArray.size_extract]; omega
                have r1 : ∀ W : World, (Op.stringOp .add old (s.extract k (k + 1))).run Tryd.prog W = .ok (.string (old ++ s.extract k (k + 1))) W := fun W => run_string_add_sum W _ _ (by rw [z1]; omega)
                go_wp2
                go_region
                go_wp2
                go_roundw
                case rel => exact ⟨k + 1, n, c, _, by omega, by go_num, rfl, Lib.hid (by rw [HW.out.2]; exact HLL.out _), by omega, Lib.hid (by rw [HW.out.2]; have h := last_set (z := old ++ s.extract k (k + 1)) HO2.out (HLL.out _); rw [HJ5.out] at h; exact h), (hb.setCell (p := ⟨g, j5 * 2 + 1, none⟩) hgb _).drew, HN2⟩
                case measure => simp [intOf]; omega
    · have hks : k = s.size := by omega
      have HK := Lib.hid hks
      have HN' : Hid (∀ j, j < s.size → ¬ bad s j) := Lib.hid (by rw [← hks]; exact HN.out)
      clear hks
      have h0 := H0.out
      obtain ⟨j, hj⟩ : ∃ j, s.size = j + 1 := ⟨s.size - 1, by omega⟩
      have hjs : j < s.size := by omega
      have ej := byte_bt s j hjs
      have g0 : 0 < s.size := by omega
      have b0 : (0 : Int) < (s.size : Int) := by omega
      have b2 : (s.size : Int) - 1 = (j : Int) := by omega
      have b5 : s.size - 1 = j := by omega
      have b3 : decide ((0 : Int) ≤ (j : Int)) = true := decide_eq_true (by omega)
      have hbh := pbeg_here 32 s s.size
      by_cases hj32 : bt s j = 32
      · have HE := Lib.hid (split_end h0 HN'.out (hbh.2 (.inr (by rw [b5]; exact hj32))))
        have b4 : (((s[j]'hjs).toNat : Int) == 32) = true := by simp; omega
        clear hj hj32 ej b5 hbh h0
        go_wp2
        go_ret3
        rw [← HV.out, HE.out]
        exact ⟨_, rfl, OwnW.nil _ _ _, hb⟩
      · have HE := Lib.hid (refW_end h0 HN'.out (fun h => by
          rcases hbh.1 h with h | h
          · exact h0 h
          · rw [b5] at h; exact hj32 h))
        have b4 : (((s[j]'hjs).toNat : Int) == 32) = false := by simp; omega
        clear hj hj32 ej b5 hbh h0
        go_wp2
        go_ret3
        rw [← HV.out, HE.out]
        exact ⟨_, rfl, by have h := HO.out; rw [HK.out] at h; exact h, hb⟩

end Go.Proofs.YtdepglceffpfhaaDoor
