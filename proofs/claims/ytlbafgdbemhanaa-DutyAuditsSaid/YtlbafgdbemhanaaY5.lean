/- Several texts in one: RecKinds, RecCheckR, RecSmall, FindSame, MeterBit, DutySetR, DutyRefC, DutyLight, DutyRefA. Conditions: none beyond each lemma's own premises. -/
import Derived.Test.YtlbafgdbemhanaaRows
import Derived.Test.YtlbafgdbemhanaaBase
import Derived.Test.YtlbafgdbemhanaaZ2
import Derived.Test.YtlbafgdbemhanaaZ1
import Derived.WalkKit
import Derived.WalkSpells
import Derived.WalkSmall
import Derived.Below
import Derived.Outline
import Derived.OwnWalk
import Derived.Lib.Hide
import Derived.BigQuiet
import Derived.Deep.QuietTactic
import Derived.Test.YtlbafgdbemhanaaRecCheck
import Derived.Test.YtlbafgdbemhanaaZ3
import Derived.Test.YtlbafgdbemhanaaDutySet
import Derived.Test.YtlbafgdbemhanaaBookLim
import Derived.Test.YtlbafgdbemhanaaZ4
import Derived.Test.YtlbafgdbemhanaaBookMayR
import Derived.BigRegion
import Derived.Test.YtlbafgdbemhanaaY1
import Derived.Test.YtlbafgdbemhanaaDutyAudit
import Derived.Test.YtlbafgdbemhanaaY2
import Derived.Test.YtlbafgdbemhanaaY3
import Derived.Test.YtlbafgdbemhanaaY4

/- What the document's own Kinds of layer 8 returns: the kind of each minute of a timeline. Conditions: the records can be read, and are a timeline. -/
namespace Go.Proofs.Ytlbafgdbemhanaa
open Go.RowKit

theorem rep_more (ks : List Int) (q : Nat) (x : Int) : ks ++ List.replicate (q + 1) x = ks ++ List.replicate q x ++ [x] := by
  rw [List.replicate_succ', List.append_assoc]

set_option maxRecDepth 100000 in
set_option maxHeartbeats 4000000 in
theorem refkinds_any (A : Option Addr) (c : Nat) (l : List Rc) (w : World) (h : RdR w A l) {e : Int} (ht : Tl e l) (hl : l.length ≤ 4611686018427387904) :
    Calls Try.prog 29 #[.slice A l.length c] w fun e w' => ∃ v, e = .returned v ∧ OwnN w.heap.size w' v (kindsV l) ∧ Below w.heap.size w w' := by
  obtain ⟨i1, hj, hy0, hy1, hy2⟩ := info_parts info_int
  have HR := Lib.hid h
  have HT := Lib.hid ht
  clear h ht
  go_enter Try.func29, Try.ntmps29
  go_wp2
  go_loopw [3, 4] (fun v i wr => ∃ (k n : Nat) (A' : Option Addr) (c' : Nat), k ≤ l.length ∧ i = .int .i64 k ∧ v = .slice A' n c' ∧ Hid ((kindsV (l.take k)).length = n) ∧
      Hid (OwnN w.heap.size wr (.slice A' n c') (kindsV (l.take k))) ∧ Below w.heap.size w wr) (fun _ i _ => l.length - (intOf i).toNat)
  case atStart => exact ⟨0, 0, none, 0, Nat.zero_le _, rfl, rfl, Lib.hid rfl, Lib.hid (OwnN.nil _ _), Below.refl _ _⟩
  case round =>
    obtain ⟨k, n, A', c', hk, rfl, rfl, HON, hown, hb⟩ := hrel
    obtain ⟨w2, rfl⟩ : ∃ w2 : World, w2 = wr := ⟨_, rfl⟩
    have hsz := hb.size
    by_cases hlt : k < l.length
    · obtain ⟨b, off, x, y, z, rfl, hbb, hc0, hc1, hc2, hs⟩ := HR.out.at_ hlt
      have HC := Lib.hid (And.intro hc0 hc2)
      rw [← hb.cell (p := ⟨b, _, none⟩) hbb] at hc0 hc1 hc2
      have hbr : b < w2.heap.size := by omega
      have KM := Lib.hid (kinds_more hlt hs.out)
      have KL := Nat.le_trans (kinds_take l (k + 1)) HT.out.short
      have bd := HT.out.at_ k hlt
      rw [hs.out] at bd
      obtain ⟨_, bd0, bd1, bd2⟩ := bd
      obtain ⟨ks, hks⟩ : ∃ ks, kindsV (l.take k) = ks := ⟨_, rfl⟩
      rw [hks] at HON hown KM
      rw [KM.out, List.length_append, List.length_replicate, HON.out] at KL
      clear hks hs
      go_wp2
      go_loopw [3, 5] (fun v m w4 => ∃ (q n4 : Nat) (A4 : Option Addr) (c4 : Nat), y + (q : Int) ≤ z ∧ m = .int .i64 (y + (q : Int)) ∧ v = .slice A4 n4 c4 ∧ Hid ((ks ++ List.replicate q x).length = n4) ∧ n4 = n + q ∧
          Hid (OwnN w.heap.size w4 (.slice A4 n4 c4) (ks ++ List.replicate q x)) ∧ Below w.heap.size w w4) (fun _ m _ => (z - intOf m).toNat)
      case atStart => exact ⟨0, n, A', c', by omega, by simp, rfl, Lib.hid (by simpa using HON.out), rfl, Lib.hid (by simpa using hown.out), hb⟩
      case round =>
        clear hc0 hc1 hc2
        obtain ⟨q, n4, A4, c4, hq, rfl, rfl, HON4, hn4, hown4, hb4⟩ := hrel
        obtain ⟨w4, rfl⟩ : ∃ w4 : World, w4 = wr := ⟨_, rfl⟩
        have hsz4 := hb4.size
        obtain ⟨hc0, hc2⟩ := HC.out
        rw [← hb4.cell (p := ⟨b, _, none⟩) hbb] at hc0 hc2
        have hbr4 : b < w4.heap.size := by omega
        by_cases hqz : y + (q : Int) < z
        · have RM := Lib.hid (rep_more ks q x)
          have hnb : (ks ++ List.replicate q x).length ≤ 40320 := by have := HON4.out; omega
          have HL5 := Lib.hid (show (ks ++ List.replicate q x ++ [x]).length = n4 + 1 by rw [List.length_append, HON4.out]; rfl)
          have HN4 := Lib.hid hn4
          clear hn4
          go_wp2_with (at_builtin; refine wpList_append_own _ rfl _ _ 59 rfl w.heap.size 3 i1 (.int .i64 0) 1 8 Try.underlying59 hj hy0 hy1 hy2 rfl (by decide) _ _ _ rfl (OwnN.alloc hown4.out _) ⟨w4.heap.size, 0, none⟩ 1 1 [.int .i64 x] rfl rfl (int_news rfl) int_cells (by unfold maxLen; omega) (by omega) (by have := hb4.size; simp; omega) ?_; intro v5 w5 hown5 hgrow5 _; have HS := Lib.hid (OwnN.snoc hown5); have HB5 := Lib.hid ((hb4.alloc hb4.size (.cells #[.int .i64 x] 3)).grown hgrow5 (by have := hb4.size; simp; omega) (fun q hq => (World.ownsRow.lt hown4.out q hq).1)); clear hown5 hgrow5)
          obtain ⟨A5, c5, rfl, _⟩ := HS.out.read
          go_wp2
          go_roundw
          case rel => exact ⟨q + 1, n4 + 1, A5, c5, by omega, by go_num, by rw [HL5.out], Lib.hid (by rw [RM.out]; exact HL5.out), by have := HN4.out; omega, Lib.hid (by rw [RM.out]; have := HS.out; rw [HL5.out] at this; exact this), HB5.out⟩
          case measure => simp [intOf]; omega
        · have hqd : q = (z - y).toNat := by omega
          have KE := Lib.hid (KM.out.trans (by rw [← hqd]))
          clear hqd hn4
          go_wp2
          go_roundw
          case rel => exact ⟨k + 1, n4, A4, c4, by omega, by go_num, rfl, Lib.hid (by rw [KE.out]; exact HON4.out), Lib.hid (by rw [KE.out]; exact hown4.out), hb4⟩
          case measure => simp [intOf]; omega
    · have hkl : k = l.length := by omega
      subst hkl
      have HE := Lib.hid (show kindsV (l.take l.length) = kindsV l by rw [List.take_of_length_le (Nat.le_refl _)])
      rw [HE.out] at hown
      go_wp2
      go_ret
      exact ⟨_, rfl, hown.out, hb⟩

end Go.Proofs.Ytlbafgdbemhanaa

/- What the document's own Check of layer 8 returns: the first record that is wrong, and what is wrong with it. Conditions: the records can be read. -/
namespace Go.Proofs.Ytlbafgdbemhanaa
open Go.RowKit

theorem fault_is {l : List Rc} {k : Nat} {x y z e : Int} (h : l.getD k rz = (x, y, z)) (ha : aloneV x y z = e) (he : e ≠ 0) : faultV l k = e := by
  rw [fault_alone h (by rw [ha]; exact he), ha]

set_option maxRecDepth 100000 in
set_option maxHeartbeats 4000000 in
theorem refrcheck_any (A : Option Addr) (c : Nat) (l : List Rc) (w : World) (h : RdR w A l) (hl : l.length ≤ 4611686018427387904) :
    Calls Try.prog 47 #[.slice A l.length c] w fun e w' => e = .returned (.tuple #[.int .i64 ((checkV l).1 : Nat), .int .i64 (checkV l).2]) ∧ Below w.heap.size w w' := by
  obtain ⟨V, hV⟩ : ∃ V, checkV l = V := ⟨_, rfl⟩
  have HV := Lib.hid hV
  rw [hV]
  clear hV
  go_enter Try.func47, Try.ntmps47
  go_wp2
  go_loopw [4] (fun i wr => ∃ k : Nat, k ≤ l.length ∧ i = .int .i64 k ∧ Below w.heap.size w wr ∧ Hid (∀ j, j < k → faultV l j = 0)) (fun i _ => l.length - (intOf i).toNat)
  case atStart => exact ⟨0, Nat.zero_le _, rfl, Below.refl _ _, Lib.hid (fun j hj => by omega)⟩
  case round =>
    obtain ⟨k, hk, rfl, hb, hn⟩ := hrel
    obtain ⟨w2, rfl⟩ : ∃ w2 : World, w2 = wr := ⟨_, rfl⟩
    have hsz := hb.size
    by_cases hlt : k < l.length
    · obtain ⟨b, off, x, y, z, rfl, hbb, hc0, hc1, hc2, hs⟩ := h.at_ hlt
      have HX := Lib.hid h
      rw [← hb.cell (p := ⟨b, _, none⟩) hbb] at hc0 hc1 hc2
      have hbr : b < w2.heap.size := by omega
      by_cases hh0 : x < 0
      · have HE := Lib.hid (check_bad hlt hn.out (fault_is hs.out (e := 2) (by unfold aloneV; rw [if_neg (by omega)]) (by decide)) (by decide))
        go_wp2
        go_ret2
        rw [← HV.out, HE.out]
        exact ⟨rfl, hb.alloc hsz _⟩
      · have hm0 : 0 ≤ x := by omega
        clear hh0
        by_cases hh1 : 3 < x
        · have HE := Lib.hid (check_bad hlt hn.out (fault_is hs.out (e := 2) (by unfold aloneV; rw [if_neg (by omega)]) (by decide)) (by decide))
          go_wp2
          go_ret2
          rw [← HV.out, HE.out]
          exact ⟨rfl, hb.alloc hsz _⟩
        · have hm1 : x ≤ 3 := by omega
          clear hh1
          by_cases hh2 : y < 0
          · have HE := Lib.hid (check_bad hlt hn.out (fault_is hs.out (e := 4) (by unfold aloneV; rw [if_pos (by omega), if_neg (by omega)]) (by decide)) (by decide))
            go_wp2
            go_ret2
            rw [← HV.out, HE.out]
            exact ⟨rfl, hb.alloc hsz _⟩
          · have hm2 : 0 ≤ y := by omega
            clear hh2
            by_cases hh3 : 40320 < y
            · have HE := Lib.hid (check_bad hlt hn.out (fault_is hs.out (e := 4) (by unfold aloneV; rw [if_pos (by omega), if_neg (by omega)]) (by decide)) (by decide))
              go_wp2
              go_ret2
              rw [← HV.out, HE.out]
              exact ⟨rfl, hb.alloc hsz _⟩
            · have hm3 : y ≤ 40320 := by omega
              clear hh3
              by_cases hh4 : z < 0
              · have HE := Lib.hid (check_bad hlt hn.out (fault_is hs.out (e := 4) (by unfold aloneV; rw [if_pos (by omega), if_neg (by omega)]) (by decide)) (by decide))
                go_wp2
                go_ret2
                rw [← HV.out, HE.out]
                exact ⟨rfl, hb.alloc hsz _⟩
              · have hm4 : 0 ≤ z := by omega
                clear hh4
                by_cases hh5 : 40320 < z
                · have HE := Lib.hid (check_bad hlt hn.out (fault_is hs.out (e := 4) (by unfold aloneV; rw [if_pos (by omega), if_neg (by omega)]) (by decide)) (by decide))
                  go_wp2
                  go_ret2
                  rw [← HV.out, HE.out]
                  exact ⟨rfl, hb.alloc hsz _⟩
                · have hm5 : z ≤ 40320 := by omega
                  clear hh5
                  by_cases hh6 : z ≤ y
                  · have HE := Lib.hid (check_bad hlt hn.out (fault_is hs.out (e := 3) (by unfold aloneV; rw [if_pos (by omega), if_pos (by omega), if_neg (by omega)]) (by decide)) (by decide))
                    go_wp2
                    go_ret2
                    rw [← HV.out, HE.out]
                    exact ⟨rfl, hb.alloc hsz _⟩
                  · have hm6 : y < z := by omega
                    clear hh6
                    have HA := Lib.hid (alone_zero.2 (show (0 ≤ x ∧ x < 4) ∧ (0 ≤ y ∧ y < z ∧ z ≤ 40320) by omega))
                    have q1 : ∀ p : BelowOf (w2.alloc (.cells #[.int .i64 x, .int .i64 y, .int .i64 z] 48)), p.world.cell? ⟨w2.heap.size, 0, none⟩ = some (.int .i64 x) := fun p => p.cell (by simp)
                    have q2 : ∀ p : BelowOf (w2.alloc (.cells #[.int .i64 x, .int .i64 y, .int .i64 z] 48)), p.world.cell? ⟨w2.heap.size, 1, none⟩ = some (.int .i64 y) := fun p => p.cell (by simp)
                    have q3 : ∀ p : BelowOf (w2.alloc (.cells #[.int .i64 x, .int .i64 y, .int .i64 z] 48)), p.world.cell? ⟨w2.heap.size, 2, none⟩ = some (.int .i64 z) := fun p => p.cell (by simp)
                    by_cases hk0 : k = 0
                    · subst hk0
                      simp only [Nat.zero_mul, Nat.add_zero] at hc0 hc1 hc2
                      have HN := Lib.hid (fault_one (by rw [fault_first hs.out, HA.out]))
                      have hg : decide ((0 : Int) < 0) = false := by decide
                      go_wp2
                      refine wp_region_bel (by kernel_rfl) (by kernel_rfl) ?_
                      repeat (go_big_quiet_step (first | (fail)))
                      refine wpQuiet_nil ?_
                      refine bel_all fun wq hbq => ?_
                      clear q1 q2 q3
                      have HB := (hb.alloc hsz (.cells #[.int .i64 x, .int .i64 y, .int .i64 z] 48)).trans (hbq.mono (by simp; omega))
                      go_wp2
                      refine wp_region_bel (by kernel_rfl) (by kernel_rfl) ?_
                      repeat (go_big_quiet_step (fail))
                      refine wpQuiet_nil ?_
                      refine bel_all fun wq2 hbq2 => ?_
                      go_wp2
                      go_roundw
                      case rel => exact ⟨0 + 1, by omega, by go_num, HB.trans (hbq2.mono HB.size), HN⟩
                      case measure => simp [intOf]; omega
                    · obtain ⟨j, hj⟩ : ∃ j, k = j + 1 := ⟨k - 1, by omega⟩
                      have HJ := Lib.hid hj
                      have hkj : (k : Int) - 1 = (j : Int) := by omega
                      have hjl : j < l.length := by omega
                      have hg1 : (0 : Int) < (k : Int) := by omega
                      have hg2 : decide (0 < k) = true := decide_eq_true (by omega)
                      clear hj hk0
                      obtain ⟨b2, off2, p_, q, r, he2, _, hd0, hd1, hd2, ht⟩ := HX.out.at_ hjl
                      simp only [Option.some.injEq, Addr.mk.injEq, and_true] at he2
                      obtain ⟨rfl, rfl⟩ := he2
                      rw [← hb.cell (p := ⟨b, _, none⟩) hbb] at hd0 hd1 hd2
                      have HF := Lib.hid (show faultV l k = behindV r y by rw [HJ.out, fault_next (by rw [← HJ.out]; exact hs.out) HA.out ht.out])
                      clear HX HJ
                      have q4 : ∀ p : BelowOf (w2.alloc (.cells #[.int .i64 x, .int .i64 y, .int .i64 z] 48)), p.world.cell? ⟨b, off + j * 3 + 2, none⟩ = some (.int .i64 r) := fun p => p.cell (c_al _ hd2)
                      have HB0 := hb.alloc hsz (.cells #[.int .i64 x, .int .i64 y, .int .i64 z] 48)
                      by_cases h8 : r < y
                      · have h8d : decide (r < y) = true := decide_eq_true h8
                        have HE := Lib.hid (check_bad hlt hn.out (HF.out.trans (show behindV r y = 5 by unfold behindV; rw [if_pos h8])) (by decide))
                        go_wp2
                        refine wp_region_bel (by kernel_rfl) (by kernel_rfl) ?_
                        repeat (go_big_quiet_step (first | (fail)))
                        refine wpQuiet_nil ?_
                        refine bel_all fun wq hbq => ?_
                        clear q1 q2 q3 q4
                        go_wp2
                        go_ret2
                        rw [← HV.out, HE.out]
                        exact ⟨rfl, HB0.trans (hbq.mono HB0.size)⟩
                      · have h8d : decide (r < y) = false := decide_eq_false h8
                        have h8' : y ≤ r := by omega
                        by_cases h9 : y < r
                        · have h9d : decide (y < r) = true := decide_eq_true h9
                          have HE := Lib.hid (check_bad hlt hn.out (HF.out.trans (show behindV r y = 6 by unfold behindV; rw [if_neg h8, if_pos h9])) (by decide))
                          clear h8
                          go_wp2
                          refine wp_region_bel (by kernel_rfl) (by kernel_rfl) ?_
                          repeat (go_big_quiet_step (first | (fail)))
                          refine wpQuiet_nil ?_
                          refine bel_all fun wq hbq => ?_
                          clear q1 q2 q3 q4
                          have q5 : ∀ p : BelowOf wq, p.world.cell? ⟨w2.heap.size, 1, none⟩ = some (.int .i64 y) := fun p => p.cell (c_cl (by simp) hbq)
                          have q6 : ∀ p : BelowOf wq, p.world.cell? ⟨b, off + j * 3 + 2, none⟩ = some (.int .i64 r) := fun p => p.cell (c_cl (c_al _ hd2) hbq)
                          go_wp2
                          refine wp_region_bel (by kernel_rfl) (by kernel_rfl) ?_
                          repeat (go_big_quiet_step (fail))
                          refine wpQuiet_nil ?_
                          refine bel_all fun wq2 hbq2 => ?_
                          clear q5 q6
                          go_wp2
                          go_ret2
                          rw [← HV.out, HE.out]
                          exact ⟨rfl, b_cl (HB0.trans (hbq.mono HB0.size)) (Nat.le_refl _) hbq2⟩
                        · have h9d : decide (y < r) = false := decide_eq_false h9
                          have h9' : r ≤ y := by omega
                          have HN := Lib.hid (show ∀ i, i < k + 1 → faultV l i = 0 from fun i hi => by
                            by_cases e : i = k
                            · rw [e, HF.out]; unfold behindV; rw [if_neg h8, if_neg h9]
                            · exact hn.out i (by omega))
                          clear h8 h9
                          go_wp2
                          refine wp_region_bel (by kernel_rfl) (by kernel_rfl) ?_
                          repeat (go_big_quiet_step (first | (fail)))
                          refine wpQuiet_nil ?_
                          refine bel_all fun wq hbq => ?_
                          clear q1 q2 q3 q4
                          have q5 : ∀ p : BelowOf wq, p.world.cell? ⟨w2.heap.size, 1, none⟩ = some (.int .i64 y) := fun p => p.cell (c_cl (by simp) hbq)
                          have q6 : ∀ p : BelowOf wq, p.world.cell? ⟨b, off + j * 3 + 2, none⟩ = some (.int .i64 r) := fun p => p.cell (c_cl (c_al _ hd2) hbq)
                          go_wp2
                          refine wp_region_bel (by kernel_rfl) (by kernel_rfl) ?_
                          repeat (go_big_quiet_step (fail))
                          refine wpQuiet_nil ?_
                          refine bel_all fun wq2 hbq2 => ?_
                          clear q5 q6
                          go_wp2
                          go_roundw
                          case rel => exact ⟨k + 1, by omega, by go_num, b_cl (HB0.trans (hbq.mono HB0.size)) (Nat.le_refl _) hbq2, HN⟩
                          case measure => simp [intOf]; omega
    · have hkl : k = l.length := by omega
      have HE := Lib.hid (check_ok (l := l) (fun j hj => hn.out j (by omega)))
      go_wp2
      go_ret2
      rw [← HV.out, HE.out]
      exact ⟨rfl, hb⟩

end Go.Proofs.Ytlbafgdbemhanaa

/- What isTimeline of layer 8, and the document's own Right, Begin and End return. Conditions: the records can be read. -/
namespace Go.Proofs.Ytlbafgdbemhanaa
open Go.RowKit

theorem beg_at {l : List Rc} {n : Nat} {x y z : Int} (hn : l.length = n) (h0 : n ≠ 0) (h : l.getD 0 rz = (x, y, z)) : beg l = y := by
  cases l with
  | nil => simp at hn; omega
  | cons r l => simp at h; simp [beg, h]

theorem fin_at : ∀ {l : List Rc} {j : Nat} {x y z : Int}, l.length = j + 1 → l.getD j rz = (x, y, z) → fin l = z
  | [r], 0, x, y, z, _, h => by simp at h; simp [fin, h]
  | [r], j + 1, x, y, z, hl, _ => by simp at hl
  | r :: s :: l, 0, x, y, z, hl, _ => by simp at hl
  | r :: s :: l, j + 1, x, y, z, hl, h => by
    have := @fin_at (s :: l) j x y z (by simpa using hl) (by simpa using h)
    simpa [fin] using this

theorem refbeg_any (A : Option Addr) (c n : Nat) (l : List Rc) (w : World) (hn : Hid (l.length = n)) (h : RdR w A l) (hl : n ≤ 4611686018427387904) :
    Calls Try.prog 48 #[.slice A n c] w fun e w' => e = .returned (.int .i64 (beg l)) ∧ w = w' := by
  by_cases h0 : n = 0
  · subst h0
    obtain rfl : l = [] := List.eq_nil_of_length_eq_zero hn.out
    go_enter Try.func48, Try.ntmps48
    go_wp2
    go_ret
    exact ⟨rfl, rfl⟩
  · obtain ⟨b, off, x, y, z, rfl, hbb, hc0, hc1, hc2, hs⟩ := h.at_ (k := 0) (by rw [hn.out]; omega)
    simp only [Nat.zero_mul, Nat.add_zero] at hc0 hc1 hc2
    rw [beg_at hn.out h0 hs.out]
    have hp : (0 : Int) < (n : Int) := by omega
    have hp2 : 0 < n := by omega
    have hne : ((n : Int) == 0) = false := by simp; omega
    clear h0
    go_enter Try.func48, Try.ntmps48
    go_wp2
    go_ret
    exact ⟨rfl, rfl⟩

theorem reffin_any (A : Option Addr) (c n : Nat) (l : List Rc) (w : World) (hn : Hid (l.length = n)) (h : RdR w A l) (hl : n ≤ 4611686018427387904) :
    Calls Try.prog 17 #[.slice A n c] w fun e w' => e = .returned (.int .i64 (fin l)) ∧ w = w' := by
  by_cases h0 : n = 0
  · subst h0
    obtain rfl : l = [] := List.eq_nil_of_length_eq_zero hn.out
    go_enter Try.func17, Try.ntmps17
    go_wp2
    go_ret
    exact ⟨rfl, rfl⟩
  · obtain ⟨j, hj⟩ : ∃ j, n = j + 1 := ⟨n - 1, by omega⟩
    obtain ⟨b, off, x, y, z, rfl, hbb, hc0, hc1, hc2, hs⟩ := h.at_ (k := j) (by rw [hn.out]; omega)
    rw [fin_at (hn.out.trans hj) hs.out]
    have hnj : (n : Int) - 1 = (j : Int) := by omega
    have hjn : j < n := by omega
    have hne : ((n : Int) == 0) = false := by simp; omega
    clear h0 hj
    go_enter Try.func17, Try.ntmps17
    go_wp2
    go_ret
    exact ⟨rfl, rfl⟩

end Go.Proofs.Ytlbafgdbemhanaa

/- What the document's own Same of layer 15 returns. Conditions: the findings can be read. -/
namespace Go.Proofs.Ytlbafgdbemhanaa
open Go.RowKit

theorem samef_go {a b : List Rc} {k : Nat} (h : a.length = b.length) (hk : a.length ≤ k) (hn : ∀ j, j < k → a.getD j rz = b.getD j rz) : decide (a = b) = true := by
  refine decide_eq_true (List.ext_getElem h fun i h1 h2 => ?_)
  have := hn i (by omega)
  simpa [List.getD, h1, h2] using this

theorem samef_no {a b : List Rc} {k : Nat} (h : a.getD k rz ≠ b.getD k rz) : decide (a = b) = false := by
  refine decide_eq_false fun e => h (by rw [e])

set_option maxHeartbeats 1600000 in
theorem sameF_even (A B : Option Addr) (c d n : Nat) (a b : List Rc) (w : World) (hna : Hid (a.length = n)) (hnb : Hid (b.length = n)) (ha : RdF w A a) (hb : RdF w B b) (hl : n ≤ 4611686018427387904) :
    Calls Try.prog 12 #[.slice A n c, .slice B n d] w fun e w' => e = .returned (.bool (decide (a = b))) ∧ Below w.heap.size w w' := by
  go_enter Try.func12, Try.ntmps12
  go_wp2
  go_loopw [5] (fun i wr => ∃ k : Nat, k ≤ n ∧ i = .int .i64 k ∧ Below w.heap.size w wr ∧ Hid (∀ j, j < k → a.getD j rz = b.getD j rz)) (fun i _ => n - (intOf i).toNat)
  case atStart => exact ⟨0, Nat.zero_le _, rfl, Below.refl _ _, Lib.hid (by omega)⟩
  case round =>
    obtain ⟨k, hk, rfl, hbw, hn⟩ := hrel
    have hsz := hbw.size
    by_cases hlt : k < n
    · obtain ⟨b1, off, x, y, z, rfl, hbb, hc0, hc1, hc2, hs⟩ := ha.at_ (k := k) (by rw [hna.out]; exact hlt)
      obtain ⟨b2, off2, x2, y2, z2, rfl, hbb2, hd0, hd1, hd2, hs2⟩ := hb.at_ (k := k) (by rw [hnb.out]; exact hlt)
      rw [← hbw.cell (p := ⟨b1, _, none⟩) hbb] at hc0 hc1 hc2
      rw [← hbw.cell (p := ⟨b2, _, none⟩) hbb2] at hd0 hd1 hd2
      have q0 : ∀ p : BelowOf wr, p.world.cell? ⟨b1, off + k * 3, none⟩ = some (.int .i64 x) := fun p => p.cell hc0
      have q1 : ∀ p : BelowOf wr, p.world.cell? ⟨b1, off + k * 3 + 1, none⟩ = some (.int .i64 y) := fun p => p.cell hc1
      have q2 : ∀ p : BelowOf wr, p.world.cell? ⟨b1, off + k * 3 + 2, none⟩ = some (.int .i64 z) := fun p => p.cell hc2
      have q3 : ∀ p : BelowOf wr, p.world.cell? ⟨b2, off2 + k * 3, none⟩ = some (.int .i64 x2) := fun p => p.cell hd0
      have q4 : ∀ p : BelowOf wr, p.world.cell? ⟨b2, off2 + k * 3 + 1, none⟩ = some (.int .i64 y2) := fun p => p.cell hd1
      have q5 : ∀ p : BelowOf wr, p.world.cell? ⟨b2, off2 + k * 3 + 2, none⟩ = some (.int .i64 z2) := fun p => p.cell hd2
      by_cases hx : x = x2
      · subst hx
        by_cases hy : y = y2
        · subst hy
          by_cases hz : z = z2
          · subst hz
            go_wp2
            refine wp_region_bel (by kernel_rfl) (by kernel_rfl) ?_
            repeat (go_big_quiet_step (first | (fail)))
            refine wpQuiet_nil ?_
            refine bel_all fun wq hbq => ?_
            clear q0 q1 q2 q3 q4 q5
            go_wp2
            go_roundw
            case rel => exact ⟨k + 1, by omega, by go_num, hbw.trans (hbq.mono hsz), Lib.hid (fun j hj => by
              by_cases e : j = k
              · subst e; rw [hs.out, hs2.out]
              · exact hn.out j (by omega))⟩
            case measure => simp [intOf]; omega
          · have e1 : (z == z2) = false := by simpa using hz
            have H := Lib.hid hz
            clear hz
            go_wp2
            refine wp_region_bel (by kernel_rfl) (by kernel_rfl) ?_
            repeat (go_big_quiet_step (first | (fail)))
            refine wpQuiet_nil ?_
            refine bel_all fun wq hbq => ?_
            clear q0 q1 q2 q3 q4 q5
            go_wp2
            go_ret
            refine ⟨?_, hbw.trans (hbq.mono hsz)⟩
            rw [samef_no (k := k) (by rw [hs.out, hs2.out]; intro e; simp only [Prod.mk.injEq] at e; exact H.out (by first | exact e.1 | exact e.2.1 | exact e.2.2))]; rfl
        · have e1 : (y == y2) = false := by simpa using hy
          have H := Lib.hid hy
          clear hy
          go_wp2
          refine wp_region_bel (by kernel_rfl) (by kernel_rfl) ?_
          repeat (go_big_quiet_step (first | (fail)))
          refine wpQuiet_nil ?_
          refine bel_all fun wq hbq => ?_
          clear q0 q1 q2 q3 q4 q5
          go_wp2
          go_ret
          refine ⟨?_, hbw.trans (hbq.mono hsz)⟩
          rw [samef_no (k := k) (by rw [hs.out, hs2.out]; intro e; simp only [Prod.mk.injEq] at e; exact H.out (by first | exact e.1 | exact e.2.1 | exact e.2.2))]; rfl
      · have e1 : (x == x2) = false := by simpa using hx
        have H := Lib.hid hx
        clear hx
        go_wp2
        refine wp_region_bel (by kernel_rfl) (by kernel_rfl) ?_
        repeat (go_big_quiet_step (first | (fail)))
        refine wpQuiet_nil ?_
        refine bel_all fun wq hbq => ?_
        clear q0 q1 q2 q3 q4 q5
        go_wp2
        go_ret
        refine ⟨?_, hbw.trans (hbq.mono hsz)⟩
        rw [samef_no (k := k) (by rw [hs.out, hs2.out]; intro e; simp only [Prod.mk.injEq] at e; exact H.out (by first | exact e.1 | exact e.2.1 | exact e.2.2))]; rfl
    · go_wp2
      go_ret
      refine ⟨?_, hbw⟩
      rw [samef_go (hna.out.trans hnb.out.symm) (by rw [hna.out]; omega) hn.out]; rfl

theorem sameF_any (A B : Option Addr) (c d n m : Nat) (a b : List Rc) (w : World) (hn : Hid (a.length = n)) (hm : Hid (b.length = m)) (ha : RdF w A a) (hb : RdF w B b) (hl : n ≤ 4611686018427387904) :
    Calls Try.prog 12 #[.slice A n c, .slice B m d] w fun e w' => e = .returned (.bool (decide (a = b))) ∧ Below w.heap.size w w' := by
  by_cases hlen : m = n
  · subst hlen
    exact sameF_even A B c d m a b w hn hm ha hb hl
  · have e : decide (a = b) = false := decide_eq_false fun e => hlen (by rw [← hn.out, ← hm.out, e])
    have hbl : ((n : Int) == (m : Int)) = false := by simp; omega
    rw [e]
    have H := Lib.hid hlen
    clear hlen e
    go_enter Try.func12, Try.ntmps12
    go_wp2
    go_ret
    exact ⟨rfl, Below.refl _ _⟩

end Go.Proofs.Ytlbafgdbemhanaa

/- What the document's bit and Or of layer 13 return. Conditions: as each theorem says. -/
namespace Go.Proofs.Ytlbafgdbemhanaa
open Go.RowKit

theorem bit_any (c : Int) (k : Nat) (b : Bool) (w : World) (hc : c = (k : Int)) (hk : k < 16) :
    Calls Try.prog 55 #[.int .i64 c, .bool b] w fun e w' => e = .returned (.int .i64 ((bitN k b : Nat) : Int)) ∧ w = w' := by
  subst hc
  obtain ⟨v, hv⟩ : ∃ v, bitN k b = v := ⟨_, rfl⟩
  rw [hv]
  have HV := Lib.hid hv
  clear hv
  go_enter Try.func55, Try.ntmps55
  go_wp2
  go_loop [5, 6] (fun n i => ∃ j : Nat, j ≤ k ∧ i = .int .i64 j ∧ ∃ p : Nat, p ≤ 65536 ∧ Hid (p = 2 ^ j) ∧ n = .int .i64 (p : Nat)) (fun _ i => k - (intOf i).toNat)
  case atStart => exact ⟨0, Nat.zero_le _, rfl, 1, by omega, Lib.hid rfl, rfl⟩
  case round =>
    obtain ⟨j, hj, rfl, p, hp, HP, rfl⟩ := hrel
    by_cases hlt : j < k
    case neg =>
      obtain rfl : j = k := by omega
      have hv := HV.out
      unfold bitN at hv
      rw [← HP.out] at hv
      clear HP HV hlt
      cases b with
      | true =>
        rw [if_pos rfl] at hv
        subst hv
        go_wp2
        go_ret
        exact ⟨rfl, rfl⟩
      | false =>
        rw [if_neg (by simp)] at hv
        subst hv
        go_wp2
        go_ret
        exact ⟨rfl, rfl⟩
    have hp2 : Hid (p * 2 = 2 ^ (j + 1)) := Lib.hid (by rw [HP.out, Nat.pow_succ])
    have hq : p * 2 ≤ 65536 := by
      rw [hp2.out]
      exact Nat.pow_le_pow_right (n := 2) (by omega) (by omega : j + 1 ≤ 16)
    go_wp2
    go_round
    case rel => exact ⟨j + 1, by omega, by go_num, p * 2, by omega, hp2, by go_num⟩
    case measure => simp [intOf]; omega

theorem bitN_test (k : Nat) (b : Bool) (j : Nat) : (bitN k b).testBit j = (decide (k = j) && b) := by
  unfold bitN
  cases b with
  | true => simp [Nat.testBit_two_pow]
  | false => simp

/-- The bits of a set below c. -/
theorem or_bits (a b : Nat) (c : Nat) (out : Nat) (h : out = (a ||| b) % 2 ^ c) : out + bitN c (a.testBit c || b.testBit c) = (a ||| b) % 2 ^ (c + 1) := by
  rw [h, ← Nat.testBit_or]
  generalize a ||| b = n
  rw [Nat.mod_pow_succ, Nat.testBit_eq_decide_div_mod_eq]
  unfold bitN
  have : n / 2 ^ c % 2 = 0 ∨ n / 2 ^ c % 2 = 1 := by omega
  rcases this with h | h <;> simp [h]

theorem quo_bit (a c : Nat) : ((((a : Int) / ((2 ^ c : Nat) : Int)) % 2 == 1)) = a.testBit c := by
  rw [Nat.testBit_eq_decide_div_mod_eq]
  have : ((a : Int) / ((2 ^ c : Nat) : Int)) % 2 = ((a / 2 ^ c % 2 : Nat) : Int) := by simp
  rw [this]
  have h : a / 2 ^ c % 2 = 0 ∨ a / 2 ^ c % 2 = 1 := by omega
  rcases h with h | h <;> rw [h] <;> rfl

theorem quo_t (a c : Nat) (ha : a < 1024) : (wrap64 ((a : Int) / ((2 ^ c : Nat) : Int))).tmod 2 = if a.testBit c then 1 else 0 := by
  rw [Nat.testBit_eq_decide_div_mod_eq]
  have e : ((a : Int) / ((2 ^ c : Nat) : Int)) = ((a / 2 ^ c : Nat) : Int) := by simp
  rw [e]
  have hl : a / 2 ^ c < 1024 := Nat.lt_of_le_of_lt (Nat.div_le_self _ _) ha
  generalize a / 2 ^ c = n at hl ⊢
  have hw : wrap64 (n : Int) = (n : Int) := by unfold wrap64; omega
  rw [hw]
  have h : n % 2 = 0 ∨ n % 2 = 1 := by omega
  have ht : ((n : Int)).tmod 2 = ((n % 2 : Nat) : Int) := by rw [Int.tmod_eq_emod_of_nonneg (by omega)]; omega
  rw [ht]
  rcases h with h | h <;> simp [h]

set_option maxRecDepth 20000 in
theorem or13_any (a b : Nat) (w : World) (ha : a < 1024) (hb : b < 1024) :
    Calls Try.prog 32 #[.int .i64 (a : Int), .int .i64 (b : Int)] w fun e w' => e = .returned (.int .i64 ((a ||| b : Nat) : Int)) ∧ w = w' := by
  have BI := fun (k : Nat) (hk : k < 16) W => bit_any (k : Int) k true W rfl hk
  have hab : a ||| b < 1024 := Nat.or_lt_two_pow (n := 10) ha hb
  obtain ⟨v, hv⟩ : ∃ v, a ||| b = v := ⟨_, rfl⟩
  rw [hv] at hab ⊢
  have HV := Lib.hid hv
  clear hv
  go_enter Try.func32, Try.ntmps32
  go_wp2
  go_loop [5, 6] (fun o i => ∃ j : Nat, j ≤ 16 ∧ i = .int .i64 j ∧ ∃ p : Nat, p ≤ 1024 ∧ Hid (p = v % 2 ^ j) ∧ o = .int .i64 (p : Nat)) (fun _ i => 16 - (intOf i).toNat)
  case atStart => exact ⟨0, Nat.zero_le _, rfl, 0, by omega, Lib.hid (by simp [Nat.mod_one]), rfl⟩
  case round =>
    obtain ⟨j, hj, rfl, p, hp, HP, rfl⟩ := hrel
    by_cases hlt : j < 16
    case neg =>
      obtain rfl : j = 16 := by omega
      have hpe := HP.out
      rw [Nat.mod_eq_of_lt (by omega)] at hpe
      subst hpe
      clear HP HV
      go_wp2
      go_ret
      exact ⟨rfl, rfl⟩
    have B := BI j hlt
    have Q1 := quo_t a j ha
    have Q2 := quo_t b j hb
    have OB : Hid (p + bitN j (a.testBit j || b.testBit j) = v % 2 ^ (j + 1)) := Lib.hid (by have := or_bits a b j p (by rw [HV.out]; exact HP.out); rwa [HV.out] at this)
    have OBL : p + bitN j (a.testBit j || b.testBit j) ≤ 1024 := by rw [OB.out]; exact Nat.le_trans (Nat.mod_le _ _) (by omega)
    clear BI HP
    unfold bitN at B OB OBL
    rw [if_pos rfl] at B
    have hq1 : 1 ≤ 2 ^ j := Nat.one_le_two_pow
    have hq2 : 2 ^ j ≤ 32768 := Nat.pow_le_pow_right (n := 2) (by omega) (by omega : j ≤ 15)
    generalize 2 ^ j = q at B Q1 Q2 OB OBL hq1 hq2
    have hqz : (q : Int) ≠ 0 := by omega
    cases h1 : a.testBit j with
    | true =>
      rw [h1] at Q1 OB OBL
      simp only [Bool.true_or, if_true] at OB OBL Q1
      clear Q2 h1
      go_wp2_with (go_at_call 55; (with_reducible refine (B _).mono ?_); rintro e w2 ⟨rfl, rfl⟩)
      go_round
      case rel => exact ⟨j + 1, by omega, by go_num, p + q, by omega, OB, by go_num⟩
      case measure => simp [intOf]; omega
    | false =>
      rw [h1] at Q1 OB OBL
      cases h2 : b.testBit j with
      | true =>
        rw [h2] at Q2 OB OBL
        simp only [Bool.false_or, if_true, Bool.false_eq_true, if_false] at OB OBL Q1 Q2
        clear h1 h2
        go_wp2_with (go_at_call 55; (with_reducible refine (B _).mono ?_); rintro e w2 ⟨rfl, rfl⟩)
        go_round
        case rel => exact ⟨j + 1, by omega, by go_num, p + q, by omega, OB, by go_num⟩
        case measure => simp [intOf]; omega
      | false =>
        rw [h2] at Q2 OB OBL
        simp only [Bool.false_or, Bool.false_eq_true, if_false, Nat.add_zero] at OB OBL Q1 Q2
        clear h1 h2
        go_wp2_with (go_at_call 55; (with_reducible refine (B _).mono ?_); rintro e w2 ⟨rfl, rfl⟩)
        go_round
        case rel => exact ⟨j + 1, by omega, by go_num, p, by omega, OB, by go_num⟩
        case measure => simp [intOf]; omega

end Go.Proofs.Ytlbafgdbemhanaa

/- What the document's Or and Set of layers 13 and 16 return, for sets of all sixteen clauses. Conditions: the findings can be read; at most a million. -/
namespace Go.Proofs.Ytlbafgdbemhanaa
open Go.RowKit

theorem quo_t16 (a c : Nat) (ha : a < 65536) : (wrap64 ((a : Int) / ((2 ^ c : Nat) : Int))).tmod 2 = if a.testBit c then 1 else 0 := by
  rw [Nat.testBit_eq_decide_div_mod_eq]
  have e : ((a : Int) / ((2 ^ c : Nat) : Int)) = ((a / 2 ^ c : Nat) : Int) := by simp
  rw [e]
  have hl : a / 2 ^ c < 65536 := Nat.lt_of_le_of_lt (Nat.div_le_self _ _) ha
  generalize a / 2 ^ c = n at hl ⊢
  have hw : wrap64 (n : Int) = (n : Int) := by unfold wrap64; omega
  rw [hw]
  have h : n % 2 = 0 ∨ n % 2 = 1 := by omega
  have ht : ((n : Int)).tmod 2 = ((n % 2 : Nat) : Int) := by rw [Int.tmod_eq_emod_of_nonneg (by omega)]; omega
  rw [ht]
  rcases h with h | h <;> simp [h]

set_option maxRecDepth 20000 in
theorem or16_any (a b : Nat) (w : World) (ha : a < 65536) (hb : b < 65536) :
    Calls Try.prog 32 #[.int .i64 (a : Int), .int .i64 (b : Int)] w fun e w' => e = .returned (.int .i64 ((a ||| b : Nat) : Int)) ∧ w = w' := by
  have BI := fun (k : Nat) (hk : k < 16) W => bit_any (k : Int) k true W rfl hk
  have hab : a ||| b < 65536 := Nat.or_lt_two_pow (n := 16) ha hb
  obtain ⟨v, hv⟩ : ∃ v, a ||| b = v := ⟨_, rfl⟩
  rw [hv] at hab ⊢
  have HV := Lib.hid hv
  clear hv
  go_enter Try.func32, Try.ntmps32
  go_wp2
  go_loop [5, 6] (fun o i => ∃ j : Nat, j ≤ 16 ∧ i = .int .i64 j ∧ ∃ p : Nat, p ≤ 65536 ∧ Hid (p = v % 2 ^ j) ∧ o = .int .i64 (p : Nat)) (fun _ i => 16 - (intOf i).toNat)
  case atStart => exact ⟨0, Nat.zero_le _, rfl, 0, by omega, Lib.hid (by simp [Nat.mod_one]), rfl⟩
  case round =>
    obtain ⟨j, hj, rfl, p, hp, HP, rfl⟩ := hrel
    by_cases hlt : j < 16
    case neg =>
      obtain rfl : j = 16 := by omega
      have hpe := HP.out
      rw [Nat.mod_eq_of_lt (by omega)] at hpe
      subst hpe
      clear HP HV
      go_wp2
      go_ret
      exact ⟨rfl, rfl⟩
    have B := BI j hlt
    have Q1 := quo_t16 a j ha
    have Q2 := quo_t16 b j hb
    have OB : Hid (p + bitN j (a.testBit j || b.testBit j) = v % 2 ^ (j + 1)) := Lib.hid (by have := or_bits a b j p (by rw [HV.out]; exact HP.out); rwa [HV.out] at this)
    have OBL : p + bitN j (a.testBit j || b.testBit j) ≤ 65536 := by rw [OB.out]; exact Nat.le_trans (Nat.mod_le _ _) (by omega)
    clear BI HP
    unfold bitN at B OB OBL
    rw [if_pos rfl] at B
    have hq1 : 1 ≤ 2 ^ j := Nat.one_le_two_pow
    have hq2 : 2 ^ j ≤ 32768 := Nat.pow_le_pow_right (n := 2) (by omega) (by omega : j ≤ 15)
    generalize 2 ^ j = q at B Q1 Q2 OB OBL hq1 hq2
    have hqz : (q : Int) ≠ 0 := by omega
    cases h1 : a.testBit j with
    | true =>
      rw [h1] at Q1 OB OBL
      simp only [Bool.true_or, if_true] at OB OBL Q1
      clear Q2 h1
      go_wp2_with (go_at_call 55; (with_reducible refine (B _).mono ?_); rintro e w2 ⟨rfl, rfl⟩)
      go_round
      case rel => exact ⟨j + 1, by omega, by go_num, p + q, by omega, OB, by go_num⟩
      case measure => simp [intOf]; omega
    | false =>
      rw [h1] at Q1 OB OBL
      cases h2 : b.testBit j with
      | true =>
        rw [h2] at Q2 OB OBL
        simp only [Bool.false_or, if_true, Bool.false_eq_true, if_false] at OB OBL Q1 Q2
        clear h1 h2
        go_wp2_with (go_at_call 55; (with_reducible refine (B _).mono ?_); rintro e w2 ⟨rfl, rfl⟩)
        go_round
        case rel => exact ⟨j + 1, by omega, by go_num, p + q, by omega, OB, by go_num⟩
        case measure => simp [intOf]; omega
      | false =>
        rw [h2] at Q2 OB OBL
        simp only [Bool.false_or, Bool.false_eq_true, if_false, Nat.add_zero] at OB OBL Q1 Q2
        clear h1 h2
        go_wp2_with (go_at_call 55; (with_reducible refine (B _).mono ?_); rintro e w2 ⟨rfl, rfl⟩)
        go_round
        case rel => exact ⟨j + 1, by omega, by go_num, p, by omega, OB, by go_num⟩
        case measure => simp [intOf]; omega

/-- The set with one finding's clause more, if it is below c. -/
def setI (s : Nat) (x : Int) (c : Nat) : Nat := if 0 ≤ x ∧ x < (c : Int) then s ||| 2 ^ x.toNat else s
theorem setI_yes {s : Nat} {x : Int} {c : Nat} (h : x = (c : Int)) : setI s x c ||| 2 ^ c = setI s x (c + 1) ∧ setI s x c = s := by
  subst h
  unfold setI
  rw [if_neg (by omega), if_pos (by omega), Int.toNat_natCast]
  exact ⟨rfl, rfl⟩
theorem setI_no {s : Nat} {x : Int} {c : Nat} (h : ¬ x = (c : Int)) : setI s x c = setI s x (c + 1) := by
  unfold setI
  by_cases h1 : 0 ≤ x ∧ x < (c : Int)
  · rw [if_pos h1, if_pos (by omega)]
  · rw [if_neg h1, if_neg (by omega)]
theorem setI_lt {s : Nat} (x : Int) {c : Nat} (hs : s < 65536) (hc : c ≤ 16) : setI s x c < 65536 := by
  unfold setI
  split
  · exact Nat.or_lt_two_pow (n := 16) (by omega) (Nat.pow_lt_pow_right (by omega) (by omega))
  · exact hs

set_option maxRecDepth 20000 in
set_option maxHeartbeats 2000000 in
theorem refset16_any (A : Option Addr) (c n : Nat) (l : List Rc) (w : World) (hn : l.length = n) (hr : RdF w A l) (hl : n ≤ 1000000) :
    Calls Try.prog 15 #[.slice A n c] w fun e w' => e = .returned (.int .i64 (setL l : Nat)) ∧ w = w' := by
  have HN := Lib.hid hn
  have HR := Lib.hid hr
  clear hn hr
  go_enter Try.func15, Try.ntmps15
  go_wp2
  go_loop [3, 4] (fun v i => ∃ k s : Nat, k ≤ n ∧ i = .int .i64 (k : Nat) ∧ v = .int .i64 (s : Nat) ∧ Hid (setL (l.take k) = s) ∧ s < 65536) (fun _ i => n - (intOf i).toNat)
  case atStart => exact ⟨0, 0, Nat.zero_le _, rfl, rfl, Lib.hid rfl, by decide⟩
  case round =>
    obtain ⟨k, s, hk, rfl, rfl, HS, hs⟩ := hrel
    by_cases hlt : k < n
    · have hlt' : k < l.length := by rw [HN.out]; exact hlt
      obtain ⟨b, off, x, y, z, rfl, hbb, hc0, hc1, hc2, hq⟩ := HR.out.at_ hlt'
      have ST := setL_take hlt' hq.out
      rw [HS.out] at ST
      have HST : Hid (setL (l.take (k + 1)) = setI s x 16) := Lib.hid (by rw [ST]; rfl)
      clear ST hq hc1 hc2 hlt' HS
      go_wp2
      go_loop [3, 5, 6] (fun v m i => ∃ c q r : Nat, c ≤ 16 ∧ i = .int .i64 (c : Nat) ∧ m = .int .i64 (q : Nat) ∧ Hid (q = 2 ^ c) ∧ q ≤ 65536 ∧ v = .int .i64 (r : Nat) ∧ Hid (r = setI s x c) ∧ r < 65536) (fun _ _ i => 16 - (intOf i).toNat)
      case atStart => exact ⟨0, 1, s, Nat.zero_le _, rfl, rfl, Lib.hid rfl, by omega, rfl, Lib.hid (by unfold setI; rw [if_neg (by omega)]), hs⟩
      case round =>
        obtain ⟨c, q, r, hc, rfl, rfl, HQ, hq, rfl, HRR, hr⟩ := hrel
        by_cases hc16 : c < 16
        · have hq2 : Hid (2 * q = 2 ^ (c + 1)) := Lib.hid (by rw [HQ.out, Nat.pow_succ, Nat.mul_comm])
          have hq3 : 2 * q ≤ 65536 := by rw [hq2.out]; exact Nat.pow_le_pow_right (n := 2) (by omega) (by omega : c + 1 ≤ 16)
          by_cases he : x = (c : Int)
          · have hx : (x == (c : Int)) = true := by simpa using he
            have OR := fun W => or16_any r q W hr (by omega)
            have hrn : Hid (r ||| q = setI s x (c + 1)) := Lib.hid (by rw [HRR.out, HQ.out]; exact (setI_yes he).1)
            have hrl : r ||| q < 65536 := by rw [hrn.out]; exact setI_lt _ hs (by omega)
            have HE := Lib.hid he
            clear he
            go_wp2_with (go_at_call 32; (with_reducible refine (OR _).mono ?_); rintro e w2 ⟨rfl, rfl⟩)
            go_round
            case rel => exact ⟨c + 1, 2 * q, r ||| q, by omega, by go_num, by go_num, hq2, hq3, rfl, hrn, hrl⟩
            case measure => simp [intOf]; omega
          · have hx : (x == (c : Int)) = false := by simpa using he
            have hrn : Hid (r = setI s x (c + 1)) := Lib.hid (by rw [HRR.out]; exact setI_no he)
            clear he
            go_wp2
            go_round
            case rel => exact ⟨c + 1, 2 * q, r, by omega, by go_num, by go_num, hq2, hq3, rfl, hrn, hr⟩
            case measure => simp [intOf]; omega
        · obtain rfl : c = 16 := by omega
          go_wp2
          go_round
          case rel => exact ⟨k + 1, r, by omega, by go_num, rfl, Lib.hid (by rw [HST.out, HRR.out]), hr⟩
          case measure => simp [intOf]; omega
    · obtain rfl : k = n := by omega
      have e : setL l = s := by
        have := HS.out
        rwa [List.take_of_length_le (Nat.le_of_eq HN.out)] at this
      go_wp2
      go_ret
      exact ⟨by first | rfl | (rw [e]; rfl), rfl⟩

end Go.Proofs.Ytlbafgdbemhanaa

/- What the document's Check of layer 16 returns. Conditions: the records can be read; at most a million. -/
namespace Go.Proofs.Ytlbafgdbemhanaa
open Go.RowKit

set_option maxRecDepth 100000 in
set_option maxHeartbeats 2000000 in
theorem refdcheck16_any (x : Nat → Int) (A : Option Addr) (c : Nat) (l : List Rc) (w : World) (h : RdR w A l) (hl : l.length ≤ 1000000) :
    Calls Try.prog 28 #[.agg (bk x), .slice A l.length c] w fun e w' => e = .returned (.int .i64 (dcheckV x l)) ∧ Below w.heap.size w w' := by
  have C1 := fun W => refmay_any x W
  have RB : RdI (w.alloc (.cells (bk x) 23)) w.heap.size 0 x := RdI.new x 23 rfl
  have hB0 : Below w.heap.size w (w.alloc (.cells (bk x) 23)) := b_al (Below.refl _ _) (Nat.le_refl _) _
  unfold dcheckV
  by_cases hx : May x
  case neg =>
    simp only [if_neg hx] at C1 ⊢
    clear hx
    go_enter Try.func28, Try.ntmps28
    go_wp2_with (first | refine wpList_load_bk (by rfl) 23 _ rfl _ _ rfl x _ (by assumption) Try.underlying23 rfl (by kernel_rfl) ?_ | (go_at_call 20; (with_reducible refine (C1 _).mono ?_); rintro e w1 ⟨rfl, hb1⟩))
    go_ret
    exact ⟨rfl, b_cl hB0 (Nat.le_refl _) hb1⟩
  simp only [if_pos hx] at C1 ⊢
  clear hx
  have C2 := fun W h => refrcheck_any A c l W h (by omega)
  have C3 := fun W h => refbeg_any A c l.length l W (Lib.hid rfl) h (by omega)
  generalize ((checkV l).1 : Int) = pl at C2
  by_cases he : (checkV l).2 = 0
  case neg =>
    rw [if_neg he]
    generalize (checkV l).2 = er at C2 he ⊢
    have ne : (er != 0) = true := by simpa using he
    have ne2 : (er == 0) = false := by simpa using he
    clear he C3
    go_enter Try.func28, Try.ntmps28
    go_wp2_with (first | refine wpList_load_bk (by rfl) 23 _ rfl _ _ rfl x _ (by assumption) Try.underlying23 rfl (by kernel_rfl) ?_ | (go_at_call 20; (with_reducible refine (C1 _).mono ?_); rintro e w1 ⟨rfl, hb1⟩; have B1 := b_cl hB0 (Nat.le_refl _) hb1) | (go_at_call 47; (with_reducible refine (C2 _ (h.below B1)).mono ?_); rintro e w2 ⟨rfl, hb2⟩))
    go_ret
    exact ⟨rfl, b_cl B1 (Nat.le_refl _) hb2⟩
  rw [if_pos he]
  rw [he] at C2
  clear he
  generalize beg l = bg at C3 ⊢
  by_cases hb : bg = 0
  case pos =>
    subst hb
    rw [if_pos rfl]
    go_enter Try.func28, Try.ntmps28
    go_wp2_with (first | refine wpList_load_bk (by rfl) 23 _ rfl _ _ rfl x _ (by assumption) Try.underlying23 rfl (by kernel_rfl) ?_ | (go_at_call 20; (with_reducible refine (C1 _).mono ?_); rintro e w1 ⟨rfl, hb1⟩; have B1 := b_cl hB0 (Nat.le_refl _) hb1) | (go_at_call 47; (with_reducible refine (C2 _ (h.below B1)).mono ?_); rintro e w2 ⟨rfl, hb2⟩; have B2 := b_cl B1 (Nat.le_refl _) hb2) | (go_at_call 48; (with_reducible refine (C3 _ (h.below B2)).mono ?_); rintro e w3 ⟨rfl, rfl⟩))
    go_ret
    exact ⟨rfl, B2⟩
  case neg =>
    rw [if_neg hb]
    have ne : (bg != 0) = true := by simpa using hb
    have ne2 : (bg == 0) = false := by simpa using hb
    clear hb
    go_enter Try.func28, Try.ntmps28
    go_wp2_with (first | refine wpList_load_bk (by rfl) 23 _ rfl _ _ rfl x _ (by assumption) Try.underlying23 rfl (by kernel_rfl) ?_ | (go_at_call 20; (with_reducible refine (C1 _).mono ?_); rintro e w1 ⟨rfl, hb1⟩; have B1 := b_cl hB0 (Nat.le_refl _) hb1) | (go_at_call 47; (with_reducible refine (C2 _ (h.below B1)).mono ?_); rintro e w2 ⟨rfl, hb2⟩; have B2 := b_cl B1 (Nat.le_refl _) hb2) | (go_at_call 48; (with_reducible refine (C3 _ (h.below B2)).mono ?_); rintro e w3 ⟨rfl, rfl⟩))
    go_ret
    exact ⟨rfl, B2⟩

end Go.Proofs.Ytlbafgdbemhanaa

/- What the statement's Light of layer 16 returns. Conditions: the records can be read. -/
namespace Go.Proofs.Ytlbafgdbemhanaa
open Go.RowKit

/-- So few records, and so short a time. -/
def lightB (l : List Rc) : Bool := decide (l.length ≤ 60) && l.all fun r => decide (r.2.2 ≤ 300)
theorem light_more {l : List Rc} {k : Nat} {q y z : Int} (hk : k < l.length) (h : l.getD k rz = (q, y, z)) : ((l.take (k + 1)).all fun r => decide (r.2.2 ≤ 300)) = (((l.take k).all fun r => decide (r.2.2 ≤ 300)) && decide (z ≤ 300)) := by
  have e : l[k] = (q, y, z) := by rw [← h]; simp [List.getD, hk]
  rw [List.take_succ_eq_append_getElem hk, List.all_append, e]
  simp
theorem light_no {l : List Rc} {k : Nat} {q y z : Int} (hk : k < l.length) (h : l.getD k rz = (q, y, z)) (hz : ¬ z ≤ 300) : lightB l = false := by
  have e : l[k] = (q, y, z) := by rw [← h]; simp [List.getD, hk]
  unfold lightB
  rw [Bool.and_eq_false_iff]
  right
  rw [List.all_eq_false]
  exact ⟨l[k], List.getElem_mem hk, by rw [e]; simpa using hz⟩

set_option maxRecDepth 100000 in
set_option maxHeartbeats 1000000 in
theorem light16_any (A : Option Addr) (c n : Nat) (l : List Rc) (w : World) (hn : l.length = n) (h : RdR w A l) :
    Calls Try.prog 8 #[.slice A n c] w fun e w' => e = .returned (.bool (lightB l)) ∧ Below w.heap.size w w' := by
  have HN := Lib.hid hn
  have HR := Lib.hid h
  by_cases hbig : 60 < n
  case pos =>
    have d0 : decide ((60 : Int) < (n : Int)) = true := decide_eq_true (by omega)
    have HV := Lib.hid (show lightB l = false by unfold lightB; rw [decide_eq_false (by omega)]; rfl)
    clear hn h hbig
    go_enter Try.func8, Try.ntmps8
    go_wp2
    go_ret
    exact ⟨by rw [HV.out]; try rfl, Below.refl _ _⟩
  have d0 : decide ((60 : Int) < (n : Int)) = false := decide_eq_false (by omega)
  have HL := Lib.hid (show l.length ≤ 60 by omega)
  have hn60 : n ≤ 60 := by omega
  clear hn h hbig
  go_enter Try.func8, Try.ntmps8
  go_wp2
  go_loopw [10] (fun i wr => ∃ k : Nat, k ≤ n ∧ i = .int .i64 (k : Nat) ∧ Hid (((l.take k).all fun r => decide (r.2.2 ≤ 300)) = true) ∧ Hid (Below w.heap.size w wr)) (fun i _ => n - (intOf i).toNat)
  case atStart => exact ⟨0, Nat.zero_le _, rfl, Lib.hid rfl, Lib.hid (Below.refl _ _)⟩
  case round =>
    obtain ⟨k, hk, rfl, HA, HB⟩ := hrel
    obtain ⟨w1, rfl⟩ : ∃ w1 : World, w1 = wr := ⟨_, rfl⟩
    have hsz := HB.out.size
    by_cases hlt : k < n
    case neg =>
      obtain rfl : k = n := by omega
      have HV := Lib.hid (show lightB l = true by
        unfold lightB
        rw [decide_eq_true HL.out, Bool.true_and]
        have := HA.out
        rwa [List.take_of_length_le (Nat.le_of_eq HN.out)] at this)
      clear HA
      go_wp2
      go_ret
      exact ⟨by rw [HV.out]; try rfl, HB.out⟩
    have hlt' : k < l.length := by rw [HN.out]; exact hlt
    obtain ⟨b, off, q, y, z, rfl, hbb, hc0, hc1, hc2, hs⟩ := HR.out.at_ hlt'
    rw [← HB.out.cell (p := ⟨b, _, none⟩) hbb] at hc0 hc1 hc2
    have hbw : b < w1.heap.size := by omega
    have HB2 := Lib.hid (HB.out.alloc HB.out.size (.cells #[.int .i64 q, .int .i64 y, .int .i64 z] 48))
    by_cases hz : z ≤ 300
    case neg =>
      have e1 : decide (300 < z) = true := decide_eq_true (by omega)
      have HV := Lib.hid (light_no hlt' hs.out hz)
      clear hs hz HA
      go_wp2
      go_ret
      exact ⟨by rw [HV.out]; try rfl, HB2.out⟩
    have e1 : decide (300 < z) = false := decide_eq_false (by omega)
    have HF := Lib.hid (show ((l.take (k + 1)).all fun r => decide (r.2.2 ≤ 300)) = true by rw [light_more hlt' hs.out, HA.out, decide_eq_true hz]; rfl)
    clear hs hz HA
    go_wp2
    go_roundw
    case rel => exact ⟨k + 1, by omega, by go_num, HF, HB2⟩
    case measure => simp [intOf]; omega

end Go.Proofs.Ytlbafgdbemhanaa

/- What the document's Audit of layer 16 returns. Conditions: the records can be read; at most a million. -/
namespace Go.Proofs.Ytlbafgdbemhanaa
open Go.RowKit

theorem breaks16_any (x : Nat → Int) (A : Option Addr) (c n m cl : Nat) (ks : List Int) (w : World) (hk : ks.length = n) (hr : RdN w A ks) (h4 : n ≤ 40320) (hm : m < n) (hx : May x) (hcl : cl < 10) :
    Calls Try.prog 30 #[.agg (bk x), .slice A n c, .int .i64 (m : Nat), .int .i64 (cl : Nat)] w fun e w' => e = .returned (.bool (docBreaks x ks m cl)) ∧ Below w.heap.size w w' := by
  have this : cl = 0 ∨ cl = 1 ∨ cl = 2 ∨ cl = 3 ∨ cl = 4 ∨ cl = 5 ∨ cl = 6 ∨ cl = 7 ∨ cl = 8 ∨ cl = 9 := by omega
  rcases this with rfl | rfl | rfl | rfl | rfl | rfl | rfl | rfl | rfl | rfl
  · exact breaks16_0 x A c n m ks w hk hr h4 hm hx
  · exact breaks16_1 x A c n m ks w hk hr h4 hm hx
  · exact breaks16_2 x A c n m ks w hk hr h4 hm hx
  · exact breaks16_3 x A c n m ks w hk hr h4 hm hx
  · exact breaks16_4 x A c n m ks w hk hr h4 hm hx
  · exact breaks16_5 x A c n m ks w hk hr h4 hm hx
  · exact breaks16_6 x A c n m ks w hk hr h4 hm hx
  · exact breaks16_7 x A c n m ks w hk hr h4 hm hx
  · exact breaks16_8 x A c n m ks w hk hr h4 hm hx
  · exact breaks16_9 x A c n m ks w hk hr h4 hm hx

/-- The findings of the clauses ahead of one. -/
def docF (x : Nat → Int) (ks : List Int) (cl : Nat) : List Rc := (List.range cl).filterMap fun c => (firstD x ks c ks.length).map fun v => ((c : Int), v)
theorem docF_none {x : Nat → Int} {ks : List Int} {cl : Nat} (h : firstD x ks cl ks.length = none) : docF x ks (cl + 1) = docF x ks cl := by
  unfold docF
  rw [List.range_succ, List.filterMap_append]
  simp [h]
theorem docF_some {x : Nat → Int} {ks : List Int} {cl : Nat} {v : Int × Int} (h : firstD x ks cl ks.length = some v) : docF x ks (cl + 1) = docF x ks cl ++ [((cl : Int), v)] := by
  unfold docF
  rw [List.range_succ, List.filterMap_append]
  simp [h]
theorem first_stays {x : Nat → Int} {ks : List Int} {c : Nat} {v : Int × Int} {j : Nat} (h : firstD x ks c j = some v) : ∀ d, firstD x ks c (j + d) = some v
  | 0 => h
  | d + 1 => by
    show (match firstD x ks c (j + d) with | some v => some v | none => _) = _
    rw [first_stays h d]
theorem docF_audit {x : Nat → Int} {l : List Rc} (hx : May x) (hL : 1 ≤ x 18) (ht : Tl 0 l) : docF x (kindsV l) 10 = listF (Au.zero.run x (kindsV l)).F := by
  have e : (fun c => firstD x (kindsV l) c (kindsV l).length) = (Au.zero.run x (kindsV l)).F := by
    funext c
    rw [first_is hx hL ht.short c _ (Nat.le_refl _), List.take_of_length_le (Nat.le_refl _)]
  unfold docF listF
  rw [← e]

set_option maxRecDepth 100000 in
set_option maxHeartbeats 4000000 in
theorem refaudit16_bad (x : Nat → Int) (A : Option Addr) (c : Nat) (l : List Rc) (w : World) (h : RdR w A l) (hl : l.length ≤ 1000000) {er : Int} (he : dcheckV x l = er) (hne : er ≠ 0) :
    Calls Try.prog 11 #[.agg (bk x), .slice A l.length c] w fun e w' => e = .returned (.tuple #[.slice none 0 0, .int .i64 er]) ∧ Below w.heap.size w w' := by
  have CK := fun W h => refdcheck16_any x A c l W h hl
  rw [he] at CK
  have RB : RdI (w.alloc (.cells (bk x) 23)) w.heap.size 0 x := RdI.new x 23 rfl
  have hB0 : Below w.heap.size w (w.alloc (.cells (bk x) 23)) := b_al (Below.refl _ _) (Nat.le_refl _) _
  have h0 := h.below hB0
  have ne : (er != 0) = true := by simpa using hne
  have ne2 : (er == 0) = false := by simpa using hne
  clear he hne
  go_enter Try.func11, Try.ntmps11
  go_wp2_with (first | refine wpList_load_bk (by rfl) 23 _ rfl _ _ rfl x _ (RB) Try.underlying23 rfl (by kernel_rfl) ?_ | (go_at_call 28; (with_reducible refine (CK _ h0).mono ?_); rintro e w1 ⟨rfl, hb1⟩))
  go_ret2
  exact ⟨rfl, b_cl hB0 (Nat.le_refl _) hb1⟩

set_option maxRecDepth 100000 in
set_option maxHeartbeats 8000000 in
theorem refaudit16_good (x : Nat → Int) (A : Option Addr) (c : Nat) (l : List Rc) (w : World) (h : RdR w A l) (hl : l.length ≤ 1000000) (he : dcheckV x l = 0) :
    Calls Try.prog 11 #[.agg (bk x), .slice A l.length c] w fun e w' => ∃ A' m c', e = .returned (.tuple #[.slice A' m c', .int .i64 0]) ∧ (listF (Au.zero.run x (kindsV l)).F).length = m ∧ RdF w' A' (listF (Au.zero.run x (kindsV l)).F) ∧ (A' = none → c' = 0) ∧ Below w.heap.size w w' := by
  obtain ⟨i0, hi, hz0, hz1, hz2⟩ := info_parts info_find
  obtain ⟨hx, ht⟩ := dcheck_ok he
  have hx18 : 1 ≤ x 18 := by
    have := hx.1 18 (by omega)
    unfold lim at this
    split at this <;> omega
  have CK := fun W h => refdcheck16_any x A c l W h hl
  rw [he] at CK
  have KC := fun W h => refkinds_any A c l W h ht (by omega)
  have RB : RdI (w.alloc (.cells (bk x) 23)) w.heap.size 0 x := RdI.new x 23 rfl
  have hB0 : Below w.heap.size w (w.alloc (.cells (bk x) 23)) := b_al (Below.refl _ _) (Nat.le_refl _) _
  have h0 := h.below hB0
  have hR := docF_audit hx hx18 ht
  have hshort := ht.short
  obtain ⟨ks, hks⟩ : ∃ ks, kindsV l = ks := ⟨_, rfl⟩
  rw [hks] at hR KC hshort
  rw [hks, ← hR]
  have HX := Lib.hid hx
  clear he hks hR hx ht hx18
  go_enter Try.func11, Try.ntmps11
  go_wp2_with (first
    | refine wpList_load_bk (by rfl) 23 _ rfl _ _ rfl x _ (RB) Try.underlying23 rfl (by kernel_rfl) ?_
    | (go_at_call 28; (with_reducible refine (CK _ h0).mono ?_); rintro e w1 ⟨rfl, hb1⟩; have RB1 := RB.below hb1; have B1 := b_cl hB0 (Nat.le_refl _) hb1; have h1 := h.below B1)
    | (go_at_call 29; (with_reducible refine (KC _ h1).mono ?_); rintro e w2 ⟨v, rfl, hown, hb2⟩; obtain ⟨Ak, ck, rfl, hrk⟩ := hown.read; clear hown; have HK := Lib.hid hrk; have RB2 := RB1.below hb2; have B2 := b_cl B1 (Nat.le_refl _) hb2; clear hrk RB1 hb1 hb2 h1))
  obtain ⟨n, hn⟩ : ∃ n, ks.length = n := ⟨_, rfl⟩
  rw [hn] at hshort ⊢
  have HN := Lib.hid hn
  clear hn CK KC RB hB0 h0 B1
  go_loopw [8, 9] (fun v i wr => ∃ (cl q : Nat) (A' : Option Addr) (c' : Nat), cl ≤ 10 ∧ i = .int .i64 (cl : Nat) ∧ v = .slice A' q c' ∧ q ≤ cl ∧ Hid ((docF x ks cl).length = q) ∧ Hid (OwnF w2.heap.size wr (.slice A' q c') (docF x ks cl)) ∧ Hid (Below w2.heap.size w2 wr)) (fun _ i _ => 10 - (intOf i).toNat)
  case atStart => exact ⟨0, 0, none, 0, by omega, rfl, rfl, Nat.le_refl _, Lib.hid rfl, Lib.hid (OwnF.nil _ _), Lib.hid (Below.refl _ _)⟩
  case round =>
    obtain ⟨cl, q, A', c', hcl, rfl, rfl, hq, HQ, HO, HB⟩ := hrel
    obtain ⟨w3, rfl⟩ : ∃ w3 : World, w3 = wr := ⟨_, rfl⟩
    have hsz := HB.out.size
    by_cases hlt : cl < 10
    case neg =>
      obtain rfl : cl = 10 := by omega
      obtain ⟨A9, c9, hv9, hr9, hz9⟩ := HO.out.read
      rw [HQ.out] at hv9
      simp only [Value.slice.injEq, true_and] at hv9
      obtain ⟨rfl, rfl⟩ := hv9
      go_wp2
      go_ret2
      exact ⟨A', q, c', rfl, HQ.out, hr9, hz9, B2.trans (HB.out.mono B2.size)⟩
    have dcl : decide ((cl : Int) < 10) = true := decide_eq_true (by omega)
    go_wp2
    go_loopw [8, 10] (fun v i wi => ∃ m : Nat, m ≤ n ∧ i = .int .i64 (m : Nat) ∧ v = .slice A' q c' ∧ Hid (firstD x ks cl m = none) ∧ Hid (OwnF w2.heap.size wi (.slice A' q c') (docF x ks cl)) ∧ Hid (Below w2.heap.size w2 wi)) (fun _ i _ => n - (intOf i).toNat)
    case atStart => exact ⟨0, Nat.zero_le _, rfl, rfl, Lib.hid rfl, HO, HB⟩
    case round =>
      clear HO HB hsz
      obtain ⟨m, hm, rfl, rfl, HF, HO, HB⟩ := hrel
      obtain ⟨w4, rfl⟩ : ∃ w4 : World, w4 = wr := ⟨_, rfl⟩
      have hsz := HB.out.size
      by_cases hlm : m < n
      case neg =>
        obtain rfl : m = n := by omega
        have hE := docF_none (x := x) (ks := ks) (cl := cl) (by rw [HN.out]; exact HF.out)
        have HE := Lib.hid hE
        clear hE HF
        go_wp2
        go_roundw
        case rel => exact ⟨cl + 1, q, A', c', by omega, by go_num, rfl, by omega, Lib.hid (by rw [HE.out]; exact HQ.out), Lib.hid (by rw [HE.out]; exact HO.out), HB⟩
        case measure => simp [intOf]; omega
      have hil : m < ks.length := by rw [HN.out]; exact hlm
      have HKi := Lib.hid (HK.out.below HB.out)
      have RBi := RB2.below HB.out
      obtain ⟨bb, off, rfl, hbb, hcell⟩ := HKi.out (nonnil hil)
      have hc0 := hcell m hil
      rw [show ks.getD m 0 = kAt ks m from rfl] at hc0
      have hst : firstD x ks cl (m + 1) = if ¬ kAt ks m = 0 ∧ docBreaks x ks m cl = true then some (docSince x ks m cl, (m : Int) + 1) else none := by
        show (match firstD x ks cl m with | some v => some v | none => _) = _
        rw [HF.out]
      have HST := Lib.hid hst
      have BK := fun W h => breaks16_any x (some ⟨bb, off, none⟩) ck n m cl ks W HN.out h hshort hlm HX.out hlt
      have SC := fun W h => since16_any x (some ⟨bb, off, none⟩) ck n m cl ks W HN.out h hshort hlm HX.out hlt
      obtain ⟨kv, hkv⟩ : ∃ kv, kAt ks m = kv := ⟨_, rfl⟩
      rw [hkv] at hc0 HST
      have m0 : (0 : Int) ≤ (m : Int) := by omega
      have m1 : (m : Int) < (n : Int) := by omega
      have hwm : IntKind.i64.wrap ((m : Int) + 1) = (m : Int) + 1 := wrap14 _ (by omega) (by omega)
      clear hst hkv hcell HF
      by_cases hz : kv = 0
      case pos =>
        have e1 : (kv != 0) = false := by simpa using hz
        have HF := Lib.hid (show firstD x ks cl (m + 1) = none by rw [HST.out, if_neg (fun h => h.1 hz)])
        clear hz HST BK SC
        go_wp2
        go_roundw
        case rel => exact ⟨m + 1, by omega, by go_num, rfl, HF, HO, HB⟩
        case measure => simp [intOf]; omega
      have e1 : (kv != 0) = true := by simpa using hz
      obtain ⟨bv, hbv⟩ : ∃ bv, docBreaks x ks m cl = bv := ⟨_, rfl⟩
      rw [hbv] at BK HST
      clear hbv
      cases bv with
      | false =>
        have HF := Lib.hid (show firstD x ks cl (m + 1) = none by rw [HST.out, if_neg (fun h => by cases h.2)])
        clear hz HST SC
        go_wp2_with (first
          | refine wpList_load_bk (by rfl) 23 _ rfl _ _ rfl x _ (RBi) Try.underlying23 rfl (by kernel_rfl) ?_
          | (go_at_call 30; (with_reducible refine (BK _ HKi.out).mono ?_); rintro e w5 ⟨rfl, hb5⟩; have HO5 := Lib.hid (HO.out.below hb5); have HB5 := Lib.hid (HB.out.trans (hb5.mono hsz)); clear hb5))
        go_roundw
        case rel => exact ⟨m + 1, by omega, by go_num, rfl, HF, HO5, HB5⟩
        case measure => simp [intOf]; omega
      | true =>
        have hE := docF_some (x := x) (ks := ks) (cl := cl) (v := (docSince x ks m cl, (m : Int) + 1)) (by
          have h1 : firstD x ks cl (m + 1) = some (docSince x ks m cl, (m : Int) + 1) := by rw [HST.out, if_pos ⟨hz, rfl⟩]
          have := first_stays h1 (n - (m + 1))
          rw [HN.out]
          rwa [show m + 1 + (n - (m + 1)) = n by omega] at this)
        obtain ⟨sv, hsv⟩ : ∃ sv, docSince x ks m cl = sv := ⟨_, rfl⟩
        rw [hsv] at hE SC
        have HL5 := Lib.hid (show (docF x ks cl ++ [((cl : Int), sv, (m : Int) + 1)]).length = q + 1 by rw [List.length_append, HQ.out]; rfl)
        have hnb : (docF x ks cl).length ≤ 10000 := by have := HQ.out; omega
        have HE := Lib.hid hE
        obtain ⟨dl, hdl⟩ : ∃ dl, docF x ks cl = dl := ⟨_, rfl⟩
        rw [hdl] at HO HQ HE HL5 hnb
        clear hz HST hsv hE hdl
        go_wp2_with (first
          | refine wpList_load_bk (by rfl) 23 _ rfl _ _ rfl x _ (RB5) Try.underlying23 rfl (by kernel_rfl) ?_
          | refine wpList_load_bk (by rfl) 23 _ rfl _ _ rfl x _ (RBi) Try.underlying23 rfl (by kernel_rfl) ?_
          | (go_at_call 30; (with_reducible refine (BK _ HKi.out).mono ?_); rintro e w5 ⟨rfl, hb5⟩; have HO5 := Lib.hid (HO.out.below hb5); have HB5 := Lib.hid (HB.out.trans (hb5.mono hsz)); have RB5 := RBi.below hb5; have HK5 := Lib.hid (HKi.out.below hb5); have hsz5 := HB5.out.size; clear hb5)
          | (go_at_call 31; (with_reducible refine (SC _ HK5.out).mono ?_); rintro e w6 ⟨rfl, hb6⟩; have HO6 := Lib.hid (HO5.out.below hb6); have HB6 := Lib.hid (HB5.out.trans (hb6.mono hsz5)); have hsz6 := HB6.out.size; clear hb6)
          | (at_builtin; refine wpList_append_own _ rfl _ _ 27 rfl w2.heap.size 40 i0 (.agg #[.int .i64 0, .int .i64 0, .int .i64 0]) 3 24 Try.underlying27 hi hz0 hz1 hz2 rfl (by decide) _ _ _ rfl (OwnF.alloc HO6.out _) ⟨w6.heap.size, 0, none⟩ 1 1 [.int .i64 (cl : Nat), .int .i64 sv, .int .i64 ((m : Int) + 1)] rfl rfl (find_news rfl) find_cells (by unfold maxLen; omega) (by omega) (by simp; omega) ?_; intro v7 w7 hown7 hgrow7 _; have HS := Lib.hid (OwnF.snoc hown7); have HB7 := Lib.hid ((HB6.out.alloc HB6.out.size (.cells #[.int .i64 (cl : Nat), .int .i64 sv, .int .i64 ((m : Int) + 1)] 40)).grown hgrow7 (by simp; omega) (fun g hg => (World.ownsRow.lt HO6.out g hg).1)); clear hown7 hgrow7))
        obtain ⟨A7, c7, rfl, _, _⟩ := HS.out.read
        go_wp2
        go_roundw
        case rel => exact ⟨cl + 1, q + 1, A7, c7, by omega, by go_num, by rw [HL5.out], by omega, Lib.hid (by rw [HE.out]; exact HL5.out), Lib.hid (by rw [HE.out]; have := HS.out; rw [HL5.out] at this; exact this), HB7⟩
        case measure => simp [intOf]; omega

/-- What the document's Audit returns. -/
theorem refaudit16_any (x : Nat → Int) (A : Option Addr) (c : Nat) (l : List Rc) (w : World) (h : RdR w A l) (hl : l.length ≤ 1000000) :
    Calls Try.prog 11 #[.agg (bk x), .slice A l.length c] w fun e w' => ∃ A' m c', e = .returned (.tuple #[.slice A' m c', .int .i64 (auditV x l).2]) ∧ (auditV x l).1.length = m ∧ RdF w' A' (auditV x l).1 ∧ (A' = none → c' = 0) ∧ Below w.heap.size w w' := by
  unfold auditV
  by_cases he : dcheckV x l = 0
  · rw [if_pos he]
    exact refaudit16_good x A c l w h hl he
  · rw [if_neg he]
    refine (refaudit16_bad x A c l w h hl rfl he).mono fun e w' ⟨h1, h2⟩ => ?_
    exact ⟨none, 0, 0, h1, rfl, RdF.nil _ _, fun _ => rfl, h2⟩

end Go.Proofs.Ytlbafgdbemhanaa
