/- The law HeapOrder where the second item is ahead of the first one. Conditions: sixty items at most. -/
import Derived.Test.YtpfmkggnnilknaaRows
import Derived.Test.YtpfmkggnnilknaaBase
import Derived.Test.YtpfmkggnnilknaaRow
import Derived.Test.YtpfmkggnnilknaaRecMath
import Derived.Test.YtpfmkggnnilknaaTriLt
import Derived.Test.YtpfmkggnnilknaaBox
import Derived.Test.YtpfmkggnnilknaaFindHeap
import Derived.Test.YtpfmkggnnilknaaTriHeap
import Derived.Test.YtpfmkggnnilknaaHeapMath
import Derived.Test.YtpfmkggnnilknaaHeapHeap
import Derived.Test.YtpfmkggnnilknaaHeapLeaf
import Derived.Test.YtpfmkggnnilknaaHeapApp
import Derived.Test.YtpfmkggnnilknaaHeapPile
import Derived.Test.YtpfmkggnnilknaaHeapLib
import Derived.Test.YtpfmkggnnilknaaHeapPush
import Derived.Test.YtpfmkggnnilknaaHeapLib2
import Derived.Test.YtpfmkggnnilknaaHeapC
import Derived.Test.YtpfmkggnnilknaaHeapC2
import Derived.Test.YtpfmkggnnilknaaHeapC3
import Derived.Test.YtpfmkggnnilknaaHeapC4
import Derived.Test.YtpfmkggnnilknaaHeapRef
import Derived.Test.YtpfmkggnnilknaaHeapRef2
import Derived.Test.YtpfmkggnnilknaaHeapOpen
import Derived.Test.YtpfmkggnnilknaaHeapAlive
import Derived.Test.YtpfmkggnnilknaaHeapForm
import Derived.WalkKit
import Derived.WalkSmall
import Derived.WalkSpells
import Derived.Below
import Derived.Lib.Hide
import Derived.OwnWalk
import Derived.Outline
import Derived.BigQuiet
import Derived.Deep.QuietTactic
import Derived.Deep.DeepCutAuto
import Derived.Deep.RegionWith
import Derived.Deep.LoopGhost
import Derived.Lib.MinMax
namespace Go.Proofs.Ytpfmkggnnilknaa
open Go.RowKit
set_option linter.unusedVariables false

set_option maxRecDepth 20000 in
set_option maxHeartbeats 4000000 in
theorem order23_way2 (w : World) (A0 : Option Addr) (c0 : Nat) (l0 : List Rc) (r0 : RdF w A0 l0) (a1 b1 c1 a2 b2 c2 : Int) (n0 : Nat) (hn0 : l0.length = n0) (hs60 : n0 ≤ 60) (hp : decide (ltF (a1, b1, c1) (a2, b2, c2)) = false) (hq : decide (ltF (a2, b2, c2) (a1, b1, c1)) = true) :
    Calls Try.prog 5 #[.slice A0 n0 c0, .agg #[.int .i64 a1, .int .i64 b1, .int .i64 c1], .agg #[.int .i64 a2, .int .i64 b2, .int .i64 c2]] w fun e w' => e = .returned (.bool true) ∧ Below w.heap.size w w' := by
  have HN := Lib.hid hn0
  have R0 := Lib.hid r0
  have B0 := Lib.hid (Below.refl w.heap.size w)
  clear r0
  have i1 : (n0 : Int) ≤ 60 := by omega
  have p0 : ((w.alloc (.cells #[.int .i64 a1, .int .i64 b1, .int .i64 c1] 37)).alloc (.cells #[.int .i64 a2, .int .i64 b2, .int .i64 c2] 37)).cell? ⟨w.heap.size, 0, none⟩ = some (.int .i64 a1) := by simp
  have p1 : ((w.alloc (.cells #[.int .i64 a1, .int .i64 b1, .int .i64 c1] 37)).alloc (.cells #[.int .i64 a2, .int .i64 b2, .int .i64 c2] 37)).cell? ⟨w.heap.size, 1, none⟩ = some (.int .i64 b1) := by simp
  have p2 : ((w.alloc (.cells #[.int .i64 a1, .int .i64 b1, .int .i64 c1] 37)).alloc (.cells #[.int .i64 a2, .int .i64 b2, .int .i64 c2] 37)).cell? ⟨w.heap.size, 2, none⟩ = some (.int .i64 c1) := by simp
  have p3 : ((w.alloc (.cells #[.int .i64 a1, .int .i64 b1, .int .i64 c1] 37)).alloc (.cells #[.int .i64 a2, .int .i64 b2, .int .i64 c2] 37)).cell? ⟨w.heap.size + 1, 0, none⟩ = some (.int .i64 a2) := by simp
  have p4 : ((w.alloc (.cells #[.int .i64 a1, .int .i64 b1, .int .i64 c1] 37)).alloc (.cells #[.int .i64 a2, .int .i64 b2, .int .i64 c2] 37)).cell? ⟨w.heap.size + 1, 1, none⟩ = some (.int .i64 b2) := by simp
  have p5 : ((w.alloc (.cells #[.int .i64 a1, .int .i64 b1, .int .i64 c1] 37)).alloc (.cells #[.int .i64 a2, .int .i64 b2, .int .i64 c2] 37)).cell? ⟨w.heap.size + 1, 2, none⟩ = some (.int .i64 c2) := by simp
  have b0 := b_al (b_al B0.out (Nat.le_refl _) (.cells #[.int .i64 a1, .int .i64 b1, .int .i64 c1] 37)) (Nat.le_refl _) (.cells #[.int .i64 a2, .int .i64 b2, .int .i64 c2] 37)
  have BA := Lib.hid (b_dr (b_al (b_al b0 (Nat.le_refl _) (.cells #[.int .i64 a1, .int .i64 b1, .int .i64 c1] 28)) (Nat.le_refl _) (.cells #[.int .i64 a2, .int .i64 b2, .int .i64 c2] 28)))
  have BB := Lib.hid (b_dr (b_al (b_al b0 (Nat.le_refl _) (.cells #[.int .i64 a2, .int .i64 b2, .int .i64 c2] 28)) (Nat.le_refl _) (.cells #[.int .i64 a1, .int .i64 b1, .int .i64 c1] 28)))
  have QA1 : Hid (Bx ((((w.alloc (.cells #[.int .i64 a1, .int .i64 b1, .int .i64 c1] 37)).alloc (.cells #[.int .i64 a2, .int .i64 b2, .int .i64 c2] 37)).alloc (.cells #[.int .i64 a1, .int .i64 b1, .int .i64 c1] 28)).alloc (.cells #[.int .i64 a2, .int .i64 b2, .int .i64 c2] 28)).drew (w.heap.size + 1 + 1) 28 #[.int .i64 a1, .int .i64 b1, .int .i64 c1]) := Lib.hid ((Bx.new _ _ (by simp)).alloc _).drew
  have QB1 : Hid (Bx ((((w.alloc (.cells #[.int .i64 a1, .int .i64 b1, .int .i64 c1] 37)).alloc (.cells #[.int .i64 a2, .int .i64 b2, .int .i64 c2] 37)).alloc (.cells #[.int .i64 a1, .int .i64 b1, .int .i64 c1] 28)).alloc (.cells #[.int .i64 a2, .int .i64 b2, .int .i64 c2] 28)).drew (w.heap.size + 1 + 1 + 1) 28 #[.int .i64 a2, .int .i64 b2, .int .i64 c2]) := Lib.hid (Bx.new _ _ (by simp)).drew
  have QB2 : Hid (Bx ((((w.alloc (.cells #[.int .i64 a1, .int .i64 b1, .int .i64 c1] 37)).alloc (.cells #[.int .i64 a2, .int .i64 b2, .int .i64 c2] 37)).alloc (.cells #[.int .i64 a2, .int .i64 b2, .int .i64 c2] 28)).alloc (.cells #[.int .i64 a1, .int .i64 b1, .int .i64 c1] 28)).drew (w.heap.size + 1 + 1) 28 #[.int .i64 a2, .int .i64 b2, .int .i64 c2]) := Lib.hid ((Bx.new _ _ (by simp)).alloc _).drew
  have QA2 : Hid (Bx ((((w.alloc (.cells #[.int .i64 a1, .int .i64 b1, .int .i64 c1] 37)).alloc (.cells #[.int .i64 a2, .int .i64 b2, .int .i64 c2] 37)).alloc (.cells #[.int .i64 a2, .int .i64 b2, .int .i64 c2] 28)).alloc (.cells #[.int .i64 a1, .int .i64 b1, .int .i64 c1] 28)).drew (w.heap.size + 1 + 1 + 1) 28 #[.int .i64 a1, .int .i64 b1, .int .i64 c1]) := Lib.hid (Bx.new _ _ (by simp)).drew
  obtain ⟨s, hs⟩ : ∃ s, srt l0 = s := ⟨_, rfl⟩
  have hsl : s.length = n0 := by rw [← hs, srt_len, hn0]
  have HSS := Lib.hid (show Srt s by rw [← hs]; exact srt_srt l0)
  have HSP := Lib.hid (show s.Perm l0 by rw [← hs]; exact srt_perm l0)
  have HT := Lib.hid (show s.take (n0 : Int).toNat = s from List.take_of_length_le (by rw [hsl]; omega))
  have HS := Lib.hid hs
  have HL := Lib.hid hsl
  have CL12 := fun W => less23_any (a1, b1, c1) (a2, b2, c2) W
  have CL21 := fun W => less23_any (a2, b2, c2) (a1, b1, c1) W
  unfold itV at CL12 CL21
  simp only [hp, hq] at CL12 CL21
  clear hs hsl hn0 b0 hp hq
  go_enter Try.func5, Try.ntmps5
  go_upto_region 3 with (fail)
  go_region
  · have QA := QA1
    have QB := QB1
    have BW := BA
    clear p0 p1 p2 p3 p4 p5 QA1 QB1 QA2 QB2 BA BB
    have r0 := QA.out.cell (k := 0) rfl
    have r1 := QA.out.cell (k := 1) rfl
    have r2 := QA.out.cell (k := 2) rfl
    have r3 := QB.out.cell (k := 0) rfl
    have r4 := QB.out.cell (k := 1) rfl
    have r5 := QB.out.cell (k := 2) rfl
    go_wp2_with (first
      | go_skip
      | (go_at_call 16; (first | with_reducible refine (CL12 _).mono ?_ | with_reducible refine (CL21 _).mono ?_); rintro e w5 ⟨rfl, hb5⟩; replace QA := Lib.hid (QA.out.below hb5); replace QB := Lib.hid (QB.out.below hb5); replace BW := Lib.hid (b_cl BW.out (Nat.le_refl _) hb5); have r0 := QA.out.cell (k := 0) rfl; have r1 := QA.out.cell (k := 1) rfl; have r2 := QA.out.cell (k := 2) rfl; have r3 := QB.out.cell (k := 0) rfl; have r4 := QB.out.cell (k := 1) rfl; have r5 := QB.out.cell (k := 2) rfl; clear hb5)
      | (go_at_call 13; refine (give23_any A0 n0 c0 l0 _ HN.out (R0.out.below BW.out) (by omega)).mono ?_; rintro e w1 ⟨v1, rfl, o1, hb1⟩; obtain ⟨A1, d1, rfl, rd1, _, _, f1⟩ := o1.form; rw [HN.out]; have Y1 := Lib.hid rd1; have F1 := Lib.hid (form_lt f1); have B1 := Lib.hid (b_cl BW.out (Nat.le_refl _) hb1); clear rd1 hb1 f1)
      | (go_at_call 12; refine (new23_any A1 n0 d1 l0 _ HN.out Y1.out (by omega)).mono ?_; rintro e w2 ⟨g, b, rfl, h2, hb2, g2, b2⟩; rw [HS.out] at h2; have gl := h2.lt; have H2 := Lib.hid h2; have Y2 := Lib.hid (Y1.out.below hb2); have hw2 := B1.out.size; have gg : w.heap.size ≤ g := (by omega); have gb : w.heap.size ≤ b := (by omega); have B2 := Lib.hid (b_cl B1.out (Nat.le_refl _) hb2); clear h2 hb2)
      | (go_at_call 11; refine (drain23_any H2.out (by rw [HL.out]; omega) n0).mono ?_; rintro e w4 ⟨v4, rfl, o4, h4, m4⟩; rw [HT.out] at o4; obtain ⟨A4, d4, rfl, rd4, _, _, _⟩ := o4.form; rw [HL.out]; have Y4 := Lib.hid rd4; have X4 := Lib.hid (Y2.out.mv m4 (fun _ a ha => by have := F1.out a ha; omega)); have B4 := Lib.hid (B2.out.trans (m4.bel _ gg gb B2.out.size)); clear rd4 h4 m4 o4))
    clear r0 r1 r2 r3 r4 r5 CL12 CL21
    go_loopw [63] (fun i wr => ∃ j : Nat, j ≤ n0 ∧ i = .int .i64 j ∧ Below w4.heap.size w4 wr) (fun i _ => n0 - (intOf i).toNat)
    case atStart => exact ⟨0, Nat.zero_le _, rfl, Below.refl _ _⟩
    case round =>
      obtain ⟨j, hj, rfl, hbw⟩ := hrel
      obtain ⟨wo, rfl⟩ : ∃ wo : World, wo = wr := ⟨_, rfl⟩
      have hsz := hbw.size
      by_cases hlt : j < n0
      · have hj1 : (j : Int) < n0 := by omega
        obtain ⟨bd, offd, rfl, hbd, hcd⟩ := Y4.out (nonnil (k := j) (by rw [HL.out]; exact hlt))
        obtain ⟨bo, offo, rfl, hbo, hco⟩ := X4.out (nonnil (k := j) (by rw [HN.out]; exact hlt))
        obtain ⟨⟨x, y, z⟩, hp⟩ : ∃ q, s.getD j rz = q := ⟨_, rfl⟩
        obtain ⟨k0, k1, k2⟩ := hcd j (by rw [HL.out]; exact hlt)
        rw [hp] at k0 k1 k2
        simp only at k0 k1 k2
        replace k0 := c_cl k0 hbw
        replace k1 := c_cl k1 hbw
        replace k2 := c_cl k2 hbw
        have hcd2 := Lib.hid hcd
        have hco2 := Lib.hid hco
        clear hcd hco
        by_cases hj0 : j = 0
        · have z6 : (j : Int) ≤ 0 := by omega
          have z8 : decide ((0 : Int) < (j : Int)) = false := decide_eq_false (by omega)
          have z9 : decide (0 < j) = false := decide_eq_false (by omega)
          clear hj0
          go_wp2
          refine wp_region_bel (by kernel_rfl) (by kernel_rfl) ?_
          repeat (go_big_quiet_step (fail))
          refine wpQuiet_nil ?_
          refine bel_all fun wq hbq => ?_
          clear k0 k1 k2
          have HBq := Lib.hid (b_cl hbw (Nat.le_refl _) (b_cl (b_al (Below.refl _ _) (Nat.le_refl _) (.cells #[.int .i64 x, .int .i64 y, .int .i64 z] 28)) (Nat.le_refl _) hbq))
          have BP := Lib.hid ((Bx.new (W := wo) 28 #[.int .i64 x, .int .i64 y, .int .i64 z] rfl).below hbq)
          clear hbq
          go_wp2
          go_loopw [13, 81] (fun n i wr => ∃ (m : Nat) (N : Int), m ≤ n0 ∧ i = .int .i64 m ∧ n = .int .i64 N ∧ 0 ≤ N ∧ N ≤ (m : Int) ∧ Hid (N = (cnt (x, y, z) (s.take m) : Int)) ∧ Below wq.heap.size wq wr) (fun _ i _ => n0 - (intOf i).toNat)
          case atStart => exact ⟨0, _, Nat.zero_le _, rfl, rfl, by omega, by omega, Lib.hid (by simp [cnt]), Below.refl _ _⟩
          case round =>
            obtain ⟨m, N, hm, rfl, rfl, hb0, hb1, HN2, hbi⟩ := hrel
            have hszi := hbi.size
            have HBI := Lib.hid (b_cl HBq.out (Nat.le_refl _) hbi)
            by_cases hmn : m < n0
            · have hm1 : (m : Int) < n0 := by omega
              obtain ⟨⟨xq, yq, zq⟩, hq⟩ : ∃ q, s.getD m rz = q := ⟨_, rfl⟩
              obtain ⟨k0, k1, k2⟩ := hcd2.out m (by rw [HL.out]; exact hmn)
              rw [hq] at k0 k1 k2
              simp only at k0 k1 k2
              replace k0 := c_cl k0 HBI.out
              replace k1 := c_cl k1 HBI.out
              replace k2 := c_cl k2 HBI.out
              have BPr := BP.out.below hbi
              have b0 := BPr.cell (k := 0) rfl
              have b1 := BPr.cell (k := 1) rfl
              have b2 := BPr.cell (k := 2) rfl
              have ltp := BPr.lt
              clear BPr
              by_cases hx : x = xq
              · subst hx
                by_cases hy : y = yq
                · subst hy
                  by_cases hz : z = zq
                  · subst hz
                    have HC := Lib.hid (cnt_step (x, y, z) (by rw [HL.out]; exact hmn) hq)
                    go_wp2
                    go_roundw
                    case rel => exact ⟨m + 1, (N + 1), by omega, by go_num, by go_num, by omega, by omega, Lib.hid (by have h1 := HN2.out; have h2 := HC.out; rw [if_pos rfl] at h2; omega), b_al hbi (Nat.le_refl _) _⟩
                    case measure => simp [intOf]; omega
                  · skip
                    have HC := Lib.hid (cnt_step (x, y, z) (by rw [HL.out]; exact hmn) hq)
                    have HD := Lib.hid hz
                    have e1 : (zq == z) = false := by rw [beq_eq_false_iff_ne]; exact fun e => hz e.symm
                    clear hz
                    go_wp2
                    go_roundw
                    case rel => exact ⟨m + 1, N, by omega, by go_num, rfl, by omega, by omega, Lib.hid (by have h1 := HN2.out; have h2 := HC.out; rw [if_neg (fun e => HD.out (congrArg (fun p : Rc => p.2.2) e).symm)] at h2; omega), b_al hbi (Nat.le_refl _) _⟩
                    case measure => simp [intOf]; omega
                · skip
                  have HC := Lib.hid (cnt_step (x, y, z) (by rw [HL.out]; exact hmn) hq)
                  have HD := Lib.hid hy
                  have e1 : (yq == y) = false := by rw [beq_eq_false_iff_ne]; exact fun e => hy e.symm
                  clear hy
                  go_wp2
                  go_roundw
                  case rel => exact ⟨m + 1, N, by omega, by go_num, rfl, by omega, by omega, Lib.hid (by have h1 := HN2.out; have h2 := HC.out; rw [if_neg (fun e => HD.out (congrArg (fun p : Rc => p.2.1) e).symm)] at h2; omega), b_al hbi (Nat.le_refl _) _⟩
                  case measure => simp [intOf]; omega
              · skip
                have HC := Lib.hid (cnt_step (x, y, z) (by rw [HL.out]; exact hmn) hq)
                have HD := Lib.hid hx
                have e1 : (xq == x) = false := by rw [beq_eq_false_iff_ne]; exact fun e => hx e.symm
                clear hx
                go_wp2
                go_roundw
                case rel => exact ⟨m + 1, N, by omega, by go_num, rfl, by omega, by omega, Lib.hid (by have h1 := HN2.out; have h2 := HC.out; rw [if_neg (fun e => HD.out (congrArg (fun p : Rc => p.1) e).symm)] at h2; omega), b_al hbi (Nat.le_refl _) _⟩
                case measure => simp [intOf]; omega
            · have hmn0 : n0 = m := by omega
              subst hmn0
              have HE2 := Lib.hid (show N = (cnt (x, y, z) s : Int) by
                have h1 := HN2.out
                rw [List.take_of_length_le (by rw [HL.out]; exact Nat.le_refl _)] at h1
                exact h1)
              obtain ⟨w7, rfl⟩ : ∃ w7 : World, w7 = wr := ⟨_, rfl⟩
              have BP7 := Lib.hid (BP.out.below hbi)
              have HB7 := HBI
              clear HBI BP hbi
              have BP := BP7
              have nb : 0 ≤ N ∧ N ≤ 60 := by omega
              obtain ⟨nb0, nb1⟩ := nb
              obtain ⟨N0, rfl⟩ : ∃ N0, N0 = N := ⟨_, rfl⟩
              clear HN2 hb0 hb1
              go_wp2
              go_loopw [13, 93] (fun n i wr => ∃ (m : Nat) (N : Int), m ≤ n0 ∧ i = .int .i64 m ∧ n = .int .i64 N ∧ -(m : Int) ≤ N ∧ N ≤ 60 ∧ Hid (N = N0 - (cnt (x, y, z) (l0.take m) : Int)) ∧ Below w7.heap.size w7 wr) (fun _ i _ => n0 - (intOf i).toNat)
              case atStart => exact ⟨0, _, Nat.zero_le _, rfl, rfl, by omega, by omega, Lib.hid (by simp [cnt]), Below.refl _ _⟩
              case round =>
                obtain ⟨m, N, hm, rfl, rfl, hb0, hb1, HN2, hbi⟩ := hrel
                have hszi := hbi.size
                have HBI := Lib.hid (b_cl HB7.out (Nat.le_refl _) hbi)
                by_cases hmn : m < n0
                · have hm1 : (m : Int) < n0 := by omega
                  obtain ⟨⟨xq, yq, zq⟩, hq⟩ : ∃ q, l0.getD m rz = q := ⟨_, rfl⟩
                  obtain ⟨k0, k1, k2⟩ := hco2.out m (by rw [HN.out]; exact hmn)
                  rw [hq] at k0 k1 k2
                  simp only at k0 k1 k2
                  replace k0 := c_cl k0 HBI.out
                  replace k1 := c_cl k1 HBI.out
                  replace k2 := c_cl k2 HBI.out
                  have BPr := BP.out.below hbi
                  have b0 := BPr.cell (k := 0) rfl
                  have b1 := BPr.cell (k := 1) rfl
                  have b2 := BPr.cell (k := 2) rfl
                  have ltp := BPr.lt
                  clear BPr
                  by_cases hx : x = xq
                  · subst hx
                    by_cases hy : y = yq
                    · subst hy
                      by_cases hz : z = zq
                      · subst hz
                        have HC := Lib.hid (cnt_step (x, y, z) (by rw [HN.out]; exact hmn) hq)
                        go_wp2
                        go_roundw
                        case rel => exact ⟨m + 1, (N - 1), by omega, by go_num, by go_num, by omega, by omega, Lib.hid (by have h1 := HN2.out; have h2 := HC.out; rw [if_pos rfl] at h2; omega), b_al hbi (Nat.le_refl _) _⟩
                        case measure => simp [intOf]; omega
                      · skip
                        have HC := Lib.hid (cnt_step (x, y, z) (by rw [HN.out]; exact hmn) hq)
                        have HD := Lib.hid hz
                        have e1 : (zq == z) = false := by rw [beq_eq_false_iff_ne]; exact fun e => hz e.symm
                        clear hz
                        go_wp2
                        go_roundw
                        case rel => exact ⟨m + 1, N, by omega, by go_num, rfl, by omega, by omega, Lib.hid (by have h1 := HN2.out; have h2 := HC.out; rw [if_neg (fun e => HD.out (congrArg (fun p : Rc => p.2.2) e).symm)] at h2; omega), b_al hbi (Nat.le_refl _) _⟩
                        case measure => simp [intOf]; omega
                    · skip
                      have HC := Lib.hid (cnt_step (x, y, z) (by rw [HN.out]; exact hmn) hq)
                      have HD := Lib.hid hy
                      have e1 : (yq == y) = false := by rw [beq_eq_false_iff_ne]; exact fun e => hy e.symm
                      clear hy
                      go_wp2
                      go_roundw
                      case rel => exact ⟨m + 1, N, by omega, by go_num, rfl, by omega, by omega, Lib.hid (by have h1 := HN2.out; have h2 := HC.out; rw [if_neg (fun e => HD.out (congrArg (fun p : Rc => p.2.1) e).symm)] at h2; omega), b_al hbi (Nat.le_refl _) _⟩
                      case measure => simp [intOf]; omega
                  · skip
                    have HC := Lib.hid (cnt_step (x, y, z) (by rw [HN.out]; exact hmn) hq)
                    have HD := Lib.hid hx
                    have e1 : (xq == x) = false := by rw [beq_eq_false_iff_ne]; exact fun e => hx e.symm
                    clear hx
                    go_wp2
                    go_roundw
                    case rel => exact ⟨m + 1, N, by omega, by go_num, rfl, by omega, by omega, Lib.hid (by have h1 := HN2.out; have h2 := HC.out; rw [if_neg (fun e => HD.out (congrArg (fun p : Rc => p.1) e).symm)] at h2; omega), b_al hbi (Nat.le_refl _) _⟩
                    case measure => simp [intOf]; omega
                · have hmn0 : n0 = m := by omega
                  subst hmn0
                  have HE := Lib.hid (show N = 0 by
                    have h1 := HN2.out
                    have h3 := HE2.out
                    rw [List.take_of_length_le (by rw [HN.out]; exact Nat.le_refl _)] at h1
                    have h2 := cnt_perm HSP.out (x, y, z)
                    omega)
                  obtain rfl : N = 0 := HE.out
                  have hsz4 := HBI.out.size
                  go_wp2
                  go_roundw
                  case rel => exact ⟨j + 1, by omega, by go_num, HBI.out⟩
                  case measure => simp [intOf]; omega
        · obtain ⟨i, hji⟩ : ∃ i, i + 1 = j := ⟨j - 1, by omega⟩
          have z5 : (j : Int) - 1 = (i : Int) := by omega
          have z6 : (0 : Int) < (j : Int) := by omega
          have z8 : decide ((0 : Int) < (j : Int)) = true := decide_eq_true z6
          have z9 : decide (0 < j) = true := decide_eq_true (by omega)
          have z7 : (i : Int) < n0 := by omega
          have HLE := Lib.hid (srt_le HSS.out (i := i) (j := j) (by omega) (by rw [HL.out]; exact hlt))
          rw [hp] at HLE
          obtain ⟨⟨x', y', z'⟩, hp'⟩ : ∃ q, s.getD i rz = q := ⟨_, rfl⟩
          rw [hp'] at HLE
          have CLE := fun W => less23_any (x, y, z) (x', y', z') W
          unfold itV at CLE
          simp only [decide_eq_false HLE.out] at CLE
          obtain ⟨m0, m1, m2⟩ := hcd2.out i (by rw [HL.out]; omega)
          rw [hp'] at m0 m1 m2
          simp only at m0 m1 m2
          replace m0 := c_cl m0 hbw
          replace m1 := c_cl m1 hbw
          replace m2 := c_cl m2 hbw
          obtain ⟨W1, hW1⟩ : ∃ W1, W1 = wo.alloc (.cells #[.int .i64 x, .int .i64 y, .int .i64 z] 28) := ⟨_, rfl⟩
          have HP := Lib.hid (show Bx W1 wo.heap.size 28 #[.int .i64 x, .int .i64 y, .int .i64 z] by rw [hW1]; exact Bx.new _ _ rfl)
          have o0 : ∀ p : BelowOf W1, p.world.cell? ⟨wo.heap.size, 0, none⟩ = some (.int .i64 x) := fun p => p.cell (HP.out.cell (k := 0) rfl)
          have o1 : ∀ p : BelowOf W1, p.world.cell? ⟨wo.heap.size, 1, none⟩ = some (.int .i64 y) := fun p => p.cell (HP.out.cell (k := 1) rfl)
          have o2 : ∀ p : BelowOf W1, p.world.cell? ⟨wo.heap.size, 2, none⟩ = some (.int .i64 z) := fun p => p.cell (HP.out.cell (k := 2) rfl)
          have o3 : ∀ p : BelowOf W1, p.world.cell? ⟨bd, offd + i * 3, none⟩ = some (.int .i64 x') := fun p => p.cell (by rw [hW1]; exact c_al _ m0)
          have o4 : ∀ p : BelowOf W1, p.world.cell? ⟨bd, offd + i * 3 + 1, none⟩ = some (.int .i64 y') := fun p => p.cell (by rw [hW1]; exact c_al _ m1)
          have o5 : ∀ p : BelowOf W1, p.world.cell? ⟨bd, offd + i * 3 + 2, none⟩ = some (.int .i64 z') := fun p => p.cell (by rw [hW1]; exact c_al _ m2)
          clear m0 m1 m2
          go_wp2
          rw [← hW1]
          refine wp_region_bel (by kernel_rfl) (by kernel_rfl) ?_
          repeat (go_big_quiet_step ((go_at_call 16; (with_reducible exact Calls.bel_of (CLE _)))))
          refine wpQuiet_nil ?_
          refine bel_all fun wq hbq => ?_
          clear k0 k1 k2 o0 o1 o2 o3 o4 o5 CLE
          subst hW1
          have HBq := Lib.hid (b_cl hbw (Nat.le_refl _) (b_cl (b_al (Below.refl _ _) (Nat.le_refl _) (.cells #[.int .i64 x, .int .i64 y, .int .i64 z] 28)) (Nat.le_refl _) hbq))
          have BP := Lib.hid ((Bx.new (W := wo) 28 #[.int .i64 x, .int .i64 y, .int .i64 z] rfl).below hbq)
          clear hbq
          go_wp2
          go_loopw [13, 81] (fun n i wr => ∃ (m : Nat) (N : Int), m ≤ n0 ∧ i = .int .i64 m ∧ n = .int .i64 N ∧ 0 ≤ N ∧ N ≤ (m : Int) ∧ Hid (N = (cnt (x, y, z) (s.take m) : Int)) ∧ Below wq.heap.size wq wr) (fun _ i _ => n0 - (intOf i).toNat)
          case atStart => exact ⟨0, _, Nat.zero_le _, rfl, rfl, by omega, by omega, Lib.hid (by simp [cnt]), Below.refl _ _⟩
          case round =>
            obtain ⟨m, N, hm, rfl, rfl, hb0, hb1, HN2, hbi⟩ := hrel
            have hszi := hbi.size
            have HBI := Lib.hid (b_cl HBq.out (Nat.le_refl _) hbi)
            by_cases hmn : m < n0
            · have hm1 : (m : Int) < n0 := by omega
              obtain ⟨⟨xq, yq, zq⟩, hq⟩ : ∃ q, s.getD m rz = q := ⟨_, rfl⟩
              obtain ⟨k0, k1, k2⟩ := hcd2.out m (by rw [HL.out]; exact hmn)
              rw [hq] at k0 k1 k2
              simp only at k0 k1 k2
              replace k0 := c_cl k0 HBI.out
              replace k1 := c_cl k1 HBI.out
              replace k2 := c_cl k2 HBI.out
              have BPr := BP.out.below hbi
              have b0 := BPr.cell (k := 0) rfl
              have b1 := BPr.cell (k := 1) rfl
              have b2 := BPr.cell (k := 2) rfl
              have ltp := BPr.lt
              clear BPr
              by_cases hx : x = xq
              · subst hx
                by_cases hy : y = yq
                · subst hy
                  by_cases hz : z = zq
                  · subst hz
                    have HC := Lib.hid (cnt_step (x, y, z) (by rw [HL.out]; exact hmn) hq)
                    go_wp2
                    go_roundw
                    case rel => exact ⟨m + 1, (N + 1), by omega, by go_num, by go_num, by omega, by omega, Lib.hid (by have h1 := HN2.out; have h2 := HC.out; rw [if_pos rfl] at h2; omega), b_al hbi (Nat.le_refl _) _⟩
                    case measure => simp [intOf]; omega
                  · skip
                    have HC := Lib.hid (cnt_step (x, y, z) (by rw [HL.out]; exact hmn) hq)
                    have HD := Lib.hid hz
                    have e1 : (zq == z) = false := by rw [beq_eq_false_iff_ne]; exact fun e => hz e.symm
                    clear hz
                    go_wp2
                    go_roundw
                    case rel => exact ⟨m + 1, N, by omega, by go_num, rfl, by omega, by omega, Lib.hid (by have h1 := HN2.out; have h2 := HC.out; rw [if_neg (fun e => HD.out (congrArg (fun p : Rc => p.2.2) e).symm)] at h2; omega), b_al hbi (Nat.le_refl _) _⟩
                    case measure => simp [intOf]; omega
                · skip
                  have HC := Lib.hid (cnt_step (x, y, z) (by rw [HL.out]; exact hmn) hq)
                  have HD := Lib.hid hy
                  have e1 : (yq == y) = false := by rw [beq_eq_false_iff_ne]; exact fun e => hy e.symm
                  clear hy
                  go_wp2
                  go_roundw
                  case rel => exact ⟨m + 1, N, by omega, by go_num, rfl, by omega, by omega, Lib.hid (by have h1 := HN2.out; have h2 := HC.out; rw [if_neg (fun e => HD.out (congrArg (fun p : Rc => p.2.1) e).symm)] at h2; omega), b_al hbi (Nat.le_refl _) _⟩
                  case measure => simp [intOf]; omega
              · skip
                have HC := Lib.hid (cnt_step (x, y, z) (by rw [HL.out]; exact hmn) hq)
                have HD := Lib.hid hx
                have e1 : (xq == x) = false := by rw [beq_eq_false_iff_ne]; exact fun e => hx e.symm
                clear hx
                go_wp2
                go_roundw
                case rel => exact ⟨m + 1, N, by omega, by go_num, rfl, by omega, by omega, Lib.hid (by have h1 := HN2.out; have h2 := HC.out; rw [if_neg (fun e => HD.out (congrArg (fun p : Rc => p.1) e).symm)] at h2; omega), b_al hbi (Nat.le_refl _) _⟩
                case measure => simp [intOf]; omega
            · have hmn0 : n0 = m := by omega
              subst hmn0
              have HE2 := Lib.hid (show N = (cnt (x, y, z) s : Int) by
                have h1 := HN2.out
                rw [List.take_of_length_le (by rw [HL.out]; exact Nat.le_refl _)] at h1
                exact h1)
              obtain ⟨w7, rfl⟩ : ∃ w7 : World, w7 = wr := ⟨_, rfl⟩
              have BP7 := Lib.hid (BP.out.below hbi)
              have HB7 := HBI
              clear HBI BP hbi
              have BP := BP7
              have nb : 0 ≤ N ∧ N ≤ 60 := by omega
              obtain ⟨nb0, nb1⟩ := nb
              obtain ⟨N0, rfl⟩ : ∃ N0, N0 = N := ⟨_, rfl⟩
              clear HN2 hb0 hb1
              go_wp2
              go_loopw [13, 93] (fun n i wr => ∃ (m : Nat) (N : Int), m ≤ n0 ∧ i = .int .i64 m ∧ n = .int .i64 N ∧ -(m : Int) ≤ N ∧ N ≤ 60 ∧ Hid (N = N0 - (cnt (x, y, z) (l0.take m) : Int)) ∧ Below w7.heap.size w7 wr) (fun _ i _ => n0 - (intOf i).toNat)
              case atStart => exact ⟨0, _, Nat.zero_le _, rfl, rfl, by omega, by omega, Lib.hid (by simp [cnt]), Below.refl _ _⟩
              case round =>
                obtain ⟨m, N, hm, rfl, rfl, hb0, hb1, HN2, hbi⟩ := hrel
                have hszi := hbi.size
                have HBI := Lib.hid (b_cl HB7.out (Nat.le_refl _) hbi)
                by_cases hmn : m < n0
                · have hm1 : (m : Int) < n0 := by omega
                  obtain ⟨⟨xq, yq, zq⟩, hq⟩ : ∃ q, l0.getD m rz = q := ⟨_, rfl⟩
                  obtain ⟨k0, k1, k2⟩ := hco2.out m (by rw [HN.out]; exact hmn)
                  rw [hq] at k0 k1 k2
                  simp only at k0 k1 k2
                  replace k0 := c_cl k0 HBI.out
                  replace k1 := c_cl k1 HBI.out
                  replace k2 := c_cl k2 HBI.out
                  have BPr := BP.out.below hbi
                  have b0 := BPr.cell (k := 0) rfl
                  have b1 := BPr.cell (k := 1) rfl
                  have b2 := BPr.cell (k := 2) rfl
                  have ltp := BPr.lt
                  clear BPr
                  by_cases hx : x = xq
                  · subst hx
                    by_cases hy : y = yq
                    · subst hy
                      by_cases hz : z = zq
                      · subst hz
                        have HC := Lib.hid (cnt_step (x, y, z) (by rw [HN.out]; exact hmn) hq)
                        go_wp2
                        go_roundw
                        case rel => exact ⟨m + 1, (N - 1), by omega, by go_num, by go_num, by omega, by omega, Lib.hid (by have h1 := HN2.out; have h2 := HC.out; rw [if_pos rfl] at h2; omega), b_al hbi (Nat.le_refl _) _⟩
                        case measure => simp [intOf]; omega
                      · skip
                        have HC := Lib.hid (cnt_step (x, y, z) (by rw [HN.out]; exact hmn) hq)
                        have HD := Lib.hid hz
                        have e1 : (zq == z) = false := by rw [beq_eq_false_iff_ne]; exact fun e => hz e.symm
                        clear hz
                        go_wp2
                        go_roundw
                        case rel => exact ⟨m + 1, N, by omega, by go_num, rfl, by omega, by omega, Lib.hid (by have h1 := HN2.out; have h2 := HC.out; rw [if_neg (fun e => HD.out (congrArg (fun p : Rc => p.2.2) e).symm)] at h2; omega), b_al hbi (Nat.le_refl _) _⟩
                        case measure => simp [intOf]; omega
                    · skip
                      have HC := Lib.hid (cnt_step (x, y, z) (by rw [HN.out]; exact hmn) hq)
                      have HD := Lib.hid hy
                      have e1 : (yq == y) = false := by rw [beq_eq_false_iff_ne]; exact fun e => hy e.symm
                      clear hy
                      go_wp2
                      go_roundw
                      case rel => exact ⟨m + 1, N, by omega, by go_num, rfl, by omega, by omega, Lib.hid (by have h1 := HN2.out; have h2 := HC.out; rw [if_neg (fun e => HD.out (congrArg (fun p : Rc => p.2.1) e).symm)] at h2; omega), b_al hbi (Nat.le_refl _) _⟩
                      case measure => simp [intOf]; omega
                  · skip
                    have HC := Lib.hid (cnt_step (x, y, z) (by rw [HN.out]; exact hmn) hq)
                    have HD := Lib.hid hx
                    have e1 : (xq == x) = false := by rw [beq_eq_false_iff_ne]; exact fun e => hx e.symm
                    clear hx
                    go_wp2
                    go_roundw
                    case rel => exact ⟨m + 1, N, by omega, by go_num, rfl, by omega, by omega, Lib.hid (by have h1 := HN2.out; have h2 := HC.out; rw [if_neg (fun e => HD.out (congrArg (fun p : Rc => p.1) e).symm)] at h2; omega), b_al hbi (Nat.le_refl _) _⟩
                    case measure => simp [intOf]; omega
                · have hmn0 : n0 = m := by omega
                  subst hmn0
                  have HE := Lib.hid (show N = 0 by
                    have h1 := HN2.out
                    have h3 := HE2.out
                    rw [List.take_of_length_le (by rw [HN.out]; exact Nat.le_refl _)] at h1
                    have h2 := cnt_perm HSP.out (x, y, z)
                    omega)
                  obtain rfl : N = 0 := HE.out
                  have hsz4 := HBI.out.size
                  go_wp2
                  go_roundw
                  case rel => exact ⟨j + 1, by omega, by go_num, HBI.out⟩
                  case measure => simp [intOf]; omega
      · have HBW := Lib.hid (b_cl B4.out (Nat.le_refl _) hbw)
        clear hbw
        go_wp2_with (first
          | go_skip
          | (go_at_call 6; refine (alive23_any _).mono ?_; rintro e w9 ⟨rfl, hb9⟩; have B9 := Lib.hid (b_cl (HBW.out) (Nat.le_refl _) hb9); clear hb9))
        go_ret
        exact ⟨rfl, B9.out⟩
  · have QA := QA2
    have QB := QB2
    have BW := BB
    clear p0 p1 p2 p3 p4 p5 QA1 QB1 QA2 QB2 BA BB
    have r0 := QA.out.cell (k := 0) rfl
    have r1 := QA.out.cell (k := 1) rfl
    have r2 := QA.out.cell (k := 2) rfl
    have r3 := QB.out.cell (k := 0) rfl
    have r4 := QB.out.cell (k := 1) rfl
    have r5 := QB.out.cell (k := 2) rfl
    go_wp2_with (first
      | go_skip
      | (go_at_call 16; (first | with_reducible refine (CL12 _).mono ?_ | with_reducible refine (CL21 _).mono ?_); rintro e w5 ⟨rfl, hb5⟩; replace QA := Lib.hid (QA.out.below hb5); replace QB := Lib.hid (QB.out.below hb5); replace BW := Lib.hid (b_cl BW.out (Nat.le_refl _) hb5); have r0 := QA.out.cell (k := 0) rfl; have r1 := QA.out.cell (k := 1) rfl; have r2 := QA.out.cell (k := 2) rfl; have r3 := QB.out.cell (k := 0) rfl; have r4 := QB.out.cell (k := 1) rfl; have r5 := QB.out.cell (k := 2) rfl; clear hb5)
      | (go_at_call 13; refine (give23_any A0 n0 c0 l0 _ HN.out (R0.out.below BW.out) (by omega)).mono ?_; rintro e w1 ⟨v1, rfl, o1, hb1⟩; obtain ⟨A1, d1, rfl, rd1, _, _, f1⟩ := o1.form; rw [HN.out]; have Y1 := Lib.hid rd1; have F1 := Lib.hid (form_lt f1); have B1 := Lib.hid (b_cl BW.out (Nat.le_refl _) hb1); clear rd1 hb1 f1)
      | (go_at_call 12; refine (new23_any A1 n0 d1 l0 _ HN.out Y1.out (by omega)).mono ?_; rintro e w2 ⟨g, b, rfl, h2, hb2, g2, b2⟩; rw [HS.out] at h2; have gl := h2.lt; have H2 := Lib.hid h2; have Y2 := Lib.hid (Y1.out.below hb2); have hw2 := B1.out.size; have gg : w.heap.size ≤ g := (by omega); have gb : w.heap.size ≤ b := (by omega); have B2 := Lib.hid (b_cl B1.out (Nat.le_refl _) hb2); clear h2 hb2)
      | (go_at_call 11; refine (drain23_any H2.out (by rw [HL.out]; omega) n0).mono ?_; rintro e w4 ⟨v4, rfl, o4, h4, m4⟩; rw [HT.out] at o4; obtain ⟨A4, d4, rfl, rd4, _, _, _⟩ := o4.form; rw [HL.out]; have Y4 := Lib.hid rd4; have X4 := Lib.hid (Y2.out.mv m4 (fun _ a ha => by have := F1.out a ha; omega)); have B4 := Lib.hid (B2.out.trans (m4.bel _ gg gb B2.out.size)); clear rd4 h4 m4 o4))
    clear r0 r1 r2 r3 r4 r5 CL12 CL21
    go_loopw [63] (fun i wr => ∃ j : Nat, j ≤ n0 ∧ i = .int .i64 j ∧ Below w4.heap.size w4 wr) (fun i _ => n0 - (intOf i).toNat)
    case atStart => exact ⟨0, Nat.zero_le _, rfl, Below.refl _ _⟩
    case round =>
      obtain ⟨j, hj, rfl, hbw⟩ := hrel
      obtain ⟨wo, rfl⟩ : ∃ wo : World, wo = wr := ⟨_, rfl⟩
      have hsz := hbw.size
      by_cases hlt : j < n0
      · have hj1 : (j : Int) < n0 := by omega
        obtain ⟨bd, offd, rfl, hbd, hcd⟩ := Y4.out (nonnil (k := j) (by rw [HL.out]; exact hlt))
        obtain ⟨bo, offo, rfl, hbo, hco⟩ := X4.out (nonnil (k := j) (by rw [HN.out]; exact hlt))
        obtain ⟨⟨x, y, z⟩, hp⟩ : ∃ q, s.getD j rz = q := ⟨_, rfl⟩
        obtain ⟨k0, k1, k2⟩ := hcd j (by rw [HL.out]; exact hlt)
        rw [hp] at k0 k1 k2
        simp only at k0 k1 k2
        replace k0 := c_cl k0 hbw
        replace k1 := c_cl k1 hbw
        replace k2 := c_cl k2 hbw
        have hcd2 := Lib.hid hcd
        have hco2 := Lib.hid hco
        clear hcd hco
        by_cases hj0 : j = 0
        · have z6 : (j : Int) ≤ 0 := by omega
          have z8 : decide ((0 : Int) < (j : Int)) = false := decide_eq_false (by omega)
          have z9 : decide (0 < j) = false := decide_eq_false (by omega)
          clear hj0
          go_wp2
          refine wp_region_bel (by kernel_rfl) (by kernel_rfl) ?_
          repeat (go_big_quiet_step (fail))
          refine wpQuiet_nil ?_
          refine bel_all fun wq hbq => ?_
          clear k0 k1 k2
          have HBq := Lib.hid (b_cl hbw (Nat.le_refl _) (b_cl (b_al (Below.refl _ _) (Nat.le_refl _) (.cells #[.int .i64 x, .int .i64 y, .int .i64 z] 28)) (Nat.le_refl _) hbq))
          have BP := Lib.hid ((Bx.new (W := wo) 28 #[.int .i64 x, .int .i64 y, .int .i64 z] rfl).below hbq)
          clear hbq
          go_wp2
          go_loopw [13, 81] (fun n i wr => ∃ (m : Nat) (N : Int), m ≤ n0 ∧ i = .int .i64 m ∧ n = .int .i64 N ∧ 0 ≤ N ∧ N ≤ (m : Int) ∧ Hid (N = (cnt (x, y, z) (s.take m) : Int)) ∧ Below wq.heap.size wq wr) (fun _ i _ => n0 - (intOf i).toNat)
          case atStart => exact ⟨0, _, Nat.zero_le _, rfl, rfl, by omega, by omega, Lib.hid (by simp [cnt]), Below.refl _ _⟩
          case round =>
            obtain ⟨m, N, hm, rfl, rfl, hb0, hb1, HN2, hbi⟩ := hrel
            have hszi := hbi.size
            have HBI := Lib.hid (b_cl HBq.out (Nat.le_refl _) hbi)
            by_cases hmn : m < n0
            · have hm1 : (m : Int) < n0 := by omega
              obtain ⟨⟨xq, yq, zq⟩, hq⟩ : ∃ q, s.getD m rz = q := ⟨_, rfl⟩
              obtain ⟨k0, k1, k2⟩ := hcd2.out m (by rw [HL.out]; exact hmn)
              rw [hq] at k0 k1 k2
              simp only at k0 k1 k2
              replace k0 := c_cl k0 HBI.out
              replace k1 := c_cl k1 HBI.out
              replace k2 := c_cl k2 HBI.out
              have BPr := BP.out.below hbi
              have b0 := BPr.cell (k := 0) rfl
              have b1 := BPr.cell (k := 1) rfl
              have b2 := BPr.cell (k := 2) rfl
              have ltp := BPr.lt
              clear BPr
              by_cases hx : x = xq
              · subst hx
                by_cases hy : y = yq
                · subst hy
                  by_cases hz : z = zq
                  · subst hz
                    have HC := Lib.hid (cnt_step (x, y, z) (by rw [HL.out]; exact hmn) hq)
                    go_wp2
                    go_roundw
                    case rel => exact ⟨m + 1, (N + 1), by omega, by go_num, by go_num, by omega, by omega, Lib.hid (by have h1 := HN2.out; have h2 := HC.out; rw [if_pos rfl] at h2; omega), b_al hbi (Nat.le_refl _) _⟩
                    case measure => simp [intOf]; omega
                  · skip
                    have HC := Lib.hid (cnt_step (x, y, z) (by rw [HL.out]; exact hmn) hq)
                    have HD := Lib.hid hz
                    have e1 : (zq == z) = false := by rw [beq_eq_false_iff_ne]; exact fun e => hz e.symm
                    clear hz
                    go_wp2
                    go_roundw
                    case rel => exact ⟨m + 1, N, by omega, by go_num, rfl, by omega, by omega, Lib.hid (by have h1 := HN2.out; have h2 := HC.out; rw [if_neg (fun e => HD.out (congrArg (fun p : Rc => p.2.2) e).symm)] at h2; omega), b_al hbi (Nat.le_refl _) _⟩
                    case measure => simp [intOf]; omega
                · skip
                  have HC := Lib.hid (cnt_step (x, y, z) (by rw [HL.out]; exact hmn) hq)
                  have HD := Lib.hid hy
                  have e1 : (yq == y) = false := by rw [beq_eq_false_iff_ne]; exact fun e => hy e.symm
                  clear hy
                  go_wp2
                  go_roundw
                  case rel => exact ⟨m + 1, N, by omega, by go_num, rfl, by omega, by omega, Lib.hid (by have h1 := HN2.out; have h2 := HC.out; rw [if_neg (fun e => HD.out (congrArg (fun p : Rc => p.2.1) e).symm)] at h2; omega), b_al hbi (Nat.le_refl _) _⟩
                  case measure => simp [intOf]; omega
              · skip
                have HC := Lib.hid (cnt_step (x, y, z) (by rw [HL.out]; exact hmn) hq)
                have HD := Lib.hid hx
                have e1 : (xq == x) = false := by rw [beq_eq_false_iff_ne]; exact fun e => hx e.symm
                clear hx
                go_wp2
                go_roundw
                case rel => exact ⟨m + 1, N, by omega, by go_num, rfl, by omega, by omega, Lib.hid (by have h1 := HN2.out; have h2 := HC.out; rw [if_neg (fun e => HD.out (congrArg (fun p : Rc => p.1) e).symm)] at h2; omega), b_al hbi (Nat.le_refl _) _⟩
                case measure => simp [intOf]; omega
            · have hmn0 : n0 = m := by omega
              subst hmn0
              have HE2 := Lib.hid (show N = (cnt (x, y, z) s : Int) by
                have h1 := HN2.out
                rw [List.take_of_length_le (by rw [HL.out]; exact Nat.le_refl _)] at h1
                exact h1)
              obtain ⟨w7, rfl⟩ : ∃ w7 : World, w7 = wr := ⟨_, rfl⟩
              have BP7 := Lib.hid (BP.out.below hbi)
              have HB7 := HBI
              clear HBI BP hbi
              have BP := BP7
              have nb : 0 ≤ N ∧ N ≤ 60 := by omega
              obtain ⟨nb0, nb1⟩ := nb
              obtain ⟨N0, rfl⟩ : ∃ N0, N0 = N := ⟨_, rfl⟩
              clear HN2 hb0 hb1
              go_wp2
              go_loopw [13, 93] (fun n i wr => ∃ (m : Nat) (N : Int), m ≤ n0 ∧ i = .int .i64 m ∧ n = .int .i64 N ∧ -(m : Int) ≤ N ∧ N ≤ 60 ∧ Hid (N = N0 - (cnt (x, y, z) (l0.take m) : Int)) ∧ Below w7.heap.size w7 wr) (fun _ i _ => n0 - (intOf i).toNat)
              case atStart => exact ⟨0, _, Nat.zero_le _, rfl, rfl, by omega, by omega, Lib.hid (by simp [cnt]), Below.refl _ _⟩
              case round =>
                obtain ⟨m, N, hm, rfl, rfl, hb0, hb1, HN2, hbi⟩ := hrel
                have hszi := hbi.size
                have HBI := Lib.hid (b_cl HB7.out (Nat.le_refl _) hbi)
                by_cases hmn : m < n0
                · have hm1 : (m : Int) < n0 := by omega
                  obtain ⟨⟨xq, yq, zq⟩, hq⟩ : ∃ q, l0.getD m rz = q := ⟨_, rfl⟩
                  obtain ⟨k0, k1, k2⟩ := hco2.out m (by rw [HN.out]; exact hmn)
                  rw [hq] at k0 k1 k2
                  simp only at k0 k1 k2
                  replace k0 := c_cl k0 HBI.out
                  replace k1 := c_cl k1 HBI.out
                  replace k2 := c_cl k2 HBI.out
                  have BPr := BP.out.below hbi
                  have b0 := BPr.cell (k := 0) rfl
                  have b1 := BPr.cell (k := 1) rfl
                  have b2 := BPr.cell (k := 2) rfl
                  have ltp := BPr.lt
                  clear BPr
                  by_cases hx : x = xq
                  · subst hx
                    by_cases hy : y = yq
                    · subst hy
                      by_cases hz : z = zq
                      · subst hz
                        have HC := Lib.hid (cnt_step (x, y, z) (by rw [HN.out]; exact hmn) hq)
                        go_wp2
                        go_roundw
                        case rel => exact ⟨m + 1, (N - 1), by omega, by go_num, by go_num, by omega, by omega, Lib.hid (by have h1 := HN2.out; have h2 := HC.out; rw [if_pos rfl] at h2; omega), b_al hbi (Nat.le_refl _) _⟩
                        case measure => simp [intOf]; omega
                      · skip
                        have HC := Lib.hid (cnt_step (x, y, z) (by rw [HN.out]; exact hmn) hq)
                        have HD := Lib.hid hz
                        have e1 : (zq == z) = false := by rw [beq_eq_false_iff_ne]; exact fun e => hz e.symm
                        clear hz
                        go_wp2
                        go_roundw
                        case rel => exact ⟨m + 1, N, by omega, by go_num, rfl, by omega, by omega, Lib.hid (by have h1 := HN2.out; have h2 := HC.out; rw [if_neg (fun e => HD.out (congrArg (fun p : Rc => p.2.2) e).symm)] at h2; omega), b_al hbi (Nat.le_refl _) _⟩
                        case measure => simp [intOf]; omega
                    · skip
                      have HC := Lib.hid (cnt_step (x, y, z) (by rw [HN.out]; exact hmn) hq)
                      have HD := Lib.hid hy
                      have e1 : (yq == y) = false := by rw [beq_eq_false_iff_ne]; exact fun e => hy e.symm
                      clear hy
                      go_wp2
                      go_roundw
                      case rel => exact ⟨m + 1, N, by omega, by go_num, rfl, by omega, by omega, Lib.hid (by have h1 := HN2.out; have h2 := HC.out; rw [if_neg (fun e => HD.out (congrArg (fun p : Rc => p.2.1) e).symm)] at h2; omega), b_al hbi (Nat.le_refl _) _⟩
                      case measure => simp [intOf]; omega
                  · skip
                    have HC := Lib.hid (cnt_step (x, y, z) (by rw [HN.out]; exact hmn) hq)
                    have HD := Lib.hid hx
                    have e1 : (xq == x) = false := by rw [beq_eq_false_iff_ne]; exact fun e => hx e.symm
                    clear hx
                    go_wp2
                    go_roundw
                    case rel => exact ⟨m + 1, N, by omega, by go_num, rfl, by omega, by omega, Lib.hid (by have h1 := HN2.out; have h2 := HC.out; rw [if_neg (fun e => HD.out (congrArg (fun p : Rc => p.1) e).symm)] at h2; omega), b_al hbi (Nat.le_refl _) _⟩
                    case measure => simp [intOf]; omega
                · have hmn0 : n0 = m := by omega
                  subst hmn0
                  have HE := Lib.hid (show N = 0 by
                    have h1 := HN2.out
                    have h3 := HE2.out
                    rw [List.take_of_length_le (by rw [HN.out]; exact Nat.le_refl _)] at h1
                    have h2 := cnt_perm HSP.out (x, y, z)
                    omega)
                  obtain rfl : N = 0 := HE.out
                  have hsz4 := HBI.out.size
                  go_wp2
                  go_roundw
                  case rel => exact ⟨j + 1, by omega, by go_num, HBI.out⟩
                  case measure => simp [intOf]; omega
        · obtain ⟨i, hji⟩ : ∃ i, i + 1 = j := ⟨j - 1, by omega⟩
          have z5 : (j : Int) - 1 = (i : Int) := by omega
          have z6 : (0 : Int) < (j : Int) := by omega
          have z8 : decide ((0 : Int) < (j : Int)) = true := decide_eq_true z6
          have z9 : decide (0 < j) = true := decide_eq_true (by omega)
          have z7 : (i : Int) < n0 := by omega
          have HLE := Lib.hid (srt_le HSS.out (i := i) (j := j) (by omega) (by rw [HL.out]; exact hlt))
          rw [hp] at HLE
          obtain ⟨⟨x', y', z'⟩, hp'⟩ : ∃ q, s.getD i rz = q := ⟨_, rfl⟩
          rw [hp'] at HLE
          have CLE := fun W => less23_any (x, y, z) (x', y', z') W
          unfold itV at CLE
          simp only [decide_eq_false HLE.out] at CLE
          obtain ⟨m0, m1, m2⟩ := hcd2.out i (by rw [HL.out]; omega)
          rw [hp'] at m0 m1 m2
          simp only at m0 m1 m2
          replace m0 := c_cl m0 hbw
          replace m1 := c_cl m1 hbw
          replace m2 := c_cl m2 hbw
          obtain ⟨W1, hW1⟩ : ∃ W1, W1 = wo.alloc (.cells #[.int .i64 x, .int .i64 y, .int .i64 z] 28) := ⟨_, rfl⟩
          have HP := Lib.hid (show Bx W1 wo.heap.size 28 #[.int .i64 x, .int .i64 y, .int .i64 z] by rw [hW1]; exact Bx.new _ _ rfl)
          have o0 : ∀ p : BelowOf W1, p.world.cell? ⟨wo.heap.size, 0, none⟩ = some (.int .i64 x) := fun p => p.cell (HP.out.cell (k := 0) rfl)
          have o1 : ∀ p : BelowOf W1, p.world.cell? ⟨wo.heap.size, 1, none⟩ = some (.int .i64 y) := fun p => p.cell (HP.out.cell (k := 1) rfl)
          have o2 : ∀ p : BelowOf W1, p.world.cell? ⟨wo.heap.size, 2, none⟩ = some (.int .i64 z) := fun p => p.cell (HP.out.cell (k := 2) rfl)
          have o3 : ∀ p : BelowOf W1, p.world.cell? ⟨bd, offd + i * 3, none⟩ = some (.int .i64 x') := fun p => p.cell (by rw [hW1]; exact c_al _ m0)
          have o4 : ∀ p : BelowOf W1, p.world.cell? ⟨bd, offd + i * 3 + 1, none⟩ = some (.int .i64 y') := fun p => p.cell (by rw [hW1]; exact c_al _ m1)
          have o5 : ∀ p : BelowOf W1, p.world.cell? ⟨bd, offd + i * 3 + 2, none⟩ = some (.int .i64 z') := fun p => p.cell (by rw [hW1]; exact c_al _ m2)
          clear m0 m1 m2
          go_wp2
          rw [← hW1]
          refine wp_region_bel (by kernel_rfl) (by kernel_rfl) ?_
          repeat (go_big_quiet_step ((go_at_call 16; (with_reducible exact Calls.bel_of (CLE _)))))
          refine wpQuiet_nil ?_
          refine bel_all fun wq hbq => ?_
          clear k0 k1 k2 o0 o1 o2 o3 o4 o5 CLE
          subst hW1
          have HBq := Lib.hid (b_cl hbw (Nat.le_refl _) (b_cl (b_al (Below.refl _ _) (Nat.le_refl _) (.cells #[.int .i64 x, .int .i64 y, .int .i64 z] 28)) (Nat.le_refl _) hbq))
          have BP := Lib.hid ((Bx.new (W := wo) 28 #[.int .i64 x, .int .i64 y, .int .i64 z] rfl).below hbq)
          clear hbq
          go_wp2
          go_loopw [13, 81] (fun n i wr => ∃ (m : Nat) (N : Int), m ≤ n0 ∧ i = .int .i64 m ∧ n = .int .i64 N ∧ 0 ≤ N ∧ N ≤ (m : Int) ∧ Hid (N = (cnt (x, y, z) (s.take m) : Int)) ∧ Below wq.heap.size wq wr) (fun _ i _ => n0 - (intOf i).toNat)
          case atStart => exact ⟨0, _, Nat.zero_le _, rfl, rfl, by omega, by omega, Lib.hid (by simp [cnt]), Below.refl _ _⟩
          case round =>
            obtain ⟨m, N, hm, rfl, rfl, hb0, hb1, HN2, hbi⟩ := hrel
            have hszi := hbi.size
            have HBI := Lib.hid (b_cl HBq.out (Nat.le_refl _) hbi)
            by_cases hmn : m < n0
            · have hm1 : (m : Int) < n0 := by omega
              obtain ⟨⟨xq, yq, zq⟩, hq⟩ : ∃ q, s.getD m rz = q := ⟨_, rfl⟩
              obtain ⟨k0, k1, k2⟩ := hcd2.out m (by rw [HL.out]; exact hmn)
              rw [hq] at k0 k1 k2
              simp only at k0 k1 k2
              replace k0 := c_cl k0 HBI.out
              replace k1 := c_cl k1 HBI.out
              replace k2 := c_cl k2 HBI.out
              have BPr := BP.out.below hbi
              have b0 := BPr.cell (k := 0) rfl
              have b1 := BPr.cell (k := 1) rfl
              have b2 := BPr.cell (k := 2) rfl
              have ltp := BPr.lt
              clear BPr
              by_cases hx : x = xq
              · subst hx
                by_cases hy : y = yq
                · subst hy
                  by_cases hz : z = zq
                  · subst hz
                    have HC := Lib.hid (cnt_step (x, y, z) (by rw [HL.out]; exact hmn) hq)
                    go_wp2
                    go_roundw
                    case rel => exact ⟨m + 1, (N + 1), by omega, by go_num, by go_num, by omega, by omega, Lib.hid (by have h1 := HN2.out; have h2 := HC.out; rw [if_pos rfl] at h2; omega), b_al hbi (Nat.le_refl _) _⟩
                    case measure => simp [intOf]; omega
                  · skip
                    have HC := Lib.hid (cnt_step (x, y, z) (by rw [HL.out]; exact hmn) hq)
                    have HD := Lib.hid hz
                    have e1 : (zq == z) = false := by rw [beq_eq_false_iff_ne]; exact fun e => hz e.symm
                    clear hz
                    go_wp2
                    go_roundw
                    case rel => exact ⟨m + 1, N, by omega, by go_num, rfl, by omega, by omega, Lib.hid (by have h1 := HN2.out; have h2 := HC.out; rw [if_neg (fun e => HD.out (congrArg (fun p : Rc => p.2.2) e).symm)] at h2; omega), b_al hbi (Nat.le_refl _) _⟩
                    case measure => simp [intOf]; omega
                · skip
                  have HC := Lib.hid (cnt_step (x, y, z) (by rw [HL.out]; exact hmn) hq)
                  have HD := Lib.hid hy
                  have e1 : (yq == y) = false := by rw [beq_eq_false_iff_ne]; exact fun e => hy e.symm
                  clear hy
                  go_wp2
                  go_roundw
                  case rel => exact ⟨m + 1, N, by omega, by go_num, rfl, by omega, by omega, Lib.hid (by have h1 := HN2.out; have h2 := HC.out; rw [if_neg (fun e => HD.out (congrArg (fun p : Rc => p.2.1) e).symm)] at h2; omega), b_al hbi (Nat.le_refl _) _⟩
                  case measure => simp [intOf]; omega
              · skip
                have HC := Lib.hid (cnt_step (x, y, z) (by rw [HL.out]; exact hmn) hq)
                have HD := Lib.hid hx
                have e1 : (xq == x) = false := by rw [beq_eq_false_iff_ne]; exact fun e => hx e.symm
                clear hx
                go_wp2
                go_roundw
                case rel => exact ⟨m + 1, N, by omega, by go_num, rfl, by omega, by omega, Lib.hid (by have h1 := HN2.out; have h2 := HC.out; rw [if_neg (fun e => HD.out (congrArg (fun p : Rc => p.1) e).symm)] at h2; omega), b_al hbi (Nat.le_refl _) _⟩
                case measure => simp [intOf]; omega
            · have hmn0 : n0 = m := by omega
              subst hmn0
              have HE2 := Lib.hid (show N = (cnt (x, y, z) s : Int) by
                have h1 := HN2.out
                rw [List.take_of_length_le (by rw [HL.out]; exact Nat.le_refl _)] at h1
                exact h1)
              obtain ⟨w7, rfl⟩ : ∃ w7 : World, w7 = wr := ⟨_, rfl⟩
              have BP7 := Lib.hid (BP.out.below hbi)
              have HB7 := HBI
              clear HBI BP hbi
              have BP := BP7
              have nb : 0 ≤ N ∧ N ≤ 60 := by omega
              obtain ⟨nb0, nb1⟩ := nb
              obtain ⟨N0, rfl⟩ : ∃ N0, N0 = N := ⟨_, rfl⟩
              clear HN2 hb0 hb1
              go_wp2
              go_loopw [13, 93] (fun n i wr => ∃ (m : Nat) (N : Int), m ≤ n0 ∧ i = .int .i64 m ∧ n = .int .i64 N ∧ -(m : Int) ≤ N ∧ N ≤ 60 ∧ Hid (N = N0 - (cnt (x, y, z) (l0.take m) : Int)) ∧ Below w7.heap.size w7 wr) (fun _ i _ => n0 - (intOf i).toNat)
              case atStart => exact ⟨0, _, Nat.zero_le _, rfl, rfl, by omega, by omega, Lib.hid (by simp [cnt]), Below.refl _ _⟩
              case round =>
                obtain ⟨m, N, hm, rfl, rfl, hb0, hb1, HN2, hbi⟩ := hrel
                have hszi := hbi.size
                have HBI := Lib.hid (b_cl HB7.out (Nat.le_refl _) hbi)
                by_cases hmn : m < n0
                · have hm1 : (m : Int) < n0 := by omega
                  obtain ⟨⟨xq, yq, zq⟩, hq⟩ : ∃ q, l0.getD m rz = q := ⟨_, rfl⟩
                  obtain ⟨k0, k1, k2⟩ := hco2.out m (by rw [HN.out]; exact hmn)
                  rw [hq] at k0 k1 k2
                  simp only at k0 k1 k2
                  replace k0 := c_cl k0 HBI.out
                  replace k1 := c_cl k1 HBI.out
                  replace k2 := c_cl k2 HBI.out
                  have BPr := BP.out.below hbi
                  have b0 := BPr.cell (k := 0) rfl
                  have b1 := BPr.cell (k := 1) rfl
                  have b2 := BPr.cell (k := 2) rfl
                  have ltp := BPr.lt
                  clear BPr
                  by_cases hx : x = xq
                  · subst hx
                    by_cases hy : y = yq
                    · subst hy
                      by_cases hz : z = zq
                      · subst hz
                        have HC := Lib.hid (cnt_step (x, y, z) (by rw [HN.out]; exact hmn) hq)
                        go_wp2
                        go_roundw
                        case rel => exact ⟨m + 1, (N - 1), by omega, by go_num, by go_num, by omega, by omega, Lib.hid (by have h1 := HN2.out; have h2 := HC.out; rw [if_pos rfl] at h2; omega), b_al hbi (Nat.le_refl _) _⟩
                        case measure => simp [intOf]; omega
                      · skip
                        have HC := Lib.hid (cnt_step (x, y, z) (by rw [HN.out]; exact hmn) hq)
                        have HD := Lib.hid hz
                        have e1 : (zq == z) = false := by rw [beq_eq_false_iff_ne]; exact fun e => hz e.symm
                        clear hz
                        go_wp2
                        go_roundw
                        case rel => exact ⟨m + 1, N, by omega, by go_num, rfl, by omega, by omega, Lib.hid (by have h1 := HN2.out; have h2 := HC.out; rw [if_neg (fun e => HD.out (congrArg (fun p : Rc => p.2.2) e).symm)] at h2; omega), b_al hbi (Nat.le_refl _) _⟩
                        case measure => simp [intOf]; omega
                    · skip
                      have HC := Lib.hid (cnt_step (x, y, z) (by rw [HN.out]; exact hmn) hq)
                      have HD := Lib.hid hy
                      have e1 : (yq == y) = false := by rw [beq_eq_false_iff_ne]; exact fun e => hy e.symm
                      clear hy
                      go_wp2
                      go_roundw
                      case rel => exact ⟨m + 1, N, by omega, by go_num, rfl, by omega, by omega, Lib.hid (by have h1 := HN2.out; have h2 := HC.out; rw [if_neg (fun e => HD.out (congrArg (fun p : Rc => p.2.1) e).symm)] at h2; omega), b_al hbi (Nat.le_refl _) _⟩
                      case measure => simp [intOf]; omega
                  · skip
                    have HC := Lib.hid (cnt_step (x, y, z) (by rw [HN.out]; exact hmn) hq)
                    have HD := Lib.hid hx
                    have e1 : (xq == x) = false := by rw [beq_eq_false_iff_ne]; exact fun e => hx e.symm
                    clear hx
                    go_wp2
                    go_roundw
                    case rel => exact ⟨m + 1, N, by omega, by go_num, rfl, by omega, by omega, Lib.hid (by have h1 := HN2.out; have h2 := HC.out; rw [if_neg (fun e => HD.out (congrArg (fun p : Rc => p.1) e).symm)] at h2; omega), b_al hbi (Nat.le_refl _) _⟩
                    case measure => simp [intOf]; omega
                · have hmn0 : n0 = m := by omega
                  subst hmn0
                  have HE := Lib.hid (show N = 0 by
                    have h1 := HN2.out
                    have h3 := HE2.out
                    rw [List.take_of_length_le (by rw [HN.out]; exact Nat.le_refl _)] at h1
                    have h2 := cnt_perm HSP.out (x, y, z)
                    omega)
                  obtain rfl : N = 0 := HE.out
                  have hsz4 := HBI.out.size
                  go_wp2
                  go_roundw
                  case rel => exact ⟨j + 1, by omega, by go_num, HBI.out⟩
                  case measure => simp [intOf]; omega
      · have HBW := Lib.hid (b_cl B4.out (Nat.le_refl _) hbw)
        clear hbw
        go_wp2_with (first
          | go_skip
          | (go_at_call 6; refine (alive23_any _).mono ?_; rintro e w9 ⟨rfl, hb9⟩; have B9 := Lib.hid (b_cl (HBW.out) (Nat.le_refl _) hb9); clear hb9))
        go_ret
        exact ⟨rfl, B9.out⟩

end Go.Proofs.Ytpfmkggnnilknaa
