/- Whatever comes to any heap, and goes: the first item, and how many there are, is as the document says. Conditions: none. -/
import Derived.Test.YtpfmkggnnilknaaRows
import Derived.Test.YtpfmkggnnilknaaBase
import Derived.Test.YtpfmkggnnilknaaRow
import Derived.Test.YtpfmkggnnilknaaRecMath
import Derived.Test.YtpfmkggnnilknaaTriLt
import Derived.Test.YtpfmkggnnilknaaBox
import Derived.Test.YtpfmkggnnilknaaFindHeap
import Derived.Test.YtpfmkggnnilknaaTriHeap
import Derived.Test.YtpfmkggnnilknaaHeapMath
import Derived.Test.YtpfmkggnnilknaaHeapHeap
import Derived.Test.YtpfmkggnnilknaaHeapLeaf
import Derived.Test.YtpfmkggnnilknaaHeapApp
import Derived.Test.YtpfmkggnnilknaaHeapPile
import Derived.Test.YtpfmkggnnilknaaHeapLib
import Derived.Test.YtpfmkggnnilknaaHeapPush
import Derived.Test.YtpfmkggnnilknaaHeapLib2
import Derived.Test.YtpfmkggnnilknaaHeapC
import Derived.Test.YtpfmkggnnilknaaHeapC2
import Derived.Test.YtpfmkggnnilknaaHeapC3
import Derived.Test.YtpfmkggnnilknaaHeapC4
import Derived.Test.YtpfmkggnnilknaaHeapRef
import Derived.Test.YtpfmkggnnilknaaHeapRef2
import Derived.Test.YtpfmkggnnilknaaHeapOpen
import Derived.Test.YtpfmkggnnilknaaHeapAlive
import Derived.WalkKit
import Derived.WalkSmall
import Derived.WalkSpells
import Derived.ProofKit
import Derived.OpenShut
import Derived.ShutString
import Derived.ChangeOld
import Derived.Below
import Derived.Lib.Hide
import Derived.OwnWalk
import Derived.Outline
import Derived.BigQuiet
import Derived.Deep.QuietTactic
import Derived.Deep.DeepCutAuto
import Derived.Deep.RegionWith
import Derived.Deep.LoopGhost
import Derived.Lib.MinMax
namespace Go.Proofs.Ytpfmkggnnilknaa.heapRuns
open Go.ChangeShapes Go.WideShapes Go.ChangeAt Go.RowKit
open Go.ChangeMaps (open_string shut_string)
set_option linter.unusedVariables false

theorem own : ownKnob Try.prog.godebug = none := by kernel_rfl
theorem laidOut : laidOutB Try.prog = true := by kernel_rfl

/-- How the document's list lies beside a heap: it can be read, and shares no block with the heap. -/
structure XS (w : World) (A : Option Addr) (c : Nat) (s : List Rc) (g b : Nat) : Prop where
  rd : RdF w A s
  z : A = none → c = 0
  n : s.length ≤ c
  form : A = none ∨ ∃ q off, A = some ⟨q, off, none⟩
  apart : s ≠ [] → ∀ a, A = some a → a.block ≠ g ∧ a.block ≠ b

theorem RdF.drop1 {w : World} {b off : Nat} {y : Rc} {l : List Rc} (h : RdF w (some ⟨b, off, none⟩) (y :: l)) : RdF w (some ⟨b, off + 3, none⟩) l := by
  have := RdF.drop h 1
  simpa using this

set_option maxRecDepth 20000 in
set_option maxHeartbeats 4000000 in
theorem walk (w : World) (A0 : Option Addr) (c0 : Nat) (l0 : List Rc) (r0 : RdF w A0 l0) (z0 : A0 = none → c0 = 0) (A1 : Option Addr) (c1 : Nat) (l1 : List (Bool × Rc)) (r1 : RdA w A1 l1) (z1 : A1 = none → c1 = 0) :
    Calls Try.prog 3 #[.slice A0 l0.length c0, .slice A1 l1.length c1] w fun e w' => e = .returned (.bool true) ∧ Below w.heap.size w w' := by
  obtain ⟨n0, hn0⟩ : ∃ n, l0.length = n := ⟨_, rfl⟩
  obtain ⟨na, hna⟩ : ∃ n, l1.length = n := ⟨_, rfl⟩
  rw [hn0, hna]
  have HN := Lib.hid hn0
  have HNA := Lib.hid hna
  have R0 := Lib.hid r0
  have R1 := Lib.hid r1
  have B0 := Lib.hid (Below.refl w.heap.size w)
  clear r0 r1 hn0 hna z0 z1
  by_cases hbig : 60 < n0
  · have i1 : (60 : Int) < (n0 : Int) := by omega
    go_enter Try.func3, Try.ntmps3
    go_wp2_with (first
      | go_skip
      | (go_at_call 6; refine (alive23_any _).mono ?_; rintro e w9 ⟨rfl, hb9⟩; have B9 := Lib.hid (b_cl (B0.out) (Nat.le_refl _) hb9); clear hb9))
    go_ret
    exact ⟨rfl, B9.out⟩
  · by_cases hbig2 : 100 < na
    · have i1 : (n0 : Int) ≤ 60 := by omega
      have i2 : (100 : Int) < (na : Int) := by omega
      go_enter Try.func3, Try.ntmps3
      go_wp2_with (first
        | go_skip
        | (go_at_call 6; refine (alive23_any _).mono ?_; rintro e w9 ⟨rfl, hb9⟩; have B9 := Lib.hid (b_cl (B0.out) (Nat.le_refl _) hb9); clear hb9))
      go_ret
      exact ⟨rfl, B9.out⟩
    · have hs60 : n0 ≤ 60 := by omega
      have hs100 : na ≤ 100 := by omega
      have i1 : (n0 : Int) ≤ 60 := by omega
      have i2 : (na : Int) ≤ 100 := by omega
      obtain ⟨s, hs⟩ : ∃ s, srt l0 = s := ⟨_, rfl⟩
      have hsl : s.length = n0 := by rw [← hs, srt_len, HN.out]
      have HS := Lib.hid hs
      have HL := Lib.hid hsl
      clear hs hsl hbig hbig2
      go_enter Try.func3, Try.ntmps3
      go_wp2_with (first
        | go_skip
        | (go_at_call 7; refine (push23_nil rz _).mono ?_; rintro e w1 ⟨rfl, hb1⟩; have B1 := Lib.hid (b_cl B0.out (Nat.le_refl _) hb1); clear hb1)
        | (go_at_call 8; refine (pop23_nil _).mono ?_; unfold itV rz; rintro e w2 ⟨rfl, hb2⟩; have B2 := Lib.hid (b_cl B1.out (Nat.le_refl _) hb2); clear hb2)
        | (go_at_call 9; refine (peek23_nil _).mono ?_; unfold itV rz; rintro e w3 ⟨rfl, hb3⟩; have B3 := Lib.hid (b_cl (b_al B2.out (Nat.le_refl _) _) (Nat.le_refl _) hb3); clear hb3)
        | (go_at_call 10; refine (len23_nil _).mono ?_; rintro e w4 ⟨rfl, rfl⟩)
        | (go_at_call 11; refine (drain23_nil 3 _).mono ?_; rintro e w5 ⟨rfl, hb5⟩; have B5 := Lib.hid (b_cl (b_al B3.out (Nat.le_refl _) _) (Nat.le_refl _) hb5); clear hb5)
        | (go_at_call 13; refine (give23_any A0 n0 c0 l0 _ HN.out (R0.out.below B5.out) (by omega)).mono ?_; rintro e w6 ⟨v6, rfl, o6, hb6⟩; obtain ⟨A6, c6, rfl, rd6, _, _, _⟩ := o6.form; rw [HN.out]; have Y6 := Lib.hid rd6; have B6 := Lib.hid (b_cl B5.out (Nat.le_refl _) hb6); clear rd6 hb6 o6)
        | (go_at_call 12; refine (new23_any A6 n0 c6 l0 _ HN.out Y6.out (by omega)).mono ?_; rintro e w7 ⟨g, b, rfl, h7, hb7, g7, b7⟩; rw [HS.out] at h7; have gl := h7.lt; have H7 := Lib.hid h7; have hw6 := B6.out.size; have gg : w.heap.size ≤ g := (by omega); have gb : w.heap.size ≤ b := (by omega); have B7 := Lib.hid (b_cl B6.out (Nat.le_refl _) hb7); clear h7 hb7)
        | (go_at_call 14; refine (refnew23_any A0 n0 c0 l0 _ HN.out (R0.out.below B7.out) (by omega)).mono ?_; rintro e w8 ⟨v8, rfl, o8, hb8⟩; rw [HS.out] at o8; obtain ⟨A8, c8, rfl, rd8, z8, n8, f8⟩ := o8.form; have X8 := Lib.hid (show XS w8 A8 c8 s g b from ⟨rd8, z8, n8, (by rcases f8 with h | ⟨q, h, _, _⟩; (· exact .inl h); (· exact .inr ⟨q, 0, h⟩)), (fun _ a ha => by rcases f8 with h | ⟨q, h, h2, _⟩; (· rw [h] at ha; cases ha); (· rw [h] at ha; injection ha with ha; rw [← ha]; exact ⟨by show q ≠ g; omega, by show q ≠ b; omega⟩))⟩); have H8 := Lib.hid (H7.out.below hb8); have B8 := Lib.hid (b_cl B7.out (Nat.le_refl _) hb8); clear o8 rd8 z8 n8 f8 hb8))
      go_loopw [11, 65] (fun s11 i wr => ∃ (j : Nat) (S : List Rc) (A : Option Addr) (c b : Nat), j ≤ na ∧ s11 = .slice A S.length c ∧ i = .int .i64 j ∧ w.heap.size ≤ b ∧ Hid (S.length ≤ 60 + j) ∧ Hid (Hs wr g b S ∧ Below w.heap.size w wr) ∧ Hid (XS wr A c S g b)) (fun _ i _ => na - (intOf i).toNat)
      case atStart => exact ⟨0, s, A8, c8, b, Nat.zero_le _, rfl, rfl, gb, Lib.hid (by rw [HL.out]; omega), Lib.hid ⟨H8.out, B8.out⟩, X8⟩
      case round =>
        clear B1 B2 B3 B5 B6 B7 B8 H7 H8 X8 Y6 gl gb g7 b7 hw6
        obtain ⟨j, S, A, c, b, hj, rfl, rfl, gb, HSB, HR, HX⟩ := hrel
        have gl := HR.out.1.lt
        have hwr := HR.out.2.size
        obtain ⟨k, hk⟩ : ∃ k, S.length = k := ⟨_, rfl⟩
        have HSL := Lib.hid hk
        by_cases hlt : j < na
        · have j1 : (j : Int) < na := by omega
          have hk160 : k ≤ 160 := by have := HSB.out; omega
          obtain ⟨ba, offa, hA1, hba, hca⟩ := R1.out (nonnil (k := j) (by rw [HNA.out]; exact hlt))
          subst hA1
          obtain ⟨c0', c1', c2', c3'⟩ := hca j (by rw [HNA.out]; exact hlt)
          obtain ⟨⟨o, x0, x1, x2⟩, hq⟩ : ∃ q, l1.getD j (false, rz) = q := ⟨_, rfl⟩
          rw [hq] at c0' c1' c2' c3'
          simp only at c0' c1' c2' c3'
          replace c0' := c_cl c0' HR.out.2
          replace c1' := c_cl c1' HR.out.2
          replace c2' := c_cl c2' HR.out.2
          replace c3' := c_cl c3' HR.out.2
          clear hca hq
          cases S with
          | nil =>
            obtain rfl : k = 0 := by simpa using hk.symm
            clear hk
            simp only [List.length_nil]
            cases o with
            | false =>
              go_wp2_with (first
                | go_skip
                | (go_at_call 9; refine (peek23_none (HR.out.1.below (b_al (b_al (Below.refl _ _) (Nat.le_refl _) _) (Nat.le_refl _) _))).mono ?_; unfold itV rz; rintro e w3 ⟨rfl, hb3⟩; have hb32 := b_cl (b_al (b_al (Below.refl _ _) (Nat.le_refl _) _) (Nat.le_refl _) _) (Nat.le_refl _) hb3; have HB3 := Lib.hid hb32; have H3 := Lib.hid (HR.out.1.below hb32); have HA3 := Lib.hid (((Bx.new (W := wr) 39 #[.bool false, .int .i64 x0, .int .i64 x1, .int .i64 x2] rfl).alloc _).below hb3); have HF3 := Lib.hid ((Bx.new (W := wr.alloc (.cells #[.bool false, .int .i64 x0, .int .i64 x1, .int .i64 x2] 39)) (g := wr.heap.size + 1) 28 #[.int .i64 0, .int .i64 0, .int .i64 0] (by simp)).below hb3); have lt3 := HF3.out.lt; have lt3a := HA3.out.lt; have f0 := HF3.out.cell (k := 0) rfl; have f1 := HF3.out.cell (k := 1) rfl; have f2 := HF3.out.cell (k := 2) rfl; have a0 := HA3.out.cell (k := 0) rfl; have a1 := HA3.out.cell (k := 1) rfl; have a2 := HA3.out.cell (k := 2) rfl; have a3 := HA3.out.cell (k := 3) rfl; clear hb3 hb32)
                | (go_at_call 10; refine (len23_any (H3.out.below (b_al (Below.refl _ _) (Nat.le_refl _) _))).mono ?_; rintro e w4 ⟨rfl, rfl⟩)
                | (go_at_call 7; refine (push23_any (H3.out.below (b_al (Below.refl _ _) (Nat.le_refl _) _)) (by have := HSL.out; omega) (x0, x1, x2)).mono ?_; rintro e w5 ⟨rfl, b5, h5, m5⟩; have H5 := Lib.hid h5; have gl5 := h5.lt; have M5 := Lib.hid ((Mv.of_below (HB3.out)).trans ((Mv.of_below (b_al (Below.refl _ _) (Nat.le_refl _) _)).trans m5)); have HA5 := Lib.hid (m5.bx (HA3.out.alloc _) (by omega) (by omega)); have a10 := HA5.out.cell (k := 0) rfl; have a11 := HA5.out.cell (k := 1) rfl; have a12 := HA5.out.cell (k := 2) rfl; have a13 := HA5.out.cell (k := 3) rfl; have X5 := Lib.hid (HX.out.rd.mv M5.out (fun hne a ha => HX.out.apart hne a ha)); clear h5 m5)
                | (go_at_call 15; refine (refpush23_any _ _ _ ([] : List Rc) (x0, x1, x2) _ HSL.out X5.out HX.out.z (by rw [← HSL.out]; exact HX.out.n) HX.out.form (by omega)).mono ?_; rintro e w6 ⟨v6, rfl, o6, hb6⟩; obtain ⟨A6, c6, rfl, rd6, z6, n6, f6⟩ := o6.form; have X6 := Lib.hid (show XS w6 A6 c6 (ins (x0, x1, x2) ([] : List Rc)) g b5 from ⟨rd6, z6, n6, (by rcases f6 with h | ⟨q, h, _, _⟩; (· exact .inl h); (· exact .inr ⟨q, 0, h⟩)), (fun _ a ha => by rcases f6 with h | ⟨q, h, h2, _⟩; (· rw [h] at ha; cases ha); (· rw [h] at ha; injection ha with ha; rw [← ha]; exact ⟨by show q ≠ g; omega, by show q ≠ b5; omega⟩))⟩); have H6 := Lib.hid (H5.out.below hb6); have HB6 := Lib.hid ((HR.out.2.trans (M5.out.bel _ gg gb HR.out.2.size)).trans (hb6.mono (Nat.le_trans HR.out.2.size M5.out.size))); have nb6 := M5.out.new; clear o6 rd6 z6 n6 f6 hb6))
              go_roundw
              case rel => exact ⟨j + 1, ins (x0, x1, x2) ([] : List Rc), A6, c6, b5, by omega, rfl, by go_num, by omega, Lib.hid (by rw [ins_len]; have := HSB.out; omega), Lib.hid ⟨H6.out, HB6.out⟩, X6⟩
              case measure => simp [intOf]; omega
            | true =>
              go_wp2_with (first
                | go_skip
                | (go_at_call 9; refine (peek23_none (HR.out.1.below (b_al (b_al (Below.refl _ _) (Nat.le_refl _) _) (Nat.le_refl _) _))).mono ?_; unfold itV rz; rintro e w3 ⟨rfl, hb3⟩; have hb32 := b_cl (b_al (b_al (Below.refl _ _) (Nat.le_refl _) _) (Nat.le_refl _) _) (Nat.le_refl _) hb3; have HB3 := Lib.hid hb32; have H3 := Lib.hid (HR.out.1.below hb32); have HA3 := Lib.hid (((Bx.new (W := wr) 39 #[.bool true, .int .i64 x0, .int .i64 x1, .int .i64 x2] rfl).alloc _).below hb3); have HF3 := Lib.hid ((Bx.new (W := wr.alloc (.cells #[.bool true, .int .i64 x0, .int .i64 x1, .int .i64 x2] 39)) (g := wr.heap.size + 1) 28 #[.int .i64 0, .int .i64 0, .int .i64 0] (by simp)).below hb3); have lt3 := HF3.out.lt; have lt3a := HA3.out.lt; have f0 := HF3.out.cell (k := 0) rfl; have f1 := HF3.out.cell (k := 1) rfl; have f2 := HF3.out.cell (k := 2) rfl; have a0 := HA3.out.cell (k := 0) rfl; have a1 := HA3.out.cell (k := 1) rfl; have a2 := HA3.out.cell (k := 2) rfl; have a3 := HA3.out.cell (k := 3) rfl; clear hb3 hb32)
                | (go_at_call 10; refine (len23_any (H3.out.below (b_al (Below.refl _ _) (Nat.le_refl _) _))).mono ?_; rintro e w4 ⟨rfl, rfl⟩)
                | (go_at_call 8; refine (pop23_none (H3.out.below (b_al (Below.refl _ _) (Nat.le_refl _) _))).mono ?_; unfold itV rz; rintro e w5 ⟨rfl, hb5⟩; have hb52 := b_cl (b_al HB3.out (Nat.le_refl _) _) (Nat.le_refl _) hb5; have H5 := Lib.hid (HR.out.1.below hb52); have HB5 := Lib.hid hb52; have HF5 := Lib.hid ((HF3.out.alloc _).below hb5); have lt5 := HF5.out.lt; have f10 := HF5.out.cell (k := 0) rfl; have f11 := HF5.out.cell (k := 1) rfl; have f12 := HF5.out.cell (k := 2) rfl; clear hb5 hb52))
              go_roundw
              case rel =>
                have hb6 := b_al (Below.refl w5.heap.size w5) (Nat.le_refl _) (.cells #[.int .i64 0, .int .i64 0, .int .i64 0] 28)
                have hb7 := b_cl HB5.out (Nat.le_refl _) hb6
                exact ⟨j + 1, [], A, c, b, by omega, rfl, by go_num, gb, Lib.hid (by simp), Lib.hid ⟨H5.out.below hb6, b_cl HR.out.2 (Nat.le_refl _) hb7⟩, Lib.hid ⟨RdF.nil _ _, HX.out.z, HX.out.n, HX.out.form, fun h => absurd rfl h⟩⟩
              case measure => simp [intOf]; omega
          | cons y r =>
            obtain ⟨y0, y1, y2⟩ := y
            obtain ⟨m, hm⟩ : ∃ m, r.length = m := ⟨_, rfl⟩
            have hkm : k = m + 1 := by rw [← hk, List.length_cons, hm]
            subst hkm
            rw [hk]
            obtain ⟨bx, off, hAx, hbx, hcx⟩ := HX.out.rd (by simp)
            subst hAx
            obtain ⟨e0, e1, e2⟩ := hcx 0 (by simp)
            simp only [Nat.zero_mul, Nat.add_zero, List.getD_cons_zero] at e0 e1 e2
            have HLEN := Lib.hid (show ((((y0, y1, y2) :: r : List Rc).length : Nat) : Int) = (m : Int) + 1 by rw [hk]; omega)
            have z1 : decide ((0 : Int) < (m : Int) + 1) = true := decide_eq_true (by omega)
            have z2 : (0 : Int) < (m : Int) + 1 := by omega
            have HM := Lib.hid hm
            clear hcx hk hm
            cases o with
            | false =>
              go_wp2_with (first
                | go_skip
                | (go_at_call 9; refine (peek23_some (HR.out.1.below (b_al (b_al (Below.refl _ _) (Nat.le_refl _) _) (Nat.le_refl _) _))).mono ?_; unfold itV; rintro e w3 ⟨rfl, hb3⟩; have hb32 := b_cl (b_al (b_al (Below.refl _ _) (Nat.le_refl _) _) (Nat.le_refl _) _) (Nat.le_refl _) hb3; have HB3 := Lib.hid hb32; have H3 := Lib.hid (HR.out.1.below hb32); have HA3 := Lib.hid (((Bx.new (W := wr) 39 #[.bool false, .int .i64 x0, .int .i64 x1, .int .i64 x2] rfl).alloc _).below hb3); have HF3 := Lib.hid ((Bx.new (W := wr.alloc (.cells #[.bool false, .int .i64 x0, .int .i64 x1, .int .i64 x2] 39)) (g := wr.heap.size + 1) 28 #[.int .i64 y0, .int .i64 y1, .int .i64 y2] (by simp)).below hb3); have lt3 := HF3.out.lt; have lt3a := HA3.out.lt; have f0 := HF3.out.cell (k := 0) rfl; have f1 := HF3.out.cell (k := 1) rfl; have f2 := HF3.out.cell (k := 2) rfl; have a0 := HA3.out.cell (k := 0) rfl; have a1 := HA3.out.cell (k := 1) rfl; have a2 := HA3.out.cell (k := 2) rfl; have a3 := HA3.out.cell (k := 3) rfl; clear hb3 hb32)
                | (go_at_call 10; refine (len23_any (H3.out.below (b_al (Below.refl _ _) (Nat.le_refl _) _))).mono ?_; rintro e w4 ⟨rfl, rfl⟩; rw [HLEN.out])
                | (go_at_call 7; refine (push23_any (H3.out.below (b_al (Below.refl _ _) (Nat.le_refl _) _)) (by have := HSL.out; omega) (x0, x1, x2)).mono ?_; rintro e w5 ⟨rfl, b5, h5, m5⟩; have H5 := Lib.hid h5; have gl5 := h5.lt; have M5 := Lib.hid ((Mv.of_below (HB3.out)).trans ((Mv.of_below (b_al (Below.refl _ _) (Nat.le_refl _) _)).trans m5)); have HA5 := Lib.hid (m5.bx (HA3.out.alloc _) (by omega) (by omega)); have a10 := HA5.out.cell (k := 0) rfl; have a11 := HA5.out.cell (k := 1) rfl; have a12 := HA5.out.cell (k := 2) rfl; have a13 := HA5.out.cell (k := 3) rfl; have X5 := Lib.hid (HX.out.rd.mv M5.out (fun hne a ha => HX.out.apart hne a ha)); clear h5 m5)
                | (go_at_call 15; refine (refpush23_any _ _ _ ((y0, y1, y2) :: r) (x0, x1, x2) _ HSL.out X5.out HX.out.z (by rw [← HSL.out]; exact HX.out.n) HX.out.form (by omega)).mono ?_; rintro e w6 ⟨v6, rfl, o6, hb6⟩; obtain ⟨A6, c6, rfl, rd6, z6, n6, f6⟩ := o6.form; have X6 := Lib.hid (show XS w6 A6 c6 (ins (x0, x1, x2) ((y0, y1, y2) :: r)) g b5 from ⟨rd6, z6, n6, (by rcases f6 with h | ⟨q, h, _, _⟩; (· exact .inl h); (· exact .inr ⟨q, 0, h⟩)), (fun _ a ha => by rcases f6 with h | ⟨q, h, h2, _⟩; (· rw [h] at ha; cases ha); (· rw [h] at ha; injection ha with ha; rw [← ha]; exact ⟨by show q ≠ g; omega, by show q ≠ b5; omega⟩))⟩); have H6 := Lib.hid (H5.out.below hb6); have HB6 := Lib.hid ((HR.out.2.trans (M5.out.bel _ gg gb HR.out.2.size)).trans (hb6.mono (Nat.le_trans HR.out.2.size M5.out.size))); have nb6 := M5.out.new; clear o6 rd6 z6 n6 f6 hb6))
              go_roundw
              case rel => exact ⟨j + 1, ins (x0, x1, x2) ((y0, y1, y2) :: r), A6, c6, b5, by omega, rfl, by go_num, by omega, Lib.hid (by rw [ins_len]; have := HSB.out; omega), Lib.hid ⟨H6.out, HB6.out⟩, X6⟩
              case measure => simp [intOf]; omega
            | true =>
              by_cases hc1 : c = 1
              · subst hc1
                have hr0 : r = [] := by have h1 := HX.out.n; simpa using h1
                go_wp2_with (first
                  | go_skip
                  | (go_at_call 9; refine (peek23_some (HR.out.1.below (b_al (b_al (Below.refl _ _) (Nat.le_refl _) _) (Nat.le_refl _) _))).mono ?_; unfold itV; rintro e w3 ⟨rfl, hb3⟩; have hb32 := b_cl (b_al (b_al (Below.refl _ _) (Nat.le_refl _) _) (Nat.le_refl _) _) (Nat.le_refl _) hb3; have HB3 := Lib.hid hb32; have H3 := Lib.hid (HR.out.1.below hb32); have HA3 := Lib.hid (((Bx.new (W := wr) 39 #[.bool true, .int .i64 x0, .int .i64 x1, .int .i64 x2] rfl).alloc _).below hb3); have HF3 := Lib.hid ((Bx.new (W := wr.alloc (.cells #[.bool true, .int .i64 x0, .int .i64 x1, .int .i64 x2] 39)) (g := wr.heap.size + 1) 28 #[.int .i64 y0, .int .i64 y1, .int .i64 y2] (by simp)).below hb3); have lt3 := HF3.out.lt; have lt3a := HA3.out.lt; have f0 := HF3.out.cell (k := 0) rfl; have f1 := HF3.out.cell (k := 1) rfl; have f2 := HF3.out.cell (k := 2) rfl; have a0 := HA3.out.cell (k := 0) rfl; have a1 := HA3.out.cell (k := 1) rfl; have a2 := HA3.out.cell (k := 2) rfl; have a3 := HA3.out.cell (k := 3) rfl; clear hb3 hb32)
                  | (go_at_call 10; refine (len23_any (H3.out.below (b_al (Below.refl _ _) (Nat.le_refl _) _))).mono ?_; rintro e w4 ⟨rfl, rfl⟩; rw [HLEN.out])
                  | (go_at_call 8; refine (pop23_some (H3.out.below (b_al (Below.refl _ _) (Nat.le_refl _) _)) (by have := HSL.out; simp at this; omega)).mono ?_; unfold itV; rintro e w5 ⟨rfl, h5, m5⟩; have H5 := Lib.hid h5; have M5 := Lib.hid ((Mv.of_below (HB3.out)).trans ((Mv.of_below (b_al (Below.refl _ _) (Nat.le_refl _) _)).trans m5)); have HF5 := Lib.hid (m5.bx (HF3.out.alloc _) (by omega) (by omega)); have lt5 := HF5.out.lt; have f10 := HF5.out.cell (k := 0) rfl; have f11 := HF5.out.cell (k := 1) rfl; have f12 := HF5.out.cell (k := 2) rfl; clear h5 m5))
                go_roundw
                case rel =>
                  have hb6 := b_al (Below.refl w5.heap.size w5) (Nat.le_refl _) (.cells #[.int .i64 y0, .int .i64 y1, .int .i64 y2] 28)
                  have X5 := HX.out.rd.mv M5.out (fun hne a ha => HX.out.apart hne a ha)
                  exact ⟨j + 1, r, some ⟨bx, off, none⟩, 0, b, by omega, (by rw [HM.out]), by go_num, gb, Lib.hid (by have h1 := HSB.out; simp at h1; omega), Lib.hid ⟨H5.out.below hb6, (HR.out.2.trans (M5.out.bel _ gg gb HR.out.2.size)).trans (hb6.mono (Nat.le_trans HR.out.2.size M5.out.size))⟩, Lib.hid ⟨(by rw [hr0]; exact RdF.nil _ _), (fun h => by cases h), (by rw [hr0]; exact Nat.le_refl _), .inr ⟨_, _, rfl⟩, (fun _ a ha => by injection ha with ha; rw [← ha]; exact HX.out.apart (by simp) ⟨bx, off, none⟩ rfl)⟩⟩
                case measure => simp [intOf]; omega
              · have hc2 : 1 < c := by have h1 := HX.out.n; simp at h1; omega
                have hc3 : (1 : Int) < c := by omega
                go_wp2_with (first
                  | go_skip
                  | (go_at_call 9; refine (peek23_some (HR.out.1.below (b_al (b_al (Below.refl _ _) (Nat.le_refl _) _) (Nat.le_refl _) _))).mono ?_; unfold itV; rintro e w3 ⟨rfl, hb3⟩; have hb32 := b_cl (b_al (b_al (Below.refl _ _) (Nat.le_refl _) _) (Nat.le_refl _) _) (Nat.le_refl _) hb3; have HB3 := Lib.hid hb32; have H3 := Lib.hid (HR.out.1.below hb32); have HA3 := Lib.hid (((Bx.new (W := wr) 39 #[.bool true, .int .i64 x0, .int .i64 x1, .int .i64 x2] rfl).alloc _).below hb3); have HF3 := Lib.hid ((Bx.new (W := wr.alloc (.cells #[.bool true, .int .i64 x0, .int .i64 x1, .int .i64 x2] 39)) (g := wr.heap.size + 1) 28 #[.int .i64 y0, .int .i64 y1, .int .i64 y2] (by simp)).below hb3); have lt3 := HF3.out.lt; have lt3a := HA3.out.lt; have f0 := HF3.out.cell (k := 0) rfl; have f1 := HF3.out.cell (k := 1) rfl; have f2 := HF3.out.cell (k := 2) rfl; have a0 := HA3.out.cell (k := 0) rfl; have a1 := HA3.out.cell (k := 1) rfl; have a2 := HA3.out.cell (k := 2) rfl; have a3 := HA3.out.cell (k := 3) rfl; clear hb3 hb32)
                  | (go_at_call 10; refine (len23_any (H3.out.below (b_al (Below.refl _ _) (Nat.le_refl _) _))).mono ?_; rintro e w4 ⟨rfl, rfl⟩; rw [HLEN.out])
                  | (go_at_call 8; refine (pop23_some (H3.out.below (b_al (Below.refl _ _) (Nat.le_refl _) _)) (by have := HSL.out; simp at this; omega)).mono ?_; unfold itV; rintro e w5 ⟨rfl, h5, m5⟩; have H5 := Lib.hid h5; have M5 := Lib.hid ((Mv.of_below (HB3.out)).trans ((Mv.of_below (b_al (Below.refl _ _) (Nat.le_refl _) _)).trans m5)); have HF5 := Lib.hid (m5.bx (HF3.out.alloc _) (by omega) (by omega)); have lt5 := HF5.out.lt; have f10 := HF5.out.cell (k := 0) rfl; have f11 := HF5.out.cell (k := 1) rfl; have f12 := HF5.out.cell (k := 2) rfl; clear h5 m5))
                go_roundw
                case rel =>
                  have hb6 := b_al (Below.refl w5.heap.size w5) (Nat.le_refl _) (.cells #[.int .i64 y0, .int .i64 y1, .int .i64 y2] 28)
                  have X5 := HX.out.rd.mv M5.out (fun hne a ha => HX.out.apart hne a ha)
                  exact ⟨j + 1, r, some ⟨bx, off + 3, none⟩, c - 1, b, by omega, (by rw [HM.out]), by go_num, gb, Lib.hid (by have h1 := HSB.out; simp at h1; omega), Lib.hid ⟨H5.out.below hb6, (HR.out.2.trans (M5.out.bel _ gg gb HR.out.2.size)).trans (hb6.mono (Nat.le_trans HR.out.2.size M5.out.size))⟩, Lib.hid ⟨(RdF.drop1 (X5.below hb6)), (fun h => by cases h), (by have h1 := HX.out.n; simp at h1; omega), .inr ⟨_, _, rfl⟩, (fun _ a ha => by injection ha with ha; rw [← ha]; exact HX.out.apart (by simp) ⟨bx, off, none⟩ rfl)⟩⟩
                case measure => simp [intOf]; omega
        · have hj0 : j = na := by omega
          have HBW := Lib.hid HR.out.2
          have CL := len23_any HR.out.1
          rw [hk] at CL ⊢
          go_wp2_with (first
            | go_skip
            | (go_at_call 10; refine CL.mono ?_; rintro e w4 ⟨rfl, rfl⟩)
            | (go_at_call 6; refine (alive23_any _).mono ?_; rintro e w9 ⟨rfl, hb9⟩; have B9 := Lib.hid (b_cl (HBW.out) (Nat.le_refl _) hb9); clear hb9))
          go_ret
          exact ⟨rfl, B9.out⟩

set_option maxRecDepth 100000 in
theorem lifted (os : Os) (started : os.Started) (H : Type) (enc : TypeId × Value → H) :
    ReturnsInHanded {} Try.checked os 3 .any (Rows.heapRunsSpec.pre6 enc Try.prog Try.f3 Rows.heapRunsRow.domain false) (Rows.heapRunsSpec.post enc Try.prog Try.f3 false true false false) := by
  refine returnsInHanded_of_change (C := Try.checked) own started (by kernel_rfl) Try.func3
    (ChangeSpec.witness6 (enc := enc) (C := Try.checked) false ⟨#[], #[.slice none 0 0, .slice none 0 0], []⟩ 8 (by kernel_rfl) (by kernel_rfl) (by kernel_rfl) (by kernel_rfl)) ?_
  intro W base args ds gs before hval0 hW hcnd _
  have hval : ∀ (j : Nat) t v, Try.f3.params[j]? = some t → args[j]? = some v → Value.okWide Try.prog W .any base t v := hval0
  have hW' := hW
  obtain ⟨p, q, hA0, hV, rfl, hfz, hnd⟩ := hW
  have hA : DataW.TrodAll enc Try.prog W 0 (fun _ => true) true Try.f3.params.toList args.toList ds p := hA0
  rw [Try.params3] at hA hval
  obtain ⟨v0, vs0, d0, ds0, p0, q0, hargs, rfl, rfl, h0, r0⟩ := trodAll_cons hA
  obtain ⟨v1, vs1, d1, ds1, p1, q1, rfl, rfl, rfl, h1, r1⟩ := trodAll_cons r0
  obtain ⟨rfl, rfl, rfl⟩ := trodAll_nil r1
  obtain rfl : args = #[v0, v1] := by cases args; simp_all
  obtain ⟨rfl, rfl⟩ := trodVars_none hV
  have k0 := h0
  have lt0 : ∀ x ∈ p0, x.block < W.heap.size := by obtain ⟨m, hm⟩ := k0; exact DataW.trod_lt m _ _ _ hm
  obtain ⟨A0, c0, l0, rfl, rd0, zz0⟩ := open_ritems (hval 0 22 v0 rfl rfl) h0
  have k1 := h1
  have lt1 : ∀ x ∈ p1, x.block < W.heap.size := by obtain ⟨m, hm⟩ := k1; exact DataW.trod_lt m _ _ _ hm
  obtain ⟨A1, c1, l1, rfl, rd1, zz1⟩ := open_acts (hval 1 23 v1 rfl rfl) h1
  clear hA0 hval0
  refine (walk W A0 c0 l0 rd0 zz0 A1 c1 l1 rd1 zz1).mono fun e W' ⟨he, bel⟩ => ?_
  subst he
  exact ⟨_, rfl, _, _, _, [], _, [], hW', trodAll_mk1 (shut_bool Try.underlying4 _), (trodAll_cons_mk (Below.trod laidOut (by kernel_rfl) (of_decide_eq_true (by kernel_rfl)) k0 bel lt0) (trodAll_cons_mk (Below.trod laidOut (by kernel_rfl) (of_decide_eq_true (by kernel_rfl)) k1 bel lt1) trodAll_mk0)), rfl, bel.frame _, fun h => by cases h⟩

theorem over : Rows.heapRunsRow.holds Try.pinned (OpenSpec.ofChange Rows.heapRunsSpec) :=
  OpenClaim.holds_of_wide 3 Try.f3 rfl rfl rfl rfl rfl rfl rfl ⟨rfl, rfl, rfl, rfl, rfl⟩ rfl rfl rfl rfl rfl (by kernel_rfl) Try.func3 (by kernel_rfl)
    (of_decide_eq_true (by kernel_rfl)) (by unfold Func.isWrapper; first | (rw [if_pos (by decide +kernel)]; kernel_rfl) | (rw [if_neg (by decide +kernel)]; exact ⟨rfl, rfl⟩))
    (fun os started H enc _ => lifted os started H enc)

theorem proved : Rows.HeapRunsSaid := over
#print axioms proved
end Go.Proofs.Ytpfmkggnnilknaa.heapRuns
