/- What the document's Step of layer 13 returns. Conditions: as the theorem says. -/
import Derived.Test.YtolbihfnogbjaaaRows
import Derived.Test.YtolbihfnogbjaaaBase
import Derived.Test.YtolbihfnogbjaaaZ2
import Derived.Test.YtolbihfnogbjaaaZ4
import Derived.Test.YtolbihfnogbjaaaZ6
import Derived.Test.YtolbihfnogbjaaaMeterBit
import Derived.Test.YtolbihfnogbjaaaMeterStR
import Derived.Test.YtolbihfnogbjaaaMeterEnds
import Derived.WalkKit
import Derived.WalkSpells
import Derived.WalkSmall
import Derived.Below
import Derived.Lib.Hide
import Derived.Shelf.Abstract
import Derived.BigQuiet
import Derived.OwnWalk
import Derived.Outline
import Derived.Deep.DeepCutAuto
import Derived.StillTailTactics
import Derived.Maps.RangeWalk
import Derived.OrdersHeld
namespace Go.Proofs.Ytolbihfnogbjaaa
open Go.RowKit

theorem bitN_noM (k : Nat) : bitN k false = 0 := rfl

set_option maxRecDepth 100000 in
set_option maxHeartbeats 8000000 in
theorem refstep_any (x : Nat → Int) (m : Mt) (k : Int) (w : World) (hm : MayM m) (hlt : m.now < 40320) (hx : May x) :
    Calls Try.prog 24 #[.agg (bk x), .agg (mt m), .int .i64 k] w fun e w' => e = .returned (.tuple #[.agg (mt (stepM x m k)), .int .i64 ((stepC x m k : Nat) : Int)]) ∧ Below w.heap.size w w' := by
  obtain ⟨h18, h18'⟩ := may_len hx
  obtain ⟨h4, h4'⟩ := may_time hx 4 (by omega)
  obtain ⟨h8, h8'⟩ := may_time hx 8 (by omega)
  obtain ⟨h11, h11'⟩ := may_time hx 11 (by omega)
  have hr := (may_wrap (x := x) hm).1
  have hwn := (may_wrap (x := x) hm).2
  have RE := fun W => fun (hl : 0 < (wrapM x m).lie) => refends_any x (wrapM x m) W hr hl hx
  have hE := (may_upR (x := x) hr).1
  have hEn := (may_upR (x := x) hr).2
  obtain ⟨cb, hcb⟩ : ∃ cb, decide (0 < m.now ∧ m.now % x 18 = 0) = cb := ⟨_, rfl⟩
  have HW : wrapM x m = (if cb = true then { m with last := m.week, week := 0, labour := 0 } else m) := by unfold wrapM; rw [← hcb]; simp only [decide_eq_true_eq]
  obtain ⟨WR, hWR⟩ : ∃ WR, wrapM x m = WR := ⟨_, rfl⟩
  rw [hWR] at HW RE hr hwn hE hEn
  have HWR := Lib.hid hWR
  clear hWR hx
  have hn0 := hm.1.1
  have HCB := Lib.hid hcb
  clear hm hcb
  obtain ⟨m0, hm0⟩ : ∃ m0 : Mt, m = m0 := ⟨_, rfl⟩
  rw [hm0] at HW hlt hwn hn0 HCB
  have HM0 := Lib.hid hm0
  have C := MtW.new w x m
  have CC : MtW w x m0 (((w.alloc (.cells (bk x) 23)).alloc (.cells (mt m) 26)).alloc (.cells #[.int .i64 0, .int .i64 0, .bool false, .int .i64 0, .int .i64 0, .int .i64 0, .int .i64 0, .bool false, .int .i64 0, .int .i64 0, .bool false, .int .i64 0, .int .i64 0, .int .i64 0] 26)) := by rw [← hm0]; exact C
  clear C hm0
  obtain ⟨a0, a1, a2, a3, a4, a5, a6, a7, a8, a9, a10, a11, a12, a13⟩ := m0
  dsimp only at HW hlt hwn hn0 HCB
  have f0 : (((w.alloc (.cells (bk x) 23)).alloc (.cells (mt m) 26)).alloc (.cells #[.int .i64 0, .int .i64 0, .bool false, .int .i64 0, .int .i64 0, .int .i64 0, .int .i64 0, .bool false, .int .i64 0, .int .i64 0, .bool false, .int .i64 0, .int .i64 0, .int .i64 0] 26)).cell? ⟨w.heap.size + 1, 0, none⟩ = some (.int .i64 a0) := CC.cur.cell rfl
  have k18 : (((w.alloc (.cells (bk x) 23)).alloc (.cells (mt m) 26)).alloc (.cells #[.int .i64 0, .int .i64 0, .bool false, .int .i64 0, .int .i64 0, .int .i64 0, .int .i64 0, .bool false, .int .i64 0, .int .i64 0, .bool false, .int .i64 0, .int .i64 0, .int .i64 0] 26)).cell? ⟨w.heap.size, 18, none⟩ = some (.int .i64 (x 18)) := CC.book 18 (by omega)
  go_enter Try.func24, Try.ntmps24
  go_upto_region 2 with fail
  go_cut [19] (fun u19 wx => u19 = .bool cb ∧ MtW w x ⟨a0, a1, a2, a3, a4, a5, a6, a7, a8, a9, a10, a11, a12, a13⟩ wx)
  case first =>
    by_cases h0 : 0 < a0
    case neg =>
      have d0 : decide (0 < a0) = false := decide_eq_false h0
      go_wp2
      go_meet
      exact ⟨by rw [← HCB.out, decide_eq_false (fun h => by have := h.1; omega)], CC⟩
    have d0 : decide (0 < a0) = true := decide_eq_true h0
    by_cases h1 : a0 % x 18 = 0
    case neg =>
      go_wp2
      go_meet
      exact ⟨by rw [← HCB.out, decide_eq_false (fun h => h1 h.2)] <;> simp [h1], CC⟩
    go_wp2
    go_meet
    exact ⟨by rw [← HCB.out, decide_eq_true ⟨h0, h1⟩] <;> simp [h1], CC⟩
  case rest =>
  obtain ⟨rfl, C⟩ := hcut
  rename World => w1
  clear CC f0 k18 HCB
  go_upto_if 19 with fail
  go_cut [] (fun wx => MtW w x WR wx)
  case first =>
    cases cb
    case false =>
      rw [if_neg (by simp)] at HW
      subst HW
      go_wp2
      go_meet
      exact C
    case true =>
      rw [if_pos rfl] at HW
      subst HW
      have f11 : w1.cell? ⟨w.heap.size + 1, 11, none⟩ = some (.int .i64 (a11)) := C.cur.cell rfl
      go_wp2_with (first
        | (refine wpList_store_fld (by rfl) 3 _ _ rfl (w.heap.size + 1) 12 (.int .i64 (a11)) rfl rfl rfl _ _ C.cur (by rw [mt_size]; decide) (by kernel_rfl) (fun w2 u => ?_); replace C : MtW w x ⟨a0, a1, a2, a3, a4, a5, a6, a7, a8, a9, a10, a11, a11, a13⟩ w2 := C.upd u; clear u)
        | (refine wpList_store_fld (by rfl) 3 _ _ rfl (w.heap.size + 1) 11 (.int .i64 (0)) rfl rfl rfl _ _ C.cur (by rw [mt_size]; decide) (by kernel_rfl) (fun w3 u => ?_); replace C : MtW w x ⟨a0, a1, a2, a3, a4, a5, a6, a7, a8, a9, a10, 0, a11, a13⟩ w3 := C.upd u; clear u)
        | (refine wpList_store_fld (by rfl) 3 _ _ rfl (w.heap.size + 1) 13 (.int .i64 (0)) rfl rfl rfl _ _ C.cur (by rw [mt_size]; decide) (by kernel_rfl) (fun w4 u => ?_); replace C : MtW w x ⟨a0, a1, a2, a3, a4, a5, a6, a7, a8, a9, a10, 0, a11, 0⟩ w4 := C.upd u; clear u))
      go_meet
      exact C
  case rest =>
  clear C
  have C := hcut
  clear hcut
  rename World => w2
  clear HW
  obtain ⟨b0, b1, b2, b3, b4, b5, b6, b7, b8, b9, b10, b11, b12, b13⟩ := WR
  dsimp only at hwn
  subst hwn
  have HR := Lib.hid hr
  by_cases hk : k = 0
  case pos =>
    subst hk
    obtain ⟨_, -, ⟨r3, s3⟩, -⟩ := hr
    dsimp only at r3 s3
    have q0 : ((0 : Int) == 0) = true := rfl
    have f3 : w2.cell? ⟨w.heap.size + 1, 3, none⟩ = some (.int .i64 (b3)) := C.cur.cell rfl
    go_wp2_with (first
      | (refine wpList_store_fld (by rfl) 3 _ _ rfl (w.heap.size + 1) 3 (.int .i64 (b3 + 1)) rfl rfl rfl _ _ C.cur (by rw [mt_size]; decide) (by kernel_rfl) (fun w3 u => ?_); replace C : MtW w x ⟨b0, b1, b2, b3 + 1, b4, b5, b6, b7, b8, b9, b10, b11, b12, b13⟩ w3 := C.upd u; clear u; have f0 : w3.cell? ⟨w.heap.size + 1, 0, none⟩ = some (.int .i64 (b0)) := C.cur.cell rfl)
      | (refine wpList_store_fld (by rfl) 3 _ _ rfl (w.heap.size + 1) 0 (.int .i64 (b0 + 1)) rfl rfl rfl _ _ C.cur (by rw [mt_size]; decide) (by kernel_rfl) (fun w4 u => ?_); replace C : MtW w x ⟨b0 + 1, b1, b2, b3 + 1, b4, b5, b6, b7, b8, b9, b10, b11, b12, b13⟩ w4 := C.upd u; clear u)
      | refine wpList_load_box (by rfl) 26 _ rfl (w.heap.size + 1) rfl 26 (mt ⟨b0 + 1, b1, b2, b3 + 1, b4, b5, b6, b7, b8, b9, b10, b11, b12, b13⟩) _ C.cur Try.underlying26 rfl (by kernel_rfl) ?_
      | refine wpList_store_box rfl 26 _ _ rfl (w.heap.size + 2) (mt ⟨b0 + 1, b1, b2, b3 + 1, b4, b5, b6, b7, b8, b9, b10, b11, b12, b13⟩) rfl rfl 26 (mt .zero) C.res (by kernel_rfl) rfl (mt_one _) (fun wz u => ?_))
    refine bodyPost_ret (results_box2 Try.results24 _ _ (w.heap.size + 2) 26 (mt ⟨b0 + 1, b1, b2, b3 + 1, b4, b5, b6, b7, b8, b9, b10, b11, b12, b13⟩) _ _ rfl u.box rfl Try.underlying26 rfl (by kernel_rfl)) rfl ⟨?_, C.bel.trans (u.bel _ (by omega))⟩
    have he : stepM x m 0 = ⟨b0 + 1, b1, b2, b3 + 1, b4, b5, b6, b7, b8, b9, b10, b11, b12, b13⟩ := by unfold stepM; rw [HWR.out]; rfl
    have hs : stepC x m 0 = 0 := by unfold stepC; rw [if_pos rfl]
    rw [he, hs]
    rfl
  have q0 : (k == 0) = false := by simpa using hk
  have f3 : w2.cell? ⟨w.heap.size + 1, 3, none⟩ = some (.int .i64 b3) := C.cur.cell rfl
  obtain ⟨r, hre⟩ : ∃ r, upR x ⟨b0, b1, b2, b3, b4, b5, b6, b7, b8, b9, b10, b11, b12, b13⟩ = r := ⟨_, rfl⟩
  have HRE := Lib.hid hre
  obtain ⟨n1, hn1e⟩ : ∃ n1, bitN 8 (up8 x ⟨b0, b1, b2, b3, b4, b5, b6, b7, b8, b9, b10, b11, b12, b13⟩) + bitN 6 (up6 x ⟨b0, b1, b2, b3, b4, b5, b6, b7, b8, b9, b10, b11, b12, b13⟩) = n1 := ⟨_, rfl⟩
  have hn1 : n1 ≤ 1024 := by have p := bitN_lt (k := 8) (up8 x ⟨b0, b1, b2, b3, b4, b5, b6, b7, b8, b9, b10, b11, b12, b13⟩) (by omega); have q := bitN_lt (k := 6) (up6 x ⟨b0, b1, b2, b3, b4, b5, b6, b7, b8, b9, b10, b11, b12, b13⟩) (by omega); omega
  have HN1 := Lib.hid hn1e
  have RE' : 0 < b3 → ∀ W, Calls Try.prog 36 #[.agg (bk x), .agg (mt ⟨b0, b1, b2, b3, b4, b5, b6, b7, b8, b9, b10, b11, b12, b13⟩)] W fun e w' => e = .returned (.tuple #[.agg (mt r), .int .i64 ((n1 : Nat) : Int)]) ∧ Below W.heap.size W w' := fun hl W => by
    have h := RE W hl
    rw [← hre, ← hn1e]
    unfold upR up8 up6
    dsimp only at h ⊢
    rw [if_pos hl, decide_eq_true hl, Bool.true_and, Bool.true_and]
    exact h
  have RN' : ¬ 0 < b3 → r = ⟨b0, b1, b2, b3, b4, b5, b6, b7, b8, b9, b10, b11, b12, b13⟩ ∧ n1 = 0 := fun hl => by
    rw [← hre, ← hn1e]
    unfold upR up8 up6
    dsimp only
    rw [if_neg hl, decide_eq_false hl, Bool.false_and, Bool.false_and]
    exact ⟨rfl, rfl⟩
  rw [hre] at hE hEn
  clear RE hre hn1e
  go_upto_if 38 with fail
  go_cut [2, 8] (fun u2 u8 wx => u2 = .int .i64 k ∧ u8 = .int .i64 ((n1 : Nat) : Int) ∧ MtW w x r wx)
  case first =>
    by_cases hl : 0 < b3
    case pos =>
      replace RE' := RE' hl
      clear RN'
      go_wp2_with (first
        | refine wpList_load_bk (by rfl) 23 _ rfl _ _ rfl x _ C.rd Try.underlying23 rfl (by kernel_rfl) ?_
        | refine wpList_load_box (by rfl) 26 _ rfl (w.heap.size + 1) rfl 26 (mt ⟨b0, b1, b2, b3, b4, b5, b6, b7, b8, b9, b10, b11, b12, b13⟩) _ C.cur Try.underlying26 rfl (by kernel_rfl) ?_
        | (go_at_call 36; (with_reducible refine (RE' _).mono ?_); rintro e w3 ⟨rfl, hb3⟩; replace C := C.below hb3)
        | refine wpList_store_box rfl 26 _ _ rfl (w.heap.size + 1) (mt r) rfl rfl 26 (mt ⟨b0, b1, b2, b3, b4, b5, b6, b7, b8, b9, b10, b11, b12, b13⟩) C.cur (by kernel_rfl) rfl (mt_one _) (fun w4 u => ?_))
      go_meet
      exact ⟨rfl, rfl, C.upd u⟩
    case neg =>
      obtain ⟨rfl, rfl⟩ := RN' hl
      clear RE'
      go_wp2
      go_meet
      exact ⟨rfl, rfl, C⟩
  case rest =>
  clear C
  obtain ⟨rfl, rfl, C⟩ := hcut
  rename World => w3
  clear RE' RN' f3 HR hr
  obtain ⟨d0, d1, d2, d3, d4, d5, d6, d7, d8, d9, d10, d11, d12, d13⟩ := r
  unfold MayE at hE
  dsimp only at hE hEn
  subst hEn
  obtain ⟨⟨r0, s0⟩, ⟨r1, s1⟩, -, ⟨r4, s4⟩, ⟨r5, s5⟩, ⟨r6, s6⟩, -, ⟨r9, s9⟩, ⟨r11, s11⟩, ⟨r12, s12⟩, ⟨r13, s13⟩⟩ := hE
  have f0 : w3.cell? ⟨w.heap.size + 1, 0, none⟩ = some (.int .i64 (d0)) := C.cur.cell rfl
  have f4 : w3.cell? ⟨w.heap.size + 1, 4, none⟩ = some (.int .i64 (d4)) := C.cur.cell rfl
  have f9 : w3.cell? ⟨w.heap.size + 1, 9, none⟩ = some (.int .i64 (d9)) := C.cur.cell rfl
  have k11 : w3.cell? ⟨w.heap.size, 11, none⟩ = some (.int .i64 (x 11)) := C.book 11 (by omega)
  have k8 : w3.cell? ⟨w.heap.size, 8, none⟩ = some (.int .i64 (x 8)) := C.book 8 (by omega)
  have k14 : w3.cell? ⟨w.heap.size, 14, none⟩ = some (.int .i64 (x 14)) := C.book 14 (by omega)
  go_upto_region 14 with (first
    | (go_at_call 37; (with_reducible refine (bit_any 5 5 (decide (x 11 - x 8 ≤ d0 - d4)) _ (by omega) (by omega)).mono ?_); rintro e w' ⟨rfl, rfl⟩; have t4 := bitN_lt (k := 5) (decide (x 11 - x 8 ≤ d0 - d4)) (by omega))
    | (go_at_call 37; (with_reducible refine (bit_any 7 7 (decide (x 14 ≤ d0 - d9)) _ (by omega) (by omega)).mono ?_); rintro e w' ⟨rfl, rfl⟩; have t5 := bitN_lt (k := 7) (decide (x 14 ≤ d0 - d9)) (by omega)))
  (try go_frame)
  go_upto_if 71 with fail
  go_cut [2, 8] (fun u2 u8 wx => u2 = .int .i64 k ∧ u8 = .int .i64 ((n1 + bitN 5 (c5 x ⟨d0, d1, d2, d3, d4, d5, d6, d7, d8, d9, d10, d11, d12, d13⟩) + bitN 7 (c7 x ⟨d0, d1, d2, d3, d4, d5, d6, d7, d8, d9, d10, d11, d12, d13⟩) + bitN 0 (decide (k = 3) && c0 x ⟨d0, d1, d2, d3, d4, d5, d6, d7, d8, d9, d10, d11, d12, d13⟩) + bitN 2 (decide (k = 3) && c2 x ⟨d0, d1, d2, d3, d4, d5, d6, d7, d8, d9, d10, d11, d12, d13⟩) + bitN 1 (decide (k = 3) && c1 x ⟨d0, d1, d2, d3, d4, d5, d6, d7, d8, d9, d10, d11, d12, d13⟩) + bitN 3 (decide (k = 3) && c3 x ⟨d0, d1, d2, d3, d4, d5, d6, d7, d8, d9, d10, d11, d12, d13⟩) + bitN 4 (decide (k = 3) && c4 x ⟨d0, d1, d2, d3, d4, d5, d6, d7, d8, d9, d10, d11, d12, d13⟩) : Nat) : Int) ∧ MtW w x (if k = 3 then driveM x ⟨d0, d1, d2, d3, d4, d5, d6, d7, d8, d9, d10, d11, d12, d13⟩ else ⟨d0, d1, d2, d3, d4, d5, d6, d7, d8, d9, d10, d11, d12, d13⟩) wx)
  case first =>
    by_cases hk3 : k = 3
    case neg =>
      have q3 : (k == 3) = false := by simpa using hk3
      go_wp2
      go_meet
      refine ⟨rfl, ?_, by rw [if_neg hk3]; exact C⟩
      rw [decide_eq_false hk3]
      simp only [Bool.false_and, bitN_noM, Nat.add_zero, Int.natCast_add]
      rfl
    subst hk3
    have q3 : ((3 : Int) == 3) = true := rfl
    obtain ⟨j6, hj6⟩ : ∃ j6, (if d5 = x 4 then d6 + 1 else d6) = j6 := ⟨_, rfl⟩
    obtain ⟨cl, hcl⟩ : ∃ cl, c2 x ⟨d0, d1, d2, d3, d4, d5, d6, d7, d8, d9, d10, d11, d12, d13⟩ = cl := ⟨_, rfl⟩
    have hdr : driveM x ⟨d0, d1, d2, d3, d4, d5, d6, d7, d8, d9, d10, d11, d12, d13⟩ = ⟨d0, d1 + 1, d2, d3, d4, d5 + 1, j6, d7, d8, d9, d10, d11 + 1, d12, d13⟩ := by
      rw [← hj6]
      unfold driveM Go.Proofs.Ytolbihfnogbjaaa.d2 Go.Proofs.Ytolbihfnogbjaaa.d1
      dsimp only
      by_cases hq : d5 = x 4
      · rw [if_pos (by omega), if_pos hq]
      · rw [if_neg (by omega), if_neg hq]
    have HDR := Lib.hid hdr
    have HCL := Lib.hid hcl
    have hcl' : cl = (decide (d5 = x 4) && decide (x 6 < d6 + 1)) := by
      rw [← hcl]
      unfold c2
      by_cases hq : d5 = x 4
      · simp [hq]
      · simp [hq]
    have hbl := bitN_lt (k := 2) cl (by omega)
    clear hdr hcl
    have f1 : w3.cell? ⟨w.heap.size + 1, 1, none⟩ = some (.int .i64 (d1)) := C.cur.cell rfl
    go_upto_region 18 with (first
      | (refine wpList_store_fld (by rfl) 3 _ _ rfl (w.heap.size + 1) 1 (.int .i64 (d1 + 1)) rfl rfl rfl _ _ C.cur (by rw [mt_size]; decide) (by kernel_rfl) (fun w6 u => ?_); replace C : MtW w x ⟨d0, d1 + 1, d2, d3, d4, d5, d6, d7, d8, d9, d10, d11, d12, d13⟩ w6 := C.upd u; clear u; have f1 : w6.cell? ⟨w.heap.size + 1, 1, none⟩ = some (.int .i64 (d1 + 1)) := C.cur.cell rfl; have k0 : w6.cell? ⟨w.heap.size, 0, none⟩ = some (.int .i64 (x 0)) := C.book 0 (by omega))
      | (go_at_call 37; (with_reducible refine (bit_any 0 0 (decide (x 0 < d1 + 1)) _ (by omega) (by omega)).mono ?_); rintro e w' ⟨rfl, rfl⟩; have t7 := bitN_lt (k := 0) (decide (x 0 < d1 + 1)) (by omega); have f5 : w6.cell? ⟨w.heap.size + 1, 5, none⟩ = some (.int .i64 (d5)) := C.cur.cell rfl)
      | (refine wpList_store_fld (by rfl) 3 _ _ rfl (w.heap.size + 1) 5 (.int .i64 (d5 + 1)) rfl rfl rfl _ _ C.cur (by rw [mt_size]; decide) (by kernel_rfl) (fun w8 u => ?_); replace C : MtW w x ⟨d0, d1 + 1, d2, d3, d4, d5 + 1, d6, d7, d8, d9, d10, d11, d12, d13⟩ w8 := C.upd u; clear u; have f5 : w8.cell? ⟨w.heap.size + 1, 5, none⟩ = some (.int .i64 (d5 + 1)) := C.cur.cell rfl; have k4 : w8.cell? ⟨w.heap.size, 4, none⟩ = some (.int .i64 (x 4)) := C.book 4 (by omega)))
    (try go_frame)
    go_upto_if 93 with fail
    go_cut [8] (fun u8 wx => u8 = .int .i64 ((n1 + bitN 5 (decide (x 11 - x 8 ≤ d0 - d4)) + bitN 7 (decide (x 14 ≤ d0 - d9)) + bitN 0 (decide (x 0 < d1 + 1)) + bitN 2 cl : Nat) : Int) ∧ MtW w x ⟨d0, d1 + 1, d2, d3, d4, d5 + 1, j6, d7, d8, d9, d10, d11, d12, d13⟩ wx)
    case first =>
      by_cases hq : d5 = x 4
      case pos =>
        have q1 : (d5 == x 4) = true := by simpa using hq
        have q2 : (d5 + 1 == x 4 + 1) = true := by simpa using hq
        rw [if_pos hq] at hj6
        subst hj6
        rw [decide_eq_true hq, Bool.true_and] at hcl'
        subst hcl'
        clear hq
        have f6 : w8.cell? ⟨w.heap.size + 1, 6, none⟩ = some (.int .i64 (d6)) := C.cur.cell rfl
        go_wp2_with (first
          | (refine wpList_store_fld (by rfl) 3 _ _ rfl (w.heap.size + 1) 6 (.int .i64 (d6 + 1)) rfl rfl rfl _ _ C.cur (by rw [mt_size]; decide) (by kernel_rfl) (fun w9 u => ?_); replace C : MtW w x ⟨d0, d1 + 1, d2, d3, d4, d5 + 1, d6 + 1, d7, d8, d9, d10, d11, d12, d13⟩ w9 := C.upd u; clear u; have f6 : w9.cell? ⟨w.heap.size + 1, 6, none⟩ = some (.int .i64 (d6 + 1)) := C.cur.cell rfl; have k6 : w9.cell? ⟨w.heap.size, 6, none⟩ = some (.int .i64 (x 6)) := C.book 6 (by omega))
          | (go_at_call 37; (with_reducible refine (bit_any 2 2 (decide (x 6 < d6 + 1)) _ (by omega) (by omega)).mono ?_); rintro e w' ⟨rfl, rfl⟩; have t10 := bitN_lt (k := 2) (decide (x 6 < d6 + 1)) (by omega)))
        go_meet
        exact ⟨by simp only [Int.natCast_add] <;> rfl, C⟩
      case neg =>
        have q1 : (d5 == x 4) = false := by simpa using hq
        have q2 : (d5 + 1 == x 4 + 1) = false := by simpa using hq
        rw [if_neg hq] at hj6
        subst hj6
        rw [decide_eq_false hq, Bool.false_and] at hcl'
        subst hcl'
        clear hq
        go_wp2
        go_meet
        exact ⟨by simp only [bitN_noM, Nat.add_zero, Int.natCast_add] <;> rfl, C⟩
    case rest =>
    clear C
    obtain ⟨rfl, C⟩ := hcut
    rename World => w9
    obtain ⟨n4, hn4⟩ : ∃ n4, n1 + bitN 5 (decide (x 11 - x 8 ≤ d0 - d4)) + bitN 7 (decide (x 14 ≤ d0 - d9)) + bitN 0 (decide (x 0 < d1 + 1)) + bitN 2 cl = n4 := ⟨_, rfl⟩
    have hn4l : n4 ≤ 4096 := by omega
    simp only [hn4]
    have HN4 := Lib.hid hn4
    clear hn4 hj6 hcl'
    have f5 : w9.cell? ⟨w.heap.size + 1, 5, none⟩ = some (.int .i64 (d5 + 1)) := C.cur.cell rfl
    have k5 : w9.cell? ⟨w.heap.size, 5, none⟩ = some (.int .i64 (x 5)) := C.book 5 (by omega)
    have f11 : w9.cell? ⟨w.heap.size + 1, 11, none⟩ = some (.int .i64 (d11)) := C.cur.cell rfl
    go_wp2_with (first
      | (go_at_call 37; (with_reducible refine (bit_any 1 1 (decide (x 5 < d5 + 1)) _ (by omega) (by omega)).mono ?_); rintro e w' ⟨rfl, rfl⟩; have t10 := bitN_lt (k := 1) (decide (x 5 < d5 + 1)) (by omega))
      | (refine wpList_store_fld (by rfl) 3 _ _ rfl (w.heap.size + 1) 11 (.int .i64 (d11 + 1)) rfl rfl rfl _ _ C.cur (by rw [mt_size]; decide) (by kernel_rfl) (fun w11 u => ?_); replace C : MtW w x ⟨d0, d1 + 1, d2, d3, d4, d5 + 1, j6, d7, d8, d9, d10, d11 + 1, d12, d13⟩ w11 := C.upd u; clear u; have f11 : w11.cell? ⟨w.heap.size + 1, 11, none⟩ = some (.int .i64 (d11 + 1)) := C.cur.cell rfl; have k15 : w11.cell? ⟨w.heap.size, 15, none⟩ = some (.int .i64 (x 15)) := C.book 15 (by omega); have f12 : w11.cell? ⟨w.heap.size + 1, 12, none⟩ = some (.int .i64 (d12)) := C.cur.cell rfl; have k16 : w11.cell? ⟨w.heap.size, 16, none⟩ = some (.int .i64 (x 16)) := C.book 16 (by omega))
      | (go_at_call 37; (with_reducible refine (bit_any 3 3 (decide (x 15 < d11 + 1)) _ (by omega) (by omega)).mono ?_); rintro e w' ⟨rfl, rfl⟩; have t12 := bitN_lt (k := 3) (decide (x 15 < d11 + 1)) (by omega))
      | (go_at_call 37; (with_reducible refine (bit_any 4 4 (decide (x 16 < d11 + 1 + d12)) _ (by omega) (by omega)).mono ?_); rintro e w' ⟨rfl, rfl⟩; have t13 := bitN_lt (k := 4) (decide (x 16 < d11 + 1 + d12)) (by omega)))
    go_meet
    refine ⟨rfl, ?_, by (first | rw [if_pos rfl] | rw [if_pos trivial]); rw [HDR.out]; exact C⟩
    rw [HCL.out]
    simp only [decide_true, Bool.true_and]
    rw [show n1 + bitN 5 (c5 x ⟨d0, d1, d2, d3, d4, d5, d6, d7, d8, d9, d10, d11, d12, d13⟩) + bitN 7 (c7 x ⟨d0, d1, d2, d3, d4, d5, d6, d7, d8, d9, d10, d11, d12, d13⟩) + bitN 0 (c0 x ⟨d0, d1, d2, d3, d4, d5, d6, d7, d8, d9, d10, d11, d12, d13⟩) + bitN 2 cl = n4 from HN4.out]
    simp only [Int.natCast_add]
    rfl
  case rest =>
  clear C
  obtain ⟨rfl, rfl, C⟩ := hcut
  rename World => w14
  obtain ⟨n5, hn5⟩ : ∃ n5, n1 + bitN 5 (c5 x ⟨d0, d1, d2, d3, d4, d5, d6, d7, d8, d9, d10, d11, d12, d13⟩) + bitN 7 (c7 x ⟨d0, d1, d2, d3, d4, d5, d6, d7, d8, d9, d10, d11, d12, d13⟩) + bitN 0 (decide (k = 3) && c0 x ⟨d0, d1, d2, d3, d4, d5, d6, d7, d8, d9, d10, d11, d12, d13⟩) + bitN 2 (decide (k = 3) && c2 x ⟨d0, d1, d2, d3, d4, d5, d6, d7, d8, d9, d10, d11, d12, d13⟩) + bitN 1 (decide (k = 3) && c1 x ⟨d0, d1, d2, d3, d4, d5, d6, d7, d8, d9, d10, d11, d12, d13⟩) + bitN 3 (decide (k = 3) && c3 x ⟨d0, d1, d2, d3, d4, d5, d6, d7, d8, d9, d10, d11, d12, d13⟩) + bitN 4 (decide (k = 3) && c4 x ⟨d0, d1, d2, d3, d4, d5, d6, d7, d8, d9, d10, d11, d12, d13⟩) = n5 := ⟨_, rfl⟩
  have hn5l : n5 ≤ 8192 := by
    have p0 := bitN_lt (k := 0) (decide (k = 3) && c0 x ⟨d0, d1, d2, d3, d4, d5, d6, d7, d8, d9, d10, d11, d12, d13⟩) (by omega)
    have p1 := bitN_lt (k := 1) (decide (k = 3) && c1 x ⟨d0, d1, d2, d3, d4, d5, d6, d7, d8, d9, d10, d11, d12, d13⟩) (by omega)
    have p2 := bitN_lt (k := 2) (decide (k = 3) && c2 x ⟨d0, d1, d2, d3, d4, d5, d6, d7, d8, d9, d10, d11, d12, d13⟩) (by omega)
    have p3 := bitN_lt (k := 3) (decide (k = 3) && c3 x ⟨d0, d1, d2, d3, d4, d5, d6, d7, d8, d9, d10, d11, d12, d13⟩) (by omega)
    have p4 := bitN_lt (k := 4) (decide (k = 3) && c4 x ⟨d0, d1, d2, d3, d4, d5, d6, d7, d8, d9, d10, d11, d12, d13⟩) (by omega)
    have p5 := bitN_lt (k := 5) (c5 x ⟨d0, d1, d2, d3, d4, d5, d6, d7, d8, d9, d10, d11, d12, d13⟩) (by omega)
    have p7 := bitN_lt (k := 7) (c7 x ⟨d0, d1, d2, d3, d4, d5, d6, d7, d8, d9, d10, d11, d12, d13⟩) (by omega)
    omega
  simp only [hn5]
  obtain ⟨dm, hdm⟩ : ∃ dm, (if k = 3 then driveM x ⟨d0, d1, d2, d3, d4, d5, d6, d7, d8, d9, d10, d11, d12, d13⟩ else ⟨d0, d1, d2, d3, d4, d5, d6, d7, d8, d9, d10, d11, d12, d13⟩) = dm := ⟨_, rfl⟩
  rw [hdm] at C
  have hdl : dm.labour = d13 ∧ dm.now = d0 := by
    rw [← hdm]
    unfold driveM Go.Proofs.Ytolbihfnogbjaaa.d2 Go.Proofs.Ytolbihfnogbjaaa.d1
    split
    · split <;> exact ⟨rfl, rfl⟩
    · exact ⟨rfl, rfl⟩
  have HN5 := Lib.hid hn5
  have HDM := Lib.hid hdm
  clear hn5 hdm
  obtain ⟨g0, g1, g2, g3, g4, g5, g6, g7, g8, g9, g10, g11, g12, g13⟩ := dm
  dsimp only at hdl
  obtain ⟨hd1, hd2⟩ := hdl
  have u0 : 0 ≤ g0 ∧ g0 ≤ 40320 := by omega
  have u1 : 0 ≤ g13 ∧ g13 ≤ 40320 := by omega
  obtain ⟨u0, u0'⟩ := u0
  obtain ⟨u1, u1'⟩ := u1
  clear hd1 hd2 r0 s0 r1 s1 r4 s4 r5 s5 r6 s6 r9 s9 r11 s11 r12 s12 r13 s13
  have hs : ∀ c, (decide (k = 3 ∨ k = 2) && c9 x ⟨g0, g1, g2, g3, g4, g5, g6, g7, g8, g9, g10, g11, g12, g13⟩) = c → stepC x m k = n5 + bitN 9 c := fun c hc => by
    rw [← HN5.out, ← hc]
    unfold stepC
    rw [if_neg hk]
    unfold upC Cl.sum
    rw [HWR.out, HRE.out, ← HN1.out]
    dsimp only
    rw [HDM.out]
  by_cases hk3 : k = 3
  case pos =>
    subst hk3
    have q3 : ((3 : Int) == 3) = true := rfl
    have he : stepM x m 3 = ⟨g0 + 1, g1, g2, g3, g4, g5, g6, g7, g8, g9, g10, g11, g12, g13 + 1⟩ := by
      unfold stepM upM
      rw [if_neg hk, HWR.out, HRE.out]
      dsimp only
      rw [HDM.out]
      rw [if_pos (by decide)]
      rfl
    have hs := hs (decide (x 17 < g13 + 1)) (by rw [decide_eq_true (by decide), Bool.true_and]; rfl)
    have HE := Lib.hid he
    have HS := Lib.hid hs
    clear he hs HDM HN5
    have f13 : w14.cell? ⟨w.heap.size + 1, 13, none⟩ = some (.int .i64 (g13)) := C.cur.cell rfl
    go_wp2_with (first
      | (refine wpList_store_fld (by rfl) 3 _ _ rfl (w.heap.size + 1) 13 (.int .i64 (g13 + 1)) rfl rfl rfl _ _ C.cur (by rw [mt_size]; decide) (by kernel_rfl) (fun w15 u => ?_); replace C : MtW w x ⟨g0, g1, g2, g3, g4, g5, g6, g7, g8, g9, g10, g11, g12, g13 + 1⟩ w15 := C.upd u; clear u; have f13 : w15.cell? ⟨w.heap.size + 1, 13, none⟩ = some (.int .i64 (g13 + 1)) := C.cur.cell rfl; have k17 : w15.cell? ⟨w.heap.size, 17, none⟩ = some (.int .i64 (x 17)) := C.book 17 (by omega); have f0 : w15.cell? ⟨w.heap.size + 1, 0, none⟩ = some (.int .i64 (g0)) := C.cur.cell rfl)
      | (go_at_call 37; (with_reducible refine (bit_any 9 9 (decide (x 17 < g13 + 1)) _ (by omega) (by omega)).mono ?_); rintro e w' ⟨rfl, rfl⟩; have t16 := bitN_lt (k := 9) (decide (x 17 < g13 + 1)) (by omega))
      | (refine wpList_store_fld (by rfl) 3 _ _ rfl (w.heap.size + 1) 0 (.int .i64 (g0 + 1)) rfl rfl rfl _ _ C.cur (by rw [mt_size]; decide) (by kernel_rfl) (fun w17 u => ?_); replace C : MtW w x ⟨g0 + 1, g1, g2, g3, g4, g5, g6, g7, g8, g9, g10, g11, g12, g13 + 1⟩ w17 := C.upd u; clear u)
      | refine wpList_load_box (by rfl) 26 _ rfl (w.heap.size + 1) rfl 26 (mt ⟨g0 + 1, g1, g2, g3, g4, g5, g6, g7, g8, g9, g10, g11, g12, g13 + 1⟩) _ C.cur Try.underlying26 rfl (by kernel_rfl) ?_
      | refine wpList_store_box rfl 26 _ _ rfl (w.heap.size + 2) (mt ⟨g0 + 1, g1, g2, g3, g4, g5, g6, g7, g8, g9, g10, g11, g12, g13 + 1⟩) rfl rfl 26 (mt .zero) C.res (by kernel_rfl) rfl (mt_one _) (fun wz u => ?_))
    refine bodyPost_ret (results_box2 Try.results24 _ _ (w.heap.size + 2) 26 (mt ⟨g0 + 1, g1, g2, g3, g4, g5, g6, g7, g8, g9, g10, g11, g12, g13 + 1⟩) _ _ rfl u.box rfl Try.underlying26 rfl (by kernel_rfl)) rfl ⟨?_, C.bel.trans (u.bel _ (by omega))⟩
    rw [HE.out, HS.out]
    simp only [Int.natCast_add]
    rfl
  by_cases hk2 : k = 2
  case pos =>
    subst hk2
    have q3 : ((2 : Int) == 3) = false := rfl
    have he : stepM x m 2 = ⟨g0 + 1, g1, g2, g3, g4, g5, g6, g7, g8, g9, g10, g11, g12, g13 + 1⟩ := by
      unfold stepM upM
      rw [if_neg hk, HWR.out, HRE.out]
      dsimp only
      rw [HDM.out]
      rw [if_pos (by decide)]
      rfl
    have hs := hs (decide (x 17 < g13 + 1)) (by rw [decide_eq_true (by decide), Bool.true_and]; rfl)
    have HE := Lib.hid he
    have HS := Lib.hid hs
    clear he hs HDM HN5
    have f13 : w14.cell? ⟨w.heap.size + 1, 13, none⟩ = some (.int .i64 (g13)) := C.cur.cell rfl
    go_wp2_with (first
      | (refine wpList_store_fld (by rfl) 3 _ _ rfl (w.heap.size + 1) 13 (.int .i64 (g13 + 1)) rfl rfl rfl _ _ C.cur (by rw [mt_size]; decide) (by kernel_rfl) (fun w15 u => ?_); replace C : MtW w x ⟨g0, g1, g2, g3, g4, g5, g6, g7, g8, g9, g10, g11, g12, g13 + 1⟩ w15 := C.upd u; clear u; have f13 : w15.cell? ⟨w.heap.size + 1, 13, none⟩ = some (.int .i64 (g13 + 1)) := C.cur.cell rfl; have k17 : w15.cell? ⟨w.heap.size, 17, none⟩ = some (.int .i64 (x 17)) := C.book 17 (by omega); have f0 : w15.cell? ⟨w.heap.size + 1, 0, none⟩ = some (.int .i64 (g0)) := C.cur.cell rfl)
      | (go_at_call 37; (with_reducible refine (bit_any 9 9 (decide (x 17 < g13 + 1)) _ (by omega) (by omega)).mono ?_); rintro e w' ⟨rfl, rfl⟩; have t16 := bitN_lt (k := 9) (decide (x 17 < g13 + 1)) (by omega))
      | (refine wpList_store_fld (by rfl) 3 _ _ rfl (w.heap.size + 1) 0 (.int .i64 (g0 + 1)) rfl rfl rfl _ _ C.cur (by rw [mt_size]; decide) (by kernel_rfl) (fun w17 u => ?_); replace C : MtW w x ⟨g0 + 1, g1, g2, g3, g4, g5, g6, g7, g8, g9, g10, g11, g12, g13 + 1⟩ w17 := C.upd u; clear u)
      | refine wpList_load_box (by rfl) 26 _ rfl (w.heap.size + 1) rfl 26 (mt ⟨g0 + 1, g1, g2, g3, g4, g5, g6, g7, g8, g9, g10, g11, g12, g13 + 1⟩) _ C.cur Try.underlying26 rfl (by kernel_rfl) ?_
      | refine wpList_store_box rfl 26 _ _ rfl (w.heap.size + 2) (mt ⟨g0 + 1, g1, g2, g3, g4, g5, g6, g7, g8, g9, g10, g11, g12, g13 + 1⟩) rfl rfl 26 (mt .zero) C.res (by kernel_rfl) rfl (mt_one _) (fun wz u => ?_))
    refine bodyPost_ret (results_box2 Try.results24 _ _ (w.heap.size + 2) 26 (mt ⟨g0 + 1, g1, g2, g3, g4, g5, g6, g7, g8, g9, g10, g11, g12, g13 + 1⟩) _ _ rfl u.box rfl Try.underlying26 rfl (by kernel_rfl)) rfl ⟨?_, C.bel.trans (u.bel _ (by omega))⟩
    rw [HE.out, HS.out]
    simp only [Int.natCast_add]
    rfl
  have q3 : (k == 3) = false := by simpa using hk3
  have q2 : (k == 2) = false := by simpa using hk2
  have he : stepM x m k = ⟨g0 + 1, g1, g2, g3, g4, g5, g6, g7, g8, g9, g10, g11, g12, g13⟩ := by
    unfold stepM upM
    rw [if_neg hk, HWR.out, HRE.out]
    dsimp only
    rw [HDM.out]
    rw [if_neg (by omega)]
  have hs := hs false (by rw [decide_eq_false (by omega), Bool.false_and])
  have HE := Lib.hid he
  have HS := Lib.hid hs
  clear he hs HDM HN5
  have f0 : w14.cell? ⟨w.heap.size + 1, 0, none⟩ = some (.int .i64 (g0)) := C.cur.cell rfl
  go_wp2_with (first
    | (refine wpList_store_fld (by rfl) 3 _ _ rfl (w.heap.size + 1) 0 (.int .i64 (g0 + 1)) rfl rfl rfl _ _ C.cur (by rw [mt_size]; decide) (by kernel_rfl) (fun w15 u => ?_); replace C : MtW w x ⟨g0 + 1, g1, g2, g3, g4, g5, g6, g7, g8, g9, g10, g11, g12, g13⟩ w15 := C.upd u; clear u)
    | refine wpList_load_box (by rfl) 26 _ rfl (w.heap.size + 1) rfl 26 (mt ⟨g0 + 1, g1, g2, g3, g4, g5, g6, g7, g8, g9, g10, g11, g12, g13⟩) _ C.cur Try.underlying26 rfl (by kernel_rfl) ?_
    | refine wpList_store_box rfl 26 _ _ rfl (w.heap.size + 2) (mt ⟨g0 + 1, g1, g2, g3, g4, g5, g6, g7, g8, g9, g10, g11, g12, g13⟩) rfl rfl 26 (mt .zero) C.res (by kernel_rfl) rfl (mt_one _) (fun wz u => ?_))
  refine bodyPost_ret (results_box2 Try.results24 _ _ (w.heap.size + 2) 26 (mt ⟨g0 + 1, g1, g2, g3, g4, g5, g6, g7, g8, g9, g10, g11, g12, g13⟩) _ _ rfl u.box rfl Try.underlying26 rfl (by kernel_rfl)) rfl ⟨?_, C.bel.trans (u.bel _ (by omega))⟩
  rw [HE.out, HS.out]
  rw [bitN_noM, Nat.add_zero]
  rfl

end Go.Proofs.Ytolbihfnogbjaaa
