/- What the document's ends of layer 13 returns. Conditions: as the theorem says. -/
import Derived.Test.YtolbihfnogbjaaaRows
import Derived.Test.YtolbihfnogbjaaaBase
import Derived.Test.YtolbihfnogbjaaaZ2
import Derived.Test.YtolbihfnogbjaaaZ4
import Derived.Test.YtolbihfnogbjaaaMeterBit
import Derived.Test.YtolbihfnogbjaaaMeterStR
import Derived.Test.YtolbihfnogbjaaaZ5
import Derived.Test.YtolbihfnogbjaaaSpellOfR
import Derived.WalkKit
import Derived.WalkSpells
import Derived.WalkSmall
import Derived.Below
import Derived.Lib.Hide
import Derived.Shelf.Abstract
import Derived.BigQuiet
import Derived.OwnWalk
import Derived.Outline
import Derived.Deep.DeepCutAuto
import Derived.StillTailTactics
import Derived.Maps.RangeWalk
import Derived.OrdersHeld
namespace Go.Proofs.Ytolbihfnogbjaaa
open Go.RowKit

set_option maxRecDepth 100000 in
set_option maxHeartbeats 4000000 in
theorem refends_any (x : Nat → Int) (m : Mt) (w : World) (hm : MayM m) (hl : 0 < m.lie) (hx : May x) :
    Calls Try.prog 36 #[.agg (bk x), .agg (mt m)] w fun e w' => e = .returned (.tuple #[.agg (mt (endM (endW x m) m)), .int .i64 ((bitN 8 (c8 (endW x m) m) + bitN 6 (c6 x (endW x m) m) : Nat) : Int)]) ∧ Below w.heap.size w w' := by
  have h2 := may_e1 (endW x m) hm
  obtain ⟨a0, a1, a2, a3, a4, a5, a6, a7, a8, a9, a10, a11, a12, a13⟩ := m
  have OF := fun W => refof12_any x (a0 - a3) a0 (min a4 (a0 - a3)) a2 a7 W hx (by unfold MayM at hm; dsimp only at hm hl; omega) (by unfold MayM at hm; dsimp only at hm hl; omega) (by unfold MayM at hm; dsimp only at hm hl; omega) (by unfold MayM at hm; dsimp only at hm hl; omega) (by omega)
  have hv : endW x ⟨a0, a1, a2, a3, a4, a5, a6, a7, a8, a9, a10, a11, a12, a13⟩ = ofV x (a0 - a3) a0 (min a4 (a0 - a3)) a2 a7 := rfl
  rw [hv] at h2 ⊢
  clear hv
  generalize ofV x (a0 - a3) a0 (min a4 (a0 - a3)) a2 a7 = V at OF h2 ⊢
  unfold MayM at hm
  dsimp only at hm hl
  obtain ⟨⟨r0, s0⟩, -, ⟨r3, s3⟩, ⟨r4, s4⟩, -⟩ := hm
  clear hx
  have C := MtW.new w x ⟨a0, a1, a2, a3, a4, a5, a6, a7, a8, a9, a10, a11, a12, a13⟩
  have f0 : (((w.alloc (.cells (bk x) 23)).alloc (.cells (mt ⟨a0, a1, a2, a3, a4, a5, a6, a7, a8, a9, a10, a11, a12, a13⟩) 26)).alloc (.cells #[.int .i64 0, .int .i64 0, .bool false, .int .i64 0, .int .i64 0, .int .i64 0, .int .i64 0, .bool false, .int .i64 0, .int .i64 0, .bool false, .int .i64 0, .int .i64 0, .int .i64 0] 26)).cell? ⟨w.heap.size + 1, 0, none⟩ = some (.int .i64 a0) := C.cur.cell rfl
  have f3 : (((w.alloc (.cells (bk x) 23)).alloc (.cells (mt ⟨a0, a1, a2, a3, a4, a5, a6, a7, a8, a9, a10, a11, a12, a13⟩) 26)).alloc (.cells #[.int .i64 0, .int .i64 0, .bool false, .int .i64 0, .int .i64 0, .int .i64 0, .int .i64 0, .bool false, .int .i64 0, .int .i64 0, .bool false, .int .i64 0, .int .i64 0, .int .i64 0] 26)).cell? ⟨w.heap.size + 1, 3, none⟩ = some (.int .i64 a3) := C.cur.cell rfl
  have f4 : (((w.alloc (.cells (bk x) 23)).alloc (.cells (mt ⟨a0, a1, a2, a3, a4, a5, a6, a7, a8, a9, a10, a11, a12, a13⟩) 26)).alloc (.cells #[.int .i64 0, .int .i64 0, .bool false, .int .i64 0, .int .i64 0, .int .i64 0, .int .i64 0, .bool false, .int .i64 0, .int .i64 0, .bool false, .int .i64 0, .int .i64 0, .int .i64 0] 26)).cell? ⟨w.heap.size + 1, 4, none⟩ = some (.int .i64 a4) := C.cur.cell rfl
  go_enter Try.func36, Try.ntmps36
  go_upto_if 17 with fail
  go_cut [7] (fun u7 wx => u7 = .int .i64 (min a4 (a0 - a3)) ∧ MtW w x ⟨a0, a1, a2, a3, a4, a5, a6, a7, a8, a9, a10, a11, a12, a13⟩ wx)
  case first =>
    by_cases hq : a4 ≤ a0 - a3
    case pos =>
      have hd : decide (a0 - a3 < a4) = false := decide_eq_false (by omega)
      go_wp2
      all_goals (first | (exfalso; omega) | (go_meet; exact ⟨by rw [show min a4 (a0 - a3) = a4 by omega], C⟩))
    case neg =>
      have hd : decide (a0 - a3 < a4) = true := decide_eq_true (by omega)
      go_wp2
      all_goals (first | (exfalso; omega) | (go_meet; exact ⟨by rw [show min a4 (a0 - a3) = a0 - a3 by omega], C⟩))
  case rest =>
  obtain ⟨rfl, C⟩ := hcut
  rename World => w1
  clear f0 f3 f4
  have f0 : w1.cell? ⟨w.heap.size + 1, 0, none⟩ = some (.int .i64 a0) := C.cur.cell rfl
  have f2 : w1.cell? ⟨w.heap.size + 1, 2, none⟩ = some (.bool a2) := C.cur.cell rfl
  have f3 : w1.cell? ⟨w.heap.size + 1, 3, none⟩ = some (.int .i64 a3) := C.cur.cell rfl
  have f7 : w1.cell? ⟨w.heap.size + 1, 7, none⟩ = some (.bool a7) := C.cur.cell rfl
  go_upto_region 6 with (first
    | refine wpList_load_bk (by rfl) 23 _ rfl _ _ rfl x _ C.rd Try.underlying23 rfl (by kernel_rfl) ?_
    | (go_at_call 46; (with_reducible refine (OF _).mono ?_); rintro e w2 ⟨rfl, hb2⟩; replace C := C.below hb2)
    | refine wpList_store_box rfl 105 _ _ rfl w2.heap.size (wo V) rfl rfl 105 (wo .zero) (Bx.new (W := w2) 105 (wo .zero) rfl) (by kernel_rfl) rfl (wo_one _) (fun w3 u => ?_))
  (try go_frame)
  have HR : Bx w3 w2.heap.size 105 (wo V) := u.box
  have hRw : w.heap.size + 2 < w2.heap.size := C.res.lt
  replace C : MtW w x ⟨a0, a1, a2, a3, a4, a5, a6, a7, a8, a9, a10, a11, a12, a13⟩ w3 := (C.alloc _).other u hRw
  clear u hb2 OF f0 f2 f3 f7
  obtain ⟨R, hRe⟩ : ∃ R, w2.heap.size = R := ⟨_, rfl⟩
  rw [hRe] at HR hRw ⊢
  clear hRe
  have hne : R ≠ w.heap.size + 1 := by omega
  obtain ⟨v0, v1, v2, v3, v4, v5, v6⟩ := V
  have q5 : w3.cell? ⟨R, 5, none⟩ = some (.bool v5) := HR.cell rfl
  go_upto_if 39 with fail
  go_cut [6] (fun u6 wx => u6 = .int .i64 ((bitN 8 (c8 ⟨v0, v1, v2, v3, v4, v5, v6⟩ ⟨a0, a1, a2, a3, a4, a5, a6, a7, a8, a9, a10, a11, a12, a13⟩) : Nat) : Int) ∧ MtW w x (e1 ⟨v0, v1, v2, v3, v4, v5, v6⟩ ⟨a0, a1, a2, a3, a4, a5, a6, a7, a8, a9, a10, a11, a12, a13⟩) wx ∧ Bx wx R 105 (wo ⟨v0, v1, v2, v3, v4, v5, v6⟩))
  case first =>
    have q6 : w3.cell? ⟨R, 6, none⟩ = some (.bool v6) := HR.cell rfl
    cases v5
    case false =>
      go_wp2
      go_meet
      exact ⟨rfl, C, HR⟩
    case true =>
      cases v6
      case false =>
        have f10 : w3.cell? ⟨w.heap.size + 1, 10, none⟩ = some (.bool (a10)) := C.cur.cell rfl
        have f0 : w3.cell? ⟨w.heap.size + 1, 0, none⟩ = some (.int .i64 (a0)) := C.cur.cell rfl
        go_wp2_with (first
          | (go_at_call 37; (with_reducible refine (bit_any 8 8 (false) _ (by omega) (by omega)).mono ?_); rintro e w' ⟨rfl, rfl⟩; have t4 := bitN_lt (k := 8) (false) (by omega))
          | (refine wpList_store_fld (by rfl) 4 _ _ rfl (w.heap.size + 1) 10 (.bool (false)) rfl rfl rfl _ _ C.cur (by rw [mt_size]; decide) (by kernel_rfl) (fun w5 u => ?_); replace C : MtW w x ⟨a0, a1, a2, a3, a4, a5, a6, a7, a8, a9, false, a11, a12, a13⟩ w5 := C.upd u; replace HR := u.bx HR hne; clear u; have q6 : w5.cell? ⟨R, 6, none⟩ = some (.bool false) := HR.cell rfl; have f0 : w5.cell? ⟨w.heap.size + 1, 0, none⟩ = some (.int .i64 (a0)) := C.cur.cell rfl)
          | (refine wpList_store_fld (by rfl) 3 _ _ rfl (w.heap.size + 1) 9 (.int .i64 (a0)) rfl rfl rfl _ _ C.cur (by rw [mt_size]; decide) (by kernel_rfl) (fun w6 u => ?_); replace C : MtW w x ⟨a0, a1, a2, a3, a4, a5, a6, a7, a8, a0, false, a11, a12, a13⟩ w6 := C.upd u; replace HR := u.bx HR hne; clear u)
          | (refine wpList_store_fld (by rfl) 3 _ _ rfl (w.heap.size + 1) 6 (.int .i64 (0)) rfl rfl rfl _ _ C.cur (by rw [mt_size]; decide) (by kernel_rfl) (fun w7 u => ?_); replace C : MtW w x ⟨a0, a1, a2, a3, a4, a5, 0, a7, a8, a0, false, a11, a12, a13⟩ w7 := C.upd u; replace HR := u.bx HR hne; clear u)
          | (refine wpList_store_fld (by rfl) 3 _ _ rfl (w.heap.size + 1) 8 (.int .i64 (0)) rfl rfl rfl _ _ C.cur (by rw [mt_size]; decide) (by kernel_rfl) (fun w8 u => ?_); replace C : MtW w x ⟨a0, a1, a2, a3, a4, a5, 0, a7, 0, a0, false, a11, a12, a13⟩ w8 := C.upd u; replace HR := u.bx HR hne; clear u))
        go_meet
        exact ⟨by first | rfl | simp [c8], C, HR⟩
      case true =>
        have f10 : w3.cell? ⟨w.heap.size + 1, 10, none⟩ = some (.bool (a10)) := C.cur.cell rfl
        have f0 : w3.cell? ⟨w.heap.size + 1, 0, none⟩ = some (.int .i64 (a0)) := C.cur.cell rfl
        go_wp2_with (first
          | (go_at_call 37; (with_reducible refine (bit_any 8 8 (a10) _ (by omega) (by omega)).mono ?_); rintro e w' ⟨rfl, rfl⟩; have t4 := bitN_lt (k := 8) (a10) (by omega))
          | (refine wpList_store_fld (by rfl) 4 _ _ rfl (w.heap.size + 1) 10 (.bool (true)) rfl rfl rfl _ _ C.cur (by rw [mt_size]; decide) (by kernel_rfl) (fun w5 u => ?_); replace C : MtW w x ⟨a0, a1, a2, a3, a4, a5, a6, a7, a8, a9, true, a11, a12, a13⟩ w5 := C.upd u; replace HR := u.bx HR hne; clear u; have q6 : w5.cell? ⟨R, 6, none⟩ = some (.bool true) := HR.cell rfl; have f0 : w5.cell? ⟨w.heap.size + 1, 0, none⟩ = some (.int .i64 (a0)) := C.cur.cell rfl)
          | (refine wpList_store_fld (by rfl) 3 _ _ rfl (w.heap.size + 1) 9 (.int .i64 (a0)) rfl rfl rfl _ _ C.cur (by rw [mt_size]; decide) (by kernel_rfl) (fun w6 u => ?_); replace C : MtW w x ⟨a0, a1, a2, a3, a4, a5, a6, a7, a8, a0, true, a11, a12, a13⟩ w6 := C.upd u; replace HR := u.bx HR hne; clear u)
          | (refine wpList_store_fld (by rfl) 3 _ _ rfl (w.heap.size + 1) 6 (.int .i64 (0)) rfl rfl rfl _ _ C.cur (by rw [mt_size]; decide) (by kernel_rfl) (fun w7 u => ?_); replace C : MtW w x ⟨a0, a1, a2, a3, a4, a5, 0, a7, a8, a0, true, a11, a12, a13⟩ w7 := C.upd u; replace HR := u.bx HR hne; clear u)
          | (refine wpList_store_fld (by rfl) 3 _ _ rfl (w.heap.size + 1) 8 (.int .i64 (0)) rfl rfl rfl _ _ C.cur (by rw [mt_size]; decide) (by kernel_rfl) (fun w8 u => ?_); replace C : MtW w x ⟨a0, a1, a2, a3, a4, a5, 0, a7, 0, a0, true, a11, a12, a13⟩ w8 := C.upd u; replace HR := u.bx HR hne; clear u))
        go_meet
        exact ⟨by first | rfl | simp [c8], C, HR⟩
  case rest =>
  obtain ⟨rfl, C, HR⟩ := hcut
  rename World => w4
  clear q5
  obtain ⟨n1, hn1e⟩ : ∃ n1, bitN 8 (c8 ⟨v0, v1, v2, v3, v4, v5, v6⟩ ⟨a0, a1, a2, a3, a4, a5, a6, a7, a8, a9, a10, a11, a12, a13⟩) = n1 := ⟨_, rfl⟩
  have hn1 := bitN_lt (k := 8) (c8 ⟨v0, v1, v2, v3, v4, v5, v6⟩ ⟨a0, a1, a2, a3, a4, a5, a6, a7, a8, a9, a10, a11, a12, a13⟩) (by omega)
  rw [hn1e] at hn1
  simp only [hn1e]
  have HN1 := Lib.hid hn1e
  obtain ⟨m1, hm1⟩ : ∃ m1, e1 ⟨v0, v1, v2, v3, v4, v5, v6⟩ ⟨a0, a1, a2, a3, a4, a5, a6, a7, a8, a9, a10, a11, a12, a13⟩ = m1 := ⟨_, rfl⟩
  rw [hm1] at C h2
  have HM1 := Lib.hid hm1
  clear hn1e hm1
  have h3 := may_e2 ⟨v0, v1, v2, v3, v4, v5, v6⟩ h2.1
  obtain ⟨b0, b1, b2, b3, b4, b5, b6, b7, b8, b9, b10, b11, b12, b13⟩ := m1
  obtain ⟨h2, -⟩ := h2
  unfold MayM at h2
  dsimp only at h2
  obtain ⟨⟨r0', s0'⟩, -, -, -, -, -, ⟨r8, s8⟩, -⟩ := h2
  have q4 : w4.cell? ⟨R, 4, none⟩ = some (.bool v4) := HR.cell rfl
  go_upto_if 58 with fail
  go_cut [6] (fun u6 wx => u6 = .int .i64 ((n1 + bitN 6 (v4 && decide (x 9 < (e2 ⟨v0, v1, v2, v3, v4, v5, v6⟩ ⟨b0, b1, b2, b3, b4, b5, b6, b7, b8, b9, b10, b11, b12, b13⟩).reduces)) : Nat) : Int) ∧ MtW w x (e2 ⟨v0, v1, v2, v3, v4, v5, v6⟩ ⟨b0, b1, b2, b3, b4, b5, b6, b7, b8, b9, b10, b11, b12, b13⟩) wx ∧ Bx wx R 105 (wo ⟨v0, v1, v2, v3, v4, v5, v6⟩))
  case first =>
    cases v4
    case false =>
      go_wp2
      go_meet
      exact ⟨rfl, C, HR⟩
    case true =>
      have f8 : w4.cell? ⟨w.heap.size + 1, 8, none⟩ = some (.int .i64 (b8)) := C.cur.cell rfl
      go_wp2_with (first
        | (refine wpList_store_fld (by rfl) 3 _ _ rfl (w.heap.size + 1) 8 (.int .i64 (b8 + 1)) rfl rfl rfl _ _ C.cur (by rw [mt_size]; decide) (by kernel_rfl) (fun w5 u => ?_); replace C : MtW w x ⟨b0, b1, b2, b3, b4, b5, b6, b7, b8 + 1, b9, b10, b11, b12, b13⟩ w5 := C.upd u; replace HR := u.bx HR hne; clear u; have f8 : w5.cell? ⟨w.heap.size + 1, 8, none⟩ = some (.int .i64 (b8 + 1)) := C.cur.cell rfl; have k9 : w5.cell? ⟨w.heap.size, 9, none⟩ = some (.int .i64 (x 9)) := C.book 9 (by omega))
        | (go_at_call 37; (with_reducible refine (bit_any 6 6 (decide (x 9 < b8 + 1)) _ (by omega) (by omega)).mono ?_); rintro e w' ⟨rfl, rfl⟩; have t6 := bitN_lt (k := 6) (decide (x 9 < b8 + 1)) (by omega)))
      go_meet
      exact ⟨by rw [Int.natCast_add]; rfl, C, HR⟩
  case rest =>
  obtain ⟨rfl, C, HR⟩ := hcut
  rename World => w5
  clear q4
  obtain ⟨n2, hn2⟩ : ∃ n2, n1 + bitN 6 (v4 && decide (x 9 < (e2 ⟨v0, v1, v2, v3, v4, v5, v6⟩ ⟨b0, b1, b2, b3, b4, b5, b6, b7, b8, b9, b10, b11, b12, b13⟩).reduces)) = n2 := ⟨_, rfl⟩
  simp only [hn2]
  have HN2 := Lib.hid hn2
  obtain ⟨m2, hm2⟩ : ∃ m2, e2 ⟨v0, v1, v2, v3, v4, v5, v6⟩ ⟨b0, b1, b2, b3, b4, b5, b6, b7, b8, b9, b10, b11, b12, b13⟩ = m2 := ⟨_, rfl⟩
  rw [hm2] at C h3
  have HM2 := Lib.hid hm2
  clear hn2 hm2
  clear h3 r8 s8 r0' s0'
  obtain ⟨d0, d1, d2, d3, d4, d5, d6, d7, d8, d9, d10, d11, d12, d13⟩ := m2
  have q3 : w5.cell? ⟨R, 3, none⟩ = some (.bool v3) := HR.cell rfl
  go_upto_if 72 with fail
  go_cut [] (fun wx => MtW w x (e3 ⟨v0, v1, v2, v3, v4, v5, v6⟩ ⟨d0, d1, d2, d3, d4, d5, d6, d7, d8, d9, d10, d11, d12, d13⟩) wx)
  case first =>
    have q0 : w5.cell? ⟨R, 0, none⟩ = some (.bool v0) := HR.cell rfl
    have q1 : w5.cell? ⟨R, 1, none⟩ = some (.bool v1) := HR.cell rfl
    have q2 : w5.cell? ⟨R, 2, none⟩ = some (.bool v2) := HR.cell rfl
    cases v3
    case true =>
      have f0 : w5.cell? ⟨w.heap.size + 1, 0, none⟩ = some (.int .i64 (d0)) := C.cur.cell rfl
      go_wp2_with (first
        | (refine wpList_store_fld (by rfl) 3 _ _ rfl (w.heap.size + 1) 4 (.int .i64 (d0)) rfl rfl rfl _ _ C.cur (by rw [mt_size]; decide) (by kernel_rfl) (fun w6 u => ?_); replace C : MtW w x ⟨d0, d1, d2, d3, d0, d5, d6, d7, d8, d9, d10, d11, d12, d13⟩ w6 := C.upd u; replace HR := u.bx HR hne; clear u)
        | (refine wpList_store_fld (by rfl) 3 _ _ rfl (w.heap.size + 1) 5 (.int .i64 (0)) rfl rfl rfl _ _ C.cur (by rw [mt_size]; decide) (by kernel_rfl) (fun w7 u => ?_); replace C : MtW w x ⟨d0, d1, d2, d3, d0, 0, d6, d7, d8, d9, d10, d11, d12, d13⟩ w7 := C.upd u; replace HR := u.bx HR hne; clear u)
        | (refine wpList_store_fld (by rfl) 3 _ _ rfl (w.heap.size + 1) 1 (.int .i64 (0)) rfl rfl rfl _ _ C.cur (by rw [mt_size]; decide) (by kernel_rfl) (fun w8 u => ?_); replace C : MtW w x ⟨d0, 0, d2, d3, d0, 0, d6, d7, d8, d9, d10, d11, d12, d13⟩ w8 := C.upd u; replace HR := u.bx HR hne; clear u)
        | (refine wpList_store_fld (by rfl) 4 _ _ rfl (w.heap.size + 1) 2 (.bool (false)) rfl rfl rfl _ _ C.cur (by rw [mt_size]; decide) (by kernel_rfl) (fun w9 u => ?_); replace C : MtW w x ⟨d0, 0, false, d3, d0, 0, d6, d7, d8, d9, d10, d11, d12, d13⟩ w9 := C.upd u; replace HR := u.bx HR hne; clear u)
        | (refine wpList_store_fld (by rfl) 4 _ _ rfl (w.heap.size + 1) 7 (.bool (false)) rfl rfl rfl _ _ C.cur (by rw [mt_size]; decide) (by kernel_rfl) (fun w10 u => ?_); replace C : MtW w x ⟨d0, 0, false, d3, d0, 0, d6, false, d8, d9, d10, d11, d12, d13⟩ w10 := C.upd u; replace HR := u.bx HR hne; clear u))
      go_meet
      exact C
    case false =>
      cases d7
      case false =>
        cases v0
        case false =>
          have f7 : w5.cell? ⟨w.heap.size + 1, 7, none⟩ = some (.bool (false)) := C.cur.cell rfl
          go_wp2_with (first
            | (refine wpList_store_fld (by rfl) 4 _ _ rfl (w.heap.size + 1) 7 (.bool (v2)) rfl rfl rfl _ _ C.cur (by rw [mt_size]; decide) (by kernel_rfl) (fun w6 u => ?_); replace C : MtW w x ⟨d0, d1, d2, d3, d4, d5, d6, v2, d8, d9, d10, d11, d12, d13⟩ w6 := C.upd u; replace HR := u.bx HR hne; clear u; have q0 : w6.cell? ⟨R, 0, none⟩ = some (.bool false) := HR.cell rfl; have q1 : w6.cell? ⟨R, 1, none⟩ = some (.bool v1) := HR.cell rfl)
            | (refine wpList_store_fld (by rfl) 4 _ _ rfl (w.heap.size + 1) 2 (.bool (v1)) rfl rfl rfl _ _ C.cur (by rw [mt_size]; decide) (by kernel_rfl) (fun w7 u => ?_); replace C : MtW w x ⟨d0, d1, v1, d3, d4, d5, d6, v2, d8, d9, d10, d11, d12, d13⟩ w7 := C.upd u; replace HR := u.bx HR hne; clear u))
          go_meet
          exact C
        case true =>
          have f7 : w5.cell? ⟨w.heap.size + 1, 7, none⟩ = some (.bool (false)) := C.cur.cell rfl
          go_wp2_with (first
            | (refine wpList_store_fld (by rfl) 4 _ _ rfl (w.heap.size + 1) 7 (.bool (v2)) rfl rfl rfl _ _ C.cur (by rw [mt_size]; decide) (by kernel_rfl) (fun w6 u => ?_); replace C : MtW w x ⟨d0, d1, d2, d3, d4, d5, d6, v2, d8, d9, d10, d11, d12, d13⟩ w6 := C.upd u; replace HR := u.bx HR hne; clear u; have q0 : w6.cell? ⟨R, 0, none⟩ = some (.bool true) := HR.cell rfl; have q1 : w6.cell? ⟨R, 1, none⟩ = some (.bool v1) := HR.cell rfl)
            | (refine wpList_store_fld (by rfl) 3 _ _ rfl (w.heap.size + 1) 1 (.int .i64 (0)) rfl rfl rfl _ _ C.cur (by rw [mt_size]; decide) (by kernel_rfl) (fun w7 u => ?_); replace C : MtW w x ⟨d0, 0, d2, d3, d4, d5, d6, v2, d8, d9, d10, d11, d12, d13⟩ w7 := C.upd u; replace HR := u.bx HR hne; clear u; have q1 : w7.cell? ⟨R, 1, none⟩ = some (.bool v1) := HR.cell rfl)
            | (refine wpList_store_fld (by rfl) 4 _ _ rfl (w.heap.size + 1) 2 (.bool (v1)) rfl rfl rfl _ _ C.cur (by rw [mt_size]; decide) (by kernel_rfl) (fun w8 u => ?_); replace C : MtW w x ⟨d0, 0, v1, d3, d4, d5, d6, v2, d8, d9, d10, d11, d12, d13⟩ w8 := C.upd u; replace HR := u.bx HR hne; clear u))
          go_meet
          exact C
      case true =>
        cases v0
        case false =>
          have f7 : w5.cell? ⟨w.heap.size + 1, 7, none⟩ = some (.bool (true)) := C.cur.cell rfl
          go_wp2_with (first
            | (refine wpList_store_fld (by rfl) 4 _ _ rfl (w.heap.size + 1) 7 (.bool (true)) rfl rfl rfl _ _ C.cur (by rw [mt_size]; decide) (by kernel_rfl) (fun w6 u => ?_); replace C : MtW w x ⟨d0, d1, d2, d3, d4, d5, d6, true, d8, d9, d10, d11, d12, d13⟩ w6 := C.upd u; replace HR := u.bx HR hne; clear u; have q0 : w6.cell? ⟨R, 0, none⟩ = some (.bool false) := HR.cell rfl; have q1 : w6.cell? ⟨R, 1, none⟩ = some (.bool v1) := HR.cell rfl)
            | (refine wpList_store_fld (by rfl) 4 _ _ rfl (w.heap.size + 1) 2 (.bool (v1)) rfl rfl rfl _ _ C.cur (by rw [mt_size]; decide) (by kernel_rfl) (fun w7 u => ?_); replace C : MtW w x ⟨d0, d1, v1, d3, d4, d5, d6, true, d8, d9, d10, d11, d12, d13⟩ w7 := C.upd u; replace HR := u.bx HR hne; clear u))
          go_meet
          exact C
        case true =>
          have f7 : w5.cell? ⟨w.heap.size + 1, 7, none⟩ = some (.bool (true)) := C.cur.cell rfl
          go_wp2_with (first
            | (refine wpList_store_fld (by rfl) 4 _ _ rfl (w.heap.size + 1) 7 (.bool (true)) rfl rfl rfl _ _ C.cur (by rw [mt_size]; decide) (by kernel_rfl) (fun w6 u => ?_); replace C : MtW w x ⟨d0, d1, d2, d3, d4, d5, d6, true, d8, d9, d10, d11, d12, d13⟩ w6 := C.upd u; replace HR := u.bx HR hne; clear u; have q0 : w6.cell? ⟨R, 0, none⟩ = some (.bool true) := HR.cell rfl; have q1 : w6.cell? ⟨R, 1, none⟩ = some (.bool v1) := HR.cell rfl)
            | (refine wpList_store_fld (by rfl) 3 _ _ rfl (w.heap.size + 1) 1 (.int .i64 (0)) rfl rfl rfl _ _ C.cur (by rw [mt_size]; decide) (by kernel_rfl) (fun w7 u => ?_); replace C : MtW w x ⟨d0, 0, d2, d3, d4, d5, d6, true, d8, d9, d10, d11, d12, d13⟩ w7 := C.upd u; replace HR := u.bx HR hne; clear u; have q1 : w7.cell? ⟨R, 1, none⟩ = some (.bool v1) := HR.cell rfl)
            | (refine wpList_store_fld (by rfl) 4 _ _ rfl (w.heap.size + 1) 2 (.bool (v1)) rfl rfl rfl _ _ C.cur (by rw [mt_size]; decide) (by kernel_rfl) (fun w8 u => ?_); replace C : MtW w x ⟨d0, 0, v1, d3, d4, d5, d6, true, d8, d9, d10, d11, d12, d13⟩ w8 := C.upd u; replace HR := u.bx HR hne; clear u))
          go_meet
          exact C
  case rest =>
  have C := hcut
  clear hcut
  rename World => w6
  clear HR q3
  obtain ⟨m3, hm3⟩ : ∃ m3, e3 ⟨v0, v1, v2, v3, v4, v5, v6⟩ ⟨d0, d1, d2, d3, d4, d5, d6, d7, d8, d9, d10, d11, d12, d13⟩ = m3 := ⟨_, rfl⟩
  rw [hm3] at C
  have HM3 := Lib.hid hm3
  clear hm3
  obtain ⟨t0, t1, t2, t3, t4, t5, t6, t7, t8, t9, t10, t11, t12, t13⟩ := m3
  go_wp2_with (first
    | (refine wpList_store_fld (by rfl) 3 _ _ rfl (w.heap.size + 1) 3 (.int .i64 (0)) rfl rfl rfl _ _ C.cur (by rw [mt_size]; decide) (by kernel_rfl) (fun w7 u => ?_); replace C : MtW w x ⟨t0, t1, t2, 0, t4, t5, t6, t7, t8, t9, t10, t11, t12, t13⟩ w7 := C.upd u; clear u)
    | refine wpList_load_box (by rfl) 26 _ rfl (w.heap.size + 1) rfl 26 (mt ⟨t0, t1, t2, 0, t4, t5, t6, t7, t8, t9, t10, t11, t12, t13⟩) _ C.cur Try.underlying26 rfl (by kernel_rfl) ?_
    | refine wpList_store_box rfl 26 _ _ rfl (w.heap.size + 2) (mt ⟨t0, t1, t2, 0, t4, t5, t6, t7, t8, t9, t10, t11, t12, t13⟩) rfl rfl 26 (mt .zero) C.res (by kernel_rfl) rfl (mt_one _) (fun w8 u => ?_))
  refine bodyPost_ret (results_box2 Try.results36 _ _ (w.heap.size + 2) 26 (mt ⟨t0, t1, t2, 0, t4, t5, t6, t7, t8, t9, t10, t11, t12, t13⟩) _ (.int .i64 (n2 : Int)) rfl u.box rfl Try.underlying26 rfl (by kernel_rfl)) rfl ⟨?_, C.bel.trans (u.bel _ (by omega))⟩
  have he : endM ⟨v0, v1, v2, v3, v4, v5, v6⟩ ⟨a0, a1, a2, a3, a4, a5, a6, a7, a8, a9, a10, a11, a12, a13⟩ = ⟨t0, t1, t2, 0, t4, t5, t6, t7, t8, t9, t10, t11, t12, t13⟩ := by unfold endM; rw [HM1.out, HM2.out, HM3.out]
  have hn2 : bitN 8 (c8 ⟨v0, v1, v2, v3, v4, v5, v6⟩ ⟨a0, a1, a2, a3, a4, a5, a6, a7, a8, a9, a10, a11, a12, a13⟩) + bitN 6 (c6 x ⟨v0, v1, v2, v3, v4, v5, v6⟩ ⟨a0, a1, a2, a3, a4, a5, a6, a7, a8, a9, a10, a11, a12, a13⟩) = n2 := by unfold c6; rw [HN1.out, HM1.out]; exact HN2.out
  rw [he, hn2]

end Go.Proofs.Ytolbihfnogbjaaa
