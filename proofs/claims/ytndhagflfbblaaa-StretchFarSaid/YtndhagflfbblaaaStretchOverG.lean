/- What the document's Over of layer 14 returns where nothing is wrong. Conditions: as the theorem says. -/
import Derived.Test.YtndhagflfbblaaaRows
import Derived.Test.YtndhagflfbblaaaBase
import Derived.Test.YtndhagflfbblaaaBookRow
import Derived.Test.YtndhagflfbblaaaBookLim
import Derived.Test.YtndhagflfbblaaaBookMayR
import Derived.Test.YtndhagflfbblaaaBookLaws
import Derived.Test.YtndhagflfbblaaaBox
import Derived.Test.YtndhagflfbblaaaSpellMath
import Derived.Test.YtndhagflfbblaaaMeterMath
import Derived.Test.YtndhagflfbblaaaMeterSt
import Derived.Test.YtndhagflfbblaaaMeterChk
import Derived.Test.YtndhagflfbblaaaMeterMayR
import Derived.Test.YtndhagflfbblaaaMeterRStep
import Derived.Test.YtndhagflfbblaaaStretchMath
import Derived.Test.YtndhagflfbblaaaStretchOn
import Derived.Test.YtndhagflfbblaaaStretchSt
import Derived.Test.YtndhagflfbblaaaStretchFarM
import Derived.Test.YtndhagflfbblaaaStretchChk
import Derived.Test.YtndhagflfbblaaaStretchOnC
import Derived.Test.YtndhagflfbblaaaStretchFirst
import Derived.Test.YtndhagflfbblaaaStretchOverC
import Derived.Test.YtndhagflfbblaaaStretchLeast
import Derived.Test.YtndhagflfbblaaaStretchStR
import Derived.WalkKit
import Derived.WalkSpells
import Derived.WalkSmall
import Derived.Below
import Derived.Lib.Hide
import Derived.Shelf.Abstract
import Derived.BigQuiet
import Derived.OwnWalk
import Derived.Outline
import Derived.Deep.DeepCutAuto
import Derived.StillTailTactics
import Derived.Maps.RangeWalk
import Derived.OrdersHeld
import Derived.Deep.RegionHeld3
import Derived.Great.BuildSlice
namespace Go.Proofs.Ytndhagflfbblaaa
open Go.RowKit

set_option maxRecDepth 100000 in
set_option maxHeartbeats 8000000 in
open Classical in
theorem refover_good (x : Nat → Int) (m : Mt) (k : Int) (n' : Nat) (w : World) (hx : May x) (hm : MayM m) (hk : ¬ (k < 0 ∨ 3 < k)) (hnn : m.now + (n' : Int) ≤ 40320) :
    Calls Try.prog 8 #[.agg (bk x), .agg (mt m), .int .i64 k, .int .i64 (n' : Int)] w fun e w' => e = .returned (.tuple #[.agg (mt (walkV x k n' m noneF).1), .agg (tn (walkV x k n' m noneF).2), .int .i64 0]) ∧ Below w.heap.size w w' := by
  have C1 := fun W => refmay_any x W
  have C2 := fun W => refmay13_any m W
  have C := RfS.new w x m
  simp only [if_pos hx] at C1
  simp only [if_pos hm] at C2
  obtain ⟨Mf, hMf⟩ : ∃ Mf, (walkV x k n' m noneF).1 = Mf := ⟨_, rfl⟩
  obtain ⟨Yf, hYf⟩ : ∃ Yf, (walkV x k n' m noneF).2 = Yf := ⟨_, rfl⟩
  rw [hMf, hYf]
  have HMF := Lib.hid hMf
  have HYF := Lib.hid hYf
  have hnow := hm.1
  have dk0 : decide (k < 0) = false := decide_eq_false (by omega)
  have dk1 : decide (3 < k) = false := decide_eq_false (by omega)
  have dk2 : ¬ k < 0 := by omega
  have dk3 : ¬ 3 < k := by omega
  have f0 : (mt m)[0]? = some (.int .i64 m.now) := rfl
  obtain ⟨nw, hnw⟩ : ∃ nw, m.now = nw := ⟨_, rfl⟩
  have hnn' : nw + (n' : Int) ≤ 40320 := by rw [← hnw]; exact hnn
  rw [hnw] at f0 hnow
  have hw40 := wrap14 (40320 - nw) (by omega) (by omega)
  have d0 : decide ((n' : Int) < 0) = false := decide_eq_false (by omega)
  have d1 : decide (40320 - nw < (n' : Int)) = false := decide_eq_false (by omega)
  have d2 : ¬ 40320 - nw < (n' : Int) := by omega
  have d3 : ¬ (n' : Int) < 0 := by omega
  have HM := Lib.hid hm
  have HX := Lib.hid hx
  have HNN := Lib.hid hnn
  clear hMf hYf hm hx hnn hk hnw
  go_enter Try.func8, Try.ntmps8
  go_upto_region 10 with (first | refine wpList_load_bk (by rfl) 23 _ rfl _ _ rfl x _ C.rd Try.underlying23 rfl (by kernel_rfl) ?_ | refine wpList_load_box (by rfl) 25 _ rfl (w.heap.size + 1) rfl 25 (mt m) _ C.cur Try.underlying25 rfl (by kernel_rfl) ?_ | (go_at_call 19; (with_reducible refine (C1 _).mono ?_); rintro e w1 ⟨rfl, hb1⟩; replace C := C.below hb1; clear hb1) | (go_at_call 14; (with_reducible refine (C2 _).mono ?_); rintro e w2 ⟨rfl, hb2⟩; replace C := C.below hb2; clear hb2; have g0 : w2.cell? ⟨w.heap.size + 1, 0, none⟩ = some (.int .i64 nw) := C.cur.cell f0))
  (try go_frame)
  clear C1 C2 d0 d1 d2 d3 hw40
  rw [← yMin_zero] at C
  go_wp2
  go_loopw [12] (fun i wr => ∃ c : Nat, c ≤ 10 ∧ i = .int .i64 (c : Nat) ∧ Hid (RfS w x m (yMin c) wr)) (fun i _ => 10 - (intOf i).toNat)
  case atStart => exact ⟨0, Nat.zero_le _, rfl, Lib.hid C⟩
  case round =>
    obtain ⟨c, hc, rfl, HC⟩ := hrel
    obtain ⟨w3, rfl⟩ : ∃ w3 : World, w3 = wr := ⟨_, rfl⟩
    clear C
    have C := HC.out
    by_cases hlt : c < 10
    case neg =>
      obtain rfl : c = 10 := by omega
      have C : RfS w x m noneF w3 := ⟨C.bel, C.rd, C.cur, C.res, C.ref, C.fst⟩
      go_wp2
      go_loopw [13] (fun i wr => ∃ j : Nat, j ≤ n' ∧ i = .int .i64 (j : Nat) ∧ Hid (RfS w x (walkV x k j m noneF).1 (walkV x k j m noneF).2 wr)) (fun i _ => n' - (intOf i).toNat)
      case atStart => exact ⟨0, Nat.zero_le _, rfl, Lib.hid C⟩
      case round =>
        obtain ⟨j, hj, rfl, HC⟩ := hrel
        obtain ⟨w4, rfl⟩ : ∃ w4 : World, w4 = wr := ⟨_, rfl⟩
        clear C
        by_cases hlt : j < n'
        case neg =>
          obtain rfl : j = n' := by omega
          have C := HC.out
          rw [HMF.out, HYF.out] at C
          have dl : decide ((j : Int) < (j : Int)) = false := decide_eq_false (by omega)
          go_upto_region 26 with fail
          have CD := C.drew
          refine wp_region_noPanic ?_
          refine wp_region_held_drew (S := fun w' => Bx w' (w.heap.size + 4) 28 (tn Yf) ∧ Bx w' (w.heap.size + 1) 25 (mt Mf)) (by kernel_rfl) ?_ (fun hHeld => ?_)
          · exact ⟨CD.fst, CD.cur⟩
          refine wpAnyH_take (i := 0) (oi := ⟨some 86, _, _, _, _, _⟩) (v := .agg (mt Mf)) rfl (by kernel_rfl) (by kernel_rfl) (by kernel_rfl) (fun _ _ _ h => h) (Or.inl ⟨by rfl, fun w' hSw => exec_load_box (w.heap.size + 1) 25 _ _ w' rfl rfl hSw.2 Try.underlying25 rfl (by kernel_rfl)⟩) (by assumption) ?_
          (try simp only [Act.put, List.setIfInBounds_toArray, List.set_cons_zero, List.set_cons_succ])
          refine wpAnyH_take (i := 1) (oi := ⟨some 87, _, _, _, _, _⟩) (v := .agg (tn Yf)) rfl (by kernel_rfl) (by kernel_rfl) (by kernel_rfl) (fun _ _ _ h => h) (Or.inl ⟨by rfl, fun w' hSw => exec_load_box (w.heap.size + 4) 28 _ _ w' rfl rfl hSw.1 Try.underlying28 rfl (by kernel_rfl)⟩) (by assumption) ?_
          (try simp only [Act.put, List.setIfInBounds_toArray, List.set_cons_zero, List.set_cons_succ])
          refine wpAnyH_ready (rs := [2]) (by kernel_rfl) (by simp) ?_
          refine AllReadyH.cons (o := ⟨none, _, _, _, _, _⟩) rfl (fun K hK => ?_) AllReadyH.nil
          refine wp_store_any 25 _ _ rfl (w.heap.size + 2) (mt Mf) rfl rfl 25 (mt .zero) CD.res (by kernel_rfl) rfl (mt_one _) (fun w6 u => ?_)
          refine hK.out _ _ ⟨u.bx hHeld.1 (by omega), u.bx hHeld.2 (by omega)⟩ (fun hHeld => ?_)
          clear hK K
          (try simp only [Act.put])
          refine wpAnyH_ready (rs := [3]) (by kernel_rfl) (by simp) ?_
          refine AllReadyH.cons (o := ⟨none, _, _, _, _, _⟩) rfl (fun K hK => ?_) AllReadyH.nil
          refine wp_store_any 28 _ _ rfl (w.heap.size + 3) (tn Yf) rfl rfl 28 (tn zeroF) (u.bx CD.ref (by omega)) (by kernel_rfl) rfl (tn_one _) (fun w7 u2 => ?_)
          refine hK.out _ _ ⟨u2.bx hHeld.1 (by omega), u2.bx hHeld.2 (by omega)⟩ (fun hHeld => ?_)
          clear hK K
          (try simp only [Act.put])
          refine wpAnyH_take (i := 4) (oi := ⟨some 10, _, _, _, _, _⟩) (v := ?_) rfl (by kernel_rfl) (by kernel_rfl) (by kernel_rfl) (fun _ _ _ h => h) (Or.inl ⟨by rfl, ?_⟩) (by assumption) ?_
          rotate_left
          · (intro w' hSw; clear hSw; go_simp; try (with_reducible rfl))
          (try simp only [Act.put, List.setIfInBounds_toArray, List.set_cons_zero, List.set_cons_succ])
          refine wpAnyH_done (by kernel_rfl) ?_ _
          refine NoPanic.normal ?_
          go_wp2_with fail
          refine bodyPost_ret (results_box22 Try.results8 _ _ (w.heap.size + 2) (w.heap.size + 3) 25 28 (mt Mf) (tn Yf) _ _ (.int .i64 0) rfl (u2.bx u.box (by omega)) rfl u2.box rfl Try.underlying25 rfl (by kernel_rfl) Try.underlying28 rfl (by kernel_rfl)) rfl ⟨rfl, ?_⟩
          exact (CD.bel.trans (u.bel _ (by omega))).trans (u2.bel _ (by omega))
        have dl : decide ((j : Int) < (n' : Int)) = true := decide_eq_true (by omega)
        have hwm := walkV_may (x := x) (k := k) j noneF HM.out (by have := HNN.out; omega)
        have hlt2 : (walkV x k j m noneF).1.now < 40320 := by rw [hwm.2]; have := HNN.out; omega
        have ST := fun W => refstep_any x (walkV x k j m noneF).1 k W hwm.1 hlt2 HX.out
        have hs := stepC_lt x (walkV x k j m noneF).1 k
        have hnx := walkV_snoc x k j m noneF
        have C := HC.out
        clear hwm
        generalize (walkV x k j m noneF).1 = m1 at ST hs hnx C hlt2
        generalize (walkV x k j m noneF).2 = y1 at hnx C
        generalize stepM x m1 k = m2 at ST hnx
        generalize stepC x m1 k = s at ST hs hnx
        obtain ⟨a, ha⟩ : ∃ a, m1.now = a := ⟨_, rfl⟩
        have f1 : (mt m1)[0]? = some (.int .i64 m1.now) := rfl
        rw [ha] at hnx f1
        have g1 : w4.cell? ⟨w.heap.size + 1, 0, none⟩ = some (.int .i64 a) := C.cur.cell f1
        have HNX := Lib.hid hnx
        clear ha hnx f1 hlt2 HC
        go_upto_region 19 with (first
          | refine wpList_load_bk (by rfl) 23 _ rfl _ _ rfl x _ C.rd Try.underlying23 rfl (by kernel_rfl) ?_
          | refine wpList_load_box (by rfl) 25 _ rfl (w.heap.size + 1) rfl 25 (mt m1) _ C.cur Try.underlying25 rfl (by kernel_rfl) ?_
          | (go_at_call 20; (with_reducible refine (ST _).mono ?_); rintro e w5 ⟨rfl, hb5⟩; replace C := C.below hb5; clear hb5)
          | refine wpList_store_box rfl 25 _ _ rfl w5.heap.size (mt m2) rfl rfl 25 (mt .zero) (Bx.new (W := w5) 25 (mt .zero) rfl) (by kernel_rfl) rfl (mt_one _) (fun w6 u => ?_))
        (try go_frame)
        have hR : w.heap.size + 4 < w5.heap.size := C.fst.lt
        have C6 := (C.alloc _).other u hR
        have BK : Bx w6 w5.heap.size 25 (mt m2) := u.box
        clear C u ST g1
        generalize w5.heap.size = R at hR BK ⊢
        rw [← yIn_zero s y1 a] at C6
        go_wp2
        go_loopw [16, 17] (fun b i wr => ∃ c : Nat, c ≤ 10 ∧ i = .int .i64 (c : Nat) ∧ ∃ r : Nat, b = .int .i64 (r : Nat) ∧ Hid (r = s / 2 ^ c) ∧ Hid (RfS w x m1 (yIn s y1 a c) wr) ∧ Hid (Bx wr R 25 (mt m2))) (fun _ i _ => 10 - (intOf i).toNat)
        case atStart => exact ⟨0, Nat.zero_le _, rfl, s, rfl, Lib.hid (by simp), Lib.hid C6, Lib.hid BK⟩
        case round =>
          obtain ⟨c, hc, rfl, r, rfl, HR, HC, HB⟩ := hrel
          obtain ⟨w7, rfl⟩ : ∃ w7 : World, w7 = wr := ⟨_, rfl⟩
          clear C6 BK
          have C := HC.out
          have BK := HB.out
          by_cases hlt : c < 10
          case neg =>
            obtain rfl : c = 10 := by omega
            rw [yIn_ten hs] at C
            go_wp2_with (first
              | refine wpList_load_box (by rfl) 25 _ rfl R rfl 25 (mt m2) _ BK Try.underlying25 rfl (by kernel_rfl) ?_
              | (refine wpList_store_box rfl 25 _ _ rfl (w.heap.size + 1) (mt m2) rfl rfl 25 (mt m1) C.cur (by kernel_rfl) rfl (mt_one _) (fun w10 u => ?_); replace C := C.updm u; clear u))
            refine ⟨⟨_, _, _, _, _, _, _, _, _, _, _, _, _, _, _, _, _, _, _, _, _, _, _, _, _, _, _, _, _, _, _, _, _, _, _, _, _, _, ?rel, rfl⟩, ?measure⟩
            case rel => exact ⟨j + 1, by omega, by go_num, Lib.hid (by rw [HNX.out]; exact C)⟩
            case measure => simp [intOf]; omega
          have hbit := bit_rem r
          have hb2 : r.testBit 0 = s.testBit c := by rw [HR.out]; exact bit_div s c
          rw [hb2] at hbit
          have hr10 : r < 1024 := by rw [HR.out]; exact Nat.lt_of_le_of_lt (Nat.div_le_self _ _) hs
          have hn2 : Hid (r / 2 = s / 2 ^ (c + 1)) := Lib.hid (by rw [HR.out]; exact div_next s c)
          have hq : w7.cell? ⟨w.heap.size + 4, c, none⟩ = some (.int .i64 (y1 c)) := by rw [← yIn_at s y1 a c]; exact C.fst.cell (tn_at _ c hlt)
          clear hb2
          by_cases ht : s.testBit c = true
          case neg =>
            rw [Bool.eq_false_iff.2 ht] at hbit
            have hy := yIn_no (y := y1) (a := a) (fun h => ht h.1)
            rw [hy] at C
            have HC2 := Lib.hid C
            clear hy ht hq C HC
            go_wp2
            go_roundw
            case rel => exact ⟨c + 1, by omega, by go_num, r / 2, (by first | (simp; done) | (simp; exact wrap14 _ (by omega) (by omega))), hn2, HC2, HB⟩
            case measure => simp [intOf]; omega
          rw [ht] at hbit
          obtain ⟨v, hv⟩ : ∃ v, y1 c = v := ⟨_, rfl⟩
          rw [hv] at hq
          by_cases hl : v < 0
          case neg =>
            have dv : decide (v < 0) = false := decide_eq_false hl
            have hy := yIn_no (s := s) (y := y1) (a := a) (c := c) (fun h => hl (by rw [← hv]; exact h.2))
            rw [hy] at C
            have HC2 := Lib.hid C
            clear hy ht C HC hv
            go_wp2
            go_roundw
            case rel => exact ⟨c + 1, by omega, by go_num, r / 2, (by first | (simp; done) | (simp; exact wrap14 _ (by omega) (by omega))), hn2, HC2, HB⟩
            case measure => simp [intOf]; omega
          have dv : decide (v < 0) = true := decide_eq_true hl
          have hset := tn_fs (yIn s y1 a c) a c hlt
          rw [yIn_yes ht (by rw [hv]; exact hl)] at hset
          have HS := Lib.hid hset
          clear hset ht hv
          go_wp2_with (refine wpList_store_fld (by rfl) 3 _ _ rfl (w.heap.size + 4) c (.int .i64 a) rfl rfl rfl _ _ C.fst (by rw [tn_size]; omega) (by kernel_rfl) (fun w8 u => ?_); rw [HS.out] at u; replace C : RfS w x m1 (yIn s y1 a (c + 1)) w8 := C.updf u; replace BK := u.bx BK (by omega); clear u)
          go_roundw
          case rel => exact ⟨c + 1, by omega, by go_num, r / 2, (by first | (simp; done) | (simp; exact wrap14 _ (by omega) (by omega))), hn2, Lib.hid C, Lib.hid BK⟩
          case measure => simp [intOf]; omega
    have hset := tn_fs (yMin c) (-1) c hlt
    rw [yMin_next] at hset
    have HS := Lib.hid hset
    clear hset
    go_wp2_with (refine wpList_store_fld (by rfl) 3 _ _ rfl (w.heap.size + 4) c (.int .i64 (-1)) rfl rfl rfl _ _ C.fst (by rw [tn_size]; omega) (by kernel_rfl) (fun w4 u => ?_); rw [HS.out] at u; replace C : RfS w x m (yMin (c + 1)) w4 := C.updf u; clear u)
    go_roundw
    case rel => exact ⟨c + 1, by omega, by go_num, Lib.hid C⟩
    case measure => simp [intOf]; omega

end Go.Proofs.Ytndhagflfbblaaa
