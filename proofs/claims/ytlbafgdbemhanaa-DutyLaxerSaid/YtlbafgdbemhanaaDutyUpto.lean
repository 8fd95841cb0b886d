/- A timeline up to a minute: what the law's own upto of layer 16 returns; the same in plain words. Conditions: the records can be read; at most a thousand. -/
import Derived.Test.YtlbafgdbemhanaaRows
import Derived.Test.YtlbafgdbemhanaaBase
import Derived.Test.YtlbafgdbemhanaaZ2
import Derived.Test.YtlbafgdbemhanaaZ1
import Derived.Test.YtlbafgdbemhanaaZ3
import Derived.WalkKit
import Derived.WalkSpells
import Derived.WalkSmall
import Derived.Below
import Derived.Outline
import Derived.OwnWalk
import Derived.Lib.Hide
namespace Go.Proofs.Ytlbafgdbemhanaa
open Go.RowKit

def uptoR (m : Int) (r : Rc) : Rc := if m < r.2.2 then (r.1, r.2.1, m) else r
/-- The timeline up to the minute m. -/
def uptoV (l : List Rc) (m : Int) : List Rc := (l.filter fun r => decide (r.2.1 < m)).map (uptoR m)

theorem upto_nil (m : Int) : uptoV [] m = [] := rfl
theorem upto_yes {l : List Rc} {m : Int} {k : Nat} {x y z : Int} (hk : k < l.length) (hr : l.getD k rz = (x, y, z)) (h : y < m) : uptoV (l.take (k + 1)) m = uptoV (l.take k) m ++ [uptoR m (x, y, z)] := by
  have e : l[k] = (x, y, z) := by rw [← hr]; simp [List.getD, hk]
  rw [List.take_succ_eq_append_getElem hk, e]
  unfold uptoV
  rw [List.filter_append, List.map_append]
  simp [h]
theorem upto_no {l : List Rc} {m : Int} {k : Nat} {x y z : Int} (hk : k < l.length) (hr : l.getD k rz = (x, y, z)) (h : ¬ y < m) : uptoV (l.take (k + 1)) m = uptoV (l.take k) m := by
  have e : l[k] = (x, y, z) := by rw [← hr]; simp [List.getD, hk]
  rw [List.take_succ_eq_append_getElem hk, e]
  unfold uptoV
  rw [List.filter_append, List.map_append]
  simp [h]
theorem upto_len (l : List Rc) (m : Int) : (uptoV l m).length ≤ l.length := by
  unfold uptoV
  rw [List.length_map]
  exact List.length_filter_le _ _

/-- It is a timeline, and its minutes are the first ones. -/
theorem upto_tl : ∀ {l : List Rc} {e : Int} (m : Int), Tl e l → (Tl e (uptoV l m)) ∧ kindsV (uptoV l m) = (kindsV l).take (m - e).toNat ∧ (∀ r ∈ l, r.2.1 ≥ e)
  | [], e, m, _ => ⟨trivial, by simp [kindsV, uptoV], by simp⟩
  | r :: l, e, m, h => by
    obtain ⟨h1, rfl, h3⟩ := h
    obtain ⟨i1, i2, i3⟩ := upto_tl m h3
    have hge : ∀ q ∈ r :: l, q.2.1 ≥ r.2.1 := fun q hq => by
      rcases List.mem_cons.1 hq with rfl | hq
      · exact Int.le_refl _
      · have := i3 q hq; have := h1.2; omega
    by_cases hm : r.2.1 < m
    · have hf : uptoV (r :: l) m = uptoR m r :: uptoV l m := by unfold uptoV; rw [List.filter_cons]; simp [hm]
      rw [hf]
      by_cases hz : m < r.2.2
      · have e0 : uptoV l m = [] := by
          unfold uptoV
          rw [List.filter_eq_nil_iff.2, List.map_nil]
          intro q hq
          have := i3 q hq
          simp
          omega
        have er : uptoR m r = (r.1, r.2.1, m) := by unfold uptoR; rw [if_pos hz]
        rw [e0, er]
        refine ⟨⟨⟨h1.1, by have := h1.2; dsimp only; omega⟩, rfl, trivial⟩, ?_, hge⟩
        rw [kinds_cons, kinds_cons, List.take_append_of_le_length (by rw [List.length_replicate]; omega), List.take_replicate]
        show List.replicate (m - r.2.1).toNat r.1 ++ [] = _
        rw [List.append_nil, Nat.min_eq_left (by omega)]
      · have er : uptoR m r = r := by unfold uptoR; rw [if_neg hz]
        rw [er]
        refine ⟨⟨h1, rfl, i1⟩, ?_, hge⟩
        have e1 : (List.replicate (r.2.2 - r.2.1).toNat r.1).take (m - r.2.1).toNat = List.replicate (r.2.2 - r.2.1).toNat r.1 := List.take_of_length_le (by rw [List.length_replicate]; omega)
        rw [kinds_cons, kinds_cons, i2, List.take_append, List.length_replicate, e1]
        have hr := h1.2
        congr 2
        omega
    · have hf : uptoV (r :: l) m = [] := by
        unfold uptoV
        rw [List.filter_eq_nil_iff.2, List.map_nil]
        intro q hq
        have := hge q hq
        simp
        omega
      rw [hf]
      refine ⟨trivial, ?_, hge⟩
      rw [show (m - r.2.1).toNat = 0 by omega, List.take_zero]
      rfl

set_option maxRecDepth 20000 in
set_option maxHeartbeats 2000000 in
theorem upto_any (A : Option Addr) (c n : Nat) (l : List Rc) (m : Int) (w : World) (hn : l.length = n) (h : RdR w A l) (hl : n ≤ 1000) :
    Calls Try.prog 18 #[.slice A n c, .int .i64 m] w fun e w' => ∃ v, e = .returned v ∧ OwnR w.heap.size w' v (uptoV l m) ∧ Below w.heap.size w w' := by
  obtain ⟨i0, hi, hz0, hz1, hz2⟩ := info_parts info_rec
  have HN := Lib.hid hn
  have HR := Lib.hid h
  clear hn h
  go_enter Try.func18, Try.ntmps18
  go_wp2
  go_loopw [5, 10] (fun v i wr => ∃ (k q : Nat) (A' : Option Addr) (c' : Nat), k ≤ n ∧ i = .int .i64 k ∧ v = .slice A' q c' ∧ Hid ((uptoV (l.take k) m).length = q) ∧ q ≤ k ∧
      Hid (OwnR w.heap.size wr (.slice A' q c') (uptoV (l.take k) m)) ∧ Below w.heap.size w wr) (fun _ i _ => n - (intOf i).toNat)
  case atStart => exact ⟨0, 0, none, 0, Nat.zero_le _, rfl, rfl, Lib.hid rfl, Nat.le_refl _, Lib.hid (OwnR.nil _ _), Below.refl _ _⟩
  case round =>
    obtain ⟨k, q, A', c', hk, rfl, rfl, HQ, hqk, hown, hb⟩ := hrel
    obtain ⟨w3, rfl⟩ : ∃ w3 : World, w3 = wr := ⟨_, rfl⟩
    have hsz := hb.size
    by_cases hlt : k < n
    · have hlt' : k < l.length := by rw [HN.out]; exact hlt
      obtain ⟨b, off, x, y, z, rfl, hbb, hc0, hc1, hc2, hs⟩ := HR.out.at_ hlt'
      rw [← hb.cell (p := ⟨b, _, none⟩) hbb] at hc0 hc1 hc2
      have hbr : b < w3.heap.size := by omega
      by_cases hy : y < m
      · have KM := Lib.hid (upto_yes hlt' hs.out hy)
        have HL5 := Lib.hid (show (uptoV (l.take k) m ++ [uptoR m (x, y, z)]).length = q + 1 by rw [List.length_append, HQ.out]; rfl)
        have hown1 : OwnR w.heap.size (w3.alloc (.cells #[.int .i64 x, .int .i64 y, .int .i64 z] 48)) (.slice A' q c') (uptoV (l.take k) m) := OwnR.alloc hown.out _
        have hlr : ∀ g, (Value.slice A' q c').ownBlock = some g → w.heap.size ≤ g ∧ g < w3.heap.size := fun g hg => World.ownsRow.lt hown.out g hg
        have hnb := HQ.out
        obtain ⟨lv, hlv⟩ : ∃ lv, uptoV (l.take k) m = lv := ⟨_, rfl⟩
        rw [hlv] at hown1 hnb KM HL5
        have HKM := KM
        clear hs HQ
        by_cases hz : m < z
        · have hR : uptoR m (x, y, z) = (x, y, m) := by unfold uptoR; rw [if_pos hz]
          rw [hR] at HKM HL5
          have HOW := Lib.hid (OwnR.alloc (OwnR.alloc hown.out (.cells #[.int .i64 x, .int .i64 y, .int .i64 m] 48)) (.cells #[.int .i64 x, .int .i64 y, .int .i64 m] 48))
          rw [hlv] at HOW
          have HBW : Hid (Below w.heap.size w ((w3.alloc (.cells #[.int .i64 x, .int .i64 y, .int .i64 m] 48)).alloc (.cells #[.int .i64 x, .int .i64 y, .int .i64 m] 48))) := Lib.hid (b_al (b_al hb (Nat.le_refl _) _) (Nat.le_refl _) _)
          clear hR hown1 KM hown hlv
          go_wp2_with (at_builtin; refine wpList_append_own _ rfl _ _ 24 rfl w.heap.size 48 i0 (.agg #[.int .i64 0, .int .i64 0, .int .i64 0]) 3 24 Try.underlying24 hi hz0 hz1 hz2 rfl (by decide) _ _ _ rfl HOW.out ⟨w3.heap.size + 1, 0, none⟩ 1 1 [.int .i64 x, .int .i64 y, .int .i64 m] rfl rfl (rec_news (by simp)) rec_cells (by unfold maxLen; omega) (by omega) (by simp; omega) ?_; intro v5 w5 hown5 hgrow5 _; have HS := Lib.hid (OwnR.snoc hown5); have HB5 := Lib.hid (HBW.out.grown hgrow5 (by simp; omega) (fun g hg => (hlr g hg).1)); clear hown5 hgrow5)
          obtain ⟨A5, c5, rfl, _⟩ := HS.out.read
          go_wp2
          go_roundw
          case rel => exact ⟨k + 1, q + 1, A5, c5, by omega, by go_num, by rw [HL5.out], Lib.hid (by rw [HKM.out]; exact HL5.out), by omega, Lib.hid (by rw [HKM.out]; have := HS.out; rw [HL5.out] at this; exact this), HB5.out⟩
          case measure => simp [intOf]; omega
        · have hR : uptoR m (x, y, z) = (x, y, z) := by unfold uptoR; rw [if_neg hz]
          rw [hR] at HKM HL5
          have HOW := Lib.hid (OwnR.alloc hown1 (.cells #[.int .i64 x, .int .i64 y, .int .i64 z] 48))
          have HBW : Hid (Below w.heap.size w ((w3.alloc (.cells #[.int .i64 x, .int .i64 y, .int .i64 z] 48)).alloc (.cells #[.int .i64 x, .int .i64 y, .int .i64 z] 48))) := Lib.hid (b_al (b_al hb (Nat.le_refl _) _) (Nat.le_refl _) _)
          clear hR hown1 KM hown hlv
          go_wp2_with (at_builtin; refine wpList_append_own _ rfl _ _ 24 rfl w.heap.size 48 i0 (.agg #[.int .i64 0, .int .i64 0, .int .i64 0]) 3 24 Try.underlying24 hi hz0 hz1 hz2 rfl (by decide) _ _ _ rfl HOW.out ⟨w3.heap.size + 1, 0, none⟩ 1 1 [.int .i64 x, .int .i64 y, .int .i64 z] rfl rfl (rec_news (by simp)) rec_cells (by unfold maxLen; omega) (by omega) (by simp; omega) ?_; intro v5 w5 hown5 hgrow5 _; have HS := Lib.hid (OwnR.snoc hown5); have HB5 := Lib.hid (HBW.out.grown hgrow5 (by simp; omega) (fun g hg => (hlr g hg).1)); clear hown5 hgrow5)
          obtain ⟨A5, c5, rfl, _⟩ := HS.out.read
          go_wp2
          go_roundw
          case rel => exact ⟨k + 1, q + 1, A5, c5, by omega, by go_num, by rw [HL5.out], Lib.hid (by rw [HKM.out]; exact HL5.out), by omega, Lib.hid (by rw [HKM.out]; have := HS.out; rw [HL5.out] at this; exact this), HB5.out⟩
          case measure => simp [intOf]; omega
      · have KM := Lib.hid (upto_no hlt' hs.out hy)
        have hown1 := Lib.hid (OwnR.alloc hown.out (.cells #[.int .i64 x, .int .i64 y, .int .i64 z] 48))
        have HB1 := Lib.hid (b_al hb (Nat.le_refl _) (.cells #[.int .i64 x, .int .i64 y, .int .i64 z] 48))
        clear hs
        go_wp2
        go_roundw
        case rel => exact ⟨k + 1, q, A', c', by omega, by go_num, rfl, Lib.hid (by rw [KM.out]; exact HQ.out), by omega, Lib.hid (by rw [KM.out]; exact hown1.out), HB1.out⟩
        case measure => simp [intOf]; omega
    · obtain rfl : k = n := by omega
      have e : l.take k = l := List.take_of_length_le (Nat.le_of_eq HN.out)
      rw [e] at hown
      clear e HQ
      go_wp2
      go_ret
      exact ⟨_, rfl, hown.out, hb⟩

end Go.Proofs.Ytlbafgdbemhanaa
