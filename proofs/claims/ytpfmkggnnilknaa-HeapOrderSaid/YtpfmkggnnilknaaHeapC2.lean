/- What Peek and Pop of layer 23 make of a heap. Conditions: the heap lies as it is told; Pop is of fewer than a million million items. -/
import Derived.Test.YtpfmkggnnilknaaRows
import Derived.Test.YtpfmkggnnilknaaBase
import Derived.Test.YtpfmkggnnilknaaRow
import Derived.Test.YtpfmkggnnilknaaRecMath
import Derived.Test.YtpfmkggnnilknaaTriLt
import Derived.Test.YtpfmkggnnilknaaBox
import Derived.Test.YtpfmkggnnilknaaFindHeap
import Derived.Test.YtpfmkggnnilknaaTriHeap
import Derived.Test.YtpfmkggnnilknaaHeapMath
import Derived.Test.YtpfmkggnnilknaaHeapHeap
import Derived.Test.YtpfmkggnnilknaaHeapLeaf
import Derived.Test.YtpfmkggnnilknaaHeapApp
import Derived.Test.YtpfmkggnnilknaaHeapPile
import Derived.Test.YtpfmkggnnilknaaHeapLib
import Derived.Test.YtpfmkggnnilknaaHeapPush
import Derived.Test.YtpfmkggnnilknaaHeapLib2
import Derived.Test.YtpfmkggnnilknaaHeapC
import Derived.WalkKit
import Derived.WalkSpells
import Derived.WalkSmall
import Derived.Below
import Derived.Lib.Hide
import Derived.BigQuiet
import Derived.Outline
import Derived.OwnWalk
import Derived.Deep.QuietTactic
import Derived.Deep.DeepCutAuto
import Derived.Deep.RegionWith
namespace Go.Proofs.Ytpfmkggnnilknaa
open Go.RowKit

theorem one_cells3 (a b c : Int) : (#[.int .i64 a, .int .i64 b, .int .i64 c] : Array Value).all (·.oneCell') = true := by simp [Value.oneCell']

theorem Pl.upd {w w' : World} {g b q : Nat} {t : TypeId} {cs : Array Value} {l : List Rc} (h : Pl w g b l) (u : Upd w q t cs w') (h1 : q ≠ g) (h2 : q ≠ b) : Pl w' g b l := by
  obtain ⟨c, b1, r1⟩ := h
  exact ⟨c, u.bx b1 (fun e => h1 e.symm), r1.kept (u.other b (fun e => h2 e.symm))⟩

theorem Hs.upd {w w' : World} {g b q : Nat} {t : TypeId} {cs : Array Value} {s : List Rc} (h : Hs w g b s) (u : Upd w q t cs w') (h1 : q ≠ g) (h2 : q ≠ b) : Hs w' g b s := by
  obtain ⟨l, p, r⟩ := h
  exact ⟨l, p.upd u h1 h2, r⟩

theorem peek23_nil (w : World) : Calls Try.prog 9 #[.pointer none] w fun e w' => e = .returned (.tuple #[itV rz, .bool false]) ∧ Below w.heap.size w w' := by
  have CL := fun (W : World) (_ : Below w.heap.size w W) => len23_nil W
  have HQ := Lib.hid (Bx.new (W := w) 28 #[.int .i64 0, .int .i64 0, .int .i64 0] rfl)
  have HB := Lib.hid (show Below w.heap.size w (w.alloc (.cells #[.int .i64 0, .int .i64 0, .int .i64 0] 28)) from b_al (Below.refl _ _) (Nat.le_refl _) _)
  go_enter Try.func9, Try.ntmps9
  go_wp2_with (go_at_call 10; refine (CL _ HB.out).mono ?_; rintro e w1 ⟨rfl, rfl⟩)
  refine bodyPost_ret (results_box2 Try.results9 _ _ w.heap.size 28 #[.int .i64 0, .int .i64 0, .int .i64 0] _ _ rfl HQ.out rfl Try.underlying28 rfl (by kernel_rfl)) rfl ⟨rfl, ?_⟩
  exact HB.out

theorem peek23_none {w : World} {g b : Nat} (h : Hs w g b []) : Calls Try.prog 9 #[.pointer (some ⟨g, 0, none⟩)] w fun e w' => e = .returned (.tuple #[itV rz, .bool false]) ∧ Below w.heap.size w w' := by
  have CL := fun (W : World) (hb : Below w.heap.size w W) => len23_any (h.below hb)
  have HQ := Lib.hid (Bx.new (W := w) 28 #[.int .i64 0, .int .i64 0, .int .i64 0] rfl)
  have HB := Lib.hid (show Below w.heap.size w (w.alloc (.cells #[.int .i64 0, .int .i64 0, .int .i64 0] 28)) from b_al (Below.refl _ _) (Nat.le_refl _) _)
  go_enter Try.func9, Try.ntmps9
  go_wp2_with (go_at_call 10; refine (CL _ HB.out).mono ?_; rintro e w1 ⟨rfl, rfl⟩)
  refine bodyPost_ret (results_box2 Try.results9 _ _ w.heap.size 28 #[.int .i64 0, .int .i64 0, .int .i64 0] _ _ rfl HQ.out rfl Try.underlying28 rfl (by kernel_rfl)) rfl ⟨rfl, ?_⟩
  exact HB.out

theorem pop23_nil (w : World) : Calls Try.prog 8 #[.pointer none] w fun e w' => e = .returned (.tuple #[itV rz, .bool false]) ∧ Below w.heap.size w w' := by
  have CL := fun (W : World) (_ : Below w.heap.size w W) => len23_nil W
  have HQ := Lib.hid (Bx.new (W := w) 28 #[.int .i64 0, .int .i64 0, .int .i64 0] rfl)
  have HB := Lib.hid (show Below w.heap.size w (w.alloc (.cells #[.int .i64 0, .int .i64 0, .int .i64 0] 28)) from b_al (Below.refl _ _) (Nat.le_refl _) _)
  go_enter Try.func8, Try.ntmps8
  go_wp2_with (go_at_call 10; refine (CL _ HB.out).mono ?_; rintro e w1 ⟨rfl, rfl⟩)
  refine bodyPost_ret (results_box2 Try.results8 _ _ w.heap.size 28 #[.int .i64 0, .int .i64 0, .int .i64 0] _ _ rfl HQ.out rfl Try.underlying28 rfl (by kernel_rfl)) rfl ⟨rfl, ?_⟩
  exact HB.out

theorem pop23_none {w : World} {g b : Nat} (h : Hs w g b []) : Calls Try.prog 8 #[.pointer (some ⟨g, 0, none⟩)] w fun e w' => e = .returned (.tuple #[itV rz, .bool false]) ∧ Below w.heap.size w w' := by
  have CL := fun (W : World) (hb : Below w.heap.size w W) => len23_any (h.below hb)
  have HQ := Lib.hid (Bx.new (W := w) 28 #[.int .i64 0, .int .i64 0, .int .i64 0] rfl)
  have HB := Lib.hid (show Below w.heap.size w (w.alloc (.cells #[.int .i64 0, .int .i64 0, .int .i64 0] 28)) from b_al (Below.refl _ _) (Nat.le_refl _) _)
  go_enter Try.func8, Try.ntmps8
  go_wp2_with (go_at_call 10; refine (CL _ HB.out).mono ?_; rintro e w1 ⟨rfl, rfl⟩)
  refine bodyPost_ret (results_box2 Try.results8 _ _ w.heap.size 28 #[.int .i64 0, .int .i64 0, .int .i64 0] _ _ rfl HQ.out rfl Try.underlying28 rfl (by kernel_rfl)) rfl ⟨rfl, ?_⟩
  exact HB.out

theorem peek23_some {w : World} {g b : Nat} {y : Rc} {s : List Rc} (h : Hs w g b (y :: s)) : Calls Try.prog 9 #[.pointer (some ⟨g, 0, none⟩)] w fun e w' => e = .returned (.tuple #[itV y, .bool true]) ∧ Below w.heap.size w w' := by
  have CL := fun (W : World) (hb : Below w.heap.size w W) => len23_any (h.below hb)
  have HB := Lib.hid (show Below w.heap.size w (w.alloc (.cells #[.int .i64 0, .int .i64 0, .int .i64 0] 28)) from b_al (Below.refl _ _) (Nat.le_refl _) _)
  obtain ⟨l, hp, hh, hs, hperm⟩ := h
  have e0 := head_is hh hs hperm
  have hl : 0 < l.length := by rw [← hperm.length_eq]; simp
  have hlen : ((y :: s).length : Int) = (s.length : Int) + 1 := by simp
  rw [hlen] at CL
  obtain ⟨c, h1, h2⟩ := hp.below HB.out
  obtain ⟨i0, i1, i2⟩ := h2.range hl
  have q0 := h1.cell (k := 0) rfl
  rw [e0] at i0 i1 i2
  obtain ⟨n, hn⟩ : ∃ n, l.length = n := ⟨_, rfl⟩
  obtain ⟨m, hm⟩ : ∃ m, s.length = m := ⟨_, rfl⟩
  rw [hn] at q0 hl
  rw [hm] at CL
  have e1 : ((m : Int) + 1 == 0) = false := by simp; omega
  obtain ⟨y0, y1, y2⟩ := y
  unfold itV
  simp only [Nat.zero_mul, Nat.zero_add] at i0 i1 i2 ⊢
  clear h1 h2 hp hh hs hperm e0 hn hm hlen
  go_enter Try.func9, Try.ntmps9
  go_wp2_with (go_at_call 10; refine (CL _ HB.out).mono ?_; rintro e w1 ⟨rfl, rfl⟩)
  refine bodyPost_ret (results_box2 Try.results9 _ _ w.heap.size 28 #[.int .i64 y0, .int .i64 y1, .int .i64 y2] _ _ rfl (Bx.new (W := w) _ _ rfl) rfl Try.underlying28 rfl (by kernel_rfl)) rfl ⟨rfl, ?_⟩
  exact b_al (Below.refl _ _) (Nat.le_refl _) _

set_option maxHeartbeats 1600000 in
theorem pop23_some {w : World} {g b : Nat} {y : Rc} {s : List Rc} (h : Hs w g b (y :: s)) (hl : s.length < 1000000000000) : Calls Try.prog 8 #[.pointer (some ⟨g, 0, none⟩)] w fun e w' => e = .returned (.tuple #[itV y, .bool true]) ∧ Hs w' g b s ∧ Mv w g b b w' := by
  have CL := fun (W : World) (hb : Below w.heap.size w W) => len23_any (h.below hb)
  have HQ := Lib.hid (Bx.new (W := w) 28 #[.int .i64 0, .int .i64 0, .int .i64 0] rfl)
  have HB := Lib.hid (show Below w.heap.size w (w.alloc (.cells #[.int .i64 0, .int .i64 0, .int .i64 0] 28)) from b_al (Below.refl _ _) (Nat.le_refl _) _)
  have hlt := h.lt
  obtain ⟨l, hp, hh, hs, hperm⟩ := h
  have e0 := head_is hh hs hperm
  have hlen : ((y :: s).length : Int) = (s.length : Int) + 1 := by simp
  rw [hlen] at CL
  have hm : l.length = s.length + 1 := by rw [← hperm.length_eq]; simp
  have CP := hpop23_any (hp.below HB.out) hm (by omega) hh
  rw [e0] at CP
  obtain ⟨m, hsm⟩ : ∃ m, s.length = m := ⟨_, rfl⟩
  rw [hsm] at CL
  have e1 : ((m : Int) + 1 == 0) = false := by simp; omega
  have HP := Lib.hid hperm
  have HS := Lib.hid hs
  have as_ := as_item
  obtain ⟨y0, y1, y2⟩ := y
  unfold itV plV at *
  simp only at CP ⊢
  clear hp hh hs hperm e0 hm hlen hsm hl
  go_enter Try.func8, Try.ntmps8
  go_wp2_with (first
    | (go_at_call 10; refine (CL _ HB.out).mono ?_; rintro e w1 ⟨rfl, rfl⟩)
    | (go_at_call 18; refine CP.mono ?_; rintro e w2 ⟨rfl, o, p1, p2, p3, p4⟩; have P1 := Lib.hid p1; have P2 := Lib.hid p2; have P3 := Lib.hid p3; have P4 := Lib.hid p4; have HQ2 := Lib.hid (p4.bx HQ.out (by omega) (by omega)); have lq := HQ2.out.lt; clear p1 p2 p3 p4)
    | (refine wpList_store_box (by rfl) 28 _ _ rfl w.heap.size #[.int .i64 y0, .int .i64 y1, .int .i64 y2] rfl rfl 28 _ (HQ2.out.alloc _) (by kernel_rfl) rfl (one_cells3 y0 y1 y2) (fun w5 u5 => ?_)))
  refine bodyPost_ret (results_box2 Try.results8 _ _ w.heap.size 28 #[.int .i64 y0, .int .i64 y1, .int .i64 y2] _ _ rfl u5.box rfl Try.underlying28 rfl (by kernel_rfl)) rfl ⟨rfl, ?_⟩
  have hb5 : Below w2.heap.size w2 (w2.alloc (.cells #[.int .i64 y0, .int .i64 y1, .int .i64 y2] 28)) := b_al (Below.refl _ _) (Nat.le_refl _) _
  have hs5 : Hs (w2.alloc (.cells #[.int .i64 y0, .int .i64 y1, .int .i64 y2] 28)) g b s := Hs.below ⟨o, P3.out, P2.out, HS.out.tail, List.Perm.cons_inv (HP.out.trans P1.out.symm)⟩ hb5
  refine ⟨hs5.upd u5 (by omega) (by omega), ?_⟩
  have m2 := ((Mv.of_below HB.out).trans P4.out).below hb5
  refine ⟨Nat.le_trans m2.size (by rw [u5.size]; exact Nat.le_refl _), fun k k1 k2 k3 => (u5.other k (by omega)).trans (m2.other k k1 k2 k3), fun n n1 n2 n3 => (m2.bel n n1 n2 n3).trans (u5.bel n n3), .inl rfl⟩

end Go.Proofs.Ytpfmkggnnilknaa
