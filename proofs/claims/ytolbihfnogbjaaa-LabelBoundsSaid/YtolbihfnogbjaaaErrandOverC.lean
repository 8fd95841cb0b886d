/- What Over of layer 19 returns. Conditions: the tasks can be read. -/
import Derived.Test.YtolbihfnogbjaaaRows
import Derived.Test.YtolbihfnogbjaaaBase
import Derived.Test.YtolbihfnogbjaaaZ2
import Derived.Test.YtolbihfnogbjaaaZ3
import Derived.Test.YtolbihfnogbjaaaZ1
import Derived.Test.YtolbihfnogbjaaaErrandLeaf
import Derived.Test.YtolbihfnogbjaaaErrandChk
import Derived.Test.YtolbihfnogbjaaaZ7
import Derived.Test.YtolbihfnogbjaaaErrandFits
import Derived.Test.YtolbihfnogbjaaaErrandSpot
import Derived.Test.YtolbihfnogbjaaaErrandDrive
import Derived.Test.YtolbihfnogbjaaaErrandWork
import Derived.WalkKit
import Derived.WalkSpells
import Derived.WalkSmall
import Derived.Below
import Derived.Lib.Hide
import Derived.Outline
import Derived.Deep.DeepCutAuto
import Derived.OwnWalk
import Derived.BigQuiet
import Derived.Deep.QuietTactic
import Derived.Deep.LoopGhost
import Derived.WalkMore
import Derived.OrdersHeld
import Derived.Deep.RegionHeld3
namespace Go.Proofs.Ytolbihfnogbjaaa
open Go.RowKit

/-- Four first minutes' cells. -/
def fs4 (f : Fs) : Array Value := #[.int .i64 f.1, .int .i64 f.2.1, .int .i64 f.2.2.1, .int .i64 f.2.2.2]
theorem one4 (a b c d : Int) : (#[.int .i64 a, .int .i64 b, .int .i64 c, .int .i64 d] : Array Value).all (·.oneCell') = true := by simp [Value.oneCell']
theorem wk_spot {A : Option Addr} {n c g : Nat} {i x y f0 f1 f2 f3 : Int} {w : World} {t : TypeId} (h : Bx w g t (wk A n c (i, x, y) f0 f1 f2 f3)) : w.rangeAt g 1 (#[.int .i64 i, .int .i64 x, .int .i64 y] : Array Value).toList := fun j v hj => by
  match j, hj with
  | 0, hj => simp at hj; subst hj; exact h.cell (k := 1) rfl
  | 1, hj => simp at hj; subst hj; exact h.cell (k := 2) rfl
  | 2, hj => simp at hj; subst hj; exact h.cell (k := 3) rfl
theorem wk_firsts {A : Option Addr} {n c g : Nat} {s : Pt} {f0 f1 f2 f3 : Int} {w : World} {t : TypeId} (h : Bx w g t (wk A n c s f0 f1 f2 f3)) : w.rangeAt g 4 (#[.int .i64 f0, .int .i64 f1, .int .i64 f2, .int .i64 f3] : Array Value).toList := fun j v hj => by
  match j, hj with
  | 0, hj => simp at hj; subst hj; exact h.cell (k := 4) rfl
  | 1, hj => simp at hj; subst hj; exact h.cell (k := 5) rfl
  | 2, hj => simp at hj; subst hj; exact h.cell (k := 6) rfl
  | 3, hj => simp at hj; subst hj; exact h.cell (k := 7) rfl

set_option maxRecDepth 20000 in
set_option maxHeartbeats 2000000 in
theorem over19_any (A : Option Addr) (n c : Nat) (l : List Tk) (hn : l.length = n) (i x y k a b : Int) (w : World) (h : RdK w A l) (hf : Few l) (hx : -9223372036854775808 ≤ x ∧ x ≤ 9223372036854775807) (hy : -9223372036854775808 ≤ y ∧ y ≤ 9223372036854775807) :
    Calls Try.prog 53 #[.slice A n c, .agg #[.int .i64 i, .int .i64 x, .int .i64 y], .agg #[.int .i64 k, .int .i64 a, .int .i64 b]] w fun e w' => e = .returned (.tuple #[.agg (sp3 (overK l (i, x, y) k a b).1), .agg (fs4 (overK l (i, x, y) k a b).2.1), .int .i64 (overK l (i, x, y) k a b).2.2]) ∧ Below w.heap.size w w' := by
  have CS := fun W (h : RdK W A l) => spot19_any A n c l hn i x y W h hf hx hy
  have HK := Lib.hid h
  by_cases c0 : spotV l (i, x, y) = 0
  case neg =>
    obtain ⟨e0, he⟩ : ∃ e0, spotV l (i, x, y) = e0 := ⟨_, rfl⟩
    rw [he] at CS c0
    rw [over_spot he c0]
    have hne : (e0 != 0) = true := by simp [c0]
    clear he c0 h hf hn hx hy
    have S0 : Bx ((((w.alloc (.cells #[.int .i64 i, .int .i64 x, .int .i64 y] 28)).alloc (.cells #[.int .i64 k, .int .i64 a, .int .i64 b] 117)).alloc (.cells #[.int .i64 0, .int .i64 0, .int .i64 0] 28)).alloc (.cells #[.int .i64 0, .int .i64 0, .int .i64 0, .int .i64 0] 113)) (w.heap.size) 28 #[.int .i64 i, .int .i64 x, .int .i64 y] := (((Bx.new (W := w) _ _ rfl).alloc _).alloc _).alloc _
    have R0 : Bx ((((w.alloc (.cells #[.int .i64 i, .int .i64 x, .int .i64 y] 28)).alloc (.cells #[.int .i64 k, .int .i64 a, .int .i64 b] 117)).alloc (.cells #[.int .i64 0, .int .i64 0, .int .i64 0] 28)).alloc (.cells #[.int .i64 0, .int .i64 0, .int .i64 0, .int .i64 0] 113)) (w.heap.size + 1) 117 #[.int .i64 k, .int .i64 a, .int .i64 b] := ((Bx.new (W := w.alloc (.cells #[.int .i64 i, .int .i64 x, .int .i64 y] 28)) _ _ (by simp)).alloc _).alloc _
    have P0 : Bx ((((w.alloc (.cells #[.int .i64 i, .int .i64 x, .int .i64 y] 28)).alloc (.cells #[.int .i64 k, .int .i64 a, .int .i64 b] 117)).alloc (.cells #[.int .i64 0, .int .i64 0, .int .i64 0] 28)).alloc (.cells #[.int .i64 0, .int .i64 0, .int .i64 0, .int .i64 0] 113)) (w.heap.size + 1 + 1) 28 #[.int .i64 0, .int .i64 0, .int .i64 0] := (Bx.new (W := (w.alloc (.cells #[.int .i64 i, .int .i64 x, .int .i64 y] 28)).alloc (.cells #[.int .i64 k, .int .i64 a, .int .i64 b] 117)) _ _ (by simp)).alloc _
    have Q0 : Bx ((((w.alloc (.cells #[.int .i64 i, .int .i64 x, .int .i64 y] 28)).alloc (.cells #[.int .i64 k, .int .i64 a, .int .i64 b] 117)).alloc (.cells #[.int .i64 0, .int .i64 0, .int .i64 0] 28)).alloc (.cells #[.int .i64 0, .int .i64 0, .int .i64 0, .int .i64 0] 113)) (w.heap.size + 1 + 1 + 1) 113 #[.int .i64 0, .int .i64 0, .int .i64 0, .int .i64 0] := Bx.new (W := ((w.alloc (.cells #[.int .i64 i, .int .i64 x, .int .i64 y] 28)).alloc (.cells #[.int .i64 k, .int .i64 a, .int .i64 b] 117)).alloc (.cells #[.int .i64 0, .int .i64 0, .int .i64 0] 28)) _ _ (by simp)
    have B0 : Below w.heap.size w ((((w.alloc (.cells #[.int .i64 i, .int .i64 x, .int .i64 y] 28)).alloc (.cells #[.int .i64 k, .int .i64 a, .int .i64 b] 117)).alloc (.cells #[.int .i64 0, .int .i64 0, .int .i64 0] 28)).alloc (.cells #[.int .i64 0, .int .i64 0, .int .i64 0, .int .i64 0] 113)) := by (repeat (first | exact Below.refl _ _ | (refine b_st ?_ (by first | (simp; done) | (simp; omega))) | (refine b_al ?_ (Nat.le_refl _) _) | refine b_dn ?_ | refine b_dr ?_ | (refine b_cl ?_ (Nat.le_refl _) (by assumption))))
    have HS0 := Lib.hid S0
    have HR0 := Lib.hid R0
    have HP0 := Lib.hid P0
    have HQ0 := Lib.hid Q0
    have HB0 := Lib.hid B0
    clear S0 R0 P0 Q0 B0
    go_enter Try.func53, Try.ntmps53
    go_wp2_with (first
      | (go_at_call 40; refine (CS _ (HK.out.below HB0.out)).mono ?_; rintro e w1 ⟨rfl, hb1⟩; have HS1 := Lib.hid (HS0.out.below hb1); have HR1 := Lib.hid (HR0.out.below hb1); have HP1 := Lib.hid (HP0.out.below hb1); have HQ1 := Lib.hid (HQ0.out.below hb1); have HB1 := Lib.hid (b_cl HB0.out (Nat.le_refl _) hb1); have lt1 := HQ1.out.lt; have lta1 : w.heap.size < w1.heap.size := (by omega); have ltb1 : w.heap.size + 1 < w1.heap.size := (by omega); have s0_1 := HS1.out.cell (k := 0) rfl; have s1_1 := HS1.out.cell (k := 1) rfl; have s2_1 := HS1.out.cell (k := 2) rfl; have r0_1 := HR1.out.cell (k := 0) rfl; have r1_1 := HR1.out.cell (k := 1) rfl; have r2_1 := HR1.out.cell (k := 2) rfl; clear hb1)
      | (refine wpList_store_box rfl 28 _ _ rfl (w.heap.size + 1 + 1) #[.int .i64 0, .int .i64 0, .int .i64 0] rfl rfl 28 #[.int .i64 0, .int .i64 0, .int .i64 0] HP1.out (by kernel_rfl) rfl (one3 _ _ _) (fun w8 u8 => ?_))
      | (refine wpList_store_box rfl 113 _ _ rfl (w.heap.size + 1 + 1 + 1) #[.int .i64 0, .int .i64 0, .int .i64 0, .int .i64 0] rfl rfl 113 #[.int .i64 0, .int .i64 0, .int .i64 0, .int .i64 0] (u8.bx HQ1.out (by omega)) (by kernel_rfl) rfl (one4 _ _ _ _) (fun w9 u9 => ?_)))
    refine bodyPost_ret (results_box22 Try.results53 _ _ (w.heap.size + 1 + 1) (w.heap.size + 1 + 1 + 1) 28 113 #[.int .i64 0, .int .i64 0, .int .i64 0] #[.int .i64 0, .int .i64 0, .int .i64 0, .int .i64 0] _ _ (.int .i64 e0) rfl (u9.bx u8.box (by omega)) rfl u9.box rfl Try.underlying28 rfl (by kernel_rfl) Try.underlying113 rfl (by kernel_rfl)) rfl ⟨rfl, ?_⟩
    exact (HB1.out.trans (u8.bel _ (by omega))).trans (u9.bel _ (by omega))
  have CR := fun W => record19_any k a b W
  rw [c0] at CS
  by_cases c1 : aloneV k a b = 0
  case neg =>
    obtain ⟨e0, he⟩ : ∃ e0, aloneV k a b = e0 := ⟨_, rfl⟩
    rw [he] at CR c1
    rw [over_rec c0 he c1]
    have hne : (e0 != 0) = true := by simp [c1]
    clear he c1 c0 h hf hn hx hy
    have S0 : Bx ((((w.alloc (.cells #[.int .i64 i, .int .i64 x, .int .i64 y] 28)).alloc (.cells #[.int .i64 k, .int .i64 a, .int .i64 b] 117)).alloc (.cells #[.int .i64 0, .int .i64 0, .int .i64 0] 28)).alloc (.cells #[.int .i64 0, .int .i64 0, .int .i64 0, .int .i64 0] 113)) (w.heap.size) 28 #[.int .i64 i, .int .i64 x, .int .i64 y] := (((Bx.new (W := w) _ _ rfl).alloc _).alloc _).alloc _
    have R0 : Bx ((((w.alloc (.cells #[.int .i64 i, .int .i64 x, .int .i64 y] 28)).alloc (.cells #[.int .i64 k, .int .i64 a, .int .i64 b] 117)).alloc (.cells #[.int .i64 0, .int .i64 0, .int .i64 0] 28)).alloc (.cells #[.int .i64 0, .int .i64 0, .int .i64 0, .int .i64 0] 113)) (w.heap.size + 1) 117 #[.int .i64 k, .int .i64 a, .int .i64 b] := ((Bx.new (W := w.alloc (.cells #[.int .i64 i, .int .i64 x, .int .i64 y] 28)) _ _ (by simp)).alloc _).alloc _
    have P0 : Bx ((((w.alloc (.cells #[.int .i64 i, .int .i64 x, .int .i64 y] 28)).alloc (.cells #[.int .i64 k, .int .i64 a, .int .i64 b] 117)).alloc (.cells #[.int .i64 0, .int .i64 0, .int .i64 0] 28)).alloc (.cells #[.int .i64 0, .int .i64 0, .int .i64 0, .int .i64 0] 113)) (w.heap.size + 1 + 1) 28 #[.int .i64 0, .int .i64 0, .int .i64 0] := (Bx.new (W := (w.alloc (.cells #[.int .i64 i, .int .i64 x, .int .i64 y] 28)).alloc (.cells #[.int .i64 k, .int .i64 a, .int .i64 b] 117)) _ _ (by simp)).alloc _
    have Q0 : Bx ((((w.alloc (.cells #[.int .i64 i, .int .i64 x, .int .i64 y] 28)).alloc (.cells #[.int .i64 k, .int .i64 a, .int .i64 b] 117)).alloc (.cells #[.int .i64 0, .int .i64 0, .int .i64 0] 28)).alloc (.cells #[.int .i64 0, .int .i64 0, .int .i64 0, .int .i64 0] 113)) (w.heap.size + 1 + 1 + 1) 113 #[.int .i64 0, .int .i64 0, .int .i64 0, .int .i64 0] := Bx.new (W := ((w.alloc (.cells #[.int .i64 i, .int .i64 x, .int .i64 y] 28)).alloc (.cells #[.int .i64 k, .int .i64 a, .int .i64 b] 117)).alloc (.cells #[.int .i64 0, .int .i64 0, .int .i64 0] 28)) _ _ (by simp)
    have B0 : Below w.heap.size w ((((w.alloc (.cells #[.int .i64 i, .int .i64 x, .int .i64 y] 28)).alloc (.cells #[.int .i64 k, .int .i64 a, .int .i64 b] 117)).alloc (.cells #[.int .i64 0, .int .i64 0, .int .i64 0] 28)).alloc (.cells #[.int .i64 0, .int .i64 0, .int .i64 0, .int .i64 0] 113)) := by (repeat (first | exact Below.refl _ _ | (refine b_st ?_ (by first | (simp; done) | (simp; omega))) | (refine b_al ?_ (Nat.le_refl _) _) | refine b_dn ?_ | refine b_dr ?_ | (refine b_cl ?_ (Nat.le_refl _) (by assumption))))
    have HS0 := Lib.hid S0
    have HR0 := Lib.hid R0
    have HP0 := Lib.hid P0
    have HQ0 := Lib.hid Q0
    have HB0 := Lib.hid B0
    clear S0 R0 P0 Q0 B0
    go_enter Try.func53, Try.ntmps53
    go_wp2_with (first
      | (go_at_call 40; refine (CS _ (HK.out.below HB0.out)).mono ?_; rintro e w1 ⟨rfl, hb1⟩; have HS1 := Lib.hid (HS0.out.below hb1); have HR1 := Lib.hid (HR0.out.below hb1); have HP1 := Lib.hid (HP0.out.below hb1); have HQ1 := Lib.hid (HQ0.out.below hb1); have HB1 := Lib.hid (b_cl HB0.out (Nat.le_refl _) hb1); have lt1 := HQ1.out.lt; have lta1 : w.heap.size < w1.heap.size := (by omega); have ltb1 : w.heap.size + 1 < w1.heap.size := (by omega); have s0_1 := HS1.out.cell (k := 0) rfl; have s1_1 := HS1.out.cell (k := 1) rfl; have s2_1 := HS1.out.cell (k := 2) rfl; have r0_1 := HR1.out.cell (k := 0) rfl; have r1_1 := HR1.out.cell (k := 1) rfl; have r2_1 := HR1.out.cell (k := 2) rfl; clear hb1)
      | (go_at_call 58; refine (CR _).mono ?_; rintro e w2 ⟨rfl, hb2⟩; have HS2 := Lib.hid (HS1.out.below hb2); have HR2 := Lib.hid (HR1.out.below hb2); have HP2 := Lib.hid (HP1.out.below hb2); have HQ2 := Lib.hid (HQ1.out.below hb2); have HB2 := Lib.hid (b_cl HB1.out (Nat.le_refl _) hb2); have lt2 := HQ2.out.lt; have lta2 : w.heap.size < w2.heap.size := (by omega); have ltb2 : w.heap.size + 1 < w2.heap.size := (by omega); have s0_2 := HS2.out.cell (k := 0) rfl; have s1_2 := HS2.out.cell (k := 1) rfl; have s2_2 := HS2.out.cell (k := 2) rfl; have r0_2 := HR2.out.cell (k := 0) rfl; have r1_2 := HR2.out.cell (k := 1) rfl; have r2_2 := HR2.out.cell (k := 2) rfl; clear hb2)
      | (refine wpList_store_box rfl 28 _ _ rfl (w.heap.size + 1 + 1) #[.int .i64 0, .int .i64 0, .int .i64 0] rfl rfl 28 #[.int .i64 0, .int .i64 0, .int .i64 0] HP2.out (by kernel_rfl) rfl (one3 _ _ _) (fun w8 u8 => ?_))
      | (refine wpList_store_box rfl 113 _ _ rfl (w.heap.size + 1 + 1 + 1) #[.int .i64 0, .int .i64 0, .int .i64 0, .int .i64 0] rfl rfl 113 #[.int .i64 0, .int .i64 0, .int .i64 0, .int .i64 0] (u8.bx HQ2.out (by omega)) (by kernel_rfl) rfl (one4 _ _ _ _) (fun w9 u9 => ?_)))
    refine bodyPost_ret (results_box22 Try.results53 _ _ (w.heap.size + 1 + 1) (w.heap.size + 1 + 1 + 1) 28 113 #[.int .i64 0, .int .i64 0, .int .i64 0] #[.int .i64 0, .int .i64 0, .int .i64 0, .int .i64 0] _ _ (.int .i64 e0) rfl (u9.bx u8.box (by omega)) rfl u9.box rfl Try.underlying28 rfl (by kernel_rfl) Try.underlying113 rfl (by kernel_rfl)) rfl ⟨rfl, ?_⟩
    exact (HB2.out.trans (u8.bel _ (by omega))).trans (u9.bel _ (by omega))
  rw [c1] at CR
  obtain ⟨ck, fit⟩ := spot_zero c0
  obtain ⟨ok, hl⟩ := checkt_zero ck
  obtain ⟨⟨k0, k1⟩, a0, ab, b0⟩ := alone_zero.1 c1
  rw [hn] at hl
  have HN := Lib.hid hn
  have HFT := Lib.hid fit
  have HOK := Lib.hid ok
  have HFW := Lib.hid hf
  obtain ⟨⟨⟨i2, x2, y2⟩, e0, e1, e2, e3⟩, hR⟩ : ∃ R, runK l k (b - a).toNat a ((i, x, y), -1, -1, -1, -1) = R := ⟨_, rfl⟩
  rw [over_ok c0 c1 hR]
  unfold sp3 fs4
  simp only
  have HR := Lib.hid hR
  obtain ⟨r, hr⟩ : ∃ r : Nat, (b - a).toNat = r + 1 := ⟨(b - a).toNat - 1, by omega⟩
  have HP := Lib.hid (runK_pre l k r a (i, x, y) (-1) (-1) (-1) (-1))
  have Hr := Lib.hid hr
  clear hR ok fit ck c0 c1 h hf hn hx hy hr
  by_cases k3 : k = 3
  case pos =>
    subst k3
    by_cases hy : 0 < y
    · have hy' := hy
      have HE := Lib.hid (show runK l 3 (b - a).toNat a ((i, x, y), -1, -1, -1, noteF (-1) true a) = ((i2, x2, y2), e0, e1, e2, e3) by
        have e : b3 (i, x, y) 3 = true := decide_eq_true ⟨hy, by first | decide | assumption⟩
        have h1 := HP.out
        rw [e] at h1
        rw [Hr.out, h1, ← Hr.out, HR.out])
      clear HP HR Hr
      have S0 : Bx ((((w.alloc (.cells #[.int .i64 i, .int .i64 x, .int .i64 y] 28)).alloc (.cells #[.int .i64 3, .int .i64 a, .int .i64 b] 117)).alloc (.cells #[.int .i64 0, .int .i64 0, .int .i64 0] 28)).alloc (.cells #[.int .i64 0, .int .i64 0, .int .i64 0, .int .i64 0] 113)) (w.heap.size) 28 #[.int .i64 i, .int .i64 x, .int .i64 y] := (((Bx.new (W := w) _ _ rfl).alloc _).alloc _).alloc _
      have R0 : Bx ((((w.alloc (.cells #[.int .i64 i, .int .i64 x, .int .i64 y] 28)).alloc (.cells #[.int .i64 3, .int .i64 a, .int .i64 b] 117)).alloc (.cells #[.int .i64 0, .int .i64 0, .int .i64 0] 28)).alloc (.cells #[.int .i64 0, .int .i64 0, .int .i64 0, .int .i64 0] 113)) (w.heap.size + 1) 117 #[.int .i64 3, .int .i64 a, .int .i64 b] := ((Bx.new (W := w.alloc (.cells #[.int .i64 i, .int .i64 x, .int .i64 y] 28)) _ _ (by simp)).alloc _).alloc _
      have P0 : Bx ((((w.alloc (.cells #[.int .i64 i, .int .i64 x, .int .i64 y] 28)).alloc (.cells #[.int .i64 3, .int .i64 a, .int .i64 b] 117)).alloc (.cells #[.int .i64 0, .int .i64 0, .int .i64 0] 28)).alloc (.cells #[.int .i64 0, .int .i64 0, .int .i64 0, .int .i64 0] 113)) (w.heap.size + 1 + 1) 28 #[.int .i64 0, .int .i64 0, .int .i64 0] := (Bx.new (W := (w.alloc (.cells #[.int .i64 i, .int .i64 x, .int .i64 y] 28)).alloc (.cells #[.int .i64 3, .int .i64 a, .int .i64 b] 117)) _ _ (by simp)).alloc _
      have Q0 : Bx ((((w.alloc (.cells #[.int .i64 i, .int .i64 x, .int .i64 y] 28)).alloc (.cells #[.int .i64 3, .int .i64 a, .int .i64 b] 117)).alloc (.cells #[.int .i64 0, .int .i64 0, .int .i64 0] 28)).alloc (.cells #[.int .i64 0, .int .i64 0, .int .i64 0, .int .i64 0] 113)) (w.heap.size + 1 + 1 + 1) 113 #[.int .i64 0, .int .i64 0, .int .i64 0, .int .i64 0] := Bx.new (W := ((w.alloc (.cells #[.int .i64 i, .int .i64 x, .int .i64 y] 28)).alloc (.cells #[.int .i64 3, .int .i64 a, .int .i64 b] 117)).alloc (.cells #[.int .i64 0, .int .i64 0, .int .i64 0] 28)) _ _ (by simp)
      have B0 : Below w.heap.size w ((((w.alloc (.cells #[.int .i64 i, .int .i64 x, .int .i64 y] 28)).alloc (.cells #[.int .i64 3, .int .i64 a, .int .i64 b] 117)).alloc (.cells #[.int .i64 0, .int .i64 0, .int .i64 0] 28)).alloc (.cells #[.int .i64 0, .int .i64 0, .int .i64 0, .int .i64 0] 113)) := by (repeat (first | exact Below.refl _ _ | (refine b_st ?_ (by first | (simp; done) | (simp; omega))) | (refine b_al ?_ (Nat.le_refl _) _) | refine b_dn ?_ | refine b_dr ?_ | (refine b_cl ?_ (Nat.le_refl _) (by assumption))))
      have HS0 := Lib.hid S0
      have HR0 := Lib.hid R0
      have HP0 := Lib.hid P0
      have HQ0 := Lib.hid Q0
      have HB0 := Lib.hid B0
      clear S0 R0 P0 Q0 B0
      go_enter Try.func53, Try.ntmps53
      go_upto_region 15 with (first
        | (go_at_call 40; refine (CS _ (HK.out.below HB0.out)).mono ?_; rintro e w1 ⟨rfl, hb1⟩; have HS1 := Lib.hid (HS0.out.below hb1); have HR1 := Lib.hid (HR0.out.below hb1); have HP1 := Lib.hid (HP0.out.below hb1); have HQ1 := Lib.hid (HQ0.out.below hb1); have HB1 := Lib.hid (b_cl HB0.out (Nat.le_refl _) hb1); have lt1 := HQ1.out.lt; have lta1 : w.heap.size < w1.heap.size := (by omega); have ltb1 : w.heap.size + 1 < w1.heap.size := (by omega); have s0_1 := HS1.out.cell (k := 0) rfl; have s1_1 := HS1.out.cell (k := 1) rfl; have s2_1 := HS1.out.cell (k := 2) rfl; have r0_1 := HR1.out.cell (k := 0) rfl; have r1_1 := HR1.out.cell (k := 1) rfl; have r2_1 := HR1.out.cell (k := 2) rfl; clear hb1)
        | (go_at_call 58; refine (CR _).mono ?_; rintro e w2 ⟨rfl, hb2⟩; have HS2 := Lib.hid (HS1.out.below hb2); have HR2 := Lib.hid (HR1.out.below hb2); have HP2 := Lib.hid (HP1.out.below hb2); have HQ2 := Lib.hid (HQ1.out.below hb2); have HB2 := Lib.hid (b_cl HB1.out (Nat.le_refl _) hb2); have lt2 := HQ2.out.lt; have lta2 : w.heap.size < w2.heap.size := (by omega); have ltb2 : w.heap.size + 1 < w2.heap.size := (by omega); have s0_2 := HS2.out.cell (k := 0) rfl; have s1_2 := HS2.out.cell (k := 1) rfl; have s2_2 := HS2.out.cell (k := 2) rfl; have r0_2 := HR2.out.cell (k := 0) rfl; have r1_2 := HR2.out.cell (k := 1) rfl; have r2_2 := HR2.out.cell (k := 2) rfl; clear hb2)
        | (go_at_call 59; refine (breaks19_3 w2.heap.size A n c (i, x, y) (-1) (-1) (-1) (-1) a _ (Bx.new (W := w2) 123 (wk A n c (i, x, y) (-1) (-1) (-1) (-1)) rfl)).mono ?_; rintro e w4 ⟨rfl, u4⟩; have lq2 := HQ2.out.lt; have X4 := Lib.hid u4.box; have HK4 := Lib.hid (show RdKn w.heap.size w4 A l from ((RdKn.of HK.out).below (b_al HB2.out (Nat.le_refl _) _)).below (u4.bel _ HB2.out.size)); have s0_4 := (u4.bx (HS2.out.alloc _) (by omega)).cell (k := 0) rfl; have r0_4 := (u4.bx (HR2.out.alloc _) (by omega)).cell (k := 0) rfl; have r1_4 := (u4.bx (HR2.out.alloc _) (by omega)).cell (k := 1) rfl; have r2_4 := (u4.bx (HR2.out.alloc _) (by omega)).cell (k := 2) rfl; have PW := Lib.hid (u4.bx (HP2.out.alloc _) (by omega)); have QW := Lib.hid (u4.bx (HQ2.out.alloc _) (by omega)); have BW := Lib.hid ((b_al HB2.out (Nat.le_refl _) _).trans (u4.bel _ HB2.out.size)); have l4 := u4.box.lt; clear u4)
        | (go_at_call 60; refine (drive19_any w.heap.size w2.heap.size A n c l HN.out (i, x, y) (-1) (-1) (-1) (noteF (-1) true a) a b _ X4.out HK4.out HB2.out.size hl HOK.out HFT.out a0 (by omega) b0 (fun _ => note_set a0)).mono ?_; rintro e w5 ⟨rfl, c5⟩; rw [HE.out] at c5; have lq2 := HQ2.out.lt; have CB := Lib.hid c5.box; have PW := Lib.hid (c5.bx PW.out (by omega)); have QW := Lib.hid (c5.bx QW.out (by omega)); have BW := Lib.hid (BW.out.trans (c5.bel _ HB2.out.size BW.out.size)); clear c5))
      refine wp_region_noPanic ?_
      refine wp_region_held_drew (S := fun w' => Bx w' w2.heap.size 123 (wk A n c (i2, x2, y2) e0 e1 e2 e3)) (by kernel_rfl) ?_ (fun hHeld => ?_)
      · exact CB.out.drew
      refine wpAnyH_take (i := 0) (oi := ⟨some 58, _, _, _, _, _⟩) (v := ?_) rfl (by kernel_rfl) (by kernel_rfl) (by kernel_rfl) (fun _ _ _ h => h) (Or.inl ⟨by rfl, ?_⟩) (by assumption) ?_
      rotate_left
      · (intro w' hSw; clear hSw; go_simp; try (with_reducible rfl))
      (try simp only [Act.put, List.setIfInBounds_toArray, List.set_cons_zero, List.set_cons_succ])
      refine wpAnyH_take (i := 1) (oi := ⟨some 59, _, _, _, _, _⟩) (v := .agg #[.int .i64 i2, .int .i64 x2, .int .i64 y2]) rfl (by kernel_rfl) (by kernel_rfl) (by kernel_rfl) (fun _ _ _ h => h) (Or.inl ⟨by rfl, fun w' hSw => exec_load_mid w2.heap.size 1 #[.int .i64 i2, .int .i64 x2, .int .i64 y2] _ w' rfl rfl (wk_spot hSw) Try.underlying28 rfl (by kernel_rfl)⟩) (by assumption) ?_
      (try simp only [Act.put, List.setIfInBounds_toArray, List.set_cons_zero, List.set_cons_succ])
      refine wpAnyH_take (i := 2) (oi := ⟨some 60, _, _, _, _, _⟩) (v := ?_) rfl (by kernel_rfl) (by kernel_rfl) (by kernel_rfl) (fun _ _ _ h => h) (Or.inl ⟨by rfl, ?_⟩) (by assumption) ?_
      rotate_left
      · (intro w' hSw; clear hSw; go_simp; try (with_reducible rfl))
      (try simp only [Act.put, List.setIfInBounds_toArray, List.set_cons_zero, List.set_cons_succ])
      refine wpAnyH_take (i := 3) (oi := ⟨some 61, _, _, _, _, _⟩) (v := .agg #[.int .i64 e0, .int .i64 e1, .int .i64 e2, .int .i64 e3]) rfl (by kernel_rfl) (by kernel_rfl) (by kernel_rfl) (fun _ _ _ h => h) (Or.inl ⟨by rfl, fun w' hSw => exec_load_mid w2.heap.size 4 #[.int .i64 e0, .int .i64 e1, .int .i64 e2, .int .i64 e3] _ w' rfl rfl (wk_firsts hSw) Try.underlying113 rfl (by kernel_rfl)⟩) (by assumption) ?_
      (try simp only [Act.put, List.setIfInBounds_toArray, List.set_cons_zero, List.set_cons_succ])
      refine wpAnyH_ready (rs := [4]) (by kernel_rfl) (by simp) ?_
      refine AllReadyH.cons (o := ⟨none, _, _, _, _, _⟩) rfl (fun K hK => ?_) AllReadyH.nil
      refine wp_store_any 28 _ _ rfl (w.heap.size + 1 + 1) #[.int .i64 i2, .int .i64 x2, .int .i64 y2] rfl rfl 28 #[.int .i64 0, .int .i64 0, .int .i64 0] PW.out.drew (by kernel_rfl) rfl (one3 _ _ _) (fun w8 u => ?_)
      refine hK.out _ _ (u.bx CB.out.drew (by omega)) (fun hHeld => ?_)
      clear hK K
      (try simp only [Act.put])
      refine wpAnyH_ready (rs := [5]) (by kernel_rfl) (by simp) ?_
      refine AllReadyH.cons (o := ⟨none, _, _, _, _, _⟩) rfl (fun K hK => ?_) AllReadyH.nil
      refine wp_store_any 113 _ _ rfl (w.heap.size + 1 + 1 + 1) #[.int .i64 e0, .int .i64 e1, .int .i64 e2, .int .i64 e3] rfl rfl 113 #[.int .i64 0, .int .i64 0, .int .i64 0, .int .i64 0] (u.bx QW.out.drew (by omega)) (by kernel_rfl) rfl (one4 _ _ _ _) (fun w9 u2 => ?_)
      refine hK.out _ _ (u2.bx hHeld (by omega)) (fun hHeld => ?_)
      clear hK K
      (try simp only [Act.put])
      refine wpAnyH_take (i := 6) (oi := ⟨some 8, _, _, _, _, _⟩) (v := ?_) rfl (by kernel_rfl) (by kernel_rfl) (by kernel_rfl) (fun _ _ _ h => h) (Or.inl ⟨by rfl, ?_⟩) (by assumption) ?_
      rotate_left
      · (intro w' hSw; clear hSw; go_simp; try (with_reducible rfl))
      (try simp only [Act.put, List.setIfInBounds_toArray, List.set_cons_zero, List.set_cons_succ])
      refine wpAnyH_done (by kernel_rfl) ?_ _
      refine NoPanic.normal ?_
      go_wp2_with fail
      refine bodyPost_ret (results_box22 Try.results53 _ _ (w.heap.size + 1 + 1) (w.heap.size + 1 + 1 + 1) 28 113 #[.int .i64 i2, .int .i64 x2, .int .i64 y2] #[.int .i64 e0, .int .i64 e1, .int .i64 e2, .int .i64 e3] _ _ (.int .i64 0) rfl (u2.bx u.box (by omega)) rfl u2.box rfl Try.underlying28 rfl (by kernel_rfl) Try.underlying113 rfl (by kernel_rfl)) rfl ⟨rfl, ?_⟩
      exact ((b_dr BW.out).trans (u.bel _ (by omega))).trans (u2.bel _ (by omega))
    · have hy' : y ≤ 0 := by omega
      clear hy
      have HE := HR
      clear HP HR Hr
      have S0 : Bx ((((w.alloc (.cells #[.int .i64 i, .int .i64 x, .int .i64 y] 28)).alloc (.cells #[.int .i64 3, .int .i64 a, .int .i64 b] 117)).alloc (.cells #[.int .i64 0, .int .i64 0, .int .i64 0] 28)).alloc (.cells #[.int .i64 0, .int .i64 0, .int .i64 0, .int .i64 0] 113)) (w.heap.size) 28 #[.int .i64 i, .int .i64 x, .int .i64 y] := (((Bx.new (W := w) _ _ rfl).alloc _).alloc _).alloc _
      have R0 : Bx ((((w.alloc (.cells #[.int .i64 i, .int .i64 x, .int .i64 y] 28)).alloc (.cells #[.int .i64 3, .int .i64 a, .int .i64 b] 117)).alloc (.cells #[.int .i64 0, .int .i64 0, .int .i64 0] 28)).alloc (.cells #[.int .i64 0, .int .i64 0, .int .i64 0, .int .i64 0] 113)) (w.heap.size + 1) 117 #[.int .i64 3, .int .i64 a, .int .i64 b] := ((Bx.new (W := w.alloc (.cells #[.int .i64 i, .int .i64 x, .int .i64 y] 28)) _ _ (by simp)).alloc _).alloc _
      have P0 : Bx ((((w.alloc (.cells #[.int .i64 i, .int .i64 x, .int .i64 y] 28)).alloc (.cells #[.int .i64 3, .int .i64 a, .int .i64 b] 117)).alloc (.cells #[.int .i64 0, .int .i64 0, .int .i64 0] 28)).alloc (.cells #[.int .i64 0, .int .i64 0, .int .i64 0, .int .i64 0] 113)) (w.heap.size + 1 + 1) 28 #[.int .i64 0, .int .i64 0, .int .i64 0] := (Bx.new (W := (w.alloc (.cells #[.int .i64 i, .int .i64 x, .int .i64 y] 28)).alloc (.cells #[.int .i64 3, .int .i64 a, .int .i64 b] 117)) _ _ (by simp)).alloc _
      have Q0 : Bx ((((w.alloc (.cells #[.int .i64 i, .int .i64 x, .int .i64 y] 28)).alloc (.cells #[.int .i64 3, .int .i64 a, .int .i64 b] 117)).alloc (.cells #[.int .i64 0, .int .i64 0, .int .i64 0] 28)).alloc (.cells #[.int .i64 0, .int .i64 0, .int .i64 0, .int .i64 0] 113)) (w.heap.size + 1 + 1 + 1) 113 #[.int .i64 0, .int .i64 0, .int .i64 0, .int .i64 0] := Bx.new (W := ((w.alloc (.cells #[.int .i64 i, .int .i64 x, .int .i64 y] 28)).alloc (.cells #[.int .i64 3, .int .i64 a, .int .i64 b] 117)).alloc (.cells #[.int .i64 0, .int .i64 0, .int .i64 0] 28)) _ _ (by simp)
      have B0 : Below w.heap.size w ((((w.alloc (.cells #[.int .i64 i, .int .i64 x, .int .i64 y] 28)).alloc (.cells #[.int .i64 3, .int .i64 a, .int .i64 b] 117)).alloc (.cells #[.int .i64 0, .int .i64 0, .int .i64 0] 28)).alloc (.cells #[.int .i64 0, .int .i64 0, .int .i64 0, .int .i64 0] 113)) := by (repeat (first | exact Below.refl _ _ | (refine b_st ?_ (by first | (simp; done) | (simp; omega))) | (refine b_al ?_ (Nat.le_refl _) _) | refine b_dn ?_ | refine b_dr ?_ | (refine b_cl ?_ (Nat.le_refl _) (by assumption))))
      have HS0 := Lib.hid S0
      have HR0 := Lib.hid R0
      have HP0 := Lib.hid P0
      have HQ0 := Lib.hid Q0
      have HB0 := Lib.hid B0
      clear S0 R0 P0 Q0 B0
      go_enter Try.func53, Try.ntmps53
      go_upto_region 15 with (first
        | (go_at_call 40; refine (CS _ (HK.out.below HB0.out)).mono ?_; rintro e w1 ⟨rfl, hb1⟩; have HS1 := Lib.hid (HS0.out.below hb1); have HR1 := Lib.hid (HR0.out.below hb1); have HP1 := Lib.hid (HP0.out.below hb1); have HQ1 := Lib.hid (HQ0.out.below hb1); have HB1 := Lib.hid (b_cl HB0.out (Nat.le_refl _) hb1); have lt1 := HQ1.out.lt; have lta1 : w.heap.size < w1.heap.size := (by omega); have ltb1 : w.heap.size + 1 < w1.heap.size := (by omega); have s0_1 := HS1.out.cell (k := 0) rfl; have s1_1 := HS1.out.cell (k := 1) rfl; have s2_1 := HS1.out.cell (k := 2) rfl; have r0_1 := HR1.out.cell (k := 0) rfl; have r1_1 := HR1.out.cell (k := 1) rfl; have r2_1 := HR1.out.cell (k := 2) rfl; clear hb1)
        | (go_at_call 58; refine (CR _).mono ?_; rintro e w2 ⟨rfl, hb2⟩; have HS2 := Lib.hid (HS1.out.below hb2); have HR2 := Lib.hid (HR1.out.below hb2); have HP2 := Lib.hid (HP1.out.below hb2); have HQ2 := Lib.hid (HQ1.out.below hb2); have HB2 := Lib.hid (b_cl HB1.out (Nat.le_refl _) hb2); have lt2 := HQ2.out.lt; have lta2 : w.heap.size < w2.heap.size := (by omega); have ltb2 : w.heap.size + 1 < w2.heap.size := (by omega); have s0_2 := HS2.out.cell (k := 0) rfl; have s1_2 := HS2.out.cell (k := 1) rfl; have s2_2 := HS2.out.cell (k := 2) rfl; have r0_2 := HR2.out.cell (k := 0) rfl; have r1_2 := HR2.out.cell (k := 1) rfl; have r2_2 := HR2.out.cell (k := 2) rfl; clear hb2)
        | (go_at_call 60; refine (drive19_any w.heap.size w2.heap.size A n c l HN.out (i, x, y) (-1) (-1) (-1) (-1) a b _ (Bx.new (W := w2) 123 (wk A n c (i, x, y) (-1) (-1) (-1) (-1)) rfl) ((RdKn.of HK.out).below (b_al HB2.out (Nat.le_refl _) _)) HB2.out.size hl HOK.out HFT.out a0 (by omega) b0 (fun h => absurd h (by simp only; omega))).mono ?_; rintro e w5 ⟨rfl, c5⟩; rw [HE.out] at c5; have lq2 := HQ2.out.lt; have CB := Lib.hid c5.box; have PW := Lib.hid (c5.bx (HP2.out.alloc _) (by omega)); have QW := Lib.hid (c5.bx (HQ2.out.alloc _) (by omega)); have BW := Lib.hid ((b_al HB2.out (Nat.le_refl _) _).trans (c5.bel _ HB2.out.size (b_al HB2.out (Nat.le_refl _) _).size)); clear c5))
      refine wp_region_noPanic ?_
      refine wp_region_held_drew (S := fun w' => Bx w' w2.heap.size 123 (wk A n c (i2, x2, y2) e0 e1 e2 e3)) (by kernel_rfl) ?_ (fun hHeld => ?_)
      · exact CB.out.drew
      refine wpAnyH_take (i := 0) (oi := ⟨some 58, _, _, _, _, _⟩) (v := ?_) rfl (by kernel_rfl) (by kernel_rfl) (by kernel_rfl) (fun _ _ _ h => h) (Or.inl ⟨by rfl, ?_⟩) (by assumption) ?_
      rotate_left
      · (intro w' hSw; clear hSw; go_simp; try (with_reducible rfl))
      (try simp only [Act.put, List.setIfInBounds_toArray, List.set_cons_zero, List.set_cons_succ])
      refine wpAnyH_take (i := 1) (oi := ⟨some 59, _, _, _, _, _⟩) (v := .agg #[.int .i64 i2, .int .i64 x2, .int .i64 y2]) rfl (by kernel_rfl) (by kernel_rfl) (by kernel_rfl) (fun _ _ _ h => h) (Or.inl ⟨by rfl, fun w' hSw => exec_load_mid w2.heap.size 1 #[.int .i64 i2, .int .i64 x2, .int .i64 y2] _ w' rfl rfl (wk_spot hSw) Try.underlying28 rfl (by kernel_rfl)⟩) (by assumption) ?_
      (try simp only [Act.put, List.setIfInBounds_toArray, List.set_cons_zero, List.set_cons_succ])
      refine wpAnyH_take (i := 2) (oi := ⟨some 60, _, _, _, _, _⟩) (v := ?_) rfl (by kernel_rfl) (by kernel_rfl) (by kernel_rfl) (fun _ _ _ h => h) (Or.inl ⟨by rfl, ?_⟩) (by assumption) ?_
      rotate_left
      · (intro w' hSw; clear hSw; go_simp; try (with_reducible rfl))
      (try simp only [Act.put, List.setIfInBounds_toArray, List.set_cons_zero, List.set_cons_succ])
      refine wpAnyH_take (i := 3) (oi := ⟨some 61, _, _, _, _, _⟩) (v := .agg #[.int .i64 e0, .int .i64 e1, .int .i64 e2, .int .i64 e3]) rfl (by kernel_rfl) (by kernel_rfl) (by kernel_rfl) (fun _ _ _ h => h) (Or.inl ⟨by rfl, fun w' hSw => exec_load_mid w2.heap.size 4 #[.int .i64 e0, .int .i64 e1, .int .i64 e2, .int .i64 e3] _ w' rfl rfl (wk_firsts hSw) Try.underlying113 rfl (by kernel_rfl)⟩) (by assumption) ?_
      (try simp only [Act.put, List.setIfInBounds_toArray, List.set_cons_zero, List.set_cons_succ])
      refine wpAnyH_ready (rs := [4]) (by kernel_rfl) (by simp) ?_
      refine AllReadyH.cons (o := ⟨none, _, _, _, _, _⟩) rfl (fun K hK => ?_) AllReadyH.nil
      refine wp_store_any 28 _ _ rfl (w.heap.size + 1 + 1) #[.int .i64 i2, .int .i64 x2, .int .i64 y2] rfl rfl 28 #[.int .i64 0, .int .i64 0, .int .i64 0] PW.out.drew (by kernel_rfl) rfl (one3 _ _ _) (fun w8 u => ?_)
      refine hK.out _ _ (u.bx CB.out.drew (by omega)) (fun hHeld => ?_)
      clear hK K
      (try simp only [Act.put])
      refine wpAnyH_ready (rs := [5]) (by kernel_rfl) (by simp) ?_
      refine AllReadyH.cons (o := ⟨none, _, _, _, _, _⟩) rfl (fun K hK => ?_) AllReadyH.nil
      refine wp_store_any 113 _ _ rfl (w.heap.size + 1 + 1 + 1) #[.int .i64 e0, .int .i64 e1, .int .i64 e2, .int .i64 e3] rfl rfl 113 #[.int .i64 0, .int .i64 0, .int .i64 0, .int .i64 0] (u.bx QW.out.drew (by omega)) (by kernel_rfl) rfl (one4 _ _ _ _) (fun w9 u2 => ?_)
      refine hK.out _ _ (u2.bx hHeld (by omega)) (fun hHeld => ?_)
      clear hK K
      (try simp only [Act.put])
      refine wpAnyH_take (i := 6) (oi := ⟨some 8, _, _, _, _, _⟩) (v := ?_) rfl (by kernel_rfl) (by kernel_rfl) (by kernel_rfl) (fun _ _ _ h => h) (Or.inl ⟨by rfl, ?_⟩) (by assumption) ?_
      rotate_left
      · (intro w' hSw; clear hSw; go_simp; try (with_reducible rfl))
      (try simp only [Act.put, List.setIfInBounds_toArray, List.set_cons_zero, List.set_cons_succ])
      refine wpAnyH_done (by kernel_rfl) ?_ _
      refine NoPanic.normal ?_
      go_wp2_with fail
      refine bodyPost_ret (results_box22 Try.results53 _ _ (w.heap.size + 1 + 1) (w.heap.size + 1 + 1 + 1) 28 113 #[.int .i64 i2, .int .i64 x2, .int .i64 y2] #[.int .i64 e0, .int .i64 e1, .int .i64 e2, .int .i64 e3] _ _ (.int .i64 0) rfl (u2.bx u.box (by omega)) rfl u2.box rfl Try.underlying28 rfl (by kernel_rfl) Try.underlying113 rfl (by kernel_rfl)) rfl ⟨rfl, ?_⟩
      exact ((b_dr BW.out).trans (u.bel _ (by omega))).trans (u2.bel _ (by omega))
  by_cases k2 : k = 2
  case pos =>
    subst k2
    have HE := HR
    clear HP HR Hr
    have S0 : Bx ((((w.alloc (.cells #[.int .i64 i, .int .i64 x, .int .i64 y] 28)).alloc (.cells #[.int .i64 2, .int .i64 a, .int .i64 b] 117)).alloc (.cells #[.int .i64 0, .int .i64 0, .int .i64 0] 28)).alloc (.cells #[.int .i64 0, .int .i64 0, .int .i64 0, .int .i64 0] 113)) (w.heap.size) 28 #[.int .i64 i, .int .i64 x, .int .i64 y] := (((Bx.new (W := w) _ _ rfl).alloc _).alloc _).alloc _
    have R0 : Bx ((((w.alloc (.cells #[.int .i64 i, .int .i64 x, .int .i64 y] 28)).alloc (.cells #[.int .i64 2, .int .i64 a, .int .i64 b] 117)).alloc (.cells #[.int .i64 0, .int .i64 0, .int .i64 0] 28)).alloc (.cells #[.int .i64 0, .int .i64 0, .int .i64 0, .int .i64 0] 113)) (w.heap.size + 1) 117 #[.int .i64 2, .int .i64 a, .int .i64 b] := ((Bx.new (W := w.alloc (.cells #[.int .i64 i, .int .i64 x, .int .i64 y] 28)) _ _ (by simp)).alloc _).alloc _
    have P0 : Bx ((((w.alloc (.cells #[.int .i64 i, .int .i64 x, .int .i64 y] 28)).alloc (.cells #[.int .i64 2, .int .i64 a, .int .i64 b] 117)).alloc (.cells #[.int .i64 0, .int .i64 0, .int .i64 0] 28)).alloc (.cells #[.int .i64 0, .int .i64 0, .int .i64 0, .int .i64 0] 113)) (w.heap.size + 1 + 1) 28 #[.int .i64 0, .int .i64 0, .int .i64 0] := (Bx.new (W := (w.alloc (.cells #[.int .i64 i, .int .i64 x, .int .i64 y] 28)).alloc (.cells #[.int .i64 2, .int .i64 a, .int .i64 b] 117)) _ _ (by simp)).alloc _
    have Q0 : Bx ((((w.alloc (.cells #[.int .i64 i, .int .i64 x, .int .i64 y] 28)).alloc (.cells #[.int .i64 2, .int .i64 a, .int .i64 b] 117)).alloc (.cells #[.int .i64 0, .int .i64 0, .int .i64 0] 28)).alloc (.cells #[.int .i64 0, .int .i64 0, .int .i64 0, .int .i64 0] 113)) (w.heap.size + 1 + 1 + 1) 113 #[.int .i64 0, .int .i64 0, .int .i64 0, .int .i64 0] := Bx.new (W := ((w.alloc (.cells #[.int .i64 i, .int .i64 x, .int .i64 y] 28)).alloc (.cells #[.int .i64 2, .int .i64 a, .int .i64 b] 117)).alloc (.cells #[.int .i64 0, .int .i64 0, .int .i64 0] 28)) _ _ (by simp)
    have B0 : Below w.heap.size w ((((w.alloc (.cells #[.int .i64 i, .int .i64 x, .int .i64 y] 28)).alloc (.cells #[.int .i64 2, .int .i64 a, .int .i64 b] 117)).alloc (.cells #[.int .i64 0, .int .i64 0, .int .i64 0] 28)).alloc (.cells #[.int .i64 0, .int .i64 0, .int .i64 0, .int .i64 0] 113)) := by (repeat (first | exact Below.refl _ _ | (refine b_st ?_ (by first | (simp; done) | (simp; omega))) | (refine b_al ?_ (Nat.le_refl _) _) | refine b_dn ?_ | refine b_dr ?_ | (refine b_cl ?_ (Nat.le_refl _) (by assumption))))
    have HS0 := Lib.hid S0
    have HR0 := Lib.hid R0
    have HP0 := Lib.hid P0
    have HQ0 := Lib.hid Q0
    have HB0 := Lib.hid B0
    clear S0 R0 P0 Q0 B0
    go_enter Try.func53, Try.ntmps53
    go_upto_region 15 with (first
      | (go_at_call 40; refine (CS _ (HK.out.below HB0.out)).mono ?_; rintro e w1 ⟨rfl, hb1⟩; have HS1 := Lib.hid (HS0.out.below hb1); have HR1 := Lib.hid (HR0.out.below hb1); have HP1 := Lib.hid (HP0.out.below hb1); have HQ1 := Lib.hid (HQ0.out.below hb1); have HB1 := Lib.hid (b_cl HB0.out (Nat.le_refl _) hb1); have lt1 := HQ1.out.lt; have lta1 : w.heap.size < w1.heap.size := (by omega); have ltb1 : w.heap.size + 1 < w1.heap.size := (by omega); have s0_1 := HS1.out.cell (k := 0) rfl; have s1_1 := HS1.out.cell (k := 1) rfl; have s2_1 := HS1.out.cell (k := 2) rfl; have r0_1 := HR1.out.cell (k := 0) rfl; have r1_1 := HR1.out.cell (k := 1) rfl; have r2_1 := HR1.out.cell (k := 2) rfl; clear hb1)
      | (go_at_call 58; refine (CR _).mono ?_; rintro e w2 ⟨rfl, hb2⟩; have HS2 := Lib.hid (HS1.out.below hb2); have HR2 := Lib.hid (HR1.out.below hb2); have HP2 := Lib.hid (HP1.out.below hb2); have HQ2 := Lib.hid (HQ1.out.below hb2); have HB2 := Lib.hid (b_cl HB1.out (Nat.le_refl _) hb2); have lt2 := HQ2.out.lt; have lta2 : w.heap.size < w2.heap.size := (by omega); have ltb2 : w.heap.size + 1 < w2.heap.size := (by omega); have s0_2 := HS2.out.cell (k := 0) rfl; have s1_2 := HS2.out.cell (k := 1) rfl; have s2_2 := HS2.out.cell (k := 2) rfl; have r0_2 := HR2.out.cell (k := 0) rfl; have r1_2 := HR2.out.cell (k := 1) rfl; have r2_2 := HR2.out.cell (k := 2) rfl; clear hb2)
      | (go_at_call 61; refine (work19_any w.heap.size w2.heap.size A n c l HN.out (i, x, y) (-1) (-1) (-1) (-1) a b _ (Bx.new (W := w2) 123 (wk A n c (i, x, y) (-1) (-1) (-1) (-1)) rfl) ((RdKn.of HK.out).below (b_al HB2.out (Nat.le_refl _) _)) HB2.out.size hl HFW.out HOK.out HFT.out a0 (by omega) b0).mono ?_; rintro e w5 ⟨rfl, c5⟩; rw [HE.out] at c5; have lq2 := HQ2.out.lt; have CB := Lib.hid c5.box; have PW := Lib.hid (c5.bx (HP2.out.alloc _) (by omega)); have QW := Lib.hid (c5.bx (HQ2.out.alloc _) (by omega)); have BW := Lib.hid ((b_al HB2.out (Nat.le_refl _) _).trans (c5.bel _ HB2.out.size (b_al HB2.out (Nat.le_refl _) _).size)); clear c5))
    refine wp_region_noPanic ?_
    refine wp_region_held_drew (S := fun w' => Bx w' w2.heap.size 123 (wk A n c (i2, x2, y2) e0 e1 e2 e3)) (by kernel_rfl) ?_ (fun hHeld => ?_)
    · exact CB.out.drew
    refine wpAnyH_take (i := 0) (oi := ⟨some 58, _, _, _, _, _⟩) (v := ?_) rfl (by kernel_rfl) (by kernel_rfl) (by kernel_rfl) (fun _ _ _ h => h) (Or.inl ⟨by rfl, ?_⟩) (by assumption) ?_
    rotate_left
    · (intro w' hSw; clear hSw; go_simp; try (with_reducible rfl))
    (try simp only [Act.put, List.setIfInBounds_toArray, List.set_cons_zero, List.set_cons_succ])
    refine wpAnyH_take (i := 1) (oi := ⟨some 59, _, _, _, _, _⟩) (v := .agg #[.int .i64 i2, .int .i64 x2, .int .i64 y2]) rfl (by kernel_rfl) (by kernel_rfl) (by kernel_rfl) (fun _ _ _ h => h) (Or.inl ⟨by rfl, fun w' hSw => exec_load_mid w2.heap.size 1 #[.int .i64 i2, .int .i64 x2, .int .i64 y2] _ w' rfl rfl (wk_spot hSw) Try.underlying28 rfl (by kernel_rfl)⟩) (by assumption) ?_
    (try simp only [Act.put, List.setIfInBounds_toArray, List.set_cons_zero, List.set_cons_succ])
    refine wpAnyH_take (i := 2) (oi := ⟨some 60, _, _, _, _, _⟩) (v := ?_) rfl (by kernel_rfl) (by kernel_rfl) (by kernel_rfl) (fun _ _ _ h => h) (Or.inl ⟨by rfl, ?_⟩) (by assumption) ?_
    rotate_left
    · (intro w' hSw; clear hSw; go_simp; try (with_reducible rfl))
    (try simp only [Act.put, List.setIfInBounds_toArray, List.set_cons_zero, List.set_cons_succ])
    refine wpAnyH_take (i := 3) (oi := ⟨some 61, _, _, _, _, _⟩) (v := .agg #[.int .i64 e0, .int .i64 e1, .int .i64 e2, .int .i64 e3]) rfl (by kernel_rfl) (by kernel_rfl) (by kernel_rfl) (fun _ _ _ h => h) (Or.inl ⟨by rfl, fun w' hSw => exec_load_mid w2.heap.size 4 #[.int .i64 e0, .int .i64 e1, .int .i64 e2, .int .i64 e3] _ w' rfl rfl (wk_firsts hSw) Try.underlying113 rfl (by kernel_rfl)⟩) (by assumption) ?_
    (try simp only [Act.put, List.setIfInBounds_toArray, List.set_cons_zero, List.set_cons_succ])
    refine wpAnyH_ready (rs := [4]) (by kernel_rfl) (by simp) ?_
    refine AllReadyH.cons (o := ⟨none, _, _, _, _, _⟩) rfl (fun K hK => ?_) AllReadyH.nil
    refine wp_store_any 28 _ _ rfl (w.heap.size + 1 + 1) #[.int .i64 i2, .int .i64 x2, .int .i64 y2] rfl rfl 28 #[.int .i64 0, .int .i64 0, .int .i64 0] PW.out.drew (by kernel_rfl) rfl (one3 _ _ _) (fun w8 u => ?_)
    refine hK.out _ _ (u.bx CB.out.drew (by omega)) (fun hHeld => ?_)
    clear hK K
    (try simp only [Act.put])
    refine wpAnyH_ready (rs := [5]) (by kernel_rfl) (by simp) ?_
    refine AllReadyH.cons (o := ⟨none, _, _, _, _, _⟩) rfl (fun K hK => ?_) AllReadyH.nil
    refine wp_store_any 113 _ _ rfl (w.heap.size + 1 + 1 + 1) #[.int .i64 e0, .int .i64 e1, .int .i64 e2, .int .i64 e3] rfl rfl 113 #[.int .i64 0, .int .i64 0, .int .i64 0, .int .i64 0] (u.bx QW.out.drew (by omega)) (by kernel_rfl) rfl (one4 _ _ _ _) (fun w9 u2 => ?_)
    refine hK.out _ _ (u2.bx hHeld (by omega)) (fun hHeld => ?_)
    clear hK K
    (try simp only [Act.put])
    refine wpAnyH_take (i := 6) (oi := ⟨some 8, _, _, _, _, _⟩) (v := ?_) rfl (by kernel_rfl) (by kernel_rfl) (by kernel_rfl) (fun _ _ _ h => h) (Or.inl ⟨by rfl, ?_⟩) (by assumption) ?_
    rotate_left
    · (intro w' hSw; clear hSw; go_simp; try (with_reducible rfl))
    (try simp only [Act.put, List.setIfInBounds_toArray, List.set_cons_zero, List.set_cons_succ])
    refine wpAnyH_done (by kernel_rfl) ?_ _
    refine NoPanic.normal ?_
    go_wp2_with fail
    refine bodyPost_ret (results_box22 Try.results53 _ _ (w.heap.size + 1 + 1) (w.heap.size + 1 + 1 + 1) 28 113 #[.int .i64 i2, .int .i64 x2, .int .i64 y2] #[.int .i64 e0, .int .i64 e1, .int .i64 e2, .int .i64 e3] _ _ (.int .i64 0) rfl (u2.bx u.box (by omega)) rfl u2.box rfl Try.underlying28 rfl (by kernel_rfl) Try.underlying113 rfl (by kernel_rfl)) rfl ⟨rfl, ?_⟩
    exact ((b_dr BW.out).trans (u.bel _ (by omega))).trans (u2.bel _ (by omega))
  have kk3 : (k == 3) = false := by simp [k3]
  have kk2 : (k == 2) = false := by simp [k2]
  have kk1 : (k != 2) = true := by simp [k2]
  have hk3 := Lib.hid k3
  have hk2 := Lib.hid k2
  by_cases hy : 0 < y
  · have hy' := hy
    clear k3
    have HE := Lib.hid (show runK l k (b - a).toNat a ((i, x, y), -1, -1, -1, noteF (-1) true a) = ((i2, x2, y2), e0, e1, e2, e3) by
      have e : b3 (i, x, y) k = true := decide_eq_true ⟨hy, by first | decide | assumption⟩
      have h1 := HP.out
      rw [e] at h1
      rw [Hr.out, h1, ← Hr.out, HR.out])
    clear HP HR Hr
    have S0 : Bx ((((w.alloc (.cells #[.int .i64 i, .int .i64 x, .int .i64 y] 28)).alloc (.cells #[.int .i64 k, .int .i64 a, .int .i64 b] 117)).alloc (.cells #[.int .i64 0, .int .i64 0, .int .i64 0] 28)).alloc (.cells #[.int .i64 0, .int .i64 0, .int .i64 0, .int .i64 0] 113)) (w.heap.size) 28 #[.int .i64 i, .int .i64 x, .int .i64 y] := (((Bx.new (W := w) _ _ rfl).alloc _).alloc _).alloc _
    have R0 : Bx ((((w.alloc (.cells #[.int .i64 i, .int .i64 x, .int .i64 y] 28)).alloc (.cells #[.int .i64 k, .int .i64 a, .int .i64 b] 117)).alloc (.cells #[.int .i64 0, .int .i64 0, .int .i64 0] 28)).alloc (.cells #[.int .i64 0, .int .i64 0, .int .i64 0, .int .i64 0] 113)) (w.heap.size + 1) 117 #[.int .i64 k, .int .i64 a, .int .i64 b] := ((Bx.new (W := w.alloc (.cells #[.int .i64 i, .int .i64 x, .int .i64 y] 28)) _ _ (by simp)).alloc _).alloc _
    have P0 : Bx ((((w.alloc (.cells #[.int .i64 i, .int .i64 x, .int .i64 y] 28)).alloc (.cells #[.int .i64 k, .int .i64 a, .int .i64 b] 117)).alloc (.cells #[.int .i64 0, .int .i64 0, .int .i64 0] 28)).alloc (.cells #[.int .i64 0, .int .i64 0, .int .i64 0, .int .i64 0] 113)) (w.heap.size + 1 + 1) 28 #[.int .i64 0, .int .i64 0, .int .i64 0] := (Bx.new (W := (w.alloc (.cells #[.int .i64 i, .int .i64 x, .int .i64 y] 28)).alloc (.cells #[.int .i64 k, .int .i64 a, .int .i64 b] 117)) _ _ (by simp)).alloc _
    have Q0 : Bx ((((w.alloc (.cells #[.int .i64 i, .int .i64 x, .int .i64 y] 28)).alloc (.cells #[.int .i64 k, .int .i64 a, .int .i64 b] 117)).alloc (.cells #[.int .i64 0, .int .i64 0, .int .i64 0] 28)).alloc (.cells #[.int .i64 0, .int .i64 0, .int .i64 0, .int .i64 0] 113)) (w.heap.size + 1 + 1 + 1) 113 #[.int .i64 0, .int .i64 0, .int .i64 0, .int .i64 0] := Bx.new (W := ((w.alloc (.cells #[.int .i64 i, .int .i64 x, .int .i64 y] 28)).alloc (.cells #[.int .i64 k, .int .i64 a, .int .i64 b] 117)).alloc (.cells #[.int .i64 0, .int .i64 0, .int .i64 0] 28)) _ _ (by simp)
    have B0 : Below w.heap.size w ((((w.alloc (.cells #[.int .i64 i, .int .i64 x, .int .i64 y] 28)).alloc (.cells #[.int .i64 k, .int .i64 a, .int .i64 b] 117)).alloc (.cells #[.int .i64 0, .int .i64 0, .int .i64 0] 28)).alloc (.cells #[.int .i64 0, .int .i64 0, .int .i64 0, .int .i64 0] 113)) := by (repeat (first | exact Below.refl _ _ | (refine b_st ?_ (by first | (simp; done) | (simp; omega))) | (refine b_al ?_ (Nat.le_refl _) _) | refine b_dn ?_ | refine b_dr ?_ | (refine b_cl ?_ (Nat.le_refl _) (by assumption))))
    have HS0 := Lib.hid S0
    have HR0 := Lib.hid R0
    have HP0 := Lib.hid P0
    have HQ0 := Lib.hid Q0
    have HB0 := Lib.hid B0
    clear S0 R0 P0 Q0 B0
    go_enter Try.func53, Try.ntmps53
    go_upto_region 15 with (first
      | (go_at_call 40; refine (CS _ (HK.out.below HB0.out)).mono ?_; rintro e w1 ⟨rfl, hb1⟩; have HS1 := Lib.hid (HS0.out.below hb1); have HR1 := Lib.hid (HR0.out.below hb1); have HP1 := Lib.hid (HP0.out.below hb1); have HQ1 := Lib.hid (HQ0.out.below hb1); have HB1 := Lib.hid (b_cl HB0.out (Nat.le_refl _) hb1); have lt1 := HQ1.out.lt; have lta1 : w.heap.size < w1.heap.size := (by omega); have ltb1 : w.heap.size + 1 < w1.heap.size := (by omega); have s0_1 := HS1.out.cell (k := 0) rfl; have s1_1 := HS1.out.cell (k := 1) rfl; have s2_1 := HS1.out.cell (k := 2) rfl; have r0_1 := HR1.out.cell (k := 0) rfl; have r1_1 := HR1.out.cell (k := 1) rfl; have r2_1 := HR1.out.cell (k := 2) rfl; clear hb1)
      | (go_at_call 58; refine (CR _).mono ?_; rintro e w2 ⟨rfl, hb2⟩; have HS2 := Lib.hid (HS1.out.below hb2); have HR2 := Lib.hid (HR1.out.below hb2); have HP2 := Lib.hid (HP1.out.below hb2); have HQ2 := Lib.hid (HQ1.out.below hb2); have HB2 := Lib.hid (b_cl HB1.out (Nat.le_refl _) hb2); have lt2 := HQ2.out.lt; have lta2 : w.heap.size < w2.heap.size := (by omega); have ltb2 : w.heap.size + 1 < w2.heap.size := (by omega); have s0_2 := HS2.out.cell (k := 0) rfl; have s1_2 := HS2.out.cell (k := 1) rfl; have s2_2 := HS2.out.cell (k := 2) rfl; have r0_2 := HR2.out.cell (k := 0) rfl; have r1_2 := HR2.out.cell (k := 1) rfl; have r2_2 := HR2.out.cell (k := 2) rfl; clear hb2)
      | (go_at_call 59; refine (breaks19_3 w2.heap.size A n c (i, x, y) (-1) (-1) (-1) (-1) a _ (Bx.new (W := w2) 123 (wk A n c (i, x, y) (-1) (-1) (-1) (-1)) rfl)).mono ?_; rintro e w4 ⟨rfl, u4⟩; have lq2 := HQ2.out.lt; have X4 := Lib.hid u4.box; have HK4 := Lib.hid (show RdKn w.heap.size w4 A l from ((RdKn.of HK.out).below (b_al HB2.out (Nat.le_refl _) _)).below (u4.bel _ HB2.out.size)); have s0_4 := (u4.bx (HS2.out.alloc _) (by omega)).cell (k := 0) rfl; have r0_4 := (u4.bx (HR2.out.alloc _) (by omega)).cell (k := 0) rfl; have r1_4 := (u4.bx (HR2.out.alloc _) (by omega)).cell (k := 1) rfl; have r2_4 := (u4.bx (HR2.out.alloc _) (by omega)).cell (k := 2) rfl; have PW := Lib.hid (u4.bx (HP2.out.alloc _) (by omega)); have QW := Lib.hid (u4.bx (HQ2.out.alloc _) (by omega)); have BW := Lib.hid ((b_al HB2.out (Nat.le_refl _) _).trans (u4.bel _ HB2.out.size)); have l4 := u4.box.lt; clear u4))
    have lq2 := HQ2.out.lt
    have CB := Lib.hid (show Bx _ w2.heap.size 123 (wkS A n c ((i2, x2, y2), e0, e1, e2, e3)) by
      rw [← HE.out, runK_rest HFT.out hk3.out hk2.out (fun _ => note_set a0)]
      exact X4.out)
    refine wp_region_noPanic ?_
    refine wp_region_held_drew (S := fun w' => Bx w' w2.heap.size 123 (wk A n c (i2, x2, y2) e0 e1 e2 e3)) (by kernel_rfl) ?_ (fun hHeld => ?_)
    · exact CB.out.drew
    refine wpAnyH_take (i := 0) (oi := ⟨some 58, _, _, _, _, _⟩) (v := ?_) rfl (by kernel_rfl) (by kernel_rfl) (by kernel_rfl) (fun _ _ _ h => h) (Or.inl ⟨by rfl, ?_⟩) (by assumption) ?_
    rotate_left
    · (intro w' hSw; clear hSw; go_simp; try (with_reducible rfl))
    (try simp only [Act.put, List.setIfInBounds_toArray, List.set_cons_zero, List.set_cons_succ])
    refine wpAnyH_take (i := 1) (oi := ⟨some 59, _, _, _, _, _⟩) (v := .agg #[.int .i64 i2, .int .i64 x2, .int .i64 y2]) rfl (by kernel_rfl) (by kernel_rfl) (by kernel_rfl) (fun _ _ _ h => h) (Or.inl ⟨by rfl, fun w' hSw => exec_load_mid w2.heap.size 1 #[.int .i64 i2, .int .i64 x2, .int .i64 y2] _ w' rfl rfl (wk_spot hSw) Try.underlying28 rfl (by kernel_rfl)⟩) (by assumption) ?_
    (try simp only [Act.put, List.setIfInBounds_toArray, List.set_cons_zero, List.set_cons_succ])
    refine wpAnyH_take (i := 2) (oi := ⟨some 60, _, _, _, _, _⟩) (v := ?_) rfl (by kernel_rfl) (by kernel_rfl) (by kernel_rfl) (fun _ _ _ h => h) (Or.inl ⟨by rfl, ?_⟩) (by assumption) ?_
    rotate_left
    · (intro w' hSw; clear hSw; go_simp; try (with_reducible rfl))
    (try simp only [Act.put, List.setIfInBounds_toArray, List.set_cons_zero, List.set_cons_succ])
    refine wpAnyH_take (i := 3) (oi := ⟨some 61, _, _, _, _, _⟩) (v := .agg #[.int .i64 e0, .int .i64 e1, .int .i64 e2, .int .i64 e3]) rfl (by kernel_rfl) (by kernel_rfl) (by kernel_rfl) (fun _ _ _ h => h) (Or.inl ⟨by rfl, fun w' hSw => exec_load_mid w2.heap.size 4 #[.int .i64 e0, .int .i64 e1, .int .i64 e2, .int .i64 e3] _ w' rfl rfl (wk_firsts hSw) Try.underlying113 rfl (by kernel_rfl)⟩) (by assumption) ?_
    (try simp only [Act.put, List.setIfInBounds_toArray, List.set_cons_zero, List.set_cons_succ])
    refine wpAnyH_ready (rs := [4]) (by kernel_rfl) (by simp) ?_
    refine AllReadyH.cons (o := ⟨none, _, _, _, _, _⟩) rfl (fun K hK => ?_) AllReadyH.nil
    refine wp_store_any 28 _ _ rfl (w.heap.size + 1 + 1) #[.int .i64 i2, .int .i64 x2, .int .i64 y2] rfl rfl 28 #[.int .i64 0, .int .i64 0, .int .i64 0] PW.out.drew (by kernel_rfl) rfl (one3 _ _ _) (fun w8 u => ?_)
    refine hK.out _ _ (u.bx CB.out.drew (by omega)) (fun hHeld => ?_)
    clear hK K
    (try simp only [Act.put])
    refine wpAnyH_ready (rs := [5]) (by kernel_rfl) (by simp) ?_
    refine AllReadyH.cons (o := ⟨none, _, _, _, _, _⟩) rfl (fun K hK => ?_) AllReadyH.nil
    refine wp_store_any 113 _ _ rfl (w.heap.size + 1 + 1 + 1) #[.int .i64 e0, .int .i64 e1, .int .i64 e2, .int .i64 e3] rfl rfl 113 #[.int .i64 0, .int .i64 0, .int .i64 0, .int .i64 0] (u.bx QW.out.drew (by omega)) (by kernel_rfl) rfl (one4 _ _ _ _) (fun w9 u2 => ?_)
    refine hK.out _ _ (u2.bx hHeld (by omega)) (fun hHeld => ?_)
    clear hK K
    (try simp only [Act.put])
    refine wpAnyH_take (i := 6) (oi := ⟨some 8, _, _, _, _, _⟩) (v := ?_) rfl (by kernel_rfl) (by kernel_rfl) (by kernel_rfl) (fun _ _ _ h => h) (Or.inl ⟨by rfl, ?_⟩) (by assumption) ?_
    rotate_left
    · (intro w' hSw; clear hSw; go_simp; try (with_reducible rfl))
    (try simp only [Act.put, List.setIfInBounds_toArray, List.set_cons_zero, List.set_cons_succ])
    refine wpAnyH_done (by kernel_rfl) ?_ _
    refine NoPanic.normal ?_
    go_wp2_with fail
    refine bodyPost_ret (results_box22 Try.results53 _ _ (w.heap.size + 1 + 1) (w.heap.size + 1 + 1 + 1) 28 113 #[.int .i64 i2, .int .i64 x2, .int .i64 y2] #[.int .i64 e0, .int .i64 e1, .int .i64 e2, .int .i64 e3] _ _ (.int .i64 0) rfl (u2.bx u.box (by omega)) rfl u2.box rfl Try.underlying28 rfl (by kernel_rfl) Try.underlying113 rfl (by kernel_rfl)) rfl ⟨rfl, ?_⟩
    exact ((b_dr BW.out).trans (u.bel _ (by omega))).trans (u2.bel _ (by omega))
  · have hy' : y ≤ 0 := by omega
    clear hy k3 k2
    have HE := HR
    clear HP HR Hr
    have S0 : Bx ((((w.alloc (.cells #[.int .i64 i, .int .i64 x, .int .i64 y] 28)).alloc (.cells #[.int .i64 k, .int .i64 a, .int .i64 b] 117)).alloc (.cells #[.int .i64 0, .int .i64 0, .int .i64 0] 28)).alloc (.cells #[.int .i64 0, .int .i64 0, .int .i64 0, .int .i64 0] 113)) (w.heap.size) 28 #[.int .i64 i, .int .i64 x, .int .i64 y] := (((Bx.new (W := w) _ _ rfl).alloc _).alloc _).alloc _
    have R0 : Bx ((((w.alloc (.cells #[.int .i64 i, .int .i64 x, .int .i64 y] 28)).alloc (.cells #[.int .i64 k, .int .i64 a, .int .i64 b] 117)).alloc (.cells #[.int .i64 0, .int .i64 0, .int .i64 0] 28)).alloc (.cells #[.int .i64 0, .int .i64 0, .int .i64 0, .int .i64 0] 113)) (w.heap.size + 1) 117 #[.int .i64 k, .int .i64 a, .int .i64 b] := ((Bx.new (W := w.alloc (.cells #[.int .i64 i, .int .i64 x, .int .i64 y] 28)) _ _ (by simp)).alloc _).alloc _
    have P0 : Bx ((((w.alloc (.cells #[.int .i64 i, .int .i64 x, .int .i64 y] 28)).alloc (.cells #[.int .i64 k, .int .i64 a, .int .i64 b] 117)).alloc (.cells #[.int .i64 0, .int .i64 0, .int .i64 0] 28)).alloc (.cells #[.int .i64 0, .int .i64 0, .int .i64 0, .int .i64 0] 113)) (w.heap.size + 1 + 1) 28 #[.int .i64 0, .int .i64 0, .int .i64 0] := (Bx.new (W := (w.alloc (.cells #[.int .i64 i, .int .i64 x, .int .i64 y] 28)).alloc (.cells #[.int .i64 k, .int .i64 a, .int .i64 b] 117)) _ _ (by simp)).alloc _
    have Q0 : Bx ((((w.alloc (.cells #[.int .i64 i, .int .i64 x, .int .i64 y] 28)).alloc (.cells #[.int .i64 k, .int .i64 a, .int .i64 b] 117)).alloc (.cells #[.int .i64 0, .int .i64 0, .int .i64 0] 28)).alloc (.cells #[.int .i64 0, .int .i64 0, .int .i64 0, .int .i64 0] 113)) (w.heap.size + 1 + 1 + 1) 113 #[.int .i64 0, .int .i64 0, .int .i64 0, .int .i64 0] := Bx.new (W := ((w.alloc (.cells #[.int .i64 i, .int .i64 x, .int .i64 y] 28)).alloc (.cells #[.int .i64 k, .int .i64 a, .int .i64 b] 117)).alloc (.cells #[.int .i64 0, .int .i64 0, .int .i64 0] 28)) _ _ (by simp)
    have B0 : Below w.heap.size w ((((w.alloc (.cells #[.int .i64 i, .int .i64 x, .int .i64 y] 28)).alloc (.cells #[.int .i64 k, .int .i64 a, .int .i64 b] 117)).alloc (.cells #[.int .i64 0, .int .i64 0, .int .i64 0] 28)).alloc (.cells #[.int .i64 0, .int .i64 0, .int .i64 0, .int .i64 0] 113)) := by (repeat (first | exact Below.refl _ _ | (refine b_st ?_ (by first | (simp; done) | (simp; omega))) | (refine b_al ?_ (Nat.le_refl _) _) | refine b_dn ?_ | refine b_dr ?_ | (refine b_cl ?_ (Nat.le_refl _) (by assumption))))
    have HS0 := Lib.hid S0
    have HR0 := Lib.hid R0
    have HP0 := Lib.hid P0
    have HQ0 := Lib.hid Q0
    have HB0 := Lib.hid B0
    clear S0 R0 P0 Q0 B0
    go_enter Try.func53, Try.ntmps53
    go_upto_region 15 with (first
      | (go_at_call 40; refine (CS _ (HK.out.below HB0.out)).mono ?_; rintro e w1 ⟨rfl, hb1⟩; have HS1 := Lib.hid (HS0.out.below hb1); have HR1 := Lib.hid (HR0.out.below hb1); have HP1 := Lib.hid (HP0.out.below hb1); have HQ1 := Lib.hid (HQ0.out.below hb1); have HB1 := Lib.hid (b_cl HB0.out (Nat.le_refl _) hb1); have lt1 := HQ1.out.lt; have lta1 : w.heap.size < w1.heap.size := (by omega); have ltb1 : w.heap.size + 1 < w1.heap.size := (by omega); have s0_1 := HS1.out.cell (k := 0) rfl; have s1_1 := HS1.out.cell (k := 1) rfl; have s2_1 := HS1.out.cell (k := 2) rfl; have r0_1 := HR1.out.cell (k := 0) rfl; have r1_1 := HR1.out.cell (k := 1) rfl; have r2_1 := HR1.out.cell (k := 2) rfl; clear hb1)
      | (go_at_call 58; refine (CR _).mono ?_; rintro e w2 ⟨rfl, hb2⟩; have HS2 := Lib.hid (HS1.out.below hb2); have HR2 := Lib.hid (HR1.out.below hb2); have HP2 := Lib.hid (HP1.out.below hb2); have HQ2 := Lib.hid (HQ1.out.below hb2); have HB2 := Lib.hid (b_cl HB1.out (Nat.le_refl _) hb2); have lt2 := HQ2.out.lt; have lta2 : w.heap.size < w2.heap.size := (by omega); have ltb2 : w.heap.size + 1 < w2.heap.size := (by omega); have s0_2 := HS2.out.cell (k := 0) rfl; have s1_2 := HS2.out.cell (k := 1) rfl; have s2_2 := HS2.out.cell (k := 2) rfl; have r0_2 := HR2.out.cell (k := 0) rfl; have r1_2 := HR2.out.cell (k := 1) rfl; have r2_2 := HR2.out.cell (k := 2) rfl; clear hb2))
    have lq2 := HQ2.out.lt
    have CB := Lib.hid (show Bx _ w2.heap.size 123 (wkS A n c ((i2, x2, y2), e0, e1, e2, e3)) by
      rw [← HE.out, runK_rest HFT.out hk3.out hk2.out (fun h => absurd h (by simp only; omega))]
      exact (Bx.new (W := w2) 123 (wk A n c (i, x, y) (-1) (-1) (-1) (-1)) rfl))
    have PW := Lib.hid (HP2.out.alloc (.cells (wk A n c (i, x, y) (-1) (-1) (-1) (-1)) 123))
    have QW := Lib.hid (HQ2.out.alloc (.cells (wk A n c (i, x, y) (-1) (-1) (-1) (-1)) 123))
    have BW := Lib.hid (b_al HB2.out (Nat.le_refl _) (.cells (wk A n c (i, x, y) (-1) (-1) (-1) (-1)) 123))
    refine wp_region_noPanic ?_
    refine wp_region_held_drew (S := fun w' => Bx w' w2.heap.size 123 (wk A n c (i2, x2, y2) e0 e1 e2 e3)) (by kernel_rfl) ?_ (fun hHeld => ?_)
    · exact CB.out.drew
    refine wpAnyH_take (i := 0) (oi := ⟨some 58, _, _, _, _, _⟩) (v := ?_) rfl (by kernel_rfl) (by kernel_rfl) (by kernel_rfl) (fun _ _ _ h => h) (Or.inl ⟨by rfl, ?_⟩) (by assumption) ?_
    rotate_left
    · (intro w' hSw; clear hSw; go_simp; try (with_reducible rfl))
    (try simp only [Act.put, List.setIfInBounds_toArray, List.set_cons_zero, List.set_cons_succ])
    refine wpAnyH_take (i := 1) (oi := ⟨some 59, _, _, _, _, _⟩) (v := .agg #[.int .i64 i2, .int .i64 x2, .int .i64 y2]) rfl (by kernel_rfl) (by kernel_rfl) (by kernel_rfl) (fun _ _ _ h => h) (Or.inl ⟨by rfl, fun w' hSw => exec_load_mid w2.heap.size 1 #[.int .i64 i2, .int .i64 x2, .int .i64 y2] _ w' rfl rfl (wk_spot hSw) Try.underlying28 rfl (by kernel_rfl)⟩) (by assumption) ?_
    (try simp only [Act.put, List.setIfInBounds_toArray, List.set_cons_zero, List.set_cons_succ])
    refine wpAnyH_take (i := 2) (oi := ⟨some 60, _, _, _, _, _⟩) (v := ?_) rfl (by kernel_rfl) (by kernel_rfl) (by kernel_rfl) (fun _ _ _ h => h) (Or.inl ⟨by rfl, ?_⟩) (by assumption) ?_
    rotate_left
    · (intro w' hSw; clear hSw; go_simp; try (with_reducible rfl))
    (try simp only [Act.put, List.setIfInBounds_toArray, List.set_cons_zero, List.set_cons_succ])
    refine wpAnyH_take (i := 3) (oi := ⟨some 61, _, _, _, _, _⟩) (v := .agg #[.int .i64 e0, .int .i64 e1, .int .i64 e2, .int .i64 e3]) rfl (by kernel_rfl) (by kernel_rfl) (by kernel_rfl) (fun _ _ _ h => h) (Or.inl ⟨by rfl, fun w' hSw => exec_load_mid w2.heap.size 4 #[.int .i64 e0, .int .i64 e1, .int .i64 e2, .int .i64 e3] _ w' rfl rfl (wk_firsts hSw) Try.underlying113 rfl (by kernel_rfl)⟩) (by assumption) ?_
    (try simp only [Act.put, List.setIfInBounds_toArray, List.set_cons_zero, List.set_cons_succ])
    refine wpAnyH_ready (rs := [4]) (by kernel_rfl) (by simp) ?_
    refine AllReadyH.cons (o := ⟨none, _, _, _, _, _⟩) rfl (fun K hK => ?_) AllReadyH.nil
    refine wp_store_any 28 _ _ rfl (w.heap.size + 1 + 1) #[.int .i64 i2, .int .i64 x2, .int .i64 y2] rfl rfl 28 #[.int .i64 0, .int .i64 0, .int .i64 0] PW.out.drew (by kernel_rfl) rfl (one3 _ _ _) (fun w8 u => ?_)
    refine hK.out _ _ (u.bx CB.out.drew (by omega)) (fun hHeld => ?_)
    clear hK K
    (try simp only [Act.put])
    refine wpAnyH_ready (rs := [5]) (by kernel_rfl) (by simp) ?_
    refine AllReadyH.cons (o := ⟨none, _, _, _, _, _⟩) rfl (fun K hK => ?_) AllReadyH.nil
    refine wp_store_any 113 _ _ rfl (w.heap.size + 1 + 1 + 1) #[.int .i64 e0, .int .i64 e1, .int .i64 e2, .int .i64 e3] rfl rfl 113 #[.int .i64 0, .int .i64 0, .int .i64 0, .int .i64 0] (u.bx QW.out.drew (by omega)) (by kernel_rfl) rfl (one4 _ _ _ _) (fun w9 u2 => ?_)
    refine hK.out _ _ (u2.bx hHeld (by omega)) (fun hHeld => ?_)
    clear hK K
    (try simp only [Act.put])
    refine wpAnyH_take (i := 6) (oi := ⟨some 8, _, _, _, _, _⟩) (v := ?_) rfl (by kernel_rfl) (by kernel_rfl) (by kernel_rfl) (fun _ _ _ h => h) (Or.inl ⟨by rfl, ?_⟩) (by assumption) ?_
    rotate_left
    · (intro w' hSw; clear hSw; go_simp; try (with_reducible rfl))
    (try simp only [Act.put, List.setIfInBounds_toArray, List.set_cons_zero, List.set_cons_succ])
    refine wpAnyH_done (by kernel_rfl) ?_ _
    refine NoPanic.normal ?_
    go_wp2_with fail
    refine bodyPost_ret (results_box22 Try.results53 _ _ (w.heap.size + 1 + 1) (w.heap.size + 1 + 1 + 1) 28 113 #[.int .i64 i2, .int .i64 x2, .int .i64 y2] #[.int .i64 e0, .int .i64 e1, .int .i64 e2, .int .i64 e3] _ _ (.int .i64 0) rfl (u2.bx u.box (by omega)) rfl u2.box rfl Try.underlying28 rfl (by kernel_rfl) Try.underlying113 rfl (by kernel_rfl)) rfl ⟨rfl, ?_⟩
    exact ((b_dr BW.out).trans (u.bel _ (by omega))).trans (u2.bel _ (by omega))

end Go.Proofs.Ytolbihfnogbjaaa
