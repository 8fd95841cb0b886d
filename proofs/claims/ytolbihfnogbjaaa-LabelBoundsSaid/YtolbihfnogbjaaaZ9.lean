/- Plain facts, several texts in one: ErrandStepC, LabelChk. Conditions: none beyond each lemma's own premises. -/
import Derived.Test.YtolbihfnogbjaaaRows
import Derived.Test.YtolbihfnogbjaaaBase
import Derived.Test.YtolbihfnogbjaaaZ2
import Derived.Test.YtolbihfnogbjaaaZ3
import Derived.Test.YtolbihfnogbjaaaZ1
import Derived.Test.YtolbihfnogbjaaaZ7
import Derived.Test.YtolbihfnogbjaaaErrandOverC
import Derived.WalkKit
import Derived.WalkSpells
import Derived.WalkSmall
import Derived.Below
import Derived.Lib.Hide
import Derived.Outline
import Derived.Deep.DeepCutAuto
import Derived.OwnWalk
import Derived.BigQuiet
import Derived.Deep.QuietTactic
import Derived.Deep.LoopGhost
import Derived.WalkMore
import Derived.OrdersHeld
import Derived.Deep.RegionHeld3
import Derived.Test.YtolbihfnogbjaaaBookLim
import Derived.Test.YtolbihfnogbjaaaZ4
import Derived.Test.YtolbihfnogbjaaaZ6
import Derived.Test.YtolbihfnogbjaaaErrandChk
import Derived.Test.YtolbihfnogbjaaaErrandSpot
import Derived.Test.YtolbihfnogbjaaaZ8
import Derived.Maps.RangeWalk

/- What Step of layer 19 returns. Conditions: the tasks can be read. -/
namespace Go.Proofs.Ytolbihfnogbjaaa
open Go.RowKit

/-- The error of one minute. -/
def stepE (l : List Tk) (s : Pt) (m k : Int) : Int := if spotV l s = 0 then (if 0 ≤ k ∧ k < 4 then (if 0 ≤ m ∧ m ≤ 40319 then 0 else 4) else 2) else spotV l s
def bitE (b : Bool) (v : Int) : Int := if b = true then v else 0
/-- The set of what the minute breaks. -/
def setT (l : List Tk) (s : Pt) (m k : Int) : Int := bitE (b0 l s k) 1024 + bitE (b1 l s k) 2048 + bitE (b2 l s m k) 4096 + bitE (b3 s k) 8192
/-- What Step answers: the spot, the set, the error. -/
def stepV (l : List Tk) (s : Pt) (m k : Int) : Pt × Int × Int := if stepE l s m k = 0 then (stepT l s k, setT l s m k, 0) else ((0, 0, 0), 0, stepE l s m k)

theorem over_step_bad {l : List Tk} {s : Pt} {m k e : Int} (hm : -9223372036854775808 ≤ m ∧ m ≤ 9223372036854775807) (h : stepE l s m k = e) (hne : e ≠ 0) : overK l s k m (wrap64 (m + 1)) = ((0, 0, 0), (0, 0, 0, 0), e) := by
  unfold stepE at h
  by_cases h0 : spotV l s = 0
  · rw [if_pos h0] at h
    refine over_rec h0 ?_ hne
    unfold aloneV
    by_cases h1 : 0 ≤ k ∧ k < 4
    · rw [if_pos h1] at h ⊢
      by_cases h2 : 0 ≤ m ∧ m ≤ 40319
      · rw [if_pos h2] at h; exact absurd h.symm hne
      · rw [if_neg h2] at h
        rw [if_neg, h]
        unfold wrap64
        omega
    · rw [if_neg h1] at h ⊢; exact h
  · rw [if_neg h0] at h; exact over_spot h hne

theorem over_step_ok {l : List Tk} {s : Pt} {m k : Int} (h : stepE l s m k = 0) : overK l s k m (m + 1) = (stepT l s k, (noteF (-1) (b0 l s k) m, noteF (-1) (b1 l s k) m, noteF (-1) (b2 l s m k) m, noteF (-1) (b3 s k) m), 0) ∧ spotV l s = 0 ∧ (0 ≤ k ∧ k < 4) ∧ 0 ≤ m ∧ m ≤ 40319 := by
  unfold stepE at h
  by_cases h0 : spotV l s = 0
  · rw [if_pos h0] at h
    by_cases h1 : 0 ≤ k ∧ k < 4
    · rw [if_pos h1] at h
      by_cases h2 : 0 ≤ m ∧ m ≤ 40319
      · refine ⟨over_ok h0 (alone_zero.2 ⟨h1, by omega⟩) ?_, h0, h1, h2⟩
        rw [show (m + 1 - m).toNat = 1 by omega]
        rfl
      · rw [if_neg h2] at h; cases h
    · rw [if_neg h1] at h; cases h
  · rw [if_neg h0] at h; exact absurd h h0

theorem stepv_bad {l : List Tk} {s : Pt} {m k e : Int} (h : stepE l s m k = e) (hne : e ≠ 0) : stepV l s m k = ((0, 0, 0), 0, e) := by unfold stepV; rw [h, if_neg hne]
theorem stepv_ok {l : List Tk} {s : Pt} {m k : Int} (h : stepE l s m k = 0) : stepV l s m k = (stepT l s k, setT l s m k, 0) := by unfold stepV; rw [if_pos h]

theorem at4_0 (f0 f1 f2 f3 : Int) (w : World) : (Instr.index 113 (.agg #[.int .i64 f0, .int .i64 f1, .int .i64 f2, .int .i64 f3]) (.int .i64 0)).run Try.prog w = .ok (.int .i64 f0) w := by kernel_rfl
theorem at4_1 (f0 f1 f2 f3 : Int) (w : World) : (Instr.index 113 (.agg #[.int .i64 f0, .int .i64 f1, .int .i64 f2, .int .i64 f3]) (.int .i64 1)).run Try.prog w = .ok (.int .i64 f1) w := by kernel_rfl
theorem at4_2 (f0 f1 f2 f3 : Int) (w : World) : (Instr.index 113 (.agg #[.int .i64 f0, .int .i64 f1, .int .i64 f2, .int .i64 f3]) (.int .i64 2)).run Try.prog w = .ok (.int .i64 f2) w := by kernel_rfl
theorem at4_3 (f0 f1 f2 f3 : Int) (w : World) : (Instr.index 113 (.agg #[.int .i64 f0, .int .i64 f1, .int .i64 f2, .int .i64 f3]) (.int .i64 3)).run Try.prog w = .ok (.int .i64 f3) w := by kernel_rfl
theorem or_0 : bits .or .i64 0 1024 = 1024 := by decide
theorem or_1 (a : Bool) : bits .or .i64 (bitE a 1024) 2048 = bitE a 1024 + 2048 := by cases a <;> decide
theorem or_2 (a b : Bool) : bits .or .i64 (bitE a 1024 + bitE b 2048) 4096 = bitE a 1024 + bitE b 2048 + 4096 := by cases a <;> cases b <;> decide
theorem or_3 (a b c : Bool) : bits .or .i64 (bitE a 1024 + bitE b 2048 + bitE c 4096) 8192 = bitE a 1024 + bitE b 2048 + bitE c 4096 + 8192 := by cases a <;> cases b <;> cases c <;> decide

set_option maxRecDepth 20000 in
set_option maxHeartbeats 2000000 in
theorem step19_any (A : Option Addr) (n c : Nat) (l : List Tk) (hn : l.length = n) (i x y m k : Int) (w : World) (h : RdK w A l) (hf : Few l) (hx : -9223372036854775808 ≤ x ∧ x ≤ 9223372036854775807) (hy : -9223372036854775808 ≤ y ∧ y ≤ 9223372036854775807) (hm : -9223372036854775808 ≤ m ∧ m ≤ 9223372036854775807) :
    Calls Try.prog 42 #[.slice A n c, .agg #[.int .i64 i, .int .i64 x, .int .i64 y], .int .i64 m, .int .i64 k] w fun e w' => e = .returned (.tuple #[.agg (sp3 (stepV l (i, x, y) m k).1), .int .i64 (stepV l (i, x, y) m k).2.1, .int .i64 (stepV l (i, x, y) m k).2.2]) ∧ Below w.heap.size w w' := by
  have HK := Lib.hid h
  by_cases c0 : stepE l (i, x, y) m k = 0
  case neg =>
    obtain ⟨e0, he⟩ : ∃ e0, stepE l (i, x, y) m k = e0 := ⟨_, rfl⟩
    rw [he] at c0
    rw [stepv_bad he c0]
    have CO := fun W (h : RdK W A l) => over19_any A n c l hn i x y k m (wrap64 (m + 1)) W h hf hx hy
    rw [over_step_bad hm he c0] at CO
    have hne : (e0 != 0) = true := by simp [c0]
    clear he c0 h hf hn hx hy hm
    have S0 : Bx ((w.alloc (.cells #[.int .i64 i, .int .i64 x, .int .i64 y] 28)).alloc (.cells #[.int .i64 0, .int .i64 0, .int .i64 0] 28)) w.heap.size 28 #[.int .i64 i, .int .i64 x, .int .i64 y] := (Bx.new (W := w) _ _ rfl).alloc _
    have P0 : Bx ((w.alloc (.cells #[.int .i64 i, .int .i64 x, .int .i64 y] 28)).alloc (.cells #[.int .i64 0, .int .i64 0, .int .i64 0] 28)) (w.heap.size + 1) 28 #[.int .i64 0, .int .i64 0, .int .i64 0] := Bx.new (W := w.alloc (.cells #[.int .i64 i, .int .i64 x, .int .i64 y] 28)) _ _ (by simp)
    have B0 : Below w.heap.size w ((w.alloc (.cells #[.int .i64 i, .int .i64 x, .int .i64 y] 28)).alloc (.cells #[.int .i64 0, .int .i64 0, .int .i64 0] 28)) := by (repeat (first | exact Below.refl _ _ | (refine b_st ?_ (by first | (simp; done) | (simp; omega))) | (refine b_al ?_ (Nat.le_refl _) _) | refine b_dn ?_ | refine b_dr ?_ | (refine b_cl ?_ (Nat.le_refl _) (by assumption))))
    have HS0 := Lib.hid S0
    have HP0 := Lib.hid P0
    have HB0 := Lib.hid B0
    clear S0 P0 B0
    go_enter Try.func42, Try.ntmps42
    go_wp2_with (first
      | (go_at_call 53; refine (CO _ (HK.out.below HB0.out)).mono ?_; rintro e w1 ⟨rfl, hb1⟩; have HS1 := Lib.hid (HS0.out.below hb1); have HP1 := Lib.hid (HP0.out.below hb1); have HB1 := Lib.hid (b_cl HB0.out (Nat.le_refl _) hb1); have lt1 := HP1.out.lt; have lta1 : w.heap.size < w1.heap.size := (by omega); have s1 := HS1.out.cell (k := 0) rfl; clear hb1)
      | (refine wpList_store_box rfl 28 _ _ rfl w.heap.size #[.int .i64 0, .int .i64 0, .int .i64 0] rfl rfl 28 #[.int .i64 i, .int .i64 x, .int .i64 y] (HS1.out.alloc _) (by kernel_rfl) rfl (one3 _ _ _) (fun w2 u2 => ?_); have HS2 := Lib.hid u2.box; have HP2 := Lib.hid (u2.bx (HP1.out.alloc _) (by omega)); have HF2 := Lib.hid (u2.bx (Bx.new (W := w1) 113 #[.int .i64 0, .int .i64 0, .int .i64 0, .int .i64 0] rfl) (by omega)); have HB2 := Lib.hid ((b_al HB1.out (Nat.le_refl _) _).trans (u2.bel _ (Nat.le_refl _))); have z2 := u2.size; (try simp at z2); clear u2)
      | (refine wpList_store_box rfl 113 _ _ rfl w1.heap.size #[.int .i64 0, .int .i64 0, .int .i64 0, .int .i64 0] rfl rfl 113 #[.int .i64 0, .int .i64 0, .int .i64 0, .int .i64 0] HF2.out (by kernel_rfl) rfl (one4 _ _ _ _) (fun w3 u3 => ?_); have HS3 := Lib.hid (u3.bx HS2.out (by omega)); have HP3 := Lib.hid (u3.bx HP2.out (by omega)); have HF3 := Lib.hid u3.box; have HB3 := Lib.hid (HB2.out.trans (u3.bel _ (by omega))); clear u3)
      | (refine wpList_store_box rfl 28 _ _ rfl (w.heap.size + 1) #[.int .i64 0, .int .i64 0, .int .i64 0] rfl rfl 28 #[.int .i64 0, .int .i64 0, .int .i64 0] HP3.out (by kernel_rfl) rfl (one3 _ _ _) (fun w9 u9 => ?_)))
    refine bodyPost_ret (results_box3 Try.results42 _ _ (w.heap.size + 1) 28 #[.int .i64 0, .int .i64 0, .int .i64 0] _ (.int .i64 0) (.int .i64 e0) rfl u9.box rfl rfl Try.underlying28 rfl (by kernel_rfl)) rfl ⟨rfl, ?_⟩
    exact HB3.out.trans (u9.bel _ (by omega))
  rw [stepv_ok c0]
  obtain ⟨ho, _, _, m0, m1⟩ := over_step_ok c0
  have CO := fun W (h : RdK W A l) => over19_any A n c l hn i x y k m (m + 1) W h hf hx hy
  rw [ho] at CO
  unfold setT
  obtain ⟨⟨i2, x2, y2⟩, hP⟩ : ∃ P, stepT l (i, x, y) k = P := ⟨_, rfl⟩
  rw [hP] at CO ⊢
  unfold sp3 fs4 at CO
  unfold sp3
  simp only at CO ⊢
  generalize b0 l (i, x, y) k = t0 at CO ⊢
  generalize b1 l (i, x, y) k = t1 at CO ⊢
  generalize b2 l (i, x, y) m k = t2 at CO ⊢
  generalize b3 (i, x, y) k = t3 at CO ⊢
  have FJ : ∀ b : Bool, (b = true → noteF (-1) b m = m) ∧ (b = false → noteF (-1) b m = -1) := fun b => by
    unfold noteF; exact ⟨fun h => if_pos ⟨h, by decide⟩, fun h => if_neg (fun c => by rw [h] at c; cases c.1)⟩
  have HJ0 := Lib.hid (FJ t0)
  have HJ1 := Lib.hid (FJ t1)
  have HJ2 := Lib.hid (FJ t2)
  have HJ3 := Lib.hid (FJ t3)
  generalize noteF (-1) t0 m = f0 at CO HJ0
  generalize noteF (-1) t1 m = f1 at CO HJ1
  generalize noteF (-1) t2 m = f2 at CO HJ2
  generalize noteF (-1) t3 m = f3 at CO HJ3
  clear FJ ho hP c0 h hf hn hx hy hm
  have S0 : Bx ((w.alloc (.cells #[.int .i64 i, .int .i64 x, .int .i64 y] 28)).alloc (.cells #[.int .i64 0, .int .i64 0, .int .i64 0] 28)) w.heap.size 28 #[.int .i64 i, .int .i64 x, .int .i64 y] := (Bx.new (W := w) _ _ rfl).alloc _
  have P0 : Bx ((w.alloc (.cells #[.int .i64 i, .int .i64 x, .int .i64 y] 28)).alloc (.cells #[.int .i64 0, .int .i64 0, .int .i64 0] 28)) (w.heap.size + 1) 28 #[.int .i64 0, .int .i64 0, .int .i64 0] := Bx.new (W := w.alloc (.cells #[.int .i64 i, .int .i64 x, .int .i64 y] 28)) _ _ (by simp)
  have B0 : Below w.heap.size w ((w.alloc (.cells #[.int .i64 i, .int .i64 x, .int .i64 y] 28)).alloc (.cells #[.int .i64 0, .int .i64 0, .int .i64 0] 28)) := by (repeat (first | exact Below.refl _ _ | (refine b_st ?_ (by first | (simp; done) | (simp; omega))) | (refine b_al ?_ (Nat.le_refl _) _) | refine b_dn ?_ | refine b_dr ?_ | (refine b_cl ?_ (Nat.le_refl _) (by assumption))))
  have HS0 := Lib.hid S0
  have HP0 := Lib.hid P0
  have HB0 := Lib.hid B0
  clear S0 P0 B0
  go_enter Try.func42, Try.ntmps42
  go_wp2_with (first
    | (go_at_call 53; refine (CO _ (HK.out.below HB0.out)).mono ?_; rintro e w1 ⟨rfl, hb1⟩; have HS1 := Lib.hid (HS0.out.below hb1); have HP1 := Lib.hid (HP0.out.below hb1); have HB1 := Lib.hid (b_cl HB0.out (Nat.le_refl _) hb1); have lt1 := HP1.out.lt; have lta1 : w.heap.size < w1.heap.size := (by omega); have s1 := HS1.out.cell (k := 0) rfl; clear hb1)
    | (refine wpList_store_box rfl 28 _ _ rfl w.heap.size #[.int .i64 i2, .int .i64 x2, .int .i64 y2] rfl rfl 28 #[.int .i64 i, .int .i64 x, .int .i64 y] (HS1.out.alloc _) (by kernel_rfl) rfl (one3 _ _ _) (fun w2 u2 => ?_); have HS2 := Lib.hid u2.box; have HP2 := Lib.hid (u2.bx (HP1.out.alloc _) (by omega)); have HF2 := Lib.hid (u2.bx (Bx.new (W := w1) 113 #[.int .i64 0, .int .i64 0, .int .i64 0, .int .i64 0] rfl) (by omega)); have HB2 := Lib.hid ((b_al HB1.out (Nat.le_refl _) _).trans (u2.bel _ (Nat.le_refl _))); have z2 := u2.size; (try simp at z2); clear u2)
    | (refine wpList_store_box rfl 113 _ _ rfl w1.heap.size #[.int .i64 f0, .int .i64 f1, .int .i64 f2, .int .i64 f3] rfl rfl 113 #[.int .i64 0, .int .i64 0, .int .i64 0, .int .i64 0] HF2.out (by kernel_rfl) rfl (one4 _ _ _ _) (fun w3 u3 => ?_); have HS3 := Lib.hid (u3.bx HS2.out (by omega)); have HP3 := Lib.hid (u3.bx HP2.out (by omega)); have HF3 := Lib.hid u3.box; have HB3 := Lib.hid (HB2.out.trans (u3.bel _ (by omega))); clear u3)
    | refine wpList_load_box (by rfl) 113 _ rfl w1.heap.size rfl 113 #[.int .i64 f0, .int .i64 f1, .int .i64 f2, .int .i64 f3] _ HF3.out Try.underlying113 rfl (by kernel_rfl) ?_)
  go_loopw [13, 33] (fun s13 s33 wr => w3 = wr ∧ ((s33 = .int .i64 0 ∧ s13 = .int .i64 0) ∨ (s33 = .int .i64 1 ∧ s13 = .int .i64 (bitE t0 1024)) ∨ (s33 = .int .i64 2 ∧ s13 = .int .i64 (bitE t0 1024 + bitE t1 2048)) ∨ (s33 = .int .i64 3 ∧ s13 = .int .i64 (bitE t0 1024 + bitE t1 2048 + bitE t2 4096)) ∨ (s33 = .int .i64 4 ∧ s13 = .int .i64 (bitE t0 1024 + bitE t1 2048 + bitE t2 4096 + bitE t3 8192)))) (fun _ s33 _ => 4 - (intOf s33).toNat)
  case atStart => exact ⟨rfl, Or.inl ⟨rfl, rfl⟩⟩
  case round =>
    obtain ⟨rfl, H⟩ := hrel
    rcases H with ⟨rfl, rfl⟩ | ⟨rfl, rfl⟩ | ⟨rfl, rfl⟩ | ⟨rfl, rfl⟩ | ⟨rfl, rfl⟩
    · have hi := fun W => at4_0 f0 f1 f2 f3 W
      by_cases ht : t0 = true
      · have hf0 : 0 ≤ f0 := by rw [HJ0.out.1 ht]; exact m0
        have ho0 : bits .or .i64 (0) 1024 = 1024 := or_0 
        have HT := Lib.hid (show 1024 = bitE t0 1024 by rw [ht]; rfl)
        clear ht
        go_wp2
        go_roundw
        case rel => exact ⟨trivial, Or.inr (Or.inl ⟨by go_num, congrArg (Value.int .i64) HT.out⟩)⟩
        case measure => simp [intOf]
      · have ht2 : t0 = false := by simpa using ht
        have hf0 : f0 < 0 := by rw [HJ0.out.2 ht2]; decide
        have HT := Lib.hid (show 0 = bitE t0 1024 by rw [ht2]; simp [bitE])
        clear ht ht2
        go_wp2
        go_roundw
        case rel => exact ⟨trivial, Or.inr (Or.inl ⟨by go_num, congrArg (Value.int .i64) HT.out⟩)⟩
        case measure => simp [intOf]
    · have hi := fun W => at4_1 f0 f1 f2 f3 W
      by_cases ht : t1 = true
      · have hf0 : 0 ≤ f1 := by rw [HJ1.out.1 ht]; exact m0
        have ho1 : bits .or .i64 (bitE t0 1024) 2048 = bitE t0 1024 + 2048 := or_1 t0
        have HT := Lib.hid (show bitE t0 1024 + 2048 = bitE t0 1024 + bitE t1 2048 by rw [ht]; rfl)
        clear ht
        go_wp2
        go_roundw
        case rel => exact ⟨trivial, Or.inr (Or.inr (Or.inl ⟨by go_num, congrArg (Value.int .i64) HT.out⟩))⟩
        case measure => simp [intOf]
      · have ht2 : t1 = false := by simpa using ht
        have hf0 : f1 < 0 := by rw [HJ1.out.2 ht2]; decide
        have HT := Lib.hid (show bitE t0 1024 = bitE t0 1024 + bitE t1 2048 by rw [ht2]; simp [bitE])
        clear ht ht2
        go_wp2
        go_roundw
        case rel => exact ⟨trivial, Or.inr (Or.inr (Or.inl ⟨by go_num, congrArg (Value.int .i64) HT.out⟩))⟩
        case measure => simp [intOf]
    · have hi := fun W => at4_2 f0 f1 f2 f3 W
      by_cases ht : t2 = true
      · have hf0 : 0 ≤ f2 := by rw [HJ2.out.1 ht]; exact m0
        have ho2 : bits .or .i64 (bitE t0 1024 + bitE t1 2048) 4096 = bitE t0 1024 + bitE t1 2048 + 4096 := or_2 t0 t1
        have HT := Lib.hid (show bitE t0 1024 + bitE t1 2048 + 4096 = bitE t0 1024 + bitE t1 2048 + bitE t2 4096 by rw [ht]; rfl)
        clear ht
        go_wp2
        go_roundw
        case rel => exact ⟨trivial, Or.inr (Or.inr (Or.inr (Or.inl ⟨by go_num, congrArg (Value.int .i64) HT.out⟩)))⟩
        case measure => simp [intOf]
      · have ht2 : t2 = false := by simpa using ht
        have hf0 : f2 < 0 := by rw [HJ2.out.2 ht2]; decide
        have HT := Lib.hid (show bitE t0 1024 + bitE t1 2048 = bitE t0 1024 + bitE t1 2048 + bitE t2 4096 by rw [ht2]; simp [bitE])
        clear ht ht2
        go_wp2
        go_roundw
        case rel => exact ⟨trivial, Or.inr (Or.inr (Or.inr (Or.inl ⟨by go_num, congrArg (Value.int .i64) HT.out⟩)))⟩
        case measure => simp [intOf]
    · have hi := fun W => at4_3 f0 f1 f2 f3 W
      by_cases ht : t3 = true
      · have hf0 : 0 ≤ f3 := by rw [HJ3.out.1 ht]; exact m0
        have ho3 : bits .or .i64 (bitE t0 1024 + bitE t1 2048 + bitE t2 4096) 8192 = bitE t0 1024 + bitE t1 2048 + bitE t2 4096 + 8192 := or_3 t0 t1 t2
        have HT := Lib.hid (show bitE t0 1024 + bitE t1 2048 + bitE t2 4096 + 8192 = bitE t0 1024 + bitE t1 2048 + bitE t2 4096 + bitE t3 8192 by rw [ht]; rfl)
        clear ht
        go_wp2
        go_roundw
        case rel => exact ⟨trivial, Or.inr (Or.inr (Or.inr (Or.inr (⟨by go_num, congrArg (Value.int .i64) HT.out⟩))))⟩
        case measure => simp [intOf]
      · have ht2 : t3 = false := by simpa using ht
        have hf0 : f3 < 0 := by rw [HJ3.out.2 ht2]; decide
        have HT := Lib.hid (show bitE t0 1024 + bitE t1 2048 + bitE t2 4096 = bitE t0 1024 + bitE t1 2048 + bitE t2 4096 + bitE t3 8192 by rw [ht2]; simp [bitE])
        clear ht ht2
        go_wp2
        go_roundw
        case rel => exact ⟨trivial, Or.inr (Or.inr (Or.inr (Or.inr (⟨by go_num, congrArg (Value.int .i64) HT.out⟩))))⟩
        case measure => simp [intOf]
    · have q0 := HS3.out.cell (k := 0) rfl
      go_wp2_with (first
        | refine wpList_load_box (by rfl) 28 _ rfl w.heap.size rfl 28 #[.int .i64 i2, .int .i64 x2, .int .i64 y2] _ HS3.out Try.underlying28 rfl (by kernel_rfl) ?_
        | (refine wpList_store_box rfl 28 _ _ rfl (w.heap.size + 1) #[.int .i64 i2, .int .i64 x2, .int .i64 y2] rfl rfl 28 #[.int .i64 0, .int .i64 0, .int .i64 0] HP3.out (by kernel_rfl) rfl (one3 _ _ _) (fun w9 u9 => ?_)))
      refine bodyPost_ret (results_box3 Try.results42 _ _ (w.heap.size + 1) 28 #[.int .i64 i2, .int .i64 x2, .int .i64 y2] _ (.int .i64 (bitE t0 1024 + bitE t1 2048 + bitE t2 4096 + bitE t3 8192)) (.int .i64 0) rfl u9.box rfl rfl Try.underlying28 rfl (by kernel_rfl)) rfl ⟨rfl, ?_⟩
      exact HB3.out.trans (u9.bel _ (by omega))

end Go.Proofs.Ytolbihfnogbjaaa

/- What Bound and Check of layer 25 return. Conditions: the tasks can be read. -/
namespace Go.Proofs.Ytolbihfnogbjaaa
open Go.RowKit

set_option linter.unusedVariables false

theorem left_top {l : List Tk} (ok : ∀ t ∈ l, TkOk t) (hl : l.length ≤ 2001) {s : Pt} (fit : Fits l s) : (leftT l s).1 ≤ 20170080 ∧ (leftT l s).2 ≤ 2881440 := by
  obtain ⟨h0, h1, h2, h3⟩ := fit
  have ht := sum_top (l := l.drop s.1.toNat) (fun t ht => ok t (List.mem_of_mem_drop ht))
  have hlen : (l.drop s.1.toNat).length ≤ 2001 := by simp; omega
  unfold leftT
  simp only
  rcases Int.lt_or_le s.1 l.length with h | h
  · have := h3 h
    omega
  · have := h2 (by omega)
    omega

set_option maxRecDepth 100000 in
set_option maxHeartbeats 4000000 in
theorem bound_left (A : Option Addr) (n c : Nat) (l : List Tk) (hn : l.length = n) (a : Lb) (w : World) (h : RdK w A l) (few : Few l) (hcn : n ≤ c) (hz : A = none → c = 0) (hy : -9223372036854775808 ≤ a.2.2.1 ∧ a.2.2.1 ≤ 9223372036854775807) (hs : -9223372036854775808 ≤ a.2.2.2 ∧ a.2.2.2 ≤ 9223372036854775807) (e0 : Int) (hl : leftV l a.2 = (0, 0, e0)) (h0 : e0 ≠ 0) :
    Calls Try.prog 13 #[.slice A n c, .agg (lb a)] w fun e w' => e = .returned (.tuple #[.int .i64 0, .int .i64 e0]) ∧ Below w.heap.size w w' := by
  have XL : Bx (w.alloc (.cells (lb a) 33)) (w.heap.size) 33 (lb a) := (Bx.new (W := w) _ _ (by simp))
  have B0 : Below w.heap.size w (w.alloc (.cells (lb a) 33)) := b_al (Below.refl _ _) (Nat.le_refl _) _
  have HK := Lib.hid (h.below B0)
  have CL := fun W (h : RdK W A l) => leftL19_any A n c l hn a.2.1 a.2.2.1 a.2.2.2 W h few hcn hz hy hs
  rw [show ((a.2.1, a.2.2.1, a.2.2.2) : Pt) = a.2 from rfl, hl] at CL
  have g1 : (e0 == 0) = false := by simp [h0]
  have g2 : (e0 != 0) = true := by simp [h0]
  clear h0
  clear h few hcn hz hy hs hl hn
  go_enter Try.func13, Try.ntmps13
  go_wp2_with (first
    | go_skip
    | refine wpList_loadG (by rfl) 28 _ rfl (w.heap.size) (14) rfl (sp3 a.2) _ XL.lbS Try.underlying28 rfl (by kernel_rfl) ?_
    | (go_at_call 26; refine (CL _ HK.out).mono ?_; rintro e w1 ⟨rfl, hb1⟩; have HB1 := Lib.hid (b_cl B0 (Nat.le_refl _) hb1)))
  go_ret2
  exact ⟨rfl, HB1.out⟩

set_option maxRecDepth 100000 in
set_option maxHeartbeats 4000000 in
theorem bound_meter (A : Option Addr) (n c : Nat) (l : List Tk) (hn : l.length = n) (a : Lb) (w : World) (h : RdK w A l) (few : Few l) (hcn : n ≤ c) (hz : A = none → c = 0) (hy : -9223372036854775808 ≤ a.2.2.1 ∧ a.2.2.1 ≤ 9223372036854775807) (hs : -9223372036854775808 ≤ a.2.2.2 ∧ a.2.2.2 ≤ 9223372036854775807) (d v : Int) (hl : leftV l a.2 = (d, v, 0)) (hm : ¬ MayM a.1) :
    Calls Try.prog 13 #[.slice A n c, .agg (lb a)] w fun e w' => e = .returned (.tuple #[.int .i64 0, .int .i64 1]) ∧ Below w.heap.size w w' := by
  have XL : Bx (w.alloc (.cells (lb a) 33)) (w.heap.size) 33 (lb a) := (Bx.new (W := w) _ _ (by simp))
  have B0 : Below w.heap.size w (w.alloc (.cells (lb a) 33)) := b_al (Below.refl _ _) (Nat.le_refl _) _
  have HK := Lib.hid (h.below B0)
  have CL := fun W (h : RdK W A l) => leftL19_any A n c l hn a.2.1 a.2.2.1 a.2.2.2 W h few hcn hz hy hs
  rw [show ((a.2.1, a.2.2.1, a.2.2.2) : Pt) = a.2 from rfl, hl] at CL
  have CM := fun W => mcheck_any a.1 W
  rw [if_neg hm] at CM
  clear hm
  clear h few hcn hz hy hs hl hn
  go_enter Try.func13, Try.ntmps13
  go_wp2_with (first
    | go_skip
    | refine wpList_loadG (by rfl) 28 _ rfl (w.heap.size) (14) rfl (sp3 a.2) _ XL.lbS Try.underlying28 rfl (by kernel_rfl) ?_
    | (go_at_call 26; refine (CL _ HK.out).mono ?_; rintro e w1 ⟨rfl, hb1⟩; have HB1 := Lib.hid (b_cl B0 (Nat.le_refl _) hb1); have XL1 := XL.below hb1)
    | refine wpList_loadG (by rfl) 26 _ rfl (w.heap.size) (0) rfl (mt a.1) _ XL1.lbM Try.underlying26 rfl (by kernel_rfl) ?_
    | (go_at_call 27; (with_reducible refine (CM _).mono ?_); rintro e w2 ⟨rfl, hb2⟩; have HB2 := Lib.hid (b_cl HB1.out (Nat.le_refl _) hb2); have q2 : w2.cell? ⟨w.heap.size, 0, none⟩ = some (.int .i64 a.1.now) := (XL1.below hb2).lbN))
  go_ret2
  exact ⟨rfl, HB2.out⟩

set_option maxRecDepth 100000 in
set_option maxHeartbeats 4000000 in
theorem bound_ok (A : Option Addr) (n c : Nat) (l : List Tk) (hn : l.length = n) (a : Lb) (w : World) (h : RdK w A l) (few : Few l) (hcn : n ≤ c) (hz : A = none → c = 0) (hy : -9223372036854775808 ≤ a.2.2.1 ∧ a.2.2.1 ≤ 9223372036854775807) (hs : -9223372036854775808 ≤ a.2.2.2 ∧ a.2.2.2 ≤ 9223372036854775807) (d v : Int) (hl : leftV l a.2 = (d, v, 0)) (hm : MayM a.1) (hd : 0 ≤ d ∧ d ≤ 20170080) (hv : 0 ≤ v ∧ v ≤ 2881440) :
    Calls Try.prog 13 #[.slice A n c, .agg (lb a)] w fun e w' => e = .returned (.tuple #[.int .i64 (a.1.now + d + v), .int .i64 0]) ∧ Below w.heap.size w w' := by
  have XL : Bx (w.alloc (.cells (lb a) 33)) (w.heap.size) 33 (lb a) := (Bx.new (W := w) _ _ (by simp))
  have B0 : Below w.heap.size w (w.alloc (.cells (lb a) 33)) := b_al (Below.refl _ _) (Nat.le_refl _) _
  have HK := Lib.hid (h.below B0)
  have CL := fun W (h : RdK W A l) => leftL19_any A n c l hn a.2.1 a.2.2.1 a.2.2.2 W h few hcn hz hy hs
  rw [show ((a.2.1, a.2.2.1, a.2.2.2) : Pt) = a.2 from rfl, hl] at CL
  have CM := fun W => mcheck_any a.1 W
  rw [if_pos hm] at CM
  have hN : 0 ≤ a.1.now ∧ a.1.now ≤ 40320 := hm.1
  clear hm
  clear h few hcn hz hy hs hl hn
  go_enter Try.func13, Try.ntmps13
  go_wp2_with (first
    | go_skip
    | refine wpList_loadG (by rfl) 28 _ rfl (w.heap.size) (14) rfl (sp3 a.2) _ XL.lbS Try.underlying28 rfl (by kernel_rfl) ?_
    | (go_at_call 26; refine (CL _ HK.out).mono ?_; rintro e w1 ⟨rfl, hb1⟩; have HB1 := Lib.hid (b_cl B0 (Nat.le_refl _) hb1); have XL1 := XL.below hb1)
    | refine wpList_loadG (by rfl) 26 _ rfl (w.heap.size) (0) rfl (mt a.1) _ XL1.lbM Try.underlying26 rfl (by kernel_rfl) ?_
    | (go_at_call 27; (with_reducible refine (CM _).mono ?_); rintro e w2 ⟨rfl, hb2⟩; have HB2 := Lib.hid (b_cl HB1.out (Nat.le_refl _) hb2); have q2 : w2.cell? ⟨w.heap.size, 0, none⟩ = some (.int .i64 a.1.now) := (XL1.below hb2).lbN))
  go_ret2
  exact ⟨rfl, HB2.out⟩

theorem bound25_any (A : Option Addr) (n c : Nat) (l : List Tk) (hn : l.length = n) (a : Lb) (w : World) (h : RdK w A l) (few : Few l) (hcn : n ≤ c) (hz : A = none → c = 0) (hy : -9223372036854775808 ≤ a.2.2.1 ∧ a.2.2.1 ≤ 9223372036854775807) (hs : -9223372036854775808 ≤ a.2.2.2 ∧ a.2.2.2 ≤ 9223372036854775807) :
    Calls Try.prog 13 #[.slice A n c, .agg (lb a)] w fun e w' => e = .returned (.tuple #[.int .i64 (if bndE l a = 0 then boundV l a else 0), .int .i64 (bndE l a)]) ∧ Below w.heap.size w w' := by
  by_cases h0 : spotV l a.2 = 0
  · obtain ⟨ck, fit⟩ := spot_zero h0
    obtain ⟨ok, hl⟩ := checkt_zero ck
    by_cases hm : MayM a.1
    · rw [bnd_yes ck ⟨hm, fit⟩, if_pos rfl]
      have hb := left_none ok fit
      have ht := left_top ok hl fit
      exact bound_ok A n c l hn a w h few hcn hz hy hs _ _ (leftv_ok h0) hm ⟨hb.1, ht.1⟩ ⟨hb.2.1, ht.2⟩
    · rw [bnd_no ck (fun r => hm r.1), if_neg (by decide)]
      exact bound_meter A n c l hn a w h few hcn hz hy hs _ _ (leftv_ok h0) hm
  · have e : bndE l a = spotV l a.2 := by
      by_cases ck : checkT l = 0
      · have hf : ¬ Fits l a.2 := fun hf => h0 (spot_yes ck hf)
        rw [bnd_no ck (fun r => hf r.2), spot_no ck hf]
      · rw [bnd_bad rfl ck, spot_bad rfl ck]
    rw [e, if_neg h0]
    exact bound_left A n c l hn a w h few hcn hz hy hs _ (leftv_bad rfl h0) h0

set_option maxRecDepth 100000 in
set_option maxHeartbeats 4000000 in
theorem check25_bad (x : Nat → Int) (A : Option Addr) (n c : Nat) (l : List Tk) (hn : l.length = n) (a : Lb) (w : World) (h : RdK w A l) (few : Few l) (hcn : n ≤ c) (hz : A = none → c = 0) (hy : -9223372036854775808 ≤ a.2.2.1 ∧ a.2.2.1 ≤ 9223372036854775807) (hs : -9223372036854775808 ≤ a.2.2.2 ∧ a.2.2.2 ≤ 9223372036854775807) (hx : ¬ May x) :
    Calls Try.prog 10 #[.agg (bk x), .slice A n c, .agg (lb a)] w fun e w' => e = .returned (.int .i64 (14)) ∧ Below w.heap.size w w' := by
  have XB : Bx ((w.alloc (.cells (bk x) 23)).alloc (.cells (lb a) 33)) (w.heap.size) 23 (bk x) := (Bx.new (W := w) _ _ (by simp)).alloc _
  have XL : Bx ((w.alloc (.cells (bk x) 23)).alloc (.cells (lb a) 33)) (w.heap.size + 1) 33 (lb a) := (Bx.new (W := (w.alloc (.cells (bk x) 23))) _ _ (by simp))
  have B0 : Below w.heap.size w ((w.alloc (.cells (bk x) 23)).alloc (.cells (lb a) 33)) := b_al (b_al (Below.refl _ _) (Nat.le_refl _) _) (Nat.le_refl _) _
  have CC := fun W => check7_any x W
  rw [if_neg hx] at CC
  clear hx
  clear h few hcn hz hy hs hn
  go_enter Try.func10, Try.ntmps10
  go_wp2_with (first
    | go_skip
    | refine wpList_load_box (by rfl) 23 _ rfl (w.heap.size) rfl 23 (bk x) _ XB Try.underlying23 rfl (by kernel_rfl) ?_
    | (go_at_call 23; (with_reducible refine (CC _).mono ?_); rintro e w1 ⟨rfl, hb1⟩; have HB1 := Lib.hid (b_cl B0 (Nat.le_refl _) hb1)))
  go_ret
  exact ⟨rfl, HB1.out⟩

set_option maxRecDepth 100000 in
set_option maxHeartbeats 4000000 in
theorem check25_ok (x : Nat → Int) (A : Option Addr) (n c : Nat) (l : List Tk) (hn : l.length = n) (a : Lb) (w : World) (h : RdK w A l) (few : Few l) (hcn : n ≤ c) (hz : A = none → c = 0) (hy : -9223372036854775808 ≤ a.2.2.1 ∧ a.2.2.1 ≤ 9223372036854775807) (hs : -9223372036854775808 ≤ a.2.2.2 ∧ a.2.2.2 ≤ 9223372036854775807) (hx : May x) :
    Calls Try.prog 10 #[.agg (bk x), .slice A n c, .agg (lb a)] w fun e w' => e = .returned (.int .i64 (bndE l a)) ∧ Below w.heap.size w w' := by
  have XB : Bx ((w.alloc (.cells (bk x) 23)).alloc (.cells (lb a) 33)) (w.heap.size) 23 (bk x) := (Bx.new (W := w) _ _ (by simp)).alloc _
  have XL : Bx ((w.alloc (.cells (bk x) 23)).alloc (.cells (lb a) 33)) (w.heap.size + 1) 33 (lb a) := (Bx.new (W := (w.alloc (.cells (bk x) 23))) _ _ (by simp))
  have B0 : Below w.heap.size w ((w.alloc (.cells (bk x) 23)).alloc (.cells (lb a) 33)) := b_al (b_al (Below.refl _ _) (Nat.le_refl _) _) (Nat.le_refl _) _
  have CC := fun W => check7_any x W
  rw [if_pos hx] at CC
  clear hx
  have HK := Lib.hid (h.below B0)
  have CB := fun W (h : RdK W A l) => bound25_any A n c l hn a W h few hcn hz hy hs
  generalize bndE l a = e0 at CB ⊢
  generalize (if e0 = 0 then boundV l a else 0) = v0 at CB
  clear h few hcn hz hy hs hn
  go_enter Try.func10, Try.ntmps10
  go_wp2_with (first
    | go_skip
    | refine wpList_load_box (by rfl) 23 _ rfl (w.heap.size) rfl 23 (bk x) _ XB Try.underlying23 rfl (by kernel_rfl) ?_
    | (go_at_call 23; (with_reducible refine (CC _).mono ?_); rintro e w1 ⟨rfl, hb1⟩; have HB1 := Lib.hid (b_cl B0 (Nat.le_refl _) hb1); have XL1 := XL.below hb1; have HK1 := Lib.hid (HK.out.below hb1))
    | refine wpList_load_box (by rfl) 33 _ rfl (w.heap.size + 1) rfl 33 (lb a) _ XL1 Try.underlying33 rfl (by kernel_rfl) ?_
    | (go_at_call 13; (with_reducible refine (CB _ HK1.out).mono ?_); rintro e w2 ⟨rfl, hb2⟩; have HB2 := Lib.hid (b_cl HB1.out (Nat.le_refl _) hb2)))
  go_ret
  exact ⟨rfl, HB2.out⟩

theorem check25_any (x : Nat → Int) (A : Option Addr) (n c : Nat) (l : List Tk) (hn : l.length = n) (a : Lb) (w : World) (h : RdK w A l) (few : Few l) (hcn : n ≤ c) (hz : A = none → c = 0) (hy : -9223372036854775808 ≤ a.2.2.1 ∧ a.2.2.1 ≤ 9223372036854775807) (hs : -9223372036854775808 ≤ a.2.2.2 ∧ a.2.2.2 ≤ 9223372036854775807) :
    Calls Try.prog 10 #[.agg (bk x), .slice A n c, .agg (lb a)] w fun e w' => e = .returned (.int .i64 (chk25 x l a)) ∧ Below w.heap.size w w' := by
  by_cases hx : May x
  · rw [chk25_may hx]
    exact check25_ok x A n c l hn a w h few hcn hz hy hs hx
  · rw [chk25_book hx]
    exact check25_bad x A n c l hn a w h few hcn hz hy hs hx

end Go.Proofs.Ytolbihfnogbjaaa
