/- What the function of layer 20 does that Audit hands to follow: each first minute of a piece is noted. Conditions: as each theorem says. -/
import Derived.Test.YthiiipbfdgaemaaRows
import Derived.Test.YthiiipbfdgaemaaTrailNote
import Derived.Test.YthiiipbfdgaemaaZ4
import Derived.WalkKit
import Derived.WalkSpells
import Derived.WalkSmall
import Derived.Below
import Derived.Lib.Hide
import Derived.OwnWalk
import Derived.Outline
import Derived.OneCell
import Derived.Deep.DeepCutAuto
namespace Go.Proofs.Ythiiipbfdgaemaa
open Go.RowKit

/-- First minutes, counted from ClDrive on; those that are noted. -/
def fget (f : Fs) (i : Nat) : Int := if i = 0 then f.1 else if i = 1 then f.2.1 else if i = 2 then f.2.2.1 else f.2.2.2
def GF (F : Fs) : Gs := fun c => if c < 4 ∧ 0 ≤ fget F c then some (fget F c) else none

/-- The first i of them noted. -/
def stepG (f : Fs) : Nat → Gs → Gs
  | 0, G => G
  | i + 1, G => if 0 ≤ fget f i then putG (stepG f i G) i (fget f i) else stepG f i G

theorem fget_comb (F f : Fs) (i : Nat) : fget (combF F f) i = if fget F i < 0 then fget f i else fget F i := by
  unfold fget combF
  repeat' split
  all_goals first | rfl | contradiction | omega

theorem stepG_at (F f : Fs) : ∀ (i : Nat), i ≤ 4 → ∀ c, stepG f i (GF F) c = if c < i then GF (combF F f) c else GF F c
  | 0, _, c => by simp [stepG]
  | i + 1, hi, c => by
    have ih := stepG_at F f i (by omega)
    unfold stepG
    have hc : GF (combF F f) c = if c < 4 ∧ 0 ≤ (if fget F c < 0 then fget f c else fget F c) then some (if fget F c < 0 then fget f c else fget F c) else none := by
      unfold GF; rw [fget_comb]
    by_cases h : 0 ≤ fget f i
    · rw [if_pos h]
      unfold putG
      by_cases e : c = i
      · subst e
        rw [ih c, if_neg (Nat.lt_irrefl _), if_pos (Nat.lt_succ_self _), hc]
        unfold GF
        by_cases k : 0 ≤ fget F c
        · have k2 : ¬ fget F c < 0 := by omega
          have c4 : c < 4 := by omega
          simp [k, k2, c4]
        · have k2 : fget F c < 0 := by omega
          have c4 : c < 4 := by omega
          simp [k, k2, h, c4]
      · rw [if_neg (fun k => e k.1), ih c]
        by_cases k : c < i
        · rw [if_pos k, if_pos (by omega)]
        · rw [if_neg k, if_neg (by omega)]
    · rw [if_neg h, ih c]
      by_cases e : c = i
      · subst e
        rw [if_neg (Nat.lt_irrefl _), if_pos (Nat.lt_succ_self _), hc]
        unfold GF
        by_cases k : 0 ≤ fget F c
        · have k2 : ¬ fget F c < 0 := by omega
          simp [k, k2]
        · have k2 : fget F c < 0 := by omega
          simp [k, k2, h]
      · by_cases k : c < i
        · rw [if_pos k, if_pos (by omega)]
        · rw [if_neg k, if_neg (by omega)]

theorem stepG_comb (F f : Fs) : stepG f 4 (GF F) = GF (combF F f) := by
  funext c
  rw [stepG_at F f 4 (Nat.le_refl _) c]
  by_cases h : c < 4
  · rw [if_pos h]
  · rw [if_neg h]
    unfold GF
    rw [if_neg (fun k => h k.1), if_neg (fun k => h k.1)]

theorem index4_0 (f0 f1 f2 f3 : Int) (w : World) : (Instr.index 66 (.agg #[.int .i64 f0, .int .i64 f1, .int .i64 f2, .int .i64 f3]) (.int .i64 0)).run Try.prog w = .ok (.int .i64 f0) w := by kernel_rfl
theorem index4_1 (f0 f1 f2 f3 : Int) (w : World) : (Instr.index 66 (.agg #[.int .i64 f0, .int .i64 f1, .int .i64 f2, .int .i64 f3]) (.int .i64 1)).run Try.prog w = .ok (.int .i64 f1) w := by kernel_rfl
theorem index4_2 (f0 f1 f2 f3 : Int) (w : World) : (Instr.index 66 (.agg #[.int .i64 f0, .int .i64 f1, .int .i64 f2, .int .i64 f3]) (.int .i64 2)).run Try.prog w = .ok (.int .i64 f2) w := by kernel_rfl
theorem index4_3 (f0 f1 f2 f3 : Int) (w : World) : (Instr.index 66 (.agg #[.int .i64 f0, .int .i64 f1, .int .i64 f2, .int .i64 f3]) (.int .i64 3)).run Try.prog w = .ok (.int .i64 f3) w := by kernel_rfl
theorem index4 (f : Fs) (i : Nat) (hi : i < 4) (w : World) : (Instr.index 66 (.agg #[.int .i64 f.1, .int .i64 f.2.1, .int .i64 f.2.2.1, .int .i64 f.2.2.2]) (.int .i64 (i : Int))).run Try.prog w = .ok (.int .i64 (fget f i)) w := by
  have : i = 0 ∨ i = 1 ∨ i = 2 ∨ i = 3 := by omega
  rcases this with rfl | rfl | rfl | rfl
  · exact index4_0 _ _ _ _ w
  · exact index4_1 _ _ _ _ w
  · exact index4_2 _ _ _ _ w
  · exact index4_3 _ _ _ _ w

/-- How what is noted stands, with the closure that notes in a cell of its own. -/
structure HanS (base E L N : Nat) (l : List Rc) (s : Nat) (W : World) : Prop where
  ns : NotS base E L l s W
  bN : Bx W N 63 #[.func (.func 23) #[] #[.pointer (some ⟨E, 0, none⟩), .pointer (some ⟨L, 0, none⟩)]]
  nb : N < base
  nE : N ≠ E
  nL : N ≠ L

theorem HanS.below {base E L N : Nat} {l : List Rc} {s : Nat} {W W' : World} (h : HanS base E L N l s W) (hb : Below W.heap.size W W') : HanS base E L N l s W' :=
  ⟨h.ns.below hb, h.bN.below hb, h.nb, h.nE, h.nL⟩

set_option maxRecDepth 20000 in
set_option maxHeartbeats 2000000 in
theorem hand20_any (base E L N : Nat) (l : List Rc) (s : Nat) (G : Gs) (k a b : Int) (sp tp : Pt) (f : Fs) (W : World) (h : HanS base E L N l s W) (hr : RepG l s G) (hf : ∀ i, i < 4 → fget f i ≤ 40320) :
    Calls Try.prog 26 #[.agg (pc13 k a b sp tp f), .pointer (some ⟨N, 0, none⟩)] W fun e W' =>
      e = .returned (.tuple #[]) ∧ (∃ l' s', HanS base E L N l' s' W' ∧ RepG l' s' (stepG f 4 G)) ∧ KpT 62 base E L W W' := by
  have X0 : Bx (W.alloc (.cells (pc13 k a b sp tp f) 68)) W.heap.size 68 (pc13 k a b sp tp f) := Bx.new (W := W) _ _ rfl
  have HX0 := Lib.hid X0
  have H0 := Lib.hid (h.below (b_al (Below.refl _ _) (Nat.le_refl _) (.cells (pc13 k a b sp tp f) 68)))
  have HR := Lib.hid hr
  have HFB := Lib.hid hf
  have HK0 := Lib.hid (KpT.of_below (T := 62) (base := base) (E := E) (L := L) (b_al (Below.refl W.heap.size W) (Nat.le_refl _) (.cells (pc13 k a b sp tp f) 68)) rfl)
  have lw : W.heap.size < (W.alloc (.cells (pc13 k a b sp tp f) 68)).heap.size := by simp
  clear h hr hf X0
  go_enter Try.func26, Try.ntmps26
  go_upto_region 1 with fail
  generalize W.alloc (.cells (pc13 k a b sp tp f) 68) = W1 at *
  have p9 : W1.cell? ⟨W.heap.size, 9, none⟩ = some (.int .i64 f.1) := HX0.out.cell (k := 9) rfl
  have p10 : W1.cell? ⟨W.heap.size, 10, none⟩ = some (.int .i64 f.2.1) := HX0.out.cell (k := 10) rfl
  have p11 : W1.cell? ⟨W.heap.size, 11, none⟩ = some (.int .i64 f.2.2.1) := HX0.out.cell (k := 11) rfl
  have p12 : W1.cell? ⟨W.heap.size, 12, none⟩ = some (.int .i64 f.2.2.2) := HX0.out.cell (k := 12) rfl
  go_wp2
  clear p9 p10 p11 p12 HX0 lw
  go_loopw [7] (fun s7 wr => ∃ (i : Nat) (l : List Rc) (s : Nat), i ≤ 4 ∧ s7 = .int .i64 (i : Int) ∧ HanS base E L N l s wr ∧ Hid (RepG l s (stepG f i G)) ∧ KpT 62 base E L W wr) (fun s7 _ => 4 - (intOf s7).toNat)
  case atStart => exact ⟨0, l, s, by omega, rfl, H0.out, HR, HK0.out⟩
  case round =>
    clear H0 HR HK0
    obtain ⟨i, l, s, hi, rfl, H, HR, HK⟩ := hrel
    obtain ⟨w2, rfl⟩ : ∃ w2 : World, w2 = wr := ⟨_, rfl⟩
    by_cases hlt : i < 4
    · have hix := fun W => index4 f i hlt W
      obtain ⟨v, hv⟩ : ∃ v, fget f i = v := ⟨_, rfl⟩
      have hv2 := HFB.out i hlt
      rw [hv] at hix hv2
      have cN := H.bN.cell (k := 0) rfl
      have lN := H.bN.lt
      by_cases hp : 0 ≤ v
      · have CN := fun W (h : NotS base E L l s W) => note20_any base E L l s (stepG f i G) i v W h HR.out (by omega) hp hv2
        have HE := Lib.hid (show stepG f (i + 1) G = putG (stepG f i G) i v by
          show (if 0 ≤ fget f i then _ else _) = _
          rw [hv, if_pos hp])
        have HH := Lib.hid H
        have HKh := Lib.hid HK
        obtain ⟨kk, hkk⟩ : ∃ kk, 10 + i = kk := ⟨_, rfl⟩
        rw [hkk] at CN
        have e10 : (10 : Int) + (i : Int) = (kk : Int) := by omega
        clear hkk
        have hlt' : (i : Int) < 4 := by omega
        clear H HK hv
        go_wp2_with (go_at_call 23; refine (CN _ HH.out.ns).mono ?_; rintro e w3 ⟨rfl, ⟨l3, s3, hn3, hr3⟩, hk3⟩)
        have HH3 := Lib.hid (show HanS base E L N l3 s3 w3 from ⟨hn3, hk3.bx HH.out.bN HH.out.nE HH.out.nL (by decide), HH.out.nb, HH.out.nE, HH.out.nL⟩)
        have HR3 := Lib.hid (show RepG l3 s3 (stepG f (i + 1) G) by rw [HE.out]; exact hr3)
        have HK3 := Lib.hid (HKh.out.trans hk3)
        clear hn3 hr3 hk3 CN HE
        go_roundw
        case rel => exact ⟨i + 1, l3, s3, by omega, by go_num, HH3.out, HR3, HK3.out⟩
        case measure => simp [intOf]; omega
      · have hp' : v < 0 := by omega
        have HE := Lib.hid (show stepG f (i + 1) G = stepG f i G by
          show (if 0 ≤ fget f i then _ else _) = _
          rw [hv, if_neg hp])
        have hlt' : (i : Int) < 4 := by omega
        clear hp hv
        go_wp2
        go_roundw
        case rel => exact ⟨i + 1, l, s, by omega, by go_num, H, Lib.hid (by rw [HE.out]; exact HR.out), HK⟩
        case measure => simp [intOf]; omega
    · obtain rfl : i = 4 := by omega
      go_wp2
      exact bodyPost_end (results_none Try.results26 _ _ _) rfl ⟨rfl, ⟨l, s, H, HR.out⟩, HK⟩

end Go.Proofs.Ythiiipbfdgaemaa
