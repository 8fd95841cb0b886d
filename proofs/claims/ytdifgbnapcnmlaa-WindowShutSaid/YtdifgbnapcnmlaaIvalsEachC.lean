/- What Each of layer 3 does: it hands the spans of the set on, one by one, till one is answered by false. Conditions: as each theorem says. -/
import Derived.Test.YtdifgbnapcnmlaaRows
import Derived.Test.YtdifgbnapcnmlaaBase
import Derived.Test.YtdifgbnapcnmlaaIvalsWords
import Derived.Test.YtdifgbnapcnmlaaIvalsOwn
import Derived.Test.YtdifgbnapcnmlaaIvalsMakeC
import Derived.WalkKit
import Derived.WalkSpells
import Derived.WalkSmall
import Derived.Below
import Derived.Outline
import Derived.OwnWalk
import Derived.Defers
import Derived.Recover
import Derived.Lib.Hide
namespace Go.Proofs.Ytdifgbnapcnmlaa
open Go.RowKit

theorem each_door (w : World) :
    CallsD Try.prog 39 #[] .returning w fun e u' w' => e = .returned (.tuple #[]) ∧ u' = .returning ∧ w' = w := by
  refine callsD_of_wpS Try.func39 rfl fun c₀ cs hu => ?_
  apply wpS_region
  simp [wpOpsS, go_sem, recoverD, hu, Try.ntmps39, bodyPostS, results, Try.results39]
  cases c₀
  simp_all

/-- What a function that Each hands spans to keeps (I: behind k spans that were answered by true, where the set's block is b) and leaves (J: behind the one that was answered by false). -/
structure Hands (g : Nat) (cb : Array Value) (l : List Sp) (w : World) (I : Nat → Nat → World → Prop) (J : Nat → World → Prop) : Prop where
  start : ∀ W b, Below w.heap.size w W → w.heap.size ≤ b → I b 0 W
  box : ∀ b k W x y, I b k W → I b k (W.alloc (.cells #[.int .i64 x, .int .i64 y] 31))
  step : ∀ b k W x y, b < W.heap.size → k < (setOf l).length → (setOf l).getD k (0, 0) = (x, y) → I b k W →
    Calls Try.prog g (#[.agg #[.int .i64 x, .int .i64 y]] ++ cb) W fun e W' => ∃ r, e = .returned (.bool r) ∧ W.heap.size ≤ W'.heap.size ∧ (∀ o, W'.cell? ⟨b, o, none⟩ = W.cell? ⟨b, o, none⟩) ∧ (r = true → I b (k + 1) W') ∧ (r = false → J (k + 1) W')

set_option maxHeartbeats 1600000 in
theorem each_any (A : Option Addr) (c : Nat) (l : List Sp) (g : Nat) (cb : Array Value) (w : World) (I : Nat → Nat → World → Prop) (J : Nat → World → Prop) (eg : ∀ args w, (callFunc g args).run Try.prog w = .ok (.enter g args) w)
    (h : RdS w A l) (hl : l.length ≤ 1000) (hh : Hands g cb l w I J) :
    Calls Try.prog 35 #[.slice A l.length c, .func (.func g) #[] cb] w fun e w' => e = .returned (.tuple #[]) ∧ ((∃ b, I b (setOf l).length w') ∨ ∃ k, k ≤ (setOf l).length ∧ 0 < k ∧ J k w') := by
  have HH := Lib.hid hh
  have HR := Lib.hid h
  clear hh h
  have hnil : Sem.run Try.prog (binOp BinOp.eql 37 (.func (.func g) #[] cb) .nilFunc) w = .ok (.bool false) w := by kernel_rfl
  go_enter_defers Try.func35, Try.ntmps35
  go_wp2_with (first | (go_at_call 34; refine (makel_any A c l _ HR.out hl).mono ?_; rintro e w1 ⟨v1, rfl, ho1, hb1⟩; obtain ⟨A1, c1, rfl, hr1, _, _⟩ := ho1.form; have R1 := Lib.hid hr1; have O1 := Lib.hid ho1; clear ho1 hr1))
  -- the set's block, or none
  obtain ⟨b, hbge, hcell⟩ : ∃ b, w.heap.size ≤ b ∧ ∀ k, k < (setOf l).length → ∃ x y, A1 = some ⟨b, 0, none⟩ ∧ b < w1.heap.size ∧ w1.cell? ⟨b, k * 2, none⟩ = some (.int .i64 x) ∧ w1.cell? ⟨b, k * 2 + 1, none⟩ = some (.int .i64 y) ∧ (setOf l).getD k (0, 0) = (x, y) := by
    rcases O1.out.2 with ⟨_, h0⟩ | ⟨g', cap, cur, h', hb', _⟩
    · exact ⟨w.heap.size, Nat.le_refl _, fun k hk => by omega⟩
    · simp only [Value.slice.injEq] at h'
      refine ⟨g', hb', fun k hk => ?_⟩
      obtain ⟨b0, off, x, y, hA, hbb, hc1, hc2, hs⟩ := R1.out.at_ hk
      rw [h'.1] at hA
      obtain ⟨rfl, rfl⟩ : g' = b0 ∧ 0 = off := by simpa using hA
      rw [Nat.zero_add] at hc1 hc2
      exact ⟨x, y, h'.1, hbb, hc1, hc2, hs.out⟩
  have HC := Lib.hid hcell
  have HI0 := Lib.hid (HH.out.start w1 b hb1 hbge)
  have hsl : (setOf l).length ≤ 1000 := Nat.le_trans (setOf_len l) hl
  obtain ⟨n, hn⟩ : ∃ n, (setOf l).length = n := ⟨_, rfl⟩
  rw [hn] at hsl
  have HN := Lib.hid hn
  clear R1 O1 hcell
  rw [hn]
  clear hn
  go_loopw [11] (fun i wr => ∃ k : Nat, k ≤ n ∧ i = .int .i64 k ∧ Hid (I b k wr) ∧ w1.heap.size ≤ wr.heap.size ∧ Hid (∀ o, wr.cell? ⟨b, o, none⟩ = w1.cell? ⟨b, o, none⟩)) (fun i _ => n - (intOf i).toNat)
  case atStart => exact ⟨0, Nat.zero_le _, rfl, HI0, Nat.le_refl _, Lib.hid fun _ => rfl⟩
  case round =>
    clear HI0
    obtain ⟨k, hk, rfl, hI, hsz, hkeep⟩ := hrel
    by_cases hlt : k < n
    · obtain ⟨x, y, rfl, hb1', hc1, hc2, hs⟩ := HC.out k (by rw [HN.out]; exact hlt)
      rw [← hkeep.out] at hc1 hc2
      have HS := Lib.hid hs
      clear hs
      have hbr : b < wr.heap.size := by omega
      have ST := HH.out.step b k (wr.alloc (.cells #[.int .i64 x, .int .i64 y] 31)) x y (by simp; omega) (by rw [HN.out]; exact hlt) HS.out (HH.out.box b k wr x y hI.out)
      go_wp2_with (go_at_fn g; refine ST.mono ?_; rintro e w2 ⟨r, rfl, hsz2, hk2, hyes, hno⟩)
      · have hr : r = false := by have h : (!r) = true := by assumption
                                  simpa using h
        have hJ := hno hr
        refine leaves_cons (f := 39) (args := #[]) (by simp) (by simp [go_sem]) ?_
        refine (each_door _).mono ?_
        rintro e u' w'' ⟨rfl, rfl, rfl⟩
        exact ⟨_, results_none rfl _ _ _, rfl, .inr ⟨k + 1, by rw [HN.out]; omega, by omega, hJ⟩⟩
      · have hr : r = true := by have h : (!r) = false := by assumption
                                 simpa using h
        go_roundw
        case rel => exact ⟨k + 1, by omega, by go_num, Lib.hid (hyes hr), by simp at hsz2; omega, Lib.hid fun o => by rw [hk2 o, World.cell?_alloc_lt _ _ _ (by exact hbr)]; exact hkeep.out o⟩
        case measure => simp [intOf]; omega
    · have hkn : k = n := by omega
      subst hkn
      go_wp2
      refine leaves_cons (f := 39) (args := #[]) (by simp) (by simp [go_sem]) ?_
      refine (each_door _).mono ?_
      rintro e u' w'' ⟨rfl, rfl, rfl⟩
      exact ⟨_, results_none rfl _ _ _, rfl, .inl ⟨b, by rw [HN.out]; exact hI.out⟩⟩

end Go.Proofs.Ytdifgbnapcnmlaa
