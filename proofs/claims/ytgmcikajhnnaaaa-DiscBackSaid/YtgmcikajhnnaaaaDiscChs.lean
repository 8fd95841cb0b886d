/- What readChanges of layer 11 does: it hands a day's changes on, one by one. Conditions: as the theorem says. -/
import Derived.Test.YtgmcikajhnnaaaaRows
import Derived.Test.YtgmcikajhnnaaaaDiscHand
import Derived.Test.YtgmcikajhnnaaaaDiscLeaf
import Derived.WalkKit
import Derived.WalkSpells
import Derived.WalkSmall
import Derived.Below
import Derived.Lib.Hide
import Derived.Outline
import Derived.OwnWalk
import Derived.OneCell
import Derived.BigQuiet
import Derived.RegionTactic
import Derived.Deep.QuietTactic
namespace Go.Proofs.Ytgmcikajhnnaaaa
open Go.RowKit

/-- What lies below base lies as it lay, but for two blocks. -/
structure KD (base L T : Nat) (W W' : World) : Prop where
  size : W.heap.size ≤ W'.heap.size
  os : W'.os = W.os
  tape : W'.tape = W.tape
  output : W'.output = W.output
  block : ∀ q, q < base → q ≠ L → q ≠ T → W'.heap[q]? = W.heap[q]?

theorem KD.refl (base L T : Nat) (W : World) : KD base L T W W := ⟨Nat.le_refl _, rfl, rfl, rfl, fun _ _ _ _ => rfl⟩
theorem KD.kt {base L T : Nat} {u v w : World} (h : KD base L T u v) (k : KT T v w) (hb : base ≤ u.heap.size) : KD base L T u w :=
  ⟨Nat.le_trans h.size k.size, k.os.trans h.os, k.tape.trans h.tape, k.output.trans h.output, fun q h1 h2 h3 => (k.block q (Nat.lt_of_lt_of_le h1 (Nat.le_trans hb h.size)) h3).trans (h.block q h1 h2 h3)⟩
theorem KD.kl {base L T : Nat} {u v w : World} (h : KD base L T u v) (k : KL base L v w) : KD base L T u w :=
  ⟨Nat.le_trans h.size k.size, k.os.trans h.os, k.tape.trans h.tape, k.output.trans h.output, fun q h1 h2 h3 => (k.block q h1 h2).trans (h.block q h1 h2 h3)⟩

theorem DayS.kt {G D L base T : Nat} {B0 s e : Int} {v : Value} {l : List Rc} {W W' : World} (h : DayS G D L base B0 s e v l W) (k : KT T W W') (hT : T < base) (h1 : G ≠ T) (h2 : D ≠ T) (h3 : L ≠ T) : DayS G D L base B0 s e v l W' :=
  ⟨KT.at_ h.fg k h1, KT.at_ h.fd k h2, KT.at_ h.fl k h3, KT.row h.own k hT, h.gb, h.db, h.lb, h.gl, h.dl, Nat.le_trans h.big k.size⟩

theorem Tak.kl {T base L p : Nat} {t : ByteArray} {W W' : World} (h : Tak T t p W) (k : KL base L W W') (hT : T < base) (h1 : T ≠ L) : Tak T t p W' := by
  unfold Tak at *
  rw [k.block T hT h1]; exact h

/-- What readChanges answers. -/
def ChP (G D L base T : Nat) (B0 s e : Int) (t : ByteArray) (w : World) (tot : Option (List Rc × List UInt8)) (r : Ending) (w' : World) : Prop :=
  KD base L T w w' ∧ (∀ R u, tot = some (R, u) → ∃ v p', r = .returned (.tuple #[.int .i64 0, .int .i64 0]) ∧ DayS G D L base B0 s e v R w' ∧ Tak T t p' w' ∧ rest t p' = u) ∧
    (tot = none → ∃ (pl er : Int) (v : Value) (l : List Rc), r = .returned (.tuple #[.int .i64 pl, .int .i64 er]) ∧ er ≠ 0 ∧ DayS G D L base B0 s e v l w')

theorem ch_no {G D L base T : Nat} {B0 s e : Int} {t : ByteArray} {w w' : World} {tot : Option (List Rc × List UInt8)} {r : Ending} (pl er : Int) (ht : tot = none) (hr : r = .returned (.tuple #[.int .i64 pl, .int .i64 er])) (hne : er ≠ 0) {v : Value} {l : List Rc} (hd : DayS G D L base B0 s e v l w') (k : KD base L T w w') :
    ChP G D L base T B0 s e t w tot r w' := ⟨k, fun R u h => (by rw [ht] at h; cases h), fun _ => ⟨pl, er, v, l, hr, hne, hd⟩⟩

theorem ch_ok {G D L base T : Nat} {B0 s e : Int} {t : ByteArray} {w w' : World} {tot : Option (List Rc × List UInt8)} {r : Ending} {R : List Rc} {v : Value} {p' : Nat} (ht : tot = some (R, rest t p')) (hr : r = .returned (.tuple #[.int .i64 0, .int .i64 0])) (hd : DayS G D L base B0 s e v R w') (hk : Tak T t p' w') (k : KD base L T w w') :
    ChP G D L base T B0 s e t w tot r w' := ⟨k, fun R' u h => (by rw [ht] at h; injection h with h; injection h with h1 h2; subst h1 h2; exact ⟨v, p', hr, hd, hk, rfl⟩), fun h => by rw [ht] at h; cases h⟩

theorem vd_len {s e : Int} {l : List Rc} (h : l = [] ∨ VD s e l) (hd : e ≤ dEnd s) (h0 : 0 ≤ s) : l.length ≤ 1440 := by
  rcases h with rfl | h
  · simp
  · have h1 := kinds_ge l s h.tl
    have h2 := h.tl.len h.ne
    rw [h.en] at h2
    unfold dEnd at hd
    omega

theorem rdN_cons (a b : Int) (n : Nat) (l : List Rc) (x y : UInt8) (u : List UInt8) : rdN a b (n + 1) l (x :: y :: u) = (stepV a b l (val x y)).bind fun l' => rdN a b n l' u := rfl

set_option maxRecDepth 20000 in
set_option maxHeartbeats 4000000 in
theorem changes_any (T G D L base p : Nat) (s e : Int) (t : ByteArray) (v0 : Value) (w : World) (hT : Tak T t p w) (hS : DayS G D L base (s - s % 1440) s e v0 [] w) (hTb : T < base) (hGT : G ≠ T) (hDT : D ≠ T) (hLT : L ≠ T) (hs0 : 0 ≤ s) (hse : s < e) (he : e ≤ 40320) (hd : e ≤ dEnd s) (ht : t.size ≤ 1000000) :
    Calls Try.prog 60 #[.func (.func 46) #[.pointer (some ⟨T, 0, none⟩)] #[], .func (.func 61) #[] #[.pointer (some ⟨G, 0, none⟩), .pointer (some ⟨D, 0, none⟩), .pointer (some ⟨L, 0, none⟩)]] w fun r w' => ChP G D L base T (s - s % 1440) s e t w (rdDay s e (rest t p)) r w' := by
  have eg1 : ∀ args w, (callFunc 46 args).run Try.prog w = .ok (.enter 46 args) w := enters_of Try.func46 (by kernel_rfl) rfl
  have eg2 : ∀ args w, (callFunc 61 args).run Try.prog w = .ok (.enter 61 args) w := enters_of Try.func61 (by kernel_rfl) rfl
  have HT := Lib.hid hT
  have HS := Lib.hid hS
  have hbw := hS.big
  have HD := Lib.hid hd
  obtain ⟨B0, hB0⟩ : ∃ B0, s - s % 1440 = B0 := ⟨_, rfl⟩
  rw [hB0] at HS ⊢
  have HB := Lib.hid hB0.symm
  clear hT hS hd hB0
  obtain ⟨r0, HR⟩ : ∃ r0, rest t p = r0 := ⟨_, rfl⟩
  rw [HR]
  rcases r0 with _ | ⟨x, _ | ⟨y, u0⟩⟩
  · have C := fun W (h : Tak T t p W) => two_no T p t W h (by rw [HR]; simp) ht
    clear HR
    go_enter Try.func60, Try.ntmps60
    go_wp2_with (go_at_fn 46; (with_reducible refine (C _ HT.out).mono ?_); rintro r1 w1 ⟨rfl, ht1, hk1⟩; skip)
    go_ret2
    exact ch_no _ 8 rfl rfl (by decide) (HS.out.kt hk1 hTb hGT hDT hLT) ((KD.refl base L T w).kt hk1 hbw)
  · have C := fun W (h : Tak T t p W) => two_no T p t W h (by rw [HR]; simp) ht
    clear HR
    go_enter Try.func60, Try.ntmps60
    go_wp2_with (go_at_fn 46; (with_reducible refine (C _ HT.out).mono ?_); rintro r1 w1 ⟨rfl, ht1, hk1⟩; skip)
    go_ret2
    exact ch_no _ 8 rfl rfl (by decide) (HS.out.kt hk1 hTb hGT hDT hLT) ((KD.refl base L T w).kt hk1 hbw)
  · have C := fun W (h : Tak T t p W) => two_yes T p t x y u0 W h HR ht
    have HU := Lib.hid (rest_two HR).2.2
    have hv := val_bd x y
    by_cases hz : val x y = 0
    · have HN := Lib.hid (show rdDay s e (x :: y :: u0) = none by rw [rdDay, if_pos hz])
      rw [hz] at C
      rw [HN.out]
      clear HR hz hv
      go_enter Try.func60, Try.ntmps60
      go_wp2_with (go_at_fn 46; (with_reducible refine (C _ HT.out).mono ?_); rintro r1 w1 ⟨rfl, ht1, hk1⟩; skip)
      go_ret2
      exact ch_no _ 7 rfl rfl (by decide) (HS.out.kt hk1 hTb hGT hDT hLT) ((KD.refl base L T w).kt hk1 hbw)
    · obtain ⟨cnt, hcnt⟩ : ∃ cnt : Nat, val x y = cnt := ⟨(val x y).toNat, by omega⟩
      have hce : rdDay s e (x :: y :: u0) = rdN s e cnt [] u0 := by rw [rdDay, if_neg hz, hcnt]; rfl
      rw [hce]
      have HC := Lib.hid (rfl : rdN s e cnt [] u0 = rdN s e cnt [] u0)
      obtain ⟨tot, htot⟩ : ∃ tot, rdN s e cnt [] u0 = tot := ⟨_, rfl⟩
      rw [htot]
      have HTOT := Lib.hid htot
      rw [hcnt] at C
      have hc0 : ((cnt : Int) == 0) = false := by simp; omega
      have hc1 : cnt ≤ 65535 := by omega
      clear HR hz hce htot hcnt hv HC
      go_enter Try.func60, Try.ntmps60
      go_wp2_with (go_at_fn 46; (with_reducible refine (C _ HT.out).mono ?_); rintro r1 w1 ⟨rfl, ht1, hk1⟩; have HT1 := Lib.hid ht1; have HS1 := Lib.hid (HS.out.kt hk1 hTb hGT hDT hLT); have HK1 := Lib.hid ((KD.refl base L T w).kt hk1 hbw); clear ht1 hk1)
      clear C HS HT
      go_loopw [28] (fun i wr => ∃ (k p' : Nat) (v : Value) (l : List Rc), k ≤ cnt ∧ i = .int .i64 k ∧ Hid (rdN s e (cnt - k) l (rest t p') = tot) ∧ Hid (l = [] ∨ VD s e l) ∧ Hid (DayS G D L base B0 s e v l wr) ∧ Hid (Tak T t p' wr) ∧ Hid (KD base L T w wr)) (fun i _ => cnt - (intOf i).toNat)
      case atStart => exact ⟨0, p + 2, v0, [], Nat.zero_le _, rfl, Lib.hid (by rw [HU.out]; exact HTOT.out), Lib.hid (.inl rfl), HS1, HT1, HK1⟩
      case round =>
        clear HU HTOT HS1 HT1 HK1
        obtain ⟨k, p', v, l, hk, rfl, HQ, HV, HS, HT, HK⟩ := hrel
        by_cases hlt : k < cnt
        · obtain ⟨c', hc'⟩ : ∃ c', cnt - k = c' + 1 := ⟨cnt - k - 1, by omega⟩
          rw [hc'] at HQ
          have hc2 : cnt - (k + 1) = c' := by omega
          have HC2 := Lib.hid hc2
          obtain ⟨r0, HR⟩ : ∃ r0, rest t p' = r0 := ⟨_, rfl⟩
          rw [HR] at HQ
          rcases r0 with _ | ⟨x, _ | ⟨y, u⟩⟩
          · have HN := Lib.hid (show tot = none from HQ.out.symm)
            have C := fun W (h : Tak T t p' W) => two_no T p' t W h (by rw [HR]; simp) ht
            clear HR hc' hc2
            go_wp2_with (go_at_fn 46; (with_reducible refine (C _ HT.out).mono ?_); rintro r2 w2 ⟨rfl, ht2, hk2⟩; skip)
            go_ret2
            exact ch_no _ 8 HN.out rfl (by decide) (HS.out.kt hk2 hTb hGT hDT hLT) (HK.out.kt hk2 hbw)
          · have HN := Lib.hid (show tot = none from HQ.out.symm)
            have C := fun W (h : Tak T t p' W) => two_no T p' t W h (by rw [HR]; simp) ht
            clear HR hc' hc2
            go_wp2_with (go_at_fn 46; (with_reducible refine (C _ HT.out).mono ?_); rintro r2 w2 ⟨rfl, ht2, hk2⟩; skip)
            go_ret2
            exact ch_no _ 8 HN.out rfl (by decide) (HS.out.kt hk2 hTb hGT hDT hLT) (HK.out.kt hk2 hbw)
          · have C := fun W (h : Tak T t p' W) => two_yes T p' t x y u W h HR ht
            have HU := Lib.hid (rest_two HR).2.2
            have hv := val_bd x y
            rw [rdN_cons] at HQ
            obtain ⟨n, hn⟩ : ∃ n, val x y = n := ⟨_, rfl⟩
            rw [hn] at C HQ hv
            clear HR hc' hc2 hn
            by_cases hok : toldOk n
            · have TD := fun W => told_yes n W hok
              have HA := fun W (h : DayS G D L base B0 s e v l W) => hand11_any G D L base B0 s e n v l W h HB.out (by omega) hok (by have := vd_len HV.out HD.out hs0; omega)
              obtain ⟨o, ho⟩ : ∃ o, stepV s e l n = o := ⟨_, rfl⟩
              rw [ho] at HA HQ
              have HO := Lib.hid ho
              generalize n / 2048 = kd at *
              generalize n % 2048 = mn at *
              clear hok ho
              cases o with
              | none =>
                have HN := Lib.hid (show tot = none from HQ.out.symm)
                have HA2 := fun W h => (HA W h).mono (R' := fun r W' => r = .returned (.bool false) ∧ DayS G D L base B0 s e v l W' ∧ KL base L W W') fun r W' ⟨hk, _, hno⟩ => ⟨(hno rfl).1, (hno rfl).2, hk⟩
                clear HA
                go_wp2_with (first
                  | (go_at_fn 46; (with_reducible refine (C _ HT.out).mono ?_); rintro r2 w2 ⟨rfl, ht2, hk2⟩; have HS2 := Lib.hid (HS.out.kt hk2 hTb hGT hDT hLT); have HK2 := Lib.hid (HK.out.kt hk2 hbw); clear hk2)
                  | (go_at_call 7; (with_reducible refine (TD _).mono ?_); rintro r3 w3 ⟨rfl, rfl⟩)
                  | (go_at_fn 61; (with_reducible refine (HA2 _ HS2.out).mono ?_); rintro r4 w4 ⟨rfl, hd4, hk4⟩; have HK4 := Lib.hid (HK2.out.kl hk4); have HS4 := Lib.hid hd4; clear hk4 hd4))
                go_ret2
                exact ch_no _ 7 HN.out rfl (by decide) HS4.out HK4.out
              | some l' =>
                have HV' := Lib.hid (step_sound HO.out hs0 hse he HV.out).1
                have HQ' := Lib.hid (show rdN s e c' l' u = tot from HQ.out)
                have HA2 := fun W h => (HA W h).mono (R' := fun r W' => ∃ v', r = .returned (.bool true) ∧ DayS G D L base B0 s e v' l' W' ∧ KL base L W W') fun r W' ⟨hk, hy, _⟩ => (by obtain ⟨v', h1, h2⟩ := hy l' rfl; exact ⟨v', h1, h2, hk⟩)
                clear HA
                go_wp2_with (first
                  | (go_at_fn 46; (with_reducible refine (C _ HT.out).mono ?_); rintro r2 w2 ⟨rfl, ht2, hk2⟩; have HT2 := Lib.hid ht2; have HS2 := Lib.hid (HS.out.kt hk2 hTb hGT hDT hLT); have HK2 := Lib.hid (HK.out.kt hk2 hbw); clear hk2 ht2)
                  | (go_at_call 7; (with_reducible refine (TD _).mono ?_); rintro r3 w3 ⟨rfl, rfl⟩)
                  | (go_at_fn 61; (with_reducible refine (HA2 _ HS2.out).mono ?_); rintro r4 w4 ⟨v4, rfl, hd4, hk4⟩; have HK4 := Lib.hid (HK2.out.kl hk4); have HT4 := Lib.hid (HT2.out.kl hk4 hTb (fun e => hLT e.symm)); have HS4 := Lib.hid hd4; clear hk4 hd4))
                go_roundw
                case rel => exact ⟨k + 1, p' + 2, v4, l', by omega, by go_num, Lib.hid (by rw [HU.out, HC2.out]; exact HQ'.out), Lib.hid (.inr HV'.out), HS4, HT4, HK4⟩
                case measure => simp [intOf]; omega
            · have TD := fun W => told_no n W hok (by omega)
              have HN := Lib.hid (show tot = none by rw [← HQ.out, step_bad hok]; rfl)
              clear hok
              go_wp2_with (first
                | (go_at_fn 46; (with_reducible refine (C _ HT.out).mono ?_); rintro r2 w2 ⟨rfl, ht2, hk2⟩; have HS2 := Lib.hid (HS.out.kt hk2 hTb hGT hDT hLT); have HK2 := Lib.hid (HK.out.kt hk2 hbw); clear hk2)
                | (go_at_call 7; (with_reducible refine (TD _).mono ?_); rintro r3 w3 ⟨rfl, rfl⟩))
              go_ret2
              exact ch_no _ 7 HN.out rfl (by decide) HS2.out HK2.out
        · have hkc : cnt - k = 0 := by omega
          rw [hkc] at HQ
          have HN := Lib.hid (show tot = some (l, rest t p') from HQ.out.symm)
          go_wp2
          go_ret2
          exact ch_ok HN.out rfl HS.out HT.out HK.out

end Go.Proofs.Ytgmcikajhnnaaaa
