/- What the library's Concat makes of any slices of records that the call itself has made. Conditions: all of them together have at most a hundred thousand records. -/
import Derived.Test.YtgmcikajhnnaaaaRows
import Derived.Test.YtgmcikajhnnaaaaRecJoin
import Derived.WalkKit
import Derived.WalkSpells
import Derived.WalkSmall
import Derived.Below
import Derived.Lib.Hide
import Derived.Outline
import Derived.OwnWalk
import Derived.BigQuiet
import Derived.Deep.QuietTactic
namespace Go.Proofs.Ytgmcikajhnnaaaa
open Go.RowKit

/-- A slice of slices of records that can be read. -/
def RdL (w : World) (A : Option Addr) (vs : List Value) : Prop :=
  vs ≠ [] → ∃ b off, A = some ⟨b, off, none⟩ ∧ b < w.heap.size ∧ ∀ k, k < vs.length → w.cell? ⟨b, off + k, none⟩ = vs[k]?

theorem RdL.below {w w' : World} {A : Option Addr} {vs : List Value} (h : RdL w A vs) (hb : Below w.heap.size w w') : RdL w' A vs := fun hl => by
  obtain ⟨b, off, hA, hbb, hk⟩ := h hl
  exact ⟨b, off, hA, Nat.lt_of_lt_of_le hbb hb.size, fun k hk' => by rw [hb.cell (p := ⟨b, off + k, none⟩) hbb]; exact hk k hk'⟩

/-- A slice of slices of records that the call itself has made. -/
def OwnL (base : Nat) (w : World) (v : Value) (vs : List Value) : Prop := w.ownsRow base 29 1 v vs.length vs

theorem OwnL.nil (base : Nat) (w : World) : OwnL base w (.slice none 0 0) [] := World.ownsRow_nil w base _ 1

theorem OwnL.read {base : Nat} {w : World} {v : Value} {vs : List Value} (h : OwnL base w v vs) : ∃ A c, v = .slice A vs.length c ∧ RdL w A vs := by
  have h0 := h
  rcases h.2 with ⟨rfl, hn⟩ | ⟨g, cap, cur, rfl, hb, hg, h1, h2, h3, h4⟩
  · obtain rfl : vs = [] := List.eq_nil_of_length_eq_zero hn
    exact ⟨none, 0, rfl, fun h => absurd rfl h⟩
  · refine ⟨some ⟨g, 0, none⟩, cap, rfl, fun _ => ⟨g, 0, rfl, (World.ownsRow.lt h0 g rfl).2, fun k hk => ?_⟩⟩
    rw [Nat.zero_add, World.ownsRow.cellAt h0 k (by omega)]

theorem info_recs : (Try.prog.info? 29).map (fun i => (i.zero, i.size, i.bytes)) = some (some (.slice none 0 0), 1, 24) := by kernel_rfl

/-- The slices' records. -/
def Slis (base : Nat) (w : World) (vs : List Value) (P : List (List Rc)) : Prop := vs.length = P.length ∧ ∀ j, j < P.length → ∃ x, vs[j]? = some x ∧ OwnR base w x (P.getD j [])

theorem Slis.nil (base : Nat) (w : World) : Slis base w [] [] := ⟨rfl, fun j hj => by cases hj⟩
theorem Slis.below {base : Nat} {w w' : World} {vs : List Value} {P : List (List Rc)} (h : Slis base w vs P) (hb : Below w.heap.size w w') : Slis base w' vs P :=
  ⟨h.1, fun j hj => by obtain ⟨x, h1, h2⟩ := h.2 j hj; exact ⟨x, h1, OwnR.below h2 hb⟩⟩
theorem Slis.snoc {base : Nat} {w : World} {vs : List Value} {P : List (List Rc)} {x : Value} {R : List Rc} (h : Slis base w vs P) (hx : OwnR base w x R) : Slis base w (vs ++ [x]) (P ++ [R]) := by
  refine ⟨by simp [h.1], fun j hj => ?_⟩
  rw [List.length_append] at hj
  by_cases hlt : j < P.length
  · obtain ⟨y, h1, h2⟩ := h.2 j hlt
    refine ⟨y, ?_, ?_⟩
    · rw [List.getElem?_append_left (by rw [h.1]; exact hlt)]; exact h1
    · rw [List.getD_eq_getElem?_getD, List.getElem?_append_left hlt, ← List.getD_eq_getElem?_getD]; exact h2
  · have hj2 : j = P.length := by simp at hj; omega
    subst hj2
    refine ⟨x, ?_, ?_⟩
    · rw [← h.1]; simp
    · rw [List.getD_eq_getElem?_getD]; simp; exact hx

theorem flat_more {P : List (List Rc)} {k : Nat} (h : k < P.length) : (P.take (k + 1)).flatten = (P.take k).flatten ++ P.getD k [] := by
  rw [List.take_add_one, List.getD_eq_getElem?_getD, List.getElem?_eq_getElem h]
  simp only [Option.toList_some, Option.getD_some, List.flatten_append, List.flatten_cons, List.flatten_nil, List.append_nil]

theorem flat_le (P : List (List Rc)) (k : Nat) : (P.take k).flatten.length ≤ P.flatten.length := by
  have e : P.flatten = (P.take k).flatten ++ (P.drop k).flatten := by rw [← List.flatten_append, List.take_append_drop]
  rw [e, List.length_append]
  omega

set_option maxRecDepth 20000 in
set_option maxHeartbeats 1600000 in
theorem concatL_any (A : Option Addr) (c N base : Nat) (vs : List Value) (P : List (List Rc)) (w : World) (hr : RdL w A vs) (hs : Slis base w vs P) (hN : P.length = N) (hN2 : N ≤ 1000) (ht : P.flatten.length ≤ 100000) :
    Calls Try.prog 63 #[.slice A N c] w fun e w' => ∃ v, e = .returned v ∧ OwnR w.heap.size w' v P.flatten ∧ Below w.heap.size w w' := by
  have HR := Lib.hid hr
  have HS := Lib.hid hs
  have HN := Lib.hid hN
  have HL := Lib.hid fun k => flat_le P k
  have HM := Lib.hid fun k (h : k < P.length) => flat_more h
  obtain ⟨M, hM⟩ : ∃ M, P.flatten.length = M := ⟨_, rfl⟩
  rw [hM] at ht HL
  have HMM := Lib.hid hM
  clear hr hs hN hM
  go_enter Try.func63, Try.ntmps63
  go_wp2
  go_loop [3, 11] (fun t i => ∃ k s : Nat, k ≤ N ∧ i = .int .i64 k ∧ t = .int .i64 s ∧ Hid ((P.take k).flatten.length = s)) (fun _ i => N - (intOf i).toNat)
  case atStart => exact ⟨0, 0, Nat.zero_le _, rfl, rfl, Lib.hid rfl⟩
  case round =>
    obtain ⟨k, s, hk, rfl, rfl, HK⟩ := hrel
    have hsM := HL.out k
    rw [HK.out] at hsM
    by_cases hlt : k < N
    · obtain ⟨x, hx, ho⟩ := HS.out.2 k (by rw [HN.out]; exact hlt)
      obtain ⟨A1, c1, rfl, _, _⟩ := ho.read
      obtain ⟨b, off, rfl, hbb, hc⟩ := HR.out (by intro e; rw [e] at hx; cases hx)
      have hc1 := (hc k (by rw [HS.out.1, HN.out]; exact hlt)).trans hx
      have hf := HM.out k (by rw [HN.out]; exact hlt)
      have hf2 := congrArg List.length hf
      rw [List.length_append, HK.out] at hf2
      have hsM2 := HL.out (k + 1)
      rw [hf2] at hsM2
      have HF := Lib.hid hf2
      generalize (P.getD k []).length = m at *
      clear hc hx ho hf hf2
      go_wp2
      go_round
      case rel => exact ⟨k + 1, s + m, by omega, by go_num, by go_num, HF⟩
      case measure => simp [intOf]; omega
    · have hkN : k = N := by omega
      have HSZ := Lib.hid (show s = M by rw [← HK.out, hkN, List.take_of_length_le (by rw [HN.out]; omega), HMM.out])
      have hsz : s = M := HSZ.out
      subst hsz
      go_wp2_with (go_at_call 64; refine (growR_nil _ s (by omega) (by omega) _).mono ?_; rintro e w1 ⟨G, gc, rfl, ho1, hb1⟩)
      have HO1 := Lib.hid ho1
      clear ho1
      go_loopw [6, 27] (fun v i wr => ∃ k : Nat, k ≤ N ∧ i = .int .i64 k ∧ Hid (OwnR w.heap.size wr v (P.take k).flatten) ∧ Below w.heap.size w wr) (fun _ i _ => N - (intOf i).toNat)
      case atStart => exact ⟨0, Nat.zero_le _, rfl, HO1, hb1⟩
      case round =>
        clear HO1 hb1
        obtain ⟨k, hk, rfl, HO, hbr⟩ := hrel
        have hszr := hbr.size
        by_cases hlt : k < N
        · obtain ⟨x, hx, ho⟩ := HS.out.2 k (by rw [HN.out]; exact hlt)
          obtain ⟨A1, c1, rfl, hr1, hz1⟩ := ho.read
          obtain ⟨b, off, rfl, hbb, hc⟩ := HR.out (by intro e; rw [e] at hx; cases hx)
          have hc1 := (hc k (by rw [HS.out.1, HN.out]; exact hlt)).trans hx
          rw [← hbr.cell (p := ⟨b, _, none⟩) hbb] at hc1
          have hf := HM.out k (by rw [HN.out]; exact hlt)
          have HR1 := Lib.hid (hr1.below hbr)
          have HZ1 := Lib.hid hz1
          have hsM2 := HL.out (k + 1)
          rw [hf, List.length_append] at hsM2
          have HF := Lib.hid hf
          obtain ⟨R, hR⟩ : ∃ R, P.getD k [] = R := ⟨_, rfl⟩
          rw [hR] at hc1 HR1 hsM2 HF
          obtain ⟨Q, hQ⟩ : ∃ Q, (P.take k).flatten = Q := ⟨_, rfl⟩
          rw [hQ] at HO HF hsM2
          obtain ⟨m, hm⟩ : ∃ m, R.length = m := ⟨_, rfl⟩
          rw [hm] at hc1 hsM2
          have HMN := Lib.hid hm
          clear hc hx ho hf hr1 hz1 hR hQ hm
          go_wp2_with (at_builtin; refine append_recs rfl _ _ rfl w.heap.size _ Q R rfl HO.out A1 m c1 rfl HMN.out HR1.out HZ1.out (by omega) hszr ?_; intro v' w' ho' hg')
          have HO2 := Lib.hid ho'
          have HB2 := Lib.hid (hbr.grown hg' hszr (fun k hk => (World.ownsRow.lt HO.out k hk).1))
          clear ho' hg'
          go_wp2
          go_roundw
          case rel => exact ⟨k + 1, by omega, by go_num, Lib.hid (by rw [HF.out]; exact HO2.out), HB2.out⟩
          case measure => simp [intOf]; omega
        · have HT : Hid ((P.take k).flatten = P.flatten) := Lib.hid (by rw [List.take_of_length_le (by rw [HN.out]; omega)])
          rw [HT.out] at HO
          go_wp2
          go_ret
          exact ⟨_, rfl, HO.out, hbr⟩

end Go.Proofs.Ytgmcikajhnnaaaa
