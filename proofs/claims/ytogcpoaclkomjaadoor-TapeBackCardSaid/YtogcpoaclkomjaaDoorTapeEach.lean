/- What each of layer 10 does: it hands lines on, one by one, till one is answered by false, and tells where that begins. Conditions: the lines can be read; all of them come to at most a million bytes. -/
import Derived.Test.YtogcpoaclkomjaaDoorZ1
import Derived.Test.YtogcpoaclkomjaaDoorZ4
import Derived.WalkKit
import Derived.WalkSpells
import Derived.WalkSmall
import Derived.Below
import Derived.Outline
import Derived.OwnWalk
import Derived.Lib.Hide
namespace Go.Proofs.YtogcpoaclkomjaaDoor
open Go.RowKit

/-- What a function that lines are handed to keeps (I: behind k lines that were answered by true) and leaves (J: behind the one at k, answered by false); what lay in w lies unturned meanwhile. -/
structure HandsL (g : Nat) (cb : Array Value) (l : List ByteArray) (w : World) (I : Nat → World → Prop) (J : Nat → World → Prop) : Prop where
  old : ∀ k W, I k W → Below w.heap.size w W
  step : ∀ k W s, k < l.length → l.getD k ⟨#[]⟩ = s → I k W →
    Calls Tryd.prog g (#[.string s] ++ cb) W fun e W' => ∃ r, e = .returned (.bool r) ∧ (r = true → I (k + 1) W') ∧ (r = false → J k W')

theorem len_ended (l : List ByteArray) : l.length ≤ (endedL l).length := by
  rw [ended_len]
  induction l with
  | nil => simp
  | cons s l ih => simp; omega

set_option maxHeartbeats 1000000 in
theorem each10_any (A : Option Addr) (c n : Nat) (l : List ByteArray) (g : Nat) (cb : Array Value) (w W0 : World) (I : Nat → World → Prop) (J : Nat → World → Prop) (eg : ∀ args w, (callFunc g args).run Tryd.prog w = .ok (.enter g args) w)
    (hn : l.length = n) (h : RdT w A l) (hl : (endedL l).length ≤ 1000000) (hh : HandsL g cb l w I J) (h0 : I 0 W0) :
    Calls Tryd.prog 29 #[.slice A n c, .func (.func g) #[] cb] W0 fun e w' => (e = .returned (.int .i64 0) ∧ I n w') ∨ ∃ k, k < n ∧ e = .returned (.int .i64 (placeL l k : Nat)) ∧ J k w' := by
  have HH := Lib.hid hh
  have HR := Lib.hid h
  have HN := Lib.hid hn
  have HI0 := Lib.hid h0
  have HP := Lib.hid fun k => place_le l k
  have hnl := len_ended l
  rw [hn] at hnl
  have hn2 : n ≤ 1000000 := by omega
  clear hh h hn h0 hnl
  generalize hL : (endedL l).length = L at hl HP
  clear hL
  go_enter Tryd.func29, Tryd.ntmps29
  go_wp2
  go_loopw [5, 10] (fun v i wr => ∃ k p : Nat, k ≤ n ∧ i = .int .i64 k ∧ v = .int .i64 p ∧ Hid (placeL l k = p) ∧ Hid (I k wr)) (fun _ i _ => n - (intOf i).toNat)
  case atStart => exact ⟨0, 0, Nat.zero_le _, rfl, rfl, Lib.hid (place_zero l), HI0⟩
  case round =>
    clear HI0
    obtain ⟨k, p, hk, rfl, rfl, HPL, hI⟩ := hrel
    by_cases hlt : k < n
    · have hb := HH.out.old k wr hI.out
      obtain ⟨b, off, s, rfl, hbb, hc, hs⟩ := HR.out.at_ (k := k) (by rw [HN.out]; exact hlt)
      rw [← hb.cell (p := ⟨b, _, none⟩) hbb] at hc
      have HM := Lib.hid (place_more (by rw [HN.out]; exact hlt) hs.out)
      have hp2 := HP.out (k + 1)
      rw [HM.out, HPL.out] at hp2
      have ST := HH.out.step k wr s (by rw [HN.out]; exact hlt) hs.out hI.out
      go_wp2_with (go_at_fn g; refine ST.mono ?_; rintro e w2 ⟨r, rfl, hyes, hno⟩)
      · have hr : r = false := by have h : (!r) = true := by assumption
                                  simpa using h
        have hJ := hno hr
        go_ret
        exact .inr ⟨k, hlt, by rw [HPL.out]; rfl, hJ⟩
      · have hr : r = true := by have h : (!r) = false := by assumption
                                 simpa using h
        have HY := Lib.hid (hyes hr)
        clear hyes hno ST
        go_roundw
        case rel => exact ⟨k + 1, p + (s.size + 1), by omega, by go_num, by go_num, Lib.hid (by rw [HM.out, HPL.out]), HY⟩
        case measure => simp [intOf]; omega
    · have hkn : k = n := by omega
      subst hkn
      go_wp2
      go_ret
      exact .inl ⟨rfl, hI.out⟩

end Go.Proofs.YtogcpoaclkomjaaDoor
