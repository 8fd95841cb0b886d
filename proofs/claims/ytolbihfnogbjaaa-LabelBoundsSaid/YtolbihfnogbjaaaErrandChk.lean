/- What Check of layer 19, and the document, say of tasks. Conditions: the tasks can be read. -/
import Derived.Test.YtolbihfnogbjaaaRows
import Derived.Test.YtolbihfnogbjaaaBase
import Derived.Test.YtolbihfnogbjaaaZ2
import Derived.Test.YtolbihfnogbjaaaZ3
import Derived.Test.YtolbihfnogbjaaaZ1
import Derived.Test.YtolbihfnogbjaaaZ5
import Derived.Test.YtolbihfnogbjaaaErrandLeaf
import Derived.WalkKit
import Derived.WalkSpells
import Derived.WalkSmall
import Derived.Below
import Derived.Lib.Hide
import Derived.Outline
import Derived.Deep.DeepCutAuto
import Derived.OwnWalk
import Derived.BigQuiet
import Derived.Deep.QuietTactic
namespace Go.Proofs.Ytolbihfnogbjaaa
open Go.RowKit

set_option maxRecDepth 20000 in
set_option maxHeartbeats 2000000 in
theorem check19_any (A : Option Addr) (n c : Nat) (l : List Tk) (hn : l.length = n) (w : World) (h : RdK w A l) (hf : Few l) :
    Calls Try.prog 48 #[.slice A n c] w fun e w' => e = .returned (.int .i64 (checkT l)) ∧ Below w.heap.size w w' := by
  by_cases hm : 2001 < n
  case pos =>
    rw [checkt_many (by omega)]
    have hm' : (2001 : Int) < (n : Int) := by omega
    clear h hf
    go_enter Try.func48, Try.ntmps48
    go_wp2
    go_ret
    exact ⟨rfl, by (repeat (first | exact Below.refl _ _ | (refine b_st ?_ (by first | (simp; done) | (simp; omega))) | (refine b_al ?_ (Nat.le_refl _) _) | refine b_dn ?_ | refine b_dr ?_ | (refine b_cl ?_ (Nat.le_refl _) (by assumption))))⟩
  have hm' : (n : Int) ≤ 2001 := by omega
  obtain ⟨V, hV⟩ : ∃ V, checkT l = V := ⟨_, rfl⟩
  have HV := Lib.hid hV
  rw [hV]
  clear hV
  have HN := Lib.hid hn
  go_enter Try.func48, Try.ntmps48
  go_wp2
  go_loopw [11] (fun i wr => ∃ k : Nat, k ≤ n ∧ i = .int .i64 k ∧ Below w.heap.size w wr ∧ Hid (∀ j, j < k → taskV (l.getD j tz) = 0)) (fun i _ => n - (intOf i).toNat)
  case atStart => exact ⟨0, Nat.zero_le _, rfl, Below.refl _ _, Lib.hid (fun j hj => by omega)⟩
  case round =>
    obtain ⟨k, hk, rfl, hb, hA⟩ := hrel
    obtain ⟨w2, rfl⟩ : ∃ w2 : World, w2 = wr := ⟨_, rfl⟩
    have hsz := hb.size
    by_cases hlt : k < n
    · obtain ⟨b, off, d, v, B, q, u, rfl, hbb, h0, h1, h2, hs⟩ := (h.below hb).at_ (k := k) (by omega)
      obtain ⟨o, ho, hq, hr⟩ := hs.out
      have hol := hf.at_ (by omega) ho
      have CT := fun W (h : RdS W B o) => task19_any d v B q u o hq W h (by omega)
      obtain ⟨x, hx⟩ : ∃ x, taskV (d, v, o) = x := ⟨_, rfl⟩
      rw [hx] at CT
      have HX := Lib.hid (show taskV (l.getD k tz) = x by rw [ho, hx])
      have HR := Lib.hid hr
      clear hs ho hq hr hol hx hn
      by_cases h0x : x = 0
      · subst h0x
        go_wp2_with (go_at_call 55; refine (CT _ (HR.out.below (by (repeat (first | exact Below.refl _ _ | (refine b_st ?_ (by first | (simp; done) | (simp; omega))) | (refine b_al ?_ (Nat.le_refl _) _) | refine b_dn ?_ | refine b_dr ?_ | (refine b_cl ?_ (Nat.le_refl _) (by assumption))))))).mono ?_; rintro e w3 ⟨rfl, hb3⟩)
        go_roundw
        case rel => exact ⟨k + 1, by omega, by go_num, by (repeat (first | exact Below.refl _ _ | (refine b_st ?_ (by first | (simp; done) | (simp; omega))) | (refine b_al ?_ (Nat.le_refl _) _) | refine b_dn ?_ | refine b_dr ?_ | (refine b_cl ?_ (Nat.le_refl _) (by assumption)))), Lib.hid (fun j hj => by
          by_cases e : j = k
          · subst e; exact HX.out
          · exact hA.out j (by omega))⟩
        case measure => simp [intOf]; omega
      · have hne : (x != 0) = true := by simp [h0x]
        have HE := Lib.hid (checkt_at (l := l) (k := k) (by have := HN.out; omega) (by have := HN.out; omega) hA.out HX.out h0x)
        go_wp2_with (go_at_call 55; refine (CT _ (HR.out.below (by (repeat (first | exact Below.refl _ _ | (refine b_st ?_ (by first | (simp; done) | (simp; omega))) | (refine b_al ?_ (Nat.le_refl _) _) | refine b_dn ?_ | refine b_dr ?_ | (refine b_cl ?_ (Nat.le_refl _) (by assumption))))))).mono ?_; rintro e w3 ⟨rfl, hb3⟩)
        go_ret
        refine ⟨?_, by (repeat (first | exact Below.refl _ _ | (refine b_st ?_ (by first | (simp; done) | (simp; omega))) | (refine b_al ?_ (Nat.le_refl _) _) | refine b_dn ?_ | refine b_dr ?_ | (refine b_cl ?_ (Nat.le_refl _) (by assumption))))⟩
        rw [← HV.out, HE.out]; rfl
    · have HE := Lib.hid (checkt_none (l := l) (by omega) (fun j hj => hA.out j (by omega)))
      go_wp2
      go_ret
      refine ⟨?_, hb⟩
      rw [← HV.out, HE.out]; rfl

set_option maxRecDepth 20000 in
set_option maxHeartbeats 2000000 in
theorem refcheck19_any (A : Option Addr) (n c : Nat) (l : List Tk) (hn : l.length = n) (w : World) (h : RdK w A l) (hf : Few l) :
    Calls Try.prog 21 #[.slice A n c] w fun e w' => e = .returned (.int .i64 (checkT l)) ∧ Below w.heap.size w w' := by
  by_cases hm : 2001 < n
  case pos =>
    rw [checkt_many (by omega)]
    have hm' : (2001 : Int) < (n : Int) := by omega
    clear h hf
    go_enter Try.func21, Try.ntmps21
    go_wp2
    go_ret
    exact ⟨rfl, by (repeat (first | exact Below.refl _ _ | (refine b_st ?_ (by first | (simp; done) | (simp; omega))) | (refine b_al ?_ (Nat.le_refl _) _) | refine b_dn ?_ | refine b_dr ?_ | (refine b_cl ?_ (Nat.le_refl _) (by assumption))))⟩
  have hm' : (n : Int) ≤ 2001 := by omega
  obtain ⟨V, hV⟩ : ∃ V, checkT l = V := ⟨_, rfl⟩
  have HV := Lib.hid hV
  rw [hV]
  clear hV
  have HN := Lib.hid hn
  go_enter Try.func21, Try.ntmps21
  go_wp2
  go_loopw [3] (fun i wr => ∃ k : Nat, k ≤ n ∧ i = .int .i64 k ∧ Below w.heap.size w wr ∧ Hid (∀ j, j < k → taskV (l.getD j tz) = 0)) (fun i _ => n - (intOf i).toNat)
  case atStart => exact ⟨0, Nat.zero_le _, rfl, Below.refl _ _, Lib.hid (fun j hj => by omega)⟩
  case round =>
    obtain ⟨k, hk, rfl, hb, hA⟩ := hrel
    obtain ⟨w2, rfl⟩ : ∃ w2 : World, w2 = wr := ⟨_, rfl⟩
    have hsz := hb.size
    by_cases hlt : k < n
    · obtain ⟨b, off, d, v, B, q, u, rfl, hbb, h0, h1, h2, hs⟩ := (h.below hb).at_ (k := k) (by omega)
      obtain ⟨o, ho, hq, hr⟩ := hs.out
      have hol := hf.at_ (by omega) ho
      have HO := Lib.hid ho
      have HQ := Lib.hid hq
      have HR := Lib.hid hr
      have CW := fun W (h : RdS W B o) => refcheck18_any B u o W h (by omega)
      rw [hq] at CW
      clear hs ho hq hr hol hn
      by_cases c0 : d < 0
      case pos =>
        clear CW
        have HE := Lib.hid (checkt_at (l := l) (k := k) (by have := HN.out; omega) (by have := HN.out; omega) hA.out (show taskV (l.getD k tz) = 4 by rw [HO.out]; exact task_low (by omega)) (by first | decide | assumption))
        go_wp2
        go_ret
        refine ⟨?_, by (repeat (first | exact Below.refl _ _ | (refine b_st ?_ (by first | (simp; done) | (simp; omega))) | (refine b_al ?_ (Nat.le_refl _) _) | refine b_dn ?_ | refine b_dr ?_ | (refine b_cl ?_ (Nat.le_refl _) (by assumption))))⟩
        rw [← HV.out, HE.out]; rfl
      have m0 : 0 ≤ d := by omega
      clear c0
      by_cases c1 : 10080 < d
      case pos =>
        clear CW
        have HE := Lib.hid (checkt_at (l := l) (k := k) (by have := HN.out; omega) (by have := HN.out; omega) hA.out (show taskV (l.getD k tz) = 4 by rw [HO.out]; exact task_low (by omega)) (by first | decide | assumption))
        go_wp2
        go_ret
        refine ⟨?_, by (repeat (first | exact Below.refl _ _ | (refine b_st ?_ (by first | (simp; done) | (simp; omega))) | (refine b_al ?_ (Nat.le_refl _) _) | refine b_dn ?_ | refine b_dr ?_ | (refine b_cl ?_ (Nat.le_refl _) (by assumption))))⟩
        rw [← HV.out, HE.out]; rfl
      have m1 : d ≤ 10080 := by omega
      clear c1
      by_cases c2 : v < 0
      case pos =>
        clear CW
        have HE := Lib.hid (checkt_at (l := l) (k := k) (by have := HN.out; omega) (by have := HN.out; omega) hA.out (show taskV (l.getD k tz) = 4 by rw [HO.out]; exact task_low (by omega)) (by first | decide | assumption))
        go_wp2
        go_ret
        refine ⟨?_, by (repeat (first | exact Below.refl _ _ | (refine b_st ?_ (by first | (simp; done) | (simp; omega))) | (refine b_al ?_ (Nat.le_refl _) _) | refine b_dn ?_ | refine b_dr ?_ | (refine b_cl ?_ (Nat.le_refl _) (by assumption))))⟩
        rw [← HV.out, HE.out]; rfl
      have m2 : 0 ≤ v := by omega
      clear c2
      by_cases c3 : 1440 < v
      case pos =>
        clear CW
        have HE := Lib.hid (checkt_at (l := l) (k := k) (by have := HN.out; omega) (by have := HN.out; omega) hA.out (show taskV (l.getD k tz) = 4 by rw [HO.out]; exact task_low (by omega)) (by first | decide | assumption))
        go_wp2
        go_ret
        refine ⟨?_, by (repeat (first | exact Below.refl _ _ | (refine b_st ?_ (by first | (simp; done) | (simp; omega))) | (refine b_al ?_ (Nat.le_refl _) _) | refine b_dn ?_ | refine b_dr ?_ | (refine b_cl ?_ (Nat.le_refl _) (by assumption))))⟩
        rw [← HV.out, HE.out]; rfl
      have m3 : v ≤ 1440 := by omega
      clear c3
      by_cases c4 : 0 < v
      · obtain ⟨x, hx⟩ : ∃ x, checkW o = x := ⟨_, rfl⟩
        rw [hx] at CW
        have HX := Lib.hid (show taskV (l.getD k tz) = x by rw [HO.out, task_win (by omega) c4, hx])
        clear hx
        by_cases h0x : x = 0
        · subst h0x
          go_wp2_with (go_at_call 32; refine (CW _ (HR.out.below (by (repeat (first | exact Below.refl _ _ | (refine b_st ?_ (by first | (simp; done) | (simp; omega))) | (refine b_al ?_ (Nat.le_refl _) _) | refine b_dn ?_ | refine b_dr ?_ | (refine b_cl ?_ (Nat.le_refl _) (by assumption))))))).mono ?_; rintro e w3 ⟨rfl, hb3⟩)
          go_roundw
          case rel => exact ⟨k + 1, by omega, by go_num, by (repeat (first | exact Below.refl _ _ | (refine b_st ?_ (by first | (simp; done) | (simp; omega))) | (refine b_al ?_ (Nat.le_refl _) _) | refine b_dn ?_ | refine b_dr ?_ | (refine b_cl ?_ (Nat.le_refl _) (by assumption)))), Lib.hid (fun j hj => by
            by_cases e : j = k
            · subst e; exact HX.out
            · exact hA.out j (by omega))⟩
          case measure => simp [intOf]; omega
        · have hne : (x != 0) = true := by simp [h0x]
          have HE := Lib.hid (checkt_at (l := l) (k := k) (by have := HN.out; omega) (by have := HN.out; omega) hA.out (show taskV (l.getD k tz) = x by exact HX.out) (by first | decide | assumption))
          go_wp2_with (go_at_call 32; refine (CW _ (HR.out.below (by (repeat (first | exact Below.refl _ _ | (refine b_st ?_ (by first | (simp; done) | (simp; omega))) | (refine b_al ?_ (Nat.le_refl _) _) | refine b_dn ?_ | refine b_dr ?_ | (refine b_cl ?_ (Nat.le_refl _) (by assumption))))))).mono ?_; rintro e w3 ⟨rfl, hb3⟩)
          go_ret
          refine ⟨?_, by (repeat (first | exact Below.refl _ _ | (refine b_st ?_ (by first | (simp; done) | (simp; omega))) | (refine b_al ?_ (Nat.le_refl _) _) | refine b_dn ?_ | refine b_dr ?_ | (refine b_cl ?_ (Nat.le_refl _) (by assumption))))⟩
          rw [← HV.out, HE.out]; rfl
      · have m4 : v ≤ 0 := by omega
        clear CW
        by_cases c5 : 0 < q
        · have c6 : (0 : Int) < (q : Int) := by omega
          have HE := Lib.hid (checkt_at (l := l) (k := k) (by have := HN.out; omega) (by have := HN.out; omega) hA.out (show taskV (l.getD k tz) = 1 by rw [HO.out]; exact task_arg (by omega) c4 (by have := HQ.out; omega)) (by first | decide | assumption))
          clear c4
          go_wp2
          go_ret
          refine ⟨?_, by (repeat (first | exact Below.refl _ _ | (refine b_st ?_ (by first | (simp; done) | (simp; omega))) | (refine b_al ?_ (Nat.le_refl _) _) | refine b_dn ?_ | refine b_dr ?_ | (refine b_cl ?_ (Nat.le_refl _) (by assumption))))⟩
          rw [← HV.out, HE.out]; rfl
        · have c6 : (q : Int) ≤ 0 := by omega
          have HX := Lib.hid (show taskV (l.getD k tz) = 0 by rw [HO.out]; exact task_ok (by omega) c4 (by have := HQ.out; omega))
          clear c4
          go_wp2
          go_roundw
          case rel => exact ⟨k + 1, by omega, by go_num, by (repeat (first | exact Below.refl _ _ | (refine b_st ?_ (by first | (simp; done) | (simp; omega))) | (refine b_al ?_ (Nat.le_refl _) _) | refine b_dn ?_ | refine b_dr ?_ | (refine b_cl ?_ (Nat.le_refl _) (by assumption)))), Lib.hid (fun j hj => by
            by_cases e : j = k
            · subst e; exact HX.out
            · exact hA.out j (by omega))⟩
          case measure => simp [intOf]; omega
    · have HE := Lib.hid (checkt_none (l := l) (by omega) (fun j hj => hA.out j (by omega)))
      go_wp2
      go_ret
      refine ⟨?_, hb⟩
      rw [← HV.out, HE.out]; rfl

end Go.Proofs.Ytolbihfnogbjaaa
