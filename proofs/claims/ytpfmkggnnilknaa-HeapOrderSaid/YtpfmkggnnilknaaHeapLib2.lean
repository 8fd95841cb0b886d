/- The library's heap over a pile: Init, Push, Pop. Conditions: the pile lies as it is told; Pop is of one item at least. -/
import Derived.Test.YtpfmkggnnilknaaRows
import Derived.Test.YtpfmkggnnilknaaBase
import Derived.Test.YtpfmkggnnilknaaRow
import Derived.Test.YtpfmkggnnilknaaRecMath
import Derived.Test.YtpfmkggnnilknaaTriLt
import Derived.Test.YtpfmkggnnilknaaBox
import Derived.Test.YtpfmkggnnilknaaFindHeap
import Derived.Test.YtpfmkggnnilknaaTriHeap
import Derived.Test.YtpfmkggnnilknaaHeapMath
import Derived.Test.YtpfmkggnnilknaaHeapHeap
import Derived.Test.YtpfmkggnnilknaaHeapLeaf
import Derived.Test.YtpfmkggnnilknaaHeapPile
import Derived.Test.YtpfmkggnnilknaaHeapLib
import Derived.Test.YtpfmkggnnilknaaHeapPush
import Derived.WalkKit
import Derived.WalkSpells
import Derived.WalkSmall
import Derived.Below
import Derived.Lib.Hide
import Derived.BigQuiet
import Derived.Outline
import Derived.OwnWalk
import Derived.Deep.DeepCutAuto
import Derived.Deep.LoopGhost
namespace Go.Proofs.Ytpfmkggnnilknaa
open Go.RowKit

set_option maxHeartbeats 1600000 in
theorem init23_any {w : World} {g b : Nat} {l : List Rc} (h : Pl w g b l) (hl : l.length ≤ 1000000000000) :
    Calls Try.prog 19 #[plV g] w fun e w' => e = .returned (.tuple #[]) ∧ ∃ l', l'.Perm l ∧ HpL l' ∧ Pl w' g b l' ∧ Mv w g b b w' := by
  obtain ⟨n, hn⟩ : ∃ n, l.length = n := ⟨_, rfl⟩
  have CL := plen23_any h
  rw [hn] at CL hl
  unfold plV
  have ml := m_len ⟨g, 0, none⟩
  obtain ⟨q, hq⟩ : ∃ q, n / 2 = q := ⟨_, rfl⟩
  have d0 : (n : Int).tdiv 2 = (q : Int) := by
    rw [Int.tdiv_eq_ediv_of_nonneg (by omega)]; omega
  have hqn : q ≤ n := by omega
  have HS := Lib.hid (show HpT q n l from HpT.none l (by omega))
  have HN := Lib.hid hn
  have HP := Lib.hid h
  clear hq hn h
  go_enter Try.func19, Try.ntmps19
  go_wp2_with (go_at_call 41; refine CL.mono ?_; rintro e w1 ⟨rfl, rfl⟩)
  go_loopw [3] (fun s1 wr => ∃ (k : Nat) (o : List Rc), s1 = .int .i64 ((k : Int) - 1) ∧ k ≤ n ∧ Hid (o.Perm l ∧ HpT k n o) ∧ Hid (Pl wr g b o ∧ Mv w g b b wr)) (fun s1 _ => (intOf s1 + 1).toNat)
  case atStart => exact ⟨q, l, rfl, hqn, Lib.hid ⟨List.Perm.refl _, HS.out⟩, Lib.hid ⟨HP.out, Mv.refl _ _ _⟩⟩
  case round =>
    clear HS HP CL ml d0
    obtain ⟨k, o, rfl, hk, HI, HR⟩ := hrel
    have hol : o.length = n := by rw [HI.out.1.length_eq]; exact HN.out
    by_cases hk0 : k = 0
    · subst hk0
      have HE := Lib.hid (show HpL o by unfold HpL; rw [hol]; exact HI.out.2)
      go_wp2
      refine bodyPost_end (results_none Try.results19 _ _ _) rfl ⟨rfl, ?_⟩
      exact ⟨o, HI.out.1, HE.out, HR.out.1, HR.out.2⟩
    · obtain ⟨m, rfl⟩ : ∃ m, k = m + 1 := ⟨k - 1, by omega⟩
      have CD := down23_any HR.out.1 (by omega) m m n (by omega) (by omega) (DnI.start HI.out.2)
      unfold plV at CD
      have z0 : ((m + 1 : Nat) : Int) - 1 = (m : Int) := by omega
      rw [z0]
      clear z0 hk0
      go_wp2_with (go_at_call 23; refine CD.mono ?_; rintro e w1 ⟨⟨r, rfl⟩, o', p1, p2, p3, p4, p5⟩; have P1 := Lib.hid p1; have P2 := Lib.hid p2; have P4 := Lib.hid p4; have P5 := Lib.hid p5; clear p1 p2 p3 p4 p5)
      go_roundw
      case rel => exact ⟨m, o', by first | rfl | go_num, by omega, Lib.hid ⟨P1.out.trans HI.out.1, P2.out⟩, Lib.hid ⟨P4.out, HR.out.2.trans P5.out⟩⟩
      case measure => simp [intOf]

set_option maxHeartbeats 1600000 in
theorem hpush23_any {w : World} {g b : Nat} {l : List Rc} (h : Pl w g b l) (hl : l.length < 1000000000000) (hh : HpL l) (v : Rc) :
    Calls Try.prog 17 #[plV g, .iface 28 (itV v)] w fun e w' => e = .returned (.tuple #[]) ∧ ∃ b' l', l'.Perm (l ++ [v]) ∧ HpL l' ∧ Pl w' g b' l' ∧ Mv w g b b' w' := by
  obtain ⟨n, hn⟩ : ∃ n, l.length = n := ⟨_, rfl⟩
  have CP := ppush23_any h (by omega) v
  have HU := Lib.hid (UpI.start v hh)
  have HL := Lib.hid (show (l ++ [v]).length = n + 1 by simp [hn])
  have HN := Lib.hid hn
  rw [hn] at hl
  unfold plV
  have ml := m_len ⟨g, 0, none⟩
  have mp := m_push ⟨g, 0, none⟩
  have z0 : ((n + 1 : Nat) : Int) - 1 = (n : Int) := by omega
  obtain ⟨V, hV⟩ : ∃ V, V = itV v := ⟨_, rfl⟩
  rw [← hV] at CP ⊢
  clear hn h hh hV
  go_enter Try.func17, Try.ntmps17
  go_wp2_with (first
    | (go_at_call 44; refine CP.mono ?_; rintro e w1 ⟨rfl, b1, p1, m1⟩; have P1 := Lib.hid p1; have M1 := Lib.hid m1; clear p1 m1; have CL := plen23_any P1.out; rw [HL.out] at CL; have CU := up23_any P1.out (by rw [HL.out]; omega) n (by rw [HL.out]; omega) (by rw [HL.out]; have := HU.out; rw [HN.out] at this; exact this); unfold plV at CU)
    | (go_at_call 41; refine CL.mono ?_; rintro e w2 ⟨rfl, rfl⟩)
    | (go_at_call 22; refine CU.mono ?_; rintro e w3 ⟨rfl, o, p1, p2, p3, p4⟩; have Q1 := Lib.hid p1; have Q2 := Lib.hid p2; have Q3 := Lib.hid p3; have Q4 := Lib.hid p4; clear p1 p2 p3 p4))
  refine bodyPost_end (results_none Try.results17 _ _ _) rfl ⟨rfl, ?_⟩
  exact ⟨b1, o, Q1.out, Q2.out, Q3.out, M1.out.trans Q4.out⟩

set_option maxHeartbeats 1600000 in
theorem hpop23_any {w : World} {g b m : Nat} {l : List Rc} (h : Pl w g b l) (hm : l.length = m + 1) (hl : l.length ≤ 1000000000000) (hh : HpL l) :
    Calls Try.prog 18 #[plV g] w fun e w' => e = .returned (.iface 28 (itV (l.getD 0 rz))) ∧ ∃ l', (l.getD 0 rz :: l').Perm l ∧ HpL l' ∧ Pl w' g b l' ∧ Mv w g b b w' := by
  have CL := plen23_any h
  have CS := pswap23_any h 0 m (by omega) (by omega)
  have hsl : (sw l 0 m).length = m + 1 := by rw [sw_len]; exact hm
  have HD := Lib.hid (show DnI 0 m 0 (sw l 0 m) from DnI.first (HpT.mono hh (by omega)) (fun k k0 km => by rw [sw_get l (by omega) (by omega), if_neg (by omega), if_neg (by omega)]))
  have H0 := Lib.hid (show (sw l 0 m).getD m rz = l.getD 0 rz by rw [sw_get l (by omega) (by omega), if_pos rfl])
  have HS := Lib.hid (sw_perm l (i := 0) (j := m) (by omega) (by omega))
  have HSL := Lib.hid hsl
  have CP := fun (W : World) (o : List Rc) (P : Pl W g b o) (ho : o.length = m + 1) (e : o.getD m rz = l.getD 0 rz) => (ppop23_any P ho (by omega))
  have CD := fun (W : World) (P : Pl W g b (sw l 0 m)) => down23_any P (by omega) 0 0 m (by omega) (by omega) HD.out
  rw [hm] at CL hl
  unfold plV at *
  have ml := m_len ⟨g, 0, none⟩
  have ms := m_swap ⟨g, 0, none⟩
  have mp := m_pop ⟨g, 0, none⟩
  have z0 : ((m + 1 : Nat) : Int) - 1 = (m : Int) := by omega
  obtain ⟨V, hV⟩ : ∃ V, V = itV (l.getD 0 rz) := ⟨_, rfl⟩
  rw [← hV]
  have HV := Lib.hid hV
  clear hh h hsl hV hm HD
  go_enter Try.func18, Try.ntmps18
  go_wp2_with (first
    | (go_at_call 41; refine CL.mono ?_; rintro e w2 ⟨rfl, rfl⟩)
    | (go_at_call 45; refine CS.mono ?_; rintro e w3 ⟨rfl, p1, p2⟩; have P1 := Lib.hid p1; have P2 := Lib.hid p2; clear p1 p2)
    | (go_at_call 23; refine (CD _ P1.out).mono ?_; rintro e w4 ⟨⟨r, rfl⟩, o, p1, p2, p3, p4, p5⟩; have Q1 := Lib.hid p1; have Q2 := Lib.hid p2; have Q3 := Lib.hid ((p3 m (Nat.le_refl _)).trans H0.out); have Q4 := Lib.hid p4; have Q5 := Lib.hid p5; have QL := Lib.hid (p1.length_eq.trans HSL.out); clear p1 p2 p3 p4 p5)
    | (go_at_call 43; refine (CP _ o Q4.out QL.out Q3.out).mono ?_; rintro e w5 ⟨rfl, p1, p2⟩; rw [Q3.out, ← HV.out]; have R1 := Lib.hid p1; have R2 := Lib.hid p2; clear p1 p2))
  go_ret
  refine ⟨rfl, o.take m, ?_, ?_, R1.out, (P2.out.trans Q5.out).trans R2.out⟩
  · have e : o.take m ++ [l.getD 0 rz] = o := by
      have hmo : m < o.length := by rw [QL.out]; omega
      have e1 : o.getD m rz = o[m] := by simp [List.getD, hmo]
      rw [← Q3.out, e1, List.take_append_getElem hmo, List.take_of_length_le (by rw [QL.out]; omega)]
    have hp : (l.getD 0 rz :: o.take m).Perm (o.take m ++ [l.getD 0 rz]) := by
      have := (List.perm_append_comm (l₁ := o.take m) (l₂ := [l.getD 0 rz])).symm
      simpa using this
    rw [e] at hp
    exact (hp.trans Q1.out).trans HS.out
  · have hl' : (o.take m).length = m := by rw [List.length_take, QL.out]; omega
    unfold HpL
    rw [hl']
    exact HpT.same Q2.out (fun k hk => by simp [List.getD, hk])

end Go.Proofs.Ytpfmkggnnilknaa
