/- What Legs, Peak and Fits of layer 21 return. Conditions: the loads can be read, and are at most a million. -/
import Derived.Test.YthgdclcmohgciaaRows
import Derived.Test.YthgdclcmohgciaaBase
import Derived.Test.YthgdclcmohgciaaRow
import Derived.Test.YthgdclcmohgciaaRecMath
import Derived.Test.YthgdclcmohgciaaRecHeap
import Derived.Test.YthgdclcmohgciaaIntsSame
import Derived.Test.YthgdclcmohgciaaApart
import Derived.Test.YthgdclcmohgciaaAdd
import Derived.Test.YthgdclcmohgciaaLoadMath
import Derived.Test.YthgdclcmohgciaaLoadLeaf
import Derived.Test.YthgdclcmohgciaaLoadPart
import Derived.WalkKit
import Derived.WalkSpells
import Derived.WalkSmall
import Derived.Below
import Derived.OwnWalk
import Derived.Laws.OwnMore
import Derived.Outline
import Derived.Lib.Hide
namespace Go.Proofs.Ythgdclcmohgciaa
open Go.RowKit

theorem add21_any (A : Option Addr) (c : Nat) (b : List Int) (w : World) (hr : RdN w A b) (hl : b.length ≤ 9223372036854775807) (hb : ∀ x ∈ b, -9223372036854775808 ≤ x ∧ x ≤ 9223372036854775807) :
    Calls Try.prog 18 #[.slice A b.length c] w fun e w' => e = .returned (.tuple #[.int .i64 (sums 0 b).1, .int .i64 (sums 0 b).2]) ∧ w = w' := by
  by_cases h : b = []
  · subst h
    exact add_nil A c w
  · obtain ⟨q, off, rfl, _, hc⟩ := hr h
    exact add_any q off b.length c b w rfl hl hc hb

theorem own_lit1 {base : Nat} {w : World} (hb : base ≤ w.heap.size) (a : Int) : OwnN base (w.alloc (.cells #[.int .i64 a] 3)) (.slice (some ⟨w.heap.size, 0, none⟩) 1 1) [a] :=
  World.ownsRow_lit w #[.int .i64 a] 1 hb (by unfold maxLen; omega) rfl

set_option maxHeartbeats 1600000 in
theorem legs21_any (A : Option Addr) (c n : Nat) (l : List Int) (w : World) (hn : Hid (l.length = n)) (hr : RdN w A l) :
    Calls Try.prog 7 #[.slice A n c] w fun e w' => ∃ v, e = .returned (.tuple #[v, .int .i64 (chkL l)]) ∧ OwnN w.heap.size w' v (legsE l) ∧ Below w.heap.size w w' := by
  have CK := check21_any A c n l w hn hr
  by_cases h0 : chkL l = 0
  · obtain ⟨hl, hF⟩ := chkL_ok h0
    have HL := Lib.hid hl
    rw [hn.out] at hl
    have HE := Lib.hid (legsE_ok h0)
    rw [h0] at CK ⊢
    have PT := part21_any A c n l w hn hr (by omega)
    have HR := Lib.hid hr
    have HS := Lib.hid (sums_bro hF HL.out)
    have HB := Lib.hid fun k => And.intro (legAt_nonneg l k) (legAt_le hF HL.out k)
    have HD := Lib.hid fun x (hx : x ∈ bro l) => (by have := hF x (bro_pos hx).2; unfold Few21 at this; omega : -9223372036854775808 ≤ x ∧ x ≤ 9223372036854775807)
    have HLB := Lib.hid (by have h1 := bro_len l; rw [hn.out] at h1; omega : (bro l).length ≤ 9223372036854775807)
    obtain ⟨u0, hu0⟩ : ∃ u0, upL l = u0 := ⟨_, rfl⟩
    rw [hu0] at HS
    have HU := Lib.hid ((legAt_zero l).trans hu0)
    clear hr h0 hF hu0
    go_enter Try.func7, Try.ntmps7
    go_wp2_with (first
      | (go_at_call 16; (with_reducible refine CK.mono ?_); rintro e w0 ⟨rfl, rfl⟩)
      | (go_at_call 17; (with_reducible refine PT.mono ?_); rintro e w1 ⟨v, u, rfl, hv, _, _, hb1⟩; have HB1 := Lib.hid hb1; obtain ⟨A5, c5, rfl, hr5⟩ := hv.read; have HR5 := Lib.hid hr5; clear hv hb1 hr5)
      | (go_at_call 18; (with_reducible refine (add21_any A5 c5 (bro l) w1 HR5.out HLB.out HD.out).mono ?_); rintro e w2 ⟨rfl, rfl⟩; rw [HS.out]))
    have hz1 := HB1.out.size
    have HA1 := Lib.hid (HB1.out.alloc HB1.out.size (.cells #[.int .i64 u0] 3))
    go_loopw [7, 9, 30] (fun y v i wr => ∃ (k : Nat) (a : Int), k ≤ n ∧ i = .int .i64 k ∧ y = .int .i64 a ∧ Hid (legAt l k = a) ∧ Hid (OwnN w.heap.size wr v (legsTo l (k + 1))) ∧ Below w.heap.size w wr) (fun _ _ i _ => n - (intOf i).toNat)
    case atStart => exact ⟨0, u0, Nat.zero_le _, rfl, rfl, HU, Lib.hid (by have e : legsTo l (0 + 1) = [u0] := (by rw [legsTo_more, HU.out]; rfl); rw [e]; exact own_lit1 hz1 u0), HA1.out⟩
    case round =>
      obtain ⟨k, a, hk, rfl, rfl, HLA, HO, hb⟩ := hrel
      obtain ⟨w3, rfl⟩ : ∃ w3 : World, w3 = wr := ⟨_, rfl⟩
      have hsz := hb.size
      by_cases hlt : k < n
      · obtain ⟨b, off, x, rfl, hbb, hc0, hs⟩ := HR.out.getD (k := k) (by rw [hn.out]; exact hlt)
        rw [← hb.cell (p := ⟨b, _, none⟩) hbb] at hc0
        have HM := legAt_more l (k := k) (by rw [hn.out]; exact hlt)
        rw [HLA.out, hs.out] at HM
        have hB := HB.out (k + 1)
        rw [HM] at hB
        obtain ⟨hb0, hb1⟩ := hB
        have hb2 : -9223372036854775808 ≤ a - x := by omega
        have hb3 : a - x ≤ 9223372036854775807 := by omega
        have HM2 := Lib.hid HM
        have HLT := Lib.hid (legsTo_len l (k + 1))
        have HMT := Lib.hid (legsTo_more l (k + 1))
        clear HM hb0 hb1
        go_wp2_with (at_builtin; refine wpList_snoc_int rfl _ _ rfl w.heap.size _ _ rfl (OwnN.alloc HO.out _) w3.heap.size (a - x) rfl (by simp) (by rw [HLT.out]; omega) (by simp; omega) (fun v5 w5 ho5 hg5 hq5 => ?_); have HS5 := Lib.hid ho5; have HB5 := Lib.hid ((hb.alloc hb.size (.cells #[.int .i64 (a - x)] 3)).grown hg5 (by simp; omega) (fun q hq => (World.ownsRow.lt HO.out q hq).1)); clear ho5 hg5 hq5)
        go_roundw
        case rel => exact ⟨k + 1, a - x, by omega, by go_num, rfl, HM2, Lib.hid (by rw [HMT.out, HM2.out]; exact HS5.out), HB5.out⟩
        case measure => simp [intOf]; omega
      · obtain rfl : k = n := by omega
        have HQ : Hid (legsTo l (k + 1) = legsE l) := Lib.hid (by rw [HE.out, ← legsTo_all, hn.out])
        rw [HQ.out] at HO
        go_wp2
        go_ret2
        exact ⟨_, rfl, HO.out, hb⟩
  · have HE := Lib.hid (legsE_no h0)
    obtain ⟨z, hz⟩ : ∃ z, chkL l = z := ⟨_, rfl⟩
    rw [hz] at CK h0 ⊢
    have e1 : (z == 0) = false := by simpa using h0
    have e2 : (z != 0) = true := by simpa using h0
    clear hr h0
    go_enter Try.func7, Try.ntmps7
    go_wp2_with (first
      | (go_at_call 16; (with_reducible refine CK.mono ?_); rintro e w0 ⟨rfl, rfl⟩))
    go_ret2
    exact ⟨_, rfl, by rw [HE.out]; exact OwnN.nil _ _, Below.refl _ _⟩

theorem peak21_any (A : Option Addr) (c n : Nat) (l : List Int) (w : World) (hn : Hid (l.length = n)) (hr : RdN w A l) :
    Calls Try.prog 8 #[.slice A n c] w fun e w' => e = .returned (.tuple #[.int .i64 (peakE l), .int .i64 (chkL l)]) ∧ Below w.heap.size w w' := by
  have LG := legs21_any A c n l w hn hr
  by_cases h0 : chkL l = 0
  · obtain ⟨hl, _⟩ := chkL_ok h0
    rw [hn.out] at hl
    have HP := Lib.hid (peakE_ok h0)
    have HX := Lib.hid (peakV_mx l)
    have HN : Hid ((legsE l).length = n + 1) := Lib.hid (by rw [legsE_ok h0, legsV_len, hn.out])
    rw [hn.out, ← legsE_ok h0] at HX
    rw [h0] at LG ⊢
    generalize legsE l = L at *
    clear hr h0
    go_enter Try.func8, Try.ntmps8
    go_wp2_with (first
      | (go_at_call 7; (with_reducible refine LG.mono ?_); rintro e w1 ⟨v, rfl, hv, hb1⟩; have HB1 := Lib.hid hb1; obtain ⟨A5, c5, rfl, hr5⟩ := hv.read; rw [HN.out]; have HR5 := Lib.hid hr5; clear hv hb1 hr5)
      | (go_at_call 19; (with_reducible refine (max21_any A5 c5 (n + 1) L w1 HN HR5.out (by omega) (by omega)).mono ?_); rintro e w2 ⟨rfl, rfl⟩; rw [HX.out]))
    go_ret2
    rw [HP.out]
    exact ⟨rfl, HB1.out⟩
  · have HP := Lib.hid (peakE_no h0)
    have HE := Lib.hid (legsE_no h0)
    obtain ⟨z, hz⟩ : ∃ z, chkL l = z := ⟨_, rfl⟩
    rw [hz] at LG h0 ⊢
    have e1 : (z == 0) = false := by simpa using h0
    have e2 : (z != 0) = true := by simpa using h0
    clear hr h0
    go_enter Try.func8, Try.ntmps8
    go_wp2_with (first
      | (go_at_call 7; (with_reducible refine LG.mono ?_); rintro e w1 ⟨v, rfl, hv, hb1⟩; have HB1 := Lib.hid hb1; clear hv hb1))
    go_ret2
    rw [HP.out]
    exact ⟨rfl, HB1.out⟩

theorem fits21_any (room : Int) (A : Option Addr) (c n : Nat) (l : List Int) (w : World) (hn : Hid (l.length = n)) (hr : RdN w A l) :
    Calls Try.prog 10 #[.int .i64 room, .slice A n c] w fun e w' => e = .returned (.bool (fitsE room l)) ∧ Below w.heap.size w w' := by
  have PK := peak21_any A c n l w hn hr
  by_cases h0 : chkL l = 0
  · have HF : Hid (fitsE room l = decide (peakE l ≤ room)) := Lib.hid (by unfold fitsE; rw [peakE_ok h0]; simp [h0])
    rw [h0] at PK
    generalize peakE l = p at *
    clear hr h0
    go_enter Try.func10, Try.ntmps10
    go_wp2_with (first
      | (go_at_call 8; (with_reducible refine PK.mono ?_); rintro e w1 ⟨rfl, hb1⟩; have HB1 := Lib.hid hb1; clear hb1))
    go_ret
    rw [HF.out]
    exact ⟨rfl, HB1.out⟩
  · have HF : Hid (fitsE room l = false) := Lib.hid (by unfold fitsE; simp [h0])
    obtain ⟨z, hz⟩ : ∃ z, chkL l = z := ⟨_, rfl⟩
    rw [hz] at PK h0
    have e1 : (z == 0) = false := by simpa using h0
    have e2 : (z != 0) = true := by simpa using h0
    generalize peakE l = p at *
    clear hr h0
    go_enter Try.func10, Try.ntmps10
    go_wp2_with (first
      | (go_at_call 8; (with_reducible refine PK.mono ?_); rintro e w1 ⟨rfl, hb1⟩; have HB1 := Lib.hid hb1; clear hb1))
    go_ret
    rw [HF.out]
    exact ⟨rfl, HB1.out⟩

end Go.Proofs.Ythgdclcmohgciaa
