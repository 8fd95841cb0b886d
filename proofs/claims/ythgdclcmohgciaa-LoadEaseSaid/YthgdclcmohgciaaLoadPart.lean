/- What part and Ease of layer 21 return, and the document's Ease. Conditions: the loads can be read, and are at most a million. -/
import Derived.Test.YthgdclcmohgciaaRows
import Derived.Test.YthgdclcmohgciaaBase
import Derived.Test.YthgdclcmohgciaaRow
import Derived.Test.YthgdclcmohgciaaRecMath
import Derived.Test.YthgdclcmohgciaaRecHeap
import Derived.Test.YthgdclcmohgciaaIntsSame
import Derived.Test.YthgdclcmohgciaaIntsApp
import Derived.Test.YthgdclcmohgciaaApart
import Derived.Test.YthgdclcmohgciaaLoadMath
import Derived.WalkKit
import Derived.WalkSpells
import Derived.WalkSmall
import Derived.Below
import Derived.OwnWalk
import Derived.Outline
import Derived.Lib.Hide
namespace Go.Proofs.Ythgdclcmohgciaa
open Go.RowKit

theorem apart_more {w : World} {base : Nat} {v v5 u : Value} {l : List Int} (hu : OwnN base w u l) (h : ∀ q, v.ownBlock = some q → u.ownBlock ≠ some q) {o : Obj} (hq : ∀ q, v5.ownBlock = some q → v.ownBlock = some q ∨ (w.alloc o).heap.size ≤ q) :
    ∀ q, v5.ownBlock = some q → u.ownBlock ≠ some q := by
  intro q h5 hu5
  rcases hq q h5 with h6 | h6
  · exact h q h6 hu5
  · have := (World.ownsRow.lt hu q hu5).2
    simp at h6
    omega

theorem OwnN.nocap {base : Nat} {w : World} {A : Option Addr} {n c : Nat} {l : List Int} (h : OwnN base w (.slice A n c) l) : A = none → c = 0 := by
  intro e
  rcases h.2 with ⟨h, _⟩ | ⟨_, _, _, h, _⟩
  · injection h
  · rw [e] at h
    injection h with h1 _ _
    cases h1

theorem part21_any (A : Option Addr) (c n : Nat) (l : List Int) (w : World) (hn : Hid (l.length = n)) (hr : RdN w A l) (hl : n ≤ 1000000) :
    Calls Try.prog 17 #[.slice A n c] w fun e w' => ∃ v u, e = .returned (.tuple #[v, u]) ∧ OwnN w.heap.size w' v (bro l) ∧ OwnN w.heap.size w' u (oth l) ∧ (∀ q, v.ownBlock = some q → u.ownBlock ≠ some q) ∧ Below w.heap.size w w' := by
  have HR := Lib.hid hr
  clear hr
  go_enter Try.func17, Try.ntmps17
  go_wp2
  go_loopw [2, 3, 8] (fun v u i wr => ∃ k : Nat, k ≤ n ∧ i = .int .i64 k ∧ Hid (OwnN w.heap.size wr v (bro (l.take k))) ∧ Hid (OwnN w.heap.size wr u (oth (l.take k))) ∧ Hid (∀ q, v.ownBlock = some q → u.ownBlock ≠ some q) ∧ Below w.heap.size w wr) (fun _ _ i _ => n - (intOf i).toNat)
  case atStart => exact ⟨0, Nat.zero_le _, rfl, Lib.hid (OwnN.nil _ _), Lib.hid (OwnN.nil _ _), Lib.hid (fun q h => by cases h), Below.refl _ _⟩
  case round =>
    obtain ⟨k, hk, rfl, HV, HU, HQ, hb⟩ := hrel
    obtain ⟨w3, rfl⟩ : ∃ w3 : World, w3 = wr := ⟨_, rfl⟩
    have hsz := hb.size
    by_cases hlt : k < n
    · obtain ⟨b, off, x, rfl, hbb, hc0, hs⟩ := HR.out.getD (k := k) (by rw [hn.out]; exact hlt)
      rw [← hb.cell (p := ⟨b, _, none⟩) hbb] at hc0
      have HL1 := Lib.hid (Nat.le_trans (bro_len (l.take k)) (take_len l k))
      have HL2 := Lib.hid (Nat.le_trans (oth_len (l.take k)) (take_len l k))
      by_cases hx : 0 < x
      · have HB := Lib.hid (bro_more l (k := k) (by rw [hn.out]; exact hlt) (by rw [hs.out]; exact hx))
        rw [hs.out] at HB
        go_wp2_with (at_builtin; refine wpList_snoc_int rfl _ _ rfl w.heap.size _ _ rfl (OwnN.alloc HV.out _) w3.heap.size x rfl (by simp) (by have := HL1.out; omega) (by simp; omega) (fun v5 w5 ho5 hg5 hq5 => ?_); have HS := Lib.hid ho5; have HU5 := Lib.hid (OwnN.grown (OwnN.alloc HU.out _) hg5 (fun q h1 h2 => HQ.out q h2 h1)); have HQ5 := Lib.hid (apart_more HU.out HQ.out hq5); have HB5 := Lib.hid ((hb.alloc hb.size (.cells #[.int .i64 x] 3)).grown hg5 (by simp; omega) (fun q hq => (World.ownsRow.lt HV.out q hq).1)); clear ho5 hg5 hq5)
        go_roundw
        case rel => exact ⟨k + 1, by omega, by go_num, Lib.hid (by rw [HB.out.1]; exact HS.out), Lib.hid (by rw [HB.out.2]; exact HU5.out), HQ5, HB5.out⟩
        case measure => simp [intOf]; omega
      · have HB := Lib.hid (oth_more l (k := k) (by rw [hn.out]; exact hlt) (by rw [hs.out]; exact hx))
        rw [hs.out] at HB
        go_wp2_with (at_builtin; refine wpList_snoc_int rfl _ _ rfl w.heap.size _ _ rfl (OwnN.alloc HU.out _) w3.heap.size x rfl (by simp) (by have := HL2.out; omega) (by simp; omega) (fun v5 w5 ho5 hg5 hq5 => ?_); have HS := Lib.hid ho5; have HV5 := Lib.hid (OwnN.grown (OwnN.alloc HV.out _) hg5 (fun q h1 h2 => HQ.out q h1 h2)); have HQ5 := Lib.hid (fun q h1 h2 => apart_more HV.out (fun q h1 h2 => HQ.out q h2 h1) hq5 q h2 h1); have HB5 := Lib.hid ((hb.alloc hb.size (.cells #[.int .i64 x] 3)).grown hg5 (by simp; omega) (fun q hq => (World.ownsRow.lt HU.out q hq).1)); clear ho5 hg5 hq5)
        go_roundw
        case rel => exact ⟨k + 1, by omega, by go_num, Lib.hid (by rw [HB.out.1]; exact HV5.out), Lib.hid (by rw [HB.out.2]; exact HS.out), HQ5, HB5.out⟩
        case measure => simp [intOf]; omega
    · have hkl : l.take k = l := List.take_of_length_le (by rw [hn.out]; omega)
      rw [hkl] at HV HU
      clear hkl
      go_wp2
      go_ret2
      exact ⟨_, _, rfl, HV.out, HU.out, HQ.out, hb⟩

theorem ease21_any (A : Option Addr) (c n : Nat) (l : List Int) (w : World) (hn : Hid (l.length = n)) (hr : RdN w A l) (hl : n ≤ 100000) :
    Calls Try.prog 14 #[.slice A n c] w fun e w' => ∃ v, e = .returned v ∧ OwnN w.heap.size w' v (easeV l) ∧ Below w.heap.size w w' := by
  have PT := part21_any A c n l w hn hr (by omega)
  have L1 := Lib.hid (by have := bro_len l; rw [hn.out] at this; exact this)
  have L2 := Lib.hid (by have := oth_len l; rw [hn.out] at this; exact this)
  clear hr
  go_enter Try.func14, Try.ntmps14
  go_wp2_with (first
    | (go_at_call 17; (with_reducible refine PT.mono ?_); rintro e w1 ⟨v, u, rfl, hv, hu, _, hb1⟩; have HV := Lib.hid hv; have HB1 := Lib.hid hb1; obtain ⟨A5, c5, rfl, hr5⟩ := hu.read; have hz5 : A5 = none → c5 = 0 := OwnN.nocap hu; have HR5 := Lib.hid hr5; have HZ5 := Lib.hid hz5; clear hv hu hb1 hr5 hz5)
    | (at_builtin; refine wpList_plain rfl fun K hK => ?_; refine wp_append_ints _ _ rfl w.heap.size _ (bro l) rfl HV.out A5 c5 (oth l) rfl HR5.out HZ5.out (by have := L1.out; have := L2.out; omega) HB1.out.size (fun v' w' h1 h2 => hK _ _ ?_); have HO := Lib.hid h1; have HB2 := Lib.hid (HB1.out.trans h2); clear h1 h2))
  go_ret
  exact ⟨_, rfl, HO.out, HB2.out⟩

end Go.Proofs.Ythgdclcmohgciaa
