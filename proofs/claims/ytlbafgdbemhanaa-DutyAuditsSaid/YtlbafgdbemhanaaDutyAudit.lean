/- What Audit and Accepts of layer 16 return. Conditions: the records can be read; at most a million. -/
import Derived.Test.YtlbafgdbemhanaaRows
import Derived.Test.YtlbafgdbemhanaaBase
import Derived.Test.YtlbafgdbemhanaaZ2
import Derived.Test.YtlbafgdbemhanaaBookLim
import Derived.Test.YtlbafgdbemhanaaZ1
import Derived.Test.YtlbafgdbemhanaaZ3
import Derived.Test.YtlbafgdbemhanaaSortC
import Derived.Test.YtlbafgdbemhanaaDutySet
import Derived.Test.YtlbafgdbemhanaaZ4
import Derived.Test.YtlbafgdbemhanaaDutyNote
import Derived.Test.YtlbafgdbemhanaaDutyRecord
import Derived.WalkKit
import Derived.WalkSpells
import Derived.WalkSmall
import Derived.Below
import Derived.Outline
import Derived.OwnWalk
import Derived.OneCell
import Derived.Lib.Hide
import Derived.Maps.RangeWalk
namespace Go.Proofs.Ytlbafgdbemhanaa
open Go.RowKit

/-- What the audit of a timeline comes to: the findings, the error. -/
noncomputable def auditV (x : Nat → Int) (l : List Rc) : List Rc × Int := if dcheckV x l = 0 then (listF (Au.zero.run x (kindsV l)).F, 0) else ([], dcheckV x l)

theorem dcheck_ok {x : Nat → Int} {l : List Rc} (h : dcheckV x l = 0) : May x ∧ Tl 0 l := by
  unfold dcheckV at h
  split at h
  · rename_i hx
    split at h
    · rename_i hc
      split at h
      · rename_i hb
        have := check_tl hc
        rw [hb] at this
        exact ⟨hx, this⟩
      · cases h
    · rename_i hc; exact absurd h hc
  · cases h
theorem dcheck_tl {x : Nat → Int} {l : List Rc} (hx : May x) (h : Tl 0 l) : dcheckV x l = 0 := by
  unfold dcheckV
  rw [if_pos hx, tl_check h, if_pos rfl, if_pos]
  cases l with
  | nil => rfl
  | cons r l => exact h.2.1

/-- Where a record of a timeline begins. -/
theorem Tl.begins : ∀ {l : List Rc} {e : Int} {k : Nat}, Tl e l → k < l.length → (l.getD k rz).2.1 = e + ((kindsV (l.take k)).length : Int)
  | r :: l, e, 0, h, _ => by simpa [kindsV] using h.2.1
  | r :: l, e, k + 1, h, hk => by
    have ih := Tl.begins (k := k) h.2.2 (by simpa using hk)
    have hr := h.1.2
    have h0 := h.2.1
    rw [List.take_succ_cons, kinds_cons, List.length_append, List.length_replicate]
    show (l.getD k rz).2.1 = _
    rw [ih]
    omega

/-- How the sweep stands behind k records. -/
theorem run_take {x : Nat → Int} {l : List Rc} (hx : May x) (h : Tl 0 l) {k : Nat} {q y z : Int} (hk : k < l.length) (hr : l.getD k rz = (q, y, z)) :
    (Au.zero.run x (kindsV (l.take k))).Ok y ∧ Au.zero.run x (kindsV (l.take (k + 1))) = (Au.zero.run x (kindsV (l.take k))).run x (List.replicate (z - y).toNat q) := by
  have hb := Tl.begins h hk
  rw [hr] at hb
  have hb : y = 0 + ((kindsV (l.take k)).length : Int) := hb
  have hs := Nat.le_trans (kinds_take l k) h.short
  constructor
  · have := Au.ok_run (may_len hx).1 (kindsV (l.take k)) Au.ok_zero (by omega)
    rw [hb]
    exact this
  · rw [kinds_more hk hr, Au.run_append]

set_option maxRecDepth 100000 in
set_option maxHeartbeats 4000000 in
theorem audit16_bad (x : Nat → Int) (A : Option Addr) (c : Nat) (l : List Rc) (w : World) (h : RdR w A l) (hl : l.length ≤ 1000000) {er : Int} (he : dcheckV x l = er) (hne : er ≠ 0) :
    Calls Try.prog 10 #[.agg (bk x), .slice A l.length c] w fun e w' => e = .returned (.tuple #[.slice none 0 0, .int .i64 er]) ∧ Below w.heap.size w w' := by
  have CK := fun W h => dcheck_any x A c l W h hl
  rw [he] at CK
  have RB : RdI (w.alloc (.cells (bk x) 23)) w.heap.size 0 x := RdI.new x 23 rfl
  have hB0 : Below w.heap.size w (w.alloc (.cells (bk x) 23)) := b_al (Below.refl _ _) (Nat.le_refl _) _
  have h0 := h.below hB0
  have ne : (er != 0) = true := by simpa using hne
  have ne2 : (er == 0) = false := by simpa using hne
  clear he hne
  go_enter Try.func10, Try.ntmps10
  go_wp2_with (first | refine wpList_load_bk (by rfl) 23 _ rfl _ _ rfl x _ (RB) Try.underlying23 rfl (by kernel_rfl) ?_ | (go_at_call 22; (with_reducible refine (CK _ h0).mono ?_); rintro e w1 ⟨rfl, hb1⟩))
  go_ret2
  exact ⟨rfl, b_cl hB0 (Nat.le_refl _) hb1⟩

set_option maxRecDepth 100000 in
set_option maxHeartbeats 8000000 in
theorem audit16_good (x : Nat → Int) (A : Option Addr) (c : Nat) (l : List Rc) (w : World) (h : RdR w A l) (hl : l.length ≤ 1000000) (he : dcheckV x l = 0) :
    Calls Try.prog 10 #[.agg (bk x), .slice A l.length c] w fun e w' => ∃ A' m c', e = .returned (.tuple #[.slice A' m c', .int .i64 0]) ∧ (listF (Au.zero.run x (kindsV l)).F).length = m ∧ RdF w' A' (listF (Au.zero.run x (kindsV l)).F) ∧ (A' = none → c' = 0) ∧ Below w.heap.size w w' := by
  obtain ⟨hx, ht⟩ := dcheck_ok he
  have CK := fun W h => dcheck_any x A c l W h hl
  rw [he] at CK
  have RB : RdI (w.alloc (.cells (bk x) 23)) w.heap.size 0 x := RdI.new x 23 rfl
  have hB0 : Below w.heap.size w (w.alloc (.cells (bk x) 23)) := b_al (Below.refl _ _) (Nat.le_refl _) _
  have h0 := h.below hB0
  obtain ⟨R, hR⟩ : ∃ R, listF (Au.zero.run x (kindsV l)).F = R := ⟨_, rfl⟩
  rw [hR]
  have HRR := Lib.hid hR
  clear hR he
  go_enter Try.func10, Try.ntmps10
  go_upto_region 5 with (first
    | refine wpList_load_bk (by rfl) 23 _ rfl _ _ rfl x _ (RB) Try.underlying23 rfl (by kernel_rfl) ?_
    | (go_at_call 22; (with_reducible refine (CK _ h0).mono ?_); rintro e w1 ⟨rfl, hb1⟩; have RB1 := RB.below hb1)
    | refine wpList_load_bk (by rfl) 23 _ rfl _ _ rfl x _ (RB1) Try.underlying23 rfl (by kernel_rfl) ?_
    | refine wpList_build_as rfl 53 _ rfl (swp x .zero 0) (by kernel_rfl) ?_
    | refine wpList_store_box rfl 53 _ _ rfl w1.heap.size (swp x .zero 0) rfl rfl 53 (swp (fun _ => 0) .zero 0) (Bx.new (W := w1) 53 (swp (fun _ => 0) .zero 0) rfl) (by kernel_rfl) rfl (swp_one _ _ _) (fun w2 u => ?_))
  (try go_frame)
  have B1 := b_cl hB0 (Nat.le_refl _) hb1
  have hz2 := u.size
  simp only [World.size_alloc] at hz2
  have hz1 := hb1.size
  simp only [World.size_alloc] at hz1
  have B2 : Below w.heap.size w w2 := (b_al B1 (by omega) _).trans (u.bel _ (by omega))
  have h2 := h.below B2
  have C0 : Sw w2 w1.heap.size x .zero 0 := u.box
  obtain ⟨g, hg⟩ : ∃ g, w1.heap.size = g := ⟨_, rfl⟩
  rw [hg] at C0 hz2 hz1 ⊢
  clear CK RB RB1 hb1 u B1 h0 hB0 hg
  have D0 : DutS (g + 2) g (g + 1) x Au.zero.m Au.zero.p Au.zero.F (w2.alloc (.cells #[.slice none 0 0] 27)) := by
    refine ⟨C0.alloc _, ⟨.slice none 0 0, [], Bx.new _ _ (by rw [hz2]), OwnF.nil _ _, Rep.nil⟩, by omega, by omega, by omega, by simp; omega⟩
  have B3 : Below w.heap.size w (w2.alloc (.cells #[.slice none 0 0] 27)) := b_al B2 (by omega) _
  have hz3 : (w2.alloc (.cells #[.slice none 0 0] 27)).heap.size = g + 2 := by simp; omega
  have HX := Lib.hid hx
  have HT := Lib.hid ht
  have HR := Lib.hid h
  have hwg : w.heap.size < g := by omega
  clear hx ht h h2 C0 B2
  obtain ⟨w3, hw3⟩ : ∃ w3, w2.alloc (.cells #[.slice none 0 0] 27) = w3 := ⟨_, rfl⟩
  go_wp2
  try rw [hz2]
  try rw [hw3]
  rw [hw3] at D0 B3 hz3
  clear hw3
  have HD0 : Hid (DutS (g + 2) g (g + 1) x (Au.zero.run x (kindsV (l.take 0))).m (Au.zero.run x (kindsV (l.take 0))).p (Au.zero.run x (kindsV (l.take 0))).F w3) := Lib.hid D0
  have HB3 := Lib.hid B3
  clear D0 B3
  go_loopw [23] (fun i wr => ∃ k : Nat, k ≤ l.length ∧ i = .int .i64 (k : Nat) ∧ Hid (DutS (g + 2) g (g + 1) x (Au.zero.run x (kindsV (l.take k))).m (Au.zero.run x (kindsV (l.take k))).p (Au.zero.run x (kindsV (l.take k))).F wr) ∧ Hid (Below w.heap.size w wr) ∧ g + 2 ≤ wr.heap.size) (fun i _ => l.length - (intOf i).toNat)
  case atStart => exact ⟨0, Nat.zero_le _, rfl, HD0, HB3, by omega⟩
  case round =>
    clear HD0 HB3
    obtain ⟨k, hk, rfl, HD, HB, hzr⟩ := hrel
    obtain ⟨w4, rfl⟩ : ∃ w4 : World, w4 = wr := ⟨_, rfl⟩
    by_cases hlt : k < l.length
    case pos =>
      obtain ⟨b, off, q, y, z, rfl, hbb, hc0, hc1, hc2, hs⟩ := HR.out.at_ hlt
      rw [← HB.out.cell (p := ⟨b, _, none⟩) hbb] at hc0 hc1 hc2
      have hbr : b < w4.heap.size := by omega
      have bd := HT.out.at_ k hlt
      rw [hs.out] at bd
      dsimp only at bd
      obtain ⟨hok, hrun⟩ := run_take HX.out HT.out hlt hs.out
      generalize Au.zero.run x (kindsV (l.take k)) = a at *
      have Bx1 : Below w4.heap.size w4 (w4.alloc (.cells #[.int .i64 q, .int .i64 y, .int .i64 z] 48)) := (Below.refl _ _).alloc (Nat.le_refl _) _
      have RC := record16_any (g + 2) g (g + 1) x a q y z _ (HD.out.below Bx1 rfl) hok HX.out (may_len HX.out).1 bd.1 bd.2
      have HRUN := Lib.hid hrun
      have HB4 := Lib.hid (HB.out.alloc HB.out.size (.cells #[.int .i64 q, .int .i64 y, .int .i64 z] 48))
      clear hrun hok hs bd Bx1
      go_wp2_with (go_at_call 26; (refine RC.mono ?_); rintro e w5 ⟨rfl, hd5, hk5⟩; have HD5 := Lib.hid hd5; have HB5 := Lib.hid (HB4.out.trans (hk5.below (n := w.heap.size) (by omega) (by omega) (by omega) (by simp; omega))); have hz5 := hk5.size; clear hd5 hk5)
      simp only [World.size_alloc] at hz5
      go_roundw
      case rel => exact ⟨k + 1, by omega, by go_num, Lib.hid (by rw [HRUN.out]; exact HD5.out), HB5, by omega⟩
      case measure => simp [intOf]; omega
    case neg =>
      obtain rfl : k = l.length := by omega
      obtain ⟨v, fl, HL, HO, HRp⟩ := HD.out.cell
      rw [List.take_of_length_le (Nat.le_refl _)] at HRp
      obtain ⟨A2, c2, rfl, hrd, hzz⟩ := HO.read
      have hle := HRp.le
      obtain ⟨n2, hn2⟩ : ∃ n2, fl.length = n2 := ⟨_, rfl⟩
      rw [hn2] at HL hle
      have SO := fun W hr => sort15_any A2 c2 n2 fl W hn2 hr hzz (by omega)
      have fL : w4.cell? ⟨g + 1, 0, none⟩ = some (.slice A2 n2 c2) := HL.cell rfl
      clear HL HO hn2 HD
      go_wp2_with (go_at_call 27; (with_reducible refine (SO _ hrd).mono ?_); rintro e w5 ⟨A3, m3, c3, r3, rfl, hm3, hset, hr3, hz3', hb5⟩)
      go_ret2
      have hr : r3 = R := by rw [← HRR.out]; exact sort_rep HRp hset
      subst hr
      exact ⟨A3, m3, c3, rfl, hm3, hr3, hz3', HB.out.trans (hb5.mono (by omega))⟩

/-- What Audit returns. -/
theorem audit16_any (x : Nat → Int) (A : Option Addr) (c : Nat) (l : List Rc) (w : World) (h : RdR w A l) (hl : l.length ≤ 1000000) :
    Calls Try.prog 10 #[.agg (bk x), .slice A l.length c] w fun e w' => ∃ A' m c', e = .returned (.tuple #[.slice A' m c', .int .i64 (auditV x l).2]) ∧ (auditV x l).1.length = m ∧ RdF w' A' (auditV x l).1 ∧ (A' = none → c' = 0) ∧ Below w.heap.size w w' := by
  unfold auditV
  by_cases he : dcheckV x l = 0
  · rw [if_pos he]
    exact audit16_good x A c l w h hl he
  · rw [if_neg he]
    refine (audit16_bad x A c l w h hl rfl he).mono fun e w' ⟨h1, h2⟩ => ?_
    exact ⟨none, 0, 0, h1, rfl, RdF.nil _ _, fun _ => rfl, h2⟩

/-- Does the audit tell nothing, and no error? -/
noncomputable def acceptsV (x : Nat → Int) (l : List Rc) : Bool := (auditV x l).2 == 0 && (auditV x l).1.length == 0

set_option maxRecDepth 100000 in
set_option maxHeartbeats 1000000 in
theorem accepts16_any (x : Nat → Int) (A : Option Addr) (c n : Nat) (l : List Rc) (w : World) (hn : l.length = n) (h : RdR w A l) (hl : n ≤ 1000000) :
    Calls Try.prog 13 #[.agg (bk x), .slice A n c] w fun e w' => e = .returned (.bool (acceptsV x l)) ∧ Below w.heap.size w w' := by
  subst hn
  have CA := fun W h => audit16_any x A c l W h hl
  have RB : RdI (w.alloc (.cells (bk x) 23)) w.heap.size 0 x := RdI.new x 23 rfl
  have hB0 : Below w.heap.size w (w.alloc (.cells (bk x) 23)) := b_al (Below.refl _ _) (Nat.le_refl _) _
  have h0 := h.below hB0
  unfold acceptsV
  generalize (auditV x l).2 = er at *
  generalize (auditV x l).1 = f at *
  by_cases he : er = 0
  case neg =>
    have ne : (er == 0) = false := by simpa using he
    have e2 : (er == 0 && f.length == 0) = false := by rw [ne]; rfl
    rw [e2]
    clear he e2
    go_enter Try.func13, Try.ntmps13
    go_wp2_with (first | refine wpList_load_bk (by rfl) 23 _ rfl _ _ rfl x _ (RB) Try.underlying23 rfl (by kernel_rfl) ?_ | (go_at_call 10; (with_reducible refine (CA _ h0).mono ?_); rintro e w1 ⟨A1, m1, c1, rfl, _, _, _, hb1⟩))
    go_ret
    exact ⟨rfl, b_cl hB0 (Nat.le_refl _) hb1⟩
  subst he
  obtain ⟨r, hr⟩ : ∃ r, (f.length == 0) = r := ⟨_, rfl⟩
  rw [hr, show ((0 : Int) == 0) = true from rfl, Bool.true_and]
  have CA2 : ∀ W, RdR W A l → Calls Try.prog 10 #[.agg (bk x), .slice A l.length c] W fun e w' => ∃ A' m c', e = .returned (.tuple #[.slice A' m c', .int .i64 0]) ∧ (((m : Nat) : Int) == 0) = r ∧ Below W.heap.size W w' := fun W h => (CA W h).mono fun e w' ⟨A', m, c', h1, h2, h3, h4, h5⟩ => ⟨A', m, c', h1, by rw [← hr, h2, Bool.eq_iff_iff]; simp, h5⟩
  clear hr CA
  go_enter Try.func13, Try.ntmps13
  go_wp2_with (first | refine wpList_load_bk (by rfl) 23 _ rfl _ _ rfl x _ (RB) Try.underlying23 rfl (by kernel_rfl) ?_ | (go_at_call 10; (with_reducible refine (CA2 _ h0).mono ?_); rintro e w1 ⟨A1, m1, c1, rfl, hm1, hb1⟩))
  go_ret
  exact ⟨rfl, b_cl hB0 (Nat.le_refl _) hb1⟩

end Go.Proofs.Ytlbafgdbemhanaa
