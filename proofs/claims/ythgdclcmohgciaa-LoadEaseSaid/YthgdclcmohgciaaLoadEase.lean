/- What is brought first, then the others: no other order of the loads has a lower peak. Conditions: none. -/
import Derived.Test.YthgdclcmohgciaaRows
import Derived.Test.YthgdclcmohgciaaBase
import Derived.Test.YthgdclcmohgciaaRow
import Derived.Test.YthgdclcmohgciaaRecMath
import Derived.Test.YthgdclcmohgciaaRecHeap
import Derived.Test.YthgdclcmohgciaaIntsOpen
import Derived.Test.YthgdclcmohgciaaIntsSame
import Derived.Test.YthgdclcmohgciaaIntsApp
import Derived.Test.YthgdclcmohgciaaApart
import Derived.Test.YthgdclcmohgciaaLoadMath
import Derived.Test.YthgdclcmohgciaaLoadC
import Derived.Test.YthgdclcmohgciaaLoadRef
import Derived.Test.YthgdclcmohgciaaLoadPart
import Derived.Test.YthgdclcmohgciaaLoadAlive
import Derived.WalkKit
import Derived.WalkSmall
import Derived.WalkSpells
import Derived.ProofKit
import Derived.OpenShut
import Derived.ShutString
import Derived.ChangeOld
import Derived.Below
import Derived.Lib.Hide
import Derived.OwnWalk
import Derived.Outline
import Derived.BigQuiet
import Derived.Deep.QuietTactic
import Derived.Deep.DeepCutAuto
import Derived.RegionTactic
import Derived.BigRegion
namespace Go.Proofs.Ythgdclcmohgciaa.loadEase
open Go.ChangeShapes Go.WideShapes Go.ChangeAt Go.RowKit
open Go.ChangeMaps (open_string shut_string)
set_option linter.unusedVariables false

theorem own : ownKnob Try.prog.godebug = none := by kernel_rfl
theorem laidOut : laidOutB Try.prog = true := by kernel_rfl

/-- A store into a slice of ints of the call's own. -/
theorem OwnN.setAt {base g n c : Nat} {w : World} {o : List Int} (h : OwnN base w (.slice (some ⟨g, 0, none⟩) n c) o) (hn : o.length = n) (j : Nat) (x : Int) : OwnN base (w.setCell ⟨g, j, none⟩ (.int .i64 x)) (.slice (some ⟨g, 0, none⟩) n c) (o.set j x) := by
  unfold OwnN at *
  rw [hn] at h
  rw [List.length_set, hn, List.map_set]
  exact (World.ownsRow.stored h j _).1
theorem append_copy {op : Oper} {a : Act} {w : World} {K : Act → World → Prop} {Q : Exit → Act → World → Prop} (s x : Operand)
    (ho : op.op = .call { callee := .builtin .append, args := #[s, x], argTypes := #[22, 22] }) (hs : a.eval s = .slice none 0 0)
    (A : Option Addr) (c n : Nat) (l : List Int) (hn : l.length = n) (hx : a.eval x = .slice A n c) (hr : RdN w A l) (hz : A = none → c = 0) (hb : n ≤ 1000000)
    (h : ∀ A' c' w', OwnN w.heap.size w' (.slice A' n c') l → Below w.heap.size w w' → K (a.put op.dst (.slice A' n c')) w') : op.wp Try.prog a w K Q := by
  subst hn
  refine wp_append_ints s x ho w.heap.size _ [] hs (OwnN.nil _ _) A c l hx hr hz (by simp; omega) (Nat.le_refl _) fun v w' h1 h2 => ?_
  rw [List.nil_append] at h1
  obtain ⟨A', c', rfl, _⟩ := h1.read
  exact h A' c' w' h1 h2
theorem perm_len {a b : List Int} (h : a.Perm b) {n : Nat} (hn : b.length = n) : a.length = n := h.length_eq.trans hn

set_option maxRecDepth 20000 in
set_option maxHeartbeats 4000000 in
theorem walk (w : World) (A0 : Option Addr) (c0 : Nat) (l0 : List Int) (r0 : RdN w A0 l0) (z0 : A0 = none → c0 = 0) (A1 : Option Addr) (c1 : Nat) (l1 : List Int) (r1 : RdN w A1 l1) (z1 : A1 = none → c1 = 0) :
    Calls Try.prog 4 #[.slice A0 l0.length c0, .slice A1 l1.length c1] w fun e w' => e = .returned (.bool true) ∧ Below w.heap.size w w' := by
  obtain ⟨n0, hn0⟩ : ∃ n, l0.length = n := ⟨_, rfl⟩
  rw [hn0]
  have HN := Lib.hid hn0
  have R0 := Lib.hid r0
  have B0 := Lib.hid (Below.refl w.heap.size w)
  obtain ⟨m0, hm0⟩ : ∃ n, l1.length = n := ⟨_, rfl⟩
  rw [hm0]
  have HM := Lib.hid hm0
  have P0 := Lib.hid r1
  clear r0 r1
  by_cases hbig : 100 < n0
  · have i1 : (100 : Int) < (n0 : Int) := by omega
    go_enter Try.func4, Try.ntmps4
    go_wp2_with (first
      | go_skip
      | (go_at_call 6; (with_reducible refine (alive21_any _).mono ?_); rintro e w9 ⟨rfl, hb9⟩; have B9 := Lib.hid (b_cl B0.out (Nat.le_refl _) hb9); clear hb9))
    go_ret
    exact ⟨by first | rfl | simp, B9.out⟩
  have i1 : (n0 : Int) ≤ 100 := by omega
  by_cases hbig2 : 100 < m0
  · have i2 : (100 : Int) < (m0 : Int) := by omega
    go_enter Try.func4, Try.ntmps4
    go_wp2_with (first
      | go_skip
      | (go_at_call 6; (with_reducible refine (alive21_any _).mono ?_); rintro e w9 ⟨rfl, hb9⟩; have B9 := Lib.hid (b_cl B0.out (Nat.le_refl _) hb9); clear hb9))
    go_ret
    exact ⟨by first | rfl | simp, B9.out⟩
  have i2 : (m0 : Int) ≤ 100 := by omega
  have EA := fun W (h : RdN W A0 l0) => ease21_any A0 c0 n0 l0 W HN h (by omega)
  have RE := fun W (h : RdN W A0 l0) => refease21_any A0 c0 n0 l0 W HN h (by omega)
  have PK := fun W (h : RdN W A0 l0) => peak21_any A0 c0 n0 l0 W HN h
  have HEL : Hid ((easeV l0).length = n0) := Lib.hid (perm_len (ease_perm l0) hn0)
  have XP := fun A c W (h : RdN W A (easeV l0)) => peak21_any A c n0 (easeV l0) W HEL h
  have OP := fun o (ho : Hid (o.length = n0)) A c W (h : RdN W A o) => peak21_any A c n0 o W ho h
  have HZ1 := Lib.hid (chkL_perm (ease_perm l0))
  have HLST := Lib.hid fun m (h : List.Perm m l0) => And.intro (chkL_perm h) (ease_least h)
  have HSELF := Lib.hid (ease_least (List.Perm.refl l0))
  have HZ0 := Lib.hid z0
  have hs : n0 ≤ 4611686018427387904 := by omega
  have hb9 : n0 ≤ 1000000 := by omega
  clear z0 z1 hbig hbig2 hn0 hm0
  go_enter Try.func4, Try.ntmps4
  go_wp2_with (first
    | go_skip
    | (go_at_call 14; (with_reducible refine (EA _ R0.out).mono ?_); rintro e w1 ⟨v1, rfl, ho1, hb1⟩; have R1 := Lib.hid (R0.out.below hb1); have P1 := Lib.hid (P0.out.below hb1); have B1 := Lib.hid (b_cl B0.out (Nat.le_refl _) hb1); obtain ⟨A5, c5, rfl, hr1⟩ := ho1.read; rw [HEL.out]; have X1 := Lib.hid hr1; clear ho1 hr1; clear hb1)
    | (go_at_call 15; (with_reducible refine (RE _ R1.out).mono ?_); rintro e w2 ⟨v2, rfl, ho2, hb2⟩; have R2 := Lib.hid (R1.out.below hb2); have P2 := Lib.hid (P1.out.below hb2); have X2 := Lib.hid (X1.out.below hb2); have B2 := Lib.hid (b_cl B1.out (Nat.le_refl _) hb2); obtain ⟨A6, c6, rfl, hr2⟩ := ho2.read; rw [HEL.out]; have Z2 := Lib.hid hr2; clear ho2 hr2; clear hb2)
    | (go_at_call 11; (with_reducible refine (sameN_any A5 A6 c5 c6 n0 n0 (easeV l0) (easeV l0) _ HEL HEL X2.out Z2.out hs hs).mono ?_); rintro e w3 ⟨rfl, hb3⟩; have R3 := Lib.hid (R2.out.below hb3); have P3 := Lib.hid (P2.out.below hb3); have X3 := Lib.hid (X2.out.below hb3); have B3 := Lib.hid (b_cl B2.out (Nat.le_refl _) hb3); rw [decide_eq_true (rfl : easeV l0 = easeV l0)]; clear hb3)
    | (at_builtin; refine wpList_plain rfl fun K hK => ?_; refine append_copy _ _ rfl rfl A0 c0 n0 l0 HN.out rfl R3.out HZ0.out hb9 (fun A7 c7 w4 h1 h2 => hK _ _ ?_); have O4 := Lib.hid h1; have B34 := Lib.hid h2; clear h1 h2))
  go_loopw [36] (fun i wr => ∃ (k : Nat) (o : List Int), k ≤ m0 ∧ i = .int .i64 k ∧ Hid (o.Perm l0) ∧ Hid (OwnN w3.heap.size wr (.slice A7 n0 c7) o) ∧ Below w3.heap.size w3 wr) (fun i _ => m0 - (intOf i).toNat)
  case atStart => exact ⟨0, l0, Nat.zero_le _, rfl, Lib.hid (List.Perm.refl _), O4, B34.out⟩
  case round =>
    obtain ⟨k, o, hk, rfl, HP, HO, hb⟩ := hrel
    obtain ⟨w5, rfl⟩ : ∃ w5 : World, w5 = wr := ⟨_, rfl⟩
    have hsz := hb.size
    have HOL := Lib.hid (perm_len HP.out HN.out)
    by_cases hlt : k < m0
    case neg =>
      obtain rfl : k = m0 := by omega
      have R5 := Lib.hid (R3.out.below hb)
      have X5 := Lib.hid (X3.out.below hb)
      have B5 := Lib.hid (b_cl B3.out (Nat.le_refl _) hb)
      obtain ⟨A8, c8, e8, hr8⟩ := HO.out.read
      injection e8 with ea en ec
      clear en
      subst ea ec
      have Y5 := Lib.hid hr8
      obtain ⟨q1, q2⟩ := HLST.out o HP.out
      have q0 := HZ1.out
      have q3 := HSELF.out
      have XQ := fun W (h : RdN W A5 (easeV l0)) => XP A5 c5 W h
      have OQ := fun W (h : RdN W A7 o) => OP o HOL A7 c7 W h
      clear XP OP
      rw [q0] at XQ
      rw [q1] at OQ
      by_cases h0 : chkL l0 = 0
      · rw [peakE_ok (q0.trans h0), h0] at XQ
        rw [peakE_ok h0, h0] at PK
        rw [peakE_ok (q1.trans h0), h0] at OQ
        generalize peakV (easeV l0) = p1 at *
        generalize peakV l0 = p2 at *
        generalize peakV o = p3 at *
        clear h0 q0 q1
        go_wp2_with (first
          | go_skip
          | (go_at_call 8; (with_reducible refine (XQ _ X5.out).mono ?_); rintro e w6 ⟨rfl, hb6⟩; have R6 := Lib.hid (R5.out.below hb6); have X6 := Lib.hid (X5.out.below hb6); have Y6 := Lib.hid (Y5.out.below hb6); have B6 := Lib.hid (b_cl B5.out (Nat.le_refl _) hb6); clear hb6)
          | (go_at_call 8; (with_reducible refine (PK _ R6.out).mono ?_); rintro e w7 ⟨rfl, hb7⟩; have Y7 := Lib.hid (Y6.out.below hb7); have B7 := Lib.hid (b_cl B6.out (Nat.le_refl _) hb7); clear hb7)
          | (go_at_call 8; (with_reducible refine (OQ _ Y7.out).mono ?_); rintro e w8 ⟨rfl, hb8⟩; have B8 := Lib.hid (b_cl B7.out (Nat.le_refl _) hb8); clear hb8)
          | (go_at_call 6; (with_reducible refine (alive21_any _).mono ?_); rintro e w9 ⟨rfl, hb9⟩; have B9 := Lib.hid (b_cl B8.out (Nat.le_refl _) hb9); clear hb9))
        go_ret
        exact ⟨by first | rfl | simp, B9.out⟩
      · rw [peakE_no (by rw [q0]; exact h0)] at XQ
        rw [peakE_no h0] at PK
        rw [peakE_no (by rw [q1]; exact h0)] at OQ
        obtain ⟨z, hz⟩ : ∃ z, chkL l0 = z := ⟨_, rfl⟩
        rw [hz] at XQ PK OQ h0
        have e1 : (z == 0) = false := by simpa using h0
        have e2 : (z != 0) = true := by simpa using h0
        clear h0 hz q0 q1 q2 q3
        go_wp2_with (first
          | go_skip
          | (go_at_call 8; (with_reducible refine (XQ _ X5.out).mono ?_); rintro e w6 ⟨rfl, hb6⟩; have R6 := Lib.hid (R5.out.below hb6); have X6 := Lib.hid (X5.out.below hb6); have Y6 := Lib.hid (Y5.out.below hb6); have B6 := Lib.hid (b_cl B5.out (Nat.le_refl _) hb6); clear hb6)
          | (go_at_call 8; (with_reducible refine (PK _ R6.out).mono ?_); rintro e w7 ⟨rfl, hb7⟩; have Y7 := Lib.hid (Y6.out.below hb7); have B7 := Lib.hid (b_cl B6.out (Nat.le_refl _) hb7); clear hb7)
          | (go_at_call 8; (with_reducible refine (OQ _ Y7.out).mono ?_); rintro e w8 ⟨rfl, hb8⟩; have B8 := Lib.hid (b_cl B7.out (Nat.le_refl _) hb8); clear hb8)
          | (go_at_call 6; (with_reducible refine (alive21_any _).mono ?_); rintro e w9 ⟨rfl, hb9⟩; have B9 := Lib.hid (b_cl B8.out (Nat.le_refl _) hb9); clear hb9))
        go_ret
        exact ⟨by first | rfl | simp, B9.out⟩
    obtain ⟨b, off, p, rfl, hbb, hc0, hs1⟩ := (P3.out.below hb).getD (k := k) (by rw [HM.out]; exact hlt)
    by_cases hin : k < n0
    case neg =>
      have k1 : (n0 : Int) ≤ (k : Int) := by omega
      go_wp2
      go_roundw
      case rel => exact ⟨k + 1, o, by omega, by go_num, HP, HO, hb⟩
      case measure => simp [intOf]; omega
    have k1 : (k : Int) < (n0 : Int) := by omega
    by_cases hp0 : 0 ≤ p
    case neg =>
      have k2 : p < 0 := by omega
      go_wp2
      go_roundw
      case rel => exact ⟨k + 1, o, by omega, by go_num, HP, HO, hb⟩
      case measure => simp [intOf]; omega
    by_cases hp1 : p < n0
    case neg =>
      have k2 : (n0 : Int) ≤ p := by omega
      go_wp2
      go_roundw
      case rel => exact ⟨k + 1, o, by omega, by go_num, HP, HO, hb⟩
      case measure => simp [intOf]; omega
    obtain ⟨pn, rfl⟩ : ∃ pn : Nat, p = pn := ⟨p.toNat, by omega⟩
    have hpn : pn < n0 := by omega
    have HSW := Lib.hid ((swap_perm o (i := k) (p := pn) (by rw [HOL.out]; exact hin) (by rw [HOL.out]; exact hpn)).trans HP.out)
    obtain ⟨A8, c8, e8, hsome, _⟩ := row_form (show w5.ownsRow w3.heap.size 3 1 (.slice A7 n0 c7) n0 _ by have h := HO.out; unfold OwnN at h; rw [HOL.out] at h; exact h)
    injection e8 with ea en ec
    clear en
    subst ea ec
    obtain ⟨g, rfl, hg0, hg1⟩ := hsome (by omega)
    have HO2 : Hid (w5.ownsRow w3.heap.size 3 1 (.slice (some ⟨g, 0, none⟩) n0 c7) n0 (o.map (Value.int .i64))) := Lib.hid (by have h := HO.out; unfold OwnN at h; rw [HOL.out] at h; exact h)
    have hd0 : w5.cell? ⟨g, k, none⟩ = some (.int .i64 (o.getD k 0)) := by
      rw [World.ownsRow.cellAt HO2.out k (by omega)]
      simp [List.getD, show k < o.length by rw [HOL.out]; exact hin]
    have hd1 : w5.cell? ⟨g, pn, none⟩ = some (.int .i64 (o.getD pn 0)) := by
      rw [World.ownsRow.cellAt HO2.out pn (by omega)]
      simp [List.getD, show pn < o.length by rw [HOL.out]; exact hpn]
    have hf0 : w5.frozen? ⟨g, k, none⟩ = false := World.ownsRow.frozenAt HO2.out k
    have hf1 : w5.frozen? ⟨g, pn, none⟩ = false := World.ownsRow.frozenAt HO2.out pn
    have HW : ∀ W : World, W.heap = ((w5.setCell ⟨g, k, none⟩ (.int .i64 (o.getD pn 0))).setCell ⟨g, pn, none⟩ (.int .i64 (o.getD k 0))).heap → OwnN w3.heap.size W (.slice (some ⟨g, 0, none⟩) n0 c7) ((o.set k (o.getD pn 0)).set pn (o.getD k 0)) := fun W e => by
      have h := OwnN.setAt (OwnN.setAt HO.out HOL.out k (o.getD pn 0)) (by rw [List.length_set]; exact HOL.out) pn (o.getD k 0)
      unfold OwnN World.ownsRow at *
      rw [e]; exact h
    have HWW := Lib.hid HW
    clear HW
    generalize o.getD k 0 = x at *
    generalize o.getD pn 0 = y at *
    have HLT := Lib.hid hlt
    by_cases hsame : k = pn
    · subst hsame
      obtain rfl : x = y := by rw [hd0] at hd1; injection hd1 with h; injection h
      have hd2 : ((w5.setCell ⟨g, k, none⟩ (.int .i64 x))).cell? ⟨g, k, none⟩ = some (.int .i64 x) := World.cell?_setCell_same' _ _ _ (by rw [hd0]; rfl)
      go_wp2
      go_region
      all_goals go_wp2
      all_goals go_roundw
      case rel => exact ⟨k + 1, _, HLT.out, by go_num, HSW, Lib.hid (HWW.out _ rfl), b_dr (b_st (p := ⟨g, k, none⟩) (b_st (p := ⟨g, k, none⟩) hb hg0) hg0)⟩
      case measure => simp [intOf]; omega
    · have hd2 : ((w5.setCell ⟨g, k, none⟩ (.int .i64 y))).cell? ⟨g, pn, none⟩ = some (.int .i64 y) := by rw [World.cell?_setCell_other _ _ _ _ (by intro e; injection e with _ e _; omega)]; exact hd1
      have hd3 : ((w5.setCell ⟨g, pn, none⟩ (.int .i64 x))).cell? ⟨g, k, none⟩ = some (.int .i64 x) := by rw [World.cell?_setCell_other _ _ _ _ (by intro e; injection e with _ e _; omega)]; exact hd0
      go_wp2
      go_region
      all_goals go_wp2
      all_goals go_roundw
      case rel => exact ⟨k + 1, _, HLT.out, by go_num, HSW, Lib.hid (HWW.out _ rfl), b_dr (b_st (p := ⟨g, pn, none⟩) (b_st (p := ⟨g, k, none⟩) hb hg0) hg0)⟩
      case measure => simp [intOf]; omega

set_option maxRecDepth 100000 in
theorem lifted (os : Os) (started : os.Started) (H : Type) (enc : TypeId × Value → H) :
    ReturnsInHanded {} Try.checked os 4 .any (Rows.loadEaseSpec.pre6 enc Try.prog Try.f4 Rows.loadEaseRow.domain false) (Rows.loadEaseSpec.post enc Try.prog Try.f4 false true false false) := by
  refine returnsInHanded_of_change (C := Try.checked) own started (by kernel_rfl) Try.func4
    (ChangeSpec.witness6 (enc := enc) (C := Try.checked) false ⟨#[], #[.slice none 0 0, .slice none 0 0], []⟩ 8 (by kernel_rfl) (by kernel_rfl) (by kernel_rfl) (by kernel_rfl)) ?_
  intro W base args ds gs before hval0 hW hcnd _
  have hval : ∀ (j : Nat) t v, Try.f4.params[j]? = some t → args[j]? = some v → Value.okWide Try.prog W .any base t v := hval0
  have hW' := hW
  obtain ⟨p, q, hA0, hV, rfl, hfz, hnd⟩ := hW
  have hA : DataW.TrodAll enc Try.prog W 0 (fun _ => true) true Try.f4.params.toList args.toList ds p := hA0
  rw [Try.params4] at hA hval
  obtain ⟨v0, vs0, d0, ds0, p0, q0, hargs, rfl, rfl, h0, r0⟩ := trodAll_cons hA
  obtain ⟨v1, vs1, d1, ds1, p1, q1, rfl, rfl, rfl, h1, r1⟩ := trodAll_cons r0
  obtain ⟨rfl, rfl, rfl⟩ := trodAll_nil r1
  obtain rfl : args = #[v0, v1] := by cases args; simp_all
  obtain ⟨rfl, rfl⟩ := trodVars_none hV
  have k0 := h0
  have lt0 : ∀ x ∈ p0, x.block < W.heap.size := by obtain ⟨m, hm⟩ := k0; exact DataW.trod_lt m _ _ _ hm
  obtain ⟨A0, c0, l0, rfl, rd0, zz0⟩ := open_ints13 (hval 0 22 v0 rfl rfl) h0
  have k1 := h1
  have lt1 : ∀ x ∈ p1, x.block < W.heap.size := by obtain ⟨m, hm⟩ := k1; exact DataW.trod_lt m _ _ _ hm
  obtain ⟨A1, c1, l1, rfl, rd1, zz1⟩ := open_ints13 (hval 1 22 v1 rfl rfl) h1
  clear hA0 hval0
  refine (walk W A0 c0 l0 rd0 zz0 A1 c1 l1 rd1 zz1).mono fun e W' ⟨he, bel⟩ => ?_
  subst he
  exact ⟨_, rfl, _, _, _, [], _, [], hW', trodAll_mk1 (shut_bool Try.underlying4 _), (trodAll_cons_mk (Below.trod laidOut (by kernel_rfl) (of_decide_eq_true (by kernel_rfl)) k0 bel lt0) (trodAll_cons_mk (Below.trod laidOut (by kernel_rfl) (of_decide_eq_true (by kernel_rfl)) k1 bel lt1) trodAll_mk0)), rfl, bel.frame _, fun h => by cases h⟩

theorem over : Rows.loadEaseRow.holds Try.pinned (OpenSpec.ofChange Rows.loadEaseSpec) :=
  OpenClaim.holds_of_wide 4 Try.f4 rfl rfl rfl rfl rfl rfl rfl ⟨rfl, rfl, rfl, rfl, rfl⟩ rfl rfl rfl rfl rfl (by kernel_rfl) Try.func4 (by kernel_rfl)
    (of_decide_eq_true (by kernel_rfl)) (by unfold Func.isWrapper; first | (rw [if_pos (by decide +kernel)]; kernel_rfl) | (rw [if_neg (by decide +kernel)]; exact ⟨rfl, rfl⟩))
    (fun os started H enc _ => lifted os started H enc)

theorem proved : Rows.LoadEaseSaid := over
#print axioms proved
end Go.Proofs.Ythgdclcmohgciaa.loadEase
