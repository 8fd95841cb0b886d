/- The timeline of a view has that view, and the spells of a kind have just the letters of it. Conditions: none (of more than three thousand letters the law asks the example alone). -/
import Derived.Test.YtllinfcdbbmjaaaRows
import Derived.Test.YtllinfcdbbmjaaaBase
import Derived.Test.YtllinfcdbbmjaaaRow
import Derived.Test.YtllinfcdbbmjaaaRecMath
import Derived.Test.YtllinfcdbbmjaaaRecHeap
import Derived.Test.YtllinfcdbbmjaaaIvalsWords
import Derived.Test.YtllinfcdbbmjaaaIvalsOwn
import Derived.Test.YtllinfcdbbmjaaaIvalsHas
import Derived.Test.YtllinfcdbbmjaaaViewMath
import Derived.Test.YtllinfcdbbmjaaaViewLeaf
import Derived.Test.YtllinfcdbbmjaaaViewFrom
import Derived.Test.YtllinfcdbbmjaaaViewOfC
import Derived.Test.YtllinfcdbbmjaaaViewSpells
import Derived.Test.YtllinfcdbbmjaaaViewAlive
import Derived.WalkKit
import Derived.WalkSmall
import Derived.WalkSpells
import Derived.ProofKit
import Derived.OpenShut
import Derived.ShutString
import Derived.ChangeOld
import Derived.Below
import Derived.Lib.Hide
import Derived.OwnWalk
import Derived.Outline
namespace Go.Proofs.Ytllinfcdbbmjaaa.viewBack
open Go.ChangeShapes Go.WideShapes Go.ChangeAt Go.RowKit
open Go.ChangeMaps (open_string shut_string)
set_option linter.unusedVariables false

theorem own : ownKnob Try.prog.godebug = none := by kernel_rfl
theorem laidOut : laidOutB Try.prog = true := by kernel_rfl

theorem has9_len (A : Option Addr) (c n : Nat) (l : List Sp) (m : Int) (w : World) (hn : Hid (l.length = n)) (h : RdS w A l) (hl : n ≤ 4611686018427387904) :
    Calls Try.prog 24 #[.slice A n c, .int .i64 m] w fun e w' => e = .returned (.bool (hasL l m)) ∧ Below w.heap.size w w' := by
  have h1 := hn.out
  subst h1
  exact refhasl_any A c l m w h hl

set_option maxRecDepth 100000 in
set_option maxHeartbeats 4000000 in
theorem walk (w : World) (a0 : Int) (w0 : (Lit.int .i64 a0).wf = true) (s1 : ByteArray) (w1 : s1.size ≤ maxLen) (a2 : Int) (w2 : (Lit.int .i64 a2).wf = true) :
    Calls Try.prog 6 #[.int .i64 a0, .string s1, .int .i64 a2] w fun e w' => e = .returned (.bool true) ∧ Below w.heap.size w w' := by
  by_cases hs : 3000 < s1.size
  · have hs' : (3000 : Int) < (s1.size : Int) := by omega
    go_enter Try.func6, Try.ntmps6
    go_wp2_with (go_at_call 8; refine (alive9_any _).mono ?_; rintro e wz ⟨rfl, hbz⟩)
    go_ret
    exact ⟨rfl, hbz⟩
  · have hs' : (s1.size : Int) ≤ 3000 := by omega
    have FR := fun W => from9_any a0 s1 W (by omega)
    have SP := fun W => spells9_any s1 a2 W (by omega)
    have hsl : (spellsV s1 a2).length ≤ 3000 := Nat.le_trans (spells_len _ _) (by omega)
    have AT := Lib.hid (spellsV_at s1 a2)
    generalize spellsV s1 a2 = q at SP hsl AT
    obtain ⟨n, hn⟩ : ∃ n, q.length = n := ⟨_, rfl⟩
    have HLN := Lib.hid hn
    rw [hn] at hsl
    clear hn
    by_cases hr : a0 < 0 ∨ 40320 < a0 + (s1.size : Int)
    · rw [show fromV a0 s1 = ([], 4) by unfold fromV; rw [if_pos hr]] at FR
      clear hr hs
      go_enter Try.func6, Try.ntmps6
      go_wp2_with (first
        | (go_at_call 11; (with_reducible refine (FR _).mono ?_); rintro e w1 ⟨v1, rfl, ho1, hb1⟩; obtain ⟨A1, c1, rfl, hr1, _⟩ := ho1.read; have R1 := Lib.hid hr1; have H1 := Lib.hid hb1; clear hb1 ho1 hr1)
        | (go_at_call 18; (with_reducible refine (SP _).mono ?_); rintro e w4 ⟨v4, rfl, ho4, hb4⟩; obtain ⟨A4, c4, rfl, hr4, _, _⟩ := ho4.form; have R4 := Lib.hid hr4; have H4 := Lib.hid (b_tr H1.out hb4); rw [HLN.out]; clear hb4 ho4 hr4))
      go_loopw [56] (fun i wr => ∃ k : Nat, k ≤ s1.size ∧ i = .int .i64 k ∧ Below w4.heap.size w4 wr) (fun i _ => s1.size - (intOf i).toNat)
      case atStart => exact ⟨0, Nat.zero_le _, rfl, Below.refl _ _⟩
      case round =>
        obtain ⟨k, hk, rfl, hb⟩ := hrel
        by_cases hlt : k < s1.size
        · have HC := Lib.hid hb
          have h255 := (s1[k]'hlt).toNat_lt
          have KD := fun W => kind_any ((s1[k]'hlt).toNat : Int) W (by omega) (by omega)
          have HAS := fun W (h : RdS W A4 q) => has9_len A4 c4 n q (k : Int) W HLN h (by omega)
          rw [AT.out k hlt] at HAS
          unfold hasK at HAS
          rw [← bt_at s1 k hlt] at HAS
          generalize kindB ((s1[k]'hlt).toNat : Int) = x at KD HAS
          generalize isL ((s1[k]'hlt).toNat : Int) = L at KD HAS
          have RK := Lib.hid (R4.out.below hb)
          clear hb h255
          cases L with
          | false =>
            rw [Bool.false_and] at HAS
            go_wp2_with (first
              | (go_at_call 14; (with_reducible refine (KD _).mono ?_); rintro e w5 ⟨rfl, rfl⟩)
              | (go_at_call 24; (with_reducible refine (HAS _ RK.out).mono ?_); rintro e w6 ⟨rfl, hb6⟩; have H6 := Lib.hid (b_tr HC.out hb6); clear hb6))
            go_roundw
            case rel => exact ⟨k + 1, by omega, by go_num, H6.out⟩
            case measure => simp [intOf] <;> omega
          | true =>
            rw [Bool.true_and] at HAS
            by_cases hx : x = a2
            · have e1 : (x == a2) = true := by simpa using hx
              rw [decide_eq_true hx] at HAS
              clear hx
              go_wp2_with (first
                | (go_at_call 14; (with_reducible refine (KD _).mono ?_); rintro e w5 ⟨rfl, rfl⟩)
                | (go_at_call 24; (with_reducible refine (HAS _ RK.out).mono ?_); rintro e w6 ⟨rfl, hb6⟩; have H6 := Lib.hid (b_tr HC.out hb6); clear hb6))
              go_roundw
              case rel => exact ⟨k + 1, by omega, by go_num, H6.out⟩
              case measure => simp [intOf] <;> omega
            · have e1 : (x == a2) = false := by simpa using hx
              rw [decide_eq_false hx] at HAS
              clear hx
              go_wp2_with (first
                | (go_at_call 14; (with_reducible refine (KD _).mono ?_); rintro e w5 ⟨rfl, rfl⟩)
                | (go_at_call 24; (with_reducible refine (HAS _ RK.out).mono ?_); rintro e w6 ⟨rfl, hb6⟩; have H6 := Lib.hid (b_tr HC.out hb6); clear hb6))
              go_roundw
              case rel => exact ⟨k + 1, by omega, by go_num, H6.out⟩
              case measure => simp [intOf] <;> omega
        · have HB := Lib.hid (b_tr H4.out hb)
          clear hb
          go_wp2_with (go_at_call 8; refine (alive9_any _).mono ?_; rintro e wz ⟨rfl, hbz⟩)
          go_ret
          exact ⟨by simp, b_tr HB.out hbz⟩
    · cases hL : allL s1 with
      | false =>
        rw [show fromV a0 s1 = ([], 2) by unfold fromV; rw [if_neg hr, hL]; rfl] at FR
        clear hr hs hL
        go_enter Try.func6, Try.ntmps6
        go_wp2_with (first
          | (go_at_call 11; (with_reducible refine (FR _).mono ?_); rintro e w1 ⟨v1, rfl, ho1, hb1⟩; obtain ⟨A1, c1, rfl, hr1, _⟩ := ho1.read; have R1 := Lib.hid hr1; have H1 := Lib.hid hb1; clear hb1 ho1 hr1)
          | (go_at_call 18; (with_reducible refine (SP _).mono ?_); rintro e w4 ⟨v4, rfl, ho4, hb4⟩; obtain ⟨A4, c4, rfl, hr4, _, _⟩ := ho4.form; have R4 := Lib.hid hr4; have H4 := Lib.hid (b_tr H1.out hb4); rw [HLN.out]; clear hb4 ho4 hr4))
        go_loopw [56] (fun i wr => ∃ k : Nat, k ≤ s1.size ∧ i = .int .i64 k ∧ Below w4.heap.size w4 wr) (fun i _ => s1.size - (intOf i).toNat)
        case atStart => exact ⟨0, Nat.zero_le _, rfl, Below.refl _ _⟩
        case round =>
          obtain ⟨k, hk, rfl, hb⟩ := hrel
          by_cases hlt : k < s1.size
          · have HC := Lib.hid hb
            have h255 := (s1[k]'hlt).toNat_lt
            have KD := fun W => kind_any ((s1[k]'hlt).toNat : Int) W (by omega) (by omega)
            have HAS := fun W (h : RdS W A4 q) => has9_len A4 c4 n q (k : Int) W HLN h (by omega)
            rw [AT.out k hlt] at HAS
            unfold hasK at HAS
            rw [← bt_at s1 k hlt] at HAS
            generalize kindB ((s1[k]'hlt).toNat : Int) = x at KD HAS
            generalize isL ((s1[k]'hlt).toNat : Int) = L at KD HAS
            have RK := Lib.hid (R4.out.below hb)
            clear hb h255
            cases L with
            | false =>
              rw [Bool.false_and] at HAS
              go_wp2_with (first
                | (go_at_call 14; (with_reducible refine (KD _).mono ?_); rintro e w5 ⟨rfl, rfl⟩)
                | (go_at_call 24; (with_reducible refine (HAS _ RK.out).mono ?_); rintro e w6 ⟨rfl, hb6⟩; have H6 := Lib.hid (b_tr HC.out hb6); clear hb6))
              go_roundw
              case rel => exact ⟨k + 1, by omega, by go_num, H6.out⟩
              case measure => simp [intOf] <;> omega
            | true =>
              rw [Bool.true_and] at HAS
              by_cases hx : x = a2
              · have e1 : (x == a2) = true := by simpa using hx
                rw [decide_eq_true hx] at HAS
                clear hx
                go_wp2_with (first
                  | (go_at_call 14; (with_reducible refine (KD _).mono ?_); rintro e w5 ⟨rfl, rfl⟩)
                  | (go_at_call 24; (with_reducible refine (HAS _ RK.out).mono ?_); rintro e w6 ⟨rfl, hb6⟩; have H6 := Lib.hid (b_tr HC.out hb6); clear hb6))
                go_roundw
                case rel => exact ⟨k + 1, by omega, by go_num, H6.out⟩
                case measure => simp [intOf] <;> omega
              · have e1 : (x == a2) = false := by simpa using hx
                rw [decide_eq_false hx] at HAS
                clear hx
                go_wp2_with (first
                  | (go_at_call 14; (with_reducible refine (KD _).mono ?_); rintro e w5 ⟨rfl, rfl⟩)
                  | (go_at_call 24; (with_reducible refine (HAS _ RK.out).mono ?_); rintro e w6 ⟨rfl, hb6⟩; have H6 := Lib.hid (b_tr HC.out hb6); clear hb6))
                go_roundw
                case rel => exact ⟨k + 1, by omega, by go_num, H6.out⟩
                case measure => simp [intOf] <;> omega
          · have HB := Lib.hid (b_tr H4.out hb)
            clear hb
            go_wp2_with (go_at_call 8; refine (alive9_any _).mono ?_; rintro e wz ⟨rfl, hbz⟩)
            go_ret
            exact ⟨by simp, b_tr HB.out hbz⟩
      | true =>
        have hb := of_back (kindsS_bd s1) (show 0 ≤ a0 by omega) (show a0 + ((kindsS s1).length : Int) ≤ 40320 by rw [kindsS_len]; omega)
        have hol := of_len a0 (kindsS s1)
        rw [kindsS_len] at hol
        rw [from_in (by omega) (by omega) hL] at FR
        simp only at FR
        have OF := fun A c W (h : RdR W A (ofR a0 (kindsS s1))) => of9_any A c (ofR a0 (kindsS s1)) W h (by omega)
        have hv : viewV (ofR a0 (kindsS s1)) = (beg (ofR a0 (kindsS s1)), s1, 0) := by
          have h0 : (checkV (ofR a0 (kindsS s1))).2 = 0 := by rw [tl_check hb.1]
          rw [view_ok h0, hb.2.1, text_back hL]
        rw [hv] at OF
        simp only at OF
        have e1 := (Lib.bytes_beq_iff s1 s1).2 rfl
        by_cases hz : s1.size = 0
        · have hz' : (s1.size : Int) = 0 := by omega
          have HZ := Lib.hid hz
          generalize beg (ofR a0 (kindsS s1)) = bg at OF
          generalize ofR a0 (kindsS s1) = L0 at FR OF
          clear hr hs hL hb hol hv hz
          go_enter Try.func6, Try.ntmps6
          go_wp2_with (first
            | (go_at_call 11; (with_reducible refine (FR _).mono ?_); rintro e w1 ⟨v1, rfl, ho1, hb1⟩; obtain ⟨A1, c1, rfl, hr1, _⟩ := ho1.read; have R1 := Lib.hid hr1; have H1 := Lib.hid hb1; clear hb1 ho1 hr1)
            | (go_at_call 9; (with_reducible refine (OF _ _ _ R1.out).mono ?_); rintro e w2 ⟨rfl, hb2⟩; have H2 := Lib.hid (b_tr H1.out hb2); clear hb2)
            | (go_at_call 18; (with_reducible refine (SP _).mono ?_); rintro e w4 ⟨v4, rfl, ho4, hb4⟩; obtain ⟨A4, c4, rfl, hr4, _, _⟩ := ho4.form; have R4 := Lib.hid hr4; have H4 := Lib.hid (b_tr H2.out hb4); rw [HLN.out]; clear hb4 ho4 hr4))
          go_loopw [56] (fun i wr => ∃ k : Nat, k ≤ s1.size ∧ i = .int .i64 k ∧ Below w4.heap.size w4 wr) (fun i _ => s1.size - (intOf i).toNat)
          case atStart => exact ⟨0, Nat.zero_le _, rfl, Below.refl _ _⟩
          case round =>
            obtain ⟨k, hk, rfl, hb⟩ := hrel
            by_cases hlt : k < s1.size
            · exact absurd hlt (by have := HZ.out; omega)
            · have HB := Lib.hid (b_tr H4.out hb)
              clear hb
              go_wp2_with (go_at_call 8; refine (alive9_any _).mono ?_; rintro e wz ⟨rfl, hbz⟩)
              go_ret
              exact ⟨by simp, b_tr HB.out hbz⟩
        · have hz' : (0 : Int) < (s1.size : Int) := by omega
          rw [hb.2.2 (by rintro c; apply hz; rw [← kindsS_len, c]; rfl)] at OF
          generalize ofR a0 (kindsS s1) = L0 at FR OF
          clear hr hs hL hb hol hv hz
          go_enter Try.func6, Try.ntmps6
          go_wp2_with (first
            | (go_at_call 11; (with_reducible refine (FR _).mono ?_); rintro e w1 ⟨v1, rfl, ho1, hb1⟩; obtain ⟨A1, c1, rfl, hr1, _⟩ := ho1.read; have R1 := Lib.hid hr1; have H1 := Lib.hid hb1; clear hb1 ho1 hr1)
            | (go_at_call 9; (with_reducible refine (OF _ _ _ R1.out).mono ?_); rintro e w2 ⟨rfl, hb2⟩; have H2 := Lib.hid (b_tr H1.out hb2); clear hb2)
            | (go_at_call 18; (with_reducible refine (SP _).mono ?_); rintro e w4 ⟨v4, rfl, ho4, hb4⟩; obtain ⟨A4, c4, rfl, hr4, _, _⟩ := ho4.form; have R4 := Lib.hid hr4; have H4 := Lib.hid (b_tr H2.out hb4); rw [HLN.out]; clear hb4 ho4 hr4))
          go_loopw [56] (fun i wr => ∃ k : Nat, k ≤ s1.size ∧ i = .int .i64 k ∧ Below w4.heap.size w4 wr) (fun i _ => s1.size - (intOf i).toNat)
          case atStart => exact ⟨0, Nat.zero_le _, rfl, Below.refl _ _⟩
          case round =>
            obtain ⟨k, hk, rfl, hb⟩ := hrel
            by_cases hlt : k < s1.size
            · have HC := Lib.hid hb
              have h255 := (s1[k]'hlt).toNat_lt
              have KD := fun W => kind_any ((s1[k]'hlt).toNat : Int) W (by omega) (by omega)
              have HAS := fun W (h : RdS W A4 q) => has9_len A4 c4 n q (k : Int) W HLN h (by omega)
              rw [AT.out k hlt] at HAS
              unfold hasK at HAS
              rw [← bt_at s1 k hlt] at HAS
              generalize kindB ((s1[k]'hlt).toNat : Int) = x at KD HAS
              generalize isL ((s1[k]'hlt).toNat : Int) = L at KD HAS
              have RK := Lib.hid (R4.out.below hb)
              clear hb h255
              cases L with
              | false =>
                rw [Bool.false_and] at HAS
                go_wp2_with (first
                  | (go_at_call 14; (with_reducible refine (KD _).mono ?_); rintro e w5 ⟨rfl, rfl⟩)
                  | (go_at_call 24; (with_reducible refine (HAS _ RK.out).mono ?_); rintro e w6 ⟨rfl, hb6⟩; have H6 := Lib.hid (b_tr HC.out hb6); clear hb6))
                go_roundw
                case rel => exact ⟨k + 1, by omega, by go_num, H6.out⟩
                case measure => simp [intOf] <;> omega
              | true =>
                rw [Bool.true_and] at HAS
                by_cases hx : x = a2
                · have e1 : (x == a2) = true := by simpa using hx
                  rw [decide_eq_true hx] at HAS
                  clear hx
                  go_wp2_with (first
                    | (go_at_call 14; (with_reducible refine (KD _).mono ?_); rintro e w5 ⟨rfl, rfl⟩)
                    | (go_at_call 24; (with_reducible refine (HAS _ RK.out).mono ?_); rintro e w6 ⟨rfl, hb6⟩; have H6 := Lib.hid (b_tr HC.out hb6); clear hb6))
                  go_roundw
                  case rel => exact ⟨k + 1, by omega, by go_num, H6.out⟩
                  case measure => simp [intOf] <;> omega
                · have e1 : (x == a2) = false := by simpa using hx
                  rw [decide_eq_false hx] at HAS
                  clear hx
                  go_wp2_with (first
                    | (go_at_call 14; (with_reducible refine (KD _).mono ?_); rintro e w5 ⟨rfl, rfl⟩)
                    | (go_at_call 24; (with_reducible refine (HAS _ RK.out).mono ?_); rintro e w6 ⟨rfl, hb6⟩; have H6 := Lib.hid (b_tr HC.out hb6); clear hb6))
                  go_roundw
                  case rel => exact ⟨k + 1, by omega, by go_num, H6.out⟩
                  case measure => simp [intOf] <;> omega
            · have HB := Lib.hid (b_tr H4.out hb)
              clear hb
              go_wp2_with (go_at_call 8; refine (alive9_any _).mono ?_; rintro e wz ⟨rfl, hbz⟩)
              go_ret
              exact ⟨by simp, b_tr HB.out hbz⟩

set_option maxRecDepth 100000 in
theorem lifted (os : Os) (started : os.Started) (H : Type) (enc : TypeId × Value → H) :
    ReturnsInHanded {} Try.checked os 6 .any (Rows.viewBackSpec.pre6 enc Try.prog Try.f6 Rows.viewBackRow.domain false) (Rows.viewBackSpec.post enc Try.prog Try.f6 false true false false) := by
  refine returnsInHanded_of_change (C := Try.checked) own started (by kernel_rfl) Try.func6
    (ChangeSpec.witness6 (enc := enc) (C := Try.checked) false ⟨#[], #[.int .i64 0, .string ⟨#[]⟩, .int .i64 0], []⟩ 8 (by kernel_rfl) (by kernel_rfl) (by kernel_rfl) (by kernel_rfl)) ?_
  intro W base args ds gs before hval0 hW hcnd _
  have hval : ∀ (j : Nat) t v, Try.f6.params[j]? = some t → args[j]? = some v → Value.okWide Try.prog W .any base t v := hval0
  have hW' := hW
  obtain ⟨p, q, hA0, hV, rfl, hfz, hnd⟩ := hW
  have hA : DataW.TrodAll enc Try.prog W 0 (fun _ => true) true Try.f6.params.toList args.toList ds p := hA0
  rw [Try.params6] at hA hval
  obtain ⟨v0, vs0, d0, ds0, p0, q0, hargs, rfl, rfl, h0, r0⟩ := trodAll_cons hA
  obtain ⟨v1, vs1, d1, ds1, p1, q1, rfl, rfl, rfl, h1, r1⟩ := trodAll_cons r0
  obtain ⟨v2, vs2, d2, ds2, p2, q2, rfl, rfl, rfl, h2, r2⟩ := trodAll_cons r1
  obtain ⟨rfl, rfl, rfl⟩ := trodAll_nil r2
  obtain rfl : args = #[v0, v1, v2] := by cases args; simp_all
  obtain ⟨rfl, rfl⟩ := trodVars_none hV
  obtain ⟨a0, rfl, rfl, rfl, w0⟩ := open_int Try.underlying3 (hval 0 3 v0 rfl rfl) h0
  obtain ⟨s1, rfl, rfl, rfl, w1⟩ := open_string Try.underlying9 (hval 1 9 v1 rfl rfl) h1
  obtain ⟨a2, rfl, rfl, rfl, w2⟩ := open_int Try.underlying3 (hval 2 3 v2 rfl rfl) h2
  clear hA0 hval0
  refine (walk W a0 w0 s1 w1 a2 w2).mono fun e W' ⟨he, bel⟩ => ?_
  subst he
  exact ⟨_, rfl, _, _, _, [], _, [], hW', trodAll_mk1 (shut_bool Try.underlying4 _), (trodAll_cons_mk (shut_int Try.underlying3 w0) (trodAll_cons_mk (shut_string Try.underlying9 w1) (trodAll_cons_mk (shut_int Try.underlying3 w2) trodAll_mk0))), rfl, bel.frame _, fun h => by cases h⟩

theorem over : Rows.viewBackRow.holds Try.pinned (OpenSpec.ofChange Rows.viewBackSpec) :=
  OpenClaim.holds_of_wide 6 Try.f6 rfl rfl rfl rfl rfl rfl rfl ⟨rfl, rfl, rfl, rfl, rfl⟩ rfl rfl rfl rfl rfl (by kernel_rfl) Try.func6 (by kernel_rfl)
    (of_decide_eq_true (by kernel_rfl)) (by unfold Func.isWrapper; first | (rw [if_pos (by decide +kernel)]; kernel_rfl) | (rw [if_neg (by decide +kernel)]; exact ⟨rfl, rfl⟩))
    (fun os started H enc _ => lifted os started H enc)

theorem proved : Rows.ViewBackSaid := over
#print axioms proved
end Go.Proofs.Ytllinfcdbbmjaaa.viewBack
