/- The view of records, and the timeline of a view, is as the document says. Conditions: none (of more than a hundred records, of records of more than three thousand minutes, of more than three thousand letters the law asks the example alone). -/
import Derived.Test.YtllinfcdbbmjaaaRows
import Derived.Test.YtllinfcdbbmjaaaBase
import Derived.Test.YtllinfcdbbmjaaaRow
import Derived.Test.YtllinfcdbbmjaaaRecMath
import Derived.Test.YtllinfcdbbmjaaaRecHeap
import Derived.Test.YtllinfcdbbmjaaaRecOpen
import Derived.Test.YtllinfcdbbmjaaaViewMath
import Derived.Test.YtllinfcdbbmjaaaViewAlive
import Derived.Test.YtllinfcdbbmjaaaViewFrom
import Derived.Test.YtllinfcdbbmjaaaViewFromR
import Derived.Test.YtllinfcdbbmjaaaViewOfC
import Derived.Test.YtllinfcdbbmjaaaViewText
import Derived.Test.YtllinfcdbbmjaaaRecSame
import Derived.WalkKit
import Derived.WalkSmall
import Derived.WalkSpells
import Derived.ProofKit
import Derived.OpenShut
import Derived.ShutString
import Derived.ChangeOld
import Derived.Below
import Derived.Lib.Hide
import Derived.OwnWalk
namespace Go.Proofs.Ytllinfcdbbmjaaa.viewOf
open Go.ChangeShapes Go.WideShapes Go.ChangeAt Go.RowKit
open Go.ChangeMaps (open_string shut_string)
set_option linter.unusedVariables false

theorem own : ownKnob Try.prog.godebug = none := by kernel_rfl
theorem laidOut : laidOutB Try.prog = true := by kernel_rfl

theorem from_len (at_ : Int) (s : ByteArray) : (fromV at_ s).1.length ≤ s.size := by
  unfold fromV
  split
  · simp
  · split
    · have := of_len at_ (kindsS s)
      rw [kindsS_len] at this
      exact this
    · simp

theorem walk (w : World) (A0 : Option Addr) (c0 : Nat) (l0 : List Rc) (r0 : RdR w A0 l0) (z0 : A0 = none → c0 = 0) (a1 : Int) (w1 : (Lit.int .i64 a1).wf = true) (s2 : ByteArray) (w2 : s2.size ≤ maxLen) :
    Calls Try.prog 3 #[.slice A0 l0.length c0, .int .i64 a1, .string s2] w fun e w' => e = .returned (.bool true) ∧ Below w.heap.size w w' := by
  have LG := fun W (h : RdR W A0 l0) => light_any A0 c0 l0.length l0 W (Lib.hid rfl) h
  have HR := Lib.hid r0
  cases hl : lightV l0 with
  | false =>
    rw [hl] at LG
    clear r0 z0 hl
    go_enter Try.func3, Try.ntmps3
    go_wp2_with (first
      | (go_at_call 7; (with_reducible refine (LG _ HR.out).mono ?_); rintro e w1 ⟨rfl, hb1⟩; have H1 := Lib.hid hb1; clear hb1)
      | (go_at_call 8; refine (alive9_any _).mono ?_; rintro e wz ⟨rfl, hbz⟩))
    go_ret
    exact ⟨rfl, b_tr H1.out hbz⟩
  | true =>
    rw [hl] at LG
    by_cases hs : 3000 < s2.size
    · have hs' : (3000 : Int) < (s2.size : Int) := by omega
      clear r0 z0 hl
      go_enter Try.func3, Try.ntmps3
      go_wp2_with (first
        | (go_at_call 7; (with_reducible refine (LG _ HR.out).mono ?_); rintro e w1 ⟨rfl, hb1⟩; have H1 := Lib.hid hb1; clear hb1)
        | (go_at_call 8; refine (alive9_any _).mono ?_; rintro e wz ⟨rfl, hbz⟩))
      go_ret
      exact ⟨rfl, b_tr H1.out hbz⟩
    · have hs' : (s2.size : Int) ≤ 3000 := by omega
      have h100 := light_short hl
      have OF := fun W (h : RdR W A0 l0) => of9_any A0 c0 l0 W h (by omega)
      have RO := fun W (h : RdR W A0 l0) => refof9_any A0 c0 l0 W h (by omega)
      have FR := fun W => from9_any a1 s2 W (by omega)
      have RF := fun W => reffrom9_any a1 s2 W (by omega)
      have hfl := from_len a1 s2
      clear r0 z0 hl
      obtain ⟨p, t, e, hV⟩ : ∃ p t e, viewV l0 = (p, t, e) := ⟨_, _, _, rfl⟩
      obtain ⟨q, d, hF⟩ : ∃ q d, fromV a1 s2 = (q, d) := ⟨_, _, rfl⟩
      rw [hV] at OF RO
      rw [hF] at FR RF hfl
      simp only at OF RO FR RF hfl
      obtain ⟨n, hn⟩ : ∃ n, q.length = n := ⟨_, rfl⟩
      have HLN := Lib.hid hn
      have SM := fun A B c d W (ha : RdR W A q) (hb : RdR W B q) => sameR_any A B c d n n q q W HLN HLN ha hb (by omega)
      rw [decide_eq_true (rfl : q = q)] at SM
      have e1 := (Lib.bytes_beq_iff t t).2 rfl
      clear hn hfl hV hF
      go_enter Try.func3, Try.ntmps3
      go_wp2_with (first
        | (go_at_call 7; (with_reducible refine (LG _ HR.out).mono ?_); rintro e w1 ⟨rfl, hb1⟩; have H1 := Lib.hid hb1; have R1 := Lib.hid (HR.out.below hb1); clear hb1)
        | (go_at_call 9; (with_reducible refine (OF _ R1.out).mono ?_); rintro e w2 ⟨rfl, hb2⟩; have H2 := Lib.hid (b_tr H1.out hb2); have R2 := Lib.hid (R1.out.below hb2); clear hb2)
        | (go_at_call 10; (with_reducible refine (RO _ R2.out).mono ?_); rintro e w3 ⟨rfl, hb3⟩; have H3 := Lib.hid (b_tr H2.out hb3); clear hb3)
        | (go_at_call 11; (with_reducible refine (FR _).mono ?_); rintro e w4 ⟨v4, rfl, ho4, hb4⟩; obtain ⟨A4, c4, rfl, hr4, _⟩ := ho4.read; have R4 := Lib.hid hr4; have H4 := Lib.hid (b_tr H3.out hb4); rw [HLN.out]; clear hb4 ho4 hr4)
        | (go_at_call 12; (with_reducible refine (RF _).mono ?_); rintro e w5 ⟨v5, rfl, ho5, hb5⟩; obtain ⟨A5, c5, rfl, hr5, _⟩ := ho5.read; have R5 := Lib.hid hr5; have R4' := Lib.hid (R4.out.below hb5); have H5 := Lib.hid (b_tr H4.out hb5); rw [HLN.out]; clear hb5 ho5 hr5)
        | (go_at_call 13; (with_reducible refine (SM A4 A5 c4 c5 _ R4'.out R5.out).mono ?_); rintro e w6 ⟨rfl, hb6⟩; have H6 := Lib.hid (b_tr H5.out hb6); clear hb6)
        | (go_at_call 8; refine (alive9_any _).mono ?_; rintro e wz ⟨rfl, hbz⟩))
      go_ret
      exact ⟨by simp, b_tr H6.out hbz⟩

set_option maxRecDepth 100000 in
theorem lifted (os : Os) (started : os.Started) (H : Type) (enc : TypeId × Value → H) :
    ReturnsInHanded {} Try.checked os 3 .any (Rows.viewOfSpec.pre6 enc Try.prog Try.f3 Rows.viewOfRow.domain false) (Rows.viewOfSpec.post enc Try.prog Try.f3 false true false false) := by
  refine returnsInHanded_of_change (C := Try.checked) own started (by kernel_rfl) Try.func3
    (ChangeSpec.witness6 (enc := enc) (C := Try.checked) false ⟨#[], #[.slice none 0 0, .int .i64 0, .string ⟨#[]⟩], []⟩ 8 (by kernel_rfl) (by kernel_rfl) (by kernel_rfl) (by kernel_rfl)) ?_
  intro W base args ds gs before hval0 hW hcnd _
  have hval : ∀ (j : Nat) t v, Try.f3.params[j]? = some t → args[j]? = some v → Value.okWide Try.prog W .any base t v := hval0
  have hW' := hW
  obtain ⟨p, q, hA0, hV, rfl, hfz, hnd⟩ := hW
  have hA : DataW.TrodAll enc Try.prog W 0 (fun _ => true) true Try.f3.params.toList args.toList ds p := hA0
  rw [Try.params3] at hA hval
  obtain ⟨v0, vs0, d0, ds0, p0, q0, hargs, rfl, rfl, h0, r0⟩ := trodAll_cons hA
  obtain ⟨v1, vs1, d1, ds1, p1, q1, rfl, rfl, rfl, h1, r1⟩ := trodAll_cons r0
  obtain ⟨v2, vs2, d2, ds2, p2, q2, rfl, rfl, rfl, h2, r2⟩ := trodAll_cons r1
  obtain ⟨rfl, rfl, rfl⟩ := trodAll_nil r2
  obtain rfl : args = #[v0, v1, v2] := by cases args; simp_all
  obtain ⟨rfl, rfl⟩ := trodVars_none hV
  have k0 := h0
  have lt0 : ∀ x ∈ p0, x.block < W.heap.size := by obtain ⟨m, hm⟩ := k0; exact DataW.trod_lt m _ _ _ hm
  obtain ⟨A0, n0, c0, l0, rfl, rfl, rd0, zz0⟩ := open_recs (hval 0 22 v0 rfl rfl) h0
  obtain ⟨a1, rfl, rfl, rfl, w1⟩ := open_int Try.underlying3 (hval 1 3 v1 rfl rfl) h1
  obtain ⟨s2, rfl, rfl, rfl, w2⟩ := open_string Try.underlying9 (hval 2 9 v2 rfl rfl) h2
  clear hA0 hval0
  refine (walk W A0 c0 l0 rd0 zz0 a1 w1 s2 w2).mono fun e W' ⟨he, bel⟩ => ?_
  subst he
  exact ⟨_, rfl, _, _, _, [], _, [], hW', trodAll_mk1 (shut_bool Try.underlying4 _), (trodAll_cons_mk (Below.trod laidOut (by kernel_rfl) (of_decide_eq_true (by kernel_rfl)) k0 bel lt0) (trodAll_cons_mk (shut_int Try.underlying3 w1) (trodAll_cons_mk (shut_string Try.underlying9 w2) trodAll_mk0))), rfl, bel.frame _, fun h => by cases h⟩

theorem over : Rows.viewOfRow.holds Try.pinned (OpenSpec.ofChange Rows.viewOfSpec) :=
  OpenClaim.holds_of_wide 3 Try.f3 rfl rfl rfl rfl rfl rfl rfl ⟨rfl, rfl, rfl, rfl, rfl⟩ rfl rfl rfl rfl rfl (by kernel_rfl) Try.func3 (by kernel_rfl)
    (of_decide_eq_true (by kernel_rfl)) (by unfold Func.isWrapper; first | (rw [if_pos (by decide +kernel)]; kernel_rfl) | (rw [if_neg (by decide +kernel)]; exact ⟨rfl, rfl⟩))
    (fun os started H enc _ => lifted os started H enc)

theorem proved : Rows.ViewOfSaid := over
#print axioms proved
end Go.Proofs.Ytllinfcdbbmjaaa.viewOf
