/- Join of three lists, and of none, answers as the document says. Conditions: none (of lists of more than sixty records the law asks the example alone). -/
import Derived.Test.YtbfjhhijhkhnkaaRows
import Derived.Test.YtbfjhhijhkhnkaaBase
import Derived.Test.YtbfjhhijhkhnkaaRow
import Derived.Test.YtbfjhhijhkhnkaaRecMath
import Derived.Test.YtbfjhhijhkhnkaaRecMath2
import Derived.Test.YtbfjhhijhkhnkaaRecHeap
import Derived.Test.YtbfjhhijhkhnkaaRecOpen
import Derived.Test.YtbfjhhijhkhnkaaRecAlive
import Derived.Test.YtbfjhhijhkhnkaaRecSame
import Derived.Test.YtbfjhhijhkhnkaaRecSmall
import Derived.Test.YtbfjhhijhkhnkaaRecJoin
import Derived.Test.YtbfjhhijhkhnkaaRecOf
import Derived.WalkKit
import Derived.WalkSmall
import Derived.WalkSpells
import Derived.ProofKit
import Derived.OpenShut
import Derived.ShutString
import Derived.ChangeOld
import Derived.Below
import Derived.Lib.Hide
import Derived.OwnWalk
namespace Go.Proofs.Ytbfjhhijhkhnkaa.recordJoins
open Go.ChangeShapes Go.WideShapes Go.ChangeAt Go.RowKit
open Go.ChangeMaps (open_string shut_string)
set_option linter.unusedVariables false

theorem own : ownKnob Try.prog.godebug = none := by kernel_rfl
theorem laidOut : laidOutB Try.prog = true := by kernel_rfl

theorem walk (w : World) (A0 : Option Addr) (c0 : Nat) (l0 : List Rc) (r0 : RdR w A0 l0) (z0 : A0 = none → c0 = 0) (A1 : Option Addr) (c1 : Nat) (l1 : List Rc) (r1 : RdR w A1 l1) (z1 : A1 = none → c1 = 0) (A2 : Option Addr) (c2 : Nat) (l2 : List Rc) (r2 : RdR w A2 l2) (z2 : A2 = none → c2 = 0) :
    Calls Try.prog 5 #[.slice A0 l0.length c0, .slice A1 l1.length c1, .slice A2 l2.length c2] w fun e w' => e = .returned (.bool true) ∧ Below w.heap.size w w' := by
  by_cases ha : 60 < l0.length
  · have ha' : (60 : Int) < (l0.length : Int) := by omega
    go_enter Try.func5, Try.ntmps5
    go_wp2_with (go_at_call 7; refine (alive8_any _).mono ?_; rintro e wz ⟨rfl, hbz⟩)
    go_ret
    exact ⟨rfl, hbz⟩
  · have ha' : (l0.length : Int) ≤ 60 := by omega
    by_cases hb : 60 < l1.length
    · have hb' : (60 : Int) < (l1.length : Int) := by omega
      go_enter Try.func5, Try.ntmps5
      go_wp2_with (go_at_call 7; refine (alive8_any _).mono ?_; rintro e wz ⟨rfl, hbz⟩)
      go_ret
      exact ⟨rfl, hbz⟩
    · have hb' : (l1.length : Int) ≤ 60 := by omega
      by_cases hc : 60 < l2.length
      · have hc' : (60 : Int) < (l2.length : Int) := by omega
        go_enter Try.func5, Try.ntmps5
        go_wp2_with (go_at_call 7; refine (alive8_any _).mono ?_; rintro e wz ⟨rfl, hbz⟩)
        go_ret
        exact ⟨rfl, hbz⟩
      · have hc' : (l2.length : Int) ≤ 60 := by omega
        have HR0 := Lib.hid r0
        have HR1 := Lib.hid r1
        have HR2 := Lib.hid r2
        have HZ0 := Lib.hid z0
        have HZ1 := Lib.hid z1
        have HZ2 := Lib.hid z2
        have hs0 : ([] : List Rc).length + l0.length ≤ 100000 := by simp; omega
        have hs1 : l0.length + l1.length ≤ 100000 := by omega
        have hs2 : (l0 ++ l1).length + l2.length ≤ 100000 := by rw [List.length_append]; omega
        have JO := fun W g (h0 : RdR W A0 l0) (h1 : RdR W A1 l1) (h2 : RdR W A2 l2) (g0 : W.cell? ⟨g, 0, none⟩ = some (.slice A0 l0.length c0)) (g1 : W.cell? ⟨g, 1, none⟩ = some (.slice A1 l1.length c1)) (g2 : W.cell? ⟨g, 2, none⟩ = some (.slice A2 l2.length c2)) =>
          join_of (concat_three A0 A1 A2 c0 c1 c2 l0.length l1.length l2.length g l0 l1 l2 W h0 h1 h2 rfl rfl rfl z0 z1 z2 g0 g1 g2 (by omega) (by omega) (by omega)) (by rw [List.length_append, List.length_append]; omega)
        have JN : ∀ W, Calls Try.prog 20 #[.slice none 0 0] W fun e w' => ∃ A c, e = .returned (.tuple #[.slice A 0 c, .int .i64 0]) ∧ Below W.heap.size W w' := fun W =>
          (join_of (concat_none W) (by decide)).mono fun e w' ⟨v, he, ho, hb⟩ => by
            obtain ⟨A, c, rfl, _, _⟩ := ho.read
            exact ⟨A, c, he, hb⟩
        have hLL : (l0 ++ l1 ++ l2).length ≤ 180 := by rw [List.length_append, List.length_append]; omega
        obtain ⟨LL, hL⟩ : ∃ LL, l0 ++ l1 ++ l2 = LL := ⟨_, rfl⟩
        rw [hL] at hLL JO
        have HL := Lib.hid hL
        have htl : (nrmV LL).length ≤ 180 := by
          unfold nrmV
          split
          · exact Nat.le_trans (norm_len LL) (by omega)
          · simp
        have RNM := fun A c W (h : RdR W A LL) => refnormal_any A c LL W h (by omega)
        have SM := fun A B c d W (ha : RdR W A (nrmV LL)) (hb : RdR W B (nrmV LL)) => sameR_any A B c d (nrmV LL).length (nrmV LL).length (nrmV LL) (nrmV LL) W (Lib.hid rfl) (Lib.hid rfl) ha hb (by omega)
        rw [decide_eq_true (rfl : nrmV LL = nrmV LL)] at SM
        generalize nrmV LL = t at JO RNM SM
        generalize (checkV LL).2 = e0 at JO RNM
        have tok0 : True := trivial
        have tok1 : True := trivial
        have tok2 : True := trivial
        clear htl hL r0 r1 r2 z0 z1 z2 ha hb hc
        obtain ⟨n0, hn0⟩ : ∃ n, l0.length = n := ⟨_, rfl⟩
        obtain ⟨n1, hn1⟩ : ∃ n, l1.length = n := ⟨_, rfl⟩
        obtain ⟨n2, hn2⟩ : ∃ n, l2.length = n := ⟨_, rfl⟩
        have HN0 := Lib.hid hn0
        have HN1 := Lib.hid hn1
        have HN2 := Lib.hid hn2
        rw [hn0] at hs0 ha' JO ⊢
        rw [hn1] at hs1 hb' JO ⊢
        rw [hn2] at hs2 hc' JO ⊢
        have HON := Lib.hid (OwnR.nil w.heap.size w)
        clear hn0 hn1 hn2
        go_enter Try.func5, Try.ntmps5
        go_wp2_with (first
          | (at_builtin; have _t := tok0; refine append_recs rfl _ _ rfl w.heap.size _ [] l0 rfl HON.out A0 n0 c0 rfl HN0.out HR0.out HZ0.out hs0 (Nat.le_refl _) ?_; intro x0 u0 ho0 hg0; clear tok0; have HO0 : Hid (OwnR w.heap.size u0 x0 l0) := Lib.hid ho0; have HB0 := Lib.hid ((Below.refl w.heap.size w).grown hg0 (Nat.le_refl _) (fun q hq => (World.ownsRow.lt HON.out q hq).1)); clear ho0 hg0 _t)
          | (at_builtin; have _t := tok1; refine append_recs rfl _ _ rfl w.heap.size _ l0 l1 rfl HO0.out A1 n1 c1 rfl HN1.out (HR1.out.below HB0.out) HZ1.out hs1 HB0.out.size ?_; intro x1 u1 ho1 hg1; clear tok1; have HO1 : Hid (OwnR w.heap.size u1 x1 (l0 ++ l1)) := Lib.hid ho1; have HB1 := Lib.hid (HB0.out.grown hg1 HB0.out.size (fun q hq => (World.ownsRow.lt HO0.out q hq).1)); clear ho1 hg1 _t)
          | (at_builtin; have _t := tok2; refine append_recs rfl _ _ rfl w.heap.size _ (l0 ++ l1) l2 rfl HO1.out A2 n2 c2 rfl HN2.out (HR2.out.below HB1.out) HZ2.out hs2 HB1.out.size ?_; intro x2 u2 ho2 hg2; clear tok2; have HO2 : Hid (OwnR w.heap.size u2 x2 LL) := Lib.hid (by rw [← HL.out]; exact ho2); have HB2 := Lib.hid (HB1.out.grown hg2 HB1.out.size (fun q hq => (World.ownsRow.lt HO1.out q hq).1)); clear ho2 hg2 _t)
          | (go_at_call 20; (with_reducible refine (JO _ u2.heap.size ?h0 ?h1 ?h2 ?g0 ?g1 ?g2).mono ?_); (case h0 => exact (HR0.out.below HB2.out).below ((Below.refl _ _).alloc (Nat.le_refl _) _)); (case h1 => exact (HR1.out.below HB2.out).below ((Below.refl _ _).alloc (Nat.le_refl _) _)); (case h2 => exact (HR2.out.below HB2.out).below ((Below.refl _ _).alloc (Nat.le_refl _) _)); (case g0 => simp); (case g1 => simp); (case g2 => simp); rintro e u3 ⟨v3, rfl, ho3, hb3⟩; obtain ⟨B3, d3, rfl, hr3, _⟩ := ho3.read; have R3 := Lib.hid hr3; obtain ⟨B2, d2, hx2, hr2, _⟩ := HO2.out.read; have R2 := Lib.hid ((hr2.below ((Below.refl _ _).alloc (Nat.le_refl _) (.cells #[.slice A0 n0 c0, .slice A1 n1 c1, .slice A2 n2 c2] 22))).below hb3); have H3 := Lib.hid (b_cl (b_al HB2.out (Nat.le_refl _) _) (Nat.le_refl _) hb3); clear hb3 ho3 hr3 hr2; subst hx2)
          | (go_at_call 11; (with_reducible refine (RNM _ _ _ R2.out).mono ?_); rintro e u4 ⟨v4, rfl, ho4, hb4⟩; obtain ⟨B4, d4, rfl, hr4, _⟩ := ho4.read; have R4 := Lib.hid hr4; have R3' := Lib.hid (R3.out.below hb4); have H4 := Lib.hid (b_tr H3.out hb4); clear hb4 ho4 hr4)
          | (go_at_call 20; (with_reducible refine (JN _).mono ?_); rintro e u5 ⟨B5, d5, rfl, hb5⟩; have R4' := Lib.hid (R4.out.below hb5); have R3x := Lib.hid (R3'.out.below hb5); have H5 := Lib.hid (b_tr H4.out hb5); clear hb5)
          | (go_at_call 12; (with_reducible refine (SM _ _ _ _ _ R3x.out R4'.out).mono ?_); rintro e u6 ⟨rfl, hb6⟩; have H6 := Lib.hid (b_tr H5.out hb6); clear hb6)
          | (go_at_call 7; refine (alive8_any _).mono ?_; rintro e wz ⟨rfl, hbz⟩))
        go_ret
        exact ⟨by simp, b_tr H6.out hbz⟩

set_option maxRecDepth 100000 in
theorem lifted (os : Os) (started : os.Started) (H : Type) (enc : TypeId × Value → H) :
    ReturnsInHanded {} Try.checked os 5 .any (Rows.recordJoinsSpec.pre6 enc Try.prog Try.f5 Rows.recordJoinsRow.domain false) (Rows.recordJoinsSpec.post enc Try.prog Try.f5 false true false false) := by
  refine returnsInHanded_of_change (C := Try.checked) own started (by kernel_rfl) Try.func5
    (ChangeSpec.witness6 (enc := enc) (C := Try.checked) false ⟨#[], #[.slice none 0 0, .slice none 0 0, .slice none 0 0], []⟩ 8 (by kernel_rfl) (by kernel_rfl) (by kernel_rfl) (by kernel_rfl)) ?_
  intro W base args ds gs before hval0 hW hcnd _
  have hval : ∀ (j : Nat) t v, Try.f5.params[j]? = some t → args[j]? = some v → Value.okWide Try.prog W .any base t v := hval0
  have hW' := hW
  obtain ⟨p, q, hA0, hV, rfl, hfz, hnd⟩ := hW
  have hA : DataW.TrodAll enc Try.prog W 0 (fun _ => true) true Try.f5.params.toList args.toList ds p := hA0
  rw [Try.params5] at hA hval
  obtain ⟨v0, vs0, d0, ds0, p0, q0, hargs, rfl, rfl, h0, r0⟩ := trodAll_cons hA
  obtain ⟨v1, vs1, d1, ds1, p1, q1, rfl, rfl, rfl, h1, r1⟩ := trodAll_cons r0
  obtain ⟨v2, vs2, d2, ds2, p2, q2, rfl, rfl, rfl, h2, r2⟩ := trodAll_cons r1
  obtain ⟨rfl, rfl, rfl⟩ := trodAll_nil r2
  obtain rfl : args = #[v0, v1, v2] := by cases args; simp_all
  obtain ⟨rfl, rfl⟩ := trodVars_none hV
  have k0 := h0
  have lt0 : ∀ x ∈ p0, x.block < W.heap.size := by obtain ⟨m, hm⟩ := k0; exact DataW.trod_lt m _ _ _ hm
  obtain ⟨A0, n0, c0, l0, rfl, rfl, rd0, zz0⟩ := open_recs (hval 0 22 v0 rfl rfl) h0
  have k1 := h1
  have lt1 : ∀ x ∈ p1, x.block < W.heap.size := by obtain ⟨m, hm⟩ := k1; exact DataW.trod_lt m _ _ _ hm
  obtain ⟨A1, n1, c1, l1, rfl, rfl, rd1, zz1⟩ := open_recs (hval 1 22 v1 rfl rfl) h1
  have k2 := h2
  have lt2 : ∀ x ∈ p2, x.block < W.heap.size := by obtain ⟨m, hm⟩ := k2; exact DataW.trod_lt m _ _ _ hm
  obtain ⟨A2, n2, c2, l2, rfl, rfl, rd2, zz2⟩ := open_recs (hval 2 22 v2 rfl rfl) h2
  clear hA0 hval0
  refine (walk W A0 c0 l0 rd0 zz0 A1 c1 l1 rd1 zz1 A2 c2 l2 rd2 zz2).mono fun e W' ⟨he, bel⟩ => ?_
  subst he
  exact ⟨_, rfl, _, _, _, [], _, [], hW', trodAll_mk1 (shut_bool Try.underlying4 _), (trodAll_cons_mk (Below.trod laidOut (by kernel_rfl) (of_decide_eq_true (by kernel_rfl)) k0 bel lt0) (trodAll_cons_mk (Below.trod laidOut (by kernel_rfl) (of_decide_eq_true (by kernel_rfl)) k1 bel lt1) (trodAll_cons_mk (Below.trod laidOut (by kernel_rfl) (of_decide_eq_true (by kernel_rfl)) k2 bel lt2) trodAll_mk0))), rfl, bel.frame _, fun h => by cases h⟩

theorem over : Rows.recordJoinsRow.holds Try.pinned (OpenSpec.ofChange Rows.recordJoinsSpec) :=
  OpenClaim.holds_of_wide 5 Try.f5 rfl rfl rfl rfl rfl rfl rfl ⟨rfl, rfl, rfl, rfl, rfl⟩ rfl rfl rfl rfl rfl (by kernel_rfl) Try.func5 (by kernel_rfl)
    (of_decide_eq_true (by kernel_rfl)) (by unfold Func.isWrapper; first | (rw [if_pos (by decide +kernel)]; kernel_rfl) | (rw [if_neg (by decide +kernel)]; exact ⟨rfl, rfl⟩))
    (fun os started H enc _ => lifted os started H enc)

theorem proved : Rows.RecordJoinsSaid := over
#print axioms proved
end Go.Proofs.Ytbfjhhijhkhnkaa.recordJoins
