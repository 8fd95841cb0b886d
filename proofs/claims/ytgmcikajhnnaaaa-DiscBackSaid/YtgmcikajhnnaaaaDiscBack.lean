/- A timeline's bytes are decoded as the normal one of its minutes; what is decoded is encoded as it was; a byte that is another one is found. Conditions: none (of more than 100 records, or texts of more than 3000 bytes, the law asks the examples alone). -/
import Derived.Test.YtgmcikajhnnaaaaRows
import Derived.Test.YtgmcikajhnnaaaaRecOpen
import Derived.Test.YtgmcikajhnnaaaaSlipArg
import Derived.Test.YtgmcikajhnnaaaaDiscBackM
import Derived.Test.YtgmcikajhnnaaaaDiscBackA
import Derived.Test.YtgmcikajhnnaaaaDiscBackB
import Derived.Test.YtgmcikajhnnaaaaDiscBackC
import Derived.Test.YtgmcikajhnnaaaaRecSame
import Derived.Test.YtgmcikajhnnaaaaRecOf
import Derived.WalkKit
import Derived.WalkSmall
import Derived.WalkSpells
import Derived.ProofKit
import Derived.OpenShut
import Derived.ShutString
import Derived.ChangeOld
import Derived.Below
import Derived.Lib.Hide
import Derived.OwnWalk
import Derived.Outline
namespace Go.Proofs.Ytgmcikajhnnaaaa.discBack
open Go.ChangeShapes Go.WideShapes Go.ChangeAt Go.RowKit
open Go.ChangeMaps (open_string shut_string)
set_option linter.unusedVariables false

theorem own : ownKnob Try.prog.godebug = none := by kernel_rfl
theorem laidOut : laidOutB Try.prog = true := by kernel_rfl

theorem wf_u8 {n : Int} (h : (Lit.int .u8 n).wf = true) : 0 ≤ n ∧ n ≤ 255 := by
  simp [Lit.wf, IntKind.min, IntKind.max, IntKind.signed, IntKind.bits] at h
  omega

/-- What Decode answers of the text, and Encode of what was decoded. -/
theorem back_tail (s1 : ByteArray) (h : s1.size ≤ 3000) :
    (∀ W, Calls Try.prog 12 #[.string s1] W fun e w' => ∃ pl er2, e = .returned (.tuple #[.slice none 0 0, .int .i64 pl, .int .i64 er2]) ∧ (er2 != 0) = true ∧ Below W.heap.size W w') ∨
    ∃ (b1 : List Rc) (n1 : Nat), (∀ W, Calls Try.prog 12 #[.string s1] W fun e w' => ∃ A c, e = .returned (.tuple #[.slice A n1 c, .int .i64 0, .int .i64 0]) ∧ RdR w' A b1 ∧ Below W.heap.size W w') ∧
      (∀ (A : Option Addr) (c : Nat) W, RdR W A b1 → Calls Try.prog 10 #[.slice A n1 c] W fun e w' => e = .returned (.tuple #[.string s1, .int .i64 0]) ∧ Below W.heap.size W w') := by
  by_cases ho : (openV s1).2 = 0
  · cases hd : decT (openV s1).1.data.toList with
    | none =>
      refine .inl fun W => (dec_any s1 W (by omega)).mono fun e w' ⟨hb, _, h2⟩ => ?_
      obtain ⟨pl, er, h3, h4⟩ := (h2 ho).2 hd
      exact ⟨pl, er, h3, by simpa using h4, hb⟩
    | some b =>
      have he := dec_enc ho hd
      refine .inr ⟨b, b.length, fun W => (dec_any s1 W (by omega)).mono fun e w' ⟨hb, _, h2⟩ => ?_, fun A c W hr => ?_⟩
      · obtain ⟨v, h3, h4⟩ := (h2 ho).1 b hd
        obtain ⟨A, c, hv, hrd, _⟩ := h4.read
        exact ⟨A, c, by rw [h3, hv], hrd, hb⟩
      · have := enc_any A c b W hr (by omega)
        rw [he.1] at this
        exact this
  · refine .inl fun W => (dec_any s1 W (by omega)).mono fun e w' ⟨hb, h1, _⟩ => ?_
    obtain ⟨pl, h3⟩ := h1 ho
    exact ⟨pl, _, h3, by simpa using ho, hb⟩

/-- A timeline's bytes, decoded. -/
theorem back_dec {l : List Rc} (hz : (checkV l).2 = 0) (hne : l ≠ []) (hs : (sealB ⟨(bodyL l).toArray⟩).size ≤ 1000000) : ∀ W, Calls Try.prog 12 #[.string (sealB ⟨(bodyL l).toArray⟩)] W fun e w' => ∃ A c, e = .returned (.tuple #[.slice A (normV l).length c, .int .i64 0, .int .i64 0]) ∧ RdR w' A (normV l) ∧ Below W.heap.size W w' := fun W =>
  (dec_any _ W hs).mono fun e w' ⟨hb, _, h2⟩ => by
    have ho := open_seal ⟨(bodyL l).toArray⟩
    rw [ho] at h2
    obtain ⟨v, h3, h4⟩ := (h2 rfl).1 (normV l) (by show decT (bodyL l).toArray.toList = _; rw [List.toList_toArray]; exact dec_full hz hne)
    obtain ⟨A, c, hv, hrd, _⟩ := h4.read
    exact ⟨A, c, by rw [h3, hv], hrd, hb⟩

theorem back_slip {s : ByteArray} (h : openV s = (⟨#[]⟩, 9)) (hs : s.size ≤ 1000000) : ∀ W, Calls Try.prog 12 #[.string s] W fun e w' => ∃ pl, e = .returned (.tuple #[.slice none 0 0, .int .i64 pl, .int .i64 9]) ∧ Below W.heap.size W w' := fun W =>
  (dec_any s W hs).mono fun e w' ⟨hb, h1, _⟩ => by
    rw [h] at h1
    obtain ⟨pl, h3⟩ := h1 (by decide)
    exact ⟨pl, h3, hb⟩

theorem back_norm (A : Option Addr) (c : Nat) (l : List Rc) (W : World) (h : RdR W A l) (hz : (checkV l).2 = 0) (hl : l.length ≤ 1000000) :
    Calls Try.prog 13 #[.slice A l.length c] W fun e w' => ∃ A2 c2, e = .returned (.tuple #[.slice A2 (normV l).length c2, .int .i64 0]) ∧ RdR w' A2 (normV l) ∧ Below W.heap.size W w' := by
  have := refnormal_any A c l W h (by omega)
  rw [hz, nrm_ok (check_tl hz)] at this
  exact this.mono fun e w' ⟨v, he, ho, hb⟩ => by
    obtain ⟨A2, c2, hv, hrd, _⟩ := ho.read
    exact ⟨A2, c2, by rw [he, hv], hrd, hb⟩

theorem back_same (A B : Option Addr) (c d : Nat) (R : List Rc) (W : World) (ha : RdR W A R) (hb : RdR W B R) (hl : R.length ≤ 1000000) :
    Calls Try.prog 14 #[.slice A R.length c, .slice B R.length d] W fun e w' => e = .returned (.bool true) ∧ Below W.heap.size W w' := by
  have := sameR_any A B c d R.length R.length R R W (Lib.hid rfl) (Lib.hid rfl) ha hb (by omega)
  rw [decide_eq_true (rfl : R = R)] at this
  exact this

theorem walk (w : World) (A0 : Option Addr) (c0 : Nat) (l0 : List Rc) (r0 : RdR w A0 l0) (z0 : A0 = none → c0 = 0) (s1 : ByteArray) (w1 : s1.size ≤ maxLen) (a2 b2 : Int) (w2 : (Lit.int .i64 a2).wf = true) (x2 : (Lit.int .u8 b2).wf = true) :
    Calls Try.prog 5 #[.slice A0 l0.length c0, .string s1, .agg #[.int .i64 a2, .int .u8 b2]] w fun e w' => e = .returned (.bool true) ∧ Below w.heap.size w w' := by
  by_cases h100 : 100 < l0.length
  · have h100' : (100 : Int) < (l0.length : Int) := by omega
    go_enter Try.func5, Try.ntmps5
    go_wp2_with (go_at_call 9; (with_reducible refine (alive11_any _).mono ?_); rintro e w' ⟨rfl, rfl⟩)
    go_ret
    exact ⟨rfl, by (repeat (first | exact Below.refl _ _ | (refine b_st ?_ (by first | (simp; done) | (simp; omega))) | (refine b_al ?_ (Nat.le_refl _) _) | refine b_dn ?_ | refine b_dr ?_ | (refine b_cl ?_ (Nat.le_refl _) (by assumption))))⟩
  by_cases h3000 : 3000 < s1.size
  · have h100' : (l0.length : Int) ≤ 100 := by omega
    have h3000' : (3000 : Int) < (s1.size : Int) := by omega
    go_enter Try.func5, Try.ntmps5
    go_wp2_with (go_at_call 9; (with_reducible refine (alive11_any _).mono ?_); rintro e w' ⟨rfl, rfl⟩)
    go_ret
    exact ⟨rfl, by (repeat (first | exact Below.refl _ _ | (refine b_st ?_ (by first | (simp; done) | (simp; omega))) | (refine b_al ?_ (Nat.le_refl _) _) | refine b_dn ?_ | refine b_dr ?_ | (refine b_cl ?_ (Nat.le_refl _) (by assumption))))⟩
  have h100n : ((l0.length : Nat) : Int) ≤ 100 := by omega
  have h3000n : (s1.size : Int) ≤ 3000 := by omega
  have hb2 := wf_u8 x2
  have E1 := fun W (h : RdR W A0 l0) => enc_any A0 c0 l0 W h (by omega)
  have TAIL := back_tail s1 (by omega)
  by_cases hz : (checkV l0).2 = 0
  · by_cases hne : l0 = []
    · have he : ((encV l0).2 == 0) = false := by rw [hne]; decide
      rcases TAIL with D2 | ⟨b1, n1, D2, E2⟩
      · exact back_none_bad A0 c0 l0.length l0 _ s1 a2 b2 _ w r0 h100n h3000n E1 he D2
      · exact back_none_good A0 c0 l0.length l0 _ s1 a2 b2 _ b1 n1 w r0 h100n h3000n E1 he D2 E2
    · have hE := enc_ok hz hne
      rw [hE] at E1
      dsimp only at E1
      have hbl := body_len hz hne
      have htz : (sealB ⟨(bodyL l0).toArray⟩).size = (bodyL l0).length + 2 := by rw [sealB_size, size_of]
      have hbz : (⟨(bodyL l0).toArray⟩ : ByteArray).size = (bodyL l0).length := by rw [size_of]
      have tz : (sealB ⟨(bodyL l0).toArray⟩).size ≤ 100000 := by rw [htz]; omega
      have D1 := back_dec hz hne (by rw [htz]; omega)
      have N1 := fun W (h : RdR W A0 l0) => back_norm A0 c0 l0 W h hz (by omega)
      have SM := fun (A B : Option Addr) (c d : Nat) W (ha : RdR W A (normV l0)) (hb : RdR W B (normV l0)) => back_same A B c d (normV l0) W ha hb (Nat.le_trans (norm_len l0) (by omega))
      have SL := fun (k : Nat) (hk : k < (bodyL l0).length) (hc : b2 % 255 ≠ bt (sealB ⟨(bodyL l0).toArray⟩) k % 255) => slip_open ⟨(bodyL l0).toArray⟩ (by rw [hbz]; exact hk) hb2.1 hb2.2 hc
      rw [hbz] at SL
      generalize sealB ⟨(bodyL l0).toArray⟩ = t at *
      by_cases g1 : a2 < 0
      · rcases TAIL with D2 | ⟨b1, n1, D2, E2⟩
        · exact back_h1_bad A0 c0 l0.length l0 t s1 a2 b2 (normV l0) (normV l0).length w r0 h100n h3000n E1 D1 N1 SM g1 D2
        · exact back_h1_good A0 c0 l0.length l0 t s1 a2 b2 (normV l0) (normV l0).length b1 n1 w r0 h100n h3000n E1 D1 N1 SM g1 D2 E2
      · by_cases g2 : (t.size : Int) - 2 ≤ a2
        · rcases TAIL with D2 | ⟨b1, n1, D2, E2⟩
          · exact back_h2_bad A0 c0 l0.length l0 t s1 a2 b2 (normV l0) (normV l0).length w r0 h100n h3000n E1 D1 N1 SM tz (by omega) g2 D2
          · exact back_h2_good A0 c0 l0.length l0 t s1 a2 b2 (normV l0) (normV l0).length b1 n1 w r0 h100n h3000n E1 D1 N1 SM tz (by omega) g2 D2 E2
        · obtain ⟨k, rfl⟩ : ∃ k : Nat, a2 = k := ⟨a2.toNat, by omega⟩
          have g2' : (k : Int) < (t.size : Int) - 2 := by omega
          by_cases g4 : b2 % 255 = bt t k % 255
          · rcases TAIL with D2 | ⟨b1, n1, D2, E2⟩
            · exact back_h3_bad A0 c0 l0.length l0 t s1 b2 (normV l0) (normV l0).length w r0 h100n h3000n E1 D1 N1 SM tz k g2' hb2 g4 D2
            · exact back_h3_good A0 c0 l0.length l0 t s1 b2 (normV l0) (normV l0).length b1 n1 w r0 h100n h3000n E1 D1 N1 SM tz k g2' hb2 g4 D2 E2
          · have hsl := SL k (by omega) g4
            have D3 := back_slip hsl.1 (by rw [ByteArray.size_append, ByteArray.size_append, hsl.2.1, hsl.2.2, show (⟨#[UInt8.ofNat b2.toNat]⟩ : ByteArray).size = 1 from rfl]; omega)
            have q2 : (t.extract (k + 1) t.size).size = t.size - 1 - k := by rw [hsl.2.2]; omega
            rcases TAIL with D2 | ⟨b1, n1, D2, E2⟩
            · exact back_h4_bad A0 c0 l0.length l0 t s1 b2 (normV l0) (normV l0).length w r0 h100n h3000n E1 D1 N1 SM tz k g2' hb2 g4 hsl.2.1 q2 D3 D2
            · exact back_h4_good A0 c0 l0.length l0 t s1 b2 (normV l0) (normV l0).length b1 n1 w r0 h100n h3000n E1 D1 N1 SM tz k g2' hb2 g4 hsl.2.1 q2 D3 D2 E2
  · have he : ((encV l0).2 == 0) = false := by rw [enc_bad hz]; simpa using hz
    rcases TAIL with D2 | ⟨b1, n1, D2, E2⟩
    · exact back_none_bad A0 c0 l0.length l0 _ s1 a2 b2 _ w r0 h100n h3000n E1 he D2
    · exact back_none_good A0 c0 l0.length l0 _ s1 a2 b2 _ b1 n1 w r0 h100n h3000n E1 he D2 E2

set_option maxRecDepth 100000 in
theorem lifted (os : Os) (started : os.Started) (H : Type) (enc : TypeId × Value → H) :
    ReturnsInHanded {} Try.checked os 5 .any (Rows.discBackSpec.pre6 enc Try.prog Try.f5 Rows.discBackRow.domain false) (Rows.discBackSpec.post enc Try.prog Try.f5 false true false false) := by
  refine returnsInHanded_of_change (C := Try.checked) own started (by kernel_rfl) Try.func5
    (ChangeSpec.witness6 (enc := enc) (C := Try.checked) false ⟨#[], #[.slice none 0 0, .string ⟨#[]⟩, .agg #[.int .i64 0, .int .u8 0]], []⟩ 8 (by kernel_rfl) (by kernel_rfl) (by kernel_rfl) (by kernel_rfl)) ?_
  intro W base args ds gs before hval0 hW hcnd _
  have hval : ∀ (j : Nat) t v, Try.f5.params[j]? = some t → args[j]? = some v → Value.okWide Try.prog W .any base t v := hval0
  have hW' := hW
  obtain ⟨p, q, hA0, hV, rfl, hfz, hnd⟩ := hW
  have hA : DataW.TrodAll enc Try.prog W 0 (fun _ => true) true Try.f5.params.toList args.toList ds p := hA0
  rw [Try.params5] at hA hval
  obtain ⟨v0, vs0, d0, ds0, p0, q0, hargs, rfl, rfl, h0, r0⟩ := trodAll_cons hA
  obtain ⟨v1, vs1, d1, ds1, p1, q1, rfl, rfl, rfl, h1, r1⟩ := trodAll_cons r0
  obtain ⟨v2, vs2, d2, ds2, p2, q2, rfl, rfl, rfl, h2, r2⟩ := trodAll_cons r1
  obtain ⟨rfl, rfl, rfl⟩ := trodAll_nil r2
  obtain rfl : args = #[v0, v1, v2] := by cases args; simp_all
  obtain ⟨rfl, rfl⟩ := trodVars_none hV
  have k0 := h0
  have lt0 : ∀ x ∈ p0, x.block < W.heap.size := by obtain ⟨m, hm⟩ := k0; exact DataW.trod_lt m _ _ _ hm
  obtain ⟨A0, n0, c0, l0, rfl, rfl, rd0, zz0⟩ := open_recs (hval 0 29 v0 rfl rfl) h0
  obtain ⟨s1, rfl, rfl, rfl, w1⟩ := open_string Try.underlying9 (hval 1 9 v1 rfl rfl) h1
  obtain ⟨a2, b2, rfl, rfl, rfl, w2, x2⟩ := open_slip (hval 2 34 v2 rfl rfl) h2
  clear hA0 hval0
  refine (walk W A0 c0 l0 rd0 zz0 s1 w1 a2 b2 w2 x2).mono fun e W' ⟨he, bel⟩ => ?_
  subst he
  exact ⟨_, rfl, _, _, _, [], _, [], hW', trodAll_mk1 (shut_bool Try.underlying4 _), (trodAll_cons_mk (Below.trod laidOut (by kernel_rfl) (of_decide_eq_true (by kernel_rfl)) k0 bel lt0) (trodAll_cons_mk (shut_string Try.underlying9 w1) (trodAll_cons_mk (shut_slip w2 x2) trodAll_mk0))), rfl, bel.frame _, fun h => by cases h⟩

theorem over : Rows.discBackRow.holds Try.pinned (OpenSpec.ofChange Rows.discBackSpec) :=
  OpenClaim.holds_of_wide 5 Try.f5 rfl rfl rfl rfl rfl rfl rfl ⟨rfl, rfl, rfl, rfl, rfl⟩ rfl rfl rfl rfl rfl (by kernel_rfl) Try.func5 (by kernel_rfl)
    (of_decide_eq_true (by kernel_rfl)) (by unfold Func.isWrapper; first | (rw [if_pos (by decide +kernel)]; kernel_rfl) | (rw [if_neg (by decide +kernel)]; exact ⟨rfl, rfl⟩))
    (fun os started H enc _ => lifted os started H enc)

theorem proved : Rows.DiscBackSaid := over
#print axioms proved
end Go.Proofs.Ytgmcikajhnnaaaa.discBack
