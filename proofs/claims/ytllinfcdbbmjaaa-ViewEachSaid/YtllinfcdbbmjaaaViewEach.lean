/- Each minute of a timeline is handed on with its kind, in order, till one has enough. Conditions: none (of more than a hundred records, of records of more than three thousand minutes the law asks the example alone). -/
import Derived.Test.YtllinfcdbbmjaaaRows
import Derived.Test.YtllinfcdbbmjaaaBase
import Derived.Test.YtllinfcdbbmjaaaRow
import Derived.Test.YtllinfcdbbmjaaaRecMath
import Derived.Test.YtllinfcdbbmjaaaRecHeap
import Derived.Test.YtllinfcdbbmjaaaRecOpen
import Derived.Test.YtllinfcdbbmjaaaRecKinds
import Derived.Test.YtllinfcdbbmjaaaRecSmall
import Derived.Test.YtllinfcdbbmjaaaViewMath
import Derived.Test.YtllinfcdbbmjaaaViewAlive
import Derived.Test.YtllinfcdbbmjaaaViewIt
import Derived.WalkKit
import Derived.WalkSmall
import Derived.WalkSpells
import Derived.ProofKit
import Derived.OpenShut
import Derived.ShutString
import Derived.ChangeOld
import Derived.Below
import Derived.Lib.Hide
import Derived.OwnWalk
namespace Go.Proofs.Ytllinfcdbbmjaaa.viewEach
open Go.ChangeShapes Go.WideShapes Go.ChangeAt Go.RowKit
open Go.ChangeMaps (open_string shut_string)
set_option linter.unusedVariables false

theorem own : ownKnob Try.prog.godebug = none := by kernel_rfl
theorem laidOut : laidOutB Try.prog = true := by kernel_rfl

theorem own9 (B : Nat) (w6 : World) (hn : B ≤ w6.heap.size) : OwnFrom w6.heap.size (fun (pre : List Kd) W => Boxed W B 3 (.int .i64 (pre.length : Nat)) ∧ Below B w6 W) := fun s X Y row hs hg hr =>
  ⟨hs.1.kept hg (fun e => by
    obtain ⟨_, o, ho, hc⟩ := hr B e.symm
    have h1 := hs.1
    unfold Boxed at h1
    rw [h1] at ho
    injection ho with ho
    subst ho
    cases hc), hs.2.grown hg (Nat.le_trans hn hs.2.size) (fun k e => Nat.le_trans hn (hr k e).1)⟩

theorem boxed_below {W w1 : World} {B : Nat} {t : TypeId} {v : Value} (h : Boxed W B t v) (hb : Below W.heap.size W w1) : Boxed w1 B t v := (hb.block B h.lt).trans h

set_option maxRecDepth 100000 in
set_option maxHeartbeats 4000000 in
theorem each_heavy (w : World) (A0 : Option Addr) (c0 : Nat) (l0 : List Rc) (r0 : RdR w A0 l0) (a1 : Int) (hl : lightV l0 = false) :
    Calls Try.prog 5 #[.slice A0 l0.length c0, .int .i64 a1] w fun e w' => e = .returned (.bool true) ∧ Below w.heap.size w w' := by
  have LG := fun W (h : RdR W A0 l0) => light_any A0 c0 l0.length l0 W (Lib.hid rfl) h
  have HB0 := Lib.hid (((Below.refl w.heap.size w).alloc (Nat.le_refl _) (.cells #[.int .i64 a1] 3)).alloc (by simp) (.cells #[.bool false] 4))
  have HR := Lib.hid (r0.below HB0.out)
  have hz0 : ((w.alloc (.cells #[.int .i64 a1] 3)).alloc (.cells #[.bool false] 4)).heap.size = w.heap.size + 2 := by simp
  have X30 := Lib.hid ((Boxed.new w 3 (.int .i64 a1)).alloc (.cells #[.bool false] 4))
  have X40 : Hid (Boxed ((w.alloc (.cells #[.int .i64 a1] 3)).alloc (.cells #[.bool false] 4)) (w.heap.size + 1) 4 (.bool false)) := Lib.hid (by have := Boxed.new (w.alloc (.cells #[.int .i64 a1] 3)) 4 (.bool false); rw [World.size_alloc] at this; exact this)
  have r0x := Lib.hid r0
  rw [hl] at LG
  clear r0 hl
  refine (callsIn_wide (n := 4)).1 ?_
  refine callsIn_of_wp_marks Try.func5 rfl trivial ?_ rfl
  simp only [Try.ntmps5, List.size_toArray, List.length_cons, List.length_nil, Nat.reduceAdd, Nat.reduceSub, Array.replicate_succ, Array.replicate_zero, List.push_toArray, List.append_toArray, List.nil_append, List.cons_append]
  gi_wp2_with (first
    | (refine ⟨trivial, ?_⟩; gi_at_call 7; refine (callsIn_wide.2 (LG _ HR.out)).mono ?_; rintro e w1 ⟨rfl, hb1⟩; have H1 := Lib.hid (HB0.out.trans (hb1.mono HB0.out.size)); have X4 := Lib.hid (boxed_below X40.out hb1); have X3 := Lib.hid (boxed_below X30.out hb1); have c4 := X4.out.cell; have f4 := X4.out.frozen; have hz1 := hb1.size; rw [hz0] at hz1; clear hb1)
    | (refine ⟨trivial, ?_⟩; gi_at_call 8; refine (callsIn_wide.2 (alive9_any _)).mono ?_; rintro e wz ⟨rfl, hbz⟩; have HZ := Lib.hid (H1.out.trans (hbz.mono H1.out.size)); have XZ := Lib.hid (boxed_below X4.out hbz); have cz := XZ.out.cell; have fz := XZ.out.frozen; clear hbz))
  have XF : Boxed (wz.setCell ⟨w.heap.size + 1, 0, none⟩ (.bool true)) (w.heap.size + 1) 4 (.bool true) := XZ.out.set _
  refine ⟨.bool true, by simp [results, Try.results5, go_sem, XF.cell], rfl, ?_⟩
  exact HZ.out.setCell (p := ⟨w.heap.size + 1, 0, none⟩) (by show w.heap.size ≤ w.heap.size + 1; omega) (.bool true)

set_option maxRecDepth 100000 in
set_option maxHeartbeats 4000000 in
theorem each_right (w : World) (A0 : Option Addr) (c0 : Nat) (l0 : List Rc) (r0 : RdR w A0 l0) (a1 : Int) (hl : lightV l0 = true) (hc : (checkV l0).2 = 0) :
    Calls Try.prog 5 #[.slice A0 l0.length c0, .int .i64 a1] w fun e w' => e = .returned (.bool true) ∧ Below w.heap.size w w' := by
  have LG := fun W (h : RdR W A0 l0) => light_any A0 c0 l0.length l0 W (Lib.hid rfl) h
  have HB0 := Lib.hid (((Below.refl w.heap.size w).alloc (Nat.le_refl _) (.cells #[.int .i64 a1] 3)).alloc (by simp) (.cells #[.bool false] 4))
  have HR := Lib.hid (r0.below HB0.out)
  have hz0 : ((w.alloc (.cells #[.int .i64 a1] 3)).alloc (.cells #[.bool false] 4)).heap.size = w.heap.size + 2 := by simp
  have X30 := Lib.hid ((Boxed.new w 3 (.int .i64 a1)).alloc (.cells #[.bool false] 4))
  have X40 : Hid (Boxed ((w.alloc (.cells #[.int .i64 a1] 3)).alloc (.cells #[.bool false] 4)) (w.heap.size + 1) 4 (.bool false)) := Lib.hid (by have := Boxed.new (w.alloc (.cells #[.int .i64 a1] 3)) 4 (.bool false); rw [World.size_alloc] at this; exact this)
  have r0x := Lib.hid r0
  rw [hl] at LG
  have h100 := light_short hl
  have RG := fun W (h : RdR W A0 l0) => refistime_any A0 c0 l0 W h (by omega)
  have BG := fun W (h : RdR W A0 l0) => refbeg_any A0 c0 l0.length l0 W (Lib.hid rfl) h (by omega)
  have EC := fun W (h : RdR W A0 l0) => each9_any A0 c0 l0 W h (by omega)
  have hnil : ∀ (W : World) (B : Nat), Sem.run Try.prog (binOp BinOp.eql 44 (.func (.func 32) #[] #[.pointer (some ⟨B, 0, none⟩)]) .nilFunc) W = .ok (.bool false) W := fun W B => by kernel_rfl
  have hc2 : ((checkV l0).2 == 0) = true := by simpa using hc
  rw [hc2] at RG
  have KD := fun W (h : RdR W A0 l0) => refkinds_any A0 c0 l0 W h (check_tl hc) (by omega)
  have HE := Lib.hid (each_is (check_tl hc))
  have HT := Lib.hid (check_tl hc)
  have HNT := Lib.hid (norm_tl (check_tl hc))
  have HNK := Lib.hid (nrm_ok (check_tl hc))
  have HNL := Lib.hid (norm_len l0)
  have HSH := Lib.hid (check_tl hc).short
  have HBD := Lib.hid (check_tl hc).bd
  have HKB := Lib.hid (check_tl hc).kinds
  obtain ⟨n5, hn5⟩ : ∃ n5, (kindsV l0).length = n5 := ⟨_, rfl⟩
  have HN5 := Lib.hid hn5
  generalize beg l0 = bl at *
  generalize kindsV l0 = K at *
  clear hn5 hc hc2 r0 hl
  refine (callsIn_wide (n := 4)).1 ?_
  refine callsIn_of_wp_marks Try.func5 rfl trivial ?_ rfl
  simp only [Try.ntmps5, List.size_toArray, List.length_cons, List.length_nil, Nat.reduceAdd, Nat.reduceSub, Array.replicate_succ, Array.replicate_zero, List.push_toArray, List.append_toArray, List.nil_append, List.cons_append]
  gi_wp2_with (first
    | (refine ⟨trivial, ?_⟩; gi_at_call 7; refine (callsIn_wide.2 (LG _ HR.out)).mono ?_; rintro e w1 ⟨rfl, hb1⟩; have H1 := Lib.hid (HB0.out.trans (hb1.mono HB0.out.size)); have X4 := Lib.hid (boxed_below X40.out hb1); have X3 := Lib.hid (boxed_below X30.out hb1); have c4 := X4.out.cell; have f4 := X4.out.frozen; have hz1 := hb1.size; rw [hz0] at hz1; clear hb1)
        | (refine ⟨trivial, ?_⟩; gi_at_call 20; refine (callsIn_wide.2 (RG _ (r0x.out.below (H1.out.alloc H1.out.size (.cells #[.slice none 0 0] 40))))).mono ?_; rintro e w2 ⟨rfl, hb2⟩; have H2 := Lib.hid ((H1.out.alloc H1.out.size (.cells #[.slice none 0 0] 40)).trans (hb2.mono (H1.out.alloc H1.out.size (.cells #[.slice none 0 0] 40)).size)); have X32 := Lib.hid (boxed_below (X3.out.alloc (.cells #[.slice none 0 0] 40)) hb2); have X42 := Lib.hid (boxed_below (X4.out.alloc (.cells #[.slice none 0 0] 40)) hb2); have X52 := Lib.hid (boxed_below (Boxed.new w1 40 (.slice none 0 0)) hb2); have c52 := X52.out.cell; have f52 := X52.out.frozen; have hz2 := hb2.size; rw [World.size_alloc] at hz2; clear hb2)
        | (refine ⟨trivial, ?_⟩; gi_at_call 21; refine (callsIn_wide.2 (KD _ (r0x.out.below H2.out))).mono ?_; rintro e w3 ⟨v5, rfl, ho5, hb3⟩; obtain ⟨A5, c5, rfl, _⟩ := ho5.read; rw [HN5.out] at ho5 ⊢; have HO5 := Lib.hid ho5; have H3 := Lib.hid (H2.out.trans (hb3.mono H2.out.size)); have X33 := Lib.hid (boxed_below X32.out hb3); have X43 := Lib.hid (boxed_below X42.out hb3); have X53 := Lib.hid (boxed_below X52.out hb3); have c53 := X53.out.cell; have f53 := X53.out.frozen; have hz3 := hb3.size; clear hb3 ho5)
        | (refine ⟨trivial, ?_⟩; gi_at_call 22; refine (callsIn_wide.2 (BG _ (r0x.out.below (H3.out.setCell (p := ⟨w1.heap.size, 0, none⟩) (by show w.heap.size ≤ w1.heap.size; omega) (.slice A5 n5 c5))))).mono ?_; rintro e w4 ⟨rfl, hw4⟩; obtain rfl := hw4)
        | (refine ⟨trivial, ?_⟩; gi_at_call 23; refine (callsIn_wide.2 (EC _ (r0x.out.below (((H3.out.setCell (p := ⟨w1.heap.size, 0, none⟩) (by show w.heap.size ≤ w1.heap.size; omega) (.slice A5 n5 c5)).alloc (H3.out.setCell (p := ⟨w1.heap.size, 0, none⟩) (by show w.heap.size ≤ w1.heap.size; omega) (.slice A5 n5 c5)).size (.cells #[.int .i64 bl] 3)).alloc ((H3.out.setCell (p := ⟨w1.heap.size, 0, none⟩) (by show w.heap.size ≤ w1.heap.size; omega) (.slice A5 n5 c5)).alloc (H3.out.setCell (p := ⟨w1.heap.size, 0, none⟩) (by show w.heap.size ≤ w1.heap.size; omega) (.slice A5 n5 c5)).size (.cells #[.int .i64 bl] 3)).size (.cells #[.int .i64 0] 3))))).mono ?_; rintro e w6 ⟨B8, v8, rfl, hge8, hbx8, ho8, hb6⟩; have HGE := Lib.hid hge8; have HBX := Lib.hid hbx8; have HO8 := Lib.hid ho8; have HB6 := Lib.hid hb6; have H6 := Lib.hid ((((H3.out.setCell (p := ⟨w1.heap.size, 0, none⟩) (by show w.heap.size ≤ w1.heap.size; omega) (.slice A5 n5 c5)).alloc (H3.out.setCell (p := ⟨w1.heap.size, 0, none⟩) (by show w.heap.size ≤ w1.heap.size; omega) (.slice A5 n5 c5)).size (.cells #[.int .i64 bl] 3)).alloc ((H3.out.setCell (p := ⟨w1.heap.size, 0, none⟩) (by show w.heap.size ≤ w1.heap.size; omega) (.slice A5 n5 c5)).alloc (H3.out.setCell (p := ⟨w1.heap.size, 0, none⟩) (by show w.heap.size ≤ w1.heap.size; omega) (.slice A5 n5 c5)).size (.cells #[.int .i64 bl] 3)).size (.cells #[.int .i64 0] 3)).trans (hb6.mono (((H3.out.setCell (p := ⟨w1.heap.size, 0, none⟩) (by show w.heap.size ≤ w1.heap.size; omega) (.slice A5 n5 c5)).alloc (H3.out.setCell (p := ⟨w1.heap.size, 0, none⟩) (by show w.heap.size ≤ w1.heap.size; omega) (.slice A5 n5 c5)).size (.cells #[.int .i64 bl] 3)).alloc ((H3.out.setCell (p := ⟨w1.heap.size, 0, none⟩) (by show w.heap.size ≤ w1.heap.size; omega) (.slice A5 n5 c5)).alloc (H3.out.setCell (p := ⟨w1.heap.size, 0, none⟩) (by show w.heap.size ≤ w1.heap.size; omega) (.slice A5 n5 c5)).size (.cells #[.int .i64 bl] 3)).size (.cells #[.int .i64 0] 3)).size)); clear hge8 hbx8 ho8 hb6))
  have hz5 : (((w3.setCell ⟨w1.heap.size, 0, none⟩ (.slice A5 n5 c5)).alloc (.cells #[.int .i64 bl] 3)).alloc (.cells #[.int .i64 0] 3)).heap.size = w3.heap.size + 2 := by simp
  have hz6 : w3.heap.size + 2 ≤ w6.heap.size := by have := HB6.out.size; rw [hz5] at this; exact this
  have X36 : Hid (Boxed w6 w.heap.size 3 (.int .i64 a1)) := Lib.hid (boxed_below (((X33.out.other (by show w.heap.size ≠ w1.heap.size; omega) (.slice A5 n5 c5)).alloc (.cells #[.int .i64 bl] 3)).alloc (.cells #[.int .i64 0] 3)) HB6.out)
  have X46 : Hid (Boxed w6 (w.heap.size + 1) 4 (.bool false)) := Lib.hid (boxed_below (((X43.out.other (by show w.heap.size + 1 ≠ w1.heap.size; omega) (.slice A5 n5 c5)).alloc (.cells #[.int .i64 bl] 3)).alloc (.cells #[.int .i64 0] 3)) HB6.out)
  have X56 : Hid (Boxed w6 w1.heap.size 40 (.slice A5 n5 c5)) := Lib.hid (boxed_below (((X53.out.set (.slice A5 n5 c5)).alloc (.cells #[.int .i64 bl] 3)).alloc (.cells #[.int .i64 0] 3)) HB6.out)
  have X66 : Hid (Boxed w6 w3.heap.size 3 (.int .i64 bl)) := Lib.hid (boxed_below (show Boxed (((w3.setCell ⟨w1.heap.size, 0, none⟩ (.slice A5 n5 c5)).alloc (.cells #[.int .i64 bl] 3)).alloc (.cells #[.int .i64 0] 3)) w3.heap.size 3 (.int .i64 bl) from by have := (Boxed.new (w3.setCell ⟨w1.heap.size, 0, none⟩ (.slice A5 n5 c5)) 3 (.int .i64 bl)).alloc (.cells #[.int .i64 0] 3); simpa using this) HB6.out)
  have X76 : Hid (Boxed w6 (w3.heap.size + 1) 3 (.int .i64 0)) := Lib.hid (boxed_below (show Boxed (((w3.setCell ⟨w1.heap.size, 0, none⟩ (.slice A5 n5 c5)).alloc (.cells #[.int .i64 bl] 3)).alloc (.cells #[.int .i64 0] 3)) (w3.heap.size + 1) 3 (.int .i64 0) from by have := Boxed.new ((w3.setCell ⟨w1.heap.size, 0, none⟩ (.slice A5 n5 c5)).alloc (.cells #[.int .i64 bl] 3)) 3 (.int .i64 0); simpa using this) HB6.out)
  have KR : Hid (∀ W, Below (w3.heap.size + 1) w6 W → RdN W A5 K) := Lib.hid (fun W hB => by
    obtain ⟨A, c, he, _⟩ := HO5.out.read
    injection he with q1 q2 q3
    have hrow : W.ownsRow w2.heap.size 3 1 (.slice A5 n5 c5) K.length (K.map (Value.int .i64)) := by
      have h0 := HO5.out
      refine ⟨h0.1, ?_⟩
      rcases h0.2 with h2 | ⟨g, cap, cur, hv, hg, hh, r⟩
      · exact .inl h2
      · have hgl : g < w3.heap.size := (Array.getElem?_eq_some_iff.1 hh).1
        refine .inr ⟨g, cap, cur, hv, hg, ?_, r⟩
        rw [hB.block g (by omega), HB6.out.block g (by simp; omega), Below.heap_alloc _ _ _ (by simp; omega), Below.heap_alloc _ _ _ (by simp; omega), Below.heap_setCell _ _ _ _ (by show g ≠ w1.heap.size; omega)]
        exact hh
    obtain ⟨A', c', he', hr'⟩ := OwnN.read (show OwnN w2.heap.size W (.slice A5 n5 c5) K from hrow)
    injection he' with q1' q2' q3'
    rw [q1']
    exact hr')
  obtain ⟨L, hL⟩ := kd_exist (minsV (nrmV l0)) (fun p hp => by rw [HE.out] at hp; exact HKB.out _ (numb_mem hp))
  have HL := Lib.hid (hL.trans HE.out)
  have HLL : Hid (L.length = n5) := Lib.hid (by
    have h1 : (L.map (·.1)).length = n5 := by rw [HL.out, numb_len]; exact HN5.out
    rwa [List.length_map] at h1)
  refine wpIn_rangeFunc_ownF rfl (by omega) (gf := 32) (lb := #[.pointer (some ⟨B8, 0, none⟩)]) rfl trivial (enters_of Try.func32 (by kernel_rfl) rfl)
    (each_stops (4 - 1) (by omega) B8 v8 (nrmV l0) L w6 HBX.out (HO8.out.more (Nat.zero_le _)) hL (by rw [HNK.out]; exact Nat.le_trans HNL.out (by omega)) (fun j hj => by rw [HNK.out] at hj ⊢; have := HNT.out.1.at_ j hj; omega))
    (fun h k => KeepR.trans h k) (fun W l o o' _ hl ho _ => KeepR.turn W l o o' hl ho) (Below.refl _ _) (fun _ => rfl)
    (fun pre W => Boxed W (w3.heap.size + 1) 3 (.int .i64 (pre.length : Nat)) ∧ Below (w3.heap.size + 1) w6 W)
    (fun c pre W => (c = .ret ∧ ¬ (pre <+: L)) ∨ (c = .exit 0 ∧ (Boxed W (w3.heap.size + 1) 3 (.int .i64 (pre.length : Nat)) ∧ Below (w3.heap.size + 1) w6 W) ∧ ((pre.length : Nat) : Int) = a1))
    (own9 _ w6 (by omega))
    (fun c => fun s X Y row hs hg hr => by
      rcases hs with h | ⟨h1, h2, h3⟩
      · exact .inl h
      · exact .inr ⟨h1, own9 _ w6 (by omega) s X Y row h2 hg hr, h3⟩)
    ⟨X76.out, Below.refl _ _⟩ ?a1 ?assign ?body ?done ?stop
  case assign =>
    intro lp x W K hK
    simp only [encK]
    gi_wp2_with (rw [Oper.semAt_eq _ _ _ (fun c h => by cases h)]; go_simp)
    exact hK
  case body =>
    rintro lp pre ⟨⟨mm, k⟩, hk0, hk1⟩ W ⟨hv7, hB⟩ hlen
    rw [HLL.out] at hlen
    have x3 : Boxed W w.heap.size 3 (.int .i64 a1) := (hB.block _ (by omega)).trans X36.out
    have x4 : Boxed W (w.heap.size + 1) 4 (.bool false) := (hB.block _ (by omega)).trans X46.out
    have x5 : Boxed W w1.heap.size 40 (.slice A5 n5 c5) := (hB.block _ (by omega)).trans X56.out
    have x6 : Boxed W w3.heap.size 3 (.int .i64 bl) := (hB.block _ (by omega)).trans X66.out
    obtain ⟨b, off, x, hA, hbb, hcx, hx⟩ := (KR.out W hB).at_ (k := pre.length) (by rw [HN5.out]; exact hlen)
    have HLx : Hid ((L[pre.length]?).map (·.1) = some (bl + (pre.length : Int), x)) := Lib.hid (by
      have h1 : (L.map (·.1))[pre.length]? = some (bl + (pre.length : Int), x) := by rw [HL.out, numb_at, hx.out]; rfl
      rwa [List.getElem?_map] at h1)
    clear hx
    subst hA
    have hbd := HBD.out
    rw [HN5.out] at hbd
    have hsh := HSH.out
    rw [HN5.out] at hsh
    have c3 := x3.cell
    have c4 := x4.cell
    have f4 := x4.frozen
    have c5' := x5.cell
    have c6 := x6.cell
    have c7 := hv7.cell
    have f7 := hv7.frozen
    have HB := Lib.hid hB
    have HV7 := Lib.hid hv7
    have HPL := Lib.hid (show (((pre ++ [(⟨(mm, k), hk0, hk1⟩ : Kd)]).length : Nat) : Int) = (pre.length : Int) + 1 by simp)
    have g1 : (pre.length : Int) < (n5 : Int) := by omega
    have g2 : bl + (pre.length : Int) ≤ 40320 := by omega
    have g3 : 0 ≤ bl := hbd.1
    have HNP : Hid (¬ (mm = bl + (pre.length : Int) ∧ k = x) → ¬ (pre ++ [(⟨(mm, k), hk0, hk1⟩ : Kd)] <+: L)) := Lib.hid (fun hne ⟨t, ht⟩ => hne (by
      have h1 := HLx.out
      rw [← ht] at h1
      simp at h1
      exact h1))
    have FIN : Hid (∀ v : Value, v = .int .i64 ((pre.length : Int) + 1) → KeepsOthers W (W.setCell ⟨w3.heap.size + 1, 0, none⟩ v) ∧ KeepR W (W.setCell ⟨w3.heap.size + 1, 0, none⟩ v) ∧ Boxed (W.setCell ⟨w3.heap.size + 1, 0, none⟩ v) (w3.heap.size + 1) 3 (.int .i64 ((pre ++ [(⟨(mm, k), hk0, hk1⟩ : Kd)]).length : Nat)) ∧ Below (w3.heap.size + 1) w6 (W.setCell ⟨w3.heap.size + 1, 0, none⟩ v)) := Lib.hid (fun v hv => by
      subst hv
      refine ⟨KeepsOthers.setCell _ _ _, KeepR.grown (grownBy_setCell' W _ _) (fun r hr => ?_), ?_, HB.out.setCell (p := ⟨w3.heap.size + 1, 0, none⟩) (Nat.le_refl _) _⟩
      · cases hr
        exact ⟨_, _, _, HV7.out, by decide, by decide⟩
      · rw [HPL.out]; exact HV7.out.set _)
    clear hv7 x3 x4 x5 x6 hB hbd
    by_cases e1 : mm = bl + (pre.length : Int)
    · by_cases e2 : k = x
      · have q1 : (mm != bl + (pre.length : Int)) = false := by simpa using e1
        have q2 : (k != x) = false := by simpa using e2
        by_cases e3 : (pre.length : Int) + 1 = a1
        · have q3 : ((pre.length : Int) + 1 == a1) = true := by simpa using e3
          have HA := Lib.hid e3
          clear e1 e2 e3
          gi_wp2_with (rw [Oper.semAt_eq _ _ _ (fun c h => by cases h)]; go_simp)
          exact ⟨(FIN.out _ rfl).1, .inr ⟨rfl, (FIN.out _ rfl).2.2, by rw [HPL.out]; exact HA.out⟩⟩
        · have q3 : ((pre.length : Int) + 1 == a1) = false := by simpa using e3
          clear e1 e2 e3
          gi_wp2_with (rw [Oper.semAt_eq _ _ _ (fun c h => by cases h)]; go_simp)
          exact FIN.out _ rfl
      · have q1 : (mm != bl + (pre.length : Int)) = false := by simpa using e1
        have q2 : (k != x) = true := by simpa using e2
        have HQ := Lib.hid (HNP.out (fun h => e2 h.2))
        clear e1 e2
        gi_wp2_with (rw [Oper.semAt_eq _ _ _ (fun c h => by cases h)]; go_simp)
        exact ⟨KeepsOthers.setCell _ _ _, .inl ⟨rfl, HQ.out⟩⟩
    · have q1 : (mm != bl + (pre.length : Int)) = true := by simpa using e1
      have HQ := Lib.hid (HNP.out (fun h => e1 h.1))
      clear e1
      gi_wp2_with (rw [Oper.semAt_eq _ _ _ (fun c h => by cases h)]; go_simp)
      exact ⟨KeepsOthers.setCell _ _ _, .inl ⟨rfl, HQ.out⟩⟩
  case done =>
    rintro D ys W hD hS ⟨hv7, hB⟩ hK
    subst hS
    rw [HLL.out] at hv7
    have x3 : Boxed W w.heap.size 3 (.int .i64 a1) := (hB.block _ (by omega)).trans X36.out
    have x4 : Boxed W (w.heap.size + 1) 4 (.bool false) := (hB.block _ (by omega)).trans X46.out
    have x5 : Boxed W w1.heap.size 40 (.slice A5 n5 c5) := (hB.block _ (by omega)).trans X56.out
    have c3 := x3.cell
    have c4 := x4.cell
    have f4 := x4.frozen
    have c5' := x5.cell
    have c7 := hv7.cell
    have HBW := Lib.hid (H6.out.trans (hB.mono (by have := H6.out.size; omega)))
    have q1 : (((n5 : Nat) : Int) == ((n5 : Nat) : Int)) = true := by simp
    gi_wp2_with (refine ⟨trivial, ?_⟩; gi_at_call 8; refine (callsIn_wide.2 (alive9_any _)).mono ?_; rintro e wz ⟨rfl, hbz⟩; have HZ := Lib.hid (HBW.out.trans (hbz.mono HBW.out.size)); have XZ := Lib.hid (boxed_below x4 hbz); have KZ := Lib.hid ((hbz.block D (Array.getElem?_eq_some_iff.1 hK).1).trans hK); have cz := XZ.out.cell; have fz := XZ.out.frozen; clear hbz)
    have XF : Boxed ((wz.setCell ⟨w.heap.size + 1, 0, none⟩ (.bool true)).putObj D (.deferred none)) (w.heap.size + 1) 4 (.bool true) := (World.putObj_heap_other (by omega)).trans (XZ.out.set _)
    refine ⟨by simp, .inl ⟨_, _, rfl, run_takeDeferred (show (wz.setCell ⟨w.heap.size + 1, 0, none⟩ (.bool true)).heap[D]? = _ from (Below.heap_setCell _ _ _ _ (by show D ≠ w.heap.size + 1; omega)).trans KZ.out), ?_⟩⟩
    refine ⟨.bool true, by simp [results, Try.results5, go_sem, XF.cell], rfl, ?_⟩
    exact (HZ.out.setCell (p := ⟨w.heap.size + 1, 0, none⟩) (by show w.heap.size ≤ w.heap.size + 1; omega) (.bool true)).trans (belowK_b (w := w6) (by have := H6.out.size; omega) _ D _ _ hD ((Below.heap_setCell _ _ _ _ (by show D ≠ w.heap.size + 1; omega)).trans KZ.out) rfl rfl)
  case stop =>
    rintro D c pre W hD hSp hx hK
    rcases hx with ⟨rfl, hnp⟩ | ⟨rfl, ⟨hv7, hB⟩, ha⟩
    · exact absurd hSp hnp
    · have tok1 : True := trivial
      have x3 : Boxed W w.heap.size 3 (.int .i64 a1) := (hB.block _ (by omega)).trans X36.out
      have x4 : Boxed W (w.heap.size + 1) 4 (.bool false) := (hB.block _ (by omega)).trans X46.out
      have x5 : Boxed W w1.heap.size 40 (.slice A5 n5 c5) := (hB.block _ (by omega)).trans X56.out
      have c3 := x3.cell
      have c4 := x4.cell
      have f4 := x4.frozen
      have c5' := x5.cell
      have c7 := hv7.cell
      have HBW := Lib.hid (H6.out.trans (hB.mono (by have := H6.out.size; omega)))
      generalize pre.length = m at c7 ha
      have q2 : ((m : Int) == a1) = true := by simpa using ha
      by_cases hm : m = n5
      · have q1 : ((m : Int) == ((n5 : Nat) : Int)) = true := beq_iff_eq.2 (by omega)
        have q1' : ((m : Int) == n5) = true := beq_iff_eq.2 (by omega)
        clear hm ha hv7
        gi_wp2_with (refine ⟨trivial, ?_⟩; gi_at_call 8; refine (callsIn_wide.2 (alive9_any _)).mono ?_; rintro e wz ⟨rfl, hbz⟩; have HZ := Lib.hid (HBW.out.trans (hbz.mono HBW.out.size)); have XZ := Lib.hid (boxed_below x4 hbz); have KZ := Lib.hid ((hbz.block D (Array.getElem?_eq_some_iff.1 hK).1).trans hK); have cz := XZ.out.cell; have fz := XZ.out.frozen; clear hbz)
        have XF : Boxed ((wz.setCell ⟨w.heap.size + 1, 0, none⟩ (.bool true)).putObj D (.deferred none)) (w.heap.size + 1) 4 (.bool true) := (World.putObj_heap_other (by omega)).trans (XZ.out.set _)
        refine ⟨by simp, .inl ⟨_, _, rfl, run_takeDeferred (show (wz.setCell ⟨w.heap.size + 1, 0, none⟩ (.bool true)).heap[D]? = _ from (Below.heap_setCell _ _ _ _ (by show D ≠ w.heap.size + 1; omega)).trans KZ.out), ?_⟩⟩
        refine ⟨.bool true, by simp [results, Try.results5, go_sem, XF.cell], rfl, ?_⟩
        exact (HZ.out.setCell (p := ⟨w.heap.size + 1, 0, none⟩) (by show w.heap.size ≤ w.heap.size + 1; omega) (.bool true)).trans (belowK_b (w := w6) (by have := H6.out.size; omega) _ D _ _ hD ((Below.heap_setCell _ _ _ _ (by show D ≠ w.heap.size + 1; omega)).trans KZ.out) rfl rfl)
      · have q1 : ((m : Int) == ((n5 : Nat) : Int)) = false := beq_eq_false_iff_ne.2 (by omega)
        have q1' : ((m : Int) == n5) = false := beq_eq_false_iff_ne.2 (by omega)
        clear hm ha hv7
        gi_wp2_with (refine ⟨trivial, ?_⟩; gi_at_call 8; refine (callsIn_wide.2 (alive9_any _)).mono ?_; rintro e wz ⟨rfl, hbz⟩; have HZ := Lib.hid (HBW.out.trans (hbz.mono HBW.out.size)); have XZ := Lib.hid (boxed_below x4 hbz); have KZ := Lib.hid ((hbz.block D (Array.getElem?_eq_some_iff.1 hK).1).trans hK); have cz := XZ.out.cell; have fz := XZ.out.frozen; clear hbz)
        have XF : Boxed ((wz.setCell ⟨w.heap.size + 1, 0, none⟩ (.bool true)).putObj D (.deferred none)) (w.heap.size + 1) 4 (.bool true) := (World.putObj_heap_other (by omega)).trans (XZ.out.set _)
        refine ⟨by simp, .inl ⟨_, _, rfl, run_takeDeferred (show (wz.setCell ⟨w.heap.size + 1, 0, none⟩ (.bool true)).heap[D]? = _ from (Below.heap_setCell _ _ _ _ (by show D ≠ w.heap.size + 1; omega)).trans KZ.out), ?_⟩⟩
        refine ⟨.bool true, by simp [results, Try.results5, go_sem, XF.cell], rfl, ?_⟩
        exact (HZ.out.setCell (p := ⟨w.heap.size + 1, 0, none⟩) (by show w.heap.size ≤ w.heap.size + 1; omega) (.bool true)).trans (belowK_b (w := w6) (by have := H6.out.size; omega) _ D _ _ hD ((Below.heap_setCell _ _ _ _ (by show D ≠ w.heap.size + 1; omega)).trans KZ.out) rfl rfl)

set_option maxRecDepth 100000 in
set_option maxHeartbeats 4000000 in
theorem each_wrong (w : World) (A0 : Option Addr) (c0 : Nat) (l0 : List Rc) (r0 : RdR w A0 l0) (a1 : Int) (hl : lightV l0 = true) (hc : (checkV l0).2 ≠ 0) :
    Calls Try.prog 5 #[.slice A0 l0.length c0, .int .i64 a1] w fun e w' => e = .returned (.bool true) ∧ Below w.heap.size w w' := by
  have LG := fun W (h : RdR W A0 l0) => light_any A0 c0 l0.length l0 W (Lib.hid rfl) h
  have HB0 := Lib.hid (((Below.refl w.heap.size w).alloc (Nat.le_refl _) (.cells #[.int .i64 a1] 3)).alloc (by simp) (.cells #[.bool false] 4))
  have HR := Lib.hid (r0.below HB0.out)
  have hz0 : ((w.alloc (.cells #[.int .i64 a1] 3)).alloc (.cells #[.bool false] 4)).heap.size = w.heap.size + 2 := by simp
  have X30 := Lib.hid ((Boxed.new w 3 (.int .i64 a1)).alloc (.cells #[.bool false] 4))
  have X40 : Hid (Boxed ((w.alloc (.cells #[.int .i64 a1] 3)).alloc (.cells #[.bool false] 4)) (w.heap.size + 1) 4 (.bool false)) := Lib.hid (by have := Boxed.new (w.alloc (.cells #[.int .i64 a1] 3)) 4 (.bool false); rw [World.size_alloc] at this; exact this)
  have r0x := Lib.hid r0
  rw [hl] at LG
  have h100 := light_short hl
  have RG := fun W (h : RdR W A0 l0) => refistime_any A0 c0 l0 W h (by omega)
  have BG := fun W (h : RdR W A0 l0) => refbeg_any A0 c0 l0.length l0 W (Lib.hid rfl) h (by omega)
  have EC := fun W (h : RdR W A0 l0) => each9_any A0 c0 l0 W h (by omega)
  have hnil : ∀ (W : World) (B : Nat), Sem.run Try.prog (binOp BinOp.eql 44 (.func (.func 32) #[] #[.pointer (some ⟨B, 0, none⟩)]) .nilFunc) W = .ok (.bool false) W := fun W B => by kernel_rfl
  have hc2 : ((checkV l0).2 == 0) = false := by simpa using hc
  rw [hc2] at RG
  have HEB := Lib.hid (each_bad hc)
  have HNB := Lib.hid (nrm_bad hc)
  generalize beg l0 = bl at *
  clear hc hc2 r0 hl
  refine (callsIn_wide (n := 4)).1 ?_
  refine callsIn_of_wp_marks Try.func5 rfl trivial ?_ rfl
  simp only [Try.ntmps5, List.size_toArray, List.length_cons, List.length_nil, Nat.reduceAdd, Nat.reduceSub, Array.replicate_succ, Array.replicate_zero, List.push_toArray, List.append_toArray, List.nil_append, List.cons_append]
  gi_wp2_with (first
    | (refine ⟨trivial, ?_⟩; gi_at_call 7; refine (callsIn_wide.2 (LG _ HR.out)).mono ?_; rintro e w1 ⟨rfl, hb1⟩; have H1 := Lib.hid (HB0.out.trans (hb1.mono HB0.out.size)); have X4 := Lib.hid (boxed_below X40.out hb1); have X3 := Lib.hid (boxed_below X30.out hb1); have c4 := X4.out.cell; have f4 := X4.out.frozen; have hz1 := hb1.size; rw [hz0] at hz1; clear hb1)
        | (refine ⟨trivial, ?_⟩; gi_at_call 20; refine (callsIn_wide.2 (RG _ (r0x.out.below (H1.out.alloc H1.out.size (.cells #[.slice none 0 0] 40))))).mono ?_; rintro e w2 ⟨rfl, hb2⟩; have H2 := Lib.hid ((H1.out.alloc H1.out.size (.cells #[.slice none 0 0] 40)).trans (hb2.mono (H1.out.alloc H1.out.size (.cells #[.slice none 0 0] 40)).size)); have X32 := Lib.hid (boxed_below (X3.out.alloc (.cells #[.slice none 0 0] 40)) hb2); have X42 := Lib.hid (boxed_below (X4.out.alloc (.cells #[.slice none 0 0] 40)) hb2); have X52 := Lib.hid (boxed_below (Boxed.new w1 40 (.slice none 0 0)) hb2); have c52 := X52.out.cell; have f52 := X52.out.frozen; have hz2 := hb2.size; rw [World.size_alloc] at hz2; clear hb2)
        | (refine ⟨trivial, ?_⟩; gi_at_call 22; refine (callsIn_wide.2 (BG _ (r0x.out.below H2.out))).mono ?_; rintro e w4 ⟨rfl, hw4⟩; obtain rfl := hw4)
        | (refine ⟨trivial, ?_⟩; gi_at_call 23; refine (callsIn_wide.2 (EC _ (r0x.out.below ((H2.out.alloc H2.out.size (.cells #[.int .i64 bl] 3)).alloc (H2.out.alloc H2.out.size (.cells #[.int .i64 bl] 3)).size (.cells #[.int .i64 0] 3))))).mono ?_; rintro e w6 ⟨B8, v8, rfl, hge8, hbx8, ho8, hb6⟩; have HGE := Lib.hid hge8; have HBX := Lib.hid hbx8; have HO8 := Lib.hid ho8; have HB6 := Lib.hid hb6; have H6 := Lib.hid (((H2.out.alloc H2.out.size (.cells #[.int .i64 bl] 3)).alloc (H2.out.alloc H2.out.size (.cells #[.int .i64 bl] 3)).size (.cells #[.int .i64 0] 3)).trans (hb6.mono ((H2.out.alloc H2.out.size (.cells #[.int .i64 bl] 3)).alloc (H2.out.alloc H2.out.size (.cells #[.int .i64 bl] 3)).size (.cells #[.int .i64 0] 3)).size)); clear hge8 hbx8 ho8 hb6))
  have hz5 : ((w2.alloc (.cells #[.int .i64 bl] 3)).alloc (.cells #[.int .i64 0] 3)).heap.size = w2.heap.size + 2 := by simp
  have hz6 : w2.heap.size + 2 ≤ w6.heap.size := by have := HB6.out.size; rw [hz5] at this; exact this
  have X36 : Hid (Boxed w6 w.heap.size 3 (.int .i64 a1)) := Lib.hid (boxed_below (((X32.out).alloc (.cells #[.int .i64 bl] 3)).alloc (.cells #[.int .i64 0] 3)) HB6.out)
  have X46 : Hid (Boxed w6 (w.heap.size + 1) 4 (.bool false)) := Lib.hid (boxed_below (((X42.out).alloc (.cells #[.int .i64 bl] 3)).alloc (.cells #[.int .i64 0] 3)) HB6.out)
  have X56 : Hid (Boxed w6 w1.heap.size 40 (.slice none 0 0)) := Lib.hid (boxed_below (((X52.out).alloc (.cells #[.int .i64 bl] 3)).alloc (.cells #[.int .i64 0] 3)) HB6.out)
  have X66 : Hid (Boxed w6 w2.heap.size 3 (.int .i64 bl)) := Lib.hid (boxed_below (show Boxed ((w2.alloc (.cells #[.int .i64 bl] 3)).alloc (.cells #[.int .i64 0] 3)) w2.heap.size 3 (.int .i64 bl) from by have := (Boxed.new w2 3 (.int .i64 bl)).alloc (.cells #[.int .i64 0] 3); simpa using this) HB6.out)
  have X76 : Hid (Boxed w6 (w2.heap.size + 1) 3 (.int .i64 0)) := Lib.hid (boxed_below (show Boxed ((w2.alloc (.cells #[.int .i64 bl] 3)).alloc (.cells #[.int .i64 0] 3)) (w2.heap.size + 1) 3 (.int .i64 0) from by have := Boxed.new (w2.alloc (.cells #[.int .i64 bl] 3)) 3 (.int .i64 0); simpa using this) HB6.out)
  obtain ⟨L, hLn⟩ : ∃ L : List Kd, L = [] := ⟨_, rfl⟩
  have hL : L.map (·.1) = minsV (nrmV l0) := by rw [hLn, HEB.out]; rfl
  have HLL : Hid (L.length = 0) := Lib.hid (by rw [hLn]; rfl)
  clear hLn
  refine wpIn_rangeFunc_ownF rfl (by omega) (gf := 32) (lb := #[.pointer (some ⟨B8, 0, none⟩)]) rfl trivial (enters_of Try.func32 (by kernel_rfl) rfl)
    (each_stops (4 - 1) (by omega) B8 v8 (nrmV l0) L w6 HBX.out (HO8.out.more (Nat.zero_le _)) hL (by rw [HNB.out]; simp) (fun j hj => by rw [HNB.out] at hj; simp at hj))
    (fun h k => KeepR.trans h k) (fun W l o o' _ hl ho _ => KeepR.turn W l o o' hl ho) (Below.refl _ _) (fun _ => rfl)
    (fun pre W => Boxed W (w2.heap.size + 1) 3 (.int .i64 (pre.length : Nat)) ∧ Below (w2.heap.size + 1) w6 W)
    (fun c pre W => (c = .ret ∧ ¬ (pre <+: L)) ∨ (c = .exit 0 ∧ (Boxed W (w2.heap.size + 1) 3 (.int .i64 (pre.length : Nat)) ∧ Below (w2.heap.size + 1) w6 W) ∧ ((pre.length : Nat) : Int) = a1))
    (own9 _ w6 (by omega))
    (fun c => fun s X Y row hs hg hr => by
      rcases hs with h | ⟨h1, h2, h3⟩
      · exact .inl h
      · exact .inr ⟨h1, own9 _ w6 (by omega) s X Y row h2 hg hr, h3⟩)
    ⟨X76.out, Below.refl _ _⟩ ?a1 ?assign ?body ?done ?stop
  case assign =>
    intro lp x W K hK
    simp only [encK]
    gi_wp2_with (rw [Oper.semAt_eq _ _ _ (fun c h => by cases h)]; go_simp)
    exact hK
  case body =>
    intro lp pre x W _ hlen
    rw [HLL.out] at hlen
    exact absurd hlen (Nat.not_lt_zero _)
  case done =>
    rintro D ys W hD hS ⟨hv7, hB⟩ hK
    subst hS
    rw [HLL.out] at hv7
    have x3 : Boxed W w.heap.size 3 (.int .i64 a1) := (hB.block _ (by omega)).trans X36.out
    have x4 : Boxed W (w.heap.size + 1) 4 (.bool false) := (hB.block _ (by omega)).trans X46.out
    have x5 : Boxed W w1.heap.size 40 (.slice none 0 0) := (hB.block _ (by omega)).trans X56.out
    have c3 := x3.cell
    have c4 := x4.cell
    have f4 := x4.frozen
    have c5' := x5.cell
    have c7 := hv7.cell
    have HBW := Lib.hid (H6.out.trans (hB.mono (by have := H6.out.size; omega)))
    have q1 : (((0 : Nat) : Int) == ((0 : Nat) : Int)) = true := by simp
    gi_wp2_with (refine ⟨trivial, ?_⟩; gi_at_call 8; refine (callsIn_wide.2 (alive9_any _)).mono ?_; rintro e wz ⟨rfl, hbz⟩; have HZ := Lib.hid (HBW.out.trans (hbz.mono HBW.out.size)); have XZ := Lib.hid (boxed_below x4 hbz); have KZ := Lib.hid ((hbz.block D (Array.getElem?_eq_some_iff.1 hK).1).trans hK); have cz := XZ.out.cell; have fz := XZ.out.frozen; clear hbz)
    have XF : Boxed ((wz.setCell ⟨w.heap.size + 1, 0, none⟩ (.bool true)).putObj D (.deferred none)) (w.heap.size + 1) 4 (.bool true) := (World.putObj_heap_other (by omega)).trans (XZ.out.set _)
    refine ⟨by simp, .inl ⟨_, _, rfl, run_takeDeferred (show (wz.setCell ⟨w.heap.size + 1, 0, none⟩ (.bool true)).heap[D]? = _ from (Below.heap_setCell _ _ _ _ (by show D ≠ w.heap.size + 1; omega)).trans KZ.out), ?_⟩⟩
    refine ⟨.bool true, by simp [results, Try.results5, go_sem, XF.cell], rfl, ?_⟩
    exact (HZ.out.setCell (p := ⟨w.heap.size + 1, 0, none⟩) (by show w.heap.size ≤ w.heap.size + 1; omega) (.bool true)).trans (belowK_b (w := w6) (by have := H6.out.size; omega) _ D _ _ hD ((Below.heap_setCell _ _ _ _ (by show D ≠ w.heap.size + 1; omega)).trans KZ.out) rfl rfl)
  case stop =>
    rintro D c pre W hD hSp hx hK
    rcases hx with ⟨rfl, hnp⟩ | ⟨rfl, ⟨hv7, hB⟩, ha⟩
    · exact absurd hSp hnp
    · have tok1 : True := trivial
      have x3 : Boxed W w.heap.size 3 (.int .i64 a1) := (hB.block _ (by omega)).trans X36.out
      have x4 : Boxed W (w.heap.size + 1) 4 (.bool false) := (hB.block _ (by omega)).trans X46.out
      have x5 : Boxed W w1.heap.size 40 (.slice none 0 0) := (hB.block _ (by omega)).trans X56.out
      have c3 := x3.cell
      have c4 := x4.cell
      have f4 := x4.frozen
      have c5' := x5.cell
      have c7 := hv7.cell
      have HBW := Lib.hid (H6.out.trans (hB.mono (by have := H6.out.size; omega)))
      generalize pre.length = m at c7 ha
      have q2 : ((m : Int) == a1) = true := by simpa using ha
      by_cases hm : m = 0
      · have q1 : ((m : Int) == ((0 : Nat) : Int)) = true := beq_iff_eq.2 (by omega)
        have q1' : ((m : Int) == 0) = true := beq_iff_eq.2 (by omega)
        clear hm ha hv7
        gi_wp2_with (refine ⟨trivial, ?_⟩; gi_at_call 8; refine (callsIn_wide.2 (alive9_any _)).mono ?_; rintro e wz ⟨rfl, hbz⟩; have HZ := Lib.hid (HBW.out.trans (hbz.mono HBW.out.size)); have XZ := Lib.hid (boxed_below x4 hbz); have KZ := Lib.hid ((hbz.block D (Array.getElem?_eq_some_iff.1 hK).1).trans hK); have cz := XZ.out.cell; have fz := XZ.out.frozen; clear hbz)
        have XF : Boxed ((wz.setCell ⟨w.heap.size + 1, 0, none⟩ (.bool true)).putObj D (.deferred none)) (w.heap.size + 1) 4 (.bool true) := (World.putObj_heap_other (by omega)).trans (XZ.out.set _)
        refine ⟨by simp, .inl ⟨_, _, rfl, run_takeDeferred (show (wz.setCell ⟨w.heap.size + 1, 0, none⟩ (.bool true)).heap[D]? = _ from (Below.heap_setCell _ _ _ _ (by show D ≠ w.heap.size + 1; omega)).trans KZ.out), ?_⟩⟩
        refine ⟨.bool true, by simp [results, Try.results5, go_sem, XF.cell], rfl, ?_⟩
        exact (HZ.out.setCell (p := ⟨w.heap.size + 1, 0, none⟩) (by show w.heap.size ≤ w.heap.size + 1; omega) (.bool true)).trans (belowK_b (w := w6) (by have := H6.out.size; omega) _ D _ _ hD ((Below.heap_setCell _ _ _ _ (by show D ≠ w.heap.size + 1; omega)).trans KZ.out) rfl rfl)
      · have q1 : ((m : Int) == ((0 : Nat) : Int)) = false := beq_eq_false_iff_ne.2 (by omega)
        have q1' : ((m : Int) == 0) = false := beq_eq_false_iff_ne.2 (by omega)
        clear hm ha hv7
        gi_wp2_with (refine ⟨trivial, ?_⟩; gi_at_call 8; refine (callsIn_wide.2 (alive9_any _)).mono ?_; rintro e wz ⟨rfl, hbz⟩; have HZ := Lib.hid (HBW.out.trans (hbz.mono HBW.out.size)); have XZ := Lib.hid (boxed_below x4 hbz); have KZ := Lib.hid ((hbz.block D (Array.getElem?_eq_some_iff.1 hK).1).trans hK); have cz := XZ.out.cell; have fz := XZ.out.frozen; clear hbz)
        have XF : Boxed ((wz.setCell ⟨w.heap.size + 1, 0, none⟩ (.bool true)).putObj D (.deferred none)) (w.heap.size + 1) 4 (.bool true) := (World.putObj_heap_other (by omega)).trans (XZ.out.set _)
        refine ⟨by simp, .inl ⟨_, _, rfl, run_takeDeferred (show (wz.setCell ⟨w.heap.size + 1, 0, none⟩ (.bool true)).heap[D]? = _ from (Below.heap_setCell _ _ _ _ (by show D ≠ w.heap.size + 1; omega)).trans KZ.out), ?_⟩⟩
        refine ⟨.bool true, by simp [results, Try.results5, go_sem, XF.cell], rfl, ?_⟩
        exact (HZ.out.setCell (p := ⟨w.heap.size + 1, 0, none⟩) (by show w.heap.size ≤ w.heap.size + 1; omega) (.bool true)).trans (belowK_b (w := w6) (by have := H6.out.size; omega) _ D _ _ hD ((Below.heap_setCell _ _ _ _ (by show D ≠ w.heap.size + 1; omega)).trans KZ.out) rfl rfl)

theorem walk (w : World) (A0 : Option Addr) (c0 : Nat) (l0 : List Rc) (r0 : RdR w A0 l0) (z0 : A0 = none → c0 = 0) (a1 : Int) (w1 : (Lit.int .i64 a1).wf = true) :
    Calls Try.prog 5 #[.slice A0 l0.length c0, .int .i64 a1] w fun e w' => e = .returned (.bool true) ∧ Below w.heap.size w w' := by
  cases hl : lightV l0 with
  | false => exact each_heavy w A0 c0 l0 r0 a1 hl
  | true =>
    by_cases hc : (checkV l0).2 = 0
    · exact each_right w A0 c0 l0 r0 a1 hl hc
    · exact each_wrong w A0 c0 l0 r0 a1 hl hc

set_option maxRecDepth 100000 in
theorem lifted (os : Os) (started : os.Started) (H : Type) (enc : TypeId × Value → H) :
    ReturnsInHanded {} Try.checked os 5 .any (Rows.viewEachSpec.pre6 enc Try.prog Try.f5 Rows.viewEachRow.domain false) (Rows.viewEachSpec.post enc Try.prog Try.f5 false true false false) := by
  refine returnsInHanded_of_change (C := Try.checked) own started (by kernel_rfl) Try.func5
    (ChangeSpec.witness6 (enc := enc) (C := Try.checked) false ⟨#[], #[.slice none 0 0, .int .i64 0], []⟩ 8 (by kernel_rfl) (by kernel_rfl) (by kernel_rfl) (by kernel_rfl)) ?_
  intro W base args ds gs before hval0 hW hcnd _
  have hval : ∀ (j : Nat) t v, Try.f5.params[j]? = some t → args[j]? = some v → Value.okWide Try.prog W .any base t v := hval0
  have hW' := hW
  obtain ⟨p, q, hA0, hV, rfl, hfz, hnd⟩ := hW
  have hA : DataW.TrodAll enc Try.prog W 0 (fun _ => true) true Try.f5.params.toList args.toList ds p := hA0
  rw [Try.params5] at hA hval
  obtain ⟨v0, vs0, d0, ds0, p0, q0, hargs, rfl, rfl, h0, r0⟩ := trodAll_cons hA
  obtain ⟨v1, vs1, d1, ds1, p1, q1, rfl, rfl, rfl, h1, r1⟩ := trodAll_cons r0
  obtain ⟨rfl, rfl, rfl⟩ := trodAll_nil r1
  obtain rfl : args = #[v0, v1] := by cases args; simp_all
  obtain ⟨rfl, rfl⟩ := trodVars_none hV
  have k0 := h0
  have lt0 : ∀ x ∈ p0, x.block < W.heap.size := by obtain ⟨m, hm⟩ := k0; exact DataW.trod_lt m _ _ _ hm
  obtain ⟨A0, n0, c0, l0, rfl, rfl, rd0, zz0⟩ := open_recs (hval 0 22 v0 rfl rfl) h0
  obtain ⟨a1, rfl, rfl, rfl, w1⟩ := open_int Try.underlying3 (hval 1 3 v1 rfl rfl) h1
  clear hA0 hval0
  refine (walk W A0 c0 l0 rd0 zz0 a1 w1).mono fun e W' ⟨he, bel⟩ => ?_
  subst he
  exact ⟨_, rfl, _, _, _, [], _, [], hW', trodAll_mk1 (shut_bool Try.underlying4 _), (trodAll_cons_mk (Below.trod laidOut (by kernel_rfl) (of_decide_eq_true (by kernel_rfl)) k0 bel lt0) (trodAll_cons_mk (shut_int Try.underlying3 w1) trodAll_mk0)), rfl, bel.frame _, fun h => by cases h⟩

theorem over : Rows.viewEachRow.holds Try.pinned (OpenSpec.ofChange Rows.viewEachSpec) :=
  OpenClaim.holds_of_wide 5 Try.f5 rfl rfl rfl rfl rfl rfl rfl ⟨rfl, rfl, rfl, rfl, rfl⟩ rfl rfl rfl rfl rfl (by kernel_rfl) Try.func5 (by kernel_rfl)
    (of_decide_eq_true (by kernel_rfl)) (by unfold Func.isWrapper; first | (rw [if_pos (by decide +kernel)]; kernel_rfl) | (rw [if_neg (by decide +kernel)]; exact ⟨rfl, rfl⟩))
    (fun os started H enc _ => lifted os started H enc)

theorem proved : Rows.ViewEachSaid := over
#print axioms proved
end Go.Proofs.Ytllinfcdbbmjaaa.viewEach
