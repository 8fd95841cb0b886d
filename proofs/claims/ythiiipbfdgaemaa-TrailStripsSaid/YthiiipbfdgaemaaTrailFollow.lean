/- What follow of layer 20 does: it hands a timeline on, piece by piece, and returns the spot behind it. Conditions: the tasks and records can be read and may be, the spot is right; the function keeps what it is said to keep. -/
import Derived.Test.YthiiipbfdgaemaaRows
import Derived.Test.YthiiipbfdgaemaaZ1
import Derived.Test.YthiiipbfdgaemaaZ2
import Derived.Test.YthiiipbfdgaemaaErrandPast
import Derived.Test.YthiiipbfdgaemaaErrandFits
import Derived.Test.YthiiipbfdgaemaaErrandSpot
import Derived.Test.YthiiipbfdgaemaaErrandLeftC
import Derived.Test.YthiiipbfdgaemaaErrandOverC
import Derived.Test.YthiiipbfdgaemaaZ4
import Derived.Test.YthiiipbfdgaemaaTrailLeaf
import Derived.Test.YthiiipbfdgaemaaTrailOver
import Derived.WalkKit
import Derived.WalkSpells
import Derived.WalkSmall
import Derived.Below
import Derived.Lib.Hide
import Derived.Outline
import Derived.Deep.DeepCutAuto
import Derived.OwnWalk
import Derived.BigQuiet
import Derived.Deep.QuietTactic
import Derived.Deep.LoopGhost
import Derived.WalkMore
import Derived.OrdersHeld
import Derived.Deep.RegionHeld3
namespace Go.Proofs.Ythiiipbfdgaemaa
open Go.RowKit

set_option maxRecDepth 20000 in
set_option maxHeartbeats 2000000 in
theorem follow20_any (g : Nat) (cb : Array Value) (eg : ∀ args w, (callFunc g args).run Try.prog w = .ok (.enter g args) w) (A : Option Addr) (n c : Nat) (l : List Tk) (hn : l.length = n) (i x y : Int) (A' : Option Addr) (n' c' : Nat) (r : List Rc) (hn' : r.length = n')
    (n0 : Nat) (I : Nat → World → Prop) (w : World) (hK : RdKn n0 w A l) (hR : RdRn n0 w A' r) (h0 : n0 ≤ w.heap.size) (few : Few l) (hcn : n ≤ c) (hz : A = none → c = 0) (hl : n' ≤ 4611686018427387904) (ck : checkT l = 0) (fit : Fits l (i, x, y)) (tl : Tl (beg r) r)
    (hd : Does g cb n0 w.heap.size I l (kindsV r) (beg r) (i, x, y)) (hI : I 0 w) :
    Calls Try.prog 25 #[.slice A n c, .agg #[.int .i64 i, .int .i64 x, .int .i64 y], .slice A' n' c', .func (.func g) #[] cb] w fun e w' =>
      e = .returned (.agg (sp3 (runS l (kindsV r) (beg r) ((i, x, y), none4)).1)) ∧ I (kindsV r).length w' ∧ KeepT n0 w w' := by
  obtain ⟨ok, _⟩ := checkt_zero ck
  have tb := tl.bd
  have HD := Lib.hid hd
  have HK := Lib.hid hK
  have HR := Lib.hid hR
  have HN := Lib.hid hn
  have HN' := Lib.hid hn'
  have HF := Lib.hid fit
  have OK := Lib.hid ok
  have CKT := Lib.hid (And.intro ck (And.intro few (And.intro hcn hz)))
  have TL := Lib.hid tl
  have S0 : Bx ((w.alloc (.cells #[.int .i64 i, .int .i64 x, .int .i64 y] 24)).alloc (.cells #[.int .i64 0, .int .i64 0, .int .i64 0] 24)) w.heap.size 24 #[.int .i64 i, .int .i64 x, .int .i64 y] := (Bx.new (W := w) _ _ rfl).alloc _
  have Q0 : Bx ((w.alloc (.cells #[.int .i64 i, .int .i64 x, .int .i64 y] 24)).alloc (.cells #[.int .i64 0, .int .i64 0, .int .i64 0] 24)) (w.heap.size + 1) 24 #[.int .i64 0, .int .i64 0, .int .i64 0] := Bx.new (W := w.alloc (.cells #[.int .i64 i, .int .i64 x, .int .i64 y] 24)) _ _ (by simp)
  have B0 : Below w.heap.size w ((w.alloc (.cells #[.int .i64 i, .int .i64 x, .int .i64 y] 24)).alloc (.cells #[.int .i64 0, .int .i64 0, .int .i64 0] 24)) := by (repeat (first | exact Below.refl _ _ | (refine b_st ?_ (by first | (simp; done) | (simp; omega))) | (refine b_al ?_ (Nat.le_refl _) _) | refine b_dn ?_ | refine b_dr ?_ | (refine b_cl ?_ (Nat.le_refl _) (by assumption))))
  have I0 : I 0 ((w.alloc (.cells #[.int .i64 i, .int .i64 x, .int .i64 y] 24)).alloc (.cells #[.int .i64 0, .int .i64 0, .int .i64 0] 24)) := hd.bel 0 _ _ hI B0
  have HS0 := Lib.hid S0
  have HQ0 := Lib.hid Q0
  have HI0 := Lib.hid I0
  have HB0 := Lib.hid (KeepT.of_below B0 h0)
  clear hd hK hR hn hn' fit ok ck few hcn hz tl S0 Q0 B0 I0 hI
  go_enter Try.func25, Try.ntmps25
  go_upto_region 1 with fail
  generalize ((w.alloc (.cells #[.int .i64 i, .int .i64 x, .int .i64 y] 24)).alloc (.cells #[.int .i64 0, .int .i64 0, .int .i64 0] 24)) = W1 at *
  go_wp2
  go_loopw [15] (fun s15 wr => ∃ (kk ii : Nat) (a u v : Int), kk ≤ n' ∧ s15 = .int .i64 (kk : Int) ∧ Hid ((kindsV (r.take kk)).length = ii) ∧ Hid ((runS l ((kindsV r).take (ii)) (beg r) ((i, x, y), none4)).1 = (a, u, v)) ∧ Hid (I ii wr) ∧ Bx wr w.heap.size 24 #[.int .i64 a, .int .i64 u, .int .i64 v] ∧ Bx wr (w.heap.size + 1) 24 #[.int .i64 0, .int .i64 0, .int .i64 0] ∧ KeepT n0 w wr) (fun s15 _ => n' - (intOf s15).toNat)
  case atStart => exact ⟨0, 0, i, x, y, Nat.zero_le _, rfl, Lib.hid (by simp [kindsV]), Lib.hid rfl, HI0, HS0.out, HQ0.out, HB0.out⟩
  case round =>
    clear HI0 HS0 HQ0 HB0
    obtain ⟨kk, ii, a, u, v, hkk, rfl, HII, HSP, HI, BS, BQ, KT⟩ := hrel
    obtain ⟨w2, rfl⟩ : ∃ w2 : World, w2 = wr := ⟨_, rfl⟩
    have HKT := Lib.hid KT
    have HBS := Lib.hid BS
    have HBQ := Lib.hid BQ
    clear KT BS BQ
    by_cases hlt : kk < n'
    · obtain ⟨b, off, q, y1, z1, rfl, hbb, c0, c1, c2, hs⟩ := (HR.out.below HKT.out.bel).rd.at_ (k := kk) (by rw [HN'.out]; exact hlt)
      have hq := hs.out
      have HSQ := hs
      have bd := TL.out.at_ kk (by rw [HN'.out]; exact hlt)
      rw [hq] at bd
      obtain ⟨⟨q0, q3⟩, y0, yz, z3⟩ := bd
      simp only at q0 q3 y0 yz z3
      have HY := Lib.hid (tl_begins TL.out (by rw [HN'.out]; exact hlt) hq)
      clear hs hq tb
      have R2 : Bx (w2.alloc (.cells #[.int .i64 q, .int .i64 y1, .int .i64 z1] 59)) w2.heap.size 59 #[.int .i64 q, .int .i64 y1, .int .i64 z1] := Bx.new (W := w2) _ _ rfl
      have HR2 := Lib.hid R2
      have HS2 := Lib.hid (HBS.out.alloc (.cells #[.int .i64 q, .int .i64 y1, .int .i64 z1] 59))
      have HQ2 := Lib.hid (HBQ.out.alloc (.cells #[.int .i64 q, .int .i64 y1, .int .i64 z1] 59))
      have HI2 := Lib.hid (HD.out.bel ii _ _ HI.out (b_al (Below.refl _ _) (Nat.le_refl _) (.cells #[.int .i64 q, .int .i64 y1, .int .i64 z1] 59)))
      have HK2 := Lib.hid (HKT.out.below (b_al (Below.refl _ _) (Nat.le_refl _) (.cells #[.int .i64 q, .int .i64 y1, .int .i64 z1] 59)) h0)
      have lt2 := HBQ.out.lt
      clear R2 HI HBS HBQ HKT
      obtain ⟨gr, hgr⟩ : ∃ gr, w2.heap.size = gr := ⟨_, rfl⟩
      go_upto_region 4 with fail
      rw [hgr] at HR2
      have hlg : w.heap.size + 1 < gr := by omega
      clear lt2 c0 c1 c2 hgr
      generalize (w2.alloc (.cells #[.int .i64 q, .int .i64 y1, .int .i64 z1] 59)) = w3 at *
      have r1 := HR2.out.cell (k := 1) rfl
      have lr := HR2.out.lt
      go_wp2
      clear r1 lr
      go_loopw [11] (fun s11 w4 => ∃ (d : Nat) (a u v : Int), y1 + (d : Int) ≤ z1 ∧ s11 = .int .i64 (y1 + (d : Int)) ∧ Hid ((runS l ((kindsV r).take (ii + d)) (beg r) ((i, x, y), none4)).1 = (a, u, v)) ∧ Hid (I (ii + d) w4) ∧ Bx w4 w.heap.size 24 #[.int .i64 a, .int .i64 u, .int .i64 v] ∧ Bx w4 (w.heap.size + 1) 24 #[.int .i64 0, .int .i64 0, .int .i64 0] ∧ Bx w4 gr 59 #[.int .i64 q, .int .i64 y1, .int .i64 z1] ∧ KeepT n0 w w4) (fun s11 _ => (z1 - intOf s11).toNat)
      case atStart => exact ⟨0, a, u, v, by omega, by simp, HSP, HI2, HS2.out, HQ2.out, HR2.out, HK2.out⟩
      case round =>
        clear HSP HI2 HS2 HQ2 HR2 HK2
        obtain ⟨d, a, u, v, hd, rfl, HSP, HI, BS, BQ, BR, KT⟩ := hrel
        obtain ⟨w4, rfl⟩ : ∃ w4 : World, w4 = wr := ⟨_, rfl⟩
        have r2 := BR.cell (k := 2) rfl
        have lr := BR.lt
        have HKT := Lib.hid KT
        have HBS := Lib.hid BS
        have HBQ := Lib.hid BQ
        have HBR := Lib.hid BR
        clear KT BS BQ BR
        by_cases hlt2 : y1 + (d : Int) < z1
        · have FT := runS_fits OK.out ((kindsV r).take (ii + d)) (beg r) ((i, x, y), none4) HF.out
          rw [HSP.out] at FT
          obtain ⟨ck, few, hcn, hz⟩ := CKT.out
          obtain ⟨p, hp⟩ : ∃ p, farV l (a, u, v) q = p := ⟨_, rfl⟩
          have p0 : 0 < p := by rw [← hp]; exact far_pos
          have p1 : p ≤ 40320 := by rw [← hp]; exact far_hi OK.out FT
          obtain ⟨bb, hbb2⟩ : ∃ bb, min z1 (y1 + (d : Int) + p) = bb := ⟨_, rfl⟩
          obtain ⟨nn, hnn⟩ : ∃ nn : Nat, bb = y1 + (d : Int) + (nn : Int) := ⟨(bb - (y1 + (d : Int))).toNat, by omega⟩
          have hn0 : 0 < nn := by omega
          have hPC : Pc l (a, u, v) q nn := far_pc hn0 (by rw [hp]; omega)
          have hal : aloneV q (y1 + (d : Int)) bb = 0 := alone_zero.2 ⟨⟨q0, q3⟩, by omega⟩
          obtain ⟨⟨⟨a2, u2, v2⟩, f⟩, hRK⟩ : ∃ X : Pt × Fs, runK l q nn (y1 + (d : Int)) ((a, u, v), none4) = X := ⟨_, rfl⟩
          have CF := fun W (h : RdK W A l) => far20_any A n c l HN.out a u v q W h OK.out FT
          rw [hp] at CF
          have CO := fun W (h : RdK W A l) => over20_any A n c l HN.out a u v q (y1 + (d : Int)) bb W h few hcn hz ck FT nn hPC hal hnn (a2, u2, v2) f hRK
          have hTP := kinds_piece (by rw [HN'.out]; exact hlt) HSQ.out HII.out (d := d) (n := nn) (by omega)
          have hLE : ii + d + nn ≤ (kindsV r).length := by
            have e1 := congrArg List.length hTP
            rw [List.length_append, List.length_replicate, List.length_take, List.length_take] at e1
            omega
          have hh : (beg r) + ((ii + d : Nat) : Int) = y1 + (d : Int) := by have := HY.out; rw [HII.out] at this; omega
          have HRK := Lib.hid (show runK l q nn (beg r + ((ii + d : Nat) : Int)) ((a, u, v), none4) = ((a2, u2, v2), f) by rw [hh]; exact hRK)
          have HRS := Lib.hid (show runS l ((kindsV r).take (ii + d)) (beg r) ((i, x, y), none4) = ((a, u, v), (runS l ((kindsV r).take (ii + d)) (beg r) ((i, x, y), none4)).2) by rw [← HSP.out])
          have HNS := Lib.hid (run_piece (st := ((i, x, y), none4)) (by omega) hTP HSP.out HRK.out)
          have HTP := Lib.hid hTP
          have HLE := Lib.hid hLE
          have HPC := Lib.hid hPC
          have HNN := Lib.hid hn0
          have HBB := Lib.hid hnn.symm
          have HMN := Lib.hid hbb2
          have HK4 := Lib.hid (HK.out.below HKT.out.bel).rd
          have r0 := HBR.out.cell (k := 0) rfl
          have hw1 : IntKind.i64.wrap (y1 + (d : Int) + p) = y1 + (d : Int) + p := IntWalk.i64_in _ ⟨by omega, by omega⟩
          clear FT ck few hcn hz hp hnn hPC hal hRK hTP hLE hh hbb2
          go_upto_region 6 with fail
          refine wp_region_noPanic ?_
          refine wp_region_held_drew (S := fun w' => Below w4.heap.size w4 w') (by kernel_rfl) ?_ (fun hHeld => ?_)
          · exact b_dr (Below.refl _ _)
          refine wpAnyH_take (i := 0) (oi := ⟨some 25, _, _, _, _, _⟩) (v := ?_) rfl (by kernel_rfl) (by kernel_rfl) (by kernel_rfl) (fun _ _ _ h => h) (Or.inl ⟨by rfl, ?_⟩) (by assumption) ?_
          rotate_left
          · (intro w' hSw; clear hSw; go_simp; try (with_reducible rfl))
          (try simp only [Act.put, List.setIfInBounds_toArray, List.set_cons_zero, List.set_cons_succ])
          refine wpAnyH_take (i := 1) (oi := ⟨some 26, _, _, _, _, _⟩) (v := .agg #[.int .i64 a, .int .i64 u, .int .i64 v]) rfl (by kernel_rfl) (by kernel_rfl) (by kernel_rfl) (fun _ _ _ h => h) (Or.inl ⟨by rfl, fun w' hSw => exec_load_box (w.heap.size) 24 #[.int .i64 a, .int .i64 u, .int .i64 v] _ w' rfl rfl (HBS.out.below hSw) Try.underlying24 rfl size_spot⟩) (by assumption) ?_
          (try simp only [Act.put, List.setIfInBounds_toArray, List.set_cons_zero, List.set_cons_succ])
          refine wpAnyH_take (i := 2) (oi := ⟨some 27, _, _, _, _, _⟩) (v := ?_) rfl (by kernel_rfl) (by kernel_rfl) (by kernel_rfl) (fun _ _ _ h => h) (Or.inl ⟨by rfl, ?_⟩) (by assumption) ?_
          rotate_left
          · (intro w' hSw; clear hSw; go_simp; try (with_reducible rfl))
          (try simp only [Act.put, List.setIfInBounds_toArray, List.set_cons_zero, List.set_cons_succ])
          refine wpAnyH_take (i := 3) (oi := ⟨some 28, _, _, _, _, _⟩) (v := ?_) rfl (by kernel_rfl) (by kernel_rfl) (by kernel_rfl) (fun _ _ _ h => h) (Or.inl ⟨by rfl, ?_⟩) (by assumption) ?_
          rotate_left
          · (intro w' hSw; have := c_cl r0 hSw; clear hSw; go_simp; try (with_reducible rfl))
          (try simp only [Act.put, List.setIfInBounds_toArray, List.set_cons_zero, List.set_cons_succ])
          refine wpAnyH_take (i := 4) (oi := ⟨some 29, _, _, _, _, _⟩) (v := ?_) rfl (by kernel_rfl) (by kernel_rfl) (by kernel_rfl) (fun _ _ _ h => h) (Or.inl ⟨by rfl, ?_⟩) (by assumption) ?_
          rotate_left
          · (intro w' hSw; clear hSw; go_simp; try (with_reducible rfl))
          (try simp only [Act.put, List.setIfInBounds_toArray, List.set_cons_zero, List.set_cons_succ])
          refine wpAnyH_take (i := 5) (oi := ⟨some 30, _, _, _, _, _⟩) (v := ?_) rfl (by kernel_rfl) (by kernel_rfl) (by kernel_rfl) (fun _ _ _ h => h) (Or.inl ⟨by rfl, ?_⟩) (by assumption) ?_
          rotate_left
          · (intro w' hSw; clear hSw; go_simp; try (with_reducible rfl))
          (try simp only [Act.put, List.setIfInBounds_toArray, List.set_cons_zero, List.set_cons_succ])
          refine wpAnyH_take (i := 6) (oi := ⟨some 31, _, _, _, _, _⟩) (v := ?_) rfl (by kernel_rfl) (by kernel_rfl) (by kernel_rfl) (fun _ _ _ h => h) (Or.inl ⟨by rfl, ?_⟩) (by assumption) ?_
          rotate_left
          · (intro w' hSw; have := c_cl r2 hSw; clear hSw; go_simp; try (with_reducible rfl))
          (try simp only [Act.put, List.setIfInBounds_toArray, List.set_cons_zero, List.set_cons_succ])
          refine wpAnyH_take (i := 7) (oi := ⟨some 32, _, _, _, _, _⟩) (v := ?_) rfl (by kernel_rfl) (by kernel_rfl) (by kernel_rfl) (fun _ _ _ h => h) (Or.inl ⟨by rfl, ?_⟩) (by assumption) ?_
          rotate_left
          · (intro w' hSw; clear hSw; go_simp; try (with_reducible rfl))
          (try simp only [Act.put, List.setIfInBounds_toArray, List.set_cons_zero, List.set_cons_succ])
          refine wpAnyH_take (i := 8) (oi := ⟨some 33, _, _, _, _, _⟩) (v := ?_) rfl (by kernel_rfl) (by kernel_rfl) (by kernel_rfl) (fun _ _ _ h => h) (Or.inl ⟨by rfl, ?_⟩) (by assumption) ?_
          rotate_left
          · (intro w' hSw; clear hSw; go_simp; try (with_reducible rfl))
          (try simp only [Act.put, List.setIfInBounds_toArray, List.set_cons_zero, List.set_cons_succ])
          refine wpAnyH_take (i := 9) (oi := ⟨some 34, _, _, _, _, _⟩) (v := .agg #[.int .i64 a, .int .i64 u, .int .i64 v]) rfl (by kernel_rfl) (by kernel_rfl) (by kernel_rfl) (fun _ _ _ h => h) (Or.inl ⟨by rfl, fun w' hSw => exec_load_box (w.heap.size) 24 #[.int .i64 a, .int .i64 u, .int .i64 v] _ w' rfl rfl (HBS.out.below hSw) Try.underlying24 rfl size_spot⟩) (by assumption) ?_
          (try simp only [Act.put, List.setIfInBounds_toArray, List.set_cons_zero, List.set_cons_succ])
          refine wpAnyH_take (i := 10) (oi := ⟨some 35, _, _, _, _, _⟩) (v := ?_) rfl (by kernel_rfl) (by kernel_rfl) (by kernel_rfl) (fun _ _ _ h => h) (Or.inl ⟨by rfl, ?_⟩) (by assumption) ?_
          rotate_left
          · (intro w' hSw; clear hSw; go_simp; try (with_reducible rfl))
          (try simp only [Act.put, List.setIfInBounds_toArray, List.set_cons_zero, List.set_cons_succ])
          refine wpAnyH_take (i := 11) (oi := ⟨some 36, _, _, _, _, _⟩) (v := ?_) rfl (by kernel_rfl) (by kernel_rfl) (by kernel_rfl) (fun _ _ _ h => h) (Or.inl ⟨by rfl, ?_⟩) (by assumption) ?_
          rotate_left
          · (intro w' hSw; have := c_cl r0 hSw; clear hSw; go_simp; try (with_reducible rfl))
          (try simp only [Act.put, List.setIfInBounds_toArray, List.set_cons_zero, List.set_cons_succ])
          refine wpAnyH_ready (rs := [12, 17]) (by kernel_rfl) (by simp) ?_
          refine AllReadyH.cons (o := ⟨some 37, _, _, _, _, _⟩) rfl (fun K hK => ?_) (AllReadyH.cons (o := ⟨some 12, _, _, _, _, _⟩) rfl (fun K hK => ?_) AllReadyH.nil)
          ·
            go_simp
            (go_at_call 39; refine (CF _ (HK4.out.below hHeld)).mono ?_; rintro e wf ⟨rfl, hbf⟩)
            go_wp2_with fail
            refine hK.out _ _ (b_cl hHeld (Nat.le_refl _) (by assumption)) (fun hHeld => ?_)
            clear hK K
            (try simp only [Act.put, List.setIfInBounds_toArray, List.set_cons_zero, List.set_cons_succ])
            refine wpAnyH_take (i := 13) (oi := ⟨some 38, _, _, _, _, _⟩) (v := ?_) rfl (by kernel_rfl) (by kernel_rfl) (by kernel_rfl) (fun _ _ _ h => h) (Or.inl ⟨by rfl, ?_⟩) (by assumption) ?_
            rotate_left
            · (intro w' hSw; clear hSw; go_simp; try (with_reducible rfl))
            (try simp only [Act.put, List.setIfInBounds_toArray, List.set_cons_zero, List.set_cons_succ])
            refine wpAnyH_take (i := 14) (oi := ⟨some 39, _, _, _, _, _⟩) (v := .int .i64 bb) rfl (by kernel_rfl) (by kernel_rfl) (by kernel_rfl) (fun _ _ _ h => h) (Or.inl ⟨by rfl, fun w' hSw => (by rw [← HMN.out]; go_simp)⟩) (by assumption) ?_
            (try simp only [Act.put, List.setIfInBounds_toArray, List.set_cons_zero, List.set_cons_succ])
            refine wpAnyH_take (i := 15) (oi := ⟨some 40, _, _, _, _, _⟩) (v := .agg #[.int .i64 q, .int .i64 (y1 + (d : Int)), .int .i64 bb]) rfl (by kernel_rfl) (by kernel_rfl) (by kernel_rfl) (fun _ _ _ h => h) (Or.inl ⟨by rfl, fun w' hSw => exec_build _ _ rfl (by kernel_rfl)⟩) (by assumption) ?_
            (try simp only [Act.put, List.setIfInBounds_toArray, List.set_cons_zero, List.set_cons_succ])
            refine wpAnyH_ready (rs := [16, 17]) (by kernel_rfl) (by simp) ?_
            refine AllReadyH.cons (o := ⟨some 41, _, _, _, _, _⟩) rfl (fun K hK => ?_) (AllReadyH.cons (o := ⟨some 12, _, _, _, _, _⟩) rfl (fun K hK => ?_) AllReadyH.nil)
            ·
              go_simp
              (go_at_call 38; refine (CO _ (HK4.out.below hHeld)).mono ?_; rintro e wo ⟨rfl, hbo⟩)
              go_wp2_with fail
              refine hK.out _ _ (b_cl hHeld (Nat.le_refl _) (by assumption)) (fun hHeld => ?_)
              clear hK K
              (try simp only [Act.put, List.setIfInBounds_toArray, List.set_cons_zero, List.set_cons_succ])
              refine wpAnyH_ready (rs := [17]) (by kernel_rfl) (by simp) ?_
              refine AllReadyH.cons (o := ⟨some 12, _, _, _, _, _⟩) rfl (fun K hK => ?_) AllReadyH.nil
              refine wp_alloc_any 68 (#[.int .i64 0, .int .i64 0, .int .i64 0, .int .i64 0, .int .i64 0, .int .i64 0, .int .i64 0, .int .i64 0, .int .i64 0, .int .i64 0, .int .i64 0, .int .i64 0, .int .i64 0]) (by kernel_rfl) (fun g_ W' hg hA hbA => ?_)
              have hgN := Nat.le_trans hHeld.size hg
              refine hK.out _ _ (b_cl hHeld (Nat.le_refl _) hbA) (fun hHeld => ?_)
              clear hK K hbA hg
              (try simp only [Act.put, List.setIfInBounds_toArray, List.set_cons_zero, List.set_cons_succ])
              refine wpAnyH_ready (rs := [18]) (by kernel_rfl) (by simp) ?_
              refine AllReadyH.cons (o := ⟨none, _, _, _, _, _⟩) rfl (fun K hK => ?_) AllReadyH.nil
              refine wp_store_any 68 _ _ rfl g_ ((pc13 q (y1 + (d : Int)) bb (a, u, v) (a2, u2, v2) f)) rfl rfl 68 (#[.int .i64 0, .int .i64 0, .int .i64 0, .int .i64 0, .int .i64 0, .int .i64 0, .int .i64 0, .int .i64 0, .int .i64 0, .int .i64 0, .int .i64 0, .int .i64 0, .int .i64 0]) hA (by kernel_rfl) rfl (pc13_one _ _ _ _ _ _) (fun W' u => ?_)
              refine hK.out _ _ (hHeld.trans (u.bel _ hgN)) (fun hHeld => ?_)
              clear hK K
              (try simp only [Act.put])
              refine wpAnyH_done (by kernel_rfl) ?_ _
              refine NoPanic.normal ?_
              have HB6 := Lib.hid hHeld
              have HP6 := Lib.hid u.box
              have HI6 := Lib.hid (HD.out.bel _ _ _ HI.out hHeld)
              have HKT6 := Lib.hid (HKT.out.below hHeld h0)
              have HBS6 := Lib.hid (HBS.out.below hHeld)
              have HBQ6 := Lib.hid (HBQ.out.below hHeld)
              have HBR6 := Lib.hid (HBR.out.below hHeld)
              have ST := HD.out.step _ _ _ _ _ _ _ W' HI6.out HNN.out HLE.out HTP.out HRS.out HPC.out HRK.out
              have hh : (beg r) + ((ii + d : Nat) : Int) = y1 + (d : Int) := by have := HY.out; have := HII.out; omega
              rw [hh, HBB.out] at ST
              have lg : w.heap.size < g_ := Nat.lt_of_lt_of_le HBS.out.lt hgN
              clear u hHeld hA hgN hh
              go_upto_region 8 with (first
                | (refine wpList_load_box (by rfl) 68 _ rfl g_ rfl 68 (pc13 q (y1 + (d : Int)) bb (a, u, v) (a2, u2, v2) f) _ HP6.out Try.underlying68 rfl size_piece ?_)
                | (go_at_fn g; refine ST.mono ?_; rintro e w7 ⟨rfl, hI7, hk7⟩))
              have HP7 := Lib.hid (hk7.box _ _ _ HP6.out (Or.inr (Or.inr rfl)))
              have HBS7 := Lib.hid (hk7.box _ _ _ HBS6.out (Or.inl rfl))
              have HBQ7 := Lib.hid (hk7.box _ _ _ HBQ6.out (Or.inl rfl))
              have HBR7 := Lib.hid (hk7.box _ _ _ HBR6.out (Or.inr (Or.inl rfl)))
              have HKT7 := Lib.hid (HKT6.out.trans hk7)
              have HI7 := Lib.hid hI7
              clear ST hI7 hk7 HI6 HP6 HBS6 HBQ6 HBR6 HKT6
              have p2 : w7.cell? ⟨g_, 2, none⟩ = some (.int .i64 bb) := HP7.out.cell (k := 2) rfl
              have p6 : w7.cell? ⟨g_, 6, none⟩ = some (.int .i64 a2) := HP7.out.cell (k := 6) rfl
              have p7 : w7.cell? ⟨g_, 7, none⟩ = some (.int .i64 u2) := HP7.out.cell (k := 7) rfl
              have p8 : w7.cell? ⟨g_, 8, none⟩ = some (.int .i64 v2) := HP7.out.cell (k := 8) rfl
              have s0 := HBS7.out.cell (k := 0) rfl
              have s1 := HBS7.out.cell (k := 1) rfl
              have s2 := HBS7.out.cell (k := 2) rfl
              have t0 := HBS7.out.free 0
              have t1 := HBS7.out.free 1
              have t2 := HBS7.out.free 2
              have ls7 := HBS7.out.lt
              have lp7 := HP7.out.lt
              have lne : ¬ g_ = w.heap.size := by omega
              have lne2 : ¬ w.heap.size = g_ := by omega
              go_region
              all_goals
                have U0 := HBS7.out.drew.setOne (k := 0) (v := .int .i64 a2)
                have U1 := U0.trans (U0.box.setOne (k := 1) (v := .int .i64 u2))
                have U2 := U1.trans (U1.box.setOne (k := 2) (v := .int .i64 v2))
                have HI8 := Lib.hid (HD.out.upd _ _ _ _ _ _ _ (HD.out.bel _ _ _ HI7.out (b_dr (Below.refl _ _))) (Nat.le_refl _) (Or.inl rfl) HBS7.out.drew U2)
                have HU8 := Lib.hid (show Bx _ w.heap.size 24 #[.int .i64 a2, .int .i64 u2, .int .i64 v2] from U2.box)
                have HQ8 := Lib.hid (U2.bx HBQ7.out.drew (by omega))
                have HR8 := Lib.hid (U2.bx HBR7.out.drew (by omega))
                have HT8 := Lib.hid ((HKT7.out.below (b_dr (Below.refl _ _)) h0).upd U2 (Nat.le_refl _) h0)
                have hb8 : bb = y1 + ((d + nn : Nat) : Int) := by have := HBB.out; omega
                have hle8 : y1 + ((d + nn : Nat) : Int) ≤ z1 := by have := HMN.out; omega
                have hgt8 : 0 < nn := HNN.out
                have HBB8 := Lib.hid hb8
                clear U0 U1 U2 p2 p6 p7 p8 s0 s1 s2 t0 t1 t2 hb8 lne lne2
                go_wp2
                go_roundw
                case rel => exact ⟨d + nn, a2, u2, v2, hle8, by rw [HBB8.out], Lib.hid (by rw [← Nat.add_assoc]; exact HNS.out), Lib.hid (by rw [← Nat.add_assoc]; exact HI8.out), HU8.out, HQ8.out, HR8.out, HT8.out⟩
                case measure => have := HBB8.out; simp [intOf]; omega
            ·
              refine wp_alloc_any 68 (#[.int .i64 0, .int .i64 0, .int .i64 0, .int .i64 0, .int .i64 0, .int .i64 0, .int .i64 0, .int .i64 0, .int .i64 0, .int .i64 0, .int .i64 0, .int .i64 0, .int .i64 0]) (by kernel_rfl) (fun g_ W' hg hA hbA => ?_)
              have hgN := Nat.le_trans hHeld.size hg
              refine hK.out _ _ (b_cl hHeld (Nat.le_refl _) hbA) (fun hHeld => ?_)
              clear hK K hbA hg
              (try simp only [Act.put, List.setIfInBounds_toArray, List.set_cons_zero, List.set_cons_succ])
              refine wpAnyH_ready (rs := [16]) (by kernel_rfl) (by simp) ?_
              refine AllReadyH.cons (o := ⟨some 41, _, _, _, _, _⟩) rfl (fun K hK => ?_) AllReadyH.nil
              go_simp
              (go_at_call 38; refine (CO _ (HK4.out.below hHeld)).mono ?_; rintro e wo ⟨rfl, hbo⟩)
              go_wp2_with fail
              refine hK.out _ _ (b_cl hHeld (Nat.le_refl _) (by assumption)) (fun hHeld => ?_)
              replace hA := hA.below (by assumption)
              clear hK K
              (try simp only [Act.put, List.setIfInBounds_toArray, List.set_cons_zero, List.set_cons_succ])
              refine wpAnyH_ready (rs := [18]) (by kernel_rfl) (by simp) ?_
              refine AllReadyH.cons (o := ⟨none, _, _, _, _, _⟩) rfl (fun K hK => ?_) AllReadyH.nil
              refine wp_store_any 68 _ _ rfl g_ ((pc13 q (y1 + (d : Int)) bb (a, u, v) (a2, u2, v2) f)) rfl rfl 68 (#[.int .i64 0, .int .i64 0, .int .i64 0, .int .i64 0, .int .i64 0, .int .i64 0, .int .i64 0, .int .i64 0, .int .i64 0, .int .i64 0, .int .i64 0, .int .i64 0, .int .i64 0]) hA (by kernel_rfl) rfl (pc13_one _ _ _ _ _ _) (fun W' u => ?_)
              refine hK.out _ _ (hHeld.trans (u.bel _ hgN)) (fun hHeld => ?_)
              clear hK K
              (try simp only [Act.put])
              refine wpAnyH_done (by kernel_rfl) ?_ _
              refine NoPanic.normal ?_
              have HB6 := Lib.hid hHeld
              have HP6 := Lib.hid u.box
              have HI6 := Lib.hid (HD.out.bel _ _ _ HI.out hHeld)
              have HKT6 := Lib.hid (HKT.out.below hHeld h0)
              have HBS6 := Lib.hid (HBS.out.below hHeld)
              have HBQ6 := Lib.hid (HBQ.out.below hHeld)
              have HBR6 := Lib.hid (HBR.out.below hHeld)
              have ST := HD.out.step _ _ _ _ _ _ _ W' HI6.out HNN.out HLE.out HTP.out HRS.out HPC.out HRK.out
              have hh : (beg r) + ((ii + d : Nat) : Int) = y1 + (d : Int) := by have := HY.out; have := HII.out; omega
              rw [hh, HBB.out] at ST
              have lg : w.heap.size < g_ := Nat.lt_of_lt_of_le HBS.out.lt hgN
              clear u hHeld hA hgN hh
              go_upto_region 8 with (first
                | (refine wpList_load_box (by rfl) 68 _ rfl g_ rfl 68 (pc13 q (y1 + (d : Int)) bb (a, u, v) (a2, u2, v2) f) _ HP6.out Try.underlying68 rfl size_piece ?_)
                | (go_at_fn g; refine ST.mono ?_; rintro e w7 ⟨rfl, hI7, hk7⟩))
              have HP7 := Lib.hid (hk7.box _ _ _ HP6.out (Or.inr (Or.inr rfl)))
              have HBS7 := Lib.hid (hk7.box _ _ _ HBS6.out (Or.inl rfl))
              have HBQ7 := Lib.hid (hk7.box _ _ _ HBQ6.out (Or.inl rfl))
              have HBR7 := Lib.hid (hk7.box _ _ _ HBR6.out (Or.inr (Or.inl rfl)))
              have HKT7 := Lib.hid (HKT6.out.trans hk7)
              have HI7 := Lib.hid hI7
              clear ST hI7 hk7 HI6 HP6 HBS6 HBQ6 HBR6 HKT6
              have p2 : w7.cell? ⟨g_, 2, none⟩ = some (.int .i64 bb) := HP7.out.cell (k := 2) rfl
              have p6 : w7.cell? ⟨g_, 6, none⟩ = some (.int .i64 a2) := HP7.out.cell (k := 6) rfl
              have p7 : w7.cell? ⟨g_, 7, none⟩ = some (.int .i64 u2) := HP7.out.cell (k := 7) rfl
              have p8 : w7.cell? ⟨g_, 8, none⟩ = some (.int .i64 v2) := HP7.out.cell (k := 8) rfl
              have s0 := HBS7.out.cell (k := 0) rfl
              have s1 := HBS7.out.cell (k := 1) rfl
              have s2 := HBS7.out.cell (k := 2) rfl
              have t0 := HBS7.out.free 0
              have t1 := HBS7.out.free 1
              have t2 := HBS7.out.free 2
              have ls7 := HBS7.out.lt
              have lp7 := HP7.out.lt
              have lne : ¬ g_ = w.heap.size := by omega
              have lne2 : ¬ w.heap.size = g_ := by omega
              go_region
              all_goals
                have U0 := HBS7.out.drew.setOne (k := 0) (v := .int .i64 a2)
                have U1 := U0.trans (U0.box.setOne (k := 1) (v := .int .i64 u2))
                have U2 := U1.trans (U1.box.setOne (k := 2) (v := .int .i64 v2))
                have HI8 := Lib.hid (HD.out.upd _ _ _ _ _ _ _ (HD.out.bel _ _ _ HI7.out (b_dr (Below.refl _ _))) (Nat.le_refl _) (Or.inl rfl) HBS7.out.drew U2)
                have HU8 := Lib.hid (show Bx _ w.heap.size 24 #[.int .i64 a2, .int .i64 u2, .int .i64 v2] from U2.box)
                have HQ8 := Lib.hid (U2.bx HBQ7.out.drew (by omega))
                have HR8 := Lib.hid (U2.bx HBR7.out.drew (by omega))
                have HT8 := Lib.hid ((HKT7.out.below (b_dr (Below.refl _ _)) h0).upd U2 (Nat.le_refl _) h0)
                have hb8 : bb = y1 + ((d + nn : Nat) : Int) := by have := HBB.out; omega
                have hle8 : y1 + ((d + nn : Nat) : Int) ≤ z1 := by have := HMN.out; omega
                have hgt8 : 0 < nn := HNN.out
                have HBB8 := Lib.hid hb8
                clear U0 U1 U2 p2 p6 p7 p8 s0 s1 s2 t0 t1 t2 hb8 lne lne2
                go_wp2
                go_roundw
                case rel => exact ⟨d + nn, a2, u2, v2, hle8, by rw [HBB8.out], Lib.hid (by rw [← Nat.add_assoc]; exact HNS.out), Lib.hid (by rw [← Nat.add_assoc]; exact HI8.out), HU8.out, HQ8.out, HR8.out, HT8.out⟩
                case measure => have := HBB8.out; simp [intOf]; omega
          ·
            refine wp_alloc_any 68 (#[.int .i64 0, .int .i64 0, .int .i64 0, .int .i64 0, .int .i64 0, .int .i64 0, .int .i64 0, .int .i64 0, .int .i64 0, .int .i64 0, .int .i64 0, .int .i64 0, .int .i64 0]) (by kernel_rfl) (fun g_ W' hg hA hbA => ?_)
            have hgN := Nat.le_trans hHeld.size hg
            refine hK.out _ _ (b_cl hHeld (Nat.le_refl _) hbA) (fun hHeld => ?_)
            clear hK K hbA hg
            (try simp only [Act.put, List.setIfInBounds_toArray, List.set_cons_zero, List.set_cons_succ])
            refine wpAnyH_ready (rs := [12]) (by kernel_rfl) (by simp) ?_
            refine AllReadyH.cons (o := ⟨some 37, _, _, _, _, _⟩) rfl (fun K hK => ?_) AllReadyH.nil
            go_simp
            (go_at_call 39; refine (CF _ (HK4.out.below hHeld)).mono ?_; rintro e wf ⟨rfl, hbf⟩)
            go_wp2_with fail
            refine hK.out _ _ (b_cl hHeld (Nat.le_refl _) (by assumption)) (fun hHeld => ?_)
            replace hA := hA.below (by assumption)
            clear hK K
            (try simp only [Act.put, List.setIfInBounds_toArray, List.set_cons_zero, List.set_cons_succ])
            refine wpAnyH_take (i := 13) (oi := ⟨some 38, _, _, _, _, _⟩) (v := ?_) rfl (by kernel_rfl) (by kernel_rfl) (by kernel_rfl) (fun _ _ _ h => h) (Or.inl ⟨by rfl, ?_⟩) (by assumption) ?_
            rotate_left
            · (intro w' hSw; clear hSw; go_simp; try (with_reducible rfl))
            (try simp only [Act.put, List.setIfInBounds_toArray, List.set_cons_zero, List.set_cons_succ])
            refine wpAnyH_take (i := 14) (oi := ⟨some 39, _, _, _, _, _⟩) (v := .int .i64 bb) rfl (by kernel_rfl) (by kernel_rfl) (by kernel_rfl) (fun _ _ _ h => h) (Or.inl ⟨by rfl, fun w' hSw => (by rw [← HMN.out]; go_simp)⟩) (by assumption) ?_
            (try simp only [Act.put, List.setIfInBounds_toArray, List.set_cons_zero, List.set_cons_succ])
            refine wpAnyH_take (i := 15) (oi := ⟨some 40, _, _, _, _, _⟩) (v := .agg #[.int .i64 q, .int .i64 (y1 + (d : Int)), .int .i64 bb]) rfl (by kernel_rfl) (by kernel_rfl) (by kernel_rfl) (fun _ _ _ h => h) (Or.inl ⟨by rfl, fun w' hSw => exec_build _ _ rfl (by kernel_rfl)⟩) (by assumption) ?_
            (try simp only [Act.put, List.setIfInBounds_toArray, List.set_cons_zero, List.set_cons_succ])
            refine wpAnyH_ready (rs := [16]) (by kernel_rfl) (by simp) ?_
            refine AllReadyH.cons (o := ⟨some 41, _, _, _, _, _⟩) rfl (fun K hK => ?_) AllReadyH.nil
            go_simp
            (go_at_call 38; refine (CO _ (HK4.out.below hHeld)).mono ?_; rintro e wo ⟨rfl, hbo⟩)
            go_wp2_with fail
            refine hK.out _ _ (b_cl hHeld (Nat.le_refl _) (by assumption)) (fun hHeld => ?_)
            replace hA := hA.below (by assumption)
            clear hK K
            (try simp only [Act.put, List.setIfInBounds_toArray, List.set_cons_zero, List.set_cons_succ])
            refine wpAnyH_ready (rs := [18]) (by kernel_rfl) (by simp) ?_
            refine AllReadyH.cons (o := ⟨none, _, _, _, _, _⟩) rfl (fun K hK => ?_) AllReadyH.nil
            refine wp_store_any 68 _ _ rfl g_ ((pc13 q (y1 + (d : Int)) bb (a, u, v) (a2, u2, v2) f)) rfl rfl 68 (#[.int .i64 0, .int .i64 0, .int .i64 0, .int .i64 0, .int .i64 0, .int .i64 0, .int .i64 0, .int .i64 0, .int .i64 0, .int .i64 0, .int .i64 0, .int .i64 0, .int .i64 0]) hA (by kernel_rfl) rfl (pc13_one _ _ _ _ _ _) (fun W' u => ?_)
            refine hK.out _ _ (hHeld.trans (u.bel _ hgN)) (fun hHeld => ?_)
            clear hK K
            (try simp only [Act.put])
            refine wpAnyH_done (by kernel_rfl) ?_ _
            refine NoPanic.normal ?_
            have HB6 := Lib.hid hHeld
            have HP6 := Lib.hid u.box
            have HI6 := Lib.hid (HD.out.bel _ _ _ HI.out hHeld)
            have HKT6 := Lib.hid (HKT.out.below hHeld h0)
            have HBS6 := Lib.hid (HBS.out.below hHeld)
            have HBQ6 := Lib.hid (HBQ.out.below hHeld)
            have HBR6 := Lib.hid (HBR.out.below hHeld)
            have ST := HD.out.step _ _ _ _ _ _ _ W' HI6.out HNN.out HLE.out HTP.out HRS.out HPC.out HRK.out
            have hh : (beg r) + ((ii + d : Nat) : Int) = y1 + (d : Int) := by have := HY.out; have := HII.out; omega
            rw [hh, HBB.out] at ST
            have lg : w.heap.size < g_ := Nat.lt_of_lt_of_le HBS.out.lt hgN
            clear u hHeld hA hgN hh
            go_upto_region 8 with (first
              | (refine wpList_load_box (by rfl) 68 _ rfl g_ rfl 68 (pc13 q (y1 + (d : Int)) bb (a, u, v) (a2, u2, v2) f) _ HP6.out Try.underlying68 rfl size_piece ?_)
              | (go_at_fn g; refine ST.mono ?_; rintro e w7 ⟨rfl, hI7, hk7⟩))
            have HP7 := Lib.hid (hk7.box _ _ _ HP6.out (Or.inr (Or.inr rfl)))
            have HBS7 := Lib.hid (hk7.box _ _ _ HBS6.out (Or.inl rfl))
            have HBQ7 := Lib.hid (hk7.box _ _ _ HBQ6.out (Or.inl rfl))
            have HBR7 := Lib.hid (hk7.box _ _ _ HBR6.out (Or.inr (Or.inl rfl)))
            have HKT7 := Lib.hid (HKT6.out.trans hk7)
            have HI7 := Lib.hid hI7
            clear ST hI7 hk7 HI6 HP6 HBS6 HBQ6 HBR6 HKT6
            have p2 : w7.cell? ⟨g_, 2, none⟩ = some (.int .i64 bb) := HP7.out.cell (k := 2) rfl
            have p6 : w7.cell? ⟨g_, 6, none⟩ = some (.int .i64 a2) := HP7.out.cell (k := 6) rfl
            have p7 : w7.cell? ⟨g_, 7, none⟩ = some (.int .i64 u2) := HP7.out.cell (k := 7) rfl
            have p8 : w7.cell? ⟨g_, 8, none⟩ = some (.int .i64 v2) := HP7.out.cell (k := 8) rfl
            have s0 := HBS7.out.cell (k := 0) rfl
            have s1 := HBS7.out.cell (k := 1) rfl
            have s2 := HBS7.out.cell (k := 2) rfl
            have t0 := HBS7.out.free 0
            have t1 := HBS7.out.free 1
            have t2 := HBS7.out.free 2
            have ls7 := HBS7.out.lt
            have lp7 := HP7.out.lt
            have lne : ¬ g_ = w.heap.size := by omega
            have lne2 : ¬ w.heap.size = g_ := by omega
            go_region
            all_goals
              have U0 := HBS7.out.drew.setOne (k := 0) (v := .int .i64 a2)
              have U1 := U0.trans (U0.box.setOne (k := 1) (v := .int .i64 u2))
              have U2 := U1.trans (U1.box.setOne (k := 2) (v := .int .i64 v2))
              have HI8 := Lib.hid (HD.out.upd _ _ _ _ _ _ _ (HD.out.bel _ _ _ HI7.out (b_dr (Below.refl _ _))) (Nat.le_refl _) (Or.inl rfl) HBS7.out.drew U2)
              have HU8 := Lib.hid (show Bx _ w.heap.size 24 #[.int .i64 a2, .int .i64 u2, .int .i64 v2] from U2.box)
              have HQ8 := Lib.hid (U2.bx HBQ7.out.drew (by omega))
              have HR8 := Lib.hid (U2.bx HBR7.out.drew (by omega))
              have HT8 := Lib.hid ((HKT7.out.below (b_dr (Below.refl _ _)) h0).upd U2 (Nat.le_refl _) h0)
              have hb8 : bb = y1 + ((d + nn : Nat) : Int) := by have := HBB.out; omega
              have hle8 : y1 + ((d + nn : Nat) : Int) ≤ z1 := by have := HMN.out; omega
              have hgt8 : 0 < nn := HNN.out
              have HBB8 := Lib.hid hb8
              clear U0 U1 U2 p2 p6 p7 p8 s0 s1 s2 t0 t1 t2 hb8 lne lne2
              go_wp2
              go_roundw
              case rel => exact ⟨d + nn, a2, u2, v2, hle8, by rw [HBB8.out], Lib.hid (by rw [← Nat.add_assoc]; exact HNS.out), Lib.hid (by rw [← Nat.add_assoc]; exact HI8.out), HU8.out, HQ8.out, HR8.out, HT8.out⟩
              case measure => have := HBB8.out; simp [intOf]; omega

        · have hdz : d = (z1 - y1).toNat := by omega
          have HII2 := Lib.hid ((kinds_next (by rw [HN'.out]; exact hlt) HSQ.out HII.out).trans (by rw [hdz] : ii + (z1 - y1).toNat = ii + d))
          clear hdz
          go_wp2
          go_roundw
          case rel => exact ⟨kk + 1, ii + d, a, u, v, by omega, by go_num, HII2, HSP, HI, HBS.out, HBQ.out, HKT.out⟩
          case measure => simp [intOf]; omega
    · have hkn : kk = n' := by omega
      have hlen : ii = (kindsV r).length := by
        have := HII.out
        rw [List.take_of_length_le (by rw [HN'.out]; omega)] at this
        exact this.symm
      have HE := Lib.hid (show (runS l (kindsV r) (beg r) ((i, x, y), none4)).1 = (a, u, v) by
        have := HSP.out
        rw [hlen, List.take_of_length_le (Nat.le_refl _)] at this
        exact this)
      have HIE := Lib.hid (show I (kindsV r).length w2 by rw [← hlen]; exact HI.out)
      clear HSP HI HII hlen
      go_wp2_with (first
        | (refine wpList_load_box (by rfl) 24 _ rfl (w.heap.size) rfl 24 #[.int .i64 a, .int .i64 u, .int .i64 v] _ HBS.out Try.underlying24 rfl size_spot ?_)
        | (refine wpList_store_box rfl 24 _ _ rfl (w.heap.size + 1) #[.int .i64 a, .int .i64 u, .int .i64 v] rfl rfl 24 #[.int .i64 0, .int .i64 0, .int .i64 0] HBQ.out size_spot rfl (one3 _ _ _) (fun w5 u5 => ?_)))
      refine bodyPost_ret (v := .agg #[.int .i64 a, .int .i64 u, .int .i64 v]) (results_box1 Try.results25 _ _ (w.heap.size + 1) 24 #[.int .i64 a, .int .i64 u, .int .i64 v] _ rfl u5.box Try.underlying24 rfl size_spot) rfl ⟨by rw [HE.out]; rfl, HD.out.upd _ _ _ _ _ _ _ HIE.out (by omega) (Or.inl rfl) HBQ.out u5, ?_⟩
      exact HKT.out.upd u5 (by omega) (by omega)

end Go.Proofs.Ythiiipbfdgaemaa
