/- WordBack where the line is split and the number is from 0 on. Conditions: as the theorem says; the program's listed variables are laid. -/
import Derived.Test.YtohdcmahfnoofaaDoorWordAlive
import Derived.Test.YtohdcmahfnoofaaDoorWordJoin
import Derived.Test.YtohdcmahfnoofaaDoorWordBackM
namespace Go.Proofs.YtohdcmahfnoofaaDoor
open Go.RowKit
set_option linter.unusedVariables false

set_option maxHeartbeats 4000000 in
set_option maxRecDepth 20000 in
theorem back_c (w : World) (hl : Laid6 w) (s : ByteArray) (a b c : Int) (hs : s.size ≤ 2000) (hE : (splitV s).2.2 = 0) (ha0 : -9223372036854775808 ≤ a) (ha1 : a ≤ 9223372036854775807) (hn : 0 ≤ a)
    (hb0 : -9223372036854775808 ≤ b) (hb1 : b ≤ 9223372036854775807) (hc0 : -9223372036854775808 ≤ c) (hc1 : c ≤ 9223372036854775807) :
    Calls Tryd.prog 5 #[.string s, .int .i64 a, .agg #[.int .i64 b, .int .i64 c]] w fun e w' => e = .returned (.bool true) ∧ Below w.heap.size w w' := by
  have hs' : (s.size : Int) ≤ 2000 := by omega
  have C1 := fun W => split_any s W (by omega)
  have HW := Lib.hid (span_back b c)
  have itz := Lib.itoa_length_le a ha0 ha1
  have C5 := fun W (h : Laid6 W) => print_any a W h ha0 ha1
  have C6 := fun W (h : Laid6 W) => number_any (itoaB a) a W h ha1 (by rw [← size_list, itoaB_list]; omega)
  rw [number_back hn] at C6
  have C7 := fun W (h : Laid6 W) => told_any b c W h hb0 hb1 hc0 hc1
  have C8 := fun W (h : Laid6 W) => span_any (toldB b c) W h (by
    have h1 := Lib.itoa_length_le b hb0 hb1
    have h2 := Lib.itoa_length_le c hc0 hc1
    rw [← size_list, told_list]
    simp
    omega)
  have C9 := fun W (h : Laid6 W) => alive6_any W h
  have HV := Lib.hid (split_len s)
  have HJ := Lib.hid (split_back hE)
  obtain ⟨V, hV⟩ : ∃ V, splitV s = V := ⟨_, rfl⟩
  rw [hV] at C1 HV hE HJ
  clear hV
  obtain ⟨l, at1, er⟩ := V
  simp only [] at C1 HV hE HJ
  generalize itoaB a = t1 at C5 C6
  have L0 : Laid6 (w.alloc (.cells #[.int .i64 b, .int .i64 c] 36)) := hl.below ((Below.refl _ _).alloc (Nat.le_refl _) _)
  clear hl itz
  subst hE
  obtain ⟨i0, hi, hz0, hz1, hz2⟩ := info_parts info_string
  obtain ⟨n1, hn1⟩ : ∃ n1, l.length = n1 := ⟨_, rfl⟩
  have HN1 := Lib.hid hn1
  clear hn1
  have hn2 : n1 ≤ 2001 := by have := HV.out; have := HN1.out; omega
  have CJ := fun A c' W (h : RdT W A (l.map (·.2))) => join_any A c' n1 (l.map (·.2)) W (by rw [List.length_map]; exact HN1.out) h (by rw [HJ.out.2, size_list]; omega) (by omega)
  rw [show (⟨(joinB (l.map (·.2))).toArray⟩ : ByteArray) = s from ba_ext (by rw [HJ.out.2])] at CJ
  have W4 : ∃ (rx ry rg : Int), spanV (toldB b c) = (rx, ry, rg) ∧ ((0 ≤ b ∧ b < c ∧ c ≤ 40320 ∧ rx = b ∧ ry = c ∧ rg = 0) ∨ (b < 0 ∧ rx = 0 ∧ ry = 0 ∧ (rg != 0) = true) ∨ (0 ≤ b ∧ ¬ b < c ∧ rx = 0 ∧ ry = 0 ∧ (rg != 0) = true) ∨ (0 ≤ b ∧ b < c ∧ ¬ c ≤ 40320 ∧ rx = 0 ∧ ry = 0 ∧ (rg != 0) = true)) := by
    rcases HW.out with ⟨h1, h2, h3, h4⟩ | ⟨h1, g, h4, h5⟩
    · exact ⟨b, c, 0, h4, .inl ⟨h1, h2, h3, rfl, rfl, rfl⟩⟩
    · refine ⟨0, 0, g, h4, .inr ?_⟩
      by_cases q1 : b < 0
      · exact .inl ⟨q1, rfl, rfl, h5⟩
      · by_cases q2 : b < c
        · exact .inr (.inr ⟨by omega, q2, by omega, rfl, rfl, h5⟩)
        · exact .inr (.inl ⟨by omega, q2, rfl, rfl, h5⟩)
  obtain ⟨rx, ry, rg, hsp, W4⟩ := W4
  rw [hsp] at C8
  generalize toldB b c = t2 at C7 C8
  clear hsp HW
  go_enter Tryd.func5, Tryd.ntmps5
  go_wp2_with (go_at_call 9; (with_reducible refine (C1 _).mono ?_); rintro e w1 ⟨v1, rfl, ho1, hb1⟩; obtain ⟨hc1', hf1⟩ := bcell hb1; have hz1' := hb1.size; (try simp at hz1'); have hlt1 : w.heap.size < w1.heap.size := (by omega); have L1 := L0.below hb1; obtain ⟨A1, c1', rfl, hrd1⟩ := ho1.read; have R1 := Lib.hid hrd1; rw [HN1.out]; clear hrd1 ho1)
  have k0 : w1.cell? ⟨w.heap.size, 0, none⟩ = some (.int .i64 b) := by rw [hc1' _ _ (by simp)]; simp
  have k1 : w1.cell? ⟨w.heap.size, 1, none⟩ = some (.int .i64 c) := by rw [hc1' _ _ (by simp)]; simp
  have HB1 := Lib.hid (b_cl ((Below.refl _ _).alloc (Nat.le_refl _) (.cells #[.int .i64 b, .int .i64 c] 36)) (Nat.le_refl _) hb1)
  clear hc1' hf1 hb1 C1
  go_loopw [10, 31] (fun tv i wr => ∃ (k : Nat) (u : Value), k ≤ n1 ∧ i = .int .i64 k ∧ u = tv ∧ Hid (OwnT w1.heap.size wr u ((l.take k).map (·.2))) ∧ Below w1.heap.size w1 wr) (fun _ i _ => n1 - (intOf i).toNat)
  case atStart => exact ⟨0, _, Nat.zero_le _, rfl, rfl, Lib.hid (OwnT.nil _ _), Below.refl _ _⟩
  case round =>
    obtain ⟨k, u, hk, rfl, rfl, HO, hb⟩ := hrel
    have hwz := hb.size
    by_cases hlt : k < n1
    · obtain ⟨b1, off, x, t, rfl, hbb, q1, q2, hs1⟩ := R1.out.at_ (k := k) (by rw [HN1.out]; exact hlt)
      rw [← hb.cell (p := ⟨b1, _, none⟩) hbb] at q1 q2
      have hbr : b1 < wr.heap.size := by omega
      have hkl : k < l.length := by rw [HN1.out]; exact hlt
      have hmem : (x, t) ∈ l := by
        have e := hs1.out
        rw [List.getD_eq_getElem?_getD, List.getElem?_eq_getElem hkl] at e
        simp only [Option.getD_some] at e
        rw [← e]
        exact List.getElem_mem hkl
      obtain ⟨p1, p2⟩ := HJ.out.1 _ hmem
      simp only [] at p1 p2
      have HM : Hid ((l.take (k + 1)).map (·.2) = (l.take k).map (·.2) ++ [t]) := Lib.hid (by
        have e := hs1.out
        rw [List.getD_eq_getElem?_getD, List.getElem?_eq_getElem hkl] at e
        simp only [Option.getD_some] at e
        rw [List.take_succ_eq_append_getElem hkl, List.map_append, e]
        rfl)
      have hnb : ((l.take k).map (·.2)).length ≤ 3000 := by rw [List.length_map, List.length_take]; omega
      have d1 : decide ((x : Int) < 0) = false := decide_eq_false (by omega)
      have d2 : decide ((s.size : Int) - (t.size : Int) < (x : Int)) = false := decide_eq_false (by omega)
      have z2 := wrap_of (n := (s.size : Int) - (t.size : Int)) (by omega) (by omega)
      have z3 := wrap_of (n := (x : Int) + (t.size : Int)) (by omega) (by omega)
      have r1 : ∀ W : World, (Instr.slice 9 (.string s) (some (.int .i64 (x : Int))) (some (.int .i64 ((x : Int) + (t.size : Int)))) none).run Tryd.prog W = .ok (.string t) W := fun W => by
        have h := run_slice_string (P := Tryd.prog) (w := W) 9 s .i64 .i64 (x : Int) ((x : Int) + (t.size : Int)) Tryd.underlying9 (by omega) (by omega) (by omega)
        rw [show ((x : Int)).toNat = x by omega, show ((x : Int) + (t.size : Int)).toNat = x + t.size by omega, p2] at h
        exact h
      have hne : (t.toList == t.toList) = true := by simp
      clear p1 p2 hmem
      go_wp2_with (at_builtin; refine wpList_append_own _ rfl _ _ 23 rfl w1.heap.size 9 i0 (.string ⟨#[]⟩) 1 16 Tryd.underlying23 hi hz0 hz1 hz2 rfl (by decide) _ _ _ rfl (World.ownsRow.alloc (World.ownsRow.alloc HO.out _) _) ⟨wr.heap.size + 1, 0, none⟩ 1 1 [.string t] rfl rfl (text_news (by simp)) text_cells (by unfold maxLen; omega) (by omega) (by simp; omega) ?_; intro v5 w5 hown5 hgrow5 _; have HS := Lib.hid (OwnT.snoc hown5); have HG := grown_two hgrow5 (fun q hq => World.ownsRow.lt HO.out q hq) (by omega); obtain ⟨g1, g2, g3⟩ := HG; have y0 : w5.cell? ⟨wr.heap.size, 0, none⟩ = some (.int .i64 (x : Int)) := (by simp [World.cell?, g1]); have y1 : w5.cell? ⟨wr.heap.size, 1, none⟩ = some (.string t) := (by simp [World.cell?, g1]); have HB5 := Lib.hid (hb.trans g2); clear hown5 hgrow5 g1 g2)
      go_quiet (fail)
      go_wp2
      go_roundw
      case rel => exact ⟨k + 1, _, by omega, by go_num, rfl, Lib.hid (by rw [HM.out]; exact HS.out), by (repeat (first | assumption | exact Below.refl _ _ | (refine b_st ?_ (by first | (simp; done) | (simp; omega))) | (refine b_al ?_ (Nat.le_refl _) _) | refine b_dn ?_ | refine b_dr ?_ | (refine b_cl ?_ (Nat.le_refl _) (by assumption))); exact HB5.out)⟩
      case measure => simp [intOf]; omega
    · obtain rfl : k = n1 := by omega
      have HO2 : Hid (OwnT w1.heap.size wr u (l.map (·.2))) := Lib.hid (by have h := HO.out; rw [List.take_of_length_le (by rw [HN1.out]; exact Nat.le_refl _)] at h; exact h)
      obtain ⟨A5, c5, hu, hr5, _⟩ := HO2.out.read
      subst hu
      rw [show (l.map (·.2)).length = k by rw [List.length_map]; exact HN1.out]
      have R5 := Lib.hid hr5
      have m0 := c_cl k0 hb
      have m1 := c_cl k1 hb
      have hltr : w.heap.size < wr.heap.size := by omega
      have Lr := L1.below hb
      have HBr := b_cl HB1.out (Nat.le_refl _) hb
      clear hr5 hb
      rcases W4 with ⟨c1, c2, c3, rfl, rfl, rfl⟩ | ⟨c1, rfl, rfl, c4⟩ | ⟨c1, c2, rfl, rfl, c4⟩ | ⟨c1, c2, c3, rfl, rfl, c4⟩
      · go_wp2_with (first
          | (go_at_call 20; (with_reducible refine (CJ _ _ _ R5.out).mono ?_); rintro e w4 ⟨rfl, hb4⟩; obtain ⟨hc4, hf4⟩ := bcell hb4; have hz4 := hb4.size; (try simp at hz4); have : w.heap.size < w4.heap.size := (by omega); have L4 := Lr.below hb4)
          | (go_at_call 16; (with_reducible refine (C5 _ L4).mono ?_); rintro e w5 ⟨rfl, hb5⟩; obtain ⟨hc5, hf5⟩ := bcell hb5; have hz5 := hb5.size; (try simp at hz5); have : w.heap.size < w5.heap.size := (by omega); have L5 := L4.below hb5)
          | (go_at_call 12; (with_reducible refine (C6 _ L5).mono ?_); rintro e w6 ⟨rfl, hb6⟩; obtain ⟨hc6, hf6⟩ := bcell hb6; have hz6 := hb6.size; (try simp at hz6); have : w.heap.size < w6.heap.size := (by omega); have L6 := L5.below hb6)
          | (go_at_call 18; (with_reducible refine (C7 _ L6).mono ?_); rintro e w7 ⟨rfl, hb7⟩; obtain ⟨hc7, hf7⟩ := bcell hb7; have hz7 := hb7.size; (try simp at hz7); have : w.heap.size < w7.heap.size := (by omega); have L7 := L6.below hb7)
          | (go_at_call 14; (with_reducible refine (C8 _ L7).mono ?_); rintro e w8 ⟨rfl, hb8⟩; obtain ⟨hc8, hf8⟩ := bcell hb8; have hz8 := hb8.size; (try simp at hz8); have : w.heap.size < w8.heap.size := (by omega); have L8 : Laid6 (w8.alloc (.cells #[.int .i64 rx, .int .i64 ry] 36)) := (L7.below hb8).below ((Below.refl _ _).alloc (Nat.le_refl _) _))
          | (go_at_call 6; (with_reducible refine (C9 _ L8).mono ?_); rintro e w9 ⟨rfl, hb9⟩))
        go_ret
        refine ⟨rfl, ?_⟩
        (repeat (first | assumption | exact Below.refl _ _ | (refine b_st ?_ (by first | (simp; done) | (simp; omega))) | (refine b_al ?_ (Nat.le_refl _) _) | refine b_dn ?_ | refine b_dr ?_ | (refine b_cl ?_ (Nat.le_refl _) (by assumption))))
      · go_wp2_with (first
          | (go_at_call 20; (with_reducible refine (CJ _ _ _ R5.out).mono ?_); rintro e w4 ⟨rfl, hb4⟩; obtain ⟨hc4, hf4⟩ := bcell hb4; have hz4 := hb4.size; (try simp at hz4); have : w.heap.size < w4.heap.size := (by omega); have L4 := Lr.below hb4)
          | (go_at_call 16; (with_reducible refine (C5 _ L4).mono ?_); rintro e w5 ⟨rfl, hb5⟩; obtain ⟨hc5, hf5⟩ := bcell hb5; have hz5 := hb5.size; (try simp at hz5); have : w.heap.size < w5.heap.size := (by omega); have L5 := L4.below hb5)
          | (go_at_call 12; (with_reducible refine (C6 _ L5).mono ?_); rintro e w6 ⟨rfl, hb6⟩; obtain ⟨hc6, hf6⟩ := bcell hb6; have hz6 := hb6.size; (try simp at hz6); have : w.heap.size < w6.heap.size := (by omega); have L6 := L5.below hb6)
          | (go_at_call 18; (with_reducible refine (C7 _ L6).mono ?_); rintro e w7 ⟨rfl, hb7⟩; obtain ⟨hc7, hf7⟩ := bcell hb7; have hz7 := hb7.size; (try simp at hz7); have : w.heap.size < w7.heap.size := (by omega); have L7 := L6.below hb7)
          | (go_at_call 14; (with_reducible refine (C8 _ L7).mono ?_); rintro e w8 ⟨rfl, hb8⟩; obtain ⟨hc8, hf8⟩ := bcell hb8; have hz8 := hb8.size; (try simp at hz8); have : w.heap.size < w8.heap.size := (by omega); have L8 : Laid6 (w8.alloc (.cells #[.int .i64 0, .int .i64 0] 36)) := (L7.below hb8).below ((Below.refl _ _).alloc (Nat.le_refl _) _))
          | (go_at_call 6; (with_reducible refine (C9 _ L8).mono ?_); rintro e w9 ⟨rfl, hb9⟩))
        go_ret
        refine ⟨rfl, ?_⟩
        (repeat (first | assumption | exact Below.refl _ _ | (refine b_st ?_ (by first | (simp; done) | (simp; omega))) | (refine b_al ?_ (Nat.le_refl _) _) | refine b_dn ?_ | refine b_dr ?_ | (refine b_cl ?_ (Nat.le_refl _) (by assumption))))
      · go_wp2_with (first
          | (go_at_call 20; (with_reducible refine (CJ _ _ _ R5.out).mono ?_); rintro e w4 ⟨rfl, hb4⟩; obtain ⟨hc4, hf4⟩ := bcell hb4; have hz4 := hb4.size; (try simp at hz4); have : w.heap.size < w4.heap.size := (by omega); have L4 := Lr.below hb4)
          | (go_at_call 16; (with_reducible refine (C5 _ L4).mono ?_); rintro e w5 ⟨rfl, hb5⟩; obtain ⟨hc5, hf5⟩ := bcell hb5; have hz5 := hb5.size; (try simp at hz5); have : w.heap.size < w5.heap.size := (by omega); have L5 := L4.below hb5)
          | (go_at_call 12; (with_reducible refine (C6 _ L5).mono ?_); rintro e w6 ⟨rfl, hb6⟩; obtain ⟨hc6, hf6⟩ := bcell hb6; have hz6 := hb6.size; (try simp at hz6); have : w.heap.size < w6.heap.size := (by omega); have L6 := L5.below hb6)
          | (go_at_call 18; (with_reducible refine (C7 _ L6).mono ?_); rintro e w7 ⟨rfl, hb7⟩; obtain ⟨hc7, hf7⟩ := bcell hb7; have hz7 := hb7.size; (try simp at hz7); have : w.heap.size < w7.heap.size := (by omega); have L7 := L6.below hb7)
          | (go_at_call 14; (with_reducible refine (C8 _ L7).mono ?_); rintro e w8 ⟨rfl, hb8⟩; obtain ⟨hc8, hf8⟩ := bcell hb8; have hz8 := hb8.size; (try simp at hz8); have : w.heap.size < w8.heap.size := (by omega); have L8 : Laid6 (w8.alloc (.cells #[.int .i64 0, .int .i64 0] 36)) := (L7.below hb8).below ((Below.refl _ _).alloc (Nat.le_refl _) _))
          | (go_at_call 6; (with_reducible refine (C9 _ L8).mono ?_); rintro e w9 ⟨rfl, hb9⟩))
        go_ret
        refine ⟨rfl, ?_⟩
        (repeat (first | assumption | exact Below.refl _ _ | (refine b_st ?_ (by first | (simp; done) | (simp; omega))) | (refine b_al ?_ (Nat.le_refl _) _) | refine b_dn ?_ | refine b_dr ?_ | (refine b_cl ?_ (Nat.le_refl _) (by assumption))))
      · go_wp2_with (first
          | (go_at_call 20; (with_reducible refine (CJ _ _ _ R5.out).mono ?_); rintro e w4 ⟨rfl, hb4⟩; obtain ⟨hc4, hf4⟩ := bcell hb4; have hz4 := hb4.size; (try simp at hz4); have : w.heap.size < w4.heap.size := (by omega); have L4 := Lr.below hb4)
          | (go_at_call 16; (with_reducible refine (C5 _ L4).mono ?_); rintro e w5 ⟨rfl, hb5⟩; obtain ⟨hc5, hf5⟩ := bcell hb5; have hz5 := hb5.size; (try simp at hz5); have : w.heap.size < w5.heap.size := (by omega); have L5 := L4.below hb5)
          | (go_at_call 12; (with_reducible refine (C6 _ L5).mono ?_); rintro e w6 ⟨rfl, hb6⟩; obtain ⟨hc6, hf6⟩ := bcell hb6; have hz6 := hb6.size; (try simp at hz6); have : w.heap.size < w6.heap.size := (by omega); have L6 := L5.below hb6)
          | (go_at_call 18; (with_reducible refine (C7 _ L6).mono ?_); rintro e w7 ⟨rfl, hb7⟩; obtain ⟨hc7, hf7⟩ := bcell hb7; have hz7 := hb7.size; (try simp at hz7); have : w.heap.size < w7.heap.size := (by omega); have L7 := L6.below hb7)
          | (go_at_call 14; (with_reducible refine (C8 _ L7).mono ?_); rintro e w8 ⟨rfl, hb8⟩; obtain ⟨hc8, hf8⟩ := bcell hb8; have hz8 := hb8.size; (try simp at hz8); have : w.heap.size < w8.heap.size := (by omega); have L8 : Laid6 (w8.alloc (.cells #[.int .i64 0, .int .i64 0] 36)) := (L7.below hb8).below ((Below.refl _ _).alloc (Nat.le_refl _) _))
          | (go_at_call 6; (with_reducible refine (C9 _ L8).mono ?_); rintro e w9 ⟨rfl, hb9⟩))
        go_ret
        refine ⟨rfl, ?_⟩
        (repeat (first | assumption | exact Below.refl _ _ | (refine b_st ?_ (by first | (simp; done) | (simp; omega))) | (refine b_al ?_ (Nat.le_refl _) _) | refine b_dn ?_ | refine b_dr ?_ | (refine b_cl ?_ (Nat.le_refl _) (by assumption))))

end Go.Proofs.YtohdcmahfnoofaaDoor
