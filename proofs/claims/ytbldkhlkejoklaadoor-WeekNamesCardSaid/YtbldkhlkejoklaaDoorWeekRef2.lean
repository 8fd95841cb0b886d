/- What the document's own Name of layer 4 returns, for any number of 64 bits. Conditions: none. -/
import Derived.Test.YtbldkhlkejoklaaDoorWeekRef
import Derived.Test.YtbldkhlkejoklaaDoorWeekName2
namespace Go.Proofs.YtbldkhlkejoklaaDoor
open Go.RowKit

theorem refname_form {m d q h mi : Int} {k : Nat} (hdd : m / 1440 = d) (hq : d / 7 = q) (hk : d % 7 = (k : Int)) (hh : m / 60 % 24 = h) (hmi : m % 60 = mi) :
    nameB m = ⟨#[UInt8.ofNat (49 + q).toNat, 32, (dayC k).1, (dayC k).2.1, (dayC k).2.2, 32, dg (h / 10), dg (h % 10), 58, dg (mi / 10), dg (mi % 10)]⟩ := by
  have e1 : m / 1440 % 7 = (k : Int) := by omega
  have e2 : m / 10080 + 1 = q + 1 := by omega
  have e3 : 48 + (q + 1) = 49 + q := by omega
  unfold nameB
  rw [e1, hh, hmi, e2]
  unfold dg
  rw [e3]
  rfl

set_option maxHeartbeats 1000000 in
theorem refname_walk (m d q h mi : Int) (k : Nat) (w : World) (hm0 : 0 ≤ m) (hm1 : m ≤ 40320) (hdd : m / 1440 = d) (hq : d / 7 = q) (hk : d % 7 = (k : Int)) (hh : m / 60 % 24 = h) (hmi : m % 60 = mi) :
    Calls Tryd.prog 15 #[.int .i64 m] w fun e w' => e = .returned (.tuple #[.string (nameB m), .int .i64 0]) ∧ Below w.heap.size w w' := by
  have b1 : 0 ≤ q := by omega
  have b2 : q ≤ 4 := by omega
  have b3 : k < 7 := by omega
  have b4 : 0 ≤ h := by omega
  have b5 : h ≤ 23 := by omega
  have b6 : 0 ≤ mi := by omega
  have b7 : mi ≤ 59 := by omega
  have b8 : 0 ≤ d := by omega
  have b9 : d ≤ 28 := by omega
  have DA := refdays_at k b3
  go_enter Tryd.func15, Tryd.ntmps15
  go_wp2
  rw [DA]
  have K1 : ∀ (W : World) (N : Nat), W.cell? ⟨N, 0, none⟩ = some (.int .u8 (49 + q)) → (convert 44 9 (.slice (some ⟨N, 0, none⟩) 1 1)).run Tryd.prog W = .ok (.string ⟨#[UInt8.ofNat (49 + q).toNat]⟩) W := fun W N h => conv1 W N _ h
  have x1 : IntKind.i64.wrap (d.tdiv 7) = q := by rw [Int.tdiv_eq_ediv_of_nonneg b8, hq]; exact IntWalk.i64_in _ (by omega)
  have x2 : IntKind.i64.wrap (49 + q) = 49 + q := IntWalk.i64_in _ (by omega)
  have x3 : IntKind.u8.wrap (49 + q) = 49 + q := by unfold IntKind.wrap; simp [IntKind.bits, IntKind.signed]; omega
  have x4 : IntKind.i64.wrap (m.tdiv 60) = m / 60 := by rw [Int.tdiv_eq_ediv_of_nonneg hm0]; exact IntWalk.i64_in _ (by omega)
  have x5 : (m / 60).tmod 24 = h := by rw [Int.tmod_eq_emod_of_nonneg (by omega), hh]
  have x6 : m.tmod 60 = mi := by rw [Int.tmod_eq_emod_of_nonneg hm0, hmi]
  have T1 := fun W => reftwo_dig h W b4 (by omega)
  have T2 := fun W => reftwo_dig mi W b6 (by omega)
  have EN := Lib.hid (refname_form hdd hq hk hh hmi)
  clear hq hk hh hmi DA
  go_region_with (first
    | (go_at_call 26; (with_reducible refine (T1 _).mono ?_); rintro e w1 ⟨rfl, hb1⟩; obtain ⟨hc1, hf1⟩ := bcell hb1; have hz1 := hb1.size; (try simp at hz1); (try (have hl1 : w.heap.size < w1.heap.size := (by omega))))
    | (go_at_call 26; (with_reducible refine (T2 _).mono ?_); rintro e w2 ⟨rfl, hb2⟩; obtain ⟨hc2, hf2⟩ := bcell hb2; have hz2 := hb2.size; (try simp at hz2); (try (have hl2 : w.heap.size < w2.heap.size := (by omega)))))
  all_goals
    go_simp
    go_wp2
    go_ret2
    refine ⟨?_, ?_⟩
    · rw [EN.out, ← join_name]
      rfl
    · (repeat (first | exact Below.refl _ _ | (refine b_st ?_ (by first | (simp; done) | (simp; omega))) | (refine b_al ?_ (Nat.le_refl _) _) | refine b_dn ?_ | refine b_dr ?_ | (refine b_cl ?_ (Nat.le_refl _) (by assumption))))

end Go.Proofs.YtbldkhlkejoklaaDoor
