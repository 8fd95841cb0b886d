/- What Find of layer 15 returns, and the document's own Name, Article and Find. Conditions: the table of the clauses' names and articles reads as the program lays it. -/
import Derived.Test.YtdepglceffpfhaaDoorClauseLeaf
import Derived.Laws.Rows
namespace Go.Proofs.YtdepglceffpfhaaDoor
open Go.RowKit

theorem wpList_load_tv {ops : Array Oper} {rest : List Oper} {o : Oper} {a : Act} {w : World} {Q : Exit → Act → World → Prop} (hgd : Region.wanted o (yielded ops a.tmps) = true) (y : Operand) (ho : o.op = .load 50 y)
    (hx : a.eval y = .pointer (some ⟨0, 0, none⟩)) (hT : Titles w) {V : Array Value} (hV : Hid (tvL.toArray = V)) (h : wpList Tryd.prog ops Q rest (a.put o.dst (.agg V)) w) : wpList Tryd.prog ops Q (o :: rest) a w :=
  wpList_step fun K hK => by
    rw [if_pos hgd]
    exact wp_load_mid 50 y ho _ 0 hx tvL _ hT.range Tryd.underlying50 rfl (by rw [tv_len]; exact size_titles) (hK _ _ (by rw [hV.out]; exact h))

set_option maxHeartbeats 1000000 in
theorem find15_any (s : ByteArray) (w : World) (hT : Titles w) :
    Calls Tryd.prog 9 #[.string s] w fun e w' => e = .returned (match findN s with | some k => .tuple #[.int .i64 (k : Nat), .int .i64 0] | none => .tuple #[.int .i64 0, .int .i64 13]) ∧ Below w.heap.size w w' := by
  have CX := index_titles
  obtain ⟨V, hV⟩ : ∃ V, tvL.toArray = V := ⟨_, rfl⟩
  rw [hV] at CX
  have HV := Lib.hid hV
  have HT := Lib.hid hT
  obtain ⟨R, hR⟩ : ∃ R : Value, (match findN s with | some k => Value.tuple #[.int .i64 (k : Nat), .int .i64 0] | none => .tuple #[.int .i64 0, .int .i64 13]) = R := ⟨_, rfl⟩
  have HR := Lib.hid hR
  rw [hR]
  clear hV hR hT
  go_enter Tryd.func9, Tryd.ntmps9
  go_wp2_with (refine wpList_load_tv (by rfl) _ rfl rfl HT.out HV ?_)
  go_loopw [7] (fun i wr => ∃ k : Nat, k ≤ 16 ∧ i = .int .i64 k ∧ Below w.heap.size w wr ∧ Hid (∀ j, j < k → nmB j ≠ s)) (fun i _ => 16 - (intOf i).toNat)
  case atStart => exact ⟨0, Nat.zero_le _, rfl, Below.refl _ _, Lib.hid (by omega)⟩
  case round =>
    obtain ⟨k, hk, rfl, hb, hn⟩ := hrel
    have hsz := hb.size
    by_cases hlt : k < 16
    · have CI := CX k hlt
      clear CX
      have k0 : (0 : Int) ≤ (k : Int) := by omega
      have k1 : (k : Int) < 16 := by omega
      by_cases he : nmB k = s
      · have HE := Lib.hid he
        have t1 := (Lib.bytes_beq_iff (nmB k) s).2 he
        generalize nmB k = a at CI t1
        generalize arB k = b at CI
        clear he
        go_wp2
        go_ret2
        have hf := fnd_at hlt HE.out
        have := HR.out
        rw [hf] at this
        refine ⟨by rw [← this]; rfl, ?_⟩
        (repeat (first | assumption | exact Below.refl _ _ | (refine b_st ?_ (by first | (simp; done) | (simp; omega))) | (refine b_al ?_ (Nat.le_refl _) _) | refine b_dn ?_ | refine b_dr ?_ | (refine b_cl ?_ (Nat.le_refl _) (by assumption))))
      · have HE := Lib.hid he
        have t1 := (Lib.bytes_beq_false_iff (nmB k) s).2 he
        generalize nmB k = a at CI t1
        generalize arB k = b at CI
        clear he
        go_wp2
        go_roundw
        case rel => exact ⟨k + 1, by omega, by go_num, hb.alloc hsz _, Lib.hid (fun j hj => by
          by_cases e : j = k
          · subst e; exact HE.out
          · exact hn.out j (by omega))⟩
        case measure => simp [intOf]; omega
    · obtain rfl : k = 16 := by omega
      clear CX
      go_wp2
      go_ret2
      have hf := fnd_no hn.out
      have := HR.out
      rw [hf] at this
      exact ⟨by rw [← this]; rfl, hb⟩

theorem nm_cell (w : World) (T : TypeId) : ∀ k, k < 16 → (w.alloc (.cells #[.string ⟨#[98, 114, 101, 97, 107]⟩, .string ⟨#[108, 111, 110, 103, 101, 114]⟩, .string ⟨#[108, 111, 110, 103, 101, 114, 115]⟩, .string ⟨#[119, 101, 101, 107]⟩, .string ⟨#[102, 111, 114, 116, 110, 105, 103, 104, 116]⟩, .string ⟨#[100, 97, 105, 108, 121]⟩, .string ⟨#[114, 101, 100, 117, 99, 101, 115]⟩, .string ⟨#[119, 101, 101, 107, 108, 121]⟩, .string ⟨#[98, 114, 105, 101, 102]⟩, .string ⟨#[108, 97, 98, 111, 117, 114]⟩, .string ⟨#[100, 114, 105, 118, 101]⟩, .string ⟨#[119, 111, 114, 107]⟩, .string ⟨#[111, 112, 101, 110]⟩, .string ⟨#[115, 101, 114, 118, 101]⟩, .string ⟨#[108, 101, 102, 116]⟩, .string ⟨#[108, 111, 97, 100]⟩] T)).cell? ⟨w.heap.size, k, none⟩ = some (.string (nmB k)) := by
  intro k hk
  rw [cell_of_row _ _ _ _ _ _ (heap_alloc_new w _)]
  have : k = 0 ∨ k = 1 ∨ k = 2 ∨ k = 3 ∨ k = 4 ∨ k = 5 ∨ k = 6 ∨ k = 7 ∨ k = 8 ∨ k = 9 ∨ k = 10 ∨ k = 11 ∨ k = 12 ∨ k = 13 ∨ k = 14 ∨ k = 15 := by omega
  rcases this with rfl | rfl | rfl | rfl | rfl | rfl | rfl | rfl | rfl | rfl | rfl | rfl | rfl | rfl | rfl | rfl <;> rfl

theorem refnm_yes (k : Nat) (w : World) (hk : k < 16) :
    Calls Tryd.prog 11 #[.int .i64 (k : Nat)] w fun e w' => e = .returned (.string (nmB k)) ∧ Below w.heap.size w w' := by
  have q := nm_cell w 9 k hk
  have k0 : ¬ (k : Int) < 0 := by omega
  have k1 : (k : Int) < 16 := by omega
  have k2 : (0 : Int) ≤ (k : Int) := by omega
  generalize nmB k = a at q
  go_enter Tryd.func11, Tryd.ntmps11
  go_wp2
  go_ret
  exact ⟨rfl, (Below.refl _ _).alloc (Nat.le_refl _) _⟩

theorem refnm_any (c : Int) (w : World) :
    Calls Tryd.prog 11 #[.int .i64 c] w fun e w' => e = .returned (.string (nameV c)) ∧ Below w.heap.size w w' := by
  by_cases h : isC c
  · obtain ⟨k, hk, rfl⟩ := isC_of h
    rw [name_yes hk]
    exact refnm_yes k w hk
  · rw [name_no h]
    by_cases h0 : c < 0
    · clear h
      go_enter Tryd.func11, Tryd.ntmps11
      go_wp2
      go_ret
      exact ⟨rfl, (Below.refl _ _).alloc (Nat.le_refl _) _⟩
    · have h1 : 16 ≤ c := by
        rcases Int.lt_or_le c 16 with h2 | h2
        · exact absurd ⟨by omega, h2⟩ h
        · exact h2
      clear h
      go_enter Tryd.func11, Tryd.ntmps11
      go_wp2
      go_ret
      exact ⟨rfl, (Below.refl _ _).alloc (Nat.le_refl _) _⟩

theorem ar_cell (w : World) (T : TypeId) : ∀ k, k < 16 → (w.alloc (.cells #[.string ⟨#[55]⟩, .string ⟨#[54, 40, 49, 41]⟩, .string ⟨#[54, 40, 49, 41]⟩, .string ⟨#[54, 40, 50, 41]⟩, .string ⟨#[54, 40, 51, 41]⟩, .string ⟨#[56, 40, 50, 41]⟩, .string ⟨#[56, 40, 52, 41]⟩, .string ⟨#[56, 40, 54, 41]⟩, .string ⟨#[56, 40, 54, 41]⟩, .string ⟨#[68, 52]⟩, .string ⟨#[82, 49]⟩, .string ⟨#[82, 49]⟩, .string ⟨#[82, 50]⟩, .string ⟨#[82, 51]⟩, .string ⟨#[82, 52]⟩, .string ⟨#[82, 53]⟩] T)).cell? ⟨w.heap.size, k, none⟩ = some (.string (arB k)) := by
  intro k hk
  rw [cell_of_row _ _ _ _ _ _ (heap_alloc_new w _)]
  have : k = 0 ∨ k = 1 ∨ k = 2 ∨ k = 3 ∨ k = 4 ∨ k = 5 ∨ k = 6 ∨ k = 7 ∨ k = 8 ∨ k = 9 ∨ k = 10 ∨ k = 11 ∨ k = 12 ∨ k = 13 ∨ k = 14 ∨ k = 15 := by omega
  rcases this with rfl | rfl | rfl | rfl | rfl | rfl | rfl | rfl | rfl | rfl | rfl | rfl | rfl | rfl | rfl | rfl <;> rfl

theorem refar_yes (k : Nat) (w : World) (hk : k < 16) :
    Calls Tryd.prog 12 #[.int .i64 (k : Nat)] w fun e w' => e = .returned (.string (arB k)) ∧ Below w.heap.size w w' := by
  have q := ar_cell w 9 k hk
  have k0 : ¬ (k : Int) < 0 := by omega
  have k1 : (k : Int) < 16 := by omega
  have k2 : (0 : Int) ≤ (k : Int) := by omega
  generalize arB k = a at q
  go_enter Tryd.func12, Tryd.ntmps12
  go_wp2
  go_ret
  exact ⟨rfl, (Below.refl _ _).alloc (Nat.le_refl _) _⟩

theorem refar_any (c : Int) (w : World) :
    Calls Tryd.prog 12 #[.int .i64 c] w fun e w' => e = .returned (.string (artV c)) ∧ Below w.heap.size w w' := by
  by_cases h : isC c
  · obtain ⟨k, hk, rfl⟩ := isC_of h
    rw [art_yes hk]
    exact refar_yes k w hk
  · rw [art_no h]
    by_cases h0 : c < 0
    · clear h
      go_enter Tryd.func12, Tryd.ntmps12
      go_wp2
      go_ret
      exact ⟨rfl, (Below.refl _ _).alloc (Nat.le_refl _) _⟩
    · have h1 : 16 ≤ c := by
        rcases Int.lt_or_le c 16 with h2 | h2
        · exact absurd ⟨by omega, h2⟩ h
        · exact h2
      clear h
      go_enter Tryd.func12, Tryd.ntmps12
      go_wp2
      go_ret
      exact ⟨rfl, (Below.refl _ _).alloc (Nat.le_refl _) _⟩

set_option maxHeartbeats 1000000 in
theorem reffind15_any (s : ByteArray) (w : World) :
    Calls Tryd.prog 13 #[.string s] w fun e w' => e = .returned (.int .i64 (findV s)) ∧ Below w.heap.size w w' := by
  obtain ⟨R, hR⟩ : ∃ R, findV s = R := ⟨_, rfl⟩
  have HR := Lib.hid hR
  rw [hR]
  clear hR
  go_enter Tryd.func13, Tryd.ntmps13
  go_wp2
  go_loopw [3] (fun i wr => ∃ k : Nat, k ≤ 16 ∧ i = .int .i64 k ∧ Below w.heap.size w wr ∧ Hid (∀ j, j < k → nmB j ≠ s)) (fun i _ => 16 - (intOf i).toNat)
  case atStart => exact ⟨0, Nat.zero_le _, rfl, Below.refl _ _, Lib.hid (by omega)⟩
  case round =>
    obtain ⟨k, hk, rfl, hb, hn⟩ := hrel
    have hsz := hb.size
    by_cases hlt : k < 16
    · have CN := fun W => refnm_yes k W hlt
      by_cases he : nmB k = s
      · have HE := Lib.hid he
        have t1 := (Lib.bytes_beq_iff (nmB k) s).2 he
        generalize nmB k = a at CN t1
        clear he
        go_wp2_with (go_at_call 11; (with_reducible refine (CN _).mono ?_); rintro e w2 ⟨rfl, hb2⟩)
        go_ret
        refine ⟨by rw [← HR.out, fnd_some (fnd_at hlt HE.out)]; rfl, b_cl hb (Nat.le_refl _) hb2⟩
      · have HE := Lib.hid he
        have t1 := (Lib.bytes_beq_false_iff (nmB k) s).2 he
        generalize nmB k = a at CN t1
        clear he
        go_wp2_with (go_at_call 11; (with_reducible refine (CN _).mono ?_); rintro e w2 ⟨rfl, hb2⟩)
        go_roundw
        case rel => exact ⟨k + 1, by omega, by go_num, b_cl hb (Nat.le_refl _) hb2, Lib.hid (fun j hj => by
          by_cases e : j = k
          · subst e; exact HE.out
          · exact hn.out j (by omega))⟩
        case measure => simp [intOf]; omega
    · obtain rfl : k = 16 := by omega
      go_wp2
      go_ret
      exact ⟨by rw [← HR.out, fnd_none (fnd_no hn.out)]; rfl, hb⟩

end Go.Proofs.YtdepglceffpfhaaDoor
