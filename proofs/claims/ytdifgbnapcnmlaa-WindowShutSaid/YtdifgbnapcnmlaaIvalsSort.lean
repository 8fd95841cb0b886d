/- What Order of layer 2 returns, and that it makes memory alone; what the library's SortFunc makes of a slice of spans by it. Conditions: as each theorem says. -/
import Derived.Test.YtdifgbnapcnmlaaRows
import Derived.Test.YtdifgbnapcnmlaaBase
import Derived.Test.YtdifgbnapcnmlaaIvalsWords
import Derived.Test.YtdifgbnapcnmlaaIvalsOwn
import Derived.Test.YtdifgbnapcnmlaaShelf
import Derived.WalkKit
import Derived.WalkSpells
import Derived.WalkSmall
import Derived.Below
import Derived.Lib.Hide
import Derived.Sort.Grow
namespace Go.Proofs.Ytdifgbnapcnmlaa
open Go.RowKit

def ordv (a0 a1 b0 b1 : Int) : Int := if a0 = b0 ∧ a1 = b1 then 0 else if a0 < b0 ∨ (a0 = b0 ∧ a1 < b1) then -1 else 1

theorem order_grow (a0 a1 b0 b1 : Int) (w : World) :
    Calls Try.prog 38 #[.agg #[.int .i64 a0, .int .i64 a1], .agg #[.int .i64 b0, .int .i64 b1]] w fun e w' => e = .returned (.int .i64 (ordv a0 a1 b0 b1)) ∧ ∃ q os', w' = Sort.grow (w.drewN q) os' := by
  unfold ordv
  by_cases h0 : a0 = b0
  · obtain rfl := h0
    by_cases h1 : a1 = b1
    · obtain rfl := h1
      rw [if_pos ⟨rfl, rfl⟩]
      go_enter Try.func38, Try.ntmps38
      go_wp2
      go_ret
      exact ⟨rfl, 0, _, by rw [Sort.alloc_eq_grow, Sort.alloc_eq_grow, Sort.grow_grow]; rfl⟩
    · rw [if_neg (fun k => h1 k.2)]
      by_cases h2 : a1 < b1
      · rw [if_pos (.inr ⟨rfl, h2⟩)]
        have e1 : (a1 == b1) = false := by simpa using h1
        have e2 : ¬ a0 < a0 := by omega
        have H := Lib.hid h1
        clear h1
        go_enter Try.func38, Try.ntmps38
        go_wp2
        go_ret
        exact ⟨rfl, 0, _, by rw [Sort.alloc_eq_grow, Sort.alloc_eq_grow, Sort.grow_grow]; rfl⟩
      · rw [if_neg (by omega)]
        have e1 : (a1 == b1) = false := by simpa using h1
        have e2 : ¬ a0 < a0 := by omega
        have H := Lib.hid h1
        clear h1
        go_enter Try.func38, Try.ntmps38
        go_wp2
        go_ret
        exact ⟨rfl, 0, _, by rw [Sort.alloc_eq_grow, Sort.alloc_eq_grow, Sort.grow_grow]; rfl⟩
  · rw [if_neg (fun k => h0 k.1)]
    have e1 : (a0 == b0) = false := by simpa using h0
    by_cases h2 : a0 < b0
    · rw [if_pos (.inl h2)]
      have H := Lib.hid h0
      clear h0
      go_enter Try.func38, Try.ntmps38
      go_wp2
      go_ret
      exact ⟨rfl, 0, _, by rw [Sort.alloc_eq_grow, Sort.alloc_eq_grow, Sort.grow_grow]; rfl⟩
    · rw [if_neg (by omega)]
      have H := Lib.hid h0
      clear h0
      go_enter Try.func38, Try.ntmps38
      go_wp2
      go_ret
      exact ⟨rfl, 0, _, by rw [Sort.alloc_eq_grow, Sort.alloc_eq_grow, Sort.grow_grow]; rfl⟩

def encS (s : Sp) : List Value := [.int .i64 s.1, .int .i64 s.2]

def ordS (x y : Sp) : Int := ordv x.1 x.2 y.1 y.2

theorem ltOrd (x y : Sp) : ltOf ordS x y = decide (x.1 < y.1 ∨ (x.1 = y.1 ∧ x.2 < y.2)) := by
  unfold ltOf ordS ordv
  congr 1
  rw [eq_iff_iff]
  split
  · rename_i h; simp only [Int.lt_irrefl, false_iff]; omega
  · split
    · rename_i h; simp [h]
    · rename_i h; simp [h]

theorem swoOrd : Sort.SWO (ltOf ordS) where
  irrefl x := by rw [ltOrd]; simp
  trans x y z h1 h2 := by rw [ltOrd] at *; simp only [decide_eq_true_eq] at *; omega
  ntrans x y z h1 h2 := by rw [ltOrd] at *; simp only [decide_eq_false_iff_not] at *; omega

theorem cmpOrd (blk off size : Nat) (w : World) : CmpLays Try.prog 38 #[] encS 2 ordS blk off size w :=
  fun _ _ _ _ x y => order_grow x.1 x.2 y.1 y.2 _

theorem sort_below {base g off n : Nat} {d : Array Sp} {os : Array Obj} {w : World} (hb : base ≤ g) (hw : base ≤ w.heap.size) : Below base w (sortWorldK encS 2 w g off n d os) := by
  refine ⟨rfl, rfl, rfl, size_sortWorldK_c encS 2 w g off n d os, fun k hk => ?_⟩
  unfold sortWorldK
  rw [Sort.heap_grow_old _ _ (by rw [Sort.size_putRowK]; show k < w.heap.size; omega)]
  show (w.heap.modify g _)[k]? = _
  rw [Array.getElem?_modify, if_neg (by omega)]

set_option maxHeartbeats 1000000 in
theorem sort_any (base g c : Nat) (l : List Sp) (w : World) (h : Own base w (.slice (some ⟨g, 0, none⟩) l.length c) l) (hl : l.length ≤ 4611686018427387903) :
    Calls Try.prog 37 #[.slice (some ⟨g, 0, none⟩) l.length c, .func (.func 38) #[] #[]] w fun e w' =>
      e = .returned (.tuple #[]) ∧ ∃ d : List Sp, d.length = l.length ∧ d.Perm l ∧ d.Pairwise (fun s t => s.1 ≤ t.1) ∧ RdS w' (some ⟨g, 0, none⟩) d ∧ Below base w w' := by
  have eg : ∀ args w, (callFunc 38 args).run Try.prog w = .ok (.enter 38 args) w := enters_of Try.func38 (by kernel_rfl) rfl
  have hlt := World.ownsRow.lt h g rfl
  have hH : Sort.HoldsK encS 2 w g 0 l.toArray := by
    intro t ht
    have ht : t < l.length * 2 := by simpa using ht
    rw [Nat.zero_add, World.ownsRow.cellAt h t ht, World.ownsRow.frozenAt h t]
    refine ⟨?_, rfl⟩
    rw [Sort.get_flatK _ _ _ _ (by simpa using ht)]
    have hk : t / 2 < l.length := by omega
    have hf := flat_get l (t / 2) hk
    have hd : l.toArray[t / 2]! = l.getD (t / 2) (0, 0) := by simp [List.getD, hk]
    rw [hd]
    rcases Nat.mod_two_eq_zero_or_one t with hm | hm
    · have e : t = t / 2 * 2 := by omega
      rw [hm]
      conv => lhs; rw [e]
      rw [hf.1]; rfl
    · have e : t = t / 2 * 2 + 1 := by omega
      rw [hm]
      conv => lhs; rw [e]
      rw [hf.2]; rfl
  have hcon := AnyQ.slices_SortFunc sortL 2 Try.isAgg31 Try.sizeOf31 encS (fun _ => rfl) (fun x v hv => by simp [encS] at hv; rcases hv with rfl | rfl <;> rfl) ordS swoOrd 38 #[] g 0 c l.toArray w eg (cmpOrd g 0 _ w) hH hlt.2 (by simp; omega)
  refine hcon.mono fun e w' ⟨he, d, n, os, hp, hs, hw⟩ => ⟨he, d.toList, ?_, ?_, ?_, ?_, ?_⟩
  · have := hp.1; simpa using this
  · have h2 := hp.2.2
    have hsz := hp.1
    simp only [List.size_toArray] at hsz h2
    rw [Array.extract_eq_self_of_le (by omega), Array.extract_eq_self_of_le (by simp)] at h2
    simpa using h2
  · rw [List.pairwise_iff_getElem]
    intro i j hi hj hij
    have hsz := hp.1
    have h3 := hs i j (Nat.zero_le _) hij (by rw [← hsz]; simpa using hj)
    rw [ltOrd] at h3
    simp only [decide_eq_false_iff_not] at h3
    have hi' : i < d.size := by simpa using hi
    have hj' : j < d.size := by simpa using hj
    simp only [getElem!_pos d i hi', getElem!_pos d j hj'] at h3
    simp only [Array.getElem_toList]
    omega
  · intro _
    have hh := holdsK_sortWorldK_c encS 2 w g 0 l.toArray d n os hH hlt.2 hp.1
    refine ⟨g, 0, rfl, ?_, fun k hk => ?_⟩
    · rw [hw]; exact Nat.lt_of_lt_of_le hlt.2 (size_sortWorldK_c encS 2 w g 0 n d os)
    · have hk' : k < d.size := by simpa using hk
      have c0 := (hh.cell (c := 0) hk' (by omega)).1
      have c1 := (hh.cell (c := 1) hk' (by omega)).1
      have hd : d[k]! = d.toList.getD k (0, 0) := by simp [List.getD, hk']
      rw [hd] at c0 c1
      rw [hw]
      exact ⟨c0, c1⟩
  · rw [hw]; exact sort_below hlt.1 (Nat.le_of_lt (Nat.lt_of_le_of_lt hlt.1 hlt.2))

end Go.Proofs.Ytdifgbnapcnmlaa
