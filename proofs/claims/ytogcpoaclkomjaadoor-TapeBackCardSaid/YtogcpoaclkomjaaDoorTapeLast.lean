/- What last of layer 10 returns: what is wrong with the last one of a list of records. Conditions: the records can be read. -/
import Derived.Test.YtogcpoaclkomjaaDoorTapeLeaf
import Derived.WalkKit
import Derived.WalkSpells
import Derived.WalkSmall
import Derived.Below
import Derived.Outline
import Derived.OwnWalk
import Derived.Lib.Hide
namespace Go.Proofs.YtogcpoaclkomjaaDoor
open Go.RowKit

theorem RdR.drop {w : World} {b off : Nat} {l : List Rc} (h : RdR w (some ⟨b, off, none⟩) l) (k : Nat) : RdR w (some ⟨b, off + k * 3, none⟩) (l.drop k) := fun hne => by
  obtain ⟨b', off', hA, hb, hc⟩ := h (by rintro rfl; simp at hne)
  simp only [Option.some.injEq, Addr.mk.injEq, and_true] at hA
  obtain ⟨rfl, rfl⟩ := hA
  refine ⟨_, _, rfl, hb, fun j hj => ?_⟩
  have hj' : k + j < l.length := by rw [List.length_drop] at hj; omega
  have := hc (k + j) hj'
  have e : (l.drop k).getD j rz = l.getD (k + j) rz := by rw [List.getD_eq_getElem?_getD, List.getD_eq_getElem?_getD, List.getElem?_drop]
  have e2 : off + k * 3 + j * 3 = off + (k + j) * 3 := by omega
  rw [e, e2]
  exact this

theorem last_any (b off n c : Nat) (l : List Rc) (w : World) (hn : l.length = n) (h : RdR w (some ⟨b, off, none⟩) l) (h1 : 1 ≤ n) (hc : n ≤ c) (hl : n ≤ 1000000) :
    Calls Tryd.prog 31 #[.slice (some ⟨b, off, none⟩) n c] w fun e w' => e = .returned (.int .i64 (checkV (l.drop (n - 2))).2) ∧ Below w.heap.size w w' := by
  obtain ⟨k, hk⟩ : ∃ k : Nat, k = n - 2 := ⟨_, rfl⟩
  have hm : max ((n : Int) - 2) 0 = (k : Int) := by omega
  have k1 : (k : Int) ≤ (n : Int) := by omega
  have hne : ¬ c = k := by omega
  rw [← hk]
  clear hk
  have hd : (l.drop k).length = n - k := by rw [List.length_drop]; omega
  have CC := fun W (hr : RdR W (some ⟨b, off + k * 3, none⟩) (l.drop k)) => rcheck_any (some ⟨b, off + k * 3, none⟩) (c - k) (l.drop k) W hr (by omega)
  rw [hd] at CC
  have HR := Lib.hid (h.drop k)
  generalize (checkV (l.drop k)).1 = pl at CC
  generalize (checkV (l.drop k)).2 = er at CC ⊢
  have k0 : (0 : Int) ≤ (k : Int) := by omega
  have k2 : (k : Int) ≤ (c : Int) := by omega
  have c1 : (n : Int) ≤ (c : Int) := by omega
  clear hd h
  go_enter Tryd.func31, Tryd.ntmps31
  go_wp2_with (go_at_call 16; (with_reducible refine (CC _ ?_).mono ?_); (focus exact HR.out); rintro e w1 ⟨rfl, hb1⟩)
  go_ret
  exact ⟨rfl, hb1⟩

end Go.Proofs.YtogcpoaclkomjaaDoor
