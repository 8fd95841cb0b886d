/- The reference's way to the set of a list: from one begin to the next, as far as the minutes go on. Conditions: none beyond each lemma's own premises. -/
import Derived.Test.YtiamnbddbmgffaaGreatDoorP7
namespace Go.Proofs.YtiamnbddbmgffaaGreatDoor
set_option linter.unusedVariables false
theorem take_more {α:Type} [Inhabited α] (l:List α) (d:α) (k:Nat) (h:k < l.length):l.take (k + 1) = l.take k ++ [l.getD k d]:=by
 rw [List.take_succ_eq_append_getElem h]; simp [List.getD,h]
theorem getD_mem {l:List Sp} {k:Nat} (h:k < l.length):l.getD k (0,0) ∈ l:=by
 simp [List.getD,h]
theorem hasL_of (l:List Sp) (m:Int) (k:Nat) (h:k < l.length) (hm:(l.getD k (0,0)).1 <= m /\ m < (l.getD k (0,0)).2):hasL l m = true :=
 hasL_iff.2 ⟨_,getD_mem h,hm⟩
theorem hasL_not (l:List Sp) (m:Int) (k:Nat) (h:k < l.length) (hm:¬ ((l.getD k (0,0)).1 <= m /\ m < (l.getD k (0,0)).2)) (hn:∀ s ∈ l.take k,¬ (s.1 <= m /\ m < s.2)) :
  ∀ s ∈ l.take (k + 1),¬ (s.1 <= m /\ m < s.2):=by
 rw [take_more l (0,0) k h];intro s hs
 rcases List.mem_append.1 hs with hs | hs
 ·exact hn s hs
 ·rw [List.mem_singleton.1 hs]; exact hm
end Go.Proofs.YtiamnbddbmgffaaGreatDoor
