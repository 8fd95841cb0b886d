/- Texts of the proofs of VerdictAudits, VerdictAll, VerdictRising, pressed: DutyDoc, DutyRefL, RecKinds, DutyBds, IvalsOwn, OwnMore. Conditions: as each theorem says. -/
import Derived.Test.YtiamnbddbmgffaaGreatDoorRows
import Derived.Test.YtiamnbddbmgffaaGreatDoorP40
namespace Go.Proofs.YtiamnbddbmgffaaGreatDoor
open Go.RowKit
set_option linter.unusedVariables false
def docLast (L:List (Int × Int)) (long c:Int):Int:=L.foldl (fun a q=>if long <= q.2 - q.1 /\ q.2 <= c then q.2 else a) 0
def docBrk (x:Nat -> Int) (L:List (Int × Int)):Int × Bool:=L.foldl (fun s q=>if x 1 <= q.2 - q.1 ∨ (s.2 = true /\ x 3 <= q.2 - q.1) then (q.2,false) else if x 2 <= q.2 - q.1 then (s.1,true) else s) (0,false)
def partB (x:Nat -> Int) (dawn:Int) (p:Int × Int):Bool:=decide (dawn <= p.1) && (decide (x 10 <= p.2 - p.1) && decide (p.2 - p.1 < x 8))
def docRed (x:Nat -> Int) (L:List (Int × Int)) (k:Nat):Bool :=
 let q:=L.getD k (0,0)
 let dawn:=docLast L (x 8) q.1
 decide (x 8 <= q.2 - q.1) && (decide (q.2 - q.1 < x 13) && (!((L.take k).any (partB x dawn)) && decide (min q.2 (dawn + x 11) - q.1 < x 7)))
def redB (x:Nat -> Int) (L:List (Int × Int)) (sab:Int) (k:Nat):Bool:=decide (sab < (L.getD k (0,0)).2) && docRed x L k
def docRedN (x:Nat -> Int) (L:List (Int × Int)) (sab:Int):Nat -> Int
 | 0=>0
 | j + 1=>docRedN x L sab j + if redB x L sab j then 1 else 0
def briefB (x:Nat -> Int) (ahead:Int) (p:Int × Int):Bool:=decide (0 < ahead) && (p.2 == ahead && decide (p.2 - p.1 < x 12))
def docLongF (x:Nat -> Int) (ks:List Int) (L:List (Int × Int)) (from_:Int):Int × Int :=
 L.foldl (fun s q=>if q.2 <= from_ ∨ q.2 - q.1 < x 8 then s else (q.2,s.2 + if x 4 < cntK ks 3 3 s.1 q.2.toNat then 1 else 0)) (from_,0)
theorem last_snoc (L:List (Int × Int)) (q:Int × Int) (long c:Int):docLast (L ++ [q]) long c = if long <= q.2 - q.1 /\ q.2 <= c then q.2 else docLast L long c:=by unfold docLast; rw [List.foldl_append]; rfl
theorem brk_snoc (x:Nat -> Int) (L:List (Int × Int)) (q:Int × Int):docBrk x (L ++ [q]) = if x 1 <= q.2 - q.1 ∨ ((docBrk x L).2 = true /\ x 3 <= q.2 - q.1) then (q.2,false) else if x 2 <= q.2 - q.1 then ((docBrk x L).1,true) else docBrk x L:=by unfold docBrk; rw [List.foldl_append]; rfl
theorem long_snoc (x:Nat -> Int) (ks:List Int) (L:List (Int × Int)) (q:Int × Int) (fr:Int):docLongF x ks (L ++ [q]) fr = if q.2 <= fr ∨ q.2 - q.1 < x 8 then docLongF x ks L fr else (q.2,(docLongF x ks L fr).2 + if x 4 < cntK ks 3 3 (docLongF x ks L fr).1 q.2.toNat then 1 else 0):=by unfold docLongF; rw [List.foldl_append]; rfl
theorem Lk.cut {E:List (Int × Int)} {q:Int × Int} {hi:Int} (h:Lk (E ++ [q]) hi):Lk E q.1 /\ 0 <= q.1 /\ q.1 < q.2 /\ q.2 < hi:=by
 have hq:=h.each q (by simp);have hp:=List.pairwise_append.1 h.ord;refine ⟨⟨fun p hp'=>?_,hp.1⟩,hq⟩;have h1:=h.each p (by simp [hp']);have h2:=hp.2.2 p hp' q (by simp);omega
theorem fin_dawn (x:Nat -> Int) (ks:List Int) (s:Ef) (q:Int × Int):(s.fin x ks q).dawn = if x 8 <= q.2 - q.1 then q.2 else s.dawn:=by
 show (if (s.worth x q).daily = true then q.2 else s.dawn) = _
 unfold Ef.worth ofV ofW lastB;simp only [decide_eq_true_eq]
theorem fin_sab (x:Nat -> Int) (ks:List Int) (s:Ef) (q:Int × Int):(s.fin x ks q).sab = if x 13 <= q.2 - q.1 then q.2 else s.sab:=by
 show (if (s.worth x q).weekly = true then q.2 else s.sab) = _
 unfold Ef.worth ofV ofW lastB;simp only [decide_eq_true_eq]
theorem last_is (x:Nat -> Int) (ks:List Int) (L:List (Int × Int)):∀ c:Int,(∀ q ∈ L,q.2 <= c) -> docLast L (x 8) c = (EF x ks L).dawn /\ docLast L (x 13) c = (EF x ks L).sab:=by
 refine snoc_ind16 (P:=fun L=>∀ c:Int,(∀ q ∈ L,q.2 <= c) -> docLast L (x 8) c = (EF x ks L).dawn /\ docLast L (x 13) c = (EF x ks L).sab) ?_ ?_ L
 ·intro c _; exact ⟨rfl,rfl⟩
 ·intro L q ih c h
  obtain ⟨i1,i2⟩:=ih c fun p hp=>h p (by simp [hp])
  have hq:=h q (by simp);rw [last_snoc,last_snoc,EF_snoc,fin_dawn,fin_sab,i1,i2];simp only [hq,and_true,and_self]
theorem brk_is {x:Nat -> Int} (hx:May x) (ks:List Int) (L:List (Int × Int)):docBrk x L = ((EF x ks L).brk,(EF x ks L).half):=by
 refine snoc_ind16 (P:=fun L=>docBrk x L = ((EF x ks L).brk,(EF x ks L).half)) rfl ?_ L;intro L q ih;have:=may_ord hx;rw [brk_snoc,EF_snoc,ih];unfold Ef.fin Ef.worth ofV ofW;dsimp only;generalize EF x ks L = s;simp only [lastB]
 cases s.half with
 | true =>
  simp only [true_and,Bool.true_and,Bool.or_eq_true,decide_eq_true_eq,Bool.true_or,Bool.and_true];by_cases h1:x 1 <= q.2 - q.1 ∨ x 3 <= q.2 - q.1
  ·rw [if_pos h1,if_pos h1]
   congr 1;split
   ·rfl
   ·rcases h1 with h1 | h1 <;> simp [h1]
  ·have n1:¬ x 1 <= q.2 - q.1:=fun h=>h1 (.inl h)
   have n3:¬ x 3 <= q.2 - q.1:=fun h=>h1 (.inr h)
   have n8:¬ x 8 <= q.2 - q.1:=by omega
   rw [if_neg h1,if_neg h1];simp only [n1,n3,n8,decide_false,if_false,Bool.or_self,Bool.not_false];split <;> rfl
 | false =>
  simp only [Bool.false_eq_true,false_and,or_false,Bool.false_and,Bool.or_false,decide_eq_true_eq,Bool.false_or];by_cases h1:x 1 <= q.2 - q.1
  ·rw [if_pos h1,if_pos h1]
   congr 1;split
   ·rfl
   ·simp [h1]
  ·have n8:¬ x 8 <= q.2 - q.1:=by omega
   rw [if_neg h1,if_neg h1];simp only [h1,n8,decide_false,if_false,Bool.not_false,Bool.true_and];split
   ·rename_i h2; rw [decide_eq_true h2]
   ·rename_i h2; rw [decide_eq_false h2]
theorem split_is {x:Nat -> Int} (ks:List Int) (L:List (Int × Int)):∀ hi,Lk L hi -> L.any (partB x (EF x ks L).dawn) = (EF x ks L).split:=by
 refine snoc_ind16 (P:=fun L=>∀ hi,Lk L hi -> L.any (partB x (EF x ks L).dawn) = (EF x ks L).split) ?_ ?_ L
 ·intro _ _; rfl
 ·intro L q ih hi h
  obtain ⟨hL,q0,q1,q2⟩:=h.cut;have hq:=ih _ hL;rw [List.any_append,EF_snoc,fin_dawn]
  have hsp:((EF x ks L).fin x ks q).split = if x 8 <= q.2 - q.1 then false else (EF x ks L).split || decide (x 10 <= q.2 - q.1):=by
   show (if ((EF x ks L).worth x q).daily = true then false else (EF x ks L).split || ((EF x ks L).worth x q).part) = _
   unfold Ef.worth ofV ofW lastB;simp only [decide_eq_true_eq];split
   ·rfl
   ·rename_i h8
    rw [decide_eq_false h8];rfl
  rw [hsp];by_cases h8:x 8 <= q.2 - q.1
  ·rw [if_pos h8,if_pos h8]
   have e1:L.any (partB x q.2) = false:=List.any_eq_false.2 fun p hp=>by
    have:=hL.each p hp;unfold partB;rw [decide_eq_false (show ¬ q.2 <= p.1 by omega)];simp
   rw [e1];unfold partB;simp [decide_eq_false (show ¬ q.2 <= q.1 by omega)]
  ·rw [if_neg h8,if_neg h8,hq]
   have hd:(EF x ks L).dawn <= q.1:=by
    by_cases hz:q.1 = 0
    ·have:L = []:=by
      cases L with
      | nil=>rfl
      | cons p L=>have:=hL.each p (by simp); omega
     subst this
     exact q0
    ·have:=(EF_le (x:=x) ks L q.1 Zo hL).1.2
     omega
   congr 1;unfold partB;simp only [List.any_cons,List.any_nil,Bool.or_false,decide_eq_true hd,Bool.true_and];rw [decide_eq_true (show q.2 - q.1 < x 8 by omega),Bool.and_true]
theorem dawn_le {x:Nat -> Int} {ks:List Int} {L:List (Int × Int)} {f:Int} (h:Lk L f) (h0:0 <= f):((EF x ks L).dawn <= f /\ (EF x ks L).sab <= f) /\ (0 <= (EF x ks L).dawn /\ 0 <= (EF x ks L).sab):=by
 by_cases hz:f = 0
 ·have:L = []:=by
   cases L with
   | nil=>rfl
   | cons p L=>have:=h.each p (by simp); omega
  subst this
  exact ⟨⟨h0,h0⟩,⟨Int.le_refl _,Int.le_refl _⟩⟩
 ·have:=EF_le (x:=x) ks L f Zo h
  omega
theorem getD_last {L:List (Int × Int)} {q:Int × Int}:(L ++ [q]).getD L.length (0,0) = q:=by simp [List.getD]
theorem getD_old {L:List (Int × Int)} {q:Int × Int} {k:Nat} (h:k < L.length):(L ++ [q]).getD k (0,0) = L.getD k (0,0):=by simp [List.getD,List.getElem?_append_left h]
theorem getDs_mem {L:List (Int × Int)} {k:Nat} (h:k < L.length):L.getD k (0,0) ∈ L:=by
 have:L.getD k (0,0) = L[k]:=by simp [List.getD,h]
 rw [this]; exact List.getElem_mem h
theorem red_is {x:Nat -> Int} (ks:List Int) {L:List (Int × Int)} {q:Int × Int} {hi:Int} (h:Lk (L ++ [q]) hi):docRed x (L ++ [q]) L.length = ((EF x ks L).worth x q).red:=by
 obtain ⟨hL,q0,q1,q2⟩:=h.cut;unfold docRed;rw [getD_last];dsimp only;rw [last_snoc,if_neg Zo,(last_is x ks L q.1 fun p hp=>by have:=hL.each p hp; omega).1];rw [List.take_left,split_is ks L _ hL];unfold Ef.worth ofV ofW lastB;dsimp only;generalize EF x ks L = s;have e1:decide (q.2 - q.1 < x 13) = !decide (x 13 <= q.2 - q.1):=by by_cases hh:x 13 <= q.2 - q.1 <;> simp [hh] <;> omega
 have e2:decide (min q.2 (s.dawn + x 11) - q.1 < x 7) = !decide (x 7 <= min q.2 (s.dawn + x 11) - q.1):=by by_cases hh:x 7 <= min q.2 (s.dawn + x 11) - q.1 <;> simp [hh] <;> omega
 rw [e1,e2];simp only [Bool.and_assoc]
theorem red_old {x:Nat -> Int} {L:List (Int × Int)} {q:Int × Int} {hi:Int} (h:Lk (L ++ [q]) hi) {k:Nat} (hk:k < L.length):docRed x (L ++ [q]) k = docRed x L k:=by
 obtain ⟨hL,q0,q1,q2⟩:=h.cut;have hm:=hL.each _ (getDs_mem hk);unfold docRed;rw [getD_old hk];dsimp only;rw [last_snoc,if_neg Zo];rw [List.take_append_of_le_length Zo]
theorem redN_none {x:Nat -> Int} {L:List (Int × Int)} {sab:Int}:∀ j,(∀ k,k < j -> (L.getD k (0,0)).2 <= sab) -> docRedN x L sab j = 0
 | 0,_=>rfl
 | j + 1,h=>by
  show docRedN x L sab j + _ = 0
  rw [redN_none j fun k hk=>h k Zo];unfold redB;rw [decide_eq_false (by have:=h j Zo; omega)];rfl
theorem redN_old {x:Nat -> Int} {L:List (Int × Int)} {q:Int × Int} {hi sab:Int} (h:Lk (L ++ [q]) hi):∀ j,j <= L.length -> docRedN x (L ++ [q]) sab j = docRedN x L sab j
 | 0,_=>rfl
 | j + 1,hj=>by
  show docRedN x (L ++ [q]) sab j + _ = docRedN x L sab j + _
  rw [redN_old h j Zo];unfold redB;rw [getD_old Zo,red_old h Zo]
theorem redN_is {x:Nat -> Int} (ks:List Int) (L:List (Int × Int)):∀ hi,Lk L hi -> docRedN x L (EF x ks L).sab L.length = (EF x ks L).red:=by
 refine snoc_ind16 (P:=fun L=>∀ hi,Lk L hi -> docRedN x L (EF x ks L).sab L.length = (EF x ks L).red) ?_ ?_ L
 ·intro _ _; rfl
 ·intro L q ih hi h
  obtain ⟨hL,q0,q1,q2⟩:=h.cut;have hr:=red_is (x:=x) ks h;have hsl:=(dawn_le (x:=x) (ks:=ks) hL q0).1.2;rw [List.length_append,List.length_singleton,EF_snoc,fin_sab]
  have hrd:((EF x ks L).fin x ks q).red = if x 13 <= q.2 - q.1 then 0 else (EF x ks L).red + if ((EF x ks L).worth x q).red then 1 else 0:=by
   show (if ((EF x ks L).worth x q).weekly = true then 0 else (EF x ks L).red + if ((EF x ks L).worth x q).red then 1 else 0) = _
   have:((EF x ks L).worth x q).weekly = decide (x 13 <= q.2 - q.1):=rfl;rw [this];simp only [decide_eq_true_eq]
  rw [hrd];by_cases h13:x 13 <= q.2 - q.1
  ·rw [if_pos h13,if_pos h13]
   refine redN_none _ fun k hk=>?_
   by_cases hk2:k < L.length
   ·rw [getD_old hk2]
    have:=hL.each _ (getDs_mem hk2);omega
   ·obtain rfl:k = L.length:=by omega
    rw [getD_last];exact Int.le_refl _
  ·rw [if_neg h13,if_neg h13]
   show docRedN x (L ++ [q]) (EF x ks L).sab L.length + _ = _
   rw [redN_old h _ Zl,ih _ hL];unfold redB;rw [getD_last,hr,decide_eq_true (show (EF x ks L).sab < q.2 by omega),Bool.true_and]
theorem brief_is {x:Nat -> Int} (ks:List Int) (L:List (Int × Int)):∀ hi,Lk L hi -> L.any (briefB x (EF x ks L).sab) = (EF x ks L).brief:=by
 refine snoc_ind16 (P:=fun L=>∀ hi,Lk L hi -> L.any (briefB x (EF x ks L).sab) = (EF x ks L).brief) ?_ ?_ L
 ·intro _ _; rfl
 ·intro L q ih hi h
  obtain ⟨hL,q0,q1,q2⟩:=h.cut;have hsl:=(dawn_le (x:=x) (ks:=ks) hL q0).1.2;rw [List.any_append,EF_snoc,fin_sab]
  have hbr:((EF x ks L).fin x ks q).brief = if x 13 <= q.2 - q.1 then !decide (x 12 <= q.2 - q.1) else (EF x ks L).brief:=by
   show (if ((EF x ks L).worth x q).weekly = true then ((EF x ks L).worth x q).brief else (EF x ks L).brief) = _
   unfold Ef.worth ofV ofW lastB;simp only [decide_eq_true_eq];split
   ·rename_i h13; rw [decide_eq_true h13,Bool.true_and]
   ·rfl
  rw [hbr];by_cases h13:x 13 <= q.2 - q.1
  ·rw [if_pos h13,if_pos h13]
   have e1:L.any (briefB x q.2) = false:=List.any_eq_false.2 fun p hp=>by
    have:=hL.each p hp;unfold briefB;have:(p.2 == q.2) = false:=by simp; omega
    rw [this];simp
   rw [e1];unfold briefB;have:(q.2 == q.2) = true:=by simp
   simp only [List.any_cons,List.any_nil,Bool.or_false,Bool.false_or,this,Bool.true_and,decide_eq_true (show 0 < q.2 by omega)];by_cases hh:x 12 <= q.2 - q.1
   ·rw [decide_eq_true hh,decide_eq_false Zo]; rfl
   ·rw [decide_eq_false hh,decide_eq_true Zo]; rfl
  ·rw [if_neg h13,if_neg h13,ih _ hL]
   unfold briefB;have:(q.2 == (EF x ks L).sab) = false:=by simp; omega
   simp only [List.any_cons,List.any_nil,Bool.or_false,this,Bool.false_and,Bool.and_false]
theorem long_none {x:Nat -> Int} {ks:List Int} {fr:Int}:∀ {L:List (Int × Int)},(∀ q ∈ L,q.2 <= fr) -> docLongF x ks L fr = (fr,0):=by
 intro L;refine snoc_ind16 (P:=fun L=>(∀ q ∈ L,q.2 <= fr) -> docLongF x ks L fr = (fr,0)) (fun _=>rfl) ?_ L;intro L q ih h;rw [long_snoc,if_pos (.inl (h q (by simp))),ih fun p hp=>h p (by simp [hp])]
theorem long_is {x:Nat -> Int} (hx:May x) (ks:List Int) (L:List (Int × Int)):∀ hi,Lk L hi -> docLongF x ks L (EF x ks L).sab = ((EF x ks L).dawn,(EF x ks L).lon):=by
 have ho:=may_ord hx;refine snoc_ind16 (P:=fun L=>∀ hi,Lk L hi -> docLongF x ks L (EF x ks L).sab = ((EF x ks L).dawn,(EF x ks L).lon)) ?_ ?_ L
 ·intro _ _; rfl
 ·intro L q ih hi h
  obtain ⟨hL,q0,q1,q2⟩:=h.cut;have hsl:=(dawn_le (x:=x) (ks:=ks) hL q0).1.2;rw [EF_snoc,fin_sab,fin_dawn]
  have hlo:((EF x ks L).fin x ks q).lon = if x 13 <= q.2 - q.1 then 0 else if x 8 <= q.2 - q.1 then (EF x ks L).lon + (if x 4 < cntK ks 3 3 (EF x ks L).dawn q.2.toNat then 1 else 0) else (EF x ks L).lon:=by
   show (if ((EF x ks L).worth x q).weekly = true then 0 else if ((EF x ks L).worth x q).daily = true then _ else _) = _
   have e1:((EF x ks L).worth x q).weekly = decide (x 13 <= q.2 - q.1):=rfl;have e2:((EF x ks L).worth x q).daily = decide (x 8 <= q.2 - q.1):=rfl;rw [e1,e2];simp only [decide_eq_true_eq]
  rw [hlo,long_snoc];by_cases h13:x 13 <= q.2 - q.1
  ·have h8:x 8 <= q.2 - q.1:=by omega
   rw [if_pos h13,if_pos (.inl (Int.le_refl _)),if_pos h8,if_pos h13];exact long_none fun p hp=>by have:=hL.each p hp; omega
  ·rw [if_neg h13,if_neg h13,ih _ hL]
   by_cases h8:x 8 <= q.2 - q.1
   ·rw [if_pos h8,if_pos h8,if_neg Zo]
   ·rw [if_neg h8,if_neg h8,if_pos (.inr Zo)]
def restsL (ks:List Int) (m:Nat):List (Int × Int):=fullR (eR ks m).1 (eR ks m).2 m
def endsB (L:List (Int × Int)) (m:Int):Bool:=decide (0 < L.length) && (L.getD (L.length - 1) (0,0)).2 == m
def docBreaks (x:Nat -> Int) (ks:List Int) (m c:Nat):Bool :=
 let L:=restsL ks m
 let dawn:=docLast L (x 8) m
 let sab:=docLast L (x 13) m
 let k:=kAt ks m
 let week:=(m:Int) - (m:Int) % x 18
 match c with
 | 0=>decide (k = 3) && decide (x 0 < cntK ks 3 3 (docBrk x L).1 (m + 1))
 | 1=>decide (k = 3) && decide (x 5 < cntK ks 3 3 dawn (m + 1))
 | 2=>decide (k = 3) && (decide (cntK ks 3 3 dawn (m + 1) = x 4 + 1) && decide (x 6 < (docLongF x ks L sab).2 + if x 4 < cntK ks 3 3 (docLongF x ks L sab).1 (m + 1) then 1 else 0))
 | 3=>decide (k = 3) && decide (x 15 < cntK ks 3 3 week (m + 1))
 | 4=>decide (k = 3) && decide (x 16 < cntK ks 3 3 (week - x 18) (m + 1))
 | 5=>decide (x 11 - x 8 <= (m:Int) - dawn)
 | 6=>endsB L m && (docRed x L (L.length - 1) && decide (x 9 < docRedN x L sab L.length))
 | 7=>decide (x 14 <= (m:Int) - sab)
 | 8=>endsB L m && (decide (x 13 <= (L.getD (L.length - 1) (0,0)).2 - (L.getD (L.length - 1) (0,0)).1) && (decide ((L.getD (L.length - 1) (0,0)).2 - (L.getD (L.length - 1) (0,0)).1 < x 12) && (L.take (L.length - 1)).any (briefB x (docLast (L.take (L.length - 1)) (x 13) m))))
 | 9=>decide (k = 3 ∨ k = 2) && decide (x 17 < cntK ks 3 2 week (m + 1))
 | _=>false
theorem breaks_bit {x:Nat -> Int} {ks:List Int} {i:Nat} {a:Au} (hx:May x) (hL:1 <= x 18) (h:Rl x ks i a) (hok:a.Ok i) (hk:¬ kAt ks i = 0) (c:Nat):docBreaks x ks i c = (stepC x a.m (kAt ks i)).testBit c:=by
 obtain ⟨u,-,hw⟩:=up_rel hx hL h hok hk;have hfull:=full_ok ks i;obtain ⟨l1,l2⟩:=last_is x ks (restsL ks i) i fun q hq=>by have:=hfull.each q hq; omega
 have hb:=brk_is hx ks (restsL ks i);have hlo:=long_is hx ks (restsL ks i) _ hfull;have hsl:=EF_le (x:=x) ks _ _ Zo hfull;have hS:EF x ks (restsL ks i) = sUp x ks i:=rfl;have hsl:(0 <= (sUp x ks i).dawn /\ (sUp x ks i).dawn < (i:Int) + 1) /\ (0 <= (sUp x ks i).sab /\ (sUp x ks i).sab < (i:Int) + 1) /\ (0 <= (sUp x ks i).brk /\ (sUp x ks i).brk < (i:Int) + 1):=hsl
 have wsl:wsV (x 18) i <= (i:Int) /\ 0 <= wsV (x 18) i:=by
  have:=Int.emod_nonneg (i:Int) (show x 18 ≠ 0 by omega);have:=mod_le (show (0:Int) <= (i:Int) by omega) hL;unfold wsV; omega
 rw [hS] at l1 l2 hb hlo;have es:stepC x a.m (kAt ks i) = (upC x (wrapM x a.m) (kAt ks i)).sum:=by unfold stepC; rw [if_neg hk]
 rw [es,Cl.sum_bit];have m1:∀ lo,lo <= (i:Int) -> kAt ks i = 3 -> cntK ks 3 3 lo (i + 1) = cntK ks 3 3 lo i + 1:=fun lo hl h3=>by rw [cnt_next hl,if_pos (.inl h3)]
 have m2:∀ lo,lo <= (i:Int) -> (kAt ks i = 3 ∨ kAt ks i = 2) -> cntK ks 3 2 lo (i + 1) = cntK ks 3 2 lo i + 1:=fun lo hl h3=>by rw [cnt_next hl,if_pos h3]
 obtain ⟨u1,u2,u3,u4,u5,u6,u7,u8,u9,u10,u11,u12,u13,u14⟩:=u;have n1:=m1 _ (show (sUp x ks i).brk <= (i:Int) by omega);have n2:=m1 _ (show (sUp x ks i).dawn <= (i:Int) by omega);have n3:=m1 _ wsl.1;have n4:=m2 _ wsl.1;have n5:=cnt_split (ks:=ks) (a:=3) (b:=3) (lo:=wsV (x 18) i - x 18) (mid:=wsV (x 18) i) Zo (h:=i + 1) Zo wsl.2;have hlie:(wrapM x a.m).lie = ((eR ks i).2:Nat):=by rw [wrap_lie,h.lie]
 have hbrief:(wrapM x a.m).brief = (EF x ks (eR ks i).1).brief:=by rw [<- h.brief]; unfold wrapM; split <;> rfl
 have hredm:(wrapM x a.m).reduces = (EF x ks (eR ks i).1).red:=by rw [<- h.red]; unfold wrapM; split <;> rfl
 have hEk:=eR_ok ks i;have hle:=eR_le ks i;unfold docBreaks Cl.get upC;dsimp only;rw [l1,l2,hb,hlo];dsimp only
 have hlab:(if kAt ks i = 3 then driveM x (upR x (wrapM x a.m)) else upR x (wrapM x a.m)).labour = (upR x (wrapM x a.m)).labour:=by
  unfold driveM d2 d1;split
  ·split <;> rfl
  ·rfl
 generalize upR x (wrapM x a.m) = r at *;split
 ·by_cases h3:kAt ks i = 3
  ·rw [n1 h3,<- u9]; rfl
  ·rw [decide_eq_false h3]; rfl
 ·by_cases h3:kAt ks i = 3
  ·rw [n2 h3,<- u10]; rfl
  ·rw [decide_eq_false h3]; rfl
 ·by_cases h3:kAt ks i = 3
  ·rw [n2 h3,<- u10]
   unfold c2;congr 1;rw [u11];by_cases hd:r.day + 1 = x 4 + 1
   ·rw [decide_eq_true hd,Bool.true_and,Bool.true_and,if_pos Zo,if_neg Zo,Int.add_zero]
   ·rw [decide_eq_false hd]; rfl
  ·rw [decide_eq_false h3]; rfl
 ·by_cases h3:kAt ks i = 3
  ·rw [show (i:Int) - (i:Int) % x 18 = wsV (x 18) i from rfl,n3 h3,<- u12]; rfl
  ·rw [decide_eq_false h3]; rfl
 ·by_cases h3:kAt ks i = 3
  ·rw [show (i:Int) - (i:Int) % x 18 = wsV (x 18) i from rfl,n5,n3 h3,<- u12,<- u13]
   unfold c4;congr 2;rw [Int.add_comm]
  ·rw [decide_eq_false h3]; rfl
 ·show _ = c5 x r
  unfold c5;rw [u1,u4]
 ·-- reduces
  unfold up6 c6;rw [hlie];by_cases hr0:0 < (eR ks i).2
  ·have hw:=hw hr0
   have hFl:restsL ks i = (eR ks i).1 ++ [((i:Int) - ((eR ks i).2:Nat),(i:Int))]:=by unfold restsL fullR; rw [if_pos hr0]
   have hN:=redN_is (x:=x) ks (restsL ks i) _ hfull;rw [hS] at hN;rw [hN]
   have hsred:(sUp x ks i).red = if ((EF x ks (eR ks i).1).worth x ((i:Int) - ((eR ks i).2:Nat),(i:Int))).weekly then 0 else (EF x ks (eR ks i).1).red + if ((EF x ks (eR ks i).1).worth x ((i:Int) - ((eR ks i).2:Nat),(i:Int))).red then 1 else 0:=by
    rw [<- hS,hFl,EF_snoc]; rfl
   have hfull':=hfull;rw [show fullR (eR ks i).1 (eR ks i).2 i = restsL ks i from rfl,hFl] at hfull';have hrd:=red_is (x:=x) ks hfull';rw [hsred,hFl,List.length_append,List.length_singleton,Nat.add_sub_cancel,hrd,hw]
   have he:endsB ((eR ks i).1 ++ [((i:Int) - ((eR ks i).2:Nat),(i:Int))]) i = true:=by
    unfold endsB;rw [List.length_append,List.length_singleton,Nat.add_sub_cancel,getD_last];simp
   rw [he,decide_eq_true (show (0:Int) < ((eR ks i).2:Nat) by omega)];have wr:=worth_red x (EF x ks (eR ks i).1) ((i:Int) - ((eR ks i).2:Nat),(i:Int));generalize (EF x ks (eR ks i).1).worth x ((i:Int) - ((eR ks i).2:Nat),(i:Int)) = v at *
   cases hv:v.red with
   | false=>simp
   | true =>
    obtain ⟨v1,v2⟩:=wr hv
    have e2:(e2 v (e1 v (wrapM x a.m))).reduces = (EF x ks (eR ks i).1).red + 1:=by
     unfold e2 e1;rw [hv,v1];simp only [if_true,Bool.false_eq_true,if_false];rw [hredm]
    rw [e2,v1];simp
  ·have hFl:restsL ks i = (eR ks i).1:=by unfold restsL fullR; rw [if_neg hr0]
   have he:endsB (restsL ks i) i = false:=by
    rw [hFl];unfold endsB;by_cases hz:0 < (eR ks i).1.length
    ·have:=hEk.each _ (getDs_mem (k:=(eR ks i).1.length - 1) Zo)
     rw [decide_eq_true hz,Bool.true_and,beq_eq_false_iff_ne];omega
    ·rw [decide_eq_false hz]; rfl
   rw [he,decide_eq_false (show ¬ (0:Int) < ((eR ks i).2:Nat) by omega)];rfl
 ·show _ = c7 x r
  unfold c7;rw [u1,u6]
 ·-- brief
  unfold up8 c8;rw [hlie];by_cases hr0:0 < (eR ks i).2
  ·have hw:=hw hr0
   have hFl:restsL ks i = (eR ks i).1 ++ [((i:Int) - ((eR ks i).2:Nat),(i:Int))]:=by unfold restsL fullR; rw [if_pos hr0]
   rw [hFl,List.length_append,List.length_singleton,Nat.add_sub_cancel,List.take_left,getD_last,hw,hbrief]
   have he:endsB ((eR ks i).1 ++ [((i:Int) - ((eR ks i).2:Nat),(i:Int))]) i = true:=by
    unfold endsB;rw [List.length_append,List.length_singleton,Nat.add_sub_cancel,getD_last];simp
   rw [he,decide_eq_true (show (0:Int) < ((eR ks i).2:Nat) by omega),(last_is x ks (eR ks i).1 i fun q hq=>by have:=hEk.each q hq; omega).2,brief_is ks (eR ks i).1 _ hEk];unfold Ef.worth ofV ofW lastB;dsimp only;have e1:decide ((i:Int) - ((i:Int) - ((eR ks i).2:Nat)) < x 12) = !decide (x 12 <= (i:Int) - ((i:Int) - ((eR ks i).2:Nat))):=by by_cases hh:x 12 <= (i:Int) - ((i:Int) - ((eR ks i).2:Nat)) <;> simp [hh] <;> omega
   rw [e1]
   cases decide (x 13 <= (i:Int) - ((i:Int) - ((eR ks i).2:Nat))) <;> simp
  ·have hFl:restsL ks i = (eR ks i).1:=by unfold restsL fullR; rw [if_neg hr0]
   have he:endsB (restsL ks i) i = false:=by
    rw [hFl];unfold endsB;by_cases hz:0 < (eR ks i).1.length
    ·have:=hEk.each _ (getDs_mem (k:=(eR ks i).1.length - 1) Zo)
     rw [decide_eq_true hz,Bool.true_and,beq_eq_false_iff_ne];omega
    ·rw [decide_eq_false hz]; rfl
   rw [he,decide_eq_false (show ¬ (0:Int) < ((eR ks i).2:Nat) by omega)];rfl
 ·by_cases h3:kAt ks i = 3 ∨ kAt ks i = 2
  ·rw [show (i:Int) - (i:Int) % x 18 = wsV (x 18) i from rfl,n4 h3,<- u14]
   unfold c9;rw [hlab];rfl
  ·rw [decide_eq_false h3]; rfl
 ·rename_i c0 c1 c2 c3 c4 c5 c6 c7 c8 c9
  split <;> first | rfl | (exfalso; simp_all)
def docSince (x:Nat -> Int) (ks:List Int) (m c:Nat):Int :=
 let L:=if endsB (restsL ks m) m then (restsL ks m).take ((restsL ks m).length - 1) else restsL ks m
 let week:=(m:Int) - (m:Int) % x 18
 if c = 0 then (docBrk x L).1 else if c = 1 ∨ c = 5 then docLast L (x 8) m else if c = 3 ∨ c = 9 then week else if c = 4 then (if week < x 18 then 0 else week - x 18) else docLast L (x 13) m
theorem since_is {x:Nat -> Int} {ks:List Int} {i:Nat} {a:Au} (hx:May x) (h:Rl x ks i a) (c:Nat):docSince x ks i c = sinceV x a.m a.p c a.m.now:=by
 have hEk:=eR_ok ks i;have hle:=eR_le ks i
 have hLe:(if endsB (restsL ks i) i then (restsL ks i).take ((restsL ks i).length - 1) else restsL ks i) = (eR ks i).1:=by
  by_cases hr0:0 < (eR ks i).2
  ·have hFl:restsL ks i = (eR ks i).1 ++ [((i:Int) - ((eR ks i).2:Nat),(i:Int))]:=by unfold restsL fullR; rw [if_pos hr0]
   have he:endsB (restsL ks i) i = true:=by
    rw [hFl];unfold endsB;rw [List.length_append,List.length_singleton,Nat.add_sub_cancel,getD_last];simp
   rw [he,if_pos rfl,hFl,List.length_append,List.length_singleton,Nat.add_sub_cancel,List.take_left]
  ·have hFl:restsL ks i = (eR ks i).1:=by unfold restsL fullR; rw [if_neg hr0]
   have he:endsB (restsL ks i) i = false:=by
    rw [hFl];unfold endsB;by_cases hz:0 < (eR ks i).1.length
    ·have:=hEk.each _ (getDs_mem (k:=(eR ks i).1.length - 1) Zo)
     rw [decide_eq_true hz,Bool.true_and,beq_eq_false_iff_ne];omega
    ·rw [decide_eq_false hz]; rfl
   rw [he,hFl];rfl
 unfold docSince;rw [hLe];dsimp only;obtain ⟨l1,l2⟩:=last_is x ks (eR ks i).1 i fun q hq=>by have:=hEk.each q hq; omega
 rw [l1,l2,brk_is hx ks (eR ks i).1,<- h.p,<- h.dawn,<- h.sab,h.now];unfold sinceV sinceD;split
 ·rfl
 split
 ·rfl
 split
 ·rfl
 split
 ·split <;> omega
 ·rfl
def firstD (x:Nat -> Int) (ks:List Int) (c:Nat):Nat -> Option (Int × Int)
 | 0=>none
 | j + 1=>match firstD x ks c j with
  | some v=>some v
  | none=>if ¬ kAt ks j = 0 /\ docBreaks x ks j c = true then some (docSince x ks j c,(j:Int) + 1) else none
theorem first_is {x:Nat -> Int} {ks:List Int} (hx:May x) (hL:1 <= x 18) (hn:ks.length <= 40320) (c:Nat):∀ j,j <= ks.length -> firstD x ks c j = (Au.zero.run x (ks.take j)).F c
 | 0,_=>rfl
 | j + 1,hj=>by
  have ih:=first_is hx hL hn c j Zo;obtain ⟨hr,hok⟩:=run_rel hx hL hn j Zo
  have e:Au.zero.run x (ks.take (j + 1)) = (Au.zero.run x (ks.take j)).step x (kAt ks j):=by
   rw [List.take_succ_eq_append_getElem Zo,Au.run_snoc];congr 1;unfold kAt;simp [List.getD,(by omega:j < ks.length)]
  rw [e,step_F]
  show (match firstD x ks c j with | some v=>some v | none=>_) = _
  rw [ih]
  cases hF:(Au.zero.run x (ks.take j)).F c with
  | some v=>simp
  | none =>
   dsimp only;by_cases hk:kAt ks j = 0
   ·rw [if_neg (fun q=>q.1 hk),hk]
    unfold stepC;simp
   ·rw [breaks_bit hx hL hr hok hk c,since_is hx hr c,<- hr.now]
    by_cases hb:(stepC x (Au.zero.run x (ks.take j)).m (kAt ks j)).testBit c = true
    ·rw [if_pos ⟨hk,hb⟩,if_pos ⟨hb,rfl⟩]
    ·rw [if_neg (fun q=>hb q.2),if_neg (fun q=>hb q.1)]
set_option maxRecDepth 20000 in
set_option maxHeartbeats 1000000 in
theorem count16_any (A:Option Addr) (c n:Nat) (ks:List Int) (a b lo hi:Int) (w:World) (hn:ks.length = n) (hr:RdN w A ks) (h0:-100000 <= lo) (h1:lo <= 100000) (h2:-1 <= hi) (h3:hi < (n:Int)) (h4:n <= 100000) :
  Calls Tryz.prog 101 #[.slice A n c,.int .i64 a,.int .i64 b,.int .i64 lo,.int .i64 hi] w fun e w'=>e = .returned (.int .i64 (cntK ks a b lo (hi + 1).toNat)) /\ w = w':=by
 have HN:=Zh hn;have HR:=Zh hr;clear hn hr;go_enter Tryz.func101,Tryz.ntmps101;go_wp2;go_loop [11,12] (fun v i=>∃ (j q:Int),lo <= j /\ (j <= hi + 1 ∨ j = lo) /\ i = .int .i64 j /\ v = .int .i64 q /\ Hid (cntK ks a b lo j.toNat = q) /\ 0 <= q /\ q <= 200000 /\ q <= j - lo) (fun _ i=>(hi + 1 - intOf i).toNat)
 case atStart=>exact ⟨lo,0,Int.le_refl _,.inr rfl,rfl,rfl,Zh (by
  by_cases hl:0 <= lo
  ·exact cnt_none Zo
  ·rw [show lo.toNat = 0 by omega]; rfl),Int.le_refl _,by omega,by omega⟩
 case round =>
  obtain ⟨j,q,hj,hjh,rfl,rfl,HQ,hq0,hq1,hq2⟩:=hrel;by_cases hlt:j <= hi
  case neg =>
   have e:cntK ks a b lo (hi + 1).toNat = q:=by
    rcases hjh with hjh | hjh
    ·rw [show hi + 1 = j by omega]; exact HQ.out
    ·have h5:=HQ.out
     rw [hjh] at h5 hlt;rw [<- h5];by_cases hl:0 <= lo
     ·rw [cnt_none Zo,cnt_none Zo]
     ·rw [show (hi + 1).toNat = 0 by omega,show lo.toNat = 0 by omega]
   have HE:=Zh e;clear e HQ;go_wp2;go_ret;exact ⟨by rw [HE.out]; try rfl,rfl⟩
  by_cases hneg:0 <= j
  case neg =>
   have d0:decide (0 <= j) = false:=decide_eq_false hneg;have hq3:q = 0:=by rw [<- HQ.out,show j.toNat = 0 by omega]; rfl
   have HF:Hid (cntK ks a b lo (j + 1).toNat = q):=Zh (by rw [show (j + 1).toNat = 0 by omega,hq3]; rfl);clear hq3 HQ;go_wp2;go_round
   case rel=>exact ⟨j + 1,q,by omega,by omega,by go_num,rfl,HF,hq0,hq1,by omega⟩
   case measure=>simp [intOf]; omega
  obtain ⟨i,rfl⟩:∃ i:Nat,j = (i:Int):=⟨j.toNat,by omega⟩;have hil:i < ks.length:=by rw [HN.out]; omega
  have hin:i < n:=by omega
  obtain ⟨bb,off,rfl,hbb,hcell⟩:=HR.out (nonnil hil);have hc0:=hcell i hil;have hkv:ks.getD i 0 = kAt ks i:=rfl;rw [hkv] at hc0
  have HS:Hid (cntK ks a b lo ((i:Int) + 1).toNat = q + if kAt ks i = a ∨ kAt ks i = b then 1 else 0):=Zh (by
   rw [show ((i:Int) + 1).toNat = i + 1 by omega,cnt_next hj];have:=HQ.out;rw [Int.toNat_natCast] at this
   rw [this])
  obtain ⟨kv,hkk⟩:∃ kv,kAt ks i = kv:=⟨_,rfl⟩;rw [hkk] at hc0 HS;have d0:decide ((0:Int) <= (i:Int)) = true:=decide_eq_true Zo;have d1:(0:Int) <= (i:Int):=by omega
  have d2:(i:Int) < (n:Int):=by omega
  clear hcell HQ hkv hkk;by_cases ha:kv = a
  ·have e1:(kv == a) = true:=by simpa using ha
   have HF:=Zh (show cntK ks a b lo ((i:Int) + 1).toNat = q + 1 by rw [HS.out,if_pos (.inl ha)]);clear ha HS;go_wp2;go_round
   case rel=>exact ⟨(i:Int) + 1,q + 1,by omega,by omega,by go_num,by go_num,HF,by omega,by omega,by omega⟩
   case measure=>simp [intOf]; omega
  ·have e1:(kv == a) = false:=by simpa using ha
   by_cases hb:kv = b
   ·have e2:(kv == b) = true:=by simpa using hb
    have HF:=Zh (show cntK ks a b lo ((i:Int) + 1).toNat = q + 1 by rw [HS.out,if_pos (.inr hb)]);clear ha hb HS;go_wp2;go_round
    case rel=>exact ⟨(i:Int) + 1,q + 1,by omega,by omega,by go_num,by go_num,HF,by omega,by omega,by omega⟩
    case measure=>simp [intOf]; omega
   ·have e2:(kv == b) = false:=by simpa using hb
    have HF:=Zh (show cntK ks a b lo ((i:Int) + 1).toNat = q by rw [HS.out,if_neg (fun h=>h.elim ha hb),Int.add_zero]);clear ha hb HS;go_wp2;go_round
    case rel=>exact ⟨(i:Int) + 1,q,by omega,by omega,by go_num,rfl,HF,by omega,by omega,by omega⟩
    case measure=>simp [intOf]; omega
def InT (L:List (Int × Int)):Prop:=∀ q ∈ L,0 <= q.1 /\ q.1 < q.2 /\ q.2 <= 40320
theorem last_more {L:List (Int × Int)} {long cut:Int} {k:Nat} {x y:Int} (hk:k < L.length) (h:L.getD k (0,0) = (x,y)):docLast (L.take (k + 1)) long cut = if long <= y - x /\ y <= cut then y else docLast (L.take k) long cut:=by
 have e:L[k] = (x,y):=by rw [<- h]; simp [List.getD,hk]
 rw [List.take_succ_eq_append_getElem hk,last_snoc,e]
theorem brk_more {x:Nat -> Int} {L:List (Int × Int)} {k:Nat} {f t:Int} (hk:k < L.length) (h:L.getD k (0,0) = (f,t)):docBrk x (L.take (k + 1)) = if x 1 <= t - f ∨ ((docBrk x (L.take k)).2 = true /\ x 3 <= t - f) then (t,false) else if x 2 <= t - f then ((docBrk x (L.take k)).1,true) else docBrk x (L.take k):=by
 have e:L[k] = (f,t):=by rw [<- h]; simp [List.getD,hk]
 rw [List.take_succ_eq_append_getElem hk,brk_snoc,e]
set_option maxRecDepth 20000 in
set_option maxHeartbeats 2000000 in
theorem last16_any (A:Option Addr) (c n:Nat) (L:List Sp) (long cut:Int) (w:World) (hn:L.length = n) (hr:RdS w A L) (hT:InT L) (h4:n <= 100000) :
  Calls Tryz.prog 100 #[.slice A n c,.int .i64 long,.int .i64 cut] w fun e w'=>e = .returned (.int .i64 (docLast L long cut)) /\ Below w.heap.size w w':=by
 have HN:=Zh hn;have HR:=Zh hr;have HT:=Zh hT;clear hn hr hT;go_enter Tryz.func100,Tryz.ntmps100;go_wp2;go_loopw [7,8] (fun v i wr=>∃ (k:Nat) (q:Int),k <= n /\ i = .int .i64 (k:Nat) /\ v = .int .i64 q /\ Hid (docLast (L.take k) long cut = q) /\ Hid (Below w.heap.size w wr)) (fun _ i _=>n - (intOf i).toNat)
 case atStart=>exact ⟨0,0,Nat.zero_le _,rfl,rfl,Zh rfl,Zh (Below.refl _ _)⟩
 case round =>
  obtain ⟨k,q,hk,rfl,rfl,HQ,HB⟩:=hrel;obtain ⟨w2,rfl⟩:∃ w2:World,w2 = wr:=⟨_,rfl⟩;have hsz:=HB.out.size;by_cases hlt:k < n
  case neg =>
   obtain rfl:k = n:=by omega
   have HE:Hid (docLast L long cut = q):=Zh (by have:=HQ.out; rwa [List.take_of_length_le (Nat.le_of_eq HN.out)] at this);clear HQ;go_wp2;go_ret;exact ⟨by rw [HE.out]; try rfl,HB.out⟩
  have hlt':k < L.length:=by rw [HN.out]; exact hlt
  obtain ⟨b,off,x,y,rfl,hbb,hc0,hc1,hs⟩:=HR.out.at_ hlt';rw [<- HB.out.cell (p:=⟨b,_,none⟩) hbb] at hc0 hc1;have hxy:=HT.out (x,y) (by rw [<- hs.out]; exact getDs_mem hlt');obtain ⟨hx0,hx1,hx2⟩:=hxy;dsimp only at hx0 hx1 hx2;have HM:=Zh (last_more (long:=long) (cut:=cut) hlt' hs.out);have q0:∀ p:BelowOf w2,p.world.cell? ⟨b,off + k * 2,none⟩ = some (.int .i64 x):=fun p=>p.cell hc0
  have q1:∀ p:BelowOf w2,p.world.cell? ⟨b,off + k * 2 + 1,none⟩ = some (.int .i64 y):=fun p=>p.cell hc1
  have hwr:IntKind.i64.wrap (y - x) = y - x:=wrap14 (y - x) Zo Zo;rw [HQ.out] at HM;have k0:(0:Int) <= (k:Int):=by omega
  have k1:(k:Int) < (n:Int):=by omega
  clear HQ hs;by_cases hl:long <= y - x
  case neg =>
   have e1:decide (long <= y - x) = false:=decide_eq_false hl;have HF:=Zh (show docLast (L.take (k + 1)) long cut = q by rw [HM.out,if_neg (fun h=>hl h.1)]);clear hl HM;go_wp2;refine wp_region_bel Zk Zk ?_
   repeat (go_big_quiet_step (first | (fail)))
   refine wpQuiet_nil ?_;refine bel_all fun wq hbq=>?_
   have HBQ:=Zh (HB.out.trans (hbq.mono hsz));clear q0 q1 hbq;go_wp2;go_roundw
   case rel=>exact ⟨k + 1,q,by omega,by go_num,rfl,HF,HBQ⟩
   case measure=>simp [intOf]; omega
  have e1:decide (long <= y - x) = true:=decide_eq_true hl;by_cases hy:y <= cut
  case neg =>
   have e2:decide (y <= cut) = false:=decide_eq_false hy;have HF:=Zh (show docLast (L.take (k + 1)) long cut = q by rw [HM.out,if_neg (fun h=>hy h.2)]);clear hl hy HM;go_wp2;refine wp_region_bel Zk Zk ?_
   repeat (go_big_quiet_step (first | (fail)))
   refine wpQuiet_nil ?_;refine bel_all fun wq hbq=>?_
   have HBQ:=Zh (HB.out.trans (hbq.mono hsz));clear q0 q1 hbq;go_wp2;go_roundw
   case rel=>exact ⟨k + 1,q,by omega,by go_num,rfl,HF,HBQ⟩
   case measure=>simp [intOf]; omega
  have e2:decide (y <= cut) = true:=decide_eq_true hy;have HF:=Zh (show docLast (L.take (k + 1)) long cut = y by rw [HM.out,if_pos ⟨hl,hy⟩]);clear hl hy HM;go_wp2;refine wp_region_bel Zk Zk ?_
  repeat (go_big_quiet_step (first | (fail)))
  refine wpQuiet_nil ?_;refine bel_all fun wq hbq=>?_
  have HBQ:=Zh (HB.out.trans (hbq.mono hsz));rw [<- hbq.cell (p:=⟨b,_,none⟩) (show b < w2.heap.size by omega)] at hc1;have hbw:b < wq.heap.size:=by have:=hbq.size; omega
  clear q0 q1 hbq;go_wp2;go_roundw
  case rel=>exact ⟨k + 1,y,by omega,by go_num,rfl,HF,HBQ⟩
  case measure=>simp [intOf]; omega
set_option maxRecDepth 20000 in
set_option maxHeartbeats 2000000 in
theorem brkend16_any (x:Nat -> Int) (A:Option Addr) (c n:Nat) (L:List Sp) (w:World) (hn:L.length = n) (hr:RdS w A L) (hT:InT L) (h4:n <= 100000) :
  Calls Tryz.prog 102 #[.agg (bk x),.slice A n c] w fun e w'=>e = .returned (.int .i64 (docBrk x L).1) /\ Below w.heap.size w w':=by
 have HN:=Zh hn;have HT:=Zh hT;have RB:RdI (w.alloc (.cells (bk x) 23)) w.heap.size 0 x:=RdI.new x 23 rfl;have hB0:Below w.heap.size w (w.alloc (.cells (bk x) 23)):=b_al (Below.refl _ _) Zl _;have HR:=Zh (hr.below hB0);clear hn hT hr;go_enter Tryz.func102,Tryz.ntmps102;go_wp2;obtain ⟨w1,hw1⟩:∃ w1,w.alloc (.cells (bk x) 23) = w1:=⟨_,rfl⟩;rw [hw1] at RB hB0 HR ⊢;clear hw1;go_loopw [5,6,7] (fun v u i wr=>∃ (k:Nat) (q:Int) (f:Bool),k <= n /\ i = .int .i64 (k:Nat) /\ v = .int .i64 q /\ u = .bool f /\ Hid (docBrk x (L.take k) = (q,f)) /\ Hid (Below w1.heap.size w1 wr)) (fun _ _ i _=>n - (intOf i).toNat)
 case atStart=>exact ⟨0,0,false,Nat.zero_le _,rfl,rfl,rfl,Zh rfl,Zh (Below.refl _ _)⟩
 case round =>
  obtain ⟨k,q,fb,hk,rfl,rfl,rfl,HQ,HB⟩:=hrel;obtain ⟨w2,rfl⟩:∃ w2:World,w2 = wr:=⟨_,rfl⟩;have hsz:=HB.out.size;by_cases hlt:k < n
  case neg =>
   obtain rfl:k = n:=by omega
   have HE:Hid (docBrk x L = (q,fb)):=Zh (by have:=HQ.out; rwa [List.take_of_length_le (Nat.le_of_eq HN.out)] at this);clear HQ;go_wp2;go_ret;exact ⟨by rw [HE.out]; try rfl,b_cl hB0 Zl HB.out⟩
  have hlt':k < L.length:=by rw [HN.out]; exact hlt
  obtain ⟨b,off,f,t,rfl,hbb,hc0,hc1,hs⟩:=HR.out.at_ hlt';rw [<- HB.out.cell (p:=⟨b,_,none⟩) hbb] at hc0 hc1;have hxy:=HT.out (f,t) (by rw [<- hs.out]; exact getDs_mem hlt');obtain ⟨hx0,hx1,hx2⟩:=hxy;dsimp only at hx0 hx1 hx2;have HM:=Zh (brk_more (x:=x) hlt' hs.out);have q0:∀ p:BelowOf w2,p.world.cell? ⟨b,off + k * 2,none⟩ = some (.int .i64 f):=fun p=>p.cell hc0
  have q1:∀ p:BelowOf w2,p.world.cell? ⟨b,off + k * 2 + 1,none⟩ = some (.int .i64 t):=fun p=>p.cell hc1
  have hwr:IntKind.i64.wrap (t - f) = t - f:=wrap14 (t - f) Zo Zo;rw [HQ.out] at HM;dsimp only at HM;have k0:(0:Int) <= (k:Int):=by omega
  have k1:(k:Int) < (n:Int):=by omega
  clear HQ hs;go_wp2;refine wp_region_bel Zk Zk ?_
  repeat (go_big_quiet_step (first | (fail)))
  refine wpQuiet_nil ?_;refine bel_all fun wq hbq=>?_
  have HBQ:=Zh (HB.out.trans (hbq.mono hsz));have RQ:=(RB.below HB.out).below hbq;rw [<- hbq.cell (p:=⟨b,_,none⟩) (show b < w2.heap.size by omega)] at hc0 hc1;have hbw:b < wq.heap.size:=by have:=hbq.size; omega
  have f1:wq.cell? ⟨w.heap.size,1,none⟩ = some (.int .i64 (x 1)):=RQ.2 1 Zo;have f2:wq.cell? ⟨w.heap.size,2,none⟩ = some (.int .i64 (x 2)):=RQ.2 2 Zo;have f3:wq.cell? ⟨w.heap.size,3,none⟩ = some (.int .i64 (x 3)):=RQ.2 3 Zo;clear q0 q1 hbq RQ;by_cases g1:x 1 <= t - f
  case pos =>
   have e1:decide (x 1 <= t - f) = true:=decide_eq_true g1;have HF:=Zh (show docBrk x (L.take (k + 1)) = (t,false) by rw [HM.out,if_pos (.inl g1)]);clear g1 HM;go_wp2;go_roundw
   case rel=>exact ⟨k + 1,t,false,by omega,by go_num,rfl,rfl,HF,HBQ⟩
   case measure=>simp [intOf]; omega
  have e1:decide (x 1 <= t - f) = false:=decide_eq_false g1
  cases fb with
  | true =>
   by_cases g3:x 3 <= t - f
   case pos =>
    have e3:decide (x 3 <= t - f) = true:=decide_eq_true g3;have HF:=Zh (show docBrk x (L.take (k + 1)) = (t,false) by rw [HM.out,if_pos (.inr ⟨rfl,g3⟩)]);clear g1 g3 HM;go_wp2;go_roundw
    case rel=>exact ⟨k + 1,t,false,by omega,by go_num,rfl,rfl,HF,HBQ⟩
    case measure=>simp [intOf]; omega
   have e3:decide (x 3 <= t - f) = false:=decide_eq_false g3;by_cases g2:x 2 <= t - f
   ·have e2:decide (x 2 <= t - f) = true:=decide_eq_true g2
    have HF:=Zh (show docBrk x (L.take (k + 1)) = (q,true) by rw [HM.out,if_neg (fun h=>h.elim g1 (fun h=>g3 h.2)),if_pos g2]);clear g1 g2 g3 HM;go_wp2;go_roundw
    case rel=>exact ⟨k + 1,q,true,by omega,by go_num,rfl,rfl,HF,HBQ⟩
    case measure=>simp [intOf]; omega
   ·have e2:decide (x 2 <= t - f) = false:=decide_eq_false g2
    have HF:=Zh (show docBrk x (L.take (k + 1)) = (q,true) by rw [HM.out,if_neg (fun h=>h.elim g1 (fun h=>g3 h.2)),if_neg g2]);clear g1 g2 g3 HM;go_wp2;go_roundw
    case rel=>exact ⟨k + 1,q,true,by omega,by go_num,rfl,rfl,HF,HBQ⟩
    case measure=>simp [intOf]; omega
  | false =>
   by_cases g2:x 2 <= t - f
   ·have e2:decide (x 2 <= t - f) = true:=decide_eq_true g2
    have HF:=Zh (show docBrk x (L.take (k + 1)) = (q,true) by rw [HM.out,if_neg (fun h=>h.elim g1 (fun h=>by cases h.1)),if_pos g2]);clear g1 g2 HM;go_wp2;go_roundw
    case rel=>exact ⟨k + 1,q,true,by omega,by go_num,rfl,rfl,HF,HBQ⟩
    case measure=>simp [intOf]; omega
   ·have e2:decide (x 2 <= t - f) = false:=decide_eq_false g2
    have HF:=Zh (show docBrk x (L.take (k + 1)) = (q,false) by rw [HM.out,if_neg (fun h=>h.elim g1 (fun h=>by cases h.1)),if_neg g2]);clear g1 g2 HM;go_wp2;go_roundw
    case rel=>exact ⟨k + 1,q,false,by omega,by go_num,rfl,rfl,HF,HBQ⟩
    case measure=>simp [intOf]; omega
theorem rep_more (ks:List Int) (q:Nat) (x:Int):ks ++ List.replicate (q + 1) x = ks ++ List.replicate q x ++ [x]:=by
 rw [List.replicate_succ',List.append_assoc]
set_option maxRecDepth 100000 in
set_option maxHeartbeats 4000000 in
theorem refkinds_any (A:Option Addr) (c:Nat) (l:List Rc) (w:World) (h:RdR w A l) {e:Int} (ht:Tl e l) (hl:l.length <= 4611686018427387904) :
  Calls Tryz.prog 61 #[.slice A l.length c] w fun e w'=>∃ v,e = .returned v /\ OwnN w.heap.size w' v (kindsV l) /\ Below w.heap.size w w':=by
 obtain ⟨i1,hj,hy0,hy1,hy2⟩:=info_parts info_int;have HR:=Zh h;have HT:=Zh ht;clear h ht;go_enter Tryz.func61,Tryz.ntmps61;go_wp2
 go_loopw [3,4] (fun v i wr=>∃ (k n:Nat) (A':Option Addr) (c':Nat),k <= l.length /\ i = .int .i64 k /\ v = .slice A' n c' /\ Hid ((kindsV (l.take k)).length = n) /\
   Hid (OwnN w.heap.size wr (.slice A' n c') (kindsV (l.take k))) /\ Below w.heap.size w wr) (fun _ i _=>l.length - (intOf i).toNat)
 case atStart=>exact ⟨0,0,none,0,Nat.zero_le _,rfl,rfl,Zh rfl,Zh (OwnN.nil _ _),Below.refl _ _⟩
 case round =>
  obtain ⟨k,n,A',c',hk,rfl,rfl,HON,hown,hb⟩:=hrel;obtain ⟨w2,rfl⟩:∃ w2:World,w2 = wr:=⟨_,rfl⟩;have hsz:=hb.size;by_cases hlt:k < l.length
  ·obtain ⟨b,off,x,y,z,rfl,hbb,hc0,hc1,hc2,hs⟩:=HR.out.at_ hlt
   have HC:=Zh (And.intro hc0 hc2);rw [<- hb.cell (p:=⟨b,_,none⟩) hbb] at hc0 hc1 hc2;have hbr:b < w2.heap.size:=by omega
   have KM:=Zh (kinds_more hlt hs.out);have KL:=Nat.le_trans (kinds_take l (k + 1)) HT.out.short;have bd:=HT.out.at_ k hlt;rw [hs.out] at bd;obtain ⟨_,bd0,bd1,bd2⟩:=bd;obtain ⟨ks,hks⟩:∃ ks,kindsV (l.take k) = ks:=⟨_,rfl⟩;rw [hks] at HON hown KM;rw [KM.out,List.length_append,List.length_replicate,HON.out] at KL;clear hks hs;go_wp2
   go_loopw [3,5] (fun v m w4=>∃ (q n4:Nat) (A4:Option Addr) (c4:Nat),y + (q:Int) <= z /\ m = .int .i64 (y + (q:Int)) /\ v = .slice A4 n4 c4 /\ Hid ((ks ++ List.replicate q x).length = n4) /\ n4 = n + q /\
     Hid (OwnN w.heap.size w4 (.slice A4 n4 c4) (ks ++ List.replicate q x)) /\ Below w.heap.size w w4) (fun _ m _=>(z - intOf m).toNat)
   case atStart=>exact ⟨0,n,A',c',by omega,by simp,rfl,Zh (by simpa using HON.out),rfl,Zh (by simpa using hown.out),hb⟩
   case round =>
    clear hc0 hc1 hc2;obtain ⟨q,n4,A4,c4,hq,rfl,rfl,HON4,hn4,hown4,hb4⟩:=hrel;obtain ⟨w4,rfl⟩:∃ w4:World,w4 = wr:=⟨_,rfl⟩;have hsz4:=hb4.size;obtain ⟨hc0,hc2⟩:=HC.out;rw [<- hb4.cell (p:=⟨b,_,none⟩) hbb] at hc0 hc2;have hbr4:b < w4.heap.size:=by omega
    by_cases hqz:y + (q:Int) < z
    ·have RM:=Zh (rep_more ks q x)
     have hnb:(ks ++ List.replicate q x).length <= 40320:=by have:=HON4.out; omega
     have HL5:=Zh (show (ks ++ List.replicate q x ++ [x]).length = n4 + 1 by rw [List.length_append,HON4.out]; rfl);have HN4:=Zh hn4;clear hn4;go_wp2_with (at_builtin; refine wpList_append_own _ rfl _ _ 28 rfl w.heap.size 3 i1 (.int .i64 0) 1 8 Tryz.underlying28 hj hy0 hy1 hy2 rfl Zd _ _ _ rfl (OwnN.alloc hown4.out _) ⟨w4.heap.size,0,none⟩ 1 1 [.int .i64 x] rfl rfl (int_news rfl) int_cells (by unfold maxLen; omega) Zo (by have:=hb4.size; simp; omega) ?_; intro v5 w5 hown5 hgrow5 _; have HS:=Zh (OwnN.snoc hown5); have HB5:=Zh ((hb4.alloc hb4.size (.cells #[.int .i64 x] 3)).grown hgrow5 (by have:=hb4.size; simp; omega) (fun q hq=>(World.ownsRow.lt hown4.out q hq).1)); clear hown5 hgrow5);obtain ⟨A5,c5,rfl,_⟩:=HS.out.read;go_wp2;go_roundw
     case rel=>exact ⟨q + 1,n4 + 1,A5,c5,by omega,by go_num,by rw [HL5.out],Zh (by rw [RM.out]; exact HL5.out),by have:=HN4.out; omega,Zh (by rw [RM.out]; have:=HS.out; rw [HL5.out] at this; exact this),HB5.out⟩
     case measure=>simp [intOf]; omega
    ·have hqd:q = (z - y).toNat:=by omega
     have KE:=Zh (KM.out.trans (by rw [<- hqd]));clear hqd hn4;go_wp2;go_roundw
     case rel=>exact ⟨k + 1,n4,A4,c4,by omega,by go_num,rfl,Zh (by rw [KE.out]; exact HON4.out),Zh (by rw [KE.out]; exact hown4.out),hb4⟩
     case measure=>simp [intOf]; omega
  ·have hkl:k = l.length:=by omega
   subst hkl;have HE:=Zh (show kindsV (l.take l.length) = kindsV l by rw [List.take_of_length_le Zl]);rw [HE.out] at hown;go_wp2;go_ret;exact ⟨_,rfl,hown.out,hb⟩
theorem last_bd {L:List Sp} {long cut:Int}:InT L -> 0 <= docLast L long cut /\ docLast L long cut <= 40320:=by
 refine snoc_ind16 (P:=fun L=>InT L -> 0 <= docLast L long cut /\ docLast L long cut <= 40320) ?_ ?_ L
 ·intro _; exact ⟨Int.le_refl _,show (0:Int) <= 40320 by decide⟩
 ·intro L q ih h
  have:=ih fun p hp=>h p (by simp [hp])
  have hq:=h q (by simp);rw [last_snoc];split <;> omega
theorem brk_bd {x:Nat -> Int} {L:List Sp}:InT L -> 0 <= (docBrk x L).1 /\ (docBrk x L).1 <= 40320:=by
 refine snoc_ind16 (P:=fun L=>InT L -> 0 <= (docBrk x L).1 /\ (docBrk x L).1 <= 40320) ?_ ?_ L
 ·intro _; exact ⟨Int.le_refl _,show (0:Int) <= 40320 by decide⟩
 ·intro L q ih h
  have:=ih fun p hp=>h p (by simp [hp])
  have hq:=h q (by simp);rw [brk_snoc];split
  ·dsimp only; omega
  ·split
   ·exact this
   ·exact this
theorem long_bd {x:Nat -> Int} {ks:List Int} {fr:Int} {L:List Sp} (h0:0 <= fr) (h1:fr <= 40320):InT L -> (0 <= (docLongF x ks L fr).1 /\ (docLongF x ks L fr).1 <= 40320) /\ (0 <= (docLongF x ks L fr).2 /\ (docLongF x ks L fr).2 <= L.length):=by
 refine snoc_ind16 (P:=fun L=>InT L -> (0 <= (docLongF x ks L fr).1 /\ (docLongF x ks L fr).1 <= 40320) /\ (0 <= (docLongF x ks L fr).2 /\ (docLongF x ks L fr).2 <= L.length)) ?_ ?_ L
 ·intro _; exact ⟨⟨h0,h1⟩,Int.le_refl _,Int.le_refl _⟩
 ·intro L q ih h
  have:=ih fun p hp=>h p (by simp [hp])
  have hq:=h q (by simp);rw [long_snoc,List.length_append,List.length_singleton];split
  ·omega
  ·dsimp only; split <;> omega
theorem InT.take {L:List Sp} (h:InT L) (k:Nat):InT (L.take k):=fun q hq=>h q (List.mem_of_mem_take hq)
theorem any_more {L:List Sp} {p:Sp -> Bool} {j:Nat} (hj:j < L.length):(L.take (j + 1)).any p = ((L.take j).any p || p (L.getD j (0,0))):=by
 rw [List.take_succ_eq_append_getElem hj,List.any_append];simp [List.getD,hj]
theorem any_hit {L:List Sp} {p:Sp -> Bool} {j k:Nat} (hj:j < k) (hk:k <= L.length) (h:p (L.getD j (0,0)) = true):(L.take k).any p = true:=by
 refine List.any_eq_true.2 ⟨L.getD j (0,0),?_,h⟩;have e:(L.take k).getD j (0,0) = L.getD j (0,0):=by simp [List.getD,hj]
 rw [<- e];exact getDs_mem (by rw [List.length_take]; omega)
theorem long_more {x:Nat -> Int} {ks:List Int} {L:List Sp} {k:Nat} {f t fr:Int} (hk:k < L.length) (h:L.getD k (0,0) = (f,t)):docLongF x ks (L.take (k + 1)) fr = if t <= fr ∨ t - f < x 8 then docLongF x ks (L.take k) fr else (t,(docLongF x ks (L.take k) fr).2 + if x 4 < cntK ks 3 3 (docLongF x ks (L.take k) fr).1 t.toNat then 1 else 0):=by
 have e:L[k] = (f,t):=by rw [<- h]; simp [List.getD,hk]
 rw [List.take_succ_eq_append_getElem hk,long_snoc,e]
theorem cntK_bd (ks:List Int) (a b lo:Int):∀ h:Nat,0 <= cntK ks a b lo h /\ cntK ks a b lo h <= (h:Int)
 | 0=>⟨Int.le_refl _,Int.le_refl _⟩
 | h + 1=>by
  have ih:=cntK_bd ks a b lo h;rw [cnt_succ];split <;> omega
def flat (l:List Sp):List Value:=l.flatMap fun s=>[.int .i64 s.1,.int .i64 s.2]
theorem flat_cons (s:Sp) (l:List Sp):flat (s :: l) = .int .i64 s.1 :: .int .i64 s.2 :: flat l:=rfl
theorem flat_append (a b:List Sp):flat (a ++ b) = flat a ++ flat b:=by simp [flat]
theorem flat_len (l:List Sp):(flat l).length = l.length * 2:=by
 induction l with
 | nil=>rfl
 | cons s l ih=>rw [flat_cons,List.length_cons,List.length_cons,ih,List.length_cons]; omega
theorem flat_get:∀ (l:List Sp) (k:Nat),k < l.length -> (flat l)[k * 2]? = some (.int .i64 (l.getD k (0,0)).1) /\ (flat l)[k * 2 + 1]? = some (.int .i64 (l.getD k (0,0)).2)
 | s :: l,0,_=>by simp [flat_cons]
 | s :: l,k + 1,h=>by
  have ih:=flat_get l k (by simpa using h);have e:(k + 1) * 2 = k * 2 + 1 + 1:=by omega
  rw [e,flat_cons];simpa using ih
theorem flat_set (a:List Sp) (x y z:Int):(flat (a ++ [(x,y)])).set (a.length * 2 + 1) (.int .i64 z) = flat (a ++ [(x,z)]):=by
 rw [flat_append,flat_append,List.set_append_right _ _ (by rw [flat_len]; omega),flat_len];have e:a.length * 2 + 1 - a.length * 2 = 1:=by omega
 rw [e];rfl
def Own (base:Nat) (w:World) (v:Value) (l:List Sp):Prop:=w.ownsRow base 121 2 v l.length (flat l)
theorem Own.nil (base:Nat) (w:World):Own base w (.slice none 0 0) []:=World.ownsRow_nil w base _ 2
theorem Own.form {base:Nat} {w:World} {v:Value} {l:List Sp} (h:Own base w v l) :
  ∃ A c,v = .slice A l.length c /\ RdS w A l /\ l.length <= c /\ c <= maxLen:=by
 have h0:=h
 rcases h.2 with ⟨rfl,hn⟩ | ⟨g,cap,cur,rfl,hb,hg,h1,h2,h3,h4⟩
 ·obtain rfl:l = []:=List.eq_nil_of_length_eq_zero hn
  exact ⟨none,0,rfl,RdS.nil _ _,Nat.le_refl _,Nat.zero_le _⟩
 ·refine ⟨some ⟨g,0,none⟩,cap,rfl,fun _=>⟨g,0,rfl,(h.lt g rfl).2,fun k hk=>?_⟩,h1,h2⟩
  have hf:=flat_get l k hk;rw [Nat.zero_add,World.ownsRow.cellAt h0 (k * 2) Zo,World.ownsRow.cellAt h0 (k * 2 + 1) Zo];exact hf
theorem Own.alloc {base:Nat} {w:World} {v:Value} {l:List Sp} (h:Own base w v l) (o:Obj):Own base (w.alloc o) v l:=World.ownsRow.alloc h o
theorem info_span:(Tryz.prog.info? 121).map (fun i=>(i.zero,i.size,i.bytes)) = some (some (.agg #[.int .i64 0,.int .i64 0]),2,16):=by kernel_rfl
theorem one_news {w:World} {x y:Int} {t:TypeId}:∀ j u,([.int .i64 x,.int .i64 y]:List Value)[j]? = some u -> (w.alloc (.cells #[.int .i64 x,.int .i64 y] t)).cell? ((⟨w.heap.size,0,none⟩:Addr).add j) = some u:=by
 intro j u hj
 match j,hj with
 | 0,hj=>simp at hj; subst hj; simp [Addr.add]
 | 1,hj=>simp at hj; subst hj; simp [Addr.add]
 | j + 2,hj=>simp at hj
theorem one_cell2 {x y:Int}:∀ u ∈ ([.int .i64 x,.int .i64 y]:List Value),u.oneCell' = true:=by
 intro u hu;simp at hu
 rcases hu with rfl | rfl <;> rfl
theorem Own.snoc {base:Nat} {w:World} {v:Value} {l:List Sp} {x y:Int} (h:w.ownsRow base 121 2 v (l.length + 1) (flat l ++ [.int .i64 x,.int .i64 y])):Own base w v (l ++ [(x,y)]):=by
 unfold Own;rw [flat_append,List.length_append];exact h
theorem own_some {base:Nat} {w:World} {b off n c:Nat} {l:List Sp} (h:Own base w (.slice (some ⟨b,off,none⟩) n c) l):off = 0 /\ base <= b /\ ∀ j,w.frozen? ⟨b,j,none⟩ = false:=by
 rcases h.2 with ⟨h',_⟩ | ⟨g,cap,cur,h',hb,hg,_⟩
 ·simp at h'
 ·simp only [Value.slice.injEq,Option.some.injEq,Addr.mk.injEq,and_true] at h'
  obtain ⟨⟨rfl,rfl⟩,_,rfl⟩:=h';exact ⟨rfl,hb,fun j=>by simp [World.frozen?,hg]⟩
theorem own_joined {base:Nat} {w:World} {b n c j:Nat} {l l':List Sp} {z:Int} (h:Own base w (.slice (some ⟨b,0,none⟩) n c) l) (hn:l.length = n) (hl:l'.length = l.length) (hf:flat l' = (flat l).set (j * 2 + 1) (.int .i64 z)) :
  Own base (w.setCell ⟨b,j * 2 + 1,none⟩ (.int .i64 z)) (.slice (some ⟨b,0,none⟩) n c) l':=by
 unfold Own at *;rw [hn] at h;have h2:=(World.ownsRow.stored h (j * 2 + 1) (.int .i64 z)).1;rw [hl,hn,hf];exact h2
end Go.Proofs.YtiamnbddbmgffaaGreatDoor
