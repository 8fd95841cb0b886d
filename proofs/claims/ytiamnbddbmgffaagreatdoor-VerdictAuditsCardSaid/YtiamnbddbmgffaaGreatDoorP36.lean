/- Texts of the proofs of VerdictAudits, VerdictAll, VerdictRising, pressed: BookNum, BookMayR, RecCheckR, RecSmall. Conditions: as each theorem says. -/
import Derived.Test.YtiamnbddbmgffaaGreatDoorRows
import Derived.Test.YtiamnbddbmgffaaGreatDoorP15
namespace Go.Proofs.YtiamnbddbmgffaaGreatDoor
open Go.RowKit
set_option linter.unusedVariables false
section
variable {P:Program}
theorem wpList_slice_bk {ops:Array Oper} {rest:List Oper} {o:Oper} {a:Act} {w:World} {Q:Exit -> Act -> World -> Prop} (hg:o.guard = none) (t e:TypeId) (parts:Array (Nat × Operand)) (ho:o.op = .buildSlice t 19 parts) (x:Nat -> Int)
  (hu:P.underlying t = some (.slice e)) (hi:(P.info? e).map (fun i=>(i.zero,i.size)) = some (some (.int .i64 0),1))
  (hf:Instr.fill (fun i=>some (i * 1,1)) ((Array.range (19 * 1)).map ((Value.int .i64 0).cells[· % (Value.int .i64 0).cells.size]!)) (parts.map fun (i,x)=>(i,a.eval x)).toList = some (bk x))
  (h:wpList P ops Q rest (a.put o.dst (.slice (some ⟨w.heap.size,0,none⟩) 19 19)) (w.alloc (.cells (bk x) e))):wpList P ops Q (o :: rest) a w:=by
 cases hie:P.info? e with
 | none=>simp [hie] at hi
 | some ie =>
  simp only [hie,Option.map_some,Option.some.injEq,Prod.mk.injEq] at hi;refine wpList_buildSlice hg t e 19 parts ho (bk x) ie (.int .i64 0) hu hie hi.1 (by rw [hi.2]; decide) (by rw [hi.2]; decide) (by rw [hi.2]; exact hf) h
end
set_option maxRecDepth 20000 in
theorem refnum_any (x:Nat -> Int) (w:World) :
  Calls Tryz.prog 97 #[.agg (bk x)] w fun e w'=>∃ g,e = .returned (.slice (some ⟨g,0,none⟩) 19 19) /\ w.heap.size <= g /\ RdI w' g 0 x /\ Below w.heap.size w w':=by
 have z0:=bk_at x 0 Zo; have z1:=bk_at x 1 Zo; have z2:=bk_at x 2 Zo; have z3:=bk_at x 3 Zo; have z4:=bk_at x 4 Zo; have z5:=bk_at x 5 Zo; have z6:=bk_at x 6 Zo; have z7:=bk_at x 7 Zo; have z8:=bk_at x 8 Zo; have z9:=bk_at x 9 Zo; have z10:=bk_at x 10 Zo; have z11:=bk_at x 11 Zo; have z12:=bk_at x 12 Zo; have z13:=bk_at x 13 Zo; have z14:=bk_at x 14 Zo; have z15:=bk_at x 15 Zo; have z16:=bk_at x 16 Zo; have z17:=bk_at x 17 Zo; have z18:=bk_at x 18 Zo;go_enter Tryz.func97,Tryz.ntmps97;go_wp2_with (refine wpList_slice_bk rfl 28 3 _ rfl x Tryz.underlying28 Zk Zk ?_);go_ret;refine ⟨_,rfl,?_,RdI.new x _ (by first | rfl | (simp; done)),?_⟩
 ·first | omega | (simp; done) | (simp; omega)
 ·(repeat (first | exact Below.refl _ _ | (refine b_st ?_ (by first | (simp; done) | (simp; omega))) | (refine b_al ?_ Zl _) | refine b_dn ?_ | refine b_dr ?_ | (refine b_cl ?_ Zl Zm)))
set_option maxRecDepth 20000 in
set_option maxHeartbeats 4000000 in
open Classical in
theorem refmay_any (x:Nat -> Int) (w:World) :
  Calls Tryz.prog 55 #[.agg (bk x)] w fun e w'=>e = .returned (.bool (if May x then true else false)) /\ Below w.heap.size w w':=by
 obtain ⟨v,hv⟩:∃ v,(if May x then true else false) = v:=⟨_,rfl⟩;rw [hv];have HV:=Zh hv;clear hv;go_enter Tryz.func55,Tryz.ntmps55
 go_wp2_with (first
  | refine wpList_load_bk Zv 23 _ rfl _ _ rfl x _ (RdI.new x _ (by first | rfl | (simp; done))) Tryz.underlying23 rfl Zk ?_
  | (go_at_call 97; (with_reducible refine (refnum_any x _).mono ?_); rintro e w1 ⟨g1,rfl,hg1,hr1,hb1⟩))
 have hB:Below w.heap.size w w1:=by
  exact Zq
 have hq:=((RdI.new x 23 rfl).below hb1).2;clear hb1;go_loop [4] (fun i=>∃ k:Nat,k <= 19 /\ i = .int .i64 k /\ Hid (∀ j,j < k -> lim j (x j))) (fun i=>19 - (intOf i).toNat)
 case atStart=>exact ⟨0,Nat.zero_le _,rfl,Zh (fun j hj=>by omega)⟩
 case round =>
  obtain ⟨k,hk,rfl,H⟩:=hrel;by_cases hlt:k < 19
  case neg =>
   have hk19:k = 19:=by omega
   subst hk19;clear hlt hk;have q0:=hq 0 Zo; have q1:=hq 1 Zo; have q2:=hq 2 Zo; have q3:=hq 3 Zo; have q4:=hq 4 Zo; have q5:=hq 5 Zo; have q6:=hq 6 Zo; have q7:=hq 7 Zo; have q8:=hq 8 Zo; have q9:=hq 9 Zo; have q10:=hq 10 Zo; have q11:=hq 11 Zo; have q12:=hq 12 Zo; have q13:=hq 13 Zo; have q14:=hq 14 Zo; have q15:=hq 15 Zo; have q16:=hq 16 Zo; have q17:=hq 17 Zo; have q18:=hq 18 Zo;clear hq hr1 hg1;simp only [Nat.zero_add] at q0 q1 q2 q3 q4 q5 q6 q7 q8 q9 q10 q11 q12 q13 q14 q15 q16 q17 q18;by_cases c0:x 2 <= x 1
   case neg =>
    have hv:v = false:=by rw [<- HV.out]; exact if_neg (fun h=>by have:=h.2; unfold Ord at this; omega)
    clear HV H;have n0:x 1 < x 2:=by omega
    have d0:decide (x 2 <= x 1) = false:=decide_eq_false c0;have e0:decide (x 1 < x 2) = true:=decide_eq_true n0;clear c0;subst hv;go_wp2;go_ret;exact ⟨rfl,hB⟩
   by_cases c1:x 3 <= x 1
   case neg =>
    have hv:v = false:=by rw [<- HV.out]; exact if_neg (fun h=>by have:=h.2; unfold Ord at this; omega)
    clear HV H;have n1:x 1 < x 3:=by omega
    have d1:decide (x 3 <= x 1) = false:=decide_eq_false c1;have e1:decide (x 1 < x 3) = true:=decide_eq_true n1;have p0:decide (x 1 < x 2) = false:=decide_eq_false Zo;clear c1;subst hv;go_wp2;go_ret;exact ⟨rfl,hB⟩
   by_cases c2:x 1 <= x 10
   case neg =>
    have hv:v = false:=by rw [<- HV.out]; exact if_neg (fun h=>by have:=h.2; unfold Ord at this; omega)
    clear HV H;have n2:x 10 < x 1:=by omega
    have d2:decide (x 1 <= x 10) = false:=decide_eq_false c2;have e2:decide (x 10 < x 1) = true:=decide_eq_true n2;have p0:decide (x 1 < x 2) = false:=decide_eq_false Zo;have p1:decide (x 1 < x 3) = false:=decide_eq_false Zo;clear c2;subst hv;go_wp2;go_ret;exact ⟨rfl,hB⟩
   by_cases c3:x 10 <= x 8
   case neg =>
    have hv:v = false:=by rw [<- HV.out]; exact if_neg (fun h=>by have:=h.2; unfold Ord at this; omega)
    clear HV H;have n3:x 8 < x 10:=by omega
    have d3:decide (x 10 <= x 8) = false:=decide_eq_false c3;have e3:decide (x 8 < x 10) = true:=decide_eq_true n3;have p0:decide (x 1 < x 2) = false:=decide_eq_false Zo;have p1:decide (x 1 < x 3) = false:=decide_eq_false Zo;have p2:decide (x 10 < x 1) = false:=decide_eq_false Zo;clear c3;subst hv;go_wp2;go_ret;exact ⟨rfl,hB⟩
   by_cases c4:x 8 <= x 7
   case neg =>
    have hv:v = false:=by rw [<- HV.out]; exact if_neg (fun h=>by have:=h.2; unfold Ord at this; omega)
    clear HV H;have n4:x 7 < x 8:=by omega
    have d4:decide (x 8 <= x 7) = false:=decide_eq_false c4;have e4:decide (x 7 < x 8) = true:=decide_eq_true n4;have p0:decide (x 1 < x 2) = false:=decide_eq_false Zo;have p1:decide (x 1 < x 3) = false:=decide_eq_false Zo;have p2:decide (x 10 < x 1) = false:=decide_eq_false Zo;have p3:decide (x 8 < x 10) = false:=decide_eq_false Zo;clear c4;subst hv;go_wp2;go_ret;exact ⟨rfl,hB⟩
   by_cases c5:x 7 <= x 13
   case neg =>
    have hv:v = false:=by rw [<- HV.out]; exact if_neg (fun h=>by have:=h.2; unfold Ord at this; omega)
    clear HV H;have n5:x 13 < x 7:=by omega
    have d5:decide (x 7 <= x 13) = false:=decide_eq_false c5;have e5:decide (x 13 < x 7) = true:=decide_eq_true n5;have p0:decide (x 1 < x 2) = false:=decide_eq_false Zo;have p1:decide (x 1 < x 3) = false:=decide_eq_false Zo;have p2:decide (x 10 < x 1) = false:=decide_eq_false Zo;have p3:decide (x 8 < x 10) = false:=decide_eq_false Zo;have p4:decide (x 7 < x 8) = false:=decide_eq_false Zo;clear c5;subst hv;go_wp2;go_ret;exact ⟨rfl,hB⟩
   by_cases c6:x 13 <= x 12
   case neg =>
    have hv:v = false:=by rw [<- HV.out]; exact if_neg (fun h=>by have:=h.2; unfold Ord at this; omega)
    clear HV H;have n6:x 12 < x 13:=by omega
    have d6:decide (x 13 <= x 12) = false:=decide_eq_false c6;have e6:decide (x 12 < x 13) = true:=decide_eq_true n6;have p0:decide (x 1 < x 2) = false:=decide_eq_false Zo;have p1:decide (x 1 < x 3) = false:=decide_eq_false Zo;have p2:decide (x 10 < x 1) = false:=decide_eq_false Zo;have p3:decide (x 8 < x 10) = false:=decide_eq_false Zo;have p4:decide (x 7 < x 8) = false:=decide_eq_false Zo;have p5:decide (x 13 < x 7) = false:=decide_eq_false Zo;clear c6;subst hv;go_wp2;go_ret;exact ⟨rfl,hB⟩
   by_cases c7:x 4 <= x 5
   case neg =>
    have hv:v = false:=by rw [<- HV.out]; exact if_neg (fun h=>by have:=h.2; unfold Ord at this; omega)
    clear HV H;have n7:x 5 < x 4:=by omega
    have d7:decide (x 4 <= x 5) = false:=decide_eq_false c7;have e7:decide (x 5 < x 4) = true:=decide_eq_true n7;have p0:decide (x 1 < x 2) = false:=decide_eq_false Zo;have p1:decide (x 1 < x 3) = false:=decide_eq_false Zo;have p2:decide (x 10 < x 1) = false:=decide_eq_false Zo;have p3:decide (x 8 < x 10) = false:=decide_eq_false Zo;have p4:decide (x 7 < x 8) = false:=decide_eq_false Zo;have p5:decide (x 13 < x 7) = false:=decide_eq_false Zo;have p6:decide (x 12 < x 13) = false:=decide_eq_false Zo;clear c7;subst hv;go_wp2;go_ret;exact ⟨rfl,hB⟩
   by_cases c8:x 8 < x 11
   case neg =>
    have hv:v = false:=by rw [<- HV.out]; exact if_neg (fun h=>by have:=h.2; unfold Ord at this; omega)
    clear HV H;have n8:x 11 <= x 8:=by omega
    have d8:decide (x 8 < x 11) = false:=decide_eq_false c8;have e8:decide (x 11 <= x 8) = true:=decide_eq_true n8;have p0:decide (x 1 < x 2) = false:=decide_eq_false Zo;have p1:decide (x 1 < x 3) = false:=decide_eq_false Zo;have p2:decide (x 10 < x 1) = false:=decide_eq_false Zo;have p3:decide (x 8 < x 10) = false:=decide_eq_false Zo;have p4:decide (x 7 < x 8) = false:=decide_eq_false Zo;have p5:decide (x 13 < x 7) = false:=decide_eq_false Zo;have p6:decide (x 12 < x 13) = false:=decide_eq_false Zo;have p7:decide (x 5 < x 4) = false:=decide_eq_false Zo;clear c8;subst hv;go_wp2;go_ret;exact ⟨rfl,hB⟩
   have hv:v = true:=by rw [<- HV.out]; exact if_pos ⟨H.out,by unfold Ord; omega⟩
   clear HV H;have p0:decide (x 1 < x 2) = false:=decide_eq_false Zo;have p1:decide (x 1 < x 3) = false:=decide_eq_false Zo;have p2:decide (x 10 < x 1) = false:=decide_eq_false Zo;have p3:decide (x 8 < x 10) = false:=decide_eq_false Zo;have p4:decide (x 7 < x 8) = false:=decide_eq_false Zo;have p5:decide (x 13 < x 7) = false:=decide_eq_false Zo;have p6:decide (x 12 < x 13) = false:=decide_eq_false Zo;have p7:decide (x 5 < x 4) = false:=decide_eq_false Zo;have p8:decide (x 11 <= x 8) = false:=decide_eq_false Zo;subst hv;go_wp2;go_ret;exact ⟨rfl,hB⟩
  clear hq;have hc:=hr1.2 k hlt;rw [Nat.zero_add] at hc;obtain ⟨n,hn⟩:∃ n,x k = n:=⟨_,rfl⟩;rw [hn] at hc;have hn:=Zh hn;by_cases k0:k = 6
  case pos =>
   have e6:((k:Int) == 6) = true:=by simp; omega
   have L:lim k n ↔ 0 <= n /\ n <= 1000:=(lim_count Zo);clear k0;by_cases lo:n < 0
   case pos =>
    have dl:decide (n < 0) = true:=decide_eq_true lo;have LN:Hid (¬ lim k n):=Zh (fun h=>by have:=L.1 h; omega);clear L;go_wp2;go_ret;refine ⟨?_,hB⟩;rw [<- HV.out,if_neg (fun h=>LN.out (by have:=h.1 k hlt; rwa [hn.out] at this))]; rfl
   have lo':0 <= n:=by omega
   have dl:decide (n < 0) = false:=decide_eq_false lo;clear lo;by_cases hi:1000 < n
   case pos =>
    have dh:decide (1000 < n) = true:=decide_eq_true hi;have LN:Hid (¬ lim k n):=Zh (fun h=>by have:=L.1 h; omega);clear L;go_wp2;go_ret;refine ⟨?_,hB⟩;rw [<- HV.out,if_neg (fun h=>LN.out (by have:=h.1 k hlt; rwa [hn.out] at this))]; rfl
   have hi':n <= 1000:=by omega
   have dh:decide (1000 < n) = false:=decide_eq_false hi;have LY:Hid (lim k n):=Zh (L.2 ⟨lo',hi'⟩);clear L hi;go_wp2;go_round
   case rel=>exact ⟨k + 1,by omega,by go_num,Zh (fun j hj=>by
     by_cases e:j = k
     ·subst e; rw [hn.out]; exact LY.out
     ·exact H.out j Zo)⟩
   case measure=>simp [intOf]; omega
  by_cases k1:k = 9
  case pos =>
   have e6:((k:Int) == 6) = false:=by simp; omega
   have e9:((k:Int) == 9) = true:=by simp; omega
   have L:lim k n ↔ 0 <= n /\ n <= 1000:=(lim_count Zo);clear k1;by_cases lo:n < 0
   case pos =>
    have dl:decide (n < 0) = true:=decide_eq_true lo;have LN:Hid (¬ lim k n):=Zh (fun h=>by have:=L.1 h; omega);clear L;go_wp2;go_ret;refine ⟨?_,hB⟩;rw [<- HV.out,if_neg (fun h=>LN.out (by have:=h.1 k hlt; rwa [hn.out] at this))]; rfl
   have lo':0 <= n:=by omega
   have dl:decide (n < 0) = false:=decide_eq_false lo;clear lo;by_cases hi:1000 < n
   case pos =>
    have dh:decide (1000 < n) = true:=decide_eq_true hi;have LN:Hid (¬ lim k n):=Zh (fun h=>by have:=L.1 h; omega);clear L;go_wp2;go_ret;refine ⟨?_,hB⟩;rw [<- HV.out,if_neg (fun h=>LN.out (by have:=h.1 k hlt; rwa [hn.out] at this))]; rfl
   have hi':n <= 1000:=by omega
   have dh:decide (1000 < n) = false:=decide_eq_false hi;have LY:Hid (lim k n):=Zh (L.2 ⟨lo',hi'⟩);clear L hi;go_wp2;go_round
   case rel=>exact ⟨k + 1,by omega,by go_num,Zh (fun j hj=>by
     by_cases e:j = k
     ·subst e; rw [hn.out]; exact LY.out
     ·exact H.out j Zo)⟩
   case measure=>simp [intOf]; omega
  have e6:((k:Int) == 6) = false:=by simp; omega
  have e9:((k:Int) == 9) = false:=by simp; omega
  have L:lim k n ↔ 1 <= n /\ n <= 40320:=(lim_time Zo);by_cases lo:n < 1
  case pos =>
   have dl:decide (n < 1) = true:=decide_eq_true lo;have LN:Hid (¬ lim k n):=Zh (fun h=>by have:=L.1 h; omega);clear L;go_wp2;go_ret;refine ⟨?_,hB⟩;rw [<- HV.out,if_neg (fun h=>LN.out (by have:=h.1 k hlt; rwa [hn.out] at this))]; rfl
  have lo':1 <= n:=by omega
  have dl:decide (n < 1) = false:=decide_eq_false lo;clear lo;by_cases hi:40320 < n
  case pos =>
   have dh:decide (40320 < n) = true:=decide_eq_true hi;have LN:Hid (¬ lim k n):=Zh (fun h=>by have:=L.1 h; omega);clear L;go_wp2;go_ret;refine ⟨?_,hB⟩;rw [<- HV.out,if_neg (fun h=>LN.out (by have:=h.1 k hlt; rwa [hn.out] at this))]; rfl
  have hi':n <= 40320:=by omega
  have dh:decide (40320 < n) = false:=decide_eq_false hi;have LY:Hid (lim k n):=Zh (L.2 ⟨lo',hi'⟩);clear L hi;go_wp2;go_round
  case rel=>exact ⟨k + 1,by omega,by go_num,Zh (fun j hj=>by
    by_cases e:j = k
    ·subst e; rw [hn.out]; exact LY.out
    ·exact H.out j Zo)⟩
  case measure=>simp [intOf]; omega
theorem fault_is {l:List Rc} {k:Nat} {x y z e:Int} (h:l.getD k rz = (x,y,z)) (ha:aloneV x y z = e) (he:e ≠ 0):faultV l k = e:=by
 rw [fault_alone h (by rw [ha]; exact he),ha]
set_option maxRecDepth 100000 in
set_option maxHeartbeats 4000000 in
theorem refrcheck_any (A:Option Addr) (c:Nat) (l:List Rc) (w:World) (h:RdR w A l) (hl:l.length <= 4611686018427387904) :
  Calls Tryz.prog 58 #[.slice A l.length c] w fun e w'=>e = .returned (.tuple #[.int .i64 ((checkV l).1:Nat),.int .i64 (checkV l).2]) /\ Below w.heap.size w w':=by
 obtain ⟨V,hV⟩:∃ V,checkV l = V:=⟨_,rfl⟩;have HV:=Zh hV;rw [hV];clear hV;go_enter Tryz.func58,Tryz.ntmps58;go_wp2;go_loopw [4] (fun i wr=>∃ k:Nat,k <= l.length /\ i = .int .i64 k /\ Below w.heap.size w wr /\ Hid (∀ j,j < k -> faultV l j = 0)) (fun i _=>l.length - (intOf i).toNat)
 case atStart=>exact ⟨0,Nat.zero_le _,rfl,Below.refl _ _,Zh (fun j hj=>by omega)⟩
 case round =>
  obtain ⟨k,hk,rfl,hb,hn⟩:=hrel;obtain ⟨w2,rfl⟩:∃ w2:World,w2 = wr:=⟨_,rfl⟩;have hsz:=hb.size;by_cases hlt:k < l.length
  ·obtain ⟨b,off,x,y,z,rfl,hbb,hc0,hc1,hc2,hs⟩:=h.at_ hlt
   have HX:=Zh h;rw [<- hb.cell (p:=⟨b,_,none⟩) hbb] at hc0 hc1 hc2;have hbr:b < w2.heap.size:=by omega
   by_cases hh0:x < 0
   ·have HE:=Zh (check_bad hlt hn.out (fault_is hs.out (e:=2) (by unfold aloneV; rw [if_neg Zo]) Zd) Zd)
    go_wp2;go_ret2;rw [<- HV.out,HE.out];exact ⟨rfl,hb.alloc hsz _⟩
   ·have hm0:0 <= x:=by omega
    clear hh0;by_cases hh1:3 < x
    ·have HE:=Zh (check_bad hlt hn.out (fault_is hs.out (e:=2) (by unfold aloneV; rw [if_neg Zo]) Zd) Zd)
     go_wp2;go_ret2;rw [<- HV.out,HE.out];exact ⟨rfl,hb.alloc hsz _⟩
    ·have hm1:x <= 3:=by omega
     clear hh1;by_cases hh2:y < 0
     ·have HE:=Zh (check_bad hlt hn.out (fault_is hs.out (e:=4) (by unfold aloneV; rw [if_pos Zo,if_neg Zo]) Zd) Zd)
      go_wp2;go_ret2;rw [<- HV.out,HE.out];exact ⟨rfl,hb.alloc hsz _⟩
     ·have hm2:0 <= y:=by omega
      clear hh2;by_cases hh3:40320 < y
      ·have HE:=Zh (check_bad hlt hn.out (fault_is hs.out (e:=4) (by unfold aloneV; rw [if_pos Zo,if_neg Zo]) Zd) Zd)
       go_wp2;go_ret2;rw [<- HV.out,HE.out];exact ⟨rfl,hb.alloc hsz _⟩
      ·have hm3:y <= 40320:=by omega
       clear hh3;by_cases hh4:z < 0
       ·have HE:=Zh (check_bad hlt hn.out (fault_is hs.out (e:=4) (by unfold aloneV; rw [if_pos Zo,if_neg Zo]) Zd) Zd)
        go_wp2;go_ret2;rw [<- HV.out,HE.out];exact ⟨rfl,hb.alloc hsz _⟩
       ·have hm4:0 <= z:=by omega
        clear hh4;by_cases hh5:40320 < z
        ·have HE:=Zh (check_bad hlt hn.out (fault_is hs.out (e:=4) (by unfold aloneV; rw [if_pos Zo,if_neg Zo]) Zd) Zd)
         go_wp2;go_ret2;rw [<- HV.out,HE.out];exact ⟨rfl,hb.alloc hsz _⟩
        ·have hm5:z <= 40320:=by omega
         clear hh5;by_cases hh6:z <= y
         ·have HE:=Zh (check_bad hlt hn.out (fault_is hs.out (e:=3) (by unfold aloneV; rw [if_pos Zo,if_pos Zo,if_neg Zo]) Zd) Zd)
          go_wp2;go_ret2;rw [<- HV.out,HE.out];exact ⟨rfl,hb.alloc hsz _⟩
         ·have hm6:y < z:=by omega
          clear hh6;have HA:=Zh (alone_zero.2 (show (0 <= x /\ x < 4) /\ (0 <= y /\ y < z /\ z <= 40320) by omega));have q1:∀ p:BelowOf (w2.alloc (.cells #[.int .i64 x,.int .i64 y,.int .i64 z] 50)),p.world.cell? ⟨w2.heap.size,0,none⟩ = some (.int .i64 x):=fun p=>p.cell (by simp)
          have q2:∀ p:BelowOf (w2.alloc (.cells #[.int .i64 x,.int .i64 y,.int .i64 z] 50)),p.world.cell? ⟨w2.heap.size,1,none⟩ = some (.int .i64 y):=fun p=>p.cell (by simp)
          have q3:∀ p:BelowOf (w2.alloc (.cells #[.int .i64 x,.int .i64 y,.int .i64 z] 50)),p.world.cell? ⟨w2.heap.size,2,none⟩ = some (.int .i64 z):=fun p=>p.cell (by simp)
          by_cases hk0:k = 0
          ·subst hk0
           simp only [Nat.zero_mul,Nat.add_zero] at hc0 hc1 hc2;have HN:=Zh (fault_one (by rw [fault_first hs.out,HA.out]));have hg:decide ((0:Int) < 0) = false:=by decide
           go_wp2;refine wp_region_bel Zk Zk ?_
           repeat (go_big_quiet_step (first | (fail)))
           refine wpQuiet_nil ?_;refine bel_all fun wq hbq=>?_
           clear q1 q2 q3;have HB:=(hb.alloc hsz (.cells #[.int .i64 x,.int .i64 y,.int .i64 z] 50)).trans (hbq.mono (by simp; omega));go_wp2;refine wp_region_bel Zk Zk ?_
           repeat (go_big_quiet_step (fail))
           refine wpQuiet_nil ?_;refine bel_all fun wq2 hbq2=>?_
           go_wp2;go_roundw
           case rel=>exact ⟨0 + 1,by omega,by go_num,HB.trans (hbq2.mono HB.size),HN⟩
           case measure=>simp [intOf]; omega
          ·obtain ⟨j,hj⟩:∃ j,k = j + 1:=⟨k - 1,by omega⟩
           have HJ:=Zh hj;have hkj:(k:Int) - 1 = (j:Int):=by omega
           have hjl:j < l.length:=by omega
           have hg1:(0:Int) < (k:Int):=by omega
           have hg2:decide (0 < k) = true:=decide_eq_true Zo;clear hj hk0;obtain ⟨b2,off2,p_,q,r,he2,_,hd0,hd1,hd2,ht⟩:=HX.out.at_ hjl;simp only [Option.some.injEq,Addr.mk.injEq,and_true] at he2;obtain ⟨rfl,rfl⟩:=he2;rw [<- hb.cell (p:=⟨b,_,none⟩) hbb] at hd0 hd1 hd2;have HF:=Zh (show faultV l k = behindV r y by rw [HJ.out,fault_next (by rw [<- HJ.out]; exact hs.out) HA.out ht.out]);clear HX HJ;have q4:∀ p:BelowOf (w2.alloc (.cells #[.int .i64 x,.int .i64 y,.int .i64 z] 50)),p.world.cell? ⟨b,off + j * 3 + 2,none⟩ = some (.int .i64 r):=fun p=>p.cell (c_al _ hd2)
           have HB0:=hb.alloc hsz (.cells #[.int .i64 x,.int .i64 y,.int .i64 z] 50);by_cases h8:r < y
           ·have h8d:decide (r < y) = true:=decide_eq_true h8
            have HE:=Zh (check_bad hlt hn.out (HF.out.trans (show behindV r y = 5 by unfold behindV; rw [if_pos h8])) Zd);go_wp2;refine wp_region_bel Zk Zk ?_
            repeat (go_big_quiet_step (first | (fail)))
            refine wpQuiet_nil ?_;refine bel_all fun wq hbq=>?_
            clear q1 q2 q3 q4;go_wp2;go_ret2;rw [<- HV.out,HE.out];exact ⟨rfl,HB0.trans (hbq.mono HB0.size)⟩
           ·have h8d:decide (r < y) = false:=decide_eq_false h8
            have h8':y <= r:=by omega
            by_cases h9:y < r
            ·have h9d:decide (y < r) = true:=decide_eq_true h9
             have HE:=Zh (check_bad hlt hn.out (HF.out.trans (show behindV r y = 6 by unfold behindV; rw [if_neg h8,if_pos h9])) Zd);clear h8;go_wp2;refine wp_region_bel Zk Zk ?_
             repeat (go_big_quiet_step (first | (fail)))
             refine wpQuiet_nil ?_;refine bel_all fun wq hbq=>?_
             clear q1 q2 q3 q4;have q5:∀ p:BelowOf wq,p.world.cell? ⟨w2.heap.size,1,none⟩ = some (.int .i64 y):=fun p=>p.cell (c_cl (by simp) hbq)
             have q6:∀ p:BelowOf wq,p.world.cell? ⟨b,off + j * 3 + 2,none⟩ = some (.int .i64 r):=fun p=>p.cell (c_cl (c_al _ hd2) hbq)
             go_wp2;refine wp_region_bel Zk Zk ?_
             repeat (go_big_quiet_step (fail))
             refine wpQuiet_nil ?_;refine bel_all fun wq2 hbq2=>?_
             clear q5 q6;go_wp2;go_ret2;rw [<- HV.out,HE.out];exact ⟨rfl,b_cl (HB0.trans (hbq.mono HB0.size)) Zl hbq2⟩
            ·have h9d:decide (y < r) = false:=decide_eq_false h9
             have h9':r <= y:=by omega
             have HN:=Zh (show ∀ i,i < k + 1 -> faultV l i = 0 from fun i hi=>by
              by_cases e:i = k
              ·rw [e,HF.out]; unfold behindV; rw [if_neg h8,if_neg h9]
              ·exact hn.out i Zo)
             clear h8 h9;go_wp2;refine wp_region_bel Zk Zk ?_
             repeat (go_big_quiet_step (first | (fail)))
             refine wpQuiet_nil ?_;refine bel_all fun wq hbq=>?_
             clear q1 q2 q3 q4;have q5:∀ p:BelowOf wq,p.world.cell? ⟨w2.heap.size,1,none⟩ = some (.int .i64 y):=fun p=>p.cell (c_cl (by simp) hbq)
             have q6:∀ p:BelowOf wq,p.world.cell? ⟨b,off + j * 3 + 2,none⟩ = some (.int .i64 r):=fun p=>p.cell (c_cl (c_al _ hd2) hbq)
             go_wp2;refine wp_region_bel Zk Zk ?_
             repeat (go_big_quiet_step (fail))
             refine wpQuiet_nil ?_;refine bel_all fun wq2 hbq2=>?_
             clear q5 q6;go_wp2;go_roundw
             case rel=>exact ⟨k + 1,by omega,by go_num,b_cl (HB0.trans (hbq.mono HB0.size)) Zl hbq2,HN⟩
             case measure=>simp [intOf]; omega
  ·have hkl:k = l.length:=by omega
   have HE:=Zh (check_ok (l:=l) (fun j hj=>hn.out j Zo));go_wp2;go_ret2;rw [<- HV.out,HE.out];exact ⟨rfl,hb⟩
theorem beg_at {l:List Rc} {n:Nat} {x y z:Int} (hn:l.length = n) (h0:n ≠ 0) (h:l.getD 0 rz = (x,y,z)):beg l = y:=by
 cases l with
 | nil=>simp at hn; omega
 | cons r l=>simp at h; simp [beg,h]
theorem fin_at:∀ {l:List Rc} {j:Nat} {x y z:Int},l.length = j + 1 -> l.getD j rz = (x,y,z) -> fin l = z
 | [r],0,x,y,z,_,h=>by simp at h; simp [fin,h]
 | [r],j + 1,x,y,z,hl,_=>by simp at hl
 | r :: s :: l,0,x,y,z,hl,_=>by simp at hl
 | r :: s :: l,j + 1,x,y,z,hl,h=>by
  have:=@fin_at (s :: l) j x y z (by simpa using hl) (by simpa using h);simpa [fin] using this
theorem refbeg_any (A:Option Addr) (c n:Nat) (l:List Rc) (w:World) (hn:Hid (l.length = n)) (h:RdR w A l) (hl:n <= 4611686018427387904) :
  Calls Tryz.prog 31 #[.slice A n c] w fun e w'=>e = .returned (.int .i64 (beg l)) /\ w = w':=by
 by_cases h0:n = 0
 ·subst h0
  obtain rfl:l = []:=List.eq_nil_of_length_eq_zero hn.out;go_enter Tryz.func31,Tryz.ntmps31;go_wp2;go_ret;exact ⟨rfl,rfl⟩
 ·obtain ⟨b,off,x,y,z,rfl,hbb,hc0,hc1,hc2,hs⟩:=h.at_ (k:=0) (by rw [hn.out]; omega)
  simp only [Nat.zero_mul,Nat.add_zero] at hc0 hc1 hc2;rw [beg_at hn.out h0 hs.out];have hp:(0:Int) < (n:Int):=by omega
  have hp2:0 < n:=by omega
  have hne:((n:Int) == 0) = false:=by simp; omega
  clear h0;go_enter Tryz.func31,Tryz.ntmps31;go_wp2;go_ret;exact ⟨rfl,rfl⟩
theorem reffin_any (A:Option Addr) (c n:Nat) (l:List Rc) (w:World) (hn:Hid (l.length = n)) (h:RdR w A l) (hl:n <= 4611686018427387904) :
  Calls Tryz.prog 66 #[.slice A n c] w fun e w'=>e = .returned (.int .i64 (fin l)) /\ w = w':=by
 by_cases h0:n = 0
 ·subst h0
  obtain rfl:l = []:=List.eq_nil_of_length_eq_zero hn.out;go_enter Tryz.func66,Tryz.ntmps66;go_wp2;go_ret;exact ⟨rfl,rfl⟩
 ·obtain ⟨j,hj⟩:∃ j,n = j + 1:=⟨n - 1,by omega⟩
  obtain ⟨b,off,x,y,z,rfl,hbb,hc0,hc1,hc2,hs⟩:=h.at_ (k:=j) (by rw [hn.out]; omega);rw [fin_at (hn.out.trans hj) hs.out];have hnj:(n:Int) - 1 = (j:Int):=by omega
  have hjn:j < n:=by omega
  have hne:((n:Int) == 0) = false:=by simp; omega
  clear h0 hj;go_enter Tryz.func66,Tryz.ntmps66;go_wp2;go_ret;exact ⟨rfl,rfl⟩
end Go.Proofs.YtiamnbddbmgffaaGreatDoor
