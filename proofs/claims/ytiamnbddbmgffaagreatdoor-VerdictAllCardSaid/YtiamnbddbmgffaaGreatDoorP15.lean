/- Texts of the proofs of VerdictAudits, VerdictAll, VerdictRising, pressed: StretchOn, DutyMath, DutyList, IvalLeaf, RecLeaf, RecCheck. Conditions: as each theorem says. -/
import Derived.Test.YtiamnbddbmgffaaGreatDoorRows
import Derived.Test.YtiamnbddbmgffaaGreatDoorP14
namespace Go.Proofs.YtiamnbddbmgffaaGreatDoor
open Go.RowKit
set_option linter.unusedVariables false
def wkOf (m:Mt) (y:Nat -> Int):Wk:=⟨m.now,m.week,m.last,m.labour,y 3,y 4,y 9⟩
def wkM (m:Mt) (s:Wk):Mt:={ m with week:=s.week,last:=s.last,labour:=s.labour }
def wkY (y:Nat -> Int) (s:Wk):Nat -> Int:=fun c=>if c = 3 then s.f3 else if c = 4 then s.f4 else if c = 9 then s.f9 else y c
def t1M (x:Nat -> Int) (k:Int) (m:Mt):Mt :=
 {m with now:=m.now + 1,acc:=if k = 3 then m.acc + 1 else m.acc,day:=if k = 3 then m.day + 1 else m.day,longers:=if k = 3 /\ m.day = x 4 then m.longers + 1 else m.longers,lie:=if k = 0 then m.lie + 1 else m.lie }
def t1Y (x:Nat -> Int) (k:Int) (m:Mt) (y:Nat -> Int):Nat -> Int
 | 0=>if (k = 3 /\ x 0 < m.acc + 1) /\ y 0 < 0 then m.now else y 0
 | 1=>if (k = 3 /\ x 5 < m.day + 1) /\ y 1 < 0 then m.now else y 1
 | 2=>if (k = 3 /\ m.day = x 4 /\ x 6 < m.longers + 1) /\ y 2 < 0 then m.now else y 2
 | 5=>if (¬ k = 0 /\ x 11 - x 8 <= m.now - m.dawn) /\ y 5 < 0 then m.now else y 5
 | 7=>if (¬ k = 0 /\ x 14 <= m.now - m.sabbath) /\ y 7 < 0 then m.now else y 7
 | c=>y c
theorem wrap_lie (x:Nat -> Int) (m:Mt):(wrapM x m).lie = m.lie:=by unfold wrapM; split <;> rfl
theorem upR_none {x:Nat -> Int} {m:Mt} (h:m.lie = 0):upR x m = m /\ up8 x m = false /\ up6 x m = false:=by
 unfold upR up8 up6;rw [h];exact ⟨rfl,rfl,rfl⟩
theorem upC_none {x:Nat -> Int} {r:Mt} (k:Int) (h:r.lie = 0) :
  upC x r k = ⟨false,false,c5 x r,c7 x r,decide (k = 3) && c0 x r,decide (k = 3) && c2 x r,decide (k = 3) && c1 x r,decide (k = 3) && c3 x r,decide (k = 3) && c4 x r,decide (k = 3 ∨ k = 2) && c9 x r⟩:=by
 obtain ⟨u1,u2,u3⟩:=upR_none (x:=x) h
 have h9:c9 x (if k = 3 then driveM x r else r) = c9 x r:=by
  unfold c9 driveM d2 d1;split
  ·split <;> rfl
  ·rfl
 unfold upC;rw [u1,u2,u3];dsimp only;rw [h9]
theorem step_one {x:Nat -> Int} {k:Int} {m:Mt} (y:Nat -> Int) (hn:0 < m.now) (hl:k = 0 ∨ m.lie = 0) :
  stepM x m k = wkM (t1M x k m) ((wkOf m y).step x k) /\ ∀ c,recB (stepC x m k) y m.now c = wkY (t1Y x k m y) ((wkOf m y).step x k) c:=by
 obtain ⟨b,hb⟩:∃ b:Bool,decide (m.now % x 18 = 0) = b:=⟨_,rfl⟩
 have hw:wrapM x m = if b = true then { m with last:=m.week,week:=0,labour:=0 } else m:=by
  unfold wrapM;rw [<- hb];simp only [decide_eq_true_eq,hn,true_and]
 have hc:(wkOf m y).cut (x 18) = if b = true then { wkOf m y with last:=m.week,week:=0,labour:=0 } else wkOf m y:=by
  unfold Wk.cut;rw [<- hb];simp only [decide_eq_true_eq];rfl
 unfold Wk.step;rw [hc];by_cases hk:k = 0
 ·subst hk
  unfold stepM stepC;rw [if_pos rfl,if_pos rfl,hw,recB_zero]
  cases b
  ·refine ⟨rfl,fun c=>?_⟩
   unfold wkY t1Y Wk.plain;simp;split
   ·rename_i h; rw [h]; rfl
   ·split
    ·rename_i h; rw [h]; rfl
    ·split
     ·rename_i h; rw [h]; rfl
     ·split <;> rfl
  ·refine ⟨rfl,fun c=>?_⟩
   unfold wkY t1Y Wk.plain;simp;split
   ·rename_i h; rw [h]; rfl
   ·split
    ·rename_i h; rw [h]; rfl
    ·split
     ·rename_i h; rw [h]; rfl
     ·split <;> rfl
 ·have hl:m.lie = 0:=by omega
  obtain ⟨u1,u2,u3⟩:=upR_none (x:=x) (m:=wrapM x m) (by rw [wrap_lie]; exact hl);unfold stepM stepC;rw [if_neg hk,if_neg hk];refine ⟨?_,fun c=>?_⟩
  ·unfold upM
   rw [u1,hw];unfold driveM d2 d1 workM t1M wkM Wk.plain wkOf;by_cases h3:k = 3
   ·subst h3
    by_cases hd:m.day = x 4
    ·cases b <;> simp [hd]
    ·have hd':¬ m.day + 1 = x 4 + 1:=by omega
     cases b <;> simp [hd,hd']
   ·by_cases h2:k = 2
    ·subst h2
     cases b <;> simp
    ·cases b <;> simp [h3,h2,hk]
  ·rw [recB_sum,upC_none k (by rw [wrap_lie]; exact hl),hw]
   unfold wkY t1Y Wk.plain Cl.get c5 c7 c0 c2 c1 c3 c4 c9;by_cases e0:c = 0
   ·subst e0; cases b <;> simp
   by_cases e1:c = 1
   ·subst e1; cases b <;> simp
   by_cases e2:c = 2
   ·subst e2
    have:(m.day + 1 = x 4 + 1) ↔ (m.day = x 4):=by omega
    cases b <;> simp [this]
   by_cases e3:c = 3
   ·subst e3; cases b <;> simp [wkOf]
   by_cases e4:c = 4
   ·subst e4; cases b <;> simp [wkOf]
   by_cases e5:c = 5
   ·subst e5; cases b <;> simp [hk]
   by_cases e6:c = 6
   ·subst e6; cases b <;> simp
   by_cases e7:c = 7
   ·subst e7; cases b <;> simp [hk]
   by_cases e8:c = 8
   ·subst e8; cases b <;> simp
   by_cases e9:c = 9
   ·subst e9; cases b <;> simp [wkOf]
   simp [e3,e4,e9]
def thrM (x:Nat -> Int) (k:Int) (n:Nat) (m:Mt):Mt :=
 {m with now:=m.now + n,acc:=if k = 3 then m.acc + n else m.acc,day:=if k = 3 then m.day + n else m.day,longers:=if k = 3 /\ m.day <= x 4 /\ x 4 < m.day + n then m.longers + 1 else m.longers,lie:=if k = 0 then m.lie + n else m.lie }
def thrY (x:Nat -> Int) (k:Int) (n:Nat) (m:Mt) (y:Nat -> Int):Nat -> Int
 | 0=>if k = 3 /\ m.now + x 0 - m.acc < m.now + n /\ y 0 < 0 then m.now + x 0 - m.acc else y 0
 | 1=>if k = 3 /\ m.now + x 5 - m.day < m.now + n /\ y 1 < 0 then m.now + x 5 - m.day else y 1
 | 2=>if k = 3 /\ (m.day <= x 4 /\ x 4 < m.day + n) /\ x 6 < m.longers + 1 /\ y 2 < 0 then m.now + x 4 - m.day else y 2
 | 5=>if ¬ k = 0 /\ m.dawn + x 11 - x 8 < m.now + n /\ y 5 < 0 then m.dawn + x 11 - x 8 else y 5
 | 7=>if ¬ k = 0 /\ m.sabbath + x 14 < m.now + n /\ y 7 < 0 then m.sabbath + x 14 else y 7
 | c=>y c
def Noted (x:Nat -> Int) (k:Int) (m:Mt) (y:Nat -> Int):Prop :=
 (k = 0 ∨ m.lie = 0) /\ (k = 3 -> x 0 < m.acc -> 0 <= y 0) /\ (k = 3 -> x 5 < m.day -> 0 <= y 1) /\ (¬ k = 0 -> m.dawn + x 11 - x 8 < m.now -> 0 <= y 5) /\ (¬ k = 0 -> m.sabbath + x 14 < m.now -> 0 <= y 7) /\ (wkOf m y).Ok x k
theorem thrM_zero (x:Nat -> Int) (k:Int) (m:Mt):thrM x k 0 m = m:=by
 unfold thrM;obtain ⟨a0,a1,a2,a3,a4,a5,a6,a7,a8,a9,a10,a11,a12,a13⟩:=m;simp;intro _ h1 h2;omega
theorem thrM_next (x:Nat -> Int) (k:Int) (n:Nat) (m:Mt):t1M x k (thrM x k n m) = thrM x k (n + 1) m:=by
 unfold thrM t1M;obtain ⟨a0,a1,a2,a3,a4,a5,a6,a7,a8,a9,a10,a11,a12,a13⟩:=m;dsimp only;by_cases h3:k = 3
 ·subst h3
  simp only [if_true,true_and,show ¬ ((3:Int) = 0) by decide,if_false];congr 1
  ·omega
  ·omega
  ·omega
  ·repeat' split
   all_goals omega
 ·by_cases h0:k = 0
  ·subst h0
   simp only [if_true,false_and,if_false,show ¬ ((0:Int) = 3) by decide];congr 1
   ·omega
   ·omega
  ·simp only [h3,h0,if_false,false_and]
   congr 1;omega
theorem thrY_zero {x:Nat -> Int} {k:Int} {m:Mt} {y:Nat -> Int} (h:Noted x k m y):∀ c,thrY x k 0 m y c = y c:=by
 obtain ⟨-,h0,h1,h5,h7,-⟩:=h;intro c;unfold thrY;split
 ·rw [if_neg]; intro ⟨hk,h,_⟩; have:=h0 hk; omega
 ·rw [if_neg]; intro ⟨hk,h,_⟩; have:=h1 hk; omega
 ·rw [if_neg]; intro ⟨hk,h,_⟩; omega
 ·rw [if_neg]; intro ⟨hk,h,_⟩; have:=h5 hk; omega
 ·rw [if_neg]; intro ⟨hk,h,_⟩; have:=h7 hk; omega
 ·rfl
theorem thrY_next {x:Nat -> Int} {k:Int} {m:Mt} {y:Nat -> Int} (n:Nat) (h:Noted x k m y):∀ c,t1Y x k (thrM x k n m) (thrY x k n m y) c = thrY x k (n + 1) m y c:=by
 obtain ⟨-,h0,h1,h5,h7,hw⟩:=h;have hn:0 < m.now:=hw.1;intro c;by_cases e0:c = 0
 ·subst e0
  show (if (k = 3 /\ x 0 < (thrM x k n m).acc + 1) /\ thrY x k n m y 0 < 0 then (thrM x k n m).now else thrY x k n m y 0) = thrY x k (n + 1) m y 0
  unfold thrM thrY;dsimp only;by_cases hk:k = 3
  ·have:=h0 hk
   simp only [hk,if_true,true_and]
   repeat' split
   all_goals omega
  ·simp only [hk,false_and,if_false]
 by_cases e1:c = 1
 ·subst e1
  show (if (k = 3 /\ x 5 < (thrM x k n m).day + 1) /\ thrY x k n m y 1 < 0 then (thrM x k n m).now else thrY x k n m y 1) = thrY x k (n + 1) m y 1
  unfold thrM thrY;dsimp only;by_cases hk:k = 3
  ·have:=h1 hk
   simp only [hk,if_true,true_and]
   repeat' split
   all_goals omega
  ·simp only [hk,false_and,if_false]
 by_cases e2:c = 2
 ·subst e2
  show (if (k = 3 /\ (thrM x k n m).day = x 4 /\ x 6 < (thrM x k n m).longers + 1) /\ thrY x k n m y 2 < 0 then (thrM x k n m).now else thrY x k n m y 2) = thrY x k (n + 1) m y 2
  unfold thrM thrY;dsimp only;by_cases hk:k = 3
  ·simp only [hk,if_true,true_and]
   repeat' split
   all_goals omega
  ·simp only [hk,false_and,if_false]
 by_cases e5:c = 5
 ·subst e5
  show (if (¬ k = 0 /\ x 11 - x 8 <= (thrM x k n m).now - (thrM x k n m).dawn) /\ thrY x k n m y 5 < 0 then (thrM x k n m).now else thrY x k n m y 5) = thrY x k (n + 1) m y 5
  unfold thrM thrY;dsimp only;by_cases hk:k = 0
  ·simp only [hk,not_true_eq_false,false_and,if_false]
  ·have:=h5 hk
   simp only [hk,not_false_eq_true,true_and]
   repeat' split
   all_goals omega
 by_cases e7:c = 7
 ·subst e7
  show (if (¬ k = 0 /\ x 14 <= (thrM x k n m).now - (thrM x k n m).sabbath) /\ thrY x k n m y 7 < 0 then (thrM x k n m).now else thrY x k n m y 7) = thrY x k (n + 1) m y 7
  unfold thrM thrY;dsimp only;by_cases hk:k = 0
  ·simp only [hk,not_true_eq_false,false_and,if_false]
  ·have:=h7 hk
   simp only [hk,not_false_eq_true,true_and]
   repeat' split
   all_goals omega
 have a:t1Y x k (thrM x k n m) (thrY x k n m y) c = thrY x k n m y c:=by
  unfold t1Y; split <;> first | (exfalso; omega) | rfl
 have b:∀ j,thrY x k j m y c = y c:=fun j=>by unfold thrY; split <;> first | (exfalso; omega) | rfl
 rw [a,b,b]
theorem walk_on {x:Nat -> Int} {k:Int} {m:Mt} {y:Nat -> Int} (h:Noted x k m y):∀ n:Nat,
  (walkV x k n m y).1 = wkM (thrM x k n m) (Wk.run x k n (wkOf m y)) /\ ∀ c,(walkV x k n m y).2 c = wkY (thrY x k n m y) (Wk.run x k n (wkOf m y)) c
 | 0=>by
  refine ⟨by rw [thrM_zero]; rfl,fun c=>?_⟩;have:=thrY_zero h c;unfold wkY;rw [this]
  show y c = _
  split
  ·rename_i e; rw [e]; rfl
  split
  ·rename_i e; rw [e]; rfl
  split
  ·rename_i e; rw [e]; rfl
  ·rfl
 | n + 1=>by
  obtain ⟨e1,e2⟩:=walk_on h n;rw [walkV_snoc];have hp:=Wk.pos_run x k (wkOf m y) n;obtain ⟨S,hS⟩:∃ S,Wk.run x k n (wkOf m y) = S:=⟨_,rfl⟩;rw [hS] at e1 e2 hp;have hs:Wk.run x k (n + 1) (wkOf m y) = S.step x k:=by show (Wk.run x k n (wkOf m y)).step x k = _; rw [hS]
  rw [hs];have hpos:(wkOf m y).pos = m.now:=rfl;have e3:(walkV x k n m y).1.now = m.now + n:=by rw [e1]; rfl
  have e4:wkOf (walkV x k n m y).1 (walkV x k n m y).2 = S:=by
   unfold wkOf;rw [e3,<- hpos,<- hp,e1,e2 3,e2 4,e2 9];rfl
  have hn:0 < m.now:=h.2.2.2.2.2.1
  have hl:k = 0 ∨ (walkV x k n m y).1.lie = 0:=by
   rcases h.1 with h | h
   ·exact Or.inl h
   ·by_cases hk:k = 0
    ·exact Or.inl hk
    ·right
     rw [e1]
     show (if k = 0 then m.lie + n else m.lie) = 0
     rw [if_neg hk]; exact h
  obtain ⟨s1,s2⟩:=step_one (x:=x) (k:=k) (walkV x k n m y).2 (by rw [e3]; omega) hl;rw [e4] at s1 s2;refine ⟨?_,fun c=>?_⟩
  ·show stepM x (walkV x k n m y).1 k = _
   rw [s1,e1,<- thrM_next];rfl
  ·show recB (stepC x (walkV x k n m y).1 k) (walkV x k n m y).2 (walkV x k n m y).1.now c = _
   rw [s2];unfold wkY;split
   ·rfl
   split
   ·rfl
   split
   ·rfl
   rename_i n3 n4 n9;rw [<- thrY_next n h c];have hy:∀ d,¬ d = 3 -> ¬ d = 4 -> ¬ d = 9 -> (walkV x k n m y).2 d = thrY x k n m y d:=fun d h3 h4 h9=>by rw [e2 d]; unfold wkY; rw [if_neg h3,if_neg h4,if_neg h9]
   rw [e1];unfold t1Y;split
   ·rw [hy 0 Zd Zd Zd]; rfl
   ·rw [hy 1 Zd Zd Zd]; rfl
   ·rw [hy 2 Zd Zd Zd]; rfl
   ·rw [hy 5 Zd Zd Zd]; rfl
   ·rw [hy 7 Zd Zd Zd]; rfl
   ·exact hy _ n3 n4 n9
theorem noted_first {x:Nat -> Int} {k:Int} {m:Mt} (hm:MayM m) (hn:m.now < 40320):Noted x k (stepM x m k) (recB (stepC x m k) noneF m.now):=by
 have h1:=may_step (x:=x) k hm hn;have h0:=hm.1.1;by_cases hk:k = 0
 ·subst hk
  obtain ⟨h1,h2⟩:=h1;obtain ⟨-,-,-,-,-,-,-,-,i1,i2,i3⟩:=h1;refine ⟨Or.inl rfl,fun h=>by omega,fun h=>by omega,fun h=>absurd rfl h,fun h=>absurd rfl h,by show 0 < (stepM x m 0).now; omega,i1.1,i2.1,i3.1,fun h=>by omega,fun h=>by omega,fun h=>by omega⟩
 ·obtain ⟨h1,h2⟩:=h1
  obtain ⟨-,-,-,-,-,-,-,-,i1,i2,i3⟩:=h1;have hwl:0 <= (wrapM x m).lie:=by rw [wrap_lie]; exact hm.2.2.1.1
  have hlie:(upR x (wrapM x m)).lie = 0:=by
   unfold upR;split
   ·rfl
   ·omega
  have hnow:(upR x (wrapM x m)).now = m.now:=by rw [(may_upR (may_wrap (x:=x) hm).1).2,(may_wrap hm).2]
  have e1:stepM x m k = { upM x (wrapM x m) k with now:=(upM x (wrapM x m) k).now + 1 }:=by unfold stepM; rw [if_neg hk]
  have e2:stepC x m k = (upC x (wrapM x m) k).sum:=by unfold stepC; rw [if_neg hk]
  have F:∀ c,recB (stepC x m k) noneF m.now c = if (upC x (wrapM x m) k).get c = true /\ noneF c < 0 then m.now else noneF c:=fun c=>by rw [e2,recB_sum]
  have P:∀ c,(upC x (wrapM x m) k).get c = true -> 0 <= recB (stepC x m k) noneF m.now c:=fun c h=>by
   rw [F c,if_pos ⟨h,by show (-1:Int) < 0; decide⟩]; exact h0
  unfold upM at e1;dsimp only at e1;have G:∀ c,(upC x (wrapM x m) k).get c = (Cl.mk (up8 x (wrapM x m)) (up6 x (wrapM x m)) (c5 x (upR x (wrapM x m))) (c7 x (upR x (wrapM x m))) (decide (k = 3) && c0 x (upR x (wrapM x m))) (decide (k = 3) && c2 x (upR x (wrapM x m))) (decide (k = 3) && c1 x (upR x (wrapM x m))) (decide (k = 3) && c3 x (upR x (wrapM x m))) (decide (k = 3) && c4 x (upR x (wrapM x m))) (decide (k = 3 ∨ k = 2) && c9 x (if k = 3 then driveM x (upR x (wrapM x m)) else upR x (wrapM x m)))).get c:=fun c=>rfl
  generalize upR x (wrapM x m) = r at *;by_cases h3:k = 3
  ·subst h3
   rw [if_pos (Or.inl rfl),if_pos rfl] at e1;rw [if_pos rfl] at G;have hd:driveM x r = { r with acc:=r.acc + 1,day:=r.day + 1,longers:=if r.day + 1 = x 4 + 1 then r.longers + 1 else r.longers,week:=r.week + 1 }:=by unfold driveM d2 d1; dsimp only; split <;> rfl
   rw [hd] at e1 G;unfold workM at e1;dsimp only at e1;have q0:(stepM x m 3).acc = r.acc + 1:=by rw [e1]
   have q1:(stepM x m 3).day = r.day + 1:=by rw [e1]
   have q2:(stepM x m 3).dawn = r.dawn:=by rw [e1]
   have q3:(stepM x m 3).sabbath = r.sabbath:=by rw [e1]
   have q4:(stepM x m 3).week = r.week + 1:=by rw [e1]
   have q5:(stepM x m 3).last = r.last:=by rw [e1]
   have q6:(stepM x m 3).labour = r.labour + 1:=by rw [e1]
   have q7:(stepM x m 3).lie = r.lie:=by rw [e1]
   refine ⟨Or.inr (by rw [q7]; exact hlie),fun _ h=>P 0 ?_,fun _ h=>P 1 ?_,fun _ h=>P 5 ?_,fun _ h=>P 7 ?_,by show 0 < (stepM x m 3).now; omega,i1.1,i2.1,i3.1,fun _ h=>P 3 ?_,fun _ h=>P 4 ?_,fun _ h=>P 9 ?_⟩
   all_goals rw [G]
   ·rw [q0] at h; simpa [Cl.get,c0] using h
   ·rw [q1] at h; simpa [Cl.get,c1] using h
   ·rw [q2,h2] at h; simp only [Cl.get,c5,decide_eq_true_eq]; omega
   ·rw [q3,h2] at h; simp only [Cl.get,c7,decide_eq_true_eq]; omega
   ·replace h:x 15 < (stepM x m 3).week:=h; rw [q4] at h; simpa [Cl.get,c3] using h
   ·replace h:x 16 < (stepM x m 3).week + (stepM x m 3).last:=h; rw [q4,q5] at h; simpa [Cl.get,c4] using h
   ·replace h:x 17 < (stepM x m 3).labour:=h; rw [q6] at h; simpa [Cl.get,c9] using h
  ·rw [if_neg h3] at e1 G
   have q2:(stepM x m k).dawn = r.dawn:=by rw [e1]; split <;> rfl
   have q3:(stepM x m k).sabbath = r.sabbath:=by rw [e1]; split <;> rfl
   have q7:(stepM x m k).lie = r.lie:=by rw [e1]; split <;> rfl
   refine ⟨Or.inr (by rw [q7]; exact hlie),fun h=>absurd h h3,fun h=>absurd h h3,fun _ h=>P 5 ?_,fun _ h=>P 7 ?_,by show 0 < (stepM x m k).now; omega,i1.1,i2.1,i3.1,fun h=>absurd h h3,fun h=>absurd h h3,fun h' h=>P 9 ?_⟩
   all_goals rw [G]
   ·rw [q2,h2] at h; simp only [Cl.get,c5,decide_eq_true_eq]; omega
   ·rw [q3,h2] at h; simp only [Cl.get,c7,decide_eq_true_eq]; omega
   ·rw [if_pos h'] at e1
    have q6:(stepM x m k).labour = r.labour + 1:=by rw [e1]; rfl
    replace h:x 17 < (stepM x m k).labour:=h;rw [q6] at h;simpa [Cl.get,c9,h'] using h
abbrev Fd:=Nat -> Option (Int × Int)
def putF (F:Fd) (c:Nat) (v:Int × Int):Fd:=fun i=>if i = c /\ F i = none then some v else F i
def sinceD (x:Nat -> Int) (dawn sab p:Int) (c:Nat) (t:Int):Int :=
 if c = 0 then p else if c = 1 ∨ c = 5 then dawn else if c = 3 ∨ c = 9 then t - t % x 18 else if c = 4 then max 0 (t - t % x 18 - x 18) else sab
def sinceV (x:Nat -> Int) (m:Mt) (p:Int) (c:Nat) (t:Int):Int:=sinceD x m.dawn m.sabbath p c t
def recF (s:Nat) (F:Fd) (v:Nat -> Int × Int):Fd:=fun c=>if s.testBit c = true /\ F c = none then some (v c) else F c
def pauseV (x:Nat -> Int) (m:Mt) (p k:Int):Int:=if ¬ k = 0 /\ 0 < m.lie /\ (endW x m).brk = true then m.now else p
structure Au where
 m:Mt
 p:Int
 F:Fd
def Au.zero:Au:=⟨.zero,0,fun _=>none⟩
def Au.step (x:Nat -> Int) (a:Au) (k:Int):Au:=⟨stepM x a.m k,pauseV x a.m a.p k,recF (stepC x a.m k) a.F (fun c=>(sinceV x a.m a.p c a.m.now,a.m.now + 1))⟩
def Au.run (x:Nat -> Int) (a:Au) (ks:List Int):Au:=ks.foldl (Au.step x) a
theorem Au.run_append (x:Nat -> Int) (a:Au) (ks js:List Int):a.run x (ks ++ js) = (a.run x ks).run x js:=List.foldl_append
theorem Au.run_cons (x:Nat -> Int) (a:Au) (k:Int) (ks:List Int):a.run x (k :: ks) = (a.step x k).run x ks:=rfl
theorem Au.run_snoc (x:Nat -> Int) (a:Au) (ks:List Int) (k:Int):a.run x (ks ++ [k]) = (a.run x ks).step x k:=by rw [Au.run_append]; rfl
theorem step_stay {x:Nat -> Int} {k:Int} {m:Mt} (h:k = 0 ∨ m.lie = 0):(stepM x m k).dawn = m.dawn /\ (stepM x m k).sabbath = m.sabbath /\ (k = 0 ∨ (stepM x m k).lie = 0):=by
 have hw:(wrapM x m).dawn = m.dawn /\ (wrapM x m).sabbath = m.sabbath /\ (wrapM x m).lie = m.lie:=by unfold wrapM; split <;> exact ⟨rfl,rfl,rfl⟩
 unfold stepM;dsimp only;split
 ·rename_i hk; exact ⟨hw.1,hw.2.1,.inl hk⟩
 ·rename_i hk
  have hl:(wrapM x m).lie = 0:=by rw [hw.2.2]; exact h.resolve_left hk
  obtain ⟨u,-,-⟩:=upR_none (x:=x) hl;unfold upM;rw [u];dsimp only
  have hd:(driveM x (wrapM x m)).dawn = m.dawn /\ (driveM x (wrapM x m)).sabbath = m.sabbath /\ (driveM x (wrapM x m)).lie = 0:=by
   unfold driveM d2 d1;split <;> exact ⟨hw.1,hw.2.1,hl⟩
  split <;> split <;> first | exact ⟨hd.1,hd.2.1,.inr hd.2.2⟩ | exact ⟨hw.1,hw.2.1,.inr hl⟩
theorem step_awake {x:Nat -> Int} {k:Int} {m:Mt} (hm:0 <= m.lie):k = 0 ∨ (stepM x m k).lie = 0:=by
 by_cases hk:k = 0
 ·exact .inl hk
 ·right
  unfold stepM;rw [if_neg hk];have hwl:0 <= (wrapM x m).lie:=by rw [wrap_lie]; exact hm
  have hr:(upR x (wrapM x m)).lie = 0:=by
   unfold upR;split
   ·rfl
   ·omega
  unfold upM driveM d2 d1;dsimp only;split <;> split <;> first | (split <;> exact hr) | exact hr
def comb (x:Nat -> Int) (d s p:Int) (F:Fd) (y:Nat -> Int):Fd:=fun c=>if F c = none /\ 0 <= y c then some (sinceD x d s p c (y c),y c + 1) else F c
theorem comb_none (x:Nat -> Int) (d s p:Int) (F:Fd):comb x d s p F noneF = F:=by
 funext c;unfold comb noneF;rw [if_neg];omega
theorem comb_rec (x:Nat -> Int) (d s p:Int) (F:Fd) (y:Nat -> Int) (S:Nat) (t:Int) (ht:0 <= t) :
  recF S (comb x d s p F y) (fun c=>(sinceD x d s p c t,t + 1)) = comb x d s p F (recB S y t):=by
 funext c;unfold recF comb recB
 cases hF:F c with
 | some v=>simp
 | none =>
  by_cases hy:0 <= y c
  ·have:¬ (y c < 0):=by omega
   simp [hy,this]
  ·have h2:y c < 0:=by omega
   by_cases hS:S.testBit c = true
   ·simp [hy,h2,hS,ht]
   ·simp [hy,h2,hS]
theorem run_same (x:Nat -> Int) (k d s p:Int) (F:Fd):∀ (n:Nat) (m:Mt) (y:Nat -> Int),(k = 0 ∨ m.lie = 0) -> m.dawn = d -> m.sabbath = s -> MayM m -> m.now + n <= 40320 ->
  Au.run x ⟨m,p,comb x d s p F y⟩ (List.replicate n k) = ⟨(walkV x k n m y).1,p,comb x d s p F (walkV x k n m y).2⟩
 | 0,m,y,_,_,_,_,_=>rfl
 | n + 1,m,y,hl,hd,hs,hm,hn=>by
  have h1:=may_step (x:=x) k hm Zo;obtain ⟨s1,s2,s3⟩:=step_stay (x:=x) hl;rw [List.replicate_succ,Au.run_cons]
  have e:Au.step x ⟨m,p,comb x d s p F y⟩ k = ⟨stepM x m k,p,comb x d s p F (recB (stepC x m k) y m.now)⟩:=by
   unfold Au.step;dsimp only;congr 1
   ·unfold pauseV
    rw [if_neg];rintro ⟨a,b,-⟩
    rcases hl with h | h
    ·exact a h
    ·omega
   ·rw [<- comb_rec _ _ _ _ _ _ _ _ hm.1.1]
    unfold sinceV;rw [hd,hs]
  rw [e];exact run_same x k d s p F n _ _ s3 (s1.trans hd) (s2.trans hs) h1.1 (by rw [h1.2]; omega)
theorem run_record (x:Nat -> Int) (k:Int) (a:Au) (n:Nat) (hm:MayM a.m) (hn:a.m.now + n + 1 <= 40320) :
  a.run x (List.replicate (n + 1) k) = ⟨(walkV x k n (stepM x a.m k) noneF).1,pauseV x a.m a.p k,comb x (stepM x a.m k).dawn (stepM x a.m k).sabbath (pauseV x a.m a.p k) (a.step x k).F (walkV x k n (stepM x a.m k) noneF).2⟩:=by
 have h1:=may_step (x:=x) k hm Zo;rw [List.replicate_succ,Au.run_cons];have:=run_same x k (stepM x a.m k).dawn (stepM x a.m k).sabbath (pauseV x a.m a.p k) (a.step x k).F n (stepM x a.m k) noneF (step_awake hm.2.2.1.1) rfl rfl h1.1 (by rw [h1.2]; omega);rw [comb_none] at this;exact this
structure Au.Ok (a:Au) (t:Int):Prop where
 may:MayM a.m
 now:a.m.now = t
 lie:a.m.dawn + a.m.lie <= a.m.now
 p0:0 <= a.p
 p1:a.p <= t
 F:∀ c f u,a.F c = some (f,u) -> c < 10 /\ 0 <= f /\ f < u /\ u <= t
theorem Au.ok_zero:Au.zero.Ok 0 where
 may:=by unfold MayM Au.zero Mt.zero; simp
 now:=rfl
 lie:=by unfold Au.zero Mt.zero; decide
 p0:=Int.le_refl _
 p1:=Int.le_refl _
 F:=fun c f u h=>by cases h
theorem mod_le {t L:Int} (h0:0 <= t) (hL:1 <= L):0 <= t - t % L /\ t - t % L <= t:=by
 have h1:=Int.emod_nonneg t (show L ≠ 0 by omega);have h2:=Int.mul_ediv_add_emod t L;have h3:0 <= t / L:=Int.ediv_nonneg h0 Zo;have h4:0 <= L * (t / L):=Int.mul_nonneg Zo h3;omega
theorem since_le {x:Nat -> Int} {d s p t:Int} (c:Nat) (h0:0 <= t) (hL:1 <= x 18) (hd:0 <= d /\ d <= t) (hs:0 <= s /\ s <= t) (hp:0 <= p /\ p <= t):0 <= sinceD x d s p c t /\ sinceD x d s p c t <= t:=by
 have:=mod_le h0 hL;unfold sinceD;split
 ·exact hp
 split
 ·exact hd
 split
 ·exact this
 split
 ·omega
 ·exact hs
theorem lie_step {x:Nat -> Int} {k:Int} {m:Mt} (hm:MayM m) (hn:m.now < 40320) (h:m.dawn + m.lie <= m.now):(stepM x m k).dawn + (stepM x m k).lie <= (stepM x m k).now:=by
 by_cases hk:k = 0
 ·have hw:(wrapM x m).dawn = m.dawn /\ (wrapM x m).lie = m.lie /\ (wrapM x m).now = m.now:=by unfold wrapM; split <;> exact ⟨rfl,rfl,rfl⟩
  unfold stepM;rw [if_pos hk];dsimp only;omega
 ·have h1:=may_step (x:=x) k hm hn
  have h2:=(step_awake (x:=x) (k:=k) hm.2.2.1.1).resolve_left hk;rw [h2];have:=h1.1.2.2.2.1;omega
theorem Au.ok_step {x:Nat -> Int} {a:Au} {t:Int} (k:Int) (hL:1 <= x 18) (h:a.Ok t) (ht:t < 40320):(a.step x k).Ok (t + 1):=by
 have hn:=h.now;have hm:=h.may;have h1:=may_step (x:=x) k hm Zo;refine ⟨h1.1,by show (stepM x a.m k).now = _; rw [h1.2,hn],lie_step hm Zo h.lie,?_,?_,?_⟩
 ·show 0 <= pauseV x a.m a.p k
  unfold pauseV;split
  ·exact hm.1.1
  ·exact h.p0
 ·show pauseV x a.m a.p k <= t + 1
  unfold pauseV;have:=h.p1;split <;> omega
 ·intro c f u hF
  have hF':recF (stepC x a.m k) a.F (fun c=>(sinceV x a.m a.p c a.m.now,a.m.now + 1)) c = some (f,u):=hF;unfold recF at hF';split at hF'
  ·rename_i hc
   have hc10:c < 10:=by
    refine Nat.lt_of_not_le fun hle=>?_
    have:=Nat.testBit_lt_two_pow (Nat.lt_of_lt_of_le (stepC_lt x a.m k) (Nat.pow_le_pow_right (n:=2) Zo hle));rw [this] at hc
    cases hc.1
   have e:=Option.some.inj hF';have e1:sinceV x a.m a.p c a.m.now = f:=congrArg Prod.fst e;have e2:a.m.now + 1 = u:=congrArg Prod.snd e;have hp0:=h.p0;have hp1:=h.p1;have:=since_le (x:=x) c (show 0 <= a.m.now from hm.1.1) hL hm.2.2.2.1 hm.2.2.2.2.2.2.2.1 ⟨hp0,by omega⟩;unfold sinceV at e1;rw [e1] at this;omega
  ·have:=h.F c f u hF'
   omega
theorem Au.ok_run {x:Nat -> Int} (hL:1 <= x 18):∀ (ks:List Int) {a:Au} {t:Int},a.Ok t -> t + ks.length <= 40320 -> (a.run x ks).Ok (t + ks.length)
 | [],a,t,h,_=>by simpa [Au.run] using h
 | k :: ks,a,t,h,hn=>by
  have hn':t + ks.length + 1 <= 40320:=by rw [List.length_cons] at hn; omega
  have:=Au.ok_run hL ks (Au.ok_step k hL h Zo) Zo;rw [Au.run_cons,List.length_cons];rw [show t + 1 + (ks.length:Int) = t + ((ks.length + 1:Nat):Int) by omega] at this;exact this
theorem step_F (x:Nat -> Int) (a:Au) (k:Int) (c:Nat):(a.step x k).F c = if (stepC x a.m k).testBit c = true /\ a.F c = none then some (sinceV x a.m a.p c a.m.now,a.m.now + 1) else a.F c:=rfl
def oneF (o:Option (Int × Int)):Nat:=if o.isSome then 1 else 0
def cntF (F:Fd):Nat:=oneF (F 0) + oneF (F 1) + oneF (F 2) + oneF (F 3) + oneF (F 4) + oneF (F 5) + oneF (F 6) + oneF (F 7) + oneF (F 8) + oneF (F 9)
theorem oneF_le (o:Option (Int × Int)):oneF o <= 1:=by unfold oneF; split <;> omega
theorem cntF_le (F:Fd):cntF F <= 10:=by
 have h0:=oneF_le (F 0); have h1:=oneF_le (F 1); have h2:=oneF_le (F 2); have h3:=oneF_le (F 3); have h4:=oneF_le (F 4); have h5:=oneF_le (F 5); have h6:=oneF_le (F 6); have h7:=oneF_le (F 7); have h8:=oneF_le (F 8); have h9:=oneF_le (F 9);unfold cntF;omega
theorem cntF_put {F:Fd} {c:Nat} (v:Int × Int) (hc:c < 10) (h:F c = none):cntF (putF F c v) = cntF F + 1:=by
 have e:∀ i,putF F c v i = if i = c then some v else F i:=fun i=>by
  unfold putF;by_cases hi:i = c
  ·subst hi; simp [h]
  ·simp [hi]
 have o1:oneF (some v) = 1:=rfl;have o0:oneF (F c) = 0:=by rw [h]; rfl
 unfold cntF;simp only [e];have:c = 0 ∨ c = 1 ∨ c = 2 ∨ c = 3 ∨ c = 4 ∨ c = 5 ∨ c = 6 ∨ c = 7 ∨ c = 8 ∨ c = 9:=by omega
 rcases this with rfl | rfl | rfl | rfl | rfl | rfl | rfl | rfl | rfl | rfl <;> (simp; omega)
structure Rep (l:List Rc) (F:Fd):Prop where
 mem:∀ r:Rc,r ∈ l ↔ ∃ c:Nat,c < 10 /\ F c = some r.2 /\ r.1 = (c:Int)
 len:l.length = cntF F
theorem Rep.nil:Rep [] (fun _=>none):=⟨fun r=>by simp,rfl⟩
theorem Rep.le {l:List Rc} {F:Fd} (h:Rep l F):l.length <= 10:=by rw [h.len]; exact cntF_le F
theorem Rep.put {l:List Rc} {F:Fd} {c:Nat} {f t:Int} (h:Rep l F) (hc:c < 10) (hF:F c = none):Rep (l ++ [((c:Int),f,t)]) (putF F c (f,t)) where
 len:=by rw [List.length_append,h.len,cntF_put _ hc hF]; rfl
 mem r:=by
  rw [List.mem_append,h.mem,List.mem_singleton];unfold putF;constructor
  ·rintro (⟨i,hi,hv,hr⟩ | rfl)
   ·refine ⟨i,hi,?_,hr⟩
    rw [if_neg,hv];rintro ⟨_,h2⟩;rw [hv] at h2; cases h2
   ·exact ⟨c,hc,by rw [if_pos ⟨rfl,hF⟩],rfl⟩
  ·rintro ⟨i,hi,hv,hr⟩
   split at hv
   ·rename_i hh
    obtain ⟨rfl,_⟩:=hh;right;have:=Option.some.inj hv;obtain ⟨a,b⟩:=r;dsimp only at hr this;rw [hr,<- this]
   ·exact .inl ⟨i,hi,hv,hr⟩
def setL (l:List Rc):Nat:=l.foldl (fun s r=>if isC r.1 then s ||| 2 ^ r.1.toNat else s) 0
theorem setL_snoc (l:List Rc) (r:Rc):setL (l ++ [r]) = if isC r.1 then setL l ||| 2 ^ r.1.toNat else setL l:=by unfold setL; rw [List.foldl_append]; rfl
theorem setL_take {l:List Rc} {k:Nat} {x y z:Int} (hk:k < l.length) (h:l.getD k rz = (x,y,z)):setL (l.take (k + 1)) = if isC x then setL (l.take k) ||| 2 ^ x.toNat else setL (l.take k):=by
 have e:l[k] = (x,y,z):=by rw [<- h]; simp [List.getD,hk]
 rw [List.take_succ_eq_append_getElem hk,setL_snoc,e]
theorem setL_lt (l:List Rc):setL l < 65536:=by
 have key:∀ (l:List Rc) (s:Nat),s < 2 ^ 16 -> l.foldl (fun s r=>if isC r.1 then s ||| 2 ^ r.1.toNat else s) s < 2 ^ 16:=by
  intro l
  induction l with
  | nil=>intro s h; exact h
  | cons r l ih =>
   intro s h;refine ih _ ?_;dsimp only;split
   ·rename_i hc
    refine Nat.or_lt_two_pow h (Nat.pow_lt_pow_right Zo ?_);have h1:=hc.1;have h2:=hc.2;omega
   ·exact h
 exact key l 0 Zd
theorem pow_bit (a c:Nat):(2 ^ a).testBit c = decide (a = c):=Nat.testBit_two_pow
theorem setL_bit (l:List Rc) (c:Nat):(setL l).testBit c = true ↔ c < 16 /\ ∃ r ∈ l,r.1 = (c:Int):=by
 have key:∀ (l:List Rc) (s:Nat),(l.foldl (fun s r=>if isC r.1 then s ||| 2 ^ r.1.toNat else s) s).testBit c = true ↔ s.testBit c = true ∨ (c < 16 /\ ∃ r ∈ l,r.1 = (c:Int)):=by
  intro l
  induction l with
  | nil=>intro s; simp
  | cons r l ih =>
   intro s;rw [List.foldl_cons,ih];by_cases hc:isC r.1
   ·obtain ⟨k,hk,he⟩:=isC_of hc
    rw [if_pos hc,Nat.testBit_or,pow_bit,he];simp only [Int.toNat_natCast,Bool.or_eq_true,decide_eq_true_eq,List.mem_cons,exists_eq_or_imp];constructor
    ·rintro ((h | h) | ⟨h1,h2⟩)
     ·exact .inl h
     ·exact .inr ⟨by omega,.inl (by rw [he,h])⟩
     ·exact .inr ⟨h1,.inr h2⟩
    ·rintro (h | ⟨h1,h | h⟩)
     ·exact .inl (.inl h)
     ·exact .inl (.inr (by rw [he] at h; omega))
     ·exact .inr ⟨h1,h⟩
   ·rw [if_neg hc]
    constructor
    ·rintro (h | ⟨h1,r',h2,h3⟩)
     ·exact .inl h
     ·exact .inr ⟨h1,r',by simp [h2],h3⟩
    ·rintro (h | ⟨h1,r',h2,h3⟩)
     ·exact .inl h
     ·rcases List.mem_cons.1 h2 with rfl | h2
      ·exact absurd ⟨by omega,by omega⟩ hc
      ·exact .inr ⟨h1,r',h2,h3⟩
 have:=key l 0;rw [Nat.zero_testBit] at this;exact this.trans ⟨fun h=>h.elim (fun h=>by cases h) id,fun h=>.inr h⟩
theorem bitV_nat (s c:Nat):bitV (s:Int) c = s.testBit c:=by
 unfold bitV;have e:(s:Int) / 2 ^ c = ((s / 2 ^ c:Nat):Int):=by rw [Int.natCast_ediv,Int.natCast_pow]; rfl
 rw [e,Nat.testBit_eq_decide_div_mod_eq];by_cases h:s / 2 ^ c % 2 = 1
 ·simp [h]; omega
 ·simp [h]; omega
theorem Rep.bit {l:List Rc} {F:Fd} (h:Rep l F) {c:Nat} (hc:c < 10):(setL l).testBit c = (F c).isSome:=by
 rw [Bool.eq_iff_iff,setL_bit];constructor
 ·rintro ⟨_,r,hr,he⟩
  obtain ⟨i,_,hv,hi⟩:=(h.mem r).1 hr;have:i = c:=by rw [he] at hi; omega
  subst this;rw [hv]; rfl
 ·intro hs
  obtain ⟨v,hv⟩:=Option.isSome_iff_exists.1 hs;exact ⟨by omega,((c:Int),v),(h.mem _).2 ⟨c,hc,hv,rfl⟩,rfl⟩
theorem Rep.inS {l:List Rc} {F:Fd} (h:Rep l F) {c:Nat} (hc:c < 10):inV (setL l) c = (F c).isSome:=by
 unfold inV;rw [decide_eq_true (isC_nat Zo),Bool.true_and,Int.toNat_natCast,bitV_nat,h.bit hc]
def listF (F:Fd):List Rc:=(List.range 10).filterMap fun c=>(F c).map fun v=>((c:Int),v)
theorem listF_mem (F:Fd) (r:Rc):r ∈ listF F ↔ ∃ c:Nat,c < 10 /\ F c = some r.2 /\ r.1 = (c:Int):=by
 unfold listF;rw [List.mem_filterMap];constructor
 ·rintro ⟨c,hc,h⟩
  obtain ⟨v,hv,he⟩:=Option.map_eq_some_iff.1 h;subst he;exact ⟨c,by simpa using hc,hv,rfl⟩
 ·rintro ⟨c,hc,h,he⟩
  refine ⟨c,by simpa using hc,?_⟩;rw [h];obtain ⟨a,b⟩:=r;dsimp only at he;rw [he]; rfl
theorem listF_sorted (F:Fd):(listF F).Pairwise fun a b=>a.1 < b.1:=by
 unfold listF;refine List.Pairwise.filterMap _ ?_ List.pairwise_lt_range;intro a b hab r hr s hs;obtain ⟨_,_,rfl⟩:=Option.map_eq_some_iff.1 hr;obtain ⟨_,_,rfl⟩:=Option.map_eq_some_iff.1 hs
 show (a:Int) < (b:Int)
 omega
theorem listF_set {l:List Rc} {F:Fd} (h:Rep l F):SetF (listF F) l :=
 ⟨(listF_sorted F).imp fun {_ _} h=>.inl h,fun r=>(listF_mem F r).trans (h.mem r).symm⟩
theorem sort_rep {l r:List Rc} {F:Fd} (h:Rep l F) (hs:SetF r l):r = listF F:=setF_unique hs (listF_set h)
theorem listF_rep_bit (F:Fd) {c:Nat} (hc:c < 10):(setL (listF F)).testBit c = (F c).isSome:=by
 rw [Bool.eq_iff_iff,setL_bit];constructor
 ·rintro ⟨_,r,hr,he⟩
  obtain ⟨i,_,hv,hi⟩:=(listF_mem F r).1 hr;have:i = c:=by rw [he] at hi; omega
  subst this;rw [hv]; rfl
 ·intro hs
  obtain ⟨v,hv⟩:=Option.isSome_iff_exists.1 hs;exact ⟨by omega,((c:Int),v),(listF_mem F _).2 ⟨c,hc,hv,rfl⟩,rfl⟩
theorem listF_nil {F:Fd} (h:∀ c,c < 10 -> F c = none):listF F = []:=by
 apply List.eq_nil_iff_forall_not_mem.2;intro r hr;obtain ⟨c,hc,hv,_⟩:=(listF_mem F r).1 hr;rw [h c hc] at hv; cases hv
theorem listF_len (F:Fd):(listF F).length <= 10:=Nat.le_trans (List.length_filterMap_le _ _) (by simp)
def recL (L:List Int) (F:Fd) (v:Nat -> Int × Int):Fd:=fun c=>if (c:Int) ∈ L /\ F c = none then some (v c) else F c
theorem recL_nil (F:Fd) (v:Nat -> Int × Int):recL [] F v = F:=by funext c; simp [recL]
theorem recL_snoc (L:List Int) (F:Fd) (v:Nat -> Int × Int) (c:Nat):putF (recL L F v) c (v c) = recL (L ++ [(c:Int)]) F v:=by
 funext i;unfold putF recL;by_cases hi:i = c
 ·subst hi
  by_cases h1:(i:Int) ∈ L
  ·cases hF:F i <;> simp [h1]
  ·cases hF:F i <;> simp [h1]
 ·have h2:¬ ((i:Int) = (c:Int)):=by omega
  cases hF:F i <;> simp [hi,h2]
theorem recL_all {s:Nat} (hs:s < 1024) (F:Fd) (v:Nat -> Int × Int):recL (allN (s:Int) 16) F v = recF s F v:=by
 funext c;unfold recL recF
 have:(c:Int) ∈ allN (s:Int) 16 ↔ s.testBit c = true:=by
  rw [all_mem];constructor
  ·rintro ⟨_,h⟩
   rw [Int.toNat_natCast,bitV_nat] at h;exact h
  ·intro h
   have hc:c < 10:=by
    refine Nat.lt_of_not_le fun hle=>?_
    have:=Nat.testBit_lt_two_pow (Nat.lt_of_lt_of_le hs (Nat.pow_le_pow_right (n:=2) Zo hle));rw [this] at h
    cases h
   exact ⟨isC_nat Zo,by rw [Int.toNat_natCast,bitV_nat]; exact h⟩
 simp only [this]
theorem all_lt {s:Nat} (hs:s < 1024) {c:Int} (h:c ∈ allN (s:Int) 16):∃ k:Nat,k < 10 /\ c = (k:Int):=by
 obtain ⟨hc,hb⟩:=(all_mem _ _).1 h;obtain ⟨k,_,rfl⟩:=isC_of hc;refine ⟨k,?_,rfl⟩;rw [Int.toNat_natCast,bitV_nat] at hb;refine Nat.lt_of_not_le fun hle=>?_
 have:=Nat.testBit_lt_two_pow (Nat.lt_of_lt_of_le hs (Nat.pow_le_pow_right (n:=2) Zo hle));rw [this] at hb
 cases hb
def combT (x:Nat -> Int) (d s p:Int) (F:Fd) (y:Nat -> Int) (c:Nat):Fd:=fun i=>if i < c then comb x d s p F y i else F i
theorem combT_zero (x:Nat -> Int) (d s p:Int) (F:Fd) (y:Nat -> Int):combT x d s p F y 0 = F:=by funext i; simp [combT]
theorem combT_yes {x:Nat -> Int} {d s p:Int} {F:Fd} {y:Nat -> Int} {c:Nat} (h:0 <= y c):putF (combT x d s p F y c) c (sinceD x d s p c (y c),y c + 1) = combT x d s p F y (c + 1):=by
 funext i;unfold putF combT;by_cases hi:i = c
 ·subst hi
  rw [if_neg (by omega:¬ i < i),if_pos (by omega:i < i + 1)];unfold comb
  cases hF:F i <;> simp [h]
 ·rw [if_neg (fun hh=>hi hh.1)]
  by_cases hl:i < c
  ·rw [if_pos hl,if_pos Zo]
  ·rw [if_neg hl,if_neg Zo]
theorem combT_no {x:Nat -> Int} {d s p:Int} {F:Fd} {y:Nat -> Int} {c:Nat} (h:¬ 0 <= y c):combT x d s p F y c = combT x d s p F y (c + 1):=by
 funext i;unfold combT;by_cases hi:i = c
 ·subst hi
  rw [if_neg (by omega:¬ i < i),if_pos (by omega:i < i + 1)];unfold comb;rw [if_neg];exact fun hh=>h hh.2
 ·by_cases hl:i < c
  ·rw [if_pos hl,if_pos Zo]
  ·rw [if_neg hl,if_neg Zo]
theorem combT_ten {x:Nat -> Int} {d s p:Int} {F:Fd} {y:Nat -> Int} (hy:∀ c,10 <= c -> y c = -1):combT x d s p F y 10 = comb x d s p F y:=by
 funext i;unfold combT;split
 ·rfl
 ·unfold comb
  rw [if_neg];rintro ⟨_,h⟩;rw [hy i Zo] at h;omega
theorem walk_high (x:Nat -> Int) (k:Int):∀ (n:Nat) (m:Mt) (y:Nat -> Int),(∀ c,10 <= c -> y c = -1) -> ∀ c,10 <= c -> (walkV x k n m y).2 c = -1
 | 0,_,_,h=>h
 | n + 1,m,y,h=>walk_high x k n _ _ fun c hc=>by
  unfold recB;rw [if_neg]
  ·exact h c hc
  ·rintro ⟨hh,_⟩
   rw [Nat.testBit_lt_two_pow (Nat.lt_of_lt_of_le (stepC_lt x m k) (Nat.pow_le_pow_right (n:=2) Zo hc))] at hh
   cases hh
theorem right_any (f t:Int) (w:World) :
  Calls Tryz.prog 118 #[.agg #[.int .i64 f,.int .i64 t]] w fun e w'=>e = .returned (.bool (decide (f < t))) /\ Below w.heap.size w w':=by
 go_enter Tryz.func118,Tryz.ntmps118;go_wp2;go_ret;exact ⟨rfl,(Below.refl _ _).alloc Zl _⟩
theorem refright_any (f t:Int) (w:World) :
  Calls Tryz.prog 132 #[.agg #[.int .i64 f,.int .i64 t]] w fun e w'=>e = .returned (.bool (decide (f < t))) /\ Below w.heap.size w w':=by
 go_enter Tryz.func132,Tryz.ntmps132;go_wp2;go_ret;exact ⟨rfl,(Below.refl _ _).alloc Zl _⟩
theorem has_any (f t m:Int) (w:World) :
  Calls Tryz.prog 188 #[.agg #[.int .i64 f,.int .i64 t],.int .i64 m] w fun e w'=>e = .returned (.bool (decide (f <= m) && decide (m < t))) /\ Below w.heap.size w w':=by
 by_cases h:f <= m
 ·go_enter Tryz.func188,Tryz.ntmps188
  go_wp2;go_ret;exact ⟨by simp [h],(Below.refl _ _).alloc Zl _⟩
 ·have hd:decide (f <= m) = false:=by simpa using h
  go_enter Tryz.func188,Tryz.ntmps188;go_wp2;go_ret;exact ⟨by simp,(Below.refl _ _).alloc Zl _⟩
theorem refhas_any (f t m:Int) (w:World) :
  Calls Tryz.prog 134 #[.agg #[.int .i64 f,.int .i64 t],.int .i64 m] w fun e w'=>e = .returned (.bool (decide (f <= m) && decide (m < t))) /\ Below w.heap.size w w':=by
 by_cases h:f <= m
 ·go_enter Tryz.func134,Tryz.ntmps134
  go_wp2;go_ret;exact ⟨by simp [h],(Below.refl _ _).alloc Zl _⟩
 ·have hd:decide (f <= m) = false:=by simpa using h
  go_enter Tryz.func134,Tryz.ntmps134;go_wp2;go_ret;exact ⟨by simp,(Below.refl _ _).alloc Zl _⟩
theorem right_yes (f t:Int) (w:World) (h:f < t) :
  Calls Tryz.prog 118 #[.agg #[.int .i64 f,.int .i64 t]] w fun e w'=>e = .returned (.bool true) /\ Below w.heap.size w w':=by
 have:=right_any f t w;rwa [decide_eq_true h] at this
theorem right_no (f t:Int) (w:World) (h:¬ f < t) :
  Calls Tryz.prog 118 #[.agg #[.int .i64 f,.int .i64 t]] w fun e w'=>e = .returned (.bool false) /\ Below w.heap.size w w':=by
 have:=right_any f t w;rwa [decide_eq_false h] at this
theorem refright_yes (f t:Int) (w:World) (h:f < t) :
  Calls Tryz.prog 132 #[.agg #[.int .i64 f,.int .i64 t]] w fun e w'=>e = .returned (.bool true) /\ Below w.heap.size w w':=by
 have:=refright_any f t w;rwa [decide_eq_true h] at this
theorem refright_no (f t:Int) (w:World) (h:¬ f < t) :
  Calls Tryz.prog 132 #[.agg #[.int .i64 f,.int .i64 t]] w fun e w'=>e = .returned (.bool false) /\ Below w.heap.size w w':=by
 have:=refright_any f t w;rwa [decide_eq_false h] at this
theorem has_no (f t m:Int) (w:World) (h:¬ (f <= m /\ m < t)) :
  Calls Tryz.prog 188 #[.agg #[.int .i64 f,.int .i64 t],.int .i64 m] w fun e w'=>e = .returned (.bool false) /\ Below w.heap.size w w':=by
 have:=has_any f t m w;have hd:(decide (f <= m) && decide (m < t)) = false:=by simp; omega
 rwa [hd] at this
theorem refhas_yes (f t m:Int) (w:World) (h:f <= m /\ m < t) :
  Calls Tryz.prog 134 #[.agg #[.int .i64 f,.int .i64 t],.int .i64 m] w fun e w'=>e = .returned (.bool true) /\ Below w.heap.size w w':=by
 have:=refhas_any f t m w;rwa [decide_eq_true h.1,decide_eq_true h.2] at this
theorem refhas_no (f t m:Int) (w:World) (h:¬ (f <= m /\ m < t)) :
  Calls Tryz.prog 134 #[.agg #[.int .i64 f,.int .i64 t],.int .i64 m] w fun e w'=>e = .returned (.bool false) /\ Below w.heap.size w w':=by
 have:=refhas_any f t m w;have hd:(decide (f <= m) && decide (m < t)) = false:=by simp; omega
 rwa [hd] at this
theorem isKind_yes (x:Int) (w:World) (h:0 <= x /\ x < 4) :
  Calls Tryz.prog 116 #[.int .i64 x] w fun e w'=>e = .returned (.bool true) /\ w = w':=by
 obtain ⟨h0,h1⟩:=h;go_enter Tryz.func116,Tryz.ntmps116;go_wp2;go_ret;exact ⟨rfl,rfl⟩
theorem isKind_no (x:Int) (w:World) (h:¬ (0 <= x /\ x < 4)) :
  Calls Tryz.prog 116 #[.int .i64 x] w fun e w'=>e = .returned (.bool false) /\ w = w':=by
 by_cases h0:0 <= x
 ·have h1:4 <= x:=by omega
  clear h;go_enter Tryz.func116,Tryz.ntmps116;go_wp2;go_ret;exact ⟨by simp; omega,rfl⟩
 ·have h1:x < 0:=by omega
  clear h h0;go_enter Tryz.func116,Tryz.ntmps116;go_wp2;go_ret;exact ⟨rfl,rfl⟩
theorem inTime_yes (x:Int) (w:World) (h:0 <= x /\ x <= 40320) :
  Calls Tryz.prog 117 #[.int .i64 x] w fun e w'=>e = .returned (.bool true) /\ w = w':=by
 obtain ⟨h0,h1⟩:=h;go_enter Tryz.func117,Tryz.ntmps117;go_wp2;go_ret;exact ⟨rfl,rfl⟩
theorem inTime_no (x:Int) (w:World) (h:¬ (0 <= x /\ x <= 40320)) :
  Calls Tryz.prog 117 #[.int .i64 x] w fun e w'=>e = .returned (.bool false) /\ w = w':=by
 by_cases h0:0 <= x
 ·have h1:40320 < x:=by omega
  clear h;go_enter Tryz.func117,Tryz.ntmps117;go_wp2;go_ret;exact ⟨by simp; omega,rfl⟩
 ·have h1:x < 0:=by omega
  clear h h0;go_enter Tryz.func117,Tryz.ntmps117;go_wp2;go_ret;exact ⟨rfl,rfl⟩
theorem recspan_any (x y z:Int) (w:World) :
  Calls Tryz.prog 119 #[.agg #[.int .i64 x,.int .i64 y,.int .i64 z]] w fun e w'=>e = .returned (.agg #[.int .i64 y,.int .i64 z]) /\ Below w.heap.size w w':=by
 go_enter Tryz.func119,Tryz.ntmps119;go_wp2;refine bodyPost_ret (v:=.agg #[.int .i64 y,.int .i64 z]) (by simp [results,Tryz.results119,go_sem, *]) rfl ⟨rfl,?_⟩;exact Zq
theorem behind_any (x y z a b c:Int) (w:World) :
  Calls Tryz.prog 83 #[.agg #[.int .i64 a,.int .i64 b,.int .i64 c],.agg #[.int .i64 x,.int .i64 y,.int .i64 z]] w fun e w'=>e = .returned (.int .i64 (behindV c y)) /\ Below w.heap.size w w':=by
 unfold behindV;by_cases h1:c < y
 ·rw [if_pos h1]
  go_enter Tryz.func83,Tryz.ntmps83;go_wp2;go_ret;exact ⟨rfl,Zq⟩
 ·rw [if_neg h1]
  by_cases h2:y < c
  ·rw [if_pos h2]
   have h1':y <= c:=by omega
   go_enter Tryz.func83,Tryz.ntmps83;go_wp2;go_ret;exact ⟨rfl,Zq⟩
  ·rw [if_neg h2]
   have h1':y <= c:=by omega
   have h2':c <= y:=by omega
   go_enter Tryz.func83,Tryz.ntmps83;go_wp2;go_ret;exact ⟨rfl,Zq⟩
theorem alone_no_kind (x y z:Int) (w:World) (h:¬ (0 <= x /\ x < 4)) :
  Calls Tryz.prog 82 #[.agg #[.int .i64 x,.int .i64 y,.int .i64 z]] w fun e w'=>e = .returned (.int .i64 2) /\ Below w.heap.size w w':=by
 have C:=fun W=>isKind_no x W h
 clear h;go_enter Tryz.func82,Tryz.ntmps82;go_wp2_with (first | (go_at_call 116; (with_reducible refine (C _).mono ?_); rintro e w' ⟨rfl,rfl⟩));go_ret;exact ⟨rfl,Zq⟩
theorem alone_no_from (x y z:Int) (w:World) (h:0 <= x /\ x < 4) (hy:¬ (0 <= y /\ y <= 40320)) :
  Calls Tryz.prog 82 #[.agg #[.int .i64 x,.int .i64 y,.int .i64 z]] w fun e w'=>e = .returned (.int .i64 4) /\ Below w.heap.size w w':=by
 have C:=fun W=>isKind_yes x W h
 have D:=fun W=>inTime_no y W hy
 clear h hy;go_enter Tryz.func82,Tryz.ntmps82;go_wp2_with (first | (go_at_call 116; (with_reducible refine (C _).mono ?_); rintro e w' ⟨rfl,rfl⟩) | (go_at_call 117; (with_reducible refine (D _).mono ?_); rintro e w' ⟨rfl,rfl⟩));go_ret;exact ⟨rfl,Zq⟩
theorem alone_no_to (x y z:Int) (w:World) (h:0 <= x /\ x < 4) (hy:0 <= y /\ y <= 40320) (hz:¬ (0 <= z /\ z <= 40320)) :
  Calls Tryz.prog 82 #[.agg #[.int .i64 x,.int .i64 y,.int .i64 z]] w fun e w'=>e = .returned (.int .i64 4) /\ Below w.heap.size w w':=by
 have C:=fun W=>isKind_yes x W h
 have D:=fun W=>inTime_yes y W hy
 have E:=fun W=>inTime_no z W hz
 have tok1:True:=trivial;clear h hy hz;go_enter Tryz.func82,Tryz.ntmps82;go_wp2_with (first | (go_at_call 116; (with_reducible refine (C _).mono ?_); rintro e w' ⟨rfl,rfl⟩) | (go_at_call 117; (clear tok1); (with_reducible refine (D _).mono ?_); rintro e w' ⟨rfl,rfl⟩) | (go_at_call 117; (with_reducible refine (E _).mono ?_); rintro e w' ⟨rfl,rfl⟩));go_ret;exact ⟨rfl,Zq⟩
theorem alone_in (x y z:Int) (g:Bool) (w:World) (h:0 <= x /\ x < 4) (hy:0 <= y /\ y <= 40320) (hz:0 <= z /\ z <= 40320) (hg:decide (y < z) = g) :
  Calls Tryz.prog 82 #[.agg #[.int .i64 x,.int .i64 y,.int .i64 z]] w fun e w'=>e = .returned (.int .i64 (if g then 0 else 3)) /\ Below w.heap.size w w':=by
 have C:=fun W=>isKind_yes x W h
 have D:=fun W=>inTime_yes y W hy
 have E:=fun W=>inTime_yes z W hz
 have G:=fun W=>right_any y z W
 rw [hg] at G;have tok1:True:=trivial;clear h hy hz hg
 cases g
 ·go_enter Tryz.func82,Tryz.ntmps82
  go_wp2_with (first | (go_at_call 116; (with_reducible refine (C _).mono ?_); rintro e w' ⟨rfl,rfl⟩) | (go_at_call 117; (clear tok1); (with_reducible refine (D _).mono ?_); rintro e w' ⟨rfl,rfl⟩) | (go_at_call 117; (with_reducible refine (E _).mono ?_); rintro e w' ⟨rfl,rfl⟩) | (go_at_call 119; refine (recspan_any _ _ _ _).mono ?_; rintro e w1 ⟨rfl,hb1⟩) | (go_at_call 118; (with_reducible refine (G _).mono ?_); rintro e w2 ⟨rfl,hb2⟩));go_ret;exact ⟨rfl,Zq⟩
 ·go_enter Tryz.func82,Tryz.ntmps82
  go_wp2_with (first | (go_at_call 116; (with_reducible refine (C _).mono ?_); rintro e w' ⟨rfl,rfl⟩) | (go_at_call 117; (clear tok1); (with_reducible refine (D _).mono ?_); rintro e w' ⟨rfl,rfl⟩) | (go_at_call 117; (with_reducible refine (E _).mono ?_); rintro e w' ⟨rfl,rfl⟩) | (go_at_call 119; refine (recspan_any _ _ _ _).mono ?_; rintro e w1 ⟨rfl,hb1⟩) | (go_at_call 118; (with_reducible refine (G _).mono ?_); rintro e w2 ⟨rfl,hb2⟩));go_ret;exact ⟨rfl,Zq⟩
theorem alone_any (x y z:Int) (w:World) :
  Calls Tryz.prog 82 #[.agg #[.int .i64 x,.int .i64 y,.int .i64 z]] w fun e w'=>e = .returned (.int .i64 (aloneV x y z)) /\ Below w.heap.size w w':=by
 unfold aloneV;by_cases h:0 <= x /\ x < 4
 ·rw [if_pos h]
  by_cases hy:0 <= y /\ y <= 40320
  ·by_cases hz:0 <= z /\ z <= 40320
   ·rw [if_pos ⟨hy,hz⟩]
    have:=alone_in x y z _ w h hy hz rfl;by_cases hg:y < z
    ·rw [decide_eq_true hg] at this; rw [if_pos hg]; exact this
    ·rw [decide_eq_false hg] at this; rw [if_neg hg]; exact this
   ·rw [if_neg (fun k=>hz k.2)]
    exact alone_no_to x y z w h hy hz
  ·rw [if_neg (fun k=>hy k.1)]
   exact alone_no_from x y z w h hy
 ·rw [if_neg h]
  exact alone_no_kind x y z w h
theorem fault_one {l:List Rc} (h:faultV l 0 = 0):∀ j,j < 0 + 1 -> faultV l j = 0:=fun j hj=>by
 obtain rfl:j = 0:=by omega
 exact h
set_option maxRecDepth 100000 in
set_option maxHeartbeats 2000000 in
theorem rcheck_any (A:Option Addr) (c:Nat) (l:List Rc) (w:World) (h:RdR w A l) (hl:l.length <= 4611686018427387904) :
  Calls Tryz.prog 41 #[.slice A l.length c] w fun e w'=>e = .returned (.tuple #[.int .i64 ((checkV l).1:Nat),.int .i64 (checkV l).2]) /\ Below w.heap.size w w':=by
 obtain ⟨V,hV⟩:∃ V,checkV l = V:=⟨_,rfl⟩;have HV:=Zh hV;rw [hV];clear hV;go_enter Tryz.func41,Tryz.ntmps41;go_wp2;go_loopw [9] (fun i wr=>∃ k:Nat,k <= l.length /\ i = .int .i64 k /\ Below w.heap.size w wr /\ Hid (∀ j,j < k -> faultV l j = 0)) (fun i _=>l.length - (intOf i).toNat)
 case atStart=>exact ⟨0,Nat.zero_le _,rfl,Below.refl _ _,Zh (fun j hj=>by omega)⟩
 case round =>
  obtain ⟨k,hk,rfl,hb,hn⟩:=hrel;obtain ⟨w2,rfl⟩:∃ w2:World,w2 = wr:=⟨_,rfl⟩;have hsz:=hb.size;by_cases hlt:k < l.length
  ·obtain ⟨b,off,x,y,z,rfl,hbb,hc0,hc1,hc2,hs⟩:=h.at_ hlt
   have AL:=fun W=>alone_any x y z W
   obtain ⟨a,ha⟩:∃ a,aloneV x y z = a:=⟨_,rfl⟩;rw [ha] at AL;have HA:=Zh ha;have HX:=Zh h;clear ha;rw [<- hb.cell (p:=⟨b,_,none⟩) hbb] at hc0 hc1 hc2;have hbr:b < w2.heap.size:=by omega
   by_cases ha0:a = 0
   ·subst ha0
    by_cases hk0:k = 0
    ·subst hk0
     simp only [Nat.zero_mul,Nat.add_zero] at hc0 hc1 hc2;have HN:=Zh (fault_one (by rw [fault_first hs.out,HA.out]));go_wp2_with (go_at_call 82; (with_reducible refine (AL _).mono ?_); rintro e w1 ⟨rfl,hb1⟩);go_roundw
     case rel=>exact ⟨0 + 1,by omega,by go_num,(hb.alloc hsz _).trans (hb1.mono (by simp; omega)),HN⟩
     case measure=>simp [intOf]; omega
    ·obtain ⟨j,hj⟩:∃ j,k = j + 1:=⟨k - 1,by omega⟩
     have HJ:=Zh hj;have hkj:(k:Int) - 1 = (j:Int):=by omega
     have hjl:j < l.length:=by omega
     have hg1:(0:Int) < (k:Int):=by omega
     clear hj hk0;obtain ⟨b2,off2,p_,q,r,he2,_,hd0,hd1,hd2,ht⟩:=HX.out.at_ hjl;simp only [Option.some.injEq,Addr.mk.injEq,and_true] at he2;obtain ⟨rfl,rfl⟩:=he2;rw [<- hb.cell (p:=⟨b,_,none⟩) hbb] at hd0 hd1 hd2;have BE:=fun W=>behind_any x y z p_ q r W
     obtain ⟨d,hd⟩:∃ d,behindV r y = d:=⟨_,rfl⟩;rw [hd] at BE;have HF:=Zh (show faultV l k = d by rw [HJ.out,fault_next (by rw [<- HJ.out]; exact hs.out) HA.out ht.out,hd]);clear hd HX HJ;go_wp2_with (go_at_call 82; (with_reducible refine (AL _).mono ?_); rintro e w1 ⟨rfl,hb1⟩; have q1:∀ p:BelowOf w1,p.world.cell? ⟨w2.heap.size,0,none⟩ = some (.int .i64 x):=(fun p=>p.cell (c_cl (by simp) hb1)); have q2:∀ p:BelowOf w1,p.world.cell? ⟨w2.heap.size,1,none⟩ = some (.int .i64 y):=(fun p=>p.cell (c_cl (by simp) hb1)); have q3:∀ p:BelowOf w1,p.world.cell? ⟨w2.heap.size,2,none⟩ = some (.int .i64 z):=(fun p=>p.cell (c_cl (by simp) hb1)); have q4:∀ p:BelowOf w1,p.world.cell? ⟨b,off + j * 3,none⟩ = some (.int .i64 p_):=(fun p=>p.cell (c_cl (c_al _ hd0) hb1)); have q5:∀ p:BelowOf w1,p.world.cell? ⟨b,off + j * 3 + 1,none⟩ = some (.int .i64 q):=(fun p=>p.cell (c_cl (c_al _ hd1) hb1)); have q6:∀ p:BelowOf w1,p.world.cell? ⟨b,off + j * 3 + 2,none⟩ = some (.int .i64 r):=(fun p=>p.cell (c_cl (c_al _ hd2) hb1)));refine wp_region_bel Zk Zk ?_
     repeat (go_big_quiet_step (first | (go_at_call 83; exact Calls.bel_of (BE _))))
     refine wpQuiet_nil ?_;refine bel_all fun wq hbq=>?_
     clear q1 q2 q3 q4 q5 q6;have HB:=(hb.alloc hsz (.cells #[.int .i64 x,.int .i64 y,.int .i64 z] 50)).trans (hb1.mono (by simp; omega));have HBQ:=HB.trans (hbq.mono HB.size);by_cases hd0:d = 0
     ·subst hd0
      have HN:=Zh (show ∀ i,i < k + 1 -> faultV l i = 0 from fun i hi=>by
       by_cases e:i = k
       ·rw [e,HF.out]
       ·exact hn.out i Zo)
      go_wp2;go_roundw
      case rel=>exact ⟨k + 1,by omega,by go_num,HBQ,HN⟩
      case measure=>simp [intOf]; omega
     ·have e1:(d == 0) = false:=by simpa using hd0
      have e2:(d != 0) = true:=by simpa using hd0
      have HE:=Zh (check_bad hlt hn.out HF.out hd0);clear hd0;go_wp2;go_ret2;rw [<- HV.out,HE.out];exact ⟨rfl,HBQ⟩
   ·have e1:(a == 0) = false:=by simpa using ha0
    have e2:(a != 0) = true:=by simpa using ha0
    have HE:=Zh (check_bad hlt hn.out (by rw [fault_alone hs.out (by rw [HA.out]; exact ha0),HA.out]) ha0);clear ha0;go_wp2_with (go_at_call 82; (with_reducible refine (AL _).mono ?_); rintro e w1 ⟨rfl,hb1⟩);go_ret2;rw [<- HV.out,HE.out];exact ⟨rfl,(hb.alloc hsz _).trans (hb1.mono (by simp; omega))⟩
  ·have hkl:k = l.length:=by omega
   have HE:=Zh (check_ok (l:=l) (fun j hj=>hn.out j Zo));go_wp2;go_ret2;rw [<- HV.out,HE.out];exact ⟨rfl,hb⟩
end Go.Proofs.YtiamnbddbmgffaaGreatDoor
