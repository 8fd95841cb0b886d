/- Texts of the proofs of VerdictAudits, VerdictAll, VerdictRising, pressed: BookLaws, SpellMath, MeterMath, Chg, MeterSt, SortMath, SortOrder. Conditions: as each theorem says. -/
import Derived.Test.YtiamnbddbmgffaaGreatDoorRows
import Derived.Test.YtiamnbddbmgffaaGreatDoorP12
import Derived.Laws.Cover3
import Derived.Laws.BitsAllLaws
import Derived.Lib.SlicesCompact
import Derived.Sort.Grow
namespace Go.Proofs.YtiamnbddbmgffaaGreatDoor
open Go.RowKit
set_option linter.unusedVariables false
def eqB (x y:Nat -> Int):Bool:=(List.range 19).all fun i=>x i == y i
section
end
section
variable {P:Program}
theorem eqFields_all (x y:Nat -> Int) (w:World) (d:Nat) (t:TypeId) (ht:P.underlying t = some (.int .i64)):∀ fs:List Field,(∀ f ∈ fs,f.name ≠ "_" /\ f.type = t /\ f.offset < 19) ->
  (Op.eqFields (d + 1) (bk x) (bk y) fs).run P w = .ok (fs.all fun f=>x f.offset == y f.offset) w
 | [],_=>rfl
 | f :: fs,h=>by
  obtain ⟨hn,hty,ho⟩:=h f (by simp);have ih:=eqFields_all x y w d t ht fs (fun g hg=>h g (by simp [hg]))
  have hagg:∀ w,(isAgg t).run P w = .ok false w:=fun w=>by
   unfold isAgg;rw [Sem.run_bind,run_underlying ht w];simp
  have p1:(part f.type (bk x) f.offset).run P w = .ok (.int .i64 (x f.offset)) w:=by
   rw [hty]; unfold part; rw [Sem.run_bind,hagg]; simp [bk_at x f.offset ho]
  have p2:(part f.type (bk y) f.offset).run P w = .ok (.int .i64 (y f.offset)) w:=by
   rw [hty]; unfold part; rw [Sem.run_bind,hagg]; simp [bk_at y f.offset ho]
  have p3:(Op.equalIn (d + 1) f.type (.int .i64 (x f.offset)) (.int .i64 (y f.offset))).run P w = .ok (x f.offset == y f.offset) w:=by
   rw [hty]; exact run_equalIn_int w d t .i64 .i64 _ _ ht
  unfold Op.eqFields;rw [if_pos hn];simp only [Sem.run_bind,p1,p2,p3,Result.andThen_ok]
  cases he:(x f.offset == y f.offset) with
  | true=>simp [ih,he]
  | false=>simp [he]
end
theorem fields_book:(Tryz.prog.fieldsOf 23).toList.map (·.offset) = List.range 19:=by kernel_rfl
theorem fields_int:∀ f ∈ (Tryz.prog.fieldsOf 23).toList,f.name ≠ "_" /\ f.type = 3 /\ f.offset < 19:=of_decide_eq_true Zk
theorem equal_bk (x y:Nat -> Int) (w:World):(Op.equalIn 10000 23 (.agg (bk x)) (.agg (bk y))).run Tryz.prog w = .ok (eqB x y) w:=by
 rw [show (10000:Nat) = 9998 + 1 + 1 from rfl,run_equalIn_struct w (9998 + 1) 23 (bk x) (bk y) Zk Zk,eqFields_all x y w 9998 3 Tryz.underlying3 _ fields_int]
 have e:eqB x y = (Tryz.prog.fieldsOf 23).toList.all fun f=>x f.offset == y f.offset:=by
  unfold eqB;rw [<- fields_book,List.all_map];rfl
 rw [e]
theorem guard_book:Tryz.prog.eqGuardType Tryz.prog.depth 23 = false:=by kernel_rfl
section
variable {ops:Array Oper} {rest:List Oper} {o:Oper} {a:Act} {w:World} {Q:Exit -> Act -> World -> Prop} {K:Act -> World -> Prop}
theorem exec_eql {r:Operand -> Value} {e f:Operand} {u:TypeId} (x y:Nat -> Int) (w:World) (ho:o.op = .binOp .eql 23 e f u) (hx:r e = .agg (bk x)) (hy:r f = .agg (bk y)):(execOp r o).run Tryz.prog w = .ok (.value (.bool (eqB x y))) w:=by
 unfold execOp;simp only [ho,hx,hy,Sem.run_bind,run_eqGuard_agg w .eql 23 e f (bk x) (bk y) guard_book,run_eql_struct,equal_bk,Result.andThen_ok];rfl
theorem exec_neq {r:Operand -> Value} {e f:Operand} {u:TypeId} (x y:Nat -> Int) (w:World) (ho:o.op = .binOp .neq 23 e f u) (hx:r e = .agg (bk x)) (hy:r f = .agg (bk y)):(execOp r o).run Tryz.prog w = .ok (.value (.bool (!eqB x y))) w:=by
 unfold execOp;simp only [ho,hx,hy,Sem.run_bind,run_eqGuard_agg w .neq 23 e f (bk x) (bk y) guard_book,run_neq_struct,equal_bk,Result.andThen_ok];rfl
theorem wpList_eql_bk (hw:Region.wanted o (yielded ops a.tmps) = true) {e f:Operand} {u:TypeId} (ho:o.op = .binOp .eql 23 e f u) (x y:Nat -> Int) (v:Bool) (hx:a.eval e = .agg (bk x)) (hy:a.eval f = .agg (bk y)) (hv:eqB x y = v)
  (h:wpList Tryz.prog ops Q rest (a.put o.dst (.bool v)) w):wpList Tryz.prog ops Q (o :: rest) a w :=
 wpList_yields hw (fun w=>exec_eql x y w ho hx hy) (by rw [hv]; exact h)
theorem wpList_neq_bk (hw:Region.wanted o (yielded ops a.tmps) = true) {e f:Operand} {u:TypeId} (ho:o.op = .binOp .neq 23 e f u) (x y:Nat -> Int) (v:Bool) (hx:a.eval e = .agg (bk x)) (hy:a.eval f = .agg (bk y)) (hv:eqB x y = v)
  (h:wpList Tryz.prog ops Q rest (a.put o.dst (.bool (!v))) w):wpList Tryz.prog ops Q (o :: rest) a w :=
 wpList_yields hw (fun w=>exec_neq x y w ho hx hy) (by rw [hv]; exact h)
theorem exec_load {r:Operand -> Value} {ty:TypeId} {y:Operand} (b off:Nat) (x:Nat -> Int) (d:TypeDesc) (w:World) (ho:o.op = .load ty y) (hx:r y = .pointer (some ⟨b,off,none⟩)) (hr:RdI w b off x)
  (hu:Tryz.prog.underlying ty = some d) (hd:d.isRow = true) (hi:(Tryz.prog.info? ty).map (·.size) = some 19):(execOp r o).run Tryz.prog w = .ok (.value (.agg (bk x))) w:=by
 unfold execOp;simp only [ho,hx,run_loadAt_bk w b off ty x d hr hu hd hi,Sem.run_bind,Result.andThen_ok];rfl
theorem wpList_arrayAt (hg:Region.wanted o (yielded ops a.tmps) = true) (arr e:TypeId) (n:Nat) (y:Operand) (ho:o.op = .sliceToArrayPointer arr y) (A:Option Addr) (len cap:Nat) (hx:a.eval y = .slice A len cap)
  (hu:Tryz.prog.underlying arr = some (.array n e)) (hn:n <= len) (h:wpList Tryz.prog ops Q rest (a.put o.dst (.pointer A)) w):wpList Tryz.prog ops Q (o :: rest) a w :=
 wpList_yields hg (fun w=>by unfold execOp; simp only [ho,hx,Sem.run_bind,run_arrayAt w arr e n A len cap hu hn,Result.andThen_ok]; rfl) h
end
structure Wo where
 brk:Bool
 half:Bool
 part:Bool
 daily:Bool
 red:Bool
 weekly:Bool
 brief:Bool
def Wo.zero:Wo:=⟨false,false,false,false,false,false,false⟩
def wo (s:Wo):Array Value:=#[.bool s.brk,.bool s.half,.bool s.part,.bool s.daily,.bool s.red,.bool s.weekly,.bool s.brief]
def Wo.set (s:Wo) (k:Nat) (b:Bool):Wo:=match k with
 | 0=>{ s with brk:=b }
 | 1=>{ s with half:=b }
 | 2=>{ s with part:=b }
 | 3=>{ s with daily:=b }
 | 4=>{ s with red:=b }
 | 5=>{ s with weekly:=b }
 | _=>{ s with brief:=b }
theorem wo_set (s:Wo) (k:Nat) (b:Bool) (hk:k < 7):(wo s).setIfInBounds k (.bool b) = wo (s.set k b):=by
 have:k = 0 ∨ k = 1 ∨ k = 2 ∨ k = 3 ∨ k = 4 ∨ k = 5 ∨ k = 6:=by omega
 rcases this with rfl | rfl | rfl | rfl | rfl | rfl | rfl <;> rfl
theorem wo_size (s:Wo):(wo s).size = 7:=rfl
theorem wo_one (s:Wo):(wo s).all (·.oneCell') = true:=by kernel_rfl
def lastB (l n:Int):Bool:=decide (n <= l)
def ofW (br se fi pa da wk fu rg half split:Bool):Wo :=
 ⟨br || (half && se),!(br || (half && se)) && (half || fi),!da && pa,da,da && !wk && !split && !rg,wk,wk && !fu⟩
def ofV (x:Nat -> Int) (f t dawn:Int) (half split:Bool):Wo :=
 ofW (lastB (t - f) (x 1)) (lastB (t - f) (x 3)) (lastB (t - f) (x 2)) (lastB (t - f) (x 10)) (lastB (t - f) (x 8)) (lastB (t - f) (x 13)) (lastB (t - f) (x 12)) (lastB (min t (dawn + x 11) - f) (x 7)) half split
open Classical in
noncomputable def spellErr (x:Nat -> Int) (f t dawn:Int):Int:=if May x then (if t <= f then 3 else if f < 0 ∨ 40320 < t then 4 else if dawn < 0 ∨ f < dawn then 1 else 0) else 14
theorem spellErr_no {x:Nat -> Int} (f t dawn:Int) (h:¬ May x):spellErr x f t dawn = 14:=by unfold spellErr; rw [if_neg h]
theorem spellErr_yes {x:Nat -> Int} (f t dawn:Int) (h:May x):spellErr x f t dawn = if t <= f then 3 else if f < 0 ∨ 40320 < t then 4 else if dawn < 0 ∨ f < dawn then 1 else 0:=by unfold spellErr; rw [if_pos h]
theorem spellErr_ok {x:Nat -> Int} {f t dawn:Int}:spellErr x f t dawn = 0 ↔ May x /\ f < t /\ 0 <= f /\ t <= 40320 /\ 0 <= dawn /\ dawn <= f:=by
 by_cases h:May x
 ·rw [spellErr_yes f t dawn h]
  constructor
  ·intro e
   refine ⟨h,?_⟩;split at e
   ·omega
   split at e
   ·omega
   split at e
   ·omega
   omega
  ·intro ⟨_,h⟩
   rw [if_neg Zo,if_neg Zo,if_neg Zo]
 ·rw [spellErr_no f t dawn h]
  simp [h]
theorem may_time {x:Nat -> Int} (h:May x):∀ i,i < 19 -> 0 <= x i /\ x i <= 40320:=by
 intro i hi;have:=h.1 i hi;unfold lim at this;split at this <;> omega
theorem may_ord {x:Nat -> Int} (h:May x):x 2 <= x 1 /\ x 3 <= x 1 /\ x 1 <= x 10 /\ x 10 <= x 8 /\ x 8 <= x 7 /\ x 7 <= x 13 /\ x 13 <= x 12 /\ x 4 <= x 5 /\ x 8 < x 11:=h.2
structure Mt where
 now:Int
 acc:Int
 half:Bool
 lie:Int
 dawn:Int
 day:Int
 longers:Int
 split:Bool
 reduces:Int
 sabbath:Int
 brief:Bool
 week:Int
 last:Int
 labour:Int
def Mt.zero:Mt:=⟨0,0,false,0,0,0,0,false,0,0,false,0,0,0⟩
def mt (m:Mt):Array Value:=#[.int .i64 m.now,.int .i64 m.acc,.bool m.half,.int .i64 m.lie,.int .i64 m.dawn,.int .i64 m.day,.int .i64 m.longers,.bool m.split,.int .i64 m.reduces,.int .i64 m.sabbath,.bool m.brief,.int .i64 m.week,.int .i64 m.last,.int .i64 m.labour]
theorem mt_size (m:Mt):(mt m).size = 14:=rfl
theorem mt_one (m:Mt):(mt m).all (·.oneCell') = true:=by kernel_rfl
def MayM (m:Mt):Prop:=(0 <= m.now /\ m.now <= 40320) /\ (0 <= m.acc /\ m.acc <= m.now) /\ (0 <= m.lie /\ m.lie <= m.now) /\ (0 <= m.dawn /\ m.dawn <= m.now) /\ (0 <= m.day /\ m.day <= m.now) /\ (0 <= m.longers /\ m.longers <= m.now) /\
 (0 <= m.reduces /\ m.reduces <= m.now) /\ (0 <= m.sabbath /\ m.sabbath <= m.now) /\ (0 <= m.week /\ m.week <= m.now) /\ (0 <= m.last /\ m.last <= m.now) /\ (0 <= m.labour /\ m.labour <= m.now)
def bitN (k:Nat) (b:Bool):Nat:=if b then 2 ^ k else 0
theorem bitN_le (k:Nat) (b:Bool):bitN k b <= 2 ^ k:=by unfold bitN; split <;> simp
theorem bitN_lt {k:Nat} (b:Bool) (hk:k < 10):bitN k b <= 512:=Nat.le_trans (bitN_le k b) (Nat.pow_le_pow_right (n:=2) Zo (by omega:k <= 9))
def orB (n k:Nat) (b:Bool):Nat:=n ||| bitN k b
theorem orB_no (n k:Nat):orB n k false = n:=by simp [orB,bitN]
theorem orB_yes (n k:Nat):orB n k true = n ||| 2 ^ k:=by simp [orB,bitN]
theorem orB_lt {n k:Nat} (b:Bool) (hn:n < 1024) (hk:k < 10):orB n k b < 1024 :=
 Nat.or_lt_two_pow (n:=10) hn (by have:=bitN_lt b hk; omega)
def wrapM (x:Nat -> Int) (m:Mt):Mt:=if 0 < m.now /\ m.now % x 18 = 0 then { m with last:=m.week,week:=0,labour:=0 } else m
def endW (x:Nat -> Int) (m:Mt):Wo:=ofV x (m.now - m.lie) m.now (min m.dawn (m.now - m.lie)) m.half m.split
def e1 (w:Wo) (m:Mt):Mt:=if w.weekly then { m with brief:=w.brief,sabbath:=m.now,longers:=0,reduces:=0 } else m
def e2 (w:Wo) (m:Mt):Mt:=if w.red then { m with reduces:=m.reduces + 1 } else m
def e3 (w:Wo) (m:Mt):Mt:=if w.daily then { m with dawn:=m.now,day:=0,acc:=0,half:=false,split:=false } else { m with split:=m.split || w.part,half:=w.half,acc:=if w.brk then 0 else m.acc }
def endM (w:Wo) (m:Mt):Mt:={ e3 w (e2 w (e1 w m)) with lie:=0 }
def d1 (m:Mt):Mt:={ m with acc:=m.acc + 1,day:=m.day + 1 }
def d2 (x:Nat -> Int) (m:Mt):Mt:=if m.day = x 4 + 1 then { m with longers:=m.longers + 1 } else m
def driveM (x:Nat -> Int) (m:Mt):Mt:=let m:=d2 x (d1 m); { m with week:=m.week + 1 }
def workM (m:Mt):Mt:={ m with labour:=m.labour + 1 }
def c8 (w:Wo) (m:Mt):Bool:=w.weekly && (w.brief && m.brief)
def c6 (x:Nat -> Int) (w:Wo) (m:Mt):Bool:=w.red && decide (x 9 < (e2 w (e1 w m)).reduces)
def c5 (x:Nat -> Int) (m:Mt):Bool:=decide (x 11 - x 8 <= m.now - m.dawn)
def c7 (x:Nat -> Int) (m:Mt):Bool:=decide (x 14 <= m.now - m.sabbath)
def c0 (x:Nat -> Int) (m:Mt):Bool:=decide (x 0 < m.acc + 1)
def c2 (x:Nat -> Int) (m:Mt):Bool:=decide (m.day + 1 = x 4 + 1) && decide (x 6 < m.longers + 1)
def c1 (x:Nat -> Int) (m:Mt):Bool:=decide (x 5 < m.day + 1)
def c3 (x:Nat -> Int) (m:Mt):Bool:=decide (x 15 < m.week + 1)
def c4 (x:Nat -> Int) (m:Mt):Bool:=decide (x 16 < m.week + 1 + m.last)
def c9 (x:Nat -> Int) (m:Mt):Bool:=decide (x 17 < m.labour + 1)
structure Cl where
 b8:Bool
 b6:Bool
 b5:Bool
 b7:Bool
 b0:Bool
 b2:Bool
 b1:Bool
 b3:Bool
 b4:Bool
 b9:Bool
def Cl.sum (c:Cl):Nat:=bitN 8 c.b8 + bitN 6 c.b6 + bitN 5 c.b5 + bitN 7 c.b7 + bitN 0 c.b0 + bitN 2 c.b2 + bitN 1 c.b1 + bitN 3 c.b3 + bitN 4 c.b4 + bitN 9 c.b9
def Cl.into (n:Nat) (c:Cl):Nat:=orB (orB (orB (orB (orB (orB (orB (orB (orB (orB n 8 c.b8) 6 c.b6) 5 c.b5) 7 c.b7) 0 c.b0) 2 c.b2) 1 c.b1) 3 c.b3) 4 c.b4) 9 c.b9
set_option maxRecDepth 100000 in
theorem sum_or:∀ b8 b6 b5 b7 b0 b2 b1 b3 b4 b9:Bool,(bitN 8 b8 ||| (bitN 6 b6 ||| (bitN 5 b5 ||| (bitN 7 b7 ||| (bitN 0 b0 ||| (bitN 2 b2 ||| (bitN 1 b1 ||| (bitN 3 b3 ||| (bitN 4 b4 ||| bitN 9 b9))))))))) = bitN 8 b8 + bitN 6 b6 + bitN 5 b5 + bitN 7 b7 + bitN 0 b0 + bitN 2 b2 + bitN 1 b1 + bitN 3 b3 + bitN 4 b4 + bitN 9 b9:=by decide +kernel
theorem Cl.into_eq (n:Nat) (c:Cl):c.into n = n ||| c.sum:=by
 unfold Cl.into Cl.sum orB;rw [<- sum_or];simp only [Nat.or_assoc]
theorem Cl.sum_lt (c:Cl):c.sum < 1024:=by
 unfold Cl.sum;have h8:=bitN_le 8 c.b8; have h6:=bitN_le 6 c.b6; have h5:=bitN_le 5 c.b5; have h7:=bitN_le 7 c.b7; have h0:=bitN_le 0 c.b0;have h2:=bitN_le 2 c.b2; have h1:=bitN_le 1 c.b1; have h3:=bitN_le 3 c.b3; have h4:=bitN_le 4 c.b4; have h9:=bitN_le 9 c.b9;omega
theorem Cl.into_lt {n:Nat} (c:Cl) (hn:n < 1024):c.into n < 1024:=by rw [Cl.into_eq]; exact Nat.or_lt_two_pow (n:=10) hn c.sum_lt
def upR (x:Nat -> Int) (m:Mt):Mt:=if 0 < m.lie then endM (endW x m) m else m
def up8 (x:Nat -> Int) (m:Mt):Bool:=decide (0 < m.lie) && c8 (endW x m) m
def up6 (x:Nat -> Int) (m:Mt):Bool:=decide (0 < m.lie) && c6 x (endW x m) m
def upM (x:Nat -> Int) (m:Mt) (k:Int):Mt :=
 let r:=upR x m
 let d:=if k = 3 then driveM x r else r
 if k = 3 ∨ k = 2 then workM d else d
def upC (x:Nat -> Int) (m:Mt) (k:Int):Cl :=
 let r:=upR x m
 let d:=if k = 3 then driveM x r else r
 ⟨up8 x m,up6 x m,c5 x r,c7 x r,decide (k = 3) && c0 x r,decide (k = 3) && c2 x r,decide (k = 3) && c1 x r,decide (k = 3) && c3 x r,decide (k = 3) && c4 x r,decide (k = 3 ∨ k = 2) && c9 x d⟩
def stepM (x:Nat -> Int) (m:Mt) (k:Int):Mt :=
 let a:=wrapM x m
 if k = 0 then { a with lie:=a.lie + 1,now:=a.now + 1 } else { upM x a k with now:=(upM x a k).now + 1 }
def stepC (x:Nat -> Int) (m:Mt) (k:Int):Nat:=if k = 0 then 0 else (upC x (wrapM x m) k).sum
theorem stepC_lt (x:Nat -> Int) (m:Mt) (k:Int):stepC x m k < 1024:=by
 unfold stepC; split
 ·omega
 ·exact Cl.sum_lt _
theorem may_wrap {x:Nat -> Int} {m:Mt} (h:MayM m):MayM (wrapM x m) /\ (wrapM x m).now = m.now:=by
 unfold wrapM;split
 ·refine ⟨?_,rfl⟩
  unfold MayM at *;dsimp only;omega
 ·exact ⟨h,rfl⟩
def Le (b:Int) (m:Mt):Prop:=(0 <= m.now /\ m.now <= b) /\ (0 <= m.acc /\ m.acc <= b) /\ (0 <= m.lie /\ m.lie <= b) /\ (0 <= m.dawn /\ m.dawn <= b) /\ (0 <= m.day /\ m.day <= b) /\ (0 <= m.longers /\ m.longers <= b) /\
 (0 <= m.reduces /\ m.reduces <= b) /\ (0 <= m.sabbath /\ m.sabbath <= b) /\ (0 <= m.week /\ m.week <= b) /\ (0 <= m.last /\ m.last <= b) /\ (0 <= m.labour /\ m.labour <= b)
def MayE (m:Mt):Prop:=(0 <= m.now /\ m.now <= 40320) /\ (0 <= m.acc /\ m.acc <= m.now) /\ (0 <= m.lie /\ m.lie <= m.now) /\ (0 <= m.dawn /\ m.dawn <= m.now) /\ (0 <= m.day /\ m.day <= m.now) /\ (0 <= m.longers /\ m.longers <= m.now) /\
 (0 <= m.reduces /\ m.reduces <= m.now + 1) /\ (0 <= m.sabbath /\ m.sabbath <= m.now) /\ (0 <= m.week /\ m.week <= m.now) /\ (0 <= m.last /\ m.last <= m.now) /\ (0 <= m.labour /\ m.labour <= m.now)
theorem MayE.of {m:Mt} (h:MayM m):MayE m:=by unfold MayM at h; unfold MayE; omega
theorem may_e1 {m:Mt} (w:Wo) (h:MayM m):MayM (e1 w m) /\ (e1 w m).now = m.now:=by
 unfold e1;split
 ·refine ⟨?_,rfl⟩
  unfold MayM at *;dsimp only;omega
 ·exact ⟨h,rfl⟩
theorem may_e2 {m:Mt} (w:Wo) (h:MayM m):MayE (e2 w m) /\ (e2 w m).now = m.now:=by
 unfold e2;split
 ·refine ⟨?_,rfl⟩
  unfold MayM at h;unfold MayE;dsimp only;omega
 ·exact ⟨.of h,rfl⟩
theorem may_e3 {m:Mt} (w:Wo) (h:MayE m):MayE (e3 w m) /\ (e3 w m).now = m.now:=by
 unfold e3;split
 ·refine ⟨?_,rfl⟩
  unfold MayE at *;dsimp only;omega
 ·refine ⟨?_,rfl⟩
  unfold MayE at *;dsimp only;split <;> omega
theorem may_end {m:Mt} (w:Wo) (h:MayM m):MayE (endM w m) /\ (endM w m).now = m.now:=by
 have h1:=may_e1 w h;have h2:=may_e2 w h1.1;have h3:=may_e3 w h2.1;have hn:(e3 w (e2 w (e1 w m))).now = m.now:=by rw [h3.2,h2.2,h1.2]
 refine ⟨?_,hn⟩;have h3:=h3.1;unfold endM;unfold MayE at *;dsimp only;omega
theorem may_upR {x:Nat -> Int} {m:Mt} (h:MayM m):MayE (upR x m) /\ (upR x m).now = m.now:=by
 unfold upR;split
 ·exact may_end _ h
 ·exact ⟨.of h,rfl⟩
theorem le_d1 {m:Mt} (h:MayE m):Le (m.now + 1) (d1 m):=by
 unfold MayE at h;unfold Le d1;dsimp only;omega
theorem le_drive {x:Nat -> Int} {m:Mt} (h:MayE m):Le (m.now + 1) (driveM x m) /\ (driveM x m).now = m.now /\ (driveM x m).labour = m.labour:=by
 unfold MayE at h;unfold Le driveM d2 d1;split <;> (dsimp only; omega)
theorem le_work {b:Int} {m:Mt} (h:Le b m) (hl:m.labour + 1 <= b):Le b (workM m) /\ (workM m).now = m.now:=by
 unfold Le at *;unfold workM;dsimp only;omega
theorem MayE.le {m:Mt} (h:MayE m):Le (m.now + 1) m:=by unfold MayE at h; unfold Le; omega
theorem le_up {x:Nat -> Int} {m:Mt} (k:Int) (h:MayM m):Le (m.now + 1) (upM x m k) /\ (upM x m k).now = m.now:=by
 obtain ⟨hr,hn⟩:=may_upR (x:=x) h;have hl:(upR x m).labour + 1 <= m.now + 1:=by unfold MayE at hr; omega
 unfold upM;dsimp only;generalize upR x m = r at hr hn hl;by_cases hk:k = 3
 ·rw [if_pos hk,if_pos (Or.inl hk)]
  obtain ⟨d,e,f⟩:=le_drive (x:=x) hr;rw [hn] at d;have:=le_work d Zo;exact ⟨this.1,by rw [this.2,e,hn]⟩
 ·rw [if_neg hk]
  have d:=hr.le;rw [hn] at d;split
  ·have:=le_work d Zo
   exact ⟨this.1,by rw [this.2,hn]⟩
  ·exact ⟨d,hn⟩
theorem may_step {x:Nat -> Int} {m:Mt} (k:Int) (h:MayM m) (hn:m.now < 40320):MayM (stepM x m k) /\ (stepM x m k).now = m.now + 1:=by
 obtain ⟨h1,h2⟩:=may_wrap (x:=x) h;unfold stepM;dsimp only;split
 ·refine ⟨?_,by rw [h2]⟩
  unfold MayM at *;dsimp only;omega
 ·obtain ⟨h3,h4⟩:=le_up (x:=x) k h1
  refine ⟨?_,by dsimp only; rw [h4,h2]⟩;rw [h2] at h3 h4;unfold Le at h3;unfold MayM;dsimp only;omega
def runV (x:Nat -> Int):Mt -> Nat -> List Int -> Mt × Nat × Int
 | m,n,[]=>(m,n,0)
 | m,n,k :: ks=>if k < 0 ∨ 3 < k then (.zero,0,2) else if m.now = 40320 then (.zero,0,4) else runV x (stepM x m k) (n ||| stepC x m k) ks
open Classical in
noncomputable def meterV (x:Nat -> Int) (m:Mt) (ks:List Int):Mt × Nat × Int:=if May x then (if MayM m then runV x m 0 ks else (.zero,0,1)) else (.zero,0,14)
theorem runV_cons (x:Nat -> Int) (m:Mt) (n:Nat) (k:Int) (ks:List Int):runV x m n (k :: ks) = if k < 0 ∨ 3 < k then (.zero,0,2) else if m.now = 40320 then (.zero,0,4) else runV x (stepM x m k) (n ||| stepC x m k) ks:=rfl
theorem ofInt_n64 (a:Nat) (ha:a < 18446744073709551616):(BitVec.ofInt 64 (a:Int)).toNat = a:=by
 rw [BitVec.ofInt_natCast,BitVec.toNat_ofNat]; exact Nat.mod_eq_of_lt Zo
theorem or_nat (a b:Nat) (ha:a < 1024) (hb:b < 1024):bits .or .i64 (a:Int) (b:Int) = ((a ||| b:Nat):Int):=by
 have hx:a ||| b < 2 ^ 10:=Nat.or_lt_two_pow (n:=10) Zo Zo
 show IntKind.i64.wrap ((BitVec.ofInt 64 (a:Int) ||| BitVec.ofInt 64 (b:Int)).toNat:Int) = _
 rw [BitVec.toNat_or,ofInt_n64 a Zo,ofInt_n64 b Zo];generalize a ||| b = c at hx
 have:IntKind.i64.wrap (c:Int) = (c:Int):=by
  simp [IntKind.wrap,IntKind.bits,IntKind.signed];omega
 exact this
structure Chg (W:World) (g:Nat) (t:TypeId) (cs:Array Value) (W':World):Prop where
 size:W.heap.size <= W'.heap.size
 box:Bx W' g t cs
 other:∀ k,k ≠ g -> k < W.heap.size -> W'.heap[k]? = W.heap[k]?
 bel:∀ n,n <= g -> n <= W.heap.size -> Below n W W'
theorem Chg.refl {W:World} {g:Nat} {t:TypeId} {cs:Array Value} (h:Bx W g t cs):Chg W g t cs W:=⟨Nat.le_refl _,h,fun _ _ _=>rfl,fun _ _ _=>Below.refl _ _⟩
theorem Chg.upd {W W1 W2:World} {g:Nat} {t s:TypeId} {cs ds:Array Value} (c:Chg W g t cs W1) (u:Upd W1 g s ds W2):Chg W g s ds W2 :=
 ⟨by rw [u.size]; exact c.size,u.box,fun k hk hl=>(u.other k hk).trans (c.other k hk hl),fun n hn hl=>(c.bel n hn hl).trans (u.bel n hn)⟩
theorem Chg.trans {W W1 W2:World} {g:Nat} {t s:TypeId} {cs ds:Array Value} (c:Chg W g t cs W1) (d:Chg W1 g s ds W2):Chg W g s ds W2 :=
 ⟨Nat.le_trans c.size d.size,d.box,fun k hk hl=>(d.other k hk (Nat.lt_of_lt_of_le hl c.size)).trans (c.other k hk hl),fun n hn hl=>(c.bel n hn hl).trans (d.bel n hn (Nat.le_trans hl c.size))⟩
theorem Chg.below {W W1 W2:World} {g:Nat} {t:TypeId} {cs:Array Value} (c:Chg W g t cs W1) (hb:Below W1.heap.size W1 W2):Chg W g t cs W2 :=
 ⟨Nat.le_trans c.size hb.size,c.box.below hb,fun k hk hl=>(hb.block k (Nat.lt_of_lt_of_le hl c.size)).trans (c.other k hk hl),fun n hn hl=>(c.bel n hn hl).trans (hb.mono (Nat.le_trans hl c.size))⟩
theorem Chg.alloc {W W1:World} {g:Nat} {t:TypeId} {cs:Array Value} (c:Chg W g t cs W1) (o:Obj):Chg W g t cs (W1.alloc o):=c.below ((Below.refl _ _).alloc Zl o)
theorem Chg.drew {W W1:World} {g:Nat} {t:TypeId} {cs:Array Value} (c:Chg W g t cs W1):Chg W g t cs W1.drew:=⟨c.size,c.box.drew,c.other,fun n hn hl=>b_dr (c.bel n hn hl)⟩
theorem Chg.bx {W W':World} {g h:Nat} {t s:TypeId} {cs ds:Array Value} (c:Chg W g t cs W') (hb:Bx W h s ds) (hp:h ≠ g):Bx W' h s ds:=(c.other h hp hb.lt).trans hb
theorem Chg.cell {W W':World} {g:Nat} {t:TypeId} {cs:Array Value} (c:Chg W g t cs W') {p:Addr} (hp:p.block ≠ g) (hl:p.block < W.heap.size):W'.cell? p = W.cell? p:=World.cell?_of_block (w:=W) (c.other p.block hp hl)
theorem Upd.same {W:World} {g:Nat} {t:TypeId} {cs:Array Value} (h:Bx W g t cs):Upd W g t cs W:=⟨rfl,h,fun _ _=>rfl,fun _ _=>Below.refl _ _⟩
theorem Bx.setOne {W:World} {g k:Nat} {t:TypeId} {cs:Array Value} {v:Value} (h:Bx W g t cs):Upd W g t (cs.setIfInBounds k v) (W.setCell ⟨g,k,none⟩ v):=by
 unfold Bx at h;have hs:(W.setCell ⟨g,k,none⟩ v).heap.size = W.heap.size:=by simp [World.setCell]
 have ho:∀ q,q ≠ g -> (W.setCell ⟨g,k,none⟩ v).heap[q]? = W.heap[q]?:=fun q hq=>by
  simp only [World.setCell];rw [Array.getElem?_modify,if_neg (fun e=>hq e.symm)]
 refine ⟨hs,?_,ho,fun n hn=>⟨rfl,rfl,rfl,by rw [hs]; exact Nat.le_refl _,fun q hq=>ho q Zo⟩⟩;unfold Bx;simp only [World.setCell];rw [Array.getElem?_modify,if_pos rfl,h];rfl
theorem Upd.trans {W W1 W2:World} {g:Nat} {t s:TypeId} {cs ds:Array Value} (c:Upd W g t cs W1) (d:Upd W1 g s ds W2):Upd W g s ds W2 :=
 ⟨by rw [d.size,c.size],d.box,fun k hk=>(d.other k hk).trans (c.other k hk),fun n hn=>(c.bel n hn).trans (d.bel n hn)⟩
def cnt (x:Nat -> Int) (m:Mt) (n:Nat):Array Value:=#[.int .i64 (x 0),.int .i64 (x 1),.int .i64 (x 2),.int .i64 (x 3),.int .i64 (x 4),.int .i64 (x 5),.int .i64 (x 6),.int .i64 (x 7),.int .i64 (x 8),.int .i64 (x 9),.int .i64 (x 10),.int .i64 (x 11),.int .i64 (x 12),.int .i64 (x 13),.int .i64 (x 14),.int .i64 (x 15),.int .i64 (x 16),.int .i64 (x 17),.int .i64 (x 18),
 .int .i64 m.now,.int .i64 m.acc,.bool m.half,.int .i64 m.lie,.int .i64 m.dawn,.int .i64 m.day,.int .i64 m.longers,.bool m.split,.int .i64 m.reduces,.int .i64 m.sabbath,.bool m.brief,.int .i64 m.week,.int .i64 m.last,.int .i64 m.labour,.int .i64 (n:Int)]
theorem cnt_size (x:Nat -> Int) (m:Mt) (n:Nat):(cnt x m n).size = 34:=rfl
theorem cnt_one (x:Nat -> Int) (m:Mt) (n:Nat):(cnt x m n).all (·.oneCell') = true:=by kernel_rfl
theorem cnt_bk (x:Nat -> Int) (m:Mt) (n:Nat):∀ i,i < 19 -> (cnt x m n)[0 + i]? = some (.int .i64 (x i)):=by
 intro i hi;have:i = 0 ∨ i = 1 ∨ i = 2 ∨ i = 3 ∨ i = 4 ∨ i = 5 ∨ i = 6 ∨ i = 7 ∨ i = 8 ∨ i = 9 ∨ i = 10 ∨ i = 11 ∨ i = 12 ∨ i = 13 ∨ i = 14 ∨ i = 15 ∨ i = 16 ∨ i = 17 ∨ i = 18:=by omega
 rcases this with rfl | rfl | rfl | rfl | rfl | rfl | rfl | rfl | rfl | rfl | rfl | rfl | rfl | rfl | rfl | rfl | rfl | rfl | rfl <;> rfl
abbrev Cn (W:World) (g:Nat) (x:Nat -> Int) (m:Mt) (n:Nat):Prop:=Bx W g 195 (cnt x m n)
theorem Cn.rdI {W:World} {g:Nat} {x:Nat -> Int} {m:Mt} {n:Nat} (h:Cn W g x m n):RdI W g 0 x:=⟨h.lt,fun i hi=>h.cell (cnt_bk x m n i hi)⟩
abbrev CnTo (W:World) (g:Nat) (x:Nat -> Int) (m:Mt) (n:Nat) (W':World):Prop:=Chg W g 195 (cnt x m n) W'
def ltF (x y:Rc):Prop:=x.1 < y.1 ∨ (x.1 = y.1 /\ (x.2.1 < y.2.1 ∨ (x.2.1 = y.2.1 /\ x.2.2 < y.2.2)))
instance (x y:Rc):Decidable (ltF x y):=by unfold ltF; infer_instance
theorem ltF_irr (x:Rc):¬ ltF x x:=by unfold ltF; omega
theorem ltF_tr {x y z:Rc} (h:ltF x y) (h2:ltF y z):ltF x z:=by unfold ltF at *; omega
theorem ltF_as {x y:Rc} (h:ltF x y):¬ ltF y x:=fun k=>ltF_irr x (ltF_tr h k)
theorem ltF_tot {x y:Rc} (h:¬ ltF x y) (h2:¬ ltF y x):x = y:=by
 unfold ltF at *;obtain ⟨a,b,c⟩:=x;obtain ⟨d,e,f⟩:=y;simp only [Prod.mk.injEq] at *;omega
theorem ltF_nt {x y z:Rc} (h:¬ ltF x y) (h2:¬ ltF y z):¬ ltF x z:=by unfold ltF at *; omega
def SetF (r l:List Rc):Prop:=r.Pairwise ltF /\ ∀ x,x ∈ r ↔ x ∈ l
theorem sorted_unique:∀ {r s:List Rc},r.Pairwise ltF -> s.Pairwise ltF -> (∀ x,x ∈ r ↔ x ∈ s) -> r = s
 | [],[],_,_,_=>rfl
 | [],y :: s,_,_,h=>by have:=(h y).2 (List.mem_cons_self ..); cases this
 | x :: r,[],_,_,h=>by have:=(h x).1 (List.mem_cons_self ..); cases this
 | x :: r,y :: s,hr,hs,h=>by
  obtain ⟨hx,hr2⟩:=List.pairwise_cons.1 hr;obtain ⟨hy,hs2⟩:=List.pairwise_cons.1 hs
  have e:x = y:=by
   rcases List.mem_cons.1 ((h x).1 (List.mem_cons_self ..)) with e | h1
   ·exact e
   ·rcases List.mem_cons.1 ((h y).2 (List.mem_cons_self ..)) with e | h2
    ·exact e.symm
    ·exact absurd (hy x h1) (ltF_as (hx y h2))
  subst e
  have hrs:r = s:=sorted_unique hr2 hs2 fun z=>by
   have hz:=h z;constructor
   ·intro hm
    rcases List.mem_cons.1 (hz.1 (List.mem_cons_of_mem _ hm)) with e | h1
    ·subst e; exact absurd (hx z hm) (ltF_irr z)
    ·exact h1
   ·intro hm
    rcases List.mem_cons.1 (hz.2 (List.mem_cons_of_mem _ hm)) with e | h1
    ·subst e; exact absurd (hy z hm) (ltF_irr z)
    ·exact h1
  rw [hrs]
theorem setF_unique {r s l:List Rc} (h:SetF r l) (h2:SetF s l):r = s:=sorted_unique h.1 h2.1 fun x=>(h.2 x).trans (h2.2 x).symm
theorem setF_again {r s l:List Rc} (h:SetF r l) (h2:SetF s r):s = r:=setF_unique h2 ⟨h.1,fun _=>Iff.rfl⟩
theorem setF_perm {r l d:List Rc} (h:SetF r d) (hp:d.Perm l):SetF r l:=⟨h.1,fun x=>(h.2 x).trans hp.mem_iff⟩
theorem compact_set {d:Array Rc} (hs:∀ i j:Nat,i < j -> j < d.size -> ¬ ltF d[j]! d[i]!):∀ m,m <= d.size ->
  (Lib.compactUpTo d m).Pairwise ltF /\ ∀ x,x ∈ Lib.compactUpTo d m ↔ ∃ j,j < m /\ d[j]! = x:=by
 intro m
 induction m with
 | zero=>intro _; exact ⟨by simp [Lib.compactUpTo],fun x=>by simp [Lib.compactUpTo]⟩
 | succ m ih =>
  intro hm;obtain ⟨ih1,ih2⟩:=ih Zo;rw [Lib.compactUpTo_succ];by_cases hk:Lib.keeps d m = true
  ·rw [if_pos hk]
   constructor
   ·rw [List.pairwise_append]
    refine ⟨ih1,by simp,fun x hx y hy=>?_⟩;rw [List.mem_singleton] at hy;subst hy;obtain ⟨j,hj,rfl⟩:=(ih2 x).1 hx;have n1:=hs j m hj Zo;by_cases h1:ltF d[j]! d[m]!
    ·exact h1
    ·exfalso
     have e:=ltF_tot h1 n1;have hm0:m ≠ 0:=by omega
     have hne:d[m]! ≠ d[m - 1]!:=by
      unfold Lib.keeps at hk;have:=of_decide_eq_true hk
      rcases this with h0 | h0
      ·exact absurd h0 hm0
      ·exact h0
     have n2:=hs (m - 1) m Zo Zo
     have n3:¬ ltF d[m - 1]! d[j]!:=by
      by_cases ej:j = m - 1
      ·rw [ej]; exact ltF_irr _
      ·exact hs j (m - 1) Zo Zo
     rw [e] at n3;exact hne (ltF_tot n2 n3)
   ·intro x
    rw [List.mem_append,List.mem_singleton,ih2];constructor
    ·rintro (⟨j,hj,e⟩ | rfl)
     ·exact ⟨j,by omega,e⟩
     ·exact ⟨m,by omega,rfl⟩
    ·rintro ⟨j,hj,e⟩
     by_cases ej:j = m
     ·subst ej; exact .inr e.symm
     ·exact .inl ⟨j,by omega,e⟩
  ·rw [if_neg hk,List.append_nil]
   refine ⟨ih1,fun x=>(ih2 x).trans ⟨fun ⟨j,hj,e⟩=>⟨j,by omega,e⟩,fun ⟨j,hj,e⟩=>?_⟩⟩;by_cases ej:j = m
   ·subst ej
    have hm0:j ≠ 0:=by
     intro h;subst h;simp [Lib.keeps] at hk
    have he:d[j]! = d[j - 1]!:=by
     unfold Lib.keeps at hk;simp only [decide_eq_true_eq,not_or] at hk;exact Classical.not_not.1 hk.2
    exact ⟨j - 1,by omega,by rw [<- he]; exact e⟩
   ·exact ⟨j,by omega,e⟩
theorem arr_mem (d:Array Rc) (x:Rc):(∃ j,j < d.size /\ d[j]! = x) ↔ x ∈ d.toList:=by
 rw [List.mem_iff_getElem];constructor
 ·rintro ⟨j,hj,e⟩
  refine ⟨j,by simpa using hj,?_⟩;rw [getElem!_pos d j hj] at e;simpa using e
 ·rintro ⟨j,hj,e⟩
  have hj':j < d.size:=by simpa using hj
  refine ⟨j,hj',?_⟩;rw [getElem!_pos d j hj'];simpa using e
theorem compact_setF {d:Array Rc} (hs:∀ i j:Nat,i < j -> j < d.size -> ¬ ltF d[j]! d[i]!):SetF (Lib.compactUpTo d d.size) d.toList:=by
 obtain ⟨h1,h2⟩:=compact_set hs d.size Zl;exact ⟨h1,fun x=>(h2 x).trans (arr_mem d x)⟩
def Gr (w w':World):Prop:=∃ q os,w' = Go.Sort.grow (w.drewN q) os
theorem Gr.refl (w:World):Gr w w:=⟨0,#[],by rw [Go.Sort.grow_empty]; rfl⟩
theorem Gr.alloc {w W:World} (h:Gr w W) (o:Obj):Gr w (W.alloc o):=by
 obtain ⟨q,os,rfl⟩:=h;exact ⟨q,os ++ #[o],by rw [Go.Sort.alloc_eq_grow,Go.Sort.grow_grow]⟩
theorem Gr.drew {w W:World} (h:Gr w W):Gr w W.drew:=by
 obtain ⟨q,os,rfl⟩:=h;exact ⟨q + 1,os,rfl⟩
theorem Gr.trans {a b c:World} (h:Gr a b) (h2:Gr b c):Gr a c:=by
 obtain ⟨q,os,rfl⟩:=h;obtain ⟨q2,os2,rfl⟩:=h2;refine ⟨q + q2,os ++ os2,?_⟩;rw [<- Go.Sort.grow_grow];congr 1
 show Go.Sort.ahead (Go.Sort.grow (Go.Sort.ahead a q) os) q2 = Go.Sort.grow (Go.Sort.ahead a (q + q2)) os
 rw [Go.Sort.ahead_grow,Go.Sort.ahead_ahead]
theorem Gr.below {w W:World} (h:Gr w W):Below w.heap.size w W:=by
 obtain ⟨q,os,rfl⟩:=h;exact ⟨rfl,rfl,rfl,by simp,fun j hj=>(Go.Sort.heap_grow_old (w.drewN q) os (show j < (w.drewN q).heap.size from hj)).trans rfl⟩
def cmpv (a b:Int):Int:=if a < b then -1 else if b < a then 1 else 0
theorem cmpv_zero {a b:Int}:cmpv a b = 0 ↔ a = b:=by unfold cmpv; split <;> (try split) <;> omega
theorem cmpv_neg {a b:Int}:cmpv a b < 0 ↔ a < b:=by unfold cmpv; split <;> (try split) <;> omega
theorem compare_any (a b:Int) (w:World) :
  Calls Tryz.prog 129 #[.int .i64 a,.int .i64 b] w fun e w'=>e = .returned (.int .i64 (cmpv a b)) /\ w = w':=by
 have e1:(a != a) = false:=by simp
 have e2:(b != b) = false:=by simp
 unfold cmpv;by_cases h:a < b
 ·rw [if_pos h]
  go_enter Tryz.func129,Tryz.ntmps129;go_wp2;go_ret;exact ⟨rfl,rfl⟩
 ·rw [if_neg h]
  by_cases h2:b < a
  ·rw [if_pos h2]
   go_enter Tryz.func129,Tryz.ntmps129;go_wp2;go_ret;exact ⟨rfl,rfl⟩
  ·rw [if_neg h2]
   go_enter Tryz.func129,Tryz.ntmps129;go_wp2;go_ret;exact ⟨rfl,rfl⟩
def orV (l:List Int):Int:=(l.find? (fun x=>x != 0)).getD 0
theorem or_hit {l:List Int} {k:Nat} {x:Int} (h:∀ j,j < k -> l.getD j 0 = 0) (hk:k < l.length) (hx:l.getD k 0 = x) (hn:x ≠ 0):orV l = x:=by
 unfold orV
 have e:l.find? (fun x=>x != 0) = some x:=by
  rw [List.find?_eq_some_iff_getElem];refine ⟨by simpa using hn,k,hk,?_,fun j hj=>?_⟩
  ·simpa [List.getD,hk] using hx
  ·have:=h j hj
   have hj2:j < l.length:=by omega
   simpa [List.getD,hj2] using this
 rw [e]; rfl
theorem or_none {l:List Int} (h:∀ j,j < l.length -> l.getD j 0 = 0):orV l = 0:=by
 unfold orV
 have e:l.find? (fun x=>x != 0) = none:=by
  rw [List.find?_eq_none];intro x hx;obtain ⟨j,hj,rfl⟩:=List.getElem_of_mem hx;have:=h j hj;simpa [List.getD,hj] using this
 rw [e]; rfl
theorem or_any (A:Option Addr) (c n:Nat) (l:List Int) (w:World) (hn:l.length = n) (hr:RdN w A l) (hl:n <= 1000000) :
  Calls Tryz.prog 128 #[.slice A n c] w fun e w'=>e = .returned (.int .i64 (orV l)) /\ w = w':=by
 have HN:=Zh hn;have HR:=Zh hr;clear hn hr;go_enter Tryz.func128,Tryz.ntmps128;go_wp2;go_loopw [8] (fun i wr=>∃ k:Nat,k <= n /\ i = .int .i64 k /\ w = wr /\ Hid (∀ j,j < k -> l.getD j 0 = 0)) (fun i _=>n - (intOf i).toNat)
 case atStart=>exact ⟨0,Nat.zero_le _,rfl,rfl,Zh Zo⟩
 case round =>
  obtain ⟨k,hk,rfl,rfl,hz⟩:=hrel;by_cases hlt:k < n
  ·obtain ⟨b,off,hA,hb,hc⟩:=HR.out (nonnil (k:=k) (by rw [HN.out]; exact hlt))
   subst hA;have q:=hc k (by rw [HN.out]; exact hlt);obtain ⟨x,hx⟩:∃ x,l.getD k 0 = x:=⟨_,rfl⟩;rw [hx] at q;have HX:=Zh hx;clear hx hc;by_cases h0:x = 0
   ·subst h0
    go_wp2;go_roundw
    case rel=>exact ⟨k + 1,by omega,by go_num,by trivial,Zh (fun j hj=>by
     by_cases e:j = k
     ·subst e; exact HX.out
     ·exact hz.out j Zo)⟩
    case measure=>simp [intOf]; omega
   ·have e1:(x != 0) = true:=by simpa using h0
    have e2:(x == 0) = false:=by simpa using h0
    have H0:=Zh h0;clear h0;go_wp2;go_ret;exact ⟨by rw [or_hit hz.out (by rw [HN.out]; exact hlt) HX.out H0.out]; rfl,rfl⟩
  ·have HE:=Zh (or_none (l:=l) (fun j hj=>hz.out j (by have:=HN.out; omega)))
   go_wp2;go_ret;exact ⟨by rw [HE.out]; rfl,rfl⟩
def ordF (x y:Rc):Int:=orV [cmpv x.1 y.1,cmpv x.2.1 y.2.1,cmpv x.2.2 y.2.2]
theorem ordF_neg (x y:Rc):ordF x y < 0 ↔ ltF x y:=by
 obtain ⟨a,b,c⟩:=x;obtain ⟨d,e,f⟩:=y;have z1:=cmpv_zero (a:=a) (b:=d);have z2:=cmpv_zero (a:=b) (b:=e);have n1:=cmpv_neg (a:=a) (b:=d);have n2:=cmpv_neg (a:=b) (b:=e);have n3:=cmpv_neg (a:=c) (b:=f);unfold ordF ltF orV;simp only [List.find?_cons,List.find?_nil];by_cases h1:cmpv a d = 0
 ·simp only [h1,bne_self_eq_false]
  by_cases h2:cmpv b e = 0
  ·simp only [h2,bne_self_eq_false]
   by_cases h3:cmpv c f = 0
   ·simp only [h3,bne_self_eq_false,Option.getD_none]
    have:=z1.1 h1;have:=z2.1 h2;have:=cmpv_zero.1 h3;omega
   ·have e3:(cmpv c f != 0) = true:=by simpa using h3
    simp only [e3,Option.getD_some];have:=z1.1 h1;have:=z2.1 h2;omega
  ·have e2:(cmpv b e != 0) = true:=by simpa using h2
   simp only [e2,Option.getD_some];have:=z1.1 h1;have:b ≠ e:=fun k=>h2 (z2.2 k)
   omega
 ·have e1:(cmpv a d != 0) = true:=by simpa using h1
  simp only [e1,Option.getD_some];have:a ≠ d:=fun k=>h1 (z1.2 k)
  omega
theorem new3 {W:World} {n:Nat} {a b c:Value} {t:TypeId} (hn:n = W.heap.size):(W.alloc (.cells #[a,b,c] t)).cell? ⟨n,0,none⟩ = some a /\ (W.alloc (.cells #[a,b,c] t)).cell? ⟨n,1,none⟩ = some b /\ (W.alloc (.cells #[a,b,c] t)).cell? ⟨n,2,none⟩ = some c:=by
 subst hn;exact ⟨by simp,by simp,by simp⟩
theorem three_ints {W:World} {n:Nat} {a b c:Int} (h0:W.cell? ⟨n,0,none⟩ = some (.int .i64 a)) (h1:W.cell? ⟨n,1,none⟩ = some (.int .i64 b)) (h2:W.cell? ⟨n,2,none⟩ = some (.int .i64 c)):RdN W (some ⟨n,0,none⟩) [a,b,c]:=fun _=>⟨n,0,rfl,World.block_lt_of_cell? W ⟨n,0,none⟩ h0,fun k hk=>by
 have:k = 0 ∨ k = 1 ∨ k = 2:=by simp at hk; omega
 rcases this with rfl | rfl | rfl
 ·exact h0
 ·exact h1
 ·exact h2⟩
set_option maxHeartbeats 1000000 in
theorem order_gr (a b c d e f:Int) (w:World) :
  Calls Tryz.prog 91 #[.agg #[.int .i64 a,.int .i64 b,.int .i64 c],.agg #[.int .i64 d,.int .i64 e,.int .i64 f]] w fun r w'=>r = .returned (.int .i64 (ordF (a,b,c) (d,e,f))) /\ Gr w w':=by
 have C1:=fun W=>compare_any a d W
 have C2:=fun W=>compare_any b e W
 have C3:=fun W=>compare_any c f W
 have CO:∀ (W:World) (N:Nat),W.cell? ⟨N,0,none⟩ = some (.int .i64 (cmpv a d)) -> W.cell? ⟨N,1,none⟩ = some (.int .i64 (cmpv b e)) -> W.cell? ⟨N,2,none⟩ = some (.int .i64 (cmpv c f)) ->
   Calls Tryz.prog 128 #[.slice (some ⟨N,0,none⟩) 3 3] W fun r w'=>r = .returned (.int .i64 (ordF (a,b,c) (d,e,f))) /\ W = w':=fun W N h0 h1 h2=>or_any (some ⟨N,0,none⟩) 3 3 _ W rfl (three_ints h0 h1 h2) Zo
 generalize ordF (a,b,c) (d,e,f) = z at CO;generalize cmpv a d = x1 at C1 CO;generalize cmpv b e = x2 at C2 CO;generalize cmpv c f = x3 at C3 CO;have HG:Hid (Gr w ((w.alloc (.cells #[.int .i64 a,.int .i64 b,.int .i64 c] 52)).alloc (.cells #[.int .i64 d,.int .i64 e,.int .i64 f] 52))):=Zh (((Gr.refl w).alloc _).alloc _);have k0:((w.alloc (.cells #[.int .i64 a,.int .i64 b,.int .i64 c] 52)).alloc (.cells #[.int .i64 d,.int .i64 e,.int .i64 f] 52)).cell? ⟨w.heap.size,0,none⟩ = some (.int .i64 a):=by simp
 have k1:((w.alloc (.cells #[.int .i64 a,.int .i64 b,.int .i64 c] 52)).alloc (.cells #[.int .i64 d,.int .i64 e,.int .i64 f] 52)).cell? ⟨w.heap.size,1,none⟩ = some (.int .i64 b):=by simp
 have k2:((w.alloc (.cells #[.int .i64 a,.int .i64 b,.int .i64 c] 52)).alloc (.cells #[.int .i64 d,.int .i64 e,.int .i64 f] 52)).cell? ⟨w.heap.size,2,none⟩ = some (.int .i64 c):=by simp
 have k3:((w.alloc (.cells #[.int .i64 a,.int .i64 b,.int .i64 c] 52)).alloc (.cells #[.int .i64 d,.int .i64 e,.int .i64 f] 52)).cell? ⟨w.heap.size + 1,0,none⟩ = some (.int .i64 d):=by simp
 have k4:((w.alloc (.cells #[.int .i64 a,.int .i64 b,.int .i64 c] 52)).alloc (.cells #[.int .i64 d,.int .i64 e,.int .i64 f] 52)).cell? ⟨w.heap.size + 1,1,none⟩ = some (.int .i64 e):=by simp
 have k5:((w.alloc (.cells #[.int .i64 a,.int .i64 b,.int .i64 c] 52)).alloc (.cells #[.int .i64 d,.int .i64 e,.int .i64 f] 52)).cell? ⟨w.heap.size + 1,2,none⟩ = some (.int .i64 f):=by simp
 go_enter Tryz.func91,Tryz.ntmps91;go_wp2;refine wp_region_noPanic ?_;refine wp_region_held_drew (S:=fun w'=>Gr ((w.alloc (.cells #[.int .i64 a,.int .i64 b,.int .i64 c] 52)).alloc (.cells #[.int .i64 d,.int .i64 e,.int .i64 f] 52)) w') Zk ?_ (fun hHeld=>?_)
 ·exact (Gr.refl _).drew
 refine Zt 0 (some 5) (hy:=by intro w' hSw; (try dsimp only at hSw); have c0:=c_cl k0 (Gr.below hSw); have c1:=c_cl k1 (Gr.below hSw); have c2:=c_cl k2 (Gr.below hSw); have c3:=c_cl k3 (Gr.below hSw); have c4:=c_cl k4 (Gr.below hSw); have c5:=c_cl k5 (Gr.below hSw); go_simp; try (with_reducible rfl)) ?_;(try simp only [Zs]);refine Zt 1 (some 6) (hy:=by intro w' hSw; (try dsimp only at hSw); have c0:=c_cl k0 (Gr.below hSw); have c1:=c_cl k1 (Gr.below hSw); have c2:=c_cl k2 (Gr.below hSw); have c3:=c_cl k3 (Gr.below hSw); have c4:=c_cl k4 (Gr.below hSw); have c5:=c_cl k5 (Gr.below hSw); go_simp; try (with_reducible rfl)) ?_;(try simp only [Zs]);refine Zt 2 (some 7) (hy:=by intro w' hSw; (try dsimp only at hSw); have c0:=c_cl k0 (Gr.below hSw); have c1:=c_cl k1 (Gr.below hSw); have c2:=c_cl k2 (Gr.below hSw); have c3:=c_cl k3 (Gr.below hSw); have c4:=c_cl k4 (Gr.below hSw); have c5:=c_cl k5 (Gr.below hSw); go_simp; try (with_reducible rfl)) ?_;(try simp only [Zs]);refine Zt 3 (some 8) (hy:=by intro w' hSw; (try dsimp only at hSw); have c0:=c_cl k0 (Gr.below hSw); have c1:=c_cl k1 (Gr.below hSw); have c2:=c_cl k2 (Gr.below hSw); have c3:=c_cl k3 (Gr.below hSw); have c4:=c_cl k4 (Gr.below hSw); have c5:=c_cl k5 (Gr.below hSw); go_simp; try (with_reducible rfl)) ?_;(try simp only [Zs]);refine Zt 5 (some 10) (hy:=by intro w' hSw; (try dsimp only at hSw); have c0:=c_cl k0 (Gr.below hSw); have c1:=c_cl k1 (Gr.below hSw); have c2:=c_cl k2 (Gr.below hSw); have c3:=c_cl k3 (Gr.below hSw); have c4:=c_cl k4 (Gr.below hSw); have c5:=c_cl k5 (Gr.below hSw); go_simp; try (with_reducible rfl)) ?_;(try simp only [Zs]);refine Zt 6 (some 11) (hy:=by intro w' hSw; (try dsimp only at hSw); have c0:=c_cl k0 (Gr.below hSw); have c1:=c_cl k1 (Gr.below hSw); have c2:=c_cl k2 (Gr.below hSw); have c3:=c_cl k3 (Gr.below hSw); have c4:=c_cl k4 (Gr.below hSw); have c5:=c_cl k5 (Gr.below hSw); go_simp; try (with_reducible rfl)) ?_;(try simp only [Zs]);refine Zt 7 (some 12) (hy:=by intro w' hSw; (try dsimp only at hSw); have c0:=c_cl k0 (Gr.below hSw); have c1:=c_cl k1 (Gr.below hSw); have c2:=c_cl k2 (Gr.below hSw); have c3:=c_cl k3 (Gr.below hSw); have c4:=c_cl k4 (Gr.below hSw); have c5:=c_cl k5 (Gr.below hSw); go_simp; try (with_reducible rfl)) ?_;(try simp only [Zs]);refine Zt 8 (some 13) (hy:=by intro w' hSw; (try dsimp only at hSw); have c0:=c_cl k0 (Gr.below hSw); have c1:=c_cl k1 (Gr.below hSw); have c2:=c_cl k2 (Gr.below hSw); have c3:=c_cl k3 (Gr.below hSw); have c4:=c_cl k4 (Gr.below hSw); have c5:=c_cl k5 (Gr.below hSw); go_simp; try (with_reducible rfl)) ?_;(try simp only [Zs]);refine Zt 10 (some 15) (hy:=by intro w' hSw; (try dsimp only at hSw); have c0:=c_cl k0 (Gr.below hSw); have c1:=c_cl k1 (Gr.below hSw); have c2:=c_cl k2 (Gr.below hSw); have c3:=c_cl k3 (Gr.below hSw); have c4:=c_cl k4 (Gr.below hSw); have c5:=c_cl k5 (Gr.below hSw); go_simp; try (with_reducible rfl)) ?_;(try simp only [Zs]);refine Zt 11 (some 16) (hy:=by intro w' hSw; (try dsimp only at hSw); have c0:=c_cl k0 (Gr.below hSw); have c1:=c_cl k1 (Gr.below hSw); have c2:=c_cl k2 (Gr.below hSw); have c3:=c_cl k3 (Gr.below hSw); have c4:=c_cl k4 (Gr.below hSw); have c5:=c_cl k5 (Gr.below hSw); go_simp; try (with_reducible rfl)) ?_;(try simp only [Zs]);refine Zt 12 (some 17) (hy:=by intro w' hSw; (try dsimp only at hSw); have c0:=c_cl k0 (Gr.below hSw); have c1:=c_cl k1 (Gr.below hSw); have c2:=c_cl k2 (Gr.below hSw); have c3:=c_cl k3 (Gr.below hSw); have c4:=c_cl k4 (Gr.below hSw); have c5:=c_cl k5 (Gr.below hSw); go_simp; try (with_reducible rfl)) ?_;(try simp only [Zs]);refine Zt 13 (some 18) (hy:=by intro w' hSw; (try dsimp only at hSw); have c0:=c_cl k0 (Gr.below hSw); have c1:=c_cl k1 (Gr.below hSw); have c2:=c_cl k2 (Gr.below hSw); have c3:=c_cl k3 (Gr.below hSw); have c4:=c_cl k4 (Gr.below hSw); have c5:=c_cl k5 (Gr.below hSw); go_simp; try (with_reducible rfl)) ?_;(try simp only [Zs]);refine Zr 4 (some 9) fun K hK=>?_
 go_simp;(go_at_call 129; (with_reducible refine (C1 _).mono ?_); rintro e w2 ⟨rfl,rfl⟩)
 try go_wp2_with fail
 refine hK.out _ _ (by (repeat (first | assumption | exact Gr.refl _ | refine Gr.alloc ?_ _ | refine Gr.drew ?_))) (fun hHeld=>?_);clear hK K;(try simp only [Zs]);refine Zr 9 (some 14) fun K hK=>?_
 go_simp;(go_at_call 129; (with_reducible refine (C2 _).mono ?_); rintro e w2 ⟨rfl,rfl⟩)
 try go_wp2_with fail
 refine hK.out _ _ (by (repeat (first | assumption | exact Gr.refl _ | refine Gr.alloc ?_ _ | refine Gr.drew ?_))) (fun hHeld=>?_);clear hK K;(try simp only [Zs]);refine Zr 14 (some 19) fun K hK=>?_
 go_simp;(go_at_call 129; (with_reducible refine (C3 _).mono ?_); rintro e w2 ⟨rfl,rfl⟩)
 try go_wp2_with fail
 refine hK.out _ _ (by (repeat (first | assumption | exact Gr.refl _ | refine Gr.alloc ?_ _ | refine Gr.drew ?_))) (fun hHeld=>?_);clear hK K;(try simp only [Zs]);refine Zr 15 (some 20) fun K hK=>?_
 go_simp
 try go_wp2_with fail
 refine hK.out _ _ (by (repeat (first | assumption | exact Gr.refl _ | refine Gr.alloc ?_ _ | refine Gr.drew ?_))) (fun hHeld=>?_);clear hK K;(try simp only [Zs]);refine Zr 16 (some 21) fun K hK=>?_
 go_simp;(go_at_call 128; (with_reducible refine (CO _ _ ?_ ?_ ?_).mono ?_); (focus exact (new3 (by simp)).1); (focus exact (new3 (by simp)).2.1); (focus exact (new3 (by simp)).2.2); rintro e w3 ⟨rfl,rfl⟩)
 try go_wp2_with fail
 refine hK.out _ _ (by (repeat (first | assumption | exact Gr.refl _ | refine Gr.alloc ?_ _ | refine Gr.drew ?_))) (fun hHeld=>?_);clear hK K;(try simp only [Zs]);refine Zr 17 (some 4) fun K hK=>?_
 go_simp
 try go_wp2_with fail
 refine hK.out _ _ (by (repeat (first | assumption | exact Gr.refl _ | refine Gr.alloc ?_ _ | refine Gr.drew ?_))) (fun hHeld=>?_);clear hK K;(try simp only [Zs]);refine wpAnyH_done Zk ?_ _;refine NoPanic.normal ?_;go_wp2;go_ret;exact ⟨rfl,HG.out.trans (by (repeat (first | assumption | exact Gr.refl _ | refine Gr.alloc ?_ _ | refine Gr.drew ?_)))⟩
end Go.Proofs.YtiamnbddbmgffaaGreatDoor
