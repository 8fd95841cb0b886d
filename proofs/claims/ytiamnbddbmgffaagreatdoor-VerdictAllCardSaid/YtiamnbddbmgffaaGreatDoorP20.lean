/- Texts of the proofs of VerdictAudits, VerdictAll, VerdictRising, pressed: StretchBreaks, StretchWeek, StretchDrive, StretchWeeks, StretchOnC. Conditions: as each theorem says. -/
import Derived.Test.YtiamnbddbmgffaaGreatDoorRows
import Derived.Test.YtiamnbddbmgffaaGreatDoorP16
import Derived.Lib.MinMax
namespace Go.Proofs.YtiamnbddbmgffaaGreatDoor
open Go.RowKit
set_option linter.unusedVariables false
set_option maxRecDepth 20000 in
theorem breaks14_any (g:Nat) (x:Nat -> Int) (k:Int) (m:Mt) (y:Nat -> Int) (c:Nat) (q a t:Int) (w:World) (hb:Bk w g x k m y) (hc:c < 10) (hq:q = ((c:Nat):Int)) :
  Calls Tryz.prog 149 #[.pointer (some ⟨g,0,none⟩),.int .i64 q,.int .i64 a,.int .i64 t] w fun e w'=>e = .returned (.tuple #[]) /\ BkTo w g x k m (brk y c a t) w':=by
 subst hq;have f0:w.cell? ⟨g,34 + c,none⟩ = some (.int .i64 (y c)):=hb.cell (blk_first x k m y c hc);have hs:=blk_fs x k m y a c hc;obtain ⟨v,hv⟩:∃ v,y c = v:=⟨_,rfl⟩;rw [hv] at f0;by_cases h1:a < t
 case neg =>
  have e:brk y c a t = y:=by unfold brk; rw [if_neg (fun h=>h1 h.1)]
  rw [e];have d1:decide (a < t) = false:=decide_eq_false h1;clear e hs hv;go_enter Tryz.func149,Tryz.ntmps149;go_wp2;refine bodyPost_end (results_none Tryz.results149 _ _ _) rfl ⟨rfl,Chg.refl hb⟩
 have d1:decide (a < t) = true:=decide_eq_true h1;by_cases h2:v < 0
 case neg =>
  have e:brk y c a t = y:=by unfold brk; rw [if_neg (fun h=>h2 (by rw [<- hv]; exact h.2))]
  rw [e];have d2:decide (v < 0) = false:=decide_eq_false h2;clear e hs hv h1;go_enter Tryz.func149,Tryz.ntmps149;go_wp2;refine bodyPost_end (results_none Tryz.results149 _ _ _) rfl ⟨rfl,Chg.refl hb⟩
 have e:brk y c a t = fs y c a:=by unfold brk; rw [if_pos ⟨h1,by rw [hv]; exact h2⟩]
 rw [e];have d2:decide (v < 0) = true:=decide_eq_true h2;clear e hv h1;go_enter Tryz.func149,Tryz.ntmps149;go_wp2_with (refine wpList_store_fld Zv 3 _ _ rfl g (34 + c) (.int .i64 a) rfl rfl rfl _ _ hb (by rw [blk_size]; omega) Zk (fun W' u=>?_));rw [hs] at u;refine bodyPost_end (results_none Tryz.results149 _ _ _) rfl ⟨rfl,(Chg.refl hb).upd u⟩
theorem wkY_of {y z:Nat -> Int} {s:Wk} (h3:z 3 = s.f3) (h4:z 4 = s.f4) (h9:z 9 = s.f9) (h:∀ c,c ≠ 3 -> c ≠ 4 -> c ≠ 9 -> z c = y c):z = wkY y s:=by
 funext c;unfold wkY;split
 ·rename_i e; rw [e]; exact h3
 split
 ·rename_i e; rw [e]; exact h4
 split
 ·rename_i e; rw [e]; exact h9
 rename_i n3 n4 n9;exact h c n3 n4 n9
theorem seg_three (x:Nat -> Int) (m:Mt) (y:Nat -> Int) (p e:Int):wkM m (Wk.seg x 3 ⟨p,m.week,m.last,m.labour,y 3,y 4,y 9⟩ e) = { m with week:=m.week + (e - p),labour:=m.labour + (e - p) } /\
  wkY y (Wk.seg x 3 ⟨p,m.week,m.last,m.labour,y 3,y 4,y 9⟩ e) = brk (brk (brk y 3 (p + x 15 - m.week) e) 4 (p + x 16 - m.last - m.week) e) 9 (p + x 17 - m.labour) e:=by
 refine ⟨rfl,?_⟩;symm;refine wkY_of ?_ ?_ ?_ ?_
 ·rw [brk_other _ _ _ Zd,brk_other _ _ _ Zd,brk_same]
  simp [Wk.seg]
 ·rw [brk_other _ _ _ Zd,brk_same,brk_other _ _ _ Zd]
  simp [Wk.seg]
 ·rw [brk_same,brk_other _ _ _ Zd,brk_other _ _ _ Zd]
  simp [Wk.seg]
 ·intro c h3 h4 h9
  rw [brk_other _ _ _ h9,brk_other _ _ _ h4,brk_other _ _ _ h3]
theorem seg_two (x:Nat -> Int) (m:Mt) (y:Nat -> Int) (p e:Int):wkM m (Wk.seg x 2 ⟨p,m.week,m.last,m.labour,y 3,y 4,y 9⟩ e) = { m with labour:=m.labour + (e - p) } /\ wkY y (Wk.seg x 2 ⟨p,m.week,m.last,m.labour,y 3,y 4,y 9⟩ e) = brk y 9 (p + x 17 - m.labour) e:=by
 refine ⟨rfl,?_⟩;symm;refine wkY_of ?_ ?_ ?_ ?_
 ·rw [brk_other _ _ _ Zd]
  simp [Wk.seg]
 ·rw [brk_other _ _ _ Zd]
  simp [Wk.seg]
 ·rw [brk_same]
  simp [Wk.seg]
 ·intro c h3 h4 h9
  rw [brk_other _ _ _ h9]
theorem seg_none (x:Nat -> Int) (k:Int) (m:Mt) (y:Nat -> Int) (p e:Int) (h3:¬ k = 3) (h2:¬ k = 2):wkM m (Wk.seg x k ⟨p,m.week,m.last,m.labour,y 3,y 4,y 9⟩ e) = m /\ wkY y (Wk.seg x k ⟨p,m.week,m.last,m.labour,y 3,y 4,y 9⟩ e) = y:=by
 refine ⟨by unfold wkM Wk.seg; simp [h3,h2],?_⟩;symm;refine wkY_of ?_ ?_ ?_ ?_ <;> simp [Wk.seg,h3,h2]
set_option maxRecDepth 100000 in
set_option maxHeartbeats 4000000 in
theorem week_any (g:Nat) (x:Nat -> Int) (k:Int) (m:Mt) (y:Nat -> Int) (p e:Int) (w:World) (hb:Bk w g x k m y) (hp:0 <= p /\ p <= e /\ e <= 300000) (hm:(0 <= m.week /\ m.week <= 300000) /\ (0 <= m.last /\ m.last <= 300000) /\ (0 <= m.labour /\ m.labour <= 300000))
  (hx:(0 <= x 15 /\ x 15 <= 40320) /\ (0 <= x 16 /\ x 16 <= 40320) /\ (0 <= x 17 /\ x 17 <= 40320)) :
  Calls Tryz.prog 169 #[.pointer (some ⟨g,0,none⟩),.int .i64 p,.int .i64 e] w fun e' w'=>e' = .returned (.tuple #[]) /\ BkTo w g x k (wkM m (Wk.seg x k ⟨p,m.week,m.last,m.labour,y 3,y 4,y 9⟩ e)) (wkY y (Wk.seg x k ⟨p,m.week,m.last,m.labour,y 3,y 4,y 9⟩ e)) w':=by
 obtain ⟨i1,i2,i3⟩:=hp;obtain ⟨⟨j0,j1⟩,⟨j2,j3⟩,⟨j4,j5⟩⟩:=hx;have C:BkTo w g x k m y w:=Chg.refl hb;clear hb;by_cases h3:k = 3
 case pos =>
  subst h3;obtain ⟨e1,e2⟩:=seg_three x m y p e;rw [e1,e2];clear e1 e2;obtain ⟨a0,a1,a2,a3,a4,a5,a6,a7,a8,a9,a10,a11,a12,a13⟩:=m;dsimp only at hm ⊢;obtain ⟨⟨r11,s11⟩,⟨r12,s12⟩,⟨r13,s13⟩⟩:=hm;have z0:=wrap14 (p + x 15) Zo Zo;have z1:=wrap14 (p + x 15 - a11) Zo Zo;have z2:=wrap14 (p + x 16) Zo Zo;have z3:=wrap14 (p + x 16 - a12) Zo Zo;have z4:=wrap14 (p + x 16 - a12 - a11) Zo Zo;have z5:=wrap14 (p + x 17) Zo Zo;have z6:=wrap14 (p + x 17 - a13) Zo Zo;have q3:((3:Int) == 3) = true:=rfl;have f19:w.cell? ⟨g,19,none⟩ = some (.int .i64 (3)):=C.box.cell rfl;have f15:w.cell? ⟨g,15,none⟩ = some (.int .i64 (x 15)):=C.box.cell rfl;have f31:w.cell? ⟨g,31,none⟩ = some (.int .i64 (a11)):=C.box.cell rfl;go_enter Tryz.func169,Tryz.ntmps169;go_upto_region 2 with fail
  (try go_frame);go_still_tail 14,Zk;change wpList _ _ _ _ _ w.drew
  go_upto_region 3 with (first
   | (go_at_call 149; (with_reducible refine (breaks14_any g x (3) ⟨a0,a1,a2,a3,a4,a5,a6,a7,a8,a9,a10,a11,a12,a13⟩ (y) 3 3 (p + x 15 - a11) (e) _ C.drew.box Zo rfl).mono ?_); rintro e w1 ⟨rfl,c⟩; replace C:BkTo w g x (3) ⟨a0,a1,a2,a3,a4,a5,a6,a7,a8,a9,a10,a11,a12,a13⟩ (brk (y) 3 (p + x 15 - a11) (e)) w1:=C.drew.trans c; clear c; have f16:w1.cell? ⟨g,16,none⟩ = some (.int .i64 (x 16)):=C.box.cell rfl; have f32:w1.cell? ⟨g,32,none⟩ = some (.int .i64 (a12)):=C.box.cell rfl; have f31:w1.cell? ⟨g,31,none⟩ = some (.int .i64 (a11)):=C.box.cell rfl))
  (try go_frame);go_still_tail 19,Zk;change wpList _ _ _ _ _ w1.drew
  go_upto_region 6 with (first
   | (go_at_call 149; (with_reducible refine (breaks14_any g x (3) ⟨a0,a1,a2,a3,a4,a5,a6,a7,a8,a9,a10,a11,a12,a13⟩ (brk (y) 3 (p + x 15 - a11) (e)) 4 4 (p + x 16 - a12 - a11) (e) _ C.drew.box Zo rfl).mono ?_); rintro e w2 ⟨rfl,c⟩; replace C:BkTo w g x (3) ⟨a0,a1,a2,a3,a4,a5,a6,a7,a8,a9,a10,a11,a12,a13⟩ (brk (brk (y) 3 (p + x 15 - a11) (e)) 4 (p + x 16 - a12 - a11) (e)) w2:=C.drew.trans c; clear c; have f31:w2.cell? ⟨g,31,none⟩ = some (.int .i64 (a11)):=C.box.cell rfl)
   | (refine wpList_store_fld Zv 3 _ _ rfl g 31 (.int .i64 (a11 + (e - p))) rfl rfl rfl _ _ C.box (by rw [blk_size]; decide) Zk (fun w3 u=>?_); replace C:BkTo w g x (3) ⟨a0,a1,a2,a3,a4,a5,a6,a7,a8,a9,a10,a11 + (e - p),a12,a13⟩ (brk (brk (y) 3 (p + x 15 - a11) (e)) 4 (p + x 16 - a12 - a11) (e)) w3:=C.upd u; clear u; have f19:w3.cell? ⟨g,19,none⟩ = some (.int .i64 (3)):=C.box.cell rfl; have f17:w3.cell? ⟨g,17,none⟩ = some (.int .i64 (x 17)):=C.box.cell rfl; have f33:w3.cell? ⟨g,33,none⟩ = some (.int .i64 (a13)):=C.box.cell rfl))
  (try go_frame);go_still_tail 14,Zk;change wpList _ _ _ _ _ w3.drew
  go_wp2_with (first
   | (go_at_call 149; (with_reducible refine (breaks14_any g x (3) ⟨a0,a1,a2,a3,a4,a5,a6,a7,a8,a9,a10,a11 + (e - p),a12,a13⟩ (brk (brk (y) 3 (p + x 15 - a11) (e)) 4 (p + x 16 - a12 - a11) (e)) 9 9 (p + x 17 - a13) (e) _ C.drew.box Zo rfl).mono ?_); rintro e w4 ⟨rfl,c⟩; replace C:BkTo w g x (3) ⟨a0,a1,a2,a3,a4,a5,a6,a7,a8,a9,a10,a11 + (e - p),a12,a13⟩ (brk (brk (brk (y) 3 (p + x 15 - a11) (e)) 4 (p + x 16 - a12 - a11) (e)) 9 (p + x 17 - a13) (e)) w4:=C.drew.trans c; clear c; have f33:w4.cell? ⟨g,33,none⟩ = some (.int .i64 (a13)):=C.box.cell rfl)
   | (refine wpList_store_fld Zv 3 _ _ rfl g 33 (.int .i64 (a13 + (e - p))) rfl rfl rfl _ _ C.box (by rw [blk_size]; decide) Zk (fun w5 u=>?_); replace C:BkTo w g x (3) ⟨a0,a1,a2,a3,a4,a5,a6,a7,a8,a9,a10,a11 + (e - p),a12,a13 + (e - p)⟩ (brk (brk (brk (y) 3 (p + x 15 - a11) (e)) 4 (p + x 16 - a12 - a11) (e)) 9 (p + x 17 - a13) (e)) w5:=C.upd u; clear u))
  refine bodyPost_end (results_none Tryz.results169 _ _ _) rfl ⟨rfl,?_⟩;exact C
 by_cases h2:k = 2
 case pos =>
  subst h2;obtain ⟨e1,e2⟩:=seg_two x m y p e;rw [e1,e2];clear e1 e2;obtain ⟨a0,a1,a2,a3,a4,a5,a6,a7,a8,a9,a10,a11,a12,a13⟩:=m;dsimp only at hm ⊢;obtain ⟨⟨r11,s11⟩,⟨r12,s12⟩,⟨r13,s13⟩⟩:=hm;have z0:=wrap14 (p + x 17) Zo Zo;have z1:=wrap14 (p + x 17 - a13) Zo Zo;have q3:((2:Int) == 3) = false:=rfl;have f19:w.cell? ⟨g,19,none⟩ = some (.int .i64 (2)):=C.box.cell rfl;have f17:w.cell? ⟨g,17,none⟩ = some (.int .i64 (x 17)):=C.box.cell rfl;have f33:w.cell? ⟨g,33,none⟩ = some (.int .i64 (a13)):=C.box.cell rfl;go_enter Tryz.func169,Tryz.ntmps169;go_upto_region 6 with fail
  (try go_frame);go_still_tail 14,Zk;change wpList _ _ _ _ _ w.drew
  go_wp2_with (first
   | (go_at_call 149; (with_reducible refine (breaks14_any g x (2) ⟨a0,a1,a2,a3,a4,a5,a6,a7,a8,a9,a10,a11,a12,a13⟩ (y) 9 9 (p + x 17 - a13) (e) _ C.drew.box Zo rfl).mono ?_); rintro e w1 ⟨rfl,c⟩; replace C:BkTo w g x (2) ⟨a0,a1,a2,a3,a4,a5,a6,a7,a8,a9,a10,a11,a12,a13⟩ (brk (y) 9 (p + x 17 - a13) (e)) w1:=C.drew.trans c; clear c; have f33:w1.cell? ⟨g,33,none⟩ = some (.int .i64 (a13)):=C.box.cell rfl)
   | (refine wpList_store_fld Zv 3 _ _ rfl g 33 (.int .i64 (a13 + (e - p))) rfl rfl rfl _ _ C.box (by rw [blk_size]; decide) Zk (fun w2 u=>?_); replace C:BkTo w g x (2) ⟨a0,a1,a2,a3,a4,a5,a6,a7,a8,a9,a10,a11,a12,a13 + (e - p)⟩ (brk (y) 9 (p + x 17 - a13) (e)) w2:=C.upd u; clear u))
  refine bodyPost_end (results_none Tryz.results169 _ _ _) rfl ⟨rfl,?_⟩;exact C
 obtain ⟨e1,e2⟩:=seg_none x k m y p e h3 h2;rw [e1,e2];clear e1 e2;have q3:(k == 3) = false:=by simpa using h3
 have q2:(k == 2) = false:=by simpa using h2
 have f19:w.cell? ⟨g,19,none⟩ = some (.int .i64 k):=C.box.cell rfl;clear h3 h2;go_enter Tryz.func169,Tryz.ntmps169;go_wp2;refine bodyPost_end (results_none Tryz.results169 _ _ _) rfl ⟨rfl,?_⟩;exact C
def drM (x:Nat -> Int) (p e:Int) (m:Mt):Mt:={ m with acc:=m.acc + (e - p),day:=m.day + (e - p),longers:=if p <= p + x 4 - m.day /\ p + x 4 - m.day < e then m.longers + 1 else m.longers }
def drY (x:Nat -> Int) (p e:Int) (m:Mt) (y:Nat -> Int):Nat -> Int :=
 if (p <= p + x 4 - m.day /\ p + x 4 - m.day < e) /\ x 6 < m.longers + 1 then brk (brk (brk y 0 (p + x 0 - m.acc) e) 1 (p + x 5 - m.day) e) 2 (p + x 4 - m.day) e else brk (brk y 0 (p + x 0 - m.acc) e) 1 (p + x 5 - m.day) e
set_option maxRecDepth 100000 in
set_option maxHeartbeats 4000000 in
theorem drive14_any (g:Nat) (x:Nat -> Int) (k:Int) (m:Mt) (y:Nat -> Int) (p e:Int) (w:World) (hb:Bk w g x k m y) (hp:0 <= p /\ p <= e /\ e <= 300000) (hm:(0 <= m.acc /\ m.acc <= 300000) /\ (0 <= m.day /\ m.day <= 300000) /\ (0 <= m.longers /\ m.longers <= 300000))
  (hx:(0 <= x 0 /\ x 0 <= 40320) /\ (0 <= x 4 /\ x 4 <= 40320) /\ (0 <= x 5 /\ x 5 <= 40320)) :
  Calls Tryz.prog 150 #[.pointer (some ⟨g,0,none⟩),.int .i64 p,.int .i64 e] w fun e' w'=>e' = .returned (.tuple #[]) /\ BkTo w g x k (drM x p e m) (drY x p e m y) w':=by
 obtain ⟨i1,i2,i3⟩:=hp;obtain ⟨⟨j0,j1⟩,⟨j2,j3⟩,⟨j4,j5⟩⟩:=hx;have C:BkTo w g x k m y w:=Chg.refl hb;clear hb;unfold drM drY;obtain ⟨a0,a1,a2,a3,a4,a5,a6,a7,a8,a9,a10,a11,a12,a13⟩:=m;dsimp only at hm ⊢;obtain ⟨⟨r1,s1⟩,⟨r5,s5⟩,⟨r6,s6⟩⟩:=hm;obtain ⟨lg,hlg⟩:∃ lg,(if p <= p + x 4 - a5 /\ p + x 4 - a5 < e then a6 + 1 else a6) = lg:=⟨_,rfl⟩;obtain ⟨Yf,hYf⟩:∃ Yf,(if (p <= p + x 4 - a5 /\ p + x 4 - a5 < e) /\ x 6 < a6 + 1 then brk (brk (brk y 0 (p + x 0 - a1) e) 1 (p + x 5 - a5) e) 2 (p + x 4 - a5) e else brk (brk y 0 (p + x 0 - a1) e) 1 (p + x 5 - a5) e) = Yf:=⟨_,rfl⟩;rw [hlg,hYf];have HL:=Zh hlg;have HY:=Zh hYf;clear hlg hYf;have z0:=wrap14 (p + x 0) Zo Zo;have z1:=wrap14 (p + x 0 - a1) Zo Zo;have z2:=wrap14 (p + x 5) Zo Zo;have z3:=wrap14 (p + x 5 - a5) Zo Zo;have z4:=wrap14 (p + x 4) Zo Zo;have z5:=wrap14 (p + x 4 - a5) Zo Zo;have f0:w.cell? ⟨g,0,none⟩ = some (.int .i64 (x 0)):=C.box.cell rfl;have f21:w.cell? ⟨g,21,none⟩ = some (.int .i64 (a1)):=C.box.cell rfl;go_enter Tryz.func150,Tryz.ntmps150;go_upto_region 1 with fail
 (try go_frame);go_still_tail 14,Zk;change wpList _ _ _ _ _ w.drew
 go_upto_region 2 with (first
  | (go_at_call 149; (with_reducible refine (breaks14_any g x k ⟨a0,a1,a2,a3,a4,a5,a6,a7,a8,a9,a10,a11,a12,a13⟩ (y) 0 0 (p + x 0 - a1) (e) _ C.drew.box Zo rfl).mono ?_); rintro e w1 ⟨rfl,c⟩; replace C:BkTo w g x k ⟨a0,a1,a2,a3,a4,a5,a6,a7,a8,a9,a10,a11,a12,a13⟩ (brk (y) 0 (p + x 0 - a1) (e)) w1:=C.drew.trans c; clear c; have f5:w1.cell? ⟨g,5,none⟩ = some (.int .i64 (x 5)):=C.box.cell rfl; have f25:w1.cell? ⟨g,25,none⟩ = some (.int .i64 (a5)):=C.box.cell rfl))
 (try go_frame);go_still_tail 14,Zk;change wpList _ _ _ _ _ w1.drew
 go_upto_region 3 with (first
  | (go_at_call 149; (with_reducible refine (breaks14_any g x k ⟨a0,a1,a2,a3,a4,a5,a6,a7,a8,a9,a10,a11,a12,a13⟩ (brk (y) 0 (p + x 0 - a1) (e)) 1 1 (p + x 5 - a5) (e) _ C.drew.box Zo rfl).mono ?_); rintro e w2 ⟨rfl,c⟩; replace C:BkTo w g x k ⟨a0,a1,a2,a3,a4,a5,a6,a7,a8,a9,a10,a11,a12,a13⟩ (brk (brk (y) 0 (p + x 0 - a1) (e)) 1 (p + x 5 - a5) (e)) w2:=C.drew.trans c; clear c; have f4:w2.cell? ⟨g,4,none⟩ = some (.int .i64 (x 4)):=C.box.cell rfl; have f25:w2.cell? ⟨g,25,none⟩ = some (.int .i64 (a5)):=C.box.cell rfl))
 (try go_frame);go_still_tail 12,Zk;change wpList _ _ _ _ _ w2.drew;replace C:=C.drew;generalize w2.drew = w3 at C ⊢;obtain ⟨at_,hat⟩:∃ at_,p + x 4 - a5 = at_:=⟨_,rfl⟩;rw [hat] at z5 ⊢;have hl1:=HL.out;have hy1:=HY.out;rw [hat] at hl1 hy1;replace HL:=Zh hl1;replace HY:=Zh hy1;clear hl1 hy1;have u0:-1000000 <= at_:=by omega
 have u1:at_ <= 1000000:=by omega
 clear hat;by_cases hin:p <= at_ /\ at_ < e
 case neg =>
  have HI:=Zh hin;have d0:(decide (p <= at_) && decide (at_ < e)) = false:=by rw [Bool.and_eq_false_iff,decide_eq_false_iff_not,decide_eq_false_iff_not]; omega
  by_cases h1:p <= at_
  case pos =>
   have d1:decide (p <= at_) = true:=decide_eq_true h1;have d2:decide (at_ < e) = false:=decide_eq_false Zo;have d3:¬ at_ < e:=by omega
   clear hin d0;have f21:w3.cell? ⟨g,21,none⟩ = some (.int .i64 (a1)):=C.box.cell rfl
   go_wp2_with (first
    | (refine wpList_store_fld Zv 3 _ _ rfl g 21 (.int .i64 (a1 + (e - p))) rfl rfl rfl _ _ C.box (by rw [blk_size]; decide) Zk (fun w4 u=>?_); replace C:BkTo w g x k ⟨a0,a1 + (e - p),a2,a3,a4,a5,a6,a7,a8,a9,a10,a11,a12,a13⟩ (brk (brk (y) 0 (p + x 0 - a1) (e)) 1 (p + x 5 - a5) (e)) w4:=C.upd u; clear u; have f25:w4.cell? ⟨g,25,none⟩ = some (.int .i64 (a5)):=C.box.cell rfl)
    | (refine wpList_store_fld Zv 3 _ _ rfl g 25 (.int .i64 (a5 + (e - p))) rfl rfl rfl _ _ C.box (by rw [blk_size]; decide) Zk (fun w5 u=>?_); replace C:BkTo w g x k ⟨a0,a1 + (e - p),a2,a3,a4,a5 + (e - p),a6,a7,a8,a9,a10,a11,a12,a13⟩ (brk (brk (y) 0 (p + x 0 - a1) (e)) 1 (p + x 5 - a5) (e)) w5:=C.upd u; clear u))
   refine bodyPost_end (results_none Tryz.results150 _ _ _) rfl ⟨rfl,?_⟩;rw [<- HL.out,<- HY.out,if_neg HI.out,if_neg (fun h=>HI.out h.1)];exact C
  have d1:decide (p <= at_) = false:=decide_eq_false h1;clear hin d0;have f21:w3.cell? ⟨g,21,none⟩ = some (.int .i64 (a1)):=C.box.cell rfl
  go_wp2_with (first
   | (refine wpList_store_fld Zv 3 _ _ rfl g 21 (.int .i64 (a1 + (e - p))) rfl rfl rfl _ _ C.box (by rw [blk_size]; decide) Zk (fun w4 u=>?_); replace C:BkTo w g x k ⟨a0,a1 + (e - p),a2,a3,a4,a5,a6,a7,a8,a9,a10,a11,a12,a13⟩ (brk (brk (y) 0 (p + x 0 - a1) (e)) 1 (p + x 5 - a5) (e)) w4:=C.upd u; clear u; have f25:w4.cell? ⟨g,25,none⟩ = some (.int .i64 (a5)):=C.box.cell rfl)
   | (refine wpList_store_fld Zv 3 _ _ rfl g 25 (.int .i64 (a5 + (e - p))) rfl rfl rfl _ _ C.box (by rw [blk_size]; decide) Zk (fun w5 u=>?_); replace C:BkTo w g x k ⟨a0,a1 + (e - p),a2,a3,a4,a5 + (e - p),a6,a7,a8,a9,a10,a11,a12,a13⟩ (brk (brk (y) 0 (p + x 0 - a1) (e)) 1 (p + x 5 - a5) (e)) w5:=C.upd u; clear u))
  refine bodyPost_end (results_none Tryz.results150 _ _ _) rfl ⟨rfl,?_⟩;rw [<- HL.out,<- HY.out,if_neg HI.out,if_neg (fun h=>HI.out h.1)];exact C
 have d1:decide (p <= at_) = true:=decide_eq_true hin.1;have d2:decide (at_ < e) = true:=decide_eq_true hin.2;have v1:=hin.1;have v2:=hin.2;have HI:=Zh hin;by_cases h6:x 6 < a6 + 1
 case pos =>
  have d3:decide (x 6 < a6 + 1) = true:=decide_eq_true h6;have H6:=Zh h6;clear hin h6;have f26:w3.cell? ⟨g,26,none⟩ = some (.int .i64 (a6)):=C.box.cell rfl
  go_upto_region 6 with (first
   | (refine wpList_store_fld Zv 3 _ _ rfl g 26 (.int .i64 (a6 + 1)) rfl rfl rfl _ _ C.box (by rw [blk_size]; decide) Zk (fun w4 u=>?_); replace C:BkTo w g x k ⟨a0,a1,a2,a3,a4,a5,a6 + 1,a7,a8,a9,a10,a11,a12,a13⟩ (brk (brk (y) 0 (p + x 0 - a1) (e)) 1 (p + x 5 - a5) (e)) w4:=C.upd u; clear u; have f26:w4.cell? ⟨g,26,none⟩ = some (.int .i64 (a6 + 1)):=C.box.cell rfl; have f6:w4.cell? ⟨g,6,none⟩ = some (.int .i64 (x 6)):=C.box.cell rfl))
  (try go_frame);go_still_tail 9,Zk;change wpList _ _ _ _ _ w4.drew;replace C:=C.drew;generalize w4.drew = w5 at C ⊢
  go_wp2_with (first
   | (go_at_call 149; (with_reducible refine (breaks14_any g x k ⟨a0,a1,a2,a3,a4,a5,a6 + 1,a7,a8,a9,a10,a11,a12,a13⟩ (brk (brk (y) 0 (p + x 0 - a1) (e)) 1 (p + x 5 - a5) (e)) 2 2 (at_) (e) _ C.box Zo rfl).mono ?_); rintro e w6 ⟨rfl,c⟩; replace C:BkTo w g x k ⟨a0,a1,a2,a3,a4,a5,a6 + 1,a7,a8,a9,a10,a11,a12,a13⟩ (brk (brk (brk (y) 0 (p + x 0 - a1) (e)) 1 (p + x 5 - a5) (e)) 2 (at_) (e)) w6:=C.trans c; clear c; have f21:w6.cell? ⟨g,21,none⟩ = some (.int .i64 (a1)):=C.box.cell rfl)
   | (refine wpList_store_fld Zv 3 _ _ rfl g 21 (.int .i64 (a1 + (e - p))) rfl rfl rfl _ _ C.box (by rw [blk_size]; decide) Zk (fun w7 u=>?_); replace C:BkTo w g x k ⟨a0,a1 + (e - p),a2,a3,a4,a5,a6 + 1,a7,a8,a9,a10,a11,a12,a13⟩ (brk (brk (brk (y) 0 (p + x 0 - a1) (e)) 1 (p + x 5 - a5) (e)) 2 (at_) (e)) w7:=C.upd u; clear u; have f25:w7.cell? ⟨g,25,none⟩ = some (.int .i64 (a5)):=C.box.cell rfl)
   | (refine wpList_store_fld Zv 3 _ _ rfl g 25 (.int .i64 (a5 + (e - p))) rfl rfl rfl _ _ C.box (by rw [blk_size]; decide) Zk (fun w8 u=>?_); replace C:BkTo w g x k ⟨a0,a1 + (e - p),a2,a3,a4,a5 + (e - p),a6 + 1,a7,a8,a9,a10,a11,a12,a13⟩ (brk (brk (brk (y) 0 (p + x 0 - a1) (e)) 1 (p + x 5 - a5) (e)) 2 (at_) (e)) w8:=C.upd u; clear u))
  refine bodyPost_end (results_none Tryz.results150 _ _ _) rfl ⟨rfl,?_⟩;rw [<- HL.out,<- HY.out,if_pos HI.out,if_pos ⟨HI.out,H6.out⟩];exact C
 have d3:decide (x 6 < a6 + 1) = false:=decide_eq_false h6;have H6:=Zh h6;clear hin h6;have f26:w3.cell? ⟨g,26,none⟩ = some (.int .i64 (a6)):=C.box.cell rfl
 go_upto_region 6 with (first
  | (refine wpList_store_fld Zv 3 _ _ rfl g 26 (.int .i64 (a6 + 1)) rfl rfl rfl _ _ C.box (by rw [blk_size]; decide) Zk (fun w4 u=>?_); replace C:BkTo w g x k ⟨a0,a1,a2,a3,a4,a5,a6 + 1,a7,a8,a9,a10,a11,a12,a13⟩ (brk (brk (y) 0 (p + x 0 - a1) (e)) 1 (p + x 5 - a5) (e)) w4:=C.upd u; clear u; have f26:w4.cell? ⟨g,26,none⟩ = some (.int .i64 (a6 + 1)):=C.box.cell rfl; have f6:w4.cell? ⟨g,6,none⟩ = some (.int .i64 (x 6)):=C.box.cell rfl))
 (try go_frame);go_still_tail 9,Zk;change wpList _ _ _ _ _ w4.drew;replace C:=C.drew;generalize w4.drew = w5 at C ⊢;have f21:w5.cell? ⟨g,21,none⟩ = some (.int .i64 (a1)):=C.box.cell rfl
 go_wp2_with (first
  | (refine wpList_store_fld Zv 3 _ _ rfl g 21 (.int .i64 (a1 + (e - p))) rfl rfl rfl _ _ C.box (by rw [blk_size]; decide) Zk (fun w6 u=>?_); replace C:BkTo w g x k ⟨a0,a1 + (e - p),a2,a3,a4,a5,a6 + 1,a7,a8,a9,a10,a11,a12,a13⟩ (brk (brk (y) 0 (p + x 0 - a1) (e)) 1 (p + x 5 - a5) (e)) w6:=C.upd u; clear u; have f25:w6.cell? ⟨g,25,none⟩ = some (.int .i64 (a5)):=C.box.cell rfl)
  | (refine wpList_store_fld Zv 3 _ _ rfl g 25 (.int .i64 (a5 + (e - p))) rfl rfl rfl _ _ C.box (by rw [blk_size]; decide) Zk (fun w7 u=>?_); replace C:BkTo w g x k ⟨a0,a1 + (e - p),a2,a3,a4,a5 + (e - p),a6 + 1,a7,a8,a9,a10,a11,a12,a13⟩ (brk (brk (y) 0 (p + x 0 - a1) (e)) 1 (p + x 5 - a5) (e)) w7:=C.upd u; clear u))
 refine bodyPost_end (results_none Tryz.results150 _ _ _) rfl ⟨rfl,?_⟩;rw [<- HL.out,<- HY.out,if_pos HI.out,if_neg (fun h=>by have:=H6.out; have:=h.2; omega)];exact C
def Wk.Le (s:Wk):Prop:=s.week <= s.pos /\ s.last <= s.pos /\ s.labour <= s.pos
theorem Wk.le_step {x:Nat -> Int} {k:Int} {s:Wk} (h0:0 < s.pos) (h:s.Le):(s.step x k).Le:=by
 obtain ⟨h1,h2,h3⟩:=h;unfold Wk.step Wk.cut;split
 ·unfold Wk.plain Wk.Le
  dsimp only
  repeat' split
  all_goals omega
 ·unfold Wk.plain Wk.Le
  dsimp only
  repeat' split
  all_goals omega
theorem Wk.le_run {x:Nat -> Int} {k:Int} {s:Wk} (h0:0 < s.pos) (h:s.Le):∀ n,(Wk.run x k n s).Le
 | 0=>h
 | n + 1=>Wk.le_step (by rw [Wk.pos_run]; omega) (Wk.le_run h0 h n)
theorem wkY_self (p:Int) (m:Mt) (y:Nat -> Int):wkY y ⟨p,m.week,m.last,m.labour,y 3,y 4,y 9⟩ = y:=by
 funext c;unfold wkY;split
 ·rename_i e; rw [e]
 split
 ·rename_i e; rw [e]
 split
 ·rename_i e; rw [e]
 ·rfl
theorem wkY_wkY (y:Nat -> Int) (s t:Wk):wkY (wkY y s) t = wkY y t:=by
 funext c;unfold wkY
 repeat' split
 all_goals rfl
theorem wk_same {s t:Wk} (m:Mt) (y:Nat -> Int) (h1:s.week = t.week) (h2:s.last = t.last) (h3:s.labour = t.labour) (h4:s.SameF t):wkM m s = wkM m t /\ wkY y s = wkY y t:=by
 obtain ⟨h4,h5,h6⟩:=h4;unfold wkM wkY;rw [h1,h2,h3,h4,h5,h6];exact ⟨rfl,rfl⟩
theorem Wk.run_part {x:Nat -> Int} {k:Int} {s:Wk} (hx:Lims x) (h:s.Ok x k) (e:Int) (h0:s.pos < e) (h1:e <= s.pos - s.pos % x 18 + x 18):Wk.run x k (e - s.pos).toNat s = (s.cut (x 18)).seg x k e:=by
 have hL:=hx.2.2.2;rw [Wk.run_seg x k s hx h _ Zo (fun i hi hl=>?_)]
 ·congr 1; omega
 ·have r0:=Int.emod_nonneg s.pos (show x 18 ≠ 0 by omega)
  have h2:=Int.mul_ediv_add_emod s.pos (x 18);generalize s.pos / x 18 = q at h2;generalize hr:s.pos % x 18 = r at *;rw [show s.pos + (i:Int) = r + i + x 18 * q by omega,Int.add_mul_emod_self_left,Int.emod_eq_of_lt Zo Zo];omega
set_option maxRecDepth 100000 in
set_option maxHeartbeats 4000000 in
theorem weeks_any (g:Nat) (x:Nat -> Int) (k:Int) (m:Mt) (y:Nat -> Int) (p:Int) (n:Nat) (w:World) (hb:Bk w g x k m y) (hp:0 < p /\ p <= 40320) (hn:(n:Int) <= 40320) (hS:(⟨p,m.week,m.last,m.labour,y 3,y 4,y 9⟩:Wk).Ok x k) (hle:(⟨p,m.week,m.last,m.labour,y 3,y 4,y 9⟩:Wk).Le)
  (hx:(1 <= x 15 /\ x 15 <= 40320) /\ (1 <= x 16 /\ x 16 <= 40320) /\ (1 <= x 17 /\ x 17 <= 40320) /\ (1 <= x 18 /\ x 18 <= 40320)) :
  Calls Tryz.prog 148 #[.pointer (some ⟨g,0,none⟩),.int .i64 p,.int .i64 (n:Nat)] w fun e' w'=>e' = .returned (.tuple #[]) /\ BkTo w g x k (wkM m (Wk.run x k n ⟨p,m.week,m.last,m.labour,y 3,y 4,y 9⟩)) (wkY y (Wk.run x k n ⟨p,m.week,m.last,m.labour,y 3,y 4,y 9⟩)) w':=by
 have hL:Lims x:=⟨hx.1.1,hx.2.1.1,hx.2.2.1.1,hx.2.2.2.1⟩;have hX:(0 <= x 15 /\ x 15 <= 40320) /\ (0 <= x 16 /\ x 16 <= 40320) /\ (0 <= x 17 /\ x 17 <= 40320):=by omega
 obtain ⟨-,-,-,l0,l1⟩:=hx;obtain ⟨p0,p1⟩:=hp;have R0:=Int.emod_nonneg (n:Int) (show x 18 ≠ 0 by omega);have R1:=Int.emod_lt_of_pos (n:Int) (show 0 < x 18 by omega)
 obtain ⟨q,hq,hq1,hq2⟩:∃ q:Nat,((q:Int) = if 3 * x 18 < (n:Int) then (n:Int) % x 18 + 3 * x 18 else (n:Int)) /\ wkM m (Wk.run x k n ⟨p,m.week,m.last,m.labour,y 3,y 4,y 9⟩) = wkM m (Wk.run x k q ⟨p,m.week,m.last,m.labour,y 3,y 4,y 9⟩) /\ wkY y (Wk.run x k n ⟨p,m.week,m.last,m.labour,y 3,y 4,y 9⟩) = wkY y (Wk.run x k q ⟨p,m.week,m.last,m.labour,y 3,y 4,y 9⟩):=by
  by_cases h:3 * x 18 < (n:Int)
  ·refine ⟨((n:Int) % x 18 + 3 * x 18).toNat,by rw [if_pos h,Int.toNat_of_nonneg Zo],?_⟩
   obtain ⟨e1,e2,e3,e4⟩:=Wk.run_less hL hS n h;exact wk_same m y e1 e2 e3 e4
  ·exact ⟨n,by rw [if_neg h],rfl,rfl⟩
 rw [hq1,hq2];clear hq1 hq2;have HQ:=Zh hq;have hqb:(q:Int) <= 161280:=by rw [hq]; split <;> omega
 clear hq;obtain ⟨Mf,hMf⟩:∃ Mf,wkM m (Wk.run x k q ⟨p,m.week,m.last,m.labour,y 3,y 4,y 9⟩) = Mf:=⟨_,rfl⟩;obtain ⟨Yf,hYf⟩:∃ Yf,wkY y (Wk.run x k q ⟨p,m.week,m.last,m.labour,y 3,y 4,y 9⟩) = Yf:=⟨_,rfl⟩;rw [hMf,hYf];have HM:=Zh hMf;have HY:=Zh hYf;clear hMf hYf;have HS:=Zh hS;have HE:=Zh hle;have HL:=Zh hL;have HX:=Zh hX;clear hS hle hL hX;have C:BkTo w g x k m y w:=Chg.refl hb;clear hb;have f18:w.cell? ⟨g,18,none⟩ = some (.int .i64 (x 18)):=C.box.cell rfl;go_enter Tryz.func148,Tryz.ntmps148;go_upto_region 0 with fail
 go_still_tail 9,Zk;change wpList _ _ _ _ _ w.drew;replace C:=C.drew;generalize w.drew = w1 at C ⊢;clear f18;go_upto_if 21 with fail
 go_cut [1,2,6,7] (fun u1 u2 u6 u7 wx=>u1 = .int .i64 p /\ u2 = .int .i64 (q:Int) /\ u6 = .pointer (some ⟨g,20,none⟩) /\ u7 = .int .i64 (x 18) /\ BkTo w g x k m y wx)
 case first =>
  by_cases h:3 * x 18 < (n:Int)
  case pos =>
   have d0:decide (3 * x 18 < (n:Int)) = true:=decide_eq_true h;have hq:=HQ.out;rw [if_pos h] at hq;have hq:=Zh hq;go_wp2;go_meet;exact ⟨rfl,by rw [hq.out],rfl,rfl,C⟩
  case neg =>
   have d0:decide (3 * x 18 < (n:Int)) = false:=decide_eq_false h;have hq:=HQ.out;rw [if_neg h] at hq;have hq:=Zh hq;go_wp2;go_meet;exact ⟨rfl,by rw [hq.out],rfl,rfl,C⟩
 case rest =>
 clear C;obtain ⟨rfl,rfl,rfl,rfl,C⟩:=hcut;rename World=>w2
 clear HQ R0 R1 hn;go_wp2;go_loopw [1] (fun i wr=>∃ j:Nat,j <= q /\ i = .int .i64 (p + (j:Int)) /\ Hid (BkTo w g x k (wkM m (Wk.run x k j ⟨p,m.week,m.last,m.labour,y 3,y 4,y 9⟩)) (wkY y (Wk.run x k j ⟨p,m.week,m.last,m.labour,y 3,y 4,y 9⟩)) wr)) (fun i _=>(p + (q:Int) - intOf i).toNat)
 case atStart=>exact ⟨0,Nat.zero_le _,by simp,Zh (by rw [show wkM m (Wk.run x k 0 ⟨p,m.week,m.last,m.labour,y 3,y 4,y 9⟩) = m from rfl,show wkY y (Wk.run x k 0 ⟨p,m.week,m.last,m.labour,y 3,y 4,y 9⟩) = y from wkY_self p m y]; exact C)⟩
 case round =>
  obtain ⟨j,hj,rfl,HC⟩:=hrel;clear C;obtain ⟨w3,rfl⟩:∃ w3:World,w3 = wr:=⟨_,rfl⟩;obtain ⟨c,hc⟩:∃ c:Int,p + (j:Int) = c:=⟨_,rfl⟩;have c0:0 < c:=by omega
  have c1:c <= 300000:=by omega
  have hj':c <= p + (q:Int):=by omega
  by_cases hlt:c < p + (q:Int)
  case neg =>
   have dl:decide (c < p + (q:Int)) = false:=decide_eq_false hlt;obtain rfl:j = q:=by omega
   rw [hc];clear hlt;go_wp2;refine bodyPost_end (results_none Tryz.results148 _ _ _) rfl ⟨rfl,?_⟩;rw [<- HM.out,<- HY.out];exact HC.out
  have dl:decide (c < p + (q:Int)) = true:=decide_eq_true hlt;have r0:=Int.emod_nonneg c (show x 18 ≠ 0 by omega);have r1:=Int.emod_lt_of_pos c (show 0 < x 18 by omega);obtain ⟨e,he⟩:∃ e:Int,min (p + (q:Int)) (c - c % x 18 + x 18) = e:=⟨_,rfl⟩;have e0:c < e:=by rw [<- he]; omega
  have e1:e <= p + (q:Int):=by rw [<- he]; omega
  have e2:e <= c - c % x 18 + x 18:=by rw [<- he]; omega
  have hok:=Wk.ok_run HL.out j HS.out;have hle:=Wk.le_run (x:=x) (k:=k) p0 HE.out j;have hpos:=Wk.pos_run x k ⟨p,m.week,m.last,m.labour,y 3,y 4,y 9⟩ j;replace hpos:(Wk.run x k j ⟨p,m.week,m.last,m.labour,y 3,y 4,y 9⟩).pos = c:=by rw [hpos]; exact hc
  have hpart:=Wk.run_part HL.out hok e (by rw [hpos]; exact e0) (by rw [hpos]; exact e2);rw [hpos,<- Wk.run_add] at hpart;obtain ⟨d,hd⟩:∃ d:Nat,(e - c).toNat = d:=⟨_,rfl⟩;rw [hd] at hpart;obtain ⟨S,hSS⟩:∃ S,Wk.run x k j ⟨p,m.week,m.last,m.labour,y 3,y 4,y 9⟩ = S:=⟨_,rfl⟩;rw [hSS] at hok hle hpos hpart HC;clear hSS;obtain ⟨z0,wk,la,lb,f3,f4,f9⟩:=S;dsimp only at hpos;subst hpos;have hb1:=Wk.ok_cut (x 18) HL.out hok;have HP:=Zh hpart;have HD:=Zh hd;unfold Wk.Ok at hok;unfold Wk.Le at hle;dsimp only at hok hle;obtain ⟨-,k1,k2,k3,-⟩:=hok;obtain ⟨k4,k5,k6⟩:=hle;clear hpart hd hb1;rw [hc];have HCC:=Zh hc;clear hc hlt;have HE2:=Zh he;obtain ⟨a0,a1,a2,a3,a4,a5,a6,a7,a8,a9,a10,a11,a12,a13⟩:=m;have hC0:=HC.out;obtain ⟨w4,hw4⟩:∃ w4:World,w4 = w3:=⟨_,rfl⟩;have C:BkTo w g x k ⟨a0,a1,a2,a3,a4,a5,a6,a7,a8,a9,a10,wk,la,lb⟩ (wkY y ⟨z0,wk,la,lb,f3,f4,f9⟩) w3:=hC0;clear hC0 hw4;by_cases hz:z0 % x 18 = 0
  case pos =>
   have HP2:Hid (Wk.run x k (j + d) ⟨p,a11,a12,a13,y 3,y 4,y 9⟩ = Wk.seg x k ⟨z0,0,wk,0,f3,f4,f9⟩ e):=Zh (by have h:=HP.out; unfold Wk.cut at h; rw [if_pos (by exact hz)] at h; exact h);have dz:(z0 % x 18 == 0) = true:=by simpa using hz
   have f31:w3.cell? ⟨g,31,none⟩ = some (.int .i64 (wk)):=C.box.cell rfl
   go_upto_region 7 with (first
    | (refine wpList_store_fld Zv 3 _ _ rfl g 32 (.int .i64 (wk)) rfl rfl rfl _ _ C.box (by rw [blk_size]; decide) Zk (fun w4 u=>?_); replace C:BkTo w g x k ⟨a0,a1,a2,a3,a4,a5,a6,a7,a8,a9,a10,wk,wk,lb⟩ (wkY y ⟨z0,wk,la,lb,f3,f4,f9⟩) w4:=C.upd u; clear u)
    | (refine wpList_store_fld Zv 3 _ _ rfl g 31 (.int .i64 (0)) rfl rfl rfl _ _ C.box (by rw [blk_size]; decide) Zk (fun w5 u=>?_); replace C:BkTo w g x k ⟨a0,a1,a2,a3,a4,a5,a6,a7,a8,a9,a10,0,wk,lb⟩ (wkY y ⟨z0,wk,la,lb,f3,f4,f9⟩) w5:=C.upd u; clear u)
    | (refine wpList_store_fld Zv 3 _ _ rfl g 33 (.int .i64 (0)) rfl rfl rfl _ _ C.box (by rw [blk_size]; decide) Zk (fun w6 u=>?_); replace C:BkTo w g x k ⟨a0,a1,a2,a3,a4,a5,a6,a7,a8,a9,a10,0,wk,0⟩ (wkY y ⟨z0,wk,la,lb,f3,f4,f9⟩) w6:=C.upd u; clear u))
   (try go_frame);go_cut [1,6,7,8,9] (fun u1 u6 u7 u8 u9 wx=>u1 = .int .i64 z0 /\ u6 = .pointer (some ⟨g,20,none⟩) /\ u7 = .int .i64 (x 18) /\ u8 = .int .i64 (p + (q:Int)) /\ u9 = .int .i64 e /\ BkTo w g x k ⟨a0,a1,a2,a3,a4,a5,a6,a7,a8,a9,a10,0,wk,0⟩ (wkY y ⟨z0,wk,la,lb,f3,f4,f9⟩) wx)
   case first =>
    by_cases hmn:p + (q:Int) <= z0 - z0 % x 18 + x 18
    case pos =>
     go_wp2
     all_goals (first | (exfalso; omega) | (go_meet; exact ⟨rfl,rfl,rfl,rfl,by rw [<- HE2.out]; (try (congr 1; omega)),C⟩))
    case neg =>
     go_wp2
     all_goals (first | (exfalso; omega) | (go_meet; exact ⟨rfl,rfl,rfl,rfl,by rw [<- HE2.out]; (try (congr 1; omega)),C⟩))
   case rest =>
   clear C;obtain ⟨rfl,rfl,rfl,rfl,rfl,C⟩:=hcut;rename World=>w8
   have WK:=fun W h=>week_any g x k ⟨a0,a1,a2,a3,a4,a5,a6,a7,a8,a9,a10,0,wk,0⟩ (wkY y ⟨z0,wk,la,lb,f3,f4,f9⟩) z0 e W h Zo (by dsimp only; omega) HX.out
   go_wp2_with (go_at_call 169; (with_reducible refine (WK _ C.box).mono ?_); rintro e' w9 ⟨rfl,c⟩);go_roundw
   case rel =>
    refine ⟨j + d,?_,?_,Zh ?_⟩
    ·have h1:=HD.out; have h2:=HCC.out; omega
    ·have h1:=HD.out; have h2:=HCC.out; congr 1; omega
    ·rw [HP2.out]
     have h:=C.trans c;rw [wkY_wkY] at h;exact h
   case measure=>simp [intOf]; omega
  case neg =>
   have HP2:Hid (Wk.run x k (j + d) ⟨p,a11,a12,a13,y 3,y 4,y 9⟩ = Wk.seg x k ⟨z0,wk,la,lb,f3,f4,f9⟩ e):=Zh (by have h:=HP.out; unfold Wk.cut at h; rw [if_neg (by exact hz)] at h; exact h);have dz:(z0 % x 18 == 0) = false:=by simpa using hz
   go_upto_region 7 with fail
   (try go_frame);go_cut [1,6,7,8,9] (fun u1 u6 u7 u8 u9 wx=>u1 = .int .i64 z0 /\ u6 = .pointer (some ⟨g,20,none⟩) /\ u7 = .int .i64 (x 18) /\ u8 = .int .i64 (p + (q:Int)) /\ u9 = .int .i64 e /\ BkTo w g x k ⟨a0,a1,a2,a3,a4,a5,a6,a7,a8,a9,a10,wk,la,lb⟩ (wkY y ⟨z0,wk,la,lb,f3,f4,f9⟩) wx)
   case first =>
    by_cases hmn:p + (q:Int) <= z0 - z0 % x 18 + x 18
    case pos =>
     go_wp2
     all_goals (first | (exfalso; omega) | (go_meet; exact ⟨rfl,rfl,rfl,rfl,by rw [<- HE2.out]; (try (congr 1; omega)),C⟩))
    case neg =>
     go_wp2
     all_goals (first | (exfalso; omega) | (go_meet; exact ⟨rfl,rfl,rfl,rfl,by rw [<- HE2.out]; (try (congr 1; omega)),C⟩))
   case rest =>
   clear C;obtain ⟨rfl,rfl,rfl,rfl,rfl,C⟩:=hcut;rename World=>w8
   have WK:=fun W h=>week_any g x k ⟨a0,a1,a2,a3,a4,a5,a6,a7,a8,a9,a10,wk,la,lb⟩ (wkY y ⟨z0,wk,la,lb,f3,f4,f9⟩) z0 e W h Zo (by dsimp only; omega) HX.out
   go_wp2_with (go_at_call 169; (with_reducible refine (WK _ C.box).mono ?_); rintro e' w9 ⟨rfl,c⟩);go_roundw
   case rel =>
    refine ⟨j + d,?_,?_,Zh ?_⟩
    ·have h1:=HD.out; have h2:=HCC.out; omega
    ·have h1:=HD.out; have h2:=HCC.out; congr 1; omega
    ·rw [HP2.out]
     have h:=C.trans c;rw [wkY_wkY] at h;exact h
   case measure=>simp [intOf]; omega
theorem may_book {x:Nat -> Int} (h:May x):(1 <= x 15 /\ x 15 <= 40320) /\ (1 <= x 16 /\ x 16 <= 40320) /\ (1 <= x 17 /\ x 17 <= 40320) /\ (1 <= x 18 /\ x 18 <= 40320):=by
 have h1:=h.1 15 Zo;have h2:=h.1 16 Zo;have h3:=h.1 17 Zo;have h4:=h.1 18 Zo;unfold lim at h1 h2 h3 h4;simp at h1 h2 h3 h4;omega
theorem thr_three (x:Nat -> Int) (n:Nat) (m:Mt) (y:Nat -> Int) (S:Wk):∀ c,drY x m.now (m.now + n) (wkM m S) (brk (brk (wkY y S) 5 (m.dawn + x 11 - x 8) (m.now + n)) 7 (m.sabbath + x 14) (m.now + n)) c = wkY (thrY x 3 n m y) S c:=by
 obtain ⟨a0,a1,a2,a3,a4,a5,a6,a7,a8,a9,a10,a11,a12,a13⟩:=m;obtain ⟨sp,sw,sl,sb,s3,s4,s9⟩:=S;intro c
 have e0:∀ z:Nat -> Int,(drY x a0 (a0 + n) (wkM ⟨a0,a1,a2,a3,a4,a5,a6,a7,a8,a9,a10,a11,a12,a13⟩ ⟨sp,sw,sl,sb,s3,s4,s9⟩) z) c = if c = 2 /\ ((a0 <= a0 + x 4 - a5 /\ a0 + x 4 - a5 < a0 + n) /\ x 6 < a6 + 1) /\ z 2 < 0 then a0 + x 4 - a5 else if c = 1 /\ a0 + x 5 - a5 < a0 + n /\ z 1 < 0 then a0 + x 5 - a5 else if c = 0 /\ a0 + x 0 - a1 < a0 + n /\ z 0 < 0 then a0 + x 0 - a1 else z c:=fun z=>by
  unfold drY wkM;dsimp only;by_cases c0:c = 0
  ·subst c0
   split <;> simp [brk_same,brk_other]
  by_cases c1:c = 1
  ·subst c1
   split <;> simp [brk_same,brk_other]
  by_cases c2:c = 2
  ·subst c2
   by_cases hq:(a0 <= a0 + x 4 - a5 /\ a0 + x 4 - a5 < a0 + n) /\ x 6 < a6 + 1
   ·rw [if_pos hq]
    simp [brk_same,brk_other,hq]
   ·rw [if_neg hq,if_neg (fun h=>hq h.2.1)]
    simp [brk_other]
  ·simp only [c2,c1,c0,false_and,if_false]
   split
   ·rw [brk_other _ _ _ c2,brk_other _ _ _ c1,brk_other _ _ _ c0]
   ·rw [brk_other _ _ _ c1,brk_other _ _ _ c0]
 dsimp only at e0 ⊢;rw [e0];unfold wkY thrY;by_cases c0:c = 0
 ·subst c0; simp [brk_other]
 by_cases c1:c = 1
 ·subst c1; simp [brk_other]
 by_cases c2:c = 2
 ·subst c2
  simp only [true_and,brk_other _ _ _ (show (2:Nat) ≠ 5 by decide),brk_other _ _ _ (show (2:Nat) ≠ 7 by decide)];simp
  repeat' split
  all_goals omega
 by_cases c3:c = 3
 ·subst c3; simp [brk_other]
 by_cases c4:c = 4
 ·subst c4; simp [brk_other]
 by_cases c5:c = 5
 ·subst c5; simp [brk_other,brk_same]
 by_cases c7:c = 7
 ·subst c7; simp [brk_other,brk_same]
 by_cases c9:c = 9
 ·subst c9; simp [brk_other]
 rw [if_neg (fun h=>c2 h.1),if_neg (fun h=>c1 h.1),if_neg (fun h=>c0 h.1),brk_other _ _ _ c7,brk_other _ _ _ c5,if_neg c3,if_neg c4,if_neg c9];rw [if_neg c3,if_neg c4,if_neg c9];split <;> first | (exfalso; omega) | rfl
theorem thr_up (x:Nat -> Int) (k:Int) (n:Nat) (m:Mt) (y:Nat -> Int) (S:Wk) (h3:¬ k = 3) (h0:¬ k = 0):∀ c,(brk (brk (wkY y S) 5 (m.dawn + x 11 - x 8) (m.now + n)) 7 (m.sabbath + x 14) (m.now + n)) c = wkY (thrY x k n m y) S c:=by
 intro c;unfold wkY thrY;by_cases c0:c = 0
 ·subst c0; simp [brk_other,h3]
 by_cases c1:c = 1
 ·subst c1; simp [brk_other,h3]
 by_cases c2:c = 2
 ·subst c2; simp [brk_other,h3]
 by_cases c3:c = 3
 ·subst c3; simp [brk_other]
 by_cases c4:c = 4
 ·subst c4; simp [brk_other]
 by_cases c5:c = 5
 ·subst c5; simp [brk_other,brk_same,h0]
 by_cases c7:c = 7
 ·subst c7; simp [brk_other,brk_same,h0]
 by_cases c9:c = 9
 ·subst c9; simp [brk_other]
 rw [brk_other _ _ _ c7,brk_other _ _ _ c5,if_neg c3,if_neg c4,if_neg c9];rw [if_neg c3,if_neg c4,if_neg c9];split <;> first | (exfalso; omega) | rfl
theorem thr_rest (x:Nat -> Int) (n:Nat) (m:Mt) (y:Nat -> Int):∀ c,y c = thrY x 0 n m y c:=by
 intro c;unfold thrY;split <;> simp
set_option maxRecDepth 100000 in
set_option maxHeartbeats 4000000 in
theorem on_any (g:Nat) (x:Nat -> Int) (k:Int) (m:Mt) (y:Nat -> Int) (n:Nat) (w:World) (hb:Bk w g x k m y) (hN:Noted x k m y) (hm:MayM m) (hn:m.now + n <= 40320) (hx:May x) :
  Calls Tryz.prog 125 #[.pointer (some ⟨g,0,none⟩),.int .i64 (n:Nat)] w fun e w'=>e = .returned (.tuple #[]) /\ BkTo w g x k (walkV x k n m y).1 (walkV x k n m y).2 w':=by
 obtain ⟨W1,W2⟩:=walk_on hN n;have hbe:∀ m',blk x k m' (walkV x k n m y).2 = blk x k m' (wkY (thrY x k n m y) (Wk.run x k n (wkOf m y))):=fun m'=>blk_eq x k m' (fun c _=>W2 c)
 unfold BkTo;rw [hbe,W1];clear W1 W2 hbe;have hbk:=may_book hx;have t0:=may_time hx 0 Zo;have t4:=may_time hx 4 Zo;have t5:=may_time hx 5 Zo;have WS:=fun W h=>weeks_any g x k m y m.now n W h ⟨hN.2.2.2.2.2.1,hm.1.2⟩ (by have:=hm.1.1; omega) hN.2.2.2.2.2 (by unfold MayM at hm; unfold Wk.Le; dsimp only; omega) hbk
 change ∀ W h,Calls _ _ _ W fun e' w'=>e' = .returned (.tuple #[]) /\ BkTo W g x k (wkM m (Wk.run x k n (wkOf m y))) (wkY y (Wk.run x k n (wkOf m y))) w' at WS
 obtain ⟨q11,q11'⟩:=may_time hx 11 Zo;obtain ⟨q8,q8'⟩:=may_time hx 8 Zo;obtain ⟨q14,q14'⟩:=may_time hx 14 Zo;clear hbk hx hN;generalize Wk.run x k n (wkOf m y) = S at WS ⊢;have C:BkTo w g x k m y w:=Chg.refl hb;clear hb;have H3:=thr_three x n m y S;have HU:=fun h3 h0=>thr_up x k n m y S h3 h0
 have H0:=thr_rest x n m y;obtain ⟨a0,a1,a2,a3,a4,a5,a6,a7,a8,a9,a10,a11,a12,a13⟩:=m;obtain ⟨sp,sw,sl,sb,s3,s4,s9⟩:=S;unfold MayM at hm;dsimp only at hm hn H3 HU H0;obtain ⟨⟨i0,j0⟩,⟨i1,j1⟩,⟨i3,j3⟩,⟨i4,j4⟩,⟨i5,j5⟩,⟨i6,j6⟩,-,⟨i9,j9⟩,-⟩:=hm;have HH3:=Zh H3;have HHU:=Zh HU;have HH0:=Zh H0;clear H3 HU H0;replace WS:∀ W h,Calls Tryz.prog 148 #[.pointer (some ⟨g,0,none⟩),.int .i64 a0,.int .i64 (n:Nat)] W fun e' w'=>e' = .returned (.tuple #[]) /\ BkTo W g x k ⟨a0,a1,a2,a3,a4,a5,a6,a7,a8,a9,a10,sw,sl,sb⟩ (wkY y ⟨sp,sw,sl,sb,s3,s4,s9⟩) w':=WS
 obtain ⟨Y,hY⟩:∃ Y,wkY y ⟨sp,sw,sl,sb,s3,s4,s9⟩ = Y:=⟨_,rfl⟩;rw [hY] at WS;have HY:=Zh hY;clear hY;have z1:=wrap14 (a4 + x 11) Zo Zo;have z2:=wrap14 (a4 + x 11 - x 8) Zo Zo;have z3:=wrap14 (a9 + x 14) Zo Zo;have z4:=wrap14 (a0 + (n:Int)) Zo Zo;have DV:=fun W Yd h=>drive14_any g x 3 ⟨a0,a1,a2,a3,a4,a5,a6,a7,a8,a9,a10,sw,sl,sb⟩ Yd a0 (a0 + (n:Int)) W h Zo (by dsimp only; omega) ⟨t0,t4,t5⟩
 have f20:w.cell? ⟨g,20,none⟩ = some (.int .i64 (a0)):=C.box.cell rfl;go_enter Tryz.func125,Tryz.ntmps125;go_upto_region 1 with fail
 go_still_tail 11,Zk;change wpList _ _ _ _ _ w.drew;replace C:=C.drew;generalize w.drew = w1 at C ⊢
 go_upto_if 28 with (first
  | (go_at_call 148; (with_reducible refine (WS _ C.box).mono ?_); rintro e w2 ⟨rfl,c⟩; replace C:BkTo w g x k ⟨a0,a1,a2,a3,a4,a5,a6,a7,a8,a9,a10,sw,sl,sb⟩ (Y) w2:=C.trans c; clear c; have f19:w2.cell? ⟨g,19,none⟩ = some (.int .i64 k):=C.box.cell rfl))
 (try go_frame);clear WS;by_cases h0:k = 0
 case pos =>
  subst h0;have d0:((0:Int) == 0) = true:=rfl;have d3:((0:Int) == 3) = false:=rfl;have f23:w2.cell? ⟨g,23,none⟩ = some (.int .i64 (a3)):=C.box.cell rfl
  go_wp2_with (first
   | (refine wpList_store_fld Zv 3 _ _ rfl g 23 (.int .i64 (a3 + (n:Int))) rfl rfl rfl _ _ C.box (by rw [blk_size]; decide) Zk (fun w3 u=>?_); replace C:BkTo w g x (0) ⟨a0,a1,a2,a3 + (n:Int),a4,a5,a6,a7,a8,a9,a10,sw,sl,sb⟩ (Y) w3:=C.upd u; clear u; have f19:w3.cell? ⟨g,19,none⟩ = some (.int .i64 (0)):=C.box.cell rfl)
   | (refine wpList_store_fld Zv 3 _ _ rfl g 20 (.int .i64 (a0 + (n:Int))) rfl rfl rfl _ _ C.box (by rw [blk_size]; decide) Zk (fun w4 u=>?_); replace C:BkTo w g x (0) ⟨a0 + (n:Int),a1,a2,a3 + (n:Int),a4,a5,a6,a7,a8,a9,a10,sw,sl,sb⟩ (Y) w4:=C.upd u; clear u))
  refine bodyPost_end (results_none Tryz.results125 _ _ _) rfl ⟨rfl,?_⟩
  have e:blk x 0 (wkM (thrM x 0 n ⟨a0,a1,a2,a3,a4,a5,a6,a7,a8,a9,a10,a11,a12,a13⟩) ⟨sp,sw,sl,sb,s3,s4,s9⟩) (wkY (thrY x 0 n ⟨a0,a1,a2,a3,a4,a5,a6,a7,a8,a9,a10,a11,a12,a13⟩ y) ⟨sp,sw,sl,sb,s3,s4,s9⟩) = blk x 0 ⟨a0 + (n:Int),a1,a2,a3 + (n:Int),a4,a5,a6,a7,a8,a9,a10,sw,sl,sb⟩ Y:=by
   rw [<- HY.out];refine (blk_eq x 0 _ (fun c _=>?_)).trans (congrArg (fun m=>blk x 0 m _) ?_)
   ·unfold wkY; split
    ·rfl
    split
    ·rfl
    split
    ·rfl
    ·exact (thr_rest x n ⟨a0,a1,a2,a3,a4,a5,a6,a7,a8,a9,a10,a11,a12,a13⟩ y c).symm
   ·unfold wkM thrM; simp
  rw [e];exact C
 have d0:(k == 0) = false:=by simpa using h0
 by_cases h3:k = 3
 case pos =>
  subst h3;have d3:((3:Int) == 3) = true:=rfl;have f24:w2.cell? ⟨g,24,none⟩ = some (.int .i64 (a4)):=C.box.cell rfl;have f11:w2.cell? ⟨g,11,none⟩ = some (.int .i64 (x 11)):=C.box.cell rfl;have f8:w2.cell? ⟨g,8,none⟩ = some (.int .i64 (x 8)):=C.box.cell rfl;go_upto_region 5 with fail
  (try go_frame);go_still_tail 18,Zk;change wpList _ _ _ _ _ w2.drew
  go_upto_region 6 with (first
   | (go_at_call 149; (with_reducible refine (breaks14_any g x (3) ⟨a0,a1,a2,a3,a4,a5,a6,a7,a8,a9,a10,sw,sl,sb⟩ (Y) 5 5 (a4 + x 11 - x 8) (a0 + (n:Int)) _ C.drew.box Zo rfl).mono ?_); rintro e w3 ⟨rfl,c⟩; replace C:BkTo w g x (3) ⟨a0,a1,a2,a3,a4,a5,a6,a7,a8,a9,a10,sw,sl,sb⟩ (brk (Y) 5 (a4 + x 11 - x 8) (a0 + (n:Int))) w3:=C.drew.trans c; clear c; have f29:w3.cell? ⟨g,29,none⟩ = some (.int .i64 (a9)):=C.box.cell rfl; have f14:w3.cell? ⟨g,14,none⟩ = some (.int .i64 (x 14)):=C.box.cell rfl))
  (try go_frame);go_still_tail 12,Zk;change wpList _ _ _ _ _ w3.drew
  go_wp2_with (first
   | (go_at_call 149; (with_reducible refine (breaks14_any g x (3) ⟨a0,a1,a2,a3,a4,a5,a6,a7,a8,a9,a10,sw,sl,sb⟩ (brk (Y) 5 (a4 + x 11 - x 8) (a0 + (n:Int))) 7 7 (a9 + x 14) (a0 + (n:Int)) _ C.drew.box Zo rfl).mono ?_); rintro e w4 ⟨rfl,c⟩; replace C:BkTo w g x (3) ⟨a0,a1,a2,a3,a4,a5,a6,a7,a8,a9,a10,sw,sl,sb⟩ (brk (brk (Y) 5 (a4 + x 11 - x 8) (a0 + (n:Int))) 7 (a9 + x 14) (a0 + (n:Int))) w4:=C.drew.trans c; clear c; have f19:w4.cell? ⟨g,19,none⟩ = some (.int .i64 (3)):=C.box.cell rfl)
   | (go_at_call 150; (with_reducible refine (DV _ _ C.box).mono ?_); rintro e w5 ⟨rfl,c⟩; replace C:BkTo w g x (3) ⟨a0,a1 + (a0 + (n:Int) - a0),a2,a3,a4,a5 + (a0 + (n:Int) - a0),(if a0 <= a0 + x 4 - a5 /\ a0 + x 4 - a5 < a0 + (n:Int) then a6 + 1 else a6),a7,a8,a9,a10,sw,sl,sb⟩ (drY x a0 (a0 + (n:Int)) ⟨a0,a1,a2,a3,a4,a5,a6,a7,a8,a9,a10,sw,sl,sb⟩ (brk (brk (Y) 5 (a4 + x 11 - x 8) (a0 + (n:Int))) 7 (a9 + x 14) (a0 + (n:Int)))) w5:=C.trans c; clear c)
   | (refine wpList_store_fld Zv 3 _ _ rfl g 20 (.int .i64 (a0 + (n:Int))) rfl rfl rfl _ _ C.box (by rw [blk_size]; decide) Zk (fun w6 u=>?_); replace C:BkTo w g x (3) ⟨a0 + (n:Int),a1 + (a0 + (n:Int) - a0),a2,a3,a4,a5 + (a0 + (n:Int) - a0),(if a0 <= a0 + x 4 - a5 /\ a0 + x 4 - a5 < a0 + (n:Int) then a6 + 1 else a6),a7,a8,a9,a10,sw,sl,sb⟩ (drY x a0 (a0 + (n:Int)) ⟨a0,a1,a2,a3,a4,a5,a6,a7,a8,a9,a10,sw,sl,sb⟩ (brk (brk (Y) 5 (a4 + x 11 - x 8) (a0 + (n:Int))) 7 (a9 + x 14) (a0 + (n:Int)))) w6:=C.upd u; clear u))
  refine bodyPost_end (results_none Tryz.results125 _ _ _) rfl ⟨rfl,?_⟩;refine Eq.mp (congrArg (fun cs=>Chg w g 178 cs _) ?_) C;refine (blk_eq x 3 _ (fun c _=>?_)).trans (congrArg (fun m=>blk x 3 m _) ?_)
  ·rw [<- HY.out]; exact HH3.out c
  ·unfold wkM thrM
   dsimp only;congr 1
   ·simp; omega
   ·simp; omega
   ·simp only [true_and]
    repeat' split
    all_goals omega
 have d3:(k == 3) = false:=by simpa using h3
 have f24:w2.cell? ⟨g,24,none⟩ = some (.int .i64 (a4)):=C.box.cell rfl;have f11:w2.cell? ⟨g,11,none⟩ = some (.int .i64 (x 11)):=C.box.cell rfl;have f8:w2.cell? ⟨g,8,none⟩ = some (.int .i64 (x 8)):=C.box.cell rfl;go_upto_region 5 with fail
 (try go_frame);go_still_tail 18,Zk;change wpList _ _ _ _ _ w2.drew
 go_upto_region 6 with (first
  | (go_at_call 149; (with_reducible refine (breaks14_any g x k ⟨a0,a1,a2,a3,a4,a5,a6,a7,a8,a9,a10,sw,sl,sb⟩ (Y) 5 5 (a4 + x 11 - x 8) (a0 + (n:Int)) _ C.drew.box Zo rfl).mono ?_); rintro e w3 ⟨rfl,c⟩; replace C:BkTo w g x k ⟨a0,a1,a2,a3,a4,a5,a6,a7,a8,a9,a10,sw,sl,sb⟩ (brk (Y) 5 (a4 + x 11 - x 8) (a0 + (n:Int))) w3:=C.drew.trans c; clear c; have f29:w3.cell? ⟨g,29,none⟩ = some (.int .i64 (a9)):=C.box.cell rfl; have f14:w3.cell? ⟨g,14,none⟩ = some (.int .i64 (x 14)):=C.box.cell rfl))
 (try go_frame);go_still_tail 12,Zk;change wpList _ _ _ _ _ w3.drew
 go_wp2_with (first
  | (go_at_call 149; (with_reducible refine (breaks14_any g x k ⟨a0,a1,a2,a3,a4,a5,a6,a7,a8,a9,a10,sw,sl,sb⟩ (brk (Y) 5 (a4 + x 11 - x 8) (a0 + (n:Int))) 7 7 (a9 + x 14) (a0 + (n:Int)) _ C.drew.box Zo rfl).mono ?_); rintro e w4 ⟨rfl,c⟩; replace C:BkTo w g x k ⟨a0,a1,a2,a3,a4,a5,a6,a7,a8,a9,a10,sw,sl,sb⟩ (brk (brk (Y) 5 (a4 + x 11 - x 8) (a0 + (n:Int))) 7 (a9 + x 14) (a0 + (n:Int))) w4:=C.drew.trans c; clear c; have f19:w4.cell? ⟨g,19,none⟩ = some (.int .i64 k):=C.box.cell rfl)
  | (refine wpList_store_fld Zv 3 _ _ rfl g 20 (.int .i64 (a0 + (n:Int))) rfl rfl rfl _ _ C.box (by rw [blk_size]; decide) Zk (fun w5 u=>?_); replace C:BkTo w g x k ⟨a0 + (n:Int),a1,a2,a3,a4,a5,a6,a7,a8,a9,a10,sw,sl,sb⟩ (brk (brk (Y) 5 (a4 + x 11 - x 8) (a0 + (n:Int))) 7 (a9 + x 14) (a0 + (n:Int))) w5:=C.upd u; clear u))
 refine bodyPost_end (results_none Tryz.results125 _ _ _) rfl ⟨rfl,?_⟩;refine Eq.mp (congrArg (fun cs=>Chg w g 178 cs _) ?_) C;refine (blk_eq x k _ (fun c _=>?_)).trans (congrArg (fun m=>blk x k m _) ?_)
 ·rw [<- HY.out]; exact HHU.out h3 h0 c
 ·unfold wkM thrM; simp [h3,h0]
end Go.Proofs.YtiamnbddbmgffaaGreatDoor
