/- Texts of the proofs of VerdictAudits, VerdictAll, VerdictRising, pressed: MeterDrive, MeterUp, MeterMin, MeterRun, MeterStep, StretchChk. Conditions: as each theorem says. -/
import Derived.Test.YtiamnbddbmgffaaGreatDoorRows
import Derived.Test.YtiamnbddbmgffaaGreatDoorP18
namespace Go.Proofs.YtiamnbddbmgffaaGreatDoor
open Go.RowKit
set_option linter.unusedVariables false
set_option maxRecDepth 100000 in
set_option maxHeartbeats 4000000 in
theorem drive_any (g:Nat) (x:Nat -> Int) (m:Mt) (n:Nat) (w:World) (hb:Cn w g x m n) (hn:n < 1024) (hm:MayE m) (h4:0 <= x 4) (h5:x 4 <= 40320) :
  Calls Tryz.prog 180 #[.pointer (some ⟨g,0,none⟩)] w fun e w'=>e = .returned (.tuple #[]) /\ CnTo w g x (driveM x m) (orB (orB (orB (orB (orB n 0 (c0 x m)) 2 (c2 x m)) 1 (c1 x m)) 3 (c3 x m)) 4 (c4 x m)) w':=by
 obtain ⟨a0,a1,a2,a3,a4,a5,a6,a7,a8,a9,a10,a11,a12,a13⟩:=m;unfold MayE at hm;dsimp only at hm;obtain ⟨⟨r0,s0⟩,⟨r1,s1⟩,-,-,⟨r5,s5⟩,⟨r6,s6⟩,-,-,⟨r11,s11⟩,⟨r12,s12⟩,-⟩:=hm;have C:CnTo w g x ⟨a0,a1,a2,a3,a4,a5,a6,a7,a8,a9,a10,a11,a12,a13⟩ n w:=Chg.refl hb;clear hb;have f20:w.cell? ⟨g,20,none⟩ = some (.int .i64 (a1)):=C.box.cell rfl;go_enter Tryz.func180,Tryz.ntmps180
 go_upto_region 2 with (first
  | (refine wpList_store_fld Zv 3 _ _ rfl g 20 (.int .i64 (a1 + 1)) rfl rfl rfl _ _ C.box (by rw [cnt_size]; decide) Zk (fun w1 u=>?_); replace C:CnTo w g x ⟨a0,a1 + 1,a2,a3,a4,a5,a6,a7,a8,a9,a10,a11,a12,a13⟩ (n) w1:=C.upd u; clear u; have f20:w1.cell? ⟨g,20,none⟩ = some (.int .i64 (a1 + 1)):=C.box.cell rfl; have f0:w1.cell? ⟨g,0,none⟩ = some (.int .i64 (x 0)):=C.box.cell rfl))
 (try go_frame);go_still_tail 11,Zk;change wpList _ _ _ _ _ w1.drew
 go_upto_region 4 with (first
  | (go_at_call 179; (with_reducible refine (breaks_any g x ⟨a0,a1 + 1,a2,a3,a4,a5,a6,a7,a8,a9,a10,a11,a12,a13⟩ (n) 0 _ _ _ C.drew.box hn Zo Zd).mono ?_); rintro e w2 ⟨rfl,c⟩; replace C:CnTo w g x ⟨a0,a1 + 1,a2,a3,a4,a5,a6,a7,a8,a9,a10,a11,a12,a13⟩ (orB (n) 0 (decide (x 0 < a1 + 1))) w2:=C.drew.trans c; clear c; have hn2:orB (n) 0 (decide (x 0 < a1 + 1)) < 1024:=orB_lt _ hn Zo; have f24:w2.cell? ⟨g,24,none⟩ = some (.int .i64 (a5)):=C.box.cell rfl)
  | (refine wpList_store_fld Zv 3 _ _ rfl g 24 (.int .i64 (a5 + 1)) rfl rfl rfl _ _ C.box (by rw [cnt_size]; decide) Zk (fun w3 u=>?_); replace C:CnTo w g x ⟨a0,a1 + 1,a2,a3,a4,a5 + 1,a6,a7,a8,a9,a10,a11,a12,a13⟩ (orB (n) 0 (decide (x 0 < a1 + 1))) w3:=C.upd u; clear u; have f24:w3.cell? ⟨g,24,none⟩ = some (.int .i64 (a5 + 1)):=C.box.cell rfl; have f4:w3.cell? ⟨g,4,none⟩ = some (.int .i64 (x 4)):=C.box.cell rfl))
 (try go_frame);by_cases hq:a5 = x 4
 case pos =>
  have q1:(a5 == x 4) = true:=by simpa using hq
  have q2:(a5 + 1 == x 4 + 1) = true:=by simpa using hq
  have HQ:=Zh hq;clear hq;go_still_tail 10,Zk;change wpList _ _ _ _ _ w3.drew;replace C:=C.drew;generalize w3.drew = w4 at C ⊢;have f25:w4.cell? ⟨g,25,none⟩ = some (.int .i64 (a6)):=C.box.cell rfl
  go_upto_region 6 with (first
   | (refine wpList_store_fld Zv 3 _ _ rfl g 25 (.int .i64 (a6 + 1)) rfl rfl rfl _ _ C.box (by rw [cnt_size]; decide) Zk (fun w5 u=>?_); replace C:CnTo w g x ⟨a0,a1 + 1,a2,a3,a4,a5 + 1,a6 + 1,a7,a8,a9,a10,a11,a12,a13⟩ (orB (n) 0 (decide (x 0 < a1 + 1))) w5:=C.upd u; clear u; have f25:w5.cell? ⟨g,25,none⟩ = some (.int .i64 (a6 + 1)):=C.box.cell rfl; have f6:w5.cell? ⟨g,6,none⟩ = some (.int .i64 (x 6)):=C.box.cell rfl))
  (try go_frame);go_still_tail 11,Zk;change wpList _ _ _ _ _ w5.drew
  go_upto_region 7 with (first
   | (go_at_call 179; (with_reducible refine (breaks_any g x ⟨a0,a1 + 1,a2,a3,a4,a5 + 1,a6 + 1,a7,a8,a9,a10,a11,a12,a13⟩ (orB (n) 0 (decide (x 0 < a1 + 1))) 2 _ _ _ C.drew.box hn2 Zo Zd).mono ?_); rintro e w6 ⟨rfl,c⟩; replace C:CnTo w g x ⟨a0,a1 + 1,a2,a3,a4,a5 + 1,a6 + 1,a7,a8,a9,a10,a11,a12,a13⟩ (orB (orB (n) 0 (decide (x 0 < a1 + 1))) 2 (decide (x 6 < a6 + 1))) w6:=C.drew.trans c; clear c; have hn6:orB (orB (n) 0 (decide (x 0 < a1 + 1))) 2 (decide (x 6 < a6 + 1)) < 1024:=orB_lt _ hn2 Zo; have f24:w6.cell? ⟨g,24,none⟩ = some (.int .i64 (a5 + 1)):=C.box.cell rfl; have f5:w6.cell? ⟨g,5,none⟩ = some (.int .i64 (x 5)):=C.box.cell rfl))
  (try go_frame);go_still_tail 11,Zk;change wpList _ _ _ _ _ w6.drew
  go_upto_region 9 with (first
   | (go_at_call 179; (with_reducible refine (breaks_any g x ⟨a0,a1 + 1,a2,a3,a4,a5 + 1,a6 + 1,a7,a8,a9,a10,a11,a12,a13⟩ (orB (orB (n) 0 (decide (x 0 < a1 + 1))) 2 (decide (x 6 < a6 + 1))) 1 _ _ _ C.drew.box hn6 Zo Zd).mono ?_); rintro e w7 ⟨rfl,c⟩; replace C:CnTo w g x ⟨a0,a1 + 1,a2,a3,a4,a5 + 1,a6 + 1,a7,a8,a9,a10,a11,a12,a13⟩ (orB (orB (orB (n) 0 (decide (x 0 < a1 + 1))) 2 (decide (x 6 < a6 + 1))) 1 (decide (x 5 < a5 + 1))) w7:=C.drew.trans c; clear c; have hn7:orB (orB (orB (n) 0 (decide (x 0 < a1 + 1))) 2 (decide (x 6 < a6 + 1))) 1 (decide (x 5 < a5 + 1)) < 1024:=orB_lt _ hn6 Zo; have f30:w7.cell? ⟨g,30,none⟩ = some (.int .i64 (a11)):=C.box.cell rfl)
   | (refine wpList_store_fld Zv 3 _ _ rfl g 30 (.int .i64 (a11 + 1)) rfl rfl rfl _ _ C.box (by rw [cnt_size]; decide) Zk (fun w8 u=>?_); replace C:CnTo w g x ⟨a0,a1 + 1,a2,a3,a4,a5 + 1,a6 + 1,a7,a8,a9,a10,a11 + 1,a12,a13⟩ (orB (orB (orB (n) 0 (decide (x 0 < a1 + 1))) 2 (decide (x 6 < a6 + 1))) 1 (decide (x 5 < a5 + 1))) w8:=C.upd u; clear u; have f30:w8.cell? ⟨g,30,none⟩ = some (.int .i64 (a11 + 1)):=C.box.cell rfl; have f15:w8.cell? ⟨g,15,none⟩ = some (.int .i64 (x 15)):=C.box.cell rfl))
  (try go_frame);go_still_tail 11,Zk;change wpList _ _ _ _ _ w8.drew
  go_upto_region 10 with (first
   | (go_at_call 179; (with_reducible refine (breaks_any g x ⟨a0,a1 + 1,a2,a3,a4,a5 + 1,a6 + 1,a7,a8,a9,a10,a11 + 1,a12,a13⟩ (orB (orB (orB (n) 0 (decide (x 0 < a1 + 1))) 2 (decide (x 6 < a6 + 1))) 1 (decide (x 5 < a5 + 1))) 3 _ _ _ C.drew.box hn7 Zo Zd).mono ?_); rintro e w9 ⟨rfl,c⟩; replace C:CnTo w g x ⟨a0,a1 + 1,a2,a3,a4,a5 + 1,a6 + 1,a7,a8,a9,a10,a11 + 1,a12,a13⟩ (orB (orB (orB (orB (n) 0 (decide (x 0 < a1 + 1))) 2 (decide (x 6 < a6 + 1))) 1 (decide (x 5 < a5 + 1))) 3 (decide (x 15 < a11 + 1))) w9:=C.drew.trans c; clear c; have hn9:orB (orB (orB (orB (n) 0 (decide (x 0 < a1 + 1))) 2 (decide (x 6 < a6 + 1))) 1 (decide (x 5 < a5 + 1))) 3 (decide (x 15 < a11 + 1)) < 1024:=orB_lt _ hn7 Zo; have f30:w9.cell? ⟨g,30,none⟩ = some (.int .i64 (a11 + 1)):=C.box.cell rfl; have f31:w9.cell? ⟨g,31,none⟩ = some (.int .i64 (a12)):=C.box.cell rfl; have f16:w9.cell? ⟨g,16,none⟩ = some (.int .i64 (x 16)):=C.box.cell rfl))
  (try go_frame);go_still_tail 16,Zk;change wpList _ _ _ _ _ w9.drew
  go_wp2_with (first
   | (go_at_call 179; (with_reducible refine (breaks_any g x ⟨a0,a1 + 1,a2,a3,a4,a5 + 1,a6 + 1,a7,a8,a9,a10,a11 + 1,a12,a13⟩ (orB (orB (orB (orB (n) 0 (decide (x 0 < a1 + 1))) 2 (decide (x 6 < a6 + 1))) 1 (decide (x 5 < a5 + 1))) 3 (decide (x 15 < a11 + 1))) 4 _ _ _ C.drew.box hn9 Zo Zd).mono ?_); rintro e w10 ⟨rfl,c⟩; replace C:CnTo w g x ⟨a0,a1 + 1,a2,a3,a4,a5 + 1,a6 + 1,a7,a8,a9,a10,a11 + 1,a12,a13⟩ (orB (orB (orB (orB (orB (n) 0 (decide (x 0 < a1 + 1))) 2 (decide (x 6 < a6 + 1))) 1 (decide (x 5 < a5 + 1))) 3 (decide (x 15 < a11 + 1))) 4 (decide (x 16 < a11 + 1 + a12))) w10:=C.drew.trans c; clear c; have hn10:orB (orB (orB (orB (orB (n) 0 (decide (x 0 < a1 + 1))) 2 (decide (x 6 < a6 + 1))) 1 (decide (x 5 < a5 + 1))) 3 (decide (x 15 < a11 + 1))) 4 (decide (x 16 < a11 + 1 + a12)) < 1024:=orB_lt _ hn9 Zo))
  refine bodyPost_end (results_none Tryz.results180 _ _ _) rfl ⟨rfl,?_⟩;have hq:=HQ.out
  have e2:driveM x ⟨a0,a1,a2,a3,a4,a5,a6,a7,a8,a9,a10,a11,a12,a13⟩ = ⟨a0,a1 + 1,a2,a3,a4,a5 + 1,a6 + 1,a7,a8,a9,a10,a11 + 1,a12,a13⟩:=by
   unfold driveM d2 d1; dsimp only;rw [if_pos Zo]
  have e3:c2 x ⟨a0,a1,a2,a3,a4,a5,a6,a7,a8,a9,a10,a11,a12,a13⟩ = decide (x 6 < a6 + 1):=by unfold c2; simp [hq]
  rw [e2,e3];exact C
 case neg =>
  have q1:(a5 == x 4) = false:=by simpa using hq
  have q2:(a5 + 1 == x 4 + 1) = false:=by simpa using hq
  have HQ:=Zh hq;clear hq;go_still_tail 10,Zk;change wpList _ _ _ _ _ w3.drew;replace C:=C.drew;generalize w3.drew = w4 at C ⊢;have f24:w4.cell? ⟨g,24,none⟩ = some (.int .i64 (a5 + 1)):=C.box.cell rfl;have f5:w4.cell? ⟨g,5,none⟩ = some (.int .i64 (x 5)):=C.box.cell rfl;go_upto_region 7 with fail
  (try go_frame);go_still_tail 11,Zk;change wpList _ _ _ _ _ w4.drew
  go_upto_region 9 with (first
   | (go_at_call 179; (with_reducible refine (breaks_any g x ⟨a0,a1 + 1,a2,a3,a4,a5 + 1,a6,a7,a8,a9,a10,a11,a12,a13⟩ (orB (n) 0 (decide (x 0 < a1 + 1))) 1 _ _ _ C.drew.box hn2 Zo Zd).mono ?_); rintro e w5 ⟨rfl,c⟩; replace C:CnTo w g x ⟨a0,a1 + 1,a2,a3,a4,a5 + 1,a6,a7,a8,a9,a10,a11,a12,a13⟩ (orB (orB (n) 0 (decide (x 0 < a1 + 1))) 1 (decide (x 5 < a5 + 1))) w5:=C.drew.trans c; clear c; have hn5:orB (orB (n) 0 (decide (x 0 < a1 + 1))) 1 (decide (x 5 < a5 + 1)) < 1024:=orB_lt _ hn2 Zo; have f30:w5.cell? ⟨g,30,none⟩ = some (.int .i64 (a11)):=C.box.cell rfl)
   | (refine wpList_store_fld Zv 3 _ _ rfl g 30 (.int .i64 (a11 + 1)) rfl rfl rfl _ _ C.box (by rw [cnt_size]; decide) Zk (fun w6 u=>?_); replace C:CnTo w g x ⟨a0,a1 + 1,a2,a3,a4,a5 + 1,a6,a7,a8,a9,a10,a11 + 1,a12,a13⟩ (orB (orB (n) 0 (decide (x 0 < a1 + 1))) 1 (decide (x 5 < a5 + 1))) w6:=C.upd u; clear u; have f30:w6.cell? ⟨g,30,none⟩ = some (.int .i64 (a11 + 1)):=C.box.cell rfl; have f15:w6.cell? ⟨g,15,none⟩ = some (.int .i64 (x 15)):=C.box.cell rfl))
  (try go_frame);go_still_tail 11,Zk;change wpList _ _ _ _ _ w6.drew
  go_upto_region 10 with (first
   | (go_at_call 179; (with_reducible refine (breaks_any g x ⟨a0,a1 + 1,a2,a3,a4,a5 + 1,a6,a7,a8,a9,a10,a11 + 1,a12,a13⟩ (orB (orB (n) 0 (decide (x 0 < a1 + 1))) 1 (decide (x 5 < a5 + 1))) 3 _ _ _ C.drew.box hn5 Zo Zd).mono ?_); rintro e w7 ⟨rfl,c⟩; replace C:CnTo w g x ⟨a0,a1 + 1,a2,a3,a4,a5 + 1,a6,a7,a8,a9,a10,a11 + 1,a12,a13⟩ (orB (orB (orB (n) 0 (decide (x 0 < a1 + 1))) 1 (decide (x 5 < a5 + 1))) 3 (decide (x 15 < a11 + 1))) w7:=C.drew.trans c; clear c; have hn7:orB (orB (orB (n) 0 (decide (x 0 < a1 + 1))) 1 (decide (x 5 < a5 + 1))) 3 (decide (x 15 < a11 + 1)) < 1024:=orB_lt _ hn5 Zo; have f30:w7.cell? ⟨g,30,none⟩ = some (.int .i64 (a11 + 1)):=C.box.cell rfl; have f31:w7.cell? ⟨g,31,none⟩ = some (.int .i64 (a12)):=C.box.cell rfl; have f16:w7.cell? ⟨g,16,none⟩ = some (.int .i64 (x 16)):=C.box.cell rfl))
  (try go_frame);go_still_tail 16,Zk;change wpList _ _ _ _ _ w7.drew
  go_wp2_with (first
   | (go_at_call 179; (with_reducible refine (breaks_any g x ⟨a0,a1 + 1,a2,a3,a4,a5 + 1,a6,a7,a8,a9,a10,a11 + 1,a12,a13⟩ (orB (orB (orB (n) 0 (decide (x 0 < a1 + 1))) 1 (decide (x 5 < a5 + 1))) 3 (decide (x 15 < a11 + 1))) 4 _ _ _ C.drew.box hn7 Zo Zd).mono ?_); rintro e w8 ⟨rfl,c⟩; replace C:CnTo w g x ⟨a0,a1 + 1,a2,a3,a4,a5 + 1,a6,a7,a8,a9,a10,a11 + 1,a12,a13⟩ (orB (orB (orB (orB (n) 0 (decide (x 0 < a1 + 1))) 1 (decide (x 5 < a5 + 1))) 3 (decide (x 15 < a11 + 1))) 4 (decide (x 16 < a11 + 1 + a12))) w8:=C.drew.trans c; clear c; have hn8:orB (orB (orB (orB (n) 0 (decide (x 0 < a1 + 1))) 1 (decide (x 5 < a5 + 1))) 3 (decide (x 15 < a11 + 1))) 4 (decide (x 16 < a11 + 1 + a12)) < 1024:=orB_lt _ hn7 Zo))
  refine bodyPost_end (results_none Tryz.results180 _ _ _) rfl ⟨rfl,?_⟩;have hq:=HQ.out
  have e2:driveM x ⟨a0,a1,a2,a3,a4,a5,a6,a7,a8,a9,a10,a11,a12,a13⟩ = ⟨a0,a1 + 1,a2,a3,a4,a5 + 1,a6,a7,a8,a9,a10,a11 + 1,a12,a13⟩:=by
   unfold driveM d2 d1; dsimp only;rw [if_neg Zo]
  have e3:c2 x ⟨a0,a1,a2,a3,a4,a5,a6,a7,a8,a9,a10,a11,a12,a13⟩ = false:=by unfold c2; simp [hq]
  rw [e2,e3,orB_no];exact C
set_option maxRecDepth 100000 in
set_option maxHeartbeats 4000000 in
theorem up_any (g:Nat) (x:Nat -> Int) (m:Mt) (n:Nat) (k:Int) (w:World) (hb:Cn w g x m n) (hn:n < 1024) (hm:MayM m) (hx:May x) :
  Calls Tryz.prog 168 #[.pointer (some ⟨g,0,none⟩),.int .i64 k] w fun e w'=>e = .returned (.tuple #[]) /\ CnTo w g x (upM x m k) (Cl.into n (upC x m k)) w':=by
 obtain ⟨h4,h5⟩:=may_time hx 4 Zo;obtain ⟨h8,h8'⟩:=may_time hx 8 Zo;obtain ⟨h11,h11'⟩:=may_time hx 11 Zo;have hr:=(may_upR (x:=x) hm).1;have hn0:orB (orB n 8 (up8 x m)) 6 (up6 x m) < 1024:=orB_lt _ (orB_lt _ hn Zo) Zo;have f22:w.cell? ⟨g,22,none⟩ = some (.int .i64 m.lie):=hb.cell rfl
 have RI:0 < m.lie -> Calls Tryz.prog 178 #[.pointer (some ⟨g,0,none⟩)] w fun e w'=>e = .returned (.tuple #[]) /\ CnTo w g x (upR x m) (orB (orB n 8 (up8 x m)) 6 (up6 x m)) w':=fun hl=>by
  have:=rise_any g x m n w hb hn hm hl hx;unfold upR up8 up6;rw [if_pos hl,decide_eq_true hl,Bool.true_and,Bool.true_and];exact this
 have RN:¬ 0 < m.lie -> CnTo w g x (upR x m) (orB (orB n 8 (up8 x m)) 6 (up6 x m)) w:=fun hl=>by
  unfold upR up8 up6;rw [if_neg hl,decide_eq_false hl,Bool.false_and,Bool.false_and,orB_no,orB_no];exact Chg.refl hb
 obtain ⟨n1,hn1⟩:∃ n1,orB (orB n 8 (up8 x m)) 6 (up6 x m) = n1:=⟨_,rfl⟩;obtain ⟨r,hre⟩:∃ r,upR x m = r:=⟨_,rfl⟩;rw [hn1,hre] at RI RN;rw [hn1] at hn0;rw [hre] at hr;unfold Cl.into upM upC;dsimp only;rw [hn1,hre];generalize m.lie = li at f22 RI RN;clear hn1 hre hb hm hx hn m n;go_enter Tryz.func168,Tryz.ntmps168;go_upto_if 12 with fail
 go_cut [1,4] (fun u1 u4 wx=>u1 = .int .i64 k /\ u4 = .pointer (some ⟨g,19,none⟩) /\ CnTo w g x r n1 wx)
 case first =>
  by_cases hl:0 < li
  case pos =>
   replace RI:=RI hl;clear RN;go_wp2_with (go_at_call 178; (with_reducible refine RI.mono ?_); rintro e w1 ⟨rfl,C⟩);go_meet;exact ⟨rfl,rfl,C⟩
  case neg =>
   replace RN:=RN hl;clear RI;go_wp2;go_meet;exact ⟨rfl,rfl,RN⟩
 case rest =>
 obtain ⟨rfl,rfl,C⟩:=hcut;rename World=>w1
 clear RI RN f22;obtain ⟨b0,b1,b2,b3,b4,b5,b6,b7,b8,b9,b10,b11,b12,b13⟩:=r;have HM:=Zh hr;unfold MayE at hr;dsimp only at hr;obtain ⟨⟨r0,s0⟩,-,-,⟨r4,s4⟩,-,-,-,⟨r9,s9⟩,-,-,⟨r13,s13⟩⟩:=hr;have f19:w1.cell? ⟨g,19,none⟩ = some (.int .i64 (b0)):=C.box.cell rfl;have f23:w1.cell? ⟨g,23,none⟩ = some (.int .i64 (b4)):=C.box.cell rfl;have f11:w1.cell? ⟨g,11,none⟩ = some (.int .i64 (x 11)):=C.box.cell rfl;have f8:w1.cell? ⟨g,8,none⟩ = some (.int .i64 (x 8)):=C.box.cell rfl;have z1:=wrap_small (b0 - b4) Zo Zo;have z2:=wrap_small (x 11 - x 8) Zo Zo;have z3:=wrap_small (b0 - b9) Zo Zo;go_upto_region 3 with fail
 (try go_frame);go_still_tail 22,Zk;change wpList _ _ _ _ _ w1.drew
 go_upto_region 4 with (first
  | (go_at_call 179; (with_reducible refine (breaks_any g x ⟨b0,b1,b2,b3,b4,b5,b6,b7,b8,b9,b10,b11,b12,b13⟩ (n1) 5 _ _ _ C.drew.box hn0 Zo Zd).mono ?_); rintro e w2 ⟨rfl,c⟩; replace C:CnTo w g x ⟨b0,b1,b2,b3,b4,b5,b6,b7,b8,b9,b10,b11,b12,b13⟩ (orB (n1) 5 (decide (x 11 - x 8 <= b0 - b4))) w2:=C.drew.trans c; clear c; have hn2:orB (n1) 5 (decide (x 11 - x 8 <= b0 - b4)) < 1024:=orB_lt _ hn0 Zo; have f19:w2.cell? ⟨g,19,none⟩ = some (.int .i64 (b0)):=C.box.cell rfl; have f28:w2.cell? ⟨g,28,none⟩ = some (.int .i64 (b9)):=C.box.cell rfl; have f14:w2.cell? ⟨g,14,none⟩ = some (.int .i64 (x 14)):=C.box.cell rfl))
 (try go_frame);go_still_tail 16,Zk;change wpList _ _ _ _ _ w2.drew
 go_upto_region 5 with (first
  | (go_at_call 179; (with_reducible refine (breaks_any g x ⟨b0,b1,b2,b3,b4,b5,b6,b7,b8,b9,b10,b11,b12,b13⟩ (orB (n1) 5 (decide (x 11 - x 8 <= b0 - b4))) 7 _ _ _ C.drew.box hn2 Zo Zd).mono ?_); rintro e w3 ⟨rfl,c⟩; replace C:CnTo w g x ⟨b0,b1,b2,b3,b4,b5,b6,b7,b8,b9,b10,b11,b12,b13⟩ (orB (orB (n1) 5 (decide (x 11 - x 8 <= b0 - b4))) 7 (decide (x 14 <= b0 - b9))) w3:=C.drew.trans c; clear c; have hn3:orB (orB (n1) 5 (decide (x 11 - x 8 <= b0 - b4))) 7 (decide (x 14 <= b0 - b9)) < 1024:=orB_lt _ hn2 Zo))
 (try go_frame);by_cases hk3:k = 3
 case pos =>
  subst hk3;have q3:((3:Int) == 3) = true:=rfl;have DL:=(le_drive (x:=x) HM.out).2.2;have DR:=fun W h=>drive_any g x ⟨b0,b1,b2,b3,b4,b5,b6,b7,b8,b9,b10,b11,b12,b13⟩ (orB (orB (n1) 5 (decide (x 11 - x 8 <= b0 - b4))) 7 (decide (x 14 <= b0 - b9))) W h hn3 HM.out h4 h5
  have hnd:orB (orB (orB (orB (orB (orB (orB (n1) 5 (decide (x 11 - x 8 <= b0 - b4))) 7 (decide (x 14 <= b0 - b9))) 0 (c0 x ⟨b0,b1,b2,b3,b4,b5,b6,b7,b8,b9,b10,b11,b12,b13⟩)) 2 (c2 x ⟨b0,b1,b2,b3,b4,b5,b6,b7,b8,b9,b10,b11,b12,b13⟩)) 1 (c1 x ⟨b0,b1,b2,b3,b4,b5,b6,b7,b8,b9,b10,b11,b12,b13⟩)) 3 (c3 x ⟨b0,b1,b2,b3,b4,b5,b6,b7,b8,b9,b10,b11,b12,b13⟩)) 4 (c4 x ⟨b0,b1,b2,b3,b4,b5,b6,b7,b8,b9,b10,b11,b12,b13⟩) < 1024:=orB_lt _ (orB_lt _ (orB_lt _ (orB_lt _ (orB_lt _ hn3 Zo) Zo) Zo) Zo) Zo;obtain ⟨D,hD⟩:∃ D,driveM x ⟨b0,b1,b2,b3,b4,b5,b6,b7,b8,b9,b10,b11,b12,b13⟩ = D:=⟨_,rfl⟩;obtain ⟨nd,hnn⟩:∃ nd,orB (orB (orB (orB (orB (orB (orB (n1) 5 (decide (x 11 - x 8 <= b0 - b4))) 7 (decide (x 14 <= b0 - b9))) 0 (c0 x ⟨b0,b1,b2,b3,b4,b5,b6,b7,b8,b9,b10,b11,b12,b13⟩)) 2 (c2 x ⟨b0,b1,b2,b3,b4,b5,b6,b7,b8,b9,b10,b11,b12,b13⟩)) 1 (c1 x ⟨b0,b1,b2,b3,b4,b5,b6,b7,b8,b9,b10,b11,b12,b13⟩)) 3 (c3 x ⟨b0,b1,b2,b3,b4,b5,b6,b7,b8,b9,b10,b11,b12,b13⟩)) 4 (c4 x ⟨b0,b1,b2,b3,b4,b5,b6,b7,b8,b9,b10,b11,b12,b13⟩) = nd:=⟨_,rfl⟩;rw [hD] at DL DR;rw [hnn] at hnd DR;obtain ⟨t0,t1,t2,t3,t4,t5,t6,t7,t8,t9,t10,t11,t12,t13⟩:=D;dsimp only at DL;have DL1:0 <= t13:=by omega
  have DL2:t13 <= 40320:=by omega
  clear DL;have HD:=Zh hD;have HNN:=Zh hnn;clear hD hnn
  go_upto_region 9 with (first
   | (go_at_call 180; (with_reducible refine (DR _ C.box).mono ?_); rintro e w4 ⟨rfl,c⟩; replace C:CnTo w g x ⟨t0,t1,t2,t3,t4,t5,t6,t7,t8,t9,t10,t11,t12,t13⟩ nd w4:=C.trans c; clear c; have f32:w4.cell? ⟨g,32,none⟩ = some (.int .i64 (t13)):=C.box.cell rfl)
   | (refine wpList_store_fld Zv 3 _ _ rfl g 32 (.int .i64 (t13 + 1)) rfl rfl rfl _ _ C.box (by rw [cnt_size]; decide) Zk (fun w5 u=>?_); replace C:CnTo w g x ⟨t0,t1,t2,t3,t4,t5,t6,t7,t8,t9,t10,t11,t12,t13 + 1⟩ (nd) w5:=C.upd u; clear u; have f32:w5.cell? ⟨g,32,none⟩ = some (.int .i64 (t13 + 1)):=C.box.cell rfl; have f17:w5.cell? ⟨g,17,none⟩ = some (.int .i64 (x 17)):=C.box.cell rfl))
  (try go_frame);go_still_tail 11,Zk;change wpList _ _ _ _ _ w5.drew
  go_wp2_with (first
   | (go_at_call 179; (with_reducible refine (breaks_any g x ⟨t0,t1,t2,t3,t4,t5,t6,t7,t8,t9,t10,t11,t12,t13 + 1⟩ (nd) 9 _ _ _ C.drew.box hnd Zo Zd).mono ?_); rintro e w6 ⟨rfl,c⟩; replace C:CnTo w g x ⟨t0,t1,t2,t3,t4,t5,t6,t7,t8,t9,t10,t11,t12,t13 + 1⟩ (orB (nd) 9 (decide (x 17 < t13 + 1))) w6:=C.drew.trans c; clear c; have hn6:orB (nd) 9 (decide (x 17 < t13 + 1)) < 1024:=orB_lt _ hnd Zo))
  refine bodyPost_end (results_none Tryz.results168 _ _ _) rfl ⟨rfl,?_⟩;rw [HD.out];have hnn:=HNN.out
  show CnTo w g x (workM _) (orB (orB (orB (orB (orB (orB (orB (orB (n1) 5 (decide (x 11 - x 8 <= b0 - b4))) 7 (decide (x 14 <= b0 - b9))) 0 (c0 x ⟨b0,b1,b2,b3,b4,b5,b6,b7,b8,b9,b10,b11,b12,b13⟩)) 2 (c2 x ⟨b0,b1,b2,b3,b4,b5,b6,b7,b8,b9,b10,b11,b12,b13⟩)) 1 (c1 x ⟨b0,b1,b2,b3,b4,b5,b6,b7,b8,b9,b10,b11,b12,b13⟩)) 3 (c3 x ⟨b0,b1,b2,b3,b4,b5,b6,b7,b8,b9,b10,b11,b12,b13⟩)) 4 (c4 x ⟨b0,b1,b2,b3,b4,b5,b6,b7,b8,b9,b10,b11,b12,b13⟩)) 9 _) _
  rw [hnn];exact C
 by_cases hk2:k = 2
 case pos =>
  subst hk2;have q3:((2:Int) == 3) = false:=rfl;have f32:w3.cell? ⟨g,32,none⟩ = some (.int .i64 (b13)):=C.box.cell rfl
  go_upto_region 9 with (first
   | (refine wpList_store_fld Zv 3 _ _ rfl g 32 (.int .i64 (b13 + 1)) rfl rfl rfl _ _ C.box (by rw [cnt_size]; decide) Zk (fun w4 u=>?_); replace C:CnTo w g x ⟨b0,b1,b2,b3,b4,b5,b6,b7,b8,b9,b10,b11,b12,b13 + 1⟩ (orB (orB (n1) 5 (decide (x 11 - x 8 <= b0 - b4))) 7 (decide (x 14 <= b0 - b9))) w4:=C.upd u; clear u; have f32:w4.cell? ⟨g,32,none⟩ = some (.int .i64 (b13 + 1)):=C.box.cell rfl; have f17:w4.cell? ⟨g,17,none⟩ = some (.int .i64 (x 17)):=C.box.cell rfl))
  (try go_frame);go_still_tail 11,Zk;change wpList _ _ _ _ _ w4.drew
  go_wp2_with (first
   | (go_at_call 179; (with_reducible refine (breaks_any g x ⟨b0,b1,b2,b3,b4,b5,b6,b7,b8,b9,b10,b11,b12,b13 + 1⟩ (orB (orB (n1) 5 (decide (x 11 - x 8 <= b0 - b4))) 7 (decide (x 14 <= b0 - b9))) 9 _ _ _ C.drew.box hn3 Zo Zd).mono ?_); rintro e w5 ⟨rfl,c⟩; replace C:CnTo w g x ⟨b0,b1,b2,b3,b4,b5,b6,b7,b8,b9,b10,b11,b12,b13 + 1⟩ (orB (orB (orB (n1) 5 (decide (x 11 - x 8 <= b0 - b4))) 7 (decide (x 14 <= b0 - b9))) 9 (decide (x 17 < b13 + 1))) w5:=C.drew.trans c; clear c; have hn5:orB (orB (orB (n1) 5 (decide (x 11 - x 8 <= b0 - b4))) 7 (decide (x 14 <= b0 - b9))) 9 (decide (x 17 < b13 + 1)) < 1024:=orB_lt _ hn3 Zo))
  refine bodyPost_end (results_none Tryz.results168 _ _ _) rfl ⟨rfl,?_⟩;simp only [orB_no];exact C
 have q3:(k == 3) = false:=by simpa using hk3
 have q2:(k == 2) = false:=by simpa using hk2
 go_wp2_with fail;refine bodyPost_end (results_none Tryz.results168 _ _ _) rfl ⟨rfl,?_⟩;simp only [orB_no];exact C
theorem Chg.drewN {W W1:World} {g:Nat} {t:TypeId} {cs:Array Value} (c:Chg W g t cs W1) (k:Nat):Chg W g t cs (W1.drewN k):=⟨c.size,c.box.drewN,c.other,fun n hn hl=>b_dn (c.bel n hn hl)⟩
theorem may_len {x:Nat -> Int} (h:May x):1 <= x 18 /\ x 18 <= 40320:=by
 have:=h.1 18 Zo;unfold lim at this;split at this <;> omega
set_option maxRecDepth 100000 in
set_option maxHeartbeats 4000000 in
theorem minute_any (g:Nat) (x:Nat -> Int) (m:Mt) (n:Nat) (k:Int) (w:World) (hb:Cn w g x m n) (hn:n < 1024) (hm:MayM m) (hlt:m.now < 40320) (hx:May x) :
  Calls Tryz.prog 144 #[.pointer (some ⟨g,0,none⟩),.int .i64 k] w fun e w'=>e = .returned (.tuple #[]) /\ CnTo w g x (stepM x m k) (n ||| stepC x m k) w':=by
 obtain ⟨h18,h18'⟩:=may_len hx;have UP:=fun W h=>up_any g x (wrapM x m) n k W h hn (may_wrap (x:=x) hm).1 hx
 have hup:=(le_up (x:=x) k (may_wrap (x:=x) hm).1).2;have hwn:=(may_wrap (x:=x) hm).2;rw [hwn] at hup;rw [Cl.into_eq] at UP;unfold stepM stepC;dsimp only;generalize (upC x (wrapM x m) k).sum = sm at UP ⊢;obtain ⟨U,hU⟩:∃ U,upM x (wrapM x m) k = U:=⟨_,rfl⟩;rw [hU] at UP hup;rw [hU];clear hU hx;have hr:=(may_wrap (x:=x) hm).1;have hw:wrapM x m = (if 0 < m.now /\ m.now % x 18 = 0 then { m with last:=m.week,week:=0,labour:=0 } else m):=rfl;obtain ⟨WR,hWR⟩:∃ WR,wrapM x m = WR:=⟨_,rfl⟩;rw [hWR] at UP hr hwn hw;rw [hWR];clear hWR;have hn0:=hm.1.1;clear hm;obtain ⟨a0,a1,a2,a3,a4,a5,a6,a7,a8,a9,a10,a11,a12,a13⟩:=m;dsimp only at hup hwn hw hlt hn0;obtain ⟨t0,t1,t2,t3,t4,t5,t6,t7,t8,t9,t10,t11,t12,t13⟩:=U;dsimp only at hup;subst hup;have C:CnTo w g x ⟨t0,a1,a2,a3,a4,a5,a6,a7,a8,a9,a10,a11,a12,a13⟩ n w:=Chg.refl hb;clear hb;have f19:w.cell? ⟨g,19,none⟩ = some (.int .i64 t0):=C.box.cell rfl;have f18:w.cell? ⟨g,18,none⟩ = some (.int .i64 (x 18)):=C.box.cell rfl;by_cases hk:k = 0
 case pos =>
  subst hk;rw [if_pos rfl,if_pos rfl,Nat.or_zero];clear UP;by_cases h0:0 < t0
  case neg =>
   rw [if_neg (fun h=>h0 h.1)] at hw;subst hw;have d0:decide (0 < t0) = false:=decide_eq_false h0;obtain ⟨_,-,⟨r3,s3⟩,-⟩:=hr;dsimp only at r3 s3;go_enter Tryz.func144,Tryz.ntmps144;go_upto_region 1 with fail
   go_quiet (fail);replace C:=Chg.drewN C nq;generalize w.drewN nq = w1 at C ⊢;have f22:w1.cell? ⟨g,22,none⟩ = some (.int .i64 (a3)):=C.box.cell rfl
   go_wp2_with (first
    | (refine wpList_store_fld Zv 3 _ _ rfl g 22 (.int .i64 (a3 + 1)) rfl rfl rfl _ _ C.box (by rw [cnt_size]; decide) Zk (fun w2 u=>?_); replace C:CnTo w g x ⟨t0,a1,a2,a3 + 1,a4,a5,a6,a7,a8,a9,a10,a11,a12,a13⟩ (n) w2:=C.upd u; clear u; have f19:w2.cell? ⟨g,19,none⟩ = some (.int .i64 (t0)):=C.box.cell rfl)
    | (refine wpList_store_fld Zv 3 _ _ rfl g 19 (.int .i64 (t0 + 1)) rfl rfl rfl _ _ C.box (by rw [cnt_size]; decide) Zk (fun w3 u=>?_); replace C:CnTo w g x ⟨t0 + 1,a1,a2,a3 + 1,a4,a5,a6,a7,a8,a9,a10,a11,a12,a13⟩ (n) w3:=C.upd u; clear u))
   refine bodyPost_end (results_none Tryz.results144 _ _ _) rfl ⟨rfl,?_⟩;exact C
  have d0:decide (0 < t0) = true:=decide_eq_true h0;by_cases h1:t0 % x 18 = 0
  case neg =>
   rw [if_neg (fun h=>h1 h.2)] at hw;subst hw;obtain ⟨_,-,⟨r3,s3⟩,-⟩:=hr;dsimp only at r3 s3;go_enter Tryz.func144,Tryz.ntmps144;go_upto_region 1 with fail
   go_quiet (fail);replace C:=Chg.drewN C nq;generalize w.drewN nq = w1 at C ⊢;have f22:w1.cell? ⟨g,22,none⟩ = some (.int .i64 (a3)):=C.box.cell rfl
   go_wp2_with (first
    | (refine wpList_store_fld Zv 3 _ _ rfl g 22 (.int .i64 (a3 + 1)) rfl rfl rfl _ _ C.box (by rw [cnt_size]; decide) Zk (fun w2 u=>?_); replace C:CnTo w g x ⟨t0,a1,a2,a3 + 1,a4,a5,a6,a7,a8,a9,a10,a11,a12,a13⟩ (n) w2:=C.upd u; clear u; have f19:w2.cell? ⟨g,19,none⟩ = some (.int .i64 (t0)):=C.box.cell rfl)
    | (refine wpList_store_fld Zv 3 _ _ rfl g 19 (.int .i64 (t0 + 1)) rfl rfl rfl _ _ C.box (by rw [cnt_size]; decide) Zk (fun w3 u=>?_); replace C:CnTo w g x ⟨t0 + 1,a1,a2,a3 + 1,a4,a5,a6,a7,a8,a9,a10,a11,a12,a13⟩ (n) w3:=C.upd u; clear u))
   refine bodyPost_end (results_none Tryz.results144 _ _ _) rfl ⟨rfl,?_⟩;exact C
  rw [if_pos ⟨h0,h1⟩] at hw;subst hw;obtain ⟨_,-,⟨r3,s3⟩,-⟩:=hr;dsimp only at r3 s3;go_enter Tryz.func144,Tryz.ntmps144;go_upto_region 1 with fail
  go_quiet (fail);replace C:=Chg.drewN C nq;generalize w.drewN nq = w1 at C ⊢;have f30:w1.cell? ⟨g,30,none⟩ = some (.int .i64 (a11)):=C.box.cell rfl
  go_wp2_with (first
   | (refine wpList_store_fld Zv 3 _ _ rfl g 31 (.int .i64 (a11)) rfl rfl rfl _ _ C.box (by rw [cnt_size]; decide) Zk (fun w2 u=>?_); replace C:CnTo w g x ⟨t0,a1,a2,a3,a4,a5,a6,a7,a8,a9,a10,a11,a11,a13⟩ (n) w2:=C.upd u; clear u)
   | (refine wpList_store_fld Zv 3 _ _ rfl g 30 (.int .i64 (0)) rfl rfl rfl _ _ C.box (by rw [cnt_size]; decide) Zk (fun w3 u=>?_); replace C:CnTo w g x ⟨t0,a1,a2,a3,a4,a5,a6,a7,a8,a9,a10,0,a11,a13⟩ (n) w3:=C.upd u; clear u)
   | (refine wpList_store_fld Zv 3 _ _ rfl g 32 (.int .i64 (0)) rfl rfl rfl _ _ C.box (by rw [cnt_size]; decide) Zk (fun w4 u=>?_); replace C:CnTo w g x ⟨t0,a1,a2,a3,a4,a5,a6,a7,a8,a9,a10,0,a11,0⟩ (n) w4:=C.upd u; clear u; have f22:w4.cell? ⟨g,22,none⟩ = some (.int .i64 (a3)):=C.box.cell rfl)
   | (refine wpList_store_fld Zv 3 _ _ rfl g 22 (.int .i64 (a3 + 1)) rfl rfl rfl _ _ C.box (by rw [cnt_size]; decide) Zk (fun w5 u=>?_); replace C:CnTo w g x ⟨t0,a1,a2,a3 + 1,a4,a5,a6,a7,a8,a9,a10,0,a11,0⟩ (n) w5:=C.upd u; clear u; have f19:w5.cell? ⟨g,19,none⟩ = some (.int .i64 (t0)):=C.box.cell rfl)
   | (refine wpList_store_fld Zv 3 _ _ rfl g 19 (.int .i64 (t0 + 1)) rfl rfl rfl _ _ C.box (by rw [cnt_size]; decide) Zk (fun w6 u=>?_); replace C:CnTo w g x ⟨t0 + 1,a1,a2,a3 + 1,a4,a5,a6,a7,a8,a9,a10,0,a11,0⟩ (n) w6:=C.upd u; clear u))
  refine bodyPost_end (results_none Tryz.results144 _ _ _) rfl ⟨rfl,?_⟩;exact C
 rw [if_neg hk,if_neg hk];by_cases h0:0 < t0
 case neg =>
  rw [if_neg (fun h=>h0 h.1)] at hw;subst hw;have d0:decide (0 < t0) = false:=decide_eq_false h0;go_enter Tryz.func144,Tryz.ntmps144;go_upto_region 1 with fail
  go_quiet (fail);replace C:=Chg.drewN C nq;generalize w.drewN nq = w1 at C ⊢
  go_wp2_with (first
   | (go_at_call 168; (with_reducible refine (UP _ C.box).mono ?_); rintro e w2 ⟨rfl,c⟩; replace C:CnTo w g x ⟨t0,t1,t2,t3,t4,t5,t6,t7,t8,t9,t10,t11,t12,t13⟩ (n ||| sm) w2:=C.trans c; clear c; have f19:w2.cell? ⟨g,19,none⟩ = some (.int .i64 (t0)):=C.box.cell rfl)
   | (refine wpList_store_fld Zv 3 _ _ rfl g 19 (.int .i64 (t0 + 1)) rfl rfl rfl _ _ C.box (by rw [cnt_size]; decide) Zk (fun w3 u=>?_); replace C:CnTo w g x ⟨t0 + 1,t1,t2,t3,t4,t5,t6,t7,t8,t9,t10,t11,t12,t13⟩ (n ||| sm) w3:=C.upd u; clear u))
  refine bodyPost_end (results_none Tryz.results144 _ _ _) rfl ⟨rfl,?_⟩;exact C
 have d0:decide (0 < t0) = true:=decide_eq_true h0;by_cases h1:t0 % x 18 = 0
 case neg =>
  rw [if_neg (fun h=>h1 h.2)] at hw;subst hw;go_enter Tryz.func144,Tryz.ntmps144;go_upto_region 1 with fail
  go_quiet (fail);replace C:=Chg.drewN C nq;generalize w.drewN nq = w1 at C ⊢
  go_wp2_with (first
   | (go_at_call 168; (with_reducible refine (UP _ C.box).mono ?_); rintro e w2 ⟨rfl,c⟩; replace C:CnTo w g x ⟨t0,t1,t2,t3,t4,t5,t6,t7,t8,t9,t10,t11,t12,t13⟩ (n ||| sm) w2:=C.trans c; clear c; have f19:w2.cell? ⟨g,19,none⟩ = some (.int .i64 (t0)):=C.box.cell rfl)
   | (refine wpList_store_fld Zv 3 _ _ rfl g 19 (.int .i64 (t0 + 1)) rfl rfl rfl _ _ C.box (by rw [cnt_size]; decide) Zk (fun w3 u=>?_); replace C:CnTo w g x ⟨t0 + 1,t1,t2,t3,t4,t5,t6,t7,t8,t9,t10,t11,t12,t13⟩ (n ||| sm) w3:=C.upd u; clear u))
  refine bodyPost_end (results_none Tryz.results144 _ _ _) rfl ⟨rfl,?_⟩;exact C
 rw [if_pos ⟨h0,h1⟩] at hw;subst hw;go_enter Tryz.func144,Tryz.ntmps144;go_upto_region 1 with fail
 go_quiet (fail);replace C:=Chg.drewN C nq;generalize w.drewN nq = w1 at C ⊢;have f30:w1.cell? ⟨g,30,none⟩ = some (.int .i64 (a11)):=C.box.cell rfl
 go_wp2_with (first
  | (refine wpList_store_fld Zv 3 _ _ rfl g 31 (.int .i64 (a11)) rfl rfl rfl _ _ C.box (by rw [cnt_size]; decide) Zk (fun w2 u=>?_); replace C:CnTo w g x ⟨t0,a1,a2,a3,a4,a5,a6,a7,a8,a9,a10,a11,a11,a13⟩ (n) w2:=C.upd u; clear u)
  | (refine wpList_store_fld Zv 3 _ _ rfl g 30 (.int .i64 (0)) rfl rfl rfl _ _ C.box (by rw [cnt_size]; decide) Zk (fun w3 u=>?_); replace C:CnTo w g x ⟨t0,a1,a2,a3,a4,a5,a6,a7,a8,a9,a10,0,a11,a13⟩ (n) w3:=C.upd u; clear u)
  | (refine wpList_store_fld Zv 3 _ _ rfl g 32 (.int .i64 (0)) rfl rfl rfl _ _ C.box (by rw [cnt_size]; decide) Zk (fun w4 u=>?_); replace C:CnTo w g x ⟨t0,a1,a2,a3,a4,a5,a6,a7,a8,a9,a10,0,a11,0⟩ (n) w4:=C.upd u; clear u)
  | (go_at_call 168; (with_reducible refine (UP _ C.box).mono ?_); rintro e w5 ⟨rfl,c⟩; replace C:CnTo w g x ⟨t0,t1,t2,t3,t4,t5,t6,t7,t8,t9,t10,t11,t12,t13⟩ (n ||| sm) w5:=C.trans c; clear c; have f19:w5.cell? ⟨g,19,none⟩ = some (.int .i64 (t0)):=C.box.cell rfl)
  | (refine wpList_store_fld Zv 3 _ _ rfl g 19 (.int .i64 (t0 + 1)) rfl rfl rfl _ _ C.box (by rw [cnt_size]; decide) Zk (fun w6 u=>?_); replace C:CnTo w g x ⟨t0 + 1,t1,t2,t3,t4,t5,t6,t7,t8,t9,t10,t11,t12,t13⟩ (n ||| sm) w6:=C.upd u; clear u))
 refine bodyPost_end (results_none Tryz.results144 _ _ _) rfl ⟨rfl,?_⟩;exact C
open Classical in
noncomputable def bmErr (x:Nat -> Int) (m:Mt):Int:=if May x then (if MayM m then 0 else 1) else 14
theorem bmErr_ok {x:Nat -> Int} {m:Mt}:bmErr x m = 0 ↔ May x /\ MayM m:=by
 unfold bmErr;constructor
 ·intro h
  split at h
  ·split at h
   ·exact ⟨by assumption,by assumption⟩
   ·omega
  ·omega
 ·intro ⟨h1,h2⟩
  rw [if_pos h1,if_pos h2]
theorem meterV_bad {x:Nat -> Int} {m:Mt} (l:List Int) (h:bmErr x m ≠ 0):meterV x m l = (.zero,0,bmErr x m):=by
 unfold meterV;unfold bmErr at h ⊢;split
 ·split
  ·rename_i h1 h2; rw [if_pos h1,if_pos h2] at h; exact absurd rfl h
  ·rfl
 ·rfl
theorem meterV_good {x:Nat -> Int} {m:Mt} (l:List Int) (h1:May x) (h2:MayM m):meterV x m l = runV x m 0 l:=by
 unfold meterV;rw [if_pos h1,if_pos h2]
theorem Cn.meter {W:World} {g:Nat} {x:Nat -> Int} {m:Mt} {n:Nat} (h:Cn W g x m n):W.rangeAt g 19 (mt m).toList:=fun j v hj=>by
 rw [cell_of_row W g (19 + j) _ _ (0,0) h]
 have hl:j < 14:=by
  have:=(List.getElem?_eq_some_iff.1 hj).1;simpa [mt_size] using this
 rw [Array.getElem?_toList] at hj;have:j = 0 ∨ j = 1 ∨ j = 2 ∨ j = 3 ∨ j = 4 ∨ j = 5 ∨ j = 6 ∨ j = 7 ∨ j = 8 ∨ j = 9 ∨ j = 10 ∨ j = 11 ∨ j = 12 ∨ j = 13:=by omega
 rcases this with rfl | rfl | rfl | rfl | rfl | rfl | rfl | rfl | rfl | rfl | rfl | rfl | rfl | rfl <;> exact hj
theorem drop_at {l:List Int} {k:Nat} {y:Int} (h:l[k]? = some y):l.drop k = y :: l.drop (k + 1):=by
 obtain ⟨hk,hy⟩:=List.getElem?_eq_some_iff.1 h;rw [List.drop_eq_getElem_cons hk,hy]
set_option maxRecDepth 100000 in
set_option maxHeartbeats 4000000 in
theorem run_any (x:Nat -> Int) (m:Mt) (A:Option Addr) (c:Nat) (l:List Int) (w:World) (h:RdN w A l) (hl:l.length <= 1000000) :
  Calls Tryz.prog 120 #[.agg (bk x),.agg (mt m),.slice A l.length c] w fun e w'=>e = .returned (.tuple #[.agg (mt (meterV x m l).1),.int .i64 ((meterV x m l).2.1:Nat),.int .i64 (meterV x m l).2.2]) /\ Below w.heap.size w w':=by
 have C1:=fun W=>check13_any x m W
 have RB:RdI (((w.alloc (.cells (bk x) 23)).alloc (.cells (mt m) 88)).alloc (.cells (mt .zero) 88)) w.heap.size 0 x:=((RdI.new x 23 rfl).alloc _).alloc _;have BM:Bx (((w.alloc (.cells (bk x) 23)).alloc (.cells (mt m) 88)).alloc (.cells (mt .zero) 88)) (w.heap.size + 1) 88 (mt m):=(Bx.new (W:=w.alloc (.cells (bk x) 23)) _ _ (by simp)).alloc _;have BR:Bx (((w.alloc (.cells (bk x) 23)).alloc (.cells (mt m) 88)).alloc (.cells (mt .zero) 88)) (w.heap.size + 2) 88 (mt .zero):=Bx.new (W:=(w.alloc (.cells (bk x) 23)).alloc (.cells (mt m) 88)) _ _ (by simp);have hB0:Below w.heap.size w (((w.alloc (.cells (bk x) 23)).alloc (.cells (mt m) 88)).alloc (.cells (mt .zero) 88)):=b_al (b_al (b_al (Below.refl _ _) Zl _) Zl _) Zl _;have hz0:(((w.alloc (.cells (bk x) 23)).alloc (.cells (mt m) 88)).alloc (.cells (mt .zero) 88)).heap.size = w.heap.size + 3:=by simp
 by_cases he:bmErr x m = 0
 case neg =>
  rw [meterV_bad l he];have C1:∀ W,Calls Tryz.prog 142 #[.agg (bk x),.agg (mt m)] W fun e w'=>e = .returned (.int .i64 (bmErr x m)) /\ Below W.heap.size W w':=C1
  generalize bmErr x m = er at he C1 ⊢;have ne:(er != 0) = true:=by simpa using he
  have ne2:(er == 0) = false:=by simpa using he
  clear he h;go_enter Tryz.func120,Tryz.ntmps120;go_wp2_with (first | refine wpList_load_bk Zv 23 _ rfl _ _ rfl x _ (RB) Tryz.underlying23 rfl Zk ?_ | refine wpList_load_box Zv 88 _ rfl (w.heap.size + 1) rfl 88 _ _ BM Tryz.underlying88 rfl Zk ?_ | (go_at_call 142; (with_reducible refine (C1 _).mono ?_); rintro e w1 ⟨rfl,hb1⟩; have BR1:=BR.below hb1) | refine wpList_build_as rfl 88 _ rfl (mt .zero) Zk ?_ | refine wpList_store_box rfl 88 _ _ rfl (w.heap.size + 2) (mt .zero) rfl rfl 88 (mt .zero) BR1 Zk rfl (mt_one _) (fun w2 u=>?_));refine bodyPost_ret (results_box3 Tryz.results120 _ _ (w.heap.size + 2) 88 (mt .zero) _ (.int .i64 0) (.int .i64 er) rfl u.box rfl rfl Tryz.underlying88 rfl Zk) rfl ⟨rfl,?_⟩;exact (b_cl hB0 Zl hb1).trans (u.bel _ Zo)
 obtain ⟨hx,hm⟩:=bmErr_ok.1 he;rw [meterV_good l hx hm]
 have C1:∀ W,Calls Tryz.prog 142 #[.agg (bk x),.agg (mt m)] W fun e w'=>e = .returned (.int .i64 0) /\ Below W.heap.size W w':=fun W=>by
  have:=C1 W;rwa [if_pos hx,if_pos hm] at this
 clear he;have HM:=Zh hm;have HX:=Zh hx;clear hm hx;have HR:=Zh h;clear h;obtain ⟨V,hV⟩:∃ V,runV x m 0 l = V:=⟨_,rfl⟩;rw [hV];have HV:=Zh hV;clear hV;go_enter Tryz.func120,Tryz.ntmps120
 go_upto_region 5 with (first
  | refine wpList_load_bk Zv 23 _ rfl _ _ rfl x _ (RB) Tryz.underlying23 rfl Zk ?_
  | refine wpList_load_box Zv 88 _ rfl (w.heap.size + 1) rfl 88 _ _ BM Tryz.underlying88 rfl Zk ?_
  | (go_at_call 142; (with_reducible refine (C1 _).mono ?_); rintro e w1 ⟨rfl,hb1⟩; have BR1:=BR.below hb1; have RB1:=RB.below hb1; have BM1:=BM.below hb1)
  | refine wpList_load_bk Zv 23 _ rfl _ _ rfl x _ (RB1) Tryz.underlying23 rfl Zk ?_
  | refine wpList_load_box Zv 88 _ rfl (w.heap.size + 1) rfl 88 _ _ BM1 Tryz.underlying88 rfl Zk ?_
  | refine wpList_build_as rfl 195 _ rfl (cnt x m 0) Zk ?_
  | refine wpList_store_box rfl 195 _ _ rfl w1.heap.size (cnt x m 0) rfl rfl 195 (cnt (fun _=>0) .zero 0) (Bx.new (W:=w1) 195 (cnt (fun _=>0) .zero 0) rfl) Zk rfl (cnt_one _ _ _) (fun w2 u=>?_))
 (try go_frame);have RR:Bx w2 (w.heap.size + 2) 88 (mt .zero):=u.bx (BR1.alloc _) (Nat.ne_of_lt BR1.lt);have hz1:=hb1.size;simp only [World.size_alloc] at hz1;have hB2:Below w.heap.size w w2:=(b_al (b_cl hB0 Zl hb1) Zo _).trans (u.bel _ Zo);have hgc:w.heap.size + 3 <= w1.heap.size:=by omega
 have C0:Cn w2 w1.heap.size x m 0:=u.box;generalize w1.heap.size = gc at C0 hgc ⊢;clear BR1 RB1 BM1 hb1 hz1 u BR BM RB hB0 hz0 C1;go_wp2;go_loopw [26] (fun i wr=>∃ (k:Nat) (m':Mt) (n':Nat),k <= l.length /\ i = .int .i64 k /\ Hid (MayM m') /\ Hid (n' < 1024) /\ Hid (runV x m' n' (l.drop k) = V) /\ Hid (CnTo w2 gc x m' n' wr)) (fun i _=>l.length - (intOf i).toNat)
 case atStart=>exact ⟨0,m,0,Nat.zero_le _,rfl,HM,Zh Zd,Zh HV.out,Zh (Chg.refl C0)⟩
 case round =>
  obtain ⟨k,m',n',hk,rfl,HM',HN',HV',HC⟩:=hrel;obtain ⟨w3,rfl⟩:∃ w3:World,w3 = wr:=⟨_,rfl⟩;by_cases hlt:k < l.length
  case neg =>
   obtain rfl:k = l.length:=by omega
   have hVe:=HV'.out;rw [List.drop_length] at hVe;have hC:=HC.out;have hR3:=hC.bx RR Zo;go_upto_region 13 with fail
   refine wp_region_noPanic ?_;refine wp_region_held_drew (S:=fun w'=>Cn w' gc x m' n') Zk ?_ (fun hHeld=>?_)
   ·exact hC.box.drew
   refine Zt 0 (some 39) ?_;(try simp only [Zs]);refine wpAnyH_take (i:=1) (oi:=⟨some 40,_,_,_,_,_⟩) (v:=.agg (mt m')) rfl Zk Zk Zk (fun _ _ _ h=>h) (yieldsIf_load_mid Zv 88 _ rfl gc 19 rfl (mt m').toList _ (fun w' hSw=>Cn.meter hSw) Tryz.underlying88 rfl Zk) Zm ?_;(try simp only [Zs]);refine Zt 2 (some 41) ?_;(try simp only [Zs]);refine Zt 3 (some 42) (hy:=by intro w' hSw; have q33:w'.cell? ⟨gc,33,none⟩ = some (.int .i64 (n':Int)):=Bx.cell hSw rfl; clear hSw; go_simp; try (with_reducible rfl)) ?_;(try simp only [Zs]);refine Zr 4 none fun K hK=>?_
   refine wp_store_any 88 _ _ rfl (w.heap.size + 2) (mt m') rfl rfl 88 (mt .zero) hR3.drew Zk rfl (mt_one _) (fun w5 u=>?_);refine hK.out _ _ (u.bx hC.box.drew Zo) (fun hHeld=>?_);clear hK K;(try simp only [Act.put]);refine Zt 5 (some 7) ?_;(try simp only [Zs]);refine Zt 6 (some 8) ?_;(try simp only [Zs]);refine wpAnyH_done Zk ?_ _;refine NoPanic.normal ?_;go_wp2_with fail;refine bodyPost_ret (results_box3 Tryz.results120 _ _ (w.heap.size + 2) 88 (mt m') _ (.int .i64 (n':Int)) (.int .i64 0) rfl u.box rfl rfl Tryz.underlying88 rfl Zk) rfl ⟨?_,?_⟩
   ·rw [<- hVe]; rfl
   ·exact (b_dr (hB2.trans (hC.bel _ Zo hB2.size))).trans (u.bel _ Zo)
  have hC:=HC.out;obtain ⟨b,off,y,rfl,hbb,hc0,hs⟩:=HR.out.at_ hlt
  have hc0:w3.cell? ⟨b,off + k,none⟩ = some (.int .i64 y):=by
   rw [hC.cell (p:=⟨b,off + k,none⟩) (by show b ≠ gc; omega) (by have:=hB2.size; show b < w2.heap.size; omega),hB2.cell (p:=⟨b,off + k,none⟩) hbb];exact hc0
  have hVe:runV x m' n' (y :: l.drop (k + 1)) = V:=by rw [<- drop_at hs.out]; exact HV'.out
  rw [runV_cons] at hVe;have G1:=fun W h=>goesOn_any gc x m' n' y W h
  have hR3:=hC.bx RR Zo;clear hs;by_cases hy:y < 0 ∨ 3 < y
  case pos =>
   simp only [if_pos hy] at hVe G1;subst hVe;clear hy
   go_wp2_with (first
    | (go_at_call 143; (with_reducible refine (G1 _ hC.box).mono ?_); rintro e w4 ⟨rfl,rfl⟩)
    | refine wpList_build_as rfl 88 _ rfl (mt .zero) Zk ?_
    | refine wpList_store_box rfl 88 _ _ rfl (w.heap.size + 2) (mt .zero) rfl rfl 88 (mt .zero) hR3 Zk rfl (mt_one _) (fun w5 u=>?_))
   refine bodyPost_ret (results_box3 Tryz.results120 _ _ (w.heap.size + 2) 88 (mt .zero) _ (.int .i64 0) (.int .i64 2) rfl u.box rfl rfl Tryz.underlying88 rfl Zk) rfl ⟨rfl,?_⟩;exact (hB2.trans (hC.bel _ Zo hB2.size)).trans (u.bel _ Zo)
  by_cases hf:m'.now = 40320
  case pos =>
   simp only [if_neg hy,if_pos hf] at hVe G1;subst hVe;clear hy hf
   go_wp2_with (first
    | (go_at_call 143; (with_reducible refine (G1 _ hC.box).mono ?_); rintro e w4 ⟨rfl,rfl⟩)
    | refine wpList_build_as rfl 88 _ rfl (mt .zero) Zk ?_
    | refine wpList_store_box rfl 88 _ _ rfl (w.heap.size + 2) (mt .zero) rfl rfl 88 (mt .zero) hR3 Zk rfl (mt_one _) (fun w5 u=>?_))
   refine bodyPost_ret (results_box3 Tryz.results120 _ _ (w.heap.size + 2) 88 (mt .zero) _ (.int .i64 0) (.int .i64 4) rfl u.box rfl rfl Tryz.underlying88 rfl Zk) rfl ⟨rfl,?_⟩;exact (hB2.trans (hC.bel _ Zo hB2.size)).trans (u.bel _ Zo)
  simp only [if_neg hy,if_neg hf] at hVe G1;have hlt':m'.now < 40320:=by have:=HM'.out.1; omega
  have MI:=fun W h=>minute_any gc x m' n' y W h HN'.out HM'.out hlt' HX.out
  have HM2:=Zh (may_step (x:=x) y HM'.out hlt').1;have HN2:Hid (n' ||| stepC x m' y < 1024):=Zh (Nat.or_lt_two_pow (n:=10) HN'.out (stepC_lt x m' y));have HV2:=Zh hVe;clear hVe hy hf hlt' hR3;generalize stepM x m' y = m4 at MI HM2 HV2;generalize n' ||| stepC x m' y = n4 at MI HN2 HV2
  go_wp2_with (first
   | (go_at_call 143; (with_reducible refine (G1 _ hC.box).mono ?_); rintro e w4 ⟨rfl,rfl⟩)
   | (go_at_call 144; (with_reducible refine (MI _ hC.box).mono ?_); rintro e w5 ⟨rfl,hC5⟩))
  go_roundw
  case rel=>exact ⟨k + 1,m4,n4,by omega,by go_num,HM2,HN2,HV2,Zh (hC.trans hC5)⟩
  case measure=>simp [intOf]; omega
theorem rdN_one {W:World} {g:Nat} {k:Int} (h:W.cell? ⟨g,0,none⟩ = some (.int .i64 k)):RdN W (some ⟨g,0,none⟩) [k]:=fun _=>by
 refine ⟨g,0,rfl,c_lt h,fun j hj=>?_⟩;have:j = 0:=by simpa using hj
 subst this;exact h
set_option maxRecDepth 20000 in
theorem step13_any (x:Nat -> Int) (m:Mt) (k:Int) (w:World) :
  Calls Tryz.prog 85 #[.agg (bk x),.agg (mt m),.int .i64 k] w fun e w'=>e = .returned (.tuple #[.agg (mt (meterV x m [k]).1),.int .i64 ((meterV x m [k]).2.1:Nat),.int .i64 (meterV x m [k]).2.2]) /\ Below w.heap.size w w':=by
 have RN:=fun W g h=>run_any x m (some ⟨g,0,none⟩) 1 [k] W (rdN_one h) (by simp)
 simp only [List.length_singleton] at RN;generalize meterV x m [k] = V at RN ⊢;obtain ⟨m',n',e'⟩:=V;dsimp only at RN ⊢;have RB:RdI (((w.alloc (.cells (bk x) 23)).alloc (.cells (mt m) 88)).alloc (.cells (mt .zero) 88)) w.heap.size 0 x:=((RdI.new x 23 rfl).alloc _).alloc _;have BM:Bx (((w.alloc (.cells (bk x) 23)).alloc (.cells (mt m) 88)).alloc (.cells (mt .zero) 88)) (w.heap.size + 1) 88 (mt m):=(Bx.new (W:=w.alloc (.cells (bk x) 23)) _ _ (by simp)).alloc _;have BR:Bx (((w.alloc (.cells (bk x) 23)).alloc (.cells (mt m) 88)).alloc (.cells (mt .zero) 88)) (w.heap.size + 2) 88 (mt .zero):=Bx.new (W:=(w.alloc (.cells (bk x) 23)).alloc (.cells (mt m) 88)) _ _ (by simp);have hB0:Below w.heap.size w (((w.alloc (.cells (bk x) 23)).alloc (.cells (mt m) 88)).alloc (.cells (mt .zero) 88)):=b_al (b_al (b_al (Below.refl _ _) Zl _) Zl _) Zl _;have CK:((((w.alloc (.cells (bk x) 23)).alloc (.cells (mt m) 88)).alloc (.cells (mt .zero) 88)).alloc (.cells #[.int .i64 k] 3)).cell? ⟨w.heap.size + 1 + 1 + 1,0,none⟩ = some (.int .i64 k):=(Bx.new (W:=(((w.alloc (.cells (bk x) 23)).alloc (.cells (mt m) 88)).alloc (.cells (mt .zero) 88))) 3 #[.int .i64 k] (by simp)).cell rfl;go_enter Tryz.func85,Tryz.ntmps85
 go_wp2_with (first
  | refine wpList_load_bk Zv 23 _ rfl _ _ rfl x _ (RB) Tryz.underlying23 rfl Zk ?_
  | refine wpList_load_box Zv 88 _ rfl (w.heap.size + 1) rfl 88 _ _ BM Tryz.underlying88 rfl Zk ?_
  | (go_at_call 120; (refine (RN _ _ CK).mono ?_); rintro e w1 ⟨rfl,hb1⟩; have BR1:=(BR.alloc _).below hb1)
  | refine wpList_store_box rfl 88 _ _ rfl (w.heap.size + 2) (mt m') rfl rfl 88 (mt .zero) BR1 Zk rfl (mt_one _) (fun w2 u=>?_))
 refine bodyPost_ret (results_box3 Tryz.results85 _ _ (w.heap.size + 2) 88 (mt m') _ (.int .i64 (n':Int)) (.int .i64 e') rfl u.box rfl rfl Tryz.underlying88 rfl Zk) rfl ⟨rfl,?_⟩;exact (b_cl (b_al hB0 (by simp) _) Zl hb1).trans (u.bel _ Zo)
open Classical in
noncomputable def err14 (x:Nat -> Int) (m:Mt) (k:Int):Int:=if May x then (if MayM m then (if k < 0 ∨ 3 < k then 2 else 0) else 1) else 14
theorem err14_ok {x:Nat -> Int} {m:Mt} {k:Int}:err14 x m k = 0 ↔ May x /\ MayM m /\ ¬ (k < 0 ∨ 3 < k):=by
 unfold err14;constructor
 ·intro h
  split at h
  ·split at h
   ·split at h
    ·omega
    ·exact ⟨by assumption,by assumption,by assumption⟩
   ·omega
  ·omega
 ·intro ⟨h1,h2,h3⟩
  rw [if_pos h1,if_pos h2,if_neg h3]
set_option maxRecDepth 20000 in
open Classical in
theorem check14_any (x:Nat -> Int) (m:Mt) (k:Int) (w:World) :
  Calls Tryz.prog 122 #[.agg (bk x),.agg (mt m),.int .i64 k] w fun e w'=>e = .returned (.int .i64 (err14 x m k)) /\ Below w.heap.size w w':=by
 have C1:=fun W=>check7_any x W
 have C2:=fun W=>mcheck_any m W
 have RB:RdI ((w.alloc (.cells (bk x) 23)).alloc (.cells (mt m) 88)) w.heap.size 0 x:=(RdI.new x 23 rfl).alloc _;have BM:Bx ((w.alloc (.cells (bk x) 23)).alloc (.cells (mt m) 88)) (w.heap.size + 1) 88 (mt m):=Bx.new (W:=w.alloc (.cells (bk x) 23)) _ _ (by simp);unfold err14;by_cases hm:May x
 case neg =>
  rw [if_neg hm];simp only [if_neg hm] at C1;clear hm C2;go_enter Tryz.func122,Tryz.ntmps122;go_wp2_with (first | refine wpList_load_bk Zv 23 _ rfl _ _ rfl x _ (RB) Tryz.underlying23 rfl Zk ?_ | (go_at_call 38; (with_reducible refine (C1 _).mono ?_); rintro e w1 ⟨rfl,hb1⟩));go_ret;exact ⟨rfl,b_cl (b_al (b_al (Below.refl _ _) Zl _) Zl _) Zl hb1⟩
 rw [if_pos hm];simp only [if_pos hm] at C1;clear hm;by_cases hM:MayM m
 case neg =>
  rw [if_neg hM];simp only [if_neg hM] at C2;clear hM;go_enter Tryz.func122,Tryz.ntmps122;go_wp2_with (first | refine wpList_load_bk Zv 23 _ rfl _ _ rfl x _ (RB) Tryz.underlying23 rfl Zk ?_ | (go_at_call 38; (with_reducible refine (C1 _).mono ?_); rintro e w1 ⟨rfl,hb1⟩; have BM1:=BM.below hb1) | refine wpList_load_box Zv 88 _ rfl (w.heap.size + 1) rfl 88 (mt m) _ BM1 Tryz.underlying88 rfl Zk ?_ | (go_at_call 147; (with_reducible refine (C2 _).mono ?_); rintro e w2 ⟨rfl,hb2⟩));go_ret;exact ⟨rfl,b_cl (b_cl (b_al (b_al (Below.refl _ _) Zl _) Zl _) Zl hb1) Zl hb2⟩
 rw [if_pos hM];simp only [if_pos hM] at C2;clear hM;by_cases h0:k < 0
 case pos =>
  rw [if_pos (Or.inl h0)];have d0:decide (k < 0) = true:=decide_eq_true h0;clear h0;go_enter Tryz.func122,Tryz.ntmps122;go_wp2_with (first | refine wpList_load_bk Zv 23 _ rfl _ _ rfl x _ (RB) Tryz.underlying23 rfl Zk ?_ | (go_at_call 38; (with_reducible refine (C1 _).mono ?_); rintro e w1 ⟨rfl,hb1⟩; have BM1:=BM.below hb1) | refine wpList_load_box Zv 88 _ rfl (w.heap.size + 1) rfl 88 (mt m) _ BM1 Tryz.underlying88 rfl Zk ?_ | (go_at_call 147; (with_reducible refine (C2 _).mono ?_); rintro e w2 ⟨rfl,hb2⟩));go_ret;exact ⟨rfl,b_cl (b_cl (b_al (b_al (Below.refl _ _) Zl _) Zl _) Zl hb1) Zl hb2⟩
 have d0:decide (k < 0) = false:=decide_eq_false h0;by_cases h3:3 < k
 case pos =>
  rw [if_pos (Or.inr h3)];have d3:decide (4 <= k) = true:=decide_eq_true Zo;clear h0 h3;go_enter Tryz.func122,Tryz.ntmps122;go_wp2_with (first | refine wpList_load_bk Zv 23 _ rfl _ _ rfl x _ (RB) Tryz.underlying23 rfl Zk ?_ | (go_at_call 38; (with_reducible refine (C1 _).mono ?_); rintro e w1 ⟨rfl,hb1⟩; have BM1:=BM.below hb1) | refine wpList_load_box Zv 88 _ rfl (w.heap.size + 1) rfl 88 (mt m) _ BM1 Tryz.underlying88 rfl Zk ?_ | (go_at_call 147; (with_reducible refine (C2 _).mono ?_); rintro e w2 ⟨rfl,hb2⟩));go_ret;exact ⟨rfl,b_cl (b_cl (b_al (b_al (Below.refl _ _) Zl _) Zl _) Zl hb1) Zl hb2⟩
 have d3:decide (4 <= k) = false:=decide_eq_false Zo;rw [if_neg Zo];clear h0 h3;go_enter Tryz.func122,Tryz.ntmps122;go_wp2_with (first | refine wpList_load_bk Zv 23 _ rfl _ _ rfl x _ (RB) Tryz.underlying23 rfl Zk ?_ | (go_at_call 38; (with_reducible refine (C1 _).mono ?_); rintro e w1 ⟨rfl,hb1⟩; have BM1:=BM.below hb1) | refine wpList_load_box Zv 88 _ rfl (w.heap.size + 1) rfl 88 (mt m) _ BM1 Tryz.underlying88 rfl Zk ?_ | (go_at_call 147; (with_reducible refine (C2 _).mono ?_); rintro e w2 ⟨rfl,hb2⟩));go_ret;exact ⟨rfl,b_cl (b_cl (b_al (b_al (Below.refl _ _) Zl _) Zl _) Zl hb1) Zl hb2⟩
def zeroF:Nat -> Int:=fun _=>0
set_option maxRecDepth 20000 in
theorem none_any (w:World) :
  Calls Tryz.prog 123 #[] w fun e w'=>e = .returned (.agg (tn noneF)) /\ Below w.heap.size w w':=by
 have B0:Bx (w.alloc (.cells (tn zeroF) 139)) w.heap.size 139 (tn zeroF):=Bx.new _ _ rfl;go_enter Tryz.func123,Tryz.ntmps123
 go_wp2_with (first
  | refine wpList_build_as rfl 139 _ rfl (tn noneF) Zk ?_
  | refine wpList_store_box rfl 139 _ _ rfl w.heap.size (tn noneF) rfl rfl 139 (tn zeroF) B0 Zk rfl (tn_one _) (fun w2 u=>?_))
 refine bodyPost_ret (results_box1 Tryz.results123 _ _ w.heap.size 139 (tn noneF) _ rfl u.box Tryz.underlying139 rfl Zk) rfl ⟨rfl,?_⟩;exact (b_al (Below.refl _ _) Zl _).trans (u.bel _ Zl)
end Go.Proofs.YtiamnbddbmgffaaGreatDoor
