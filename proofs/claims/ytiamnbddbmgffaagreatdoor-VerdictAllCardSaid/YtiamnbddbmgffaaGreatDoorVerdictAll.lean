/- VerdictAll of layer 22 answers true at every input: a case passes just if the rules accept the whole timeline, the plan follows the tasks, and there is room for the loads. Conditions: none beyond the row's own. -/
import Derived.Test.YtiamnbddbmgffaaGreatDoorRows
import Derived.Test.YtiamnbddbmgffaaGreatDoorTie
import Derived.Test.YtiamnbddbmgffaaGreatDoorCards
import Derived.Test.YtiamnbddbmgffaaGreatDoorP39
import Derived.ShutString
import Derived.ChangeOld
namespace Go.Proofs.YtiamnbddbmgffaaGreatDoor.verdictAll
open Go.ChangeMaps (open_string shut_string)
open Go.ChangeShapes Go.WideShapes Go.ChangeAt Go.RowKit
set_option linter.unusedVariables false
theorem own:ownKnob Tryz.prog.godebug = none:=by kernel_rfl
theorem laidOut:laidOutB Tryz.prog = true:=by kernel_rfl
theorem door_met (os:Os) (args:Array Value):laidMetH Tryz.prog Rows.verdictAllRow.laid ((World.doorLaid Tryz.prog 400 os).forCall (fun _ _=>0) ⟨#[],args,[]⟩).memory :=
 laidMetH_of_parts3 (fuel:=8) (laidMet_of_run' 8 Zk Zk) Zk Zk
open Classical in
set_option maxRecDepth 100000 in
set_option maxHeartbeats 4000000 in
theorem walk (w:World) (hl:Laid15 w) (C:Cse) (rd:C.Rd w) (sh:C.Sh) :
  Calls Tryz.prog 4 #[.agg C.cs] w fun e w'=>e = .returned (.bool true) /\ Below w.heap.size w w':=by
 have hB0:Below w.heap.size w (w.alloc (.cells C.cs 30)):=b_al (Below.refl _ _) Zl _;have hX0:Bx (w.alloc (.cells C.cs 30)) w.heap.size 30 C.cs:=Bx.new (W:=w) _ _ rfl;have X0:=Zh hX0;have B0:=Zh hB0;have HR:=Zh rd;have HL:=Zh hl;have CL:=fun W (h:RdK W C.K C.k)=>light19_any C.K C.nk C.ck C.k sh.nk W h
 have k21_0:=hX0.cell (k:=21) (v:=.slice C.K C.nk C.ck) rfl;have lt0:=hX0.lt;by_cases hk:LightK C.k
 case neg =>
  rw [decide_eq_false hk] at CL;clear rd hX0 hB0 hl sh hk;go_enter Tryz.func4,Tryz.ntmps4
  go_wp2_with (first
   | go_skip
   | (go_at_call 14; (with_reducible refine (CL _ (HR.out.below B0.out).task).mono ?_); rintro e w1 ⟨rfl,hb⟩; have X1:=Zh (X0.out.below hb); have B1:=Zh (b_cl B0.out Zl hb); have k19_1:=X1.out.cell (k:=19) (v:=.slice C.A C.n C.c) rfl; have k20_1:=X1.out.cell (k:=20) (v:=.slice C.A2 C.n2 C.c2) rfl; have k25_1:=X1.out.cell (k:=25) (v:=.slice C.L C.nl C.cl) rfl; have k26_1:=X1.out.cell (k:=26) (v:=.int .i64 C.room) rfl; have k21_1:=X1.out.cell (k:=21) (v:=.slice C.K C.nk C.ck) rfl; have lt1:=X1.out.lt; clear hb)
   | (go_at_call 7; (with_reducible refine (alive22_any _ (HL.out.below B1.out)).mono ?_); rintro e w9 ⟨rfl,hb9⟩))
  go_ret;exact ⟨rfl,b_cl B1.out Zl hb9⟩
 rw [decide_eq_true hk] at CL;by_cases g1:60 < C.n
 ·have g1':(60:Int) < (C.n:Int):=by omega
  clear rd hX0 hB0 hl sh hk;go_enter Tryz.func4,Tryz.ntmps4
  go_wp2_with (first
   | go_skip
   | (go_at_call 14; (with_reducible refine (CL _ (HR.out.below B0.out).task).mono ?_); rintro e w1 ⟨rfl,hb⟩; have X1:=Zh (X0.out.below hb); have B1:=Zh (b_cl B0.out Zl hb); have k19_1:=X1.out.cell (k:=19) (v:=.slice C.A C.n C.c) rfl; have k20_1:=X1.out.cell (k:=20) (v:=.slice C.A2 C.n2 C.c2) rfl; have k25_1:=X1.out.cell (k:=25) (v:=.slice C.L C.nl C.cl) rfl; have k26_1:=X1.out.cell (k:=26) (v:=.int .i64 C.room) rfl; have k21_1:=X1.out.cell (k:=21) (v:=.slice C.K C.nk C.ck) rfl; have lt1:=X1.out.lt; clear hb)
   | (go_at_call 7; (with_reducible refine (alive22_any _ (HL.out.below B1.out)).mono ?_); rintro e w9 ⟨rfl,hb9⟩))
  go_ret;exact ⟨rfl,b_cl B1.out Zl hb9⟩
 have g1':¬ (60:Int) < (C.n:Int):=by omega
 by_cases g2:60 < C.n2
 ·have g2':(60:Int) < (C.n2:Int):=by omega
  clear rd hX0 hB0 hl sh hk;go_enter Tryz.func4,Tryz.ntmps4
  go_wp2_with (first
   | go_skip
   | (go_at_call 14; (with_reducible refine (CL _ (HR.out.below B0.out).task).mono ?_); rintro e w1 ⟨rfl,hb⟩; have X1:=Zh (X0.out.below hb); have B1:=Zh (b_cl B0.out Zl hb); have k19_1:=X1.out.cell (k:=19) (v:=.slice C.A C.n C.c) rfl; have k20_1:=X1.out.cell (k:=20) (v:=.slice C.A2 C.n2 C.c2) rfl; have k25_1:=X1.out.cell (k:=25) (v:=.slice C.L C.nl C.cl) rfl; have k26_1:=X1.out.cell (k:=26) (v:=.int .i64 C.room) rfl; have k21_1:=X1.out.cell (k:=21) (v:=.slice C.K C.nk C.ck) rfl; have lt1:=X1.out.lt; clear hb)
   | (go_at_call 7; (with_reducible refine (alive22_any _ (HL.out.below B1.out)).mono ?_); rintro e w9 ⟨rfl,hb9⟩))
  go_ret;exact ⟨rfl,b_cl B1.out Zl hb9⟩
 have g2':¬ (60:Int) < (C.n2:Int):=by omega
 by_cases g3:100 < C.nl
 ·have g3':(100:Int) < (C.nl:Int):=by omega
  clear rd hX0 hB0 hl sh hk;go_enter Tryz.func4,Tryz.ntmps4
  go_wp2_with (first
   | go_skip
   | (go_at_call 14; (with_reducible refine (CL _ (HR.out.below B0.out).task).mono ?_); rintro e w1 ⟨rfl,hb⟩; have X1:=Zh (X0.out.below hb); have B1:=Zh (b_cl B0.out Zl hb); have k19_1:=X1.out.cell (k:=19) (v:=.slice C.A C.n C.c) rfl; have k20_1:=X1.out.cell (k:=20) (v:=.slice C.A2 C.n2 C.c2) rfl; have k25_1:=X1.out.cell (k:=25) (v:=.slice C.L C.nl C.cl) rfl; have k26_1:=X1.out.cell (k:=26) (v:=.int .i64 C.room) rfl; have k21_1:=X1.out.cell (k:=21) (v:=.slice C.K C.nk C.ck) rfl; have lt1:=X1.out.lt; clear hb)
   | (go_at_call 7; (with_reducible refine (alive22_any _ (HL.out.below B1.out)).mono ?_); rintro e w9 ⟨rfl,hb9⟩))
  go_ret;exact ⟨rfl,b_cl B1.out Zl hb9⟩
 have g3':¬ (100:Int) < (C.nl:Int):=by omega
 have hO:C.Ok:=⟨sh,hk.few,by omega,by omega⟩;have CW:=fun W (h:C.Rd W)=>refwhole22_any C W h hO
 have hwl:=Cse.whole_len hO;obtain ⟨nw,hn⟩:∃ nw,C.whole.length = nw:=⟨_,rfl⟩;rw [hn] at CW hwl;have CA:=fun (A:Option Addr) (c:Nat) W (h:RdR W A C.whole)=>accepts16_any C.x A c nw C.whole W hn h Zo
 obtain ⟨⟨p,fl,er⟩,hV⟩:∃ X,audV C.k (C.i,C.a,C.b) C.l2 = X:=⟨_,rfl⟩;have CT:=fun W (h:C.Rd W)=>follows20_any C.K C.nk C.ck C.k hO.nk C.i C.a C.b C.A2 C.n2 C.c2 C.l2 hO.n2 W h.task hO.few hO.ck hO.zk hO.a hO.b h.plan Zo hV
 have CF:=fun W (h:RdN W C.L C.ns)=>fits21_any C.room C.L C.cl C.nl C.ns W (Zh hO.nl) h
 have CS:=fun W (h:C.Rd W)=>passes22_any C W h hO
 rw [Cse.pass_is C hV] at CS;generalize acceptsV C.x C.whole = t1 at *;generalize decide (er = 0 /\ fl = []) = t2 at *;generalize fitsE C.room C.ns = t3 at *;clear rd hX0 hB0 hl sh hk hO hV hwl
 cases t1 with
 | false =>
  rw [show (false && t2 && t3) = false from rfl] at CS;go_enter Tryz.func4,Tryz.ntmps4
  go_upto_region 3 with (first
   | go_skip
   | (go_at_call 14; (with_reducible refine (CL _ (HR.out.below B0.out).task).mono ?_); rintro e w1 ⟨rfl,hb⟩; have X1:=Zh (X0.out.below hb); have B1:=Zh (b_cl B0.out Zl hb); have k19_1:=X1.out.cell (k:=19) (v:=.slice C.A C.n C.c) rfl; have k20_1:=X1.out.cell (k:=20) (v:=.slice C.A2 C.n2 C.c2) rfl; have k25_1:=X1.out.cell (k:=25) (v:=.slice C.L C.nl C.cl) rfl; have k26_1:=X1.out.cell (k:=26) (v:=.int .i64 C.room) rfl; have k21_1:=X1.out.cell (k:=21) (v:=.slice C.K C.nk C.ck) rfl; have lt1:=X1.out.lt; clear hb))
  (try go_frame);refine wp_region_noPanic ?_;refine wp_region_held_drew (S:=fun w'=>Below w1.heap.size w1 w') Zk ?_ (fun hHeld=>?_)
  ·exact b_dr (Below.refl _ _)
  refine Zt 0 (some 27) ?_;(try simp only [Zs]);refine Zt 1 (some 28) (v:=.agg (bk C.x)) (hy:=fun w' hSw=>exec_load_of17 (w.heap.size) 0 (bk C.x) _ w' rfl rfl (Cse.rdi (X1.out.below hSw)).range Tryz.underlying23 rfl (by rw [bk_size]; kernel_rfl)) ?_;(try simp only [Zs]);refine Zt 2 (some 29) (v:=.agg C.cs) (hy:=fun w' hSw=>exec_load_box (w.heap.size) 30 C.cs _ w' rfl rfl (X1.out.below hSw) Tryz.underlying30 rfl (by rw [C.size]; kernel_rfl)) ?_;(try simp only [Zs]);refine Zr 3 (some 30) fun K hK=>?_
  go_simp;(go_at_call 16; (with_reducible refine (CW _ (HR.out.below (b_cl B1.out Zl hHeld))).mono ?_); rintro e w2 ⟨AW,mW,cW,rfl,rfl,hr2,hb2⟩; have W2:=Zh hr2; clear hr2);go_wp2_with fail;refine hK.out _ _ (b_cl hHeld Zl Zm) (fun hHeld=>?_);clear hK K;(try simp only [Zs]);refine Zr 4 (some 31) fun K hK=>?_
  go_simp;(go_at_call 15; (with_reducible refine (CA AW cW _ W2.out).mono ?_); rintro e w3 ⟨rfl,hb3⟩);go_wp2_with fail;refine hK.out _ _ (b_cl hHeld Zl Zm) (fun hHeld=>?_);clear hK K;(try simp only [Zs]);refine Zt 5 (some 32) ?_;(try simp only [Zs]);refine Zu 6 (some 33) ?_;(try simp only [Zs]);refine Zu 7 (some 34) ?_;(try simp only [Zs]);refine Zu 8 (some 35) ?_;(try simp only [Zs]);refine Zu 9 (some 36) ?_;(try simp only [Zs]);refine Zu 10 (some 37) ?_;(try simp only [Zs]);refine Zu 11 (some 38) ?_;(try simp only [Zs]);refine Zu 12 (some 39) ?_;(try simp only [Zs]);refine Zt 13 (some 40) ?_;(try simp only [Zs]);refine Zt 14 (some 41) ?_;(try simp only [Zs]);refine Zu 15 (some 42) ?_;(try simp only [Zs]);refine Zu 16 (some 43) ?_;(try simp only [Zs]);refine Zu 17 (some 44) ?_;(try simp only [Zs]);refine Zu 18 (some 45) ?_;(try simp only [Zs]);refine Zu 19 (some 46) ?_;(try simp only [Zs]);refine Zt 20 (some 47) ?_;(try simp only [Zs]);refine Zt 21 (some 3) ?_;(try simp only [Zs]);refine wpAnyH_done Zk ?_ _;refine NoPanic.normal ?_;have B6:=Zh (b_cl B1.out Zl hHeld);have X6:=Zh (X1.out.below hHeld);clear hHeld
  go_wp2_with (first
   | go_skip
   | (refine wpList_load_box Zv 30 _ rfl w.heap.size rfl 30 C.cs _ X6.out Tryz.underlying30 rfl (by rw [C.size]; kernel_rfl) ?_)
   | (go_at_call 13; (with_reducible refine (CS _ (HR.out.below B6.out)).mono ?_); rintro e w7 ⟨rfl,hb⟩; have B7:=Zh (b_cl B6.out Zl hb); clear hb)
   | (go_at_call 7; (with_reducible refine (alive22_any _ (HL.out.below B7.out)).mono ?_); rintro e w9 ⟨rfl,hb9⟩))
  go_ret;exact ⟨by first | rfl | simp,b_cl B7.out Zl hb9⟩
 | true =>
  cases t2 with
  | false =>
   rw [show (true && false && t3) = false from rfl] at CS;go_enter Tryz.func4,Tryz.ntmps4
   go_upto_region 3 with (first
    | go_skip
    | (go_at_call 14; (with_reducible refine (CL _ (HR.out.below B0.out).task).mono ?_); rintro e w1 ⟨rfl,hb⟩; have X1:=Zh (X0.out.below hb); have B1:=Zh (b_cl B0.out Zl hb); have k19_1:=X1.out.cell (k:=19) (v:=.slice C.A C.n C.c) rfl; have k20_1:=X1.out.cell (k:=20) (v:=.slice C.A2 C.n2 C.c2) rfl; have k25_1:=X1.out.cell (k:=25) (v:=.slice C.L C.nl C.cl) rfl; have k26_1:=X1.out.cell (k:=26) (v:=.int .i64 C.room) rfl; have k21_1:=X1.out.cell (k:=21) (v:=.slice C.K C.nk C.ck) rfl; have lt1:=X1.out.lt; clear hb))
   (try go_frame);refine wp_region_noPanic ?_;refine wp_region_held_drew (S:=fun w'=>Below w1.heap.size w1 w') Zk ?_ (fun hHeld=>?_)
   ·exact b_dr (Below.refl _ _)
   refine Zt 0 (some 27) ?_;(try simp only [Zs]);refine Zt 1 (some 28) (v:=.agg (bk C.x)) (hy:=fun w' hSw=>exec_load_of17 (w.heap.size) 0 (bk C.x) _ w' rfl rfl (Cse.rdi (X1.out.below hSw)).range Tryz.underlying23 rfl (by rw [bk_size]; kernel_rfl)) ?_;(try simp only [Zs]);refine Zt 2 (some 29) (v:=.agg C.cs) (hy:=fun w' hSw=>exec_load_box (w.heap.size) 30 C.cs _ w' rfl rfl (X1.out.below hSw) Tryz.underlying30 rfl (by rw [C.size]; kernel_rfl)) ?_;(try simp only [Zs]);refine Zr 3 (some 30) fun K hK=>?_
   go_simp;(go_at_call 16; (with_reducible refine (CW _ (HR.out.below (b_cl B1.out Zl hHeld))).mono ?_); rintro e w2 ⟨AW,mW,cW,rfl,rfl,hr2,hb2⟩; have W2:=Zh hr2; clear hr2);go_wp2_with fail;refine hK.out _ _ (b_cl hHeld Zl Zm) (fun hHeld=>?_);clear hK K;(try simp only [Zs]);refine Zr 4 (some 31) fun K hK=>?_
   go_simp;(go_at_call 15; (with_reducible refine (CA AW cW _ W2.out).mono ?_); rintro e w3 ⟨rfl,hb3⟩);go_wp2_with fail;refine hK.out _ _ (b_cl hHeld Zl Zm) (fun hHeld=>?_);clear hK K;(try simp only [Zs]);refine Zt 5 (some 32) ?_;(try simp only [Zs]);refine Zt 6 (some 33) ?_;(try simp only [Zs]);refine Zt 7 (some 34) (hy:=by intro w' hSw; have q:=c_cl k21_1 hSw; clear hSw; go_simp; try (with_reducible rfl)) ?_;(try simp only [Zs]);refine Zt 8 (some 35) ?_;(try simp only [Zs]);refine Zt 9 (some 36) (v:=.agg #[.int .i64 C.i,.int .i64 C.a,.int .i64 C.b]) (hy:=fun w' hSw=>exec_load_of17 (w.heap.size) 22 #[.int .i64 C.i,.int .i64 C.a,.int .i64 C.b] _ w' rfl rfl (Cse.spot (X1.out.below hSw)) Tryz.underlying27 rfl Zk) ?_;(try simp only [Zs]);refine Zt 10 (some 37) ?_;(try simp only [Zs]);refine Zt 11 (some 38) (hy:=by intro w' hSw; have q:=c_cl k20_1 hSw; clear hSw; go_simp; try (with_reducible rfl)) ?_;(try simp only [Zs]);refine Zr 12 (some 39) fun K hK=>?_
   go_simp;(go_at_call 17; (with_reducible refine (CT _ (HR.out.below (b_cl B1.out Zl hHeld))).mono ?_); rintro e w4 ⟨rfl,hb4⟩);go_wp2_with fail;refine hK.out _ _ (b_cl hHeld Zl Zm) (fun hHeld=>?_);clear hK K;(try simp only [Zs]);refine Zt 13 (some 40) ?_;(try simp only [Zs]);refine Zt 14 (some 41) ?_;(try simp only [Zs]);refine Zu 15 (some 42) ?_;(try simp only [Zs]);refine Zu 16 (some 43) ?_;(try simp only [Zs]);refine Zu 17 (some 44) ?_;(try simp only [Zs]);refine Zu 18 (some 45) ?_;(try simp only [Zs]);refine Zu 19 (some 46) ?_;(try simp only [Zs]);refine Zt 20 (some 47) ?_;(try simp only [Zs]);refine Zt 21 (some 3) ?_;(try simp only [Zs]);refine wpAnyH_done Zk ?_ _;refine NoPanic.normal ?_;have B6:=Zh (b_cl B1.out Zl hHeld);have X6:=Zh (X1.out.below hHeld);clear hHeld
   go_wp2_with (first
    | go_skip
    | (refine wpList_load_box Zv 30 _ rfl w.heap.size rfl 30 C.cs _ X6.out Tryz.underlying30 rfl (by rw [C.size]; kernel_rfl) ?_)
    | (go_at_call 13; (with_reducible refine (CS _ (HR.out.below B6.out)).mono ?_); rintro e w7 ⟨rfl,hb⟩; have B7:=Zh (b_cl B6.out Zl hb); clear hb)
    | (go_at_call 7; (with_reducible refine (alive22_any _ (HL.out.below B7.out)).mono ?_); rintro e w9 ⟨rfl,hb9⟩))
   go_ret;exact ⟨by first | rfl | simp,b_cl B7.out Zl hb9⟩
  | true =>
   rw [show (true && true && t3) = t3 from rfl] at CS;have tt:(t3 == t3) = true:=by simp
   go_enter Tryz.func4,Tryz.ntmps4
   go_upto_region 3 with (first
    | go_skip
    | (go_at_call 14; (with_reducible refine (CL _ (HR.out.below B0.out).task).mono ?_); rintro e w1 ⟨rfl,hb⟩; have X1:=Zh (X0.out.below hb); have B1:=Zh (b_cl B0.out Zl hb); have k19_1:=X1.out.cell (k:=19) (v:=.slice C.A C.n C.c) rfl; have k20_1:=X1.out.cell (k:=20) (v:=.slice C.A2 C.n2 C.c2) rfl; have k25_1:=X1.out.cell (k:=25) (v:=.slice C.L C.nl C.cl) rfl; have k26_1:=X1.out.cell (k:=26) (v:=.int .i64 C.room) rfl; have k21_1:=X1.out.cell (k:=21) (v:=.slice C.K C.nk C.ck) rfl; have lt1:=X1.out.lt; clear hb))
   (try go_frame);refine wp_region_noPanic ?_;refine wp_region_held_drew (S:=fun w'=>Below w1.heap.size w1 w') Zk ?_ (fun hHeld=>?_)
   ·exact b_dr (Below.refl _ _)
   refine Zt 0 (some 27) ?_;(try simp only [Zs]);refine Zt 1 (some 28) (v:=.agg (bk C.x)) (hy:=fun w' hSw=>exec_load_of17 (w.heap.size) 0 (bk C.x) _ w' rfl rfl (Cse.rdi (X1.out.below hSw)).range Tryz.underlying23 rfl (by rw [bk_size]; kernel_rfl)) ?_;(try simp only [Zs]);refine Zt 2 (some 29) (v:=.agg C.cs) (hy:=fun w' hSw=>exec_load_box (w.heap.size) 30 C.cs _ w' rfl rfl (X1.out.below hSw) Tryz.underlying30 rfl (by rw [C.size]; kernel_rfl)) ?_;(try simp only [Zs]);refine Zr 3 (some 30) fun K hK=>?_
   go_simp;(go_at_call 16; (with_reducible refine (CW _ (HR.out.below (b_cl B1.out Zl hHeld))).mono ?_); rintro e w2 ⟨AW,mW,cW,rfl,rfl,hr2,hb2⟩; have W2:=Zh hr2; clear hr2);go_wp2_with fail;refine hK.out _ _ (b_cl hHeld Zl Zm) (fun hHeld=>?_);clear hK K;(try simp only [Zs]);refine Zr 4 (some 31) fun K hK=>?_
   go_simp;(go_at_call 15; (with_reducible refine (CA AW cW _ W2.out).mono ?_); rintro e w3 ⟨rfl,hb3⟩);go_wp2_with fail;refine hK.out _ _ (b_cl hHeld Zl Zm) (fun hHeld=>?_);clear hK K;(try simp only [Zs]);refine Zt 5 (some 32) ?_;(try simp only [Zs]);refine Zt 6 (some 33) ?_;(try simp only [Zs]);refine Zt 7 (some 34) (hy:=by intro w' hSw; have q:=c_cl k21_1 hSw; clear hSw; go_simp; try (with_reducible rfl)) ?_;(try simp only [Zs]);refine Zt 8 (some 35) ?_;(try simp only [Zs]);refine Zt 9 (some 36) (v:=.agg #[.int .i64 C.i,.int .i64 C.a,.int .i64 C.b]) (hy:=fun w' hSw=>exec_load_of17 (w.heap.size) 22 #[.int .i64 C.i,.int .i64 C.a,.int .i64 C.b] _ w' rfl rfl (Cse.spot (X1.out.below hSw)) Tryz.underlying27 rfl Zk) ?_;(try simp only [Zs]);refine Zt 10 (some 37) ?_;(try simp only [Zs]);refine Zt 11 (some 38) (hy:=by intro w' hSw; have q:=c_cl k20_1 hSw; clear hSw; go_simp; try (with_reducible rfl)) ?_;(try simp only [Zs]);refine Zr 12 (some 39) fun K hK=>?_
   go_simp;(go_at_call 17; (with_reducible refine (CT _ (HR.out.below (b_cl B1.out Zl hHeld))).mono ?_); rintro e w4 ⟨rfl,hb4⟩);go_wp2_with fail;refine hK.out _ _ (b_cl hHeld Zl Zm) (fun hHeld=>?_);clear hK K;(try simp only [Zs]);refine Zt 13 (some 40) ?_;(try simp only [Zs]);refine Zt 14 (some 41) ?_;(try simp only [Zs]);refine Zt 15 (some 42) ?_;(try simp only [Zs]);refine Zt 16 (some 43) (hy:=by intro w' hSw; have q:=c_cl k26_1 hSw; clear hSw; go_simp; try (with_reducible rfl)) ?_;(try simp only [Zs]);refine Zt 17 (some 44) ?_;(try simp only [Zs]);refine Zt 18 (some 45) (hy:=by intro w' hSw; have q:=c_cl k25_1 hSw; clear hSw; go_simp; try (with_reducible rfl)) ?_;(try simp only [Zs]);refine Zr 19 (some 46) fun K hK=>?_
   go_simp;(go_at_call 18; (with_reducible refine (CF _ (HR.out.below (b_cl B1.out Zl hHeld)).load).mono ?_); rintro e w5 ⟨rfl,hb5⟩);go_wp2_with fail;refine hK.out _ _ (b_cl hHeld Zl Zm) (fun hHeld=>?_);clear hK K;(try simp only [Zs]);refine Zt 20 (some 47) ?_;(try simp only [Zs]);refine Zt 21 (some 3) ?_;(try simp only [Zs]);refine wpAnyH_done Zk ?_ _;refine NoPanic.normal ?_;have B6:=Zh (b_cl B1.out Zl hHeld);have X6:=Zh (X1.out.below hHeld);clear hHeld
   go_wp2_with (first
    | go_skip
    | (refine wpList_load_box Zv 30 _ rfl w.heap.size rfl 30 C.cs _ X6.out Tryz.underlying30 rfl (by rw [C.size]; kernel_rfl) ?_)
    | (go_at_call 13; (with_reducible refine (CS _ (HR.out.below B6.out)).mono ?_); rintro e w7 ⟨rfl,hb⟩; have B7:=Zh (b_cl B6.out Zl hb); clear hb)
    | (go_at_call 7; (with_reducible refine (alive22_any _ (HL.out.below B7.out)).mono ?_); rintro e w9 ⟨rfl,hb9⟩))
   go_ret;exact ⟨by first | rfl | simp,b_cl B7.out Zl hb9⟩
set_option maxRecDepth 100000 in
theorem lifted (os:Os) (started:os.Started) (H:Type) (enc:TypeId × Value -> H) :
  ReturnsInHanded {} Tryz.checked os 4 .any (fun w args=>(Rows.verdictAllSpec.pre enc Tryz.prog Tryz.f4 [] false w args /\ laidMetH Tryz.prog Rows.verdictAllRow.laid w) /\ sizedMet enc Tryz.prog Tryz.f4 (OpenSpec.ofChange Rows.verdictAllSpec) false w args)
   (Rows.verdictAllSpec.post enc Tryz.prog Tryz.f4 false true false false):=by
 refine returns_laid (C:=Tryz.checked) (X:=fun w _=>laidMetH Tryz.prog Rows.verdictAllRow.laid w) (fun _ _ _ hh h=>h.of_heap hh) own started Zk Tryz.func4
  (ChangeSpec.witness_shaped (enc:=enc) (C:=Tryz.checked) (os:=os) (X:=fun w _=>laidMetH Tryz.prog Rows.verdictAllRow.laid w) false (World.doorLaid Tryz.prog 400 os) #[.agg #[.int .i64 0,.int .i64 0,.int .i64 0,.int .i64 0,.int .i64 0,.int .i64 0,.int .i64 0,.int .i64 0,.int .i64 0,.int .i64 0,.int .i64 0,.int .i64 0,.int .i64 0,.int .i64 0,.int .i64 0,.int .i64 0,.int .i64 0,.int .i64 0,.int .i64 0,.slice none 0 0,.slice none 0 0,.slice none 0 0,.int .i64 0,.int .i64 0,.int .i64 0,.slice none 0 0,.int .i64 0]] 8 rfl (World.shaped_of_RefB Zk Zk) Zk Zk Zk (door_met os _)) ?_
 intro W base args ds gs before hsh hval0 hW hL;have hval:∀ (j:Nat) t v,Tryz.f4.params[j]? = some t -> args[j]? = some v -> Value.okWide Tryz.prog W .any base t v:=hval0;have hW':=hW;obtain ⟨p,q,hA0,hV,rfl,hfz,hnd⟩:=hW;have hA:DataW.TrodAll enc Tryz.prog W 0 (fun _=>true) true Tryz.f4.params.toList args.toList ds p:=hA0;rw [Tryz.params4] at hA hval;obtain ⟨v0,vs0,d0,ds0,p0,q0,hargs,rfl,rfl,h0,r0⟩:=trodAll_cons hA;obtain ⟨rfl,rfl,rfl⟩:=trodAll_nil r0;obtain rfl:args = #[v0]:=by cases args; simp_all
 obtain ⟨rfl,rfl⟩:=trodVars_none hV;have k0:=h0;have lt0:∀ x ∈ p0,x.block < W.heap.size:=by obtain ⟨m,hm⟩:=k0; exact DataW.trod_lt m _ _ _ hm
 obtain ⟨C,rfl,rd,sh⟩:=open_case (hval 0 30 v0 rfl rfl) h0;clear hA0 hval0;simp only [List.append_nil] at hW';refine (walk W (laid15_of hL Zk (by simp [Rows.verdictAllRow]) (by simp [Rows.verdictAllRow])) C rd sh).mono fun e W' ⟨he,bel⟩=>?_
 subst he;exact ⟨_,rfl,_,_,_,[],_,[],hW',trodAll_mk1 (shut_bool Tryz.underlying4 _),(trodAll_cons_mk (Below.trod laidOut Zk (of_decide_eq_true Zk) k0 bel lt0) trodAll_mk0),rfl,bel.frame _,fun h=>by cases h⟩
theorem over:Rows.VerdictAllSaid :=
 OpenClaim.holds_of_wide 4 Tryz.f4 rfl rfl rfl rfl rfl rfl rfl ⟨rfl,rfl,rfl,rfl,rfl⟩ rfl rfl rfl rfl rfl Zk Tryz.func4 Zk
  (of_decide_eq_true Zk) (by unfold Func.isWrapper; first | (rw [if_pos (by decide +kernel)]; kernel_rfl) | (rw [if_neg (by decide +kernel)]; exact ⟨rfl,rfl⟩))
  (fun os started H enc _=>lifted os started H enc)
theorem proved:Rows.VerdictAllCardSaid :=
 Claim7.holds_tied_plain_at .later [] _ true _ _ over (fun _ h=>by cases h) Zk (fun _ h=>by cases h) verdictAll_row_tie rfl ⟨rfl,rfl⟩ Zk rfl
  (fun f fn hf hfn=>by
   obtain rfl:f = 4:=Option.some.inj ((show Tryz.prog.funcNamed "haulier/haulierlaw22.VerdictAll" = some 4 by kernel_rfl).symm.trans hf) |>.symm;obtain rfl:fn = Tryz.f4:=(Option.some.inj (Tryz.func4.symm.trans hfn)).symm
   exact ⟨by kernel_rfl,fun j t ht=>by
    rw [Tryz.params4] at ht;have hm:t ∈ [30]:=by simpa using Array.mem_of_getElem? ht
    have hall:([30].all fun u=>!Tryz.prog.wantsStandIn u) = true:=by kernel_rfl
    exact (show Tryz.prog.wantsStandIn t = false by simpa using List.all_eq_true.1 hall t hm)⟩)
  Zk
#print axioms proved
end Go.Proofs.YtiamnbddbmgffaaGreatDoor.verdictAll
