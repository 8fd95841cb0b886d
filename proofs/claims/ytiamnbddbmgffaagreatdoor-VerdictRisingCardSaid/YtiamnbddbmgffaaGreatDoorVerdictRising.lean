/- VerdictRising of layer 22 answers true at every input: findings rise by clause, each clause once; none lies beyond the whole timeline. Conditions: none beyond the row's own. -/
import Derived.Test.YtiamnbddbmgffaaGreatDoorRows
import Derived.Test.YtiamnbddbmgffaaGreatDoorTie
import Derived.Test.YtiamnbddbmgffaaGreatDoorCards
import Derived.Test.YtiamnbddbmgffaaGreatDoorP39
import Derived.ShutString
import Derived.ChangeOld
namespace Go.Proofs.YtiamnbddbmgffaaGreatDoor.verdictRising
open Go.ChangeMaps (open_string shut_string)
open Go.ChangeShapes Go.WideShapes Go.ChangeAt Go.RowKit
set_option linter.unusedVariables false
theorem own:ownKnob Tryz.prog.godebug = none:=by kernel_rfl
theorem laidOut:laidOutB Tryz.prog = true:=by kernel_rfl
theorem door_met (os:Os) (args:Array Value):laidMetH Tryz.prog Rows.verdictRisingRow.laid ((World.doorLaid Tryz.prog 400 os).forCall (fun _ _=>0) ⟨#[],args,[]⟩).memory :=
 laidMetH_of_parts3 (fuel:=8) (laidMet_of_run' 8 Zk Zk) Zk Zk
theorem endT_take {l:List Rc} {k:Nat} {x y z:Int} (hk:k < l.length) (h:l.getD k rz = (x,y,z)):endT (l.take (k + 1)) = z:=by
 unfold endT
 have hne:l.take (k + 1) ≠ []:=by
  intro c;have:=congrArg List.length c;rw [List.length_take,List.length_nil] at this;omega
 rw [if_neg hne];refine fin_last (k:=k) (x:=x) (y:=y) (by rw [List.length_take]; omega) ?_;rw [List.getD_eq_getElem?_getD] at h ⊢;rw [List.getElem?_take,if_pos Zo];exact h
open Classical in
set_option maxRecDepth 100000 in
set_option maxHeartbeats 4000000 in
theorem walk (w:World) (hl:Laid15 w) (C:Cse) (rd:C.Rd w) (sh:C.Sh) :
  Calls Tryz.prog 5 #[.agg C.cs] w fun e w'=>e = .returned (.bool true) /\ Below w.heap.size w w':=by
 have hB0:Below w.heap.size w (w.alloc (.cells C.cs 30)):=b_al (Below.refl _ _) Zl _;have hX0:Bx (w.alloc (.cells C.cs 30)) w.heap.size 30 C.cs:=Bx.new (W:=w) _ _ rfl;have X0:=Zh hX0;have B0:=Zh hB0;have HR:=Zh rd;have HL:=Zh hl;have CL:=fun W (h:RdK W C.K C.k)=>light19_any C.K C.nk C.ck C.k sh.nk W h
 have k21_0:=hX0.cell (k:=21) (v:=.slice C.K C.nk C.ck) rfl;have lt0:=hX0.lt;by_cases hk:LightK C.k
 case neg =>
  rw [decide_eq_false hk] at CL;clear rd hX0 hB0 hl sh hk;go_enter Tryz.func5,Tryz.ntmps5
  go_wp2_with (first
   | go_skip
   | (go_at_call 14; (with_reducible refine (CL _ (HR.out.below B0.out).task).mono ?_); rintro e w1 ⟨rfl,hb⟩; have X1:=Zh (X0.out.below hb); have B1:=Zh (b_cl B0.out Zl hb); have k19_1:=X1.out.cell (k:=19) (v:=.slice C.A C.n C.c) rfl; have k20_1:=X1.out.cell (k:=20) (v:=.slice C.A2 C.n2 C.c2) rfl; have k25_1:=X1.out.cell (k:=25) (v:=.slice C.L C.nl C.cl) rfl; have k26_1:=X1.out.cell (k:=26) (v:=.int .i64 C.room) rfl; have k21_1:=X1.out.cell (k:=21) (v:=.slice C.K C.nk C.ck) rfl; have lt1:=X1.out.lt; clear hb)
   | (go_at_call 7; (with_reducible refine (alive22_any _ (HL.out.below B1.out)).mono ?_); rintro e w9 ⟨rfl,hb9⟩))
  go_ret;exact ⟨rfl,b_cl B1.out Zl hb9⟩
 rw [decide_eq_true hk] at CL;by_cases g1:60 < C.n
 ·have g1':(60:Int) < (C.n:Int):=by omega
  clear rd hX0 hB0 hl sh hk;go_enter Tryz.func5,Tryz.ntmps5
  go_wp2_with (first
   | go_skip
   | (go_at_call 14; (with_reducible refine (CL _ (HR.out.below B0.out).task).mono ?_); rintro e w1 ⟨rfl,hb⟩; have X1:=Zh (X0.out.below hb); have B1:=Zh (b_cl B0.out Zl hb); have k19_1:=X1.out.cell (k:=19) (v:=.slice C.A C.n C.c) rfl; have k20_1:=X1.out.cell (k:=20) (v:=.slice C.A2 C.n2 C.c2) rfl; have k25_1:=X1.out.cell (k:=25) (v:=.slice C.L C.nl C.cl) rfl; have k26_1:=X1.out.cell (k:=26) (v:=.int .i64 C.room) rfl; have k21_1:=X1.out.cell (k:=21) (v:=.slice C.K C.nk C.ck) rfl; have lt1:=X1.out.lt; clear hb)
   | (go_at_call 7; (with_reducible refine (alive22_any _ (HL.out.below B1.out)).mono ?_); rintro e w9 ⟨rfl,hb9⟩))
  go_ret;exact ⟨rfl,b_cl B1.out Zl hb9⟩
 have g1':¬ (60:Int) < (C.n:Int):=by omega
 by_cases g2:60 < C.n2
 ·have g2':(60:Int) < (C.n2:Int):=by omega
  clear rd hX0 hB0 hl sh hk;go_enter Tryz.func5,Tryz.ntmps5
  go_wp2_with (first
   | go_skip
   | (go_at_call 14; (with_reducible refine (CL _ (HR.out.below B0.out).task).mono ?_); rintro e w1 ⟨rfl,hb⟩; have X1:=Zh (X0.out.below hb); have B1:=Zh (b_cl B0.out Zl hb); have k19_1:=X1.out.cell (k:=19) (v:=.slice C.A C.n C.c) rfl; have k20_1:=X1.out.cell (k:=20) (v:=.slice C.A2 C.n2 C.c2) rfl; have k25_1:=X1.out.cell (k:=25) (v:=.slice C.L C.nl C.cl) rfl; have k26_1:=X1.out.cell (k:=26) (v:=.int .i64 C.room) rfl; have k21_1:=X1.out.cell (k:=21) (v:=.slice C.K C.nk C.ck) rfl; have lt1:=X1.out.lt; clear hb)
   | (go_at_call 7; (with_reducible refine (alive22_any _ (HL.out.below B1.out)).mono ?_); rintro e w9 ⟨rfl,hb9⟩))
  go_ret;exact ⟨rfl,b_cl B1.out Zl hb9⟩
 have g2':¬ (60:Int) < (C.n2:Int):=by omega
 by_cases g3:100 < C.nl
 ·have g3':(100:Int) < (C.nl:Int):=by omega
  clear rd hX0 hB0 hl sh hk;go_enter Tryz.func5,Tryz.ntmps5
  go_wp2_with (first
   | go_skip
   | (go_at_call 14; (with_reducible refine (CL _ (HR.out.below B0.out).task).mono ?_); rintro e w1 ⟨rfl,hb⟩; have X1:=Zh (X0.out.below hb); have B1:=Zh (b_cl B0.out Zl hb); have k19_1:=X1.out.cell (k:=19) (v:=.slice C.A C.n C.c) rfl; have k20_1:=X1.out.cell (k:=20) (v:=.slice C.A2 C.n2 C.c2) rfl; have k25_1:=X1.out.cell (k:=25) (v:=.slice C.L C.nl C.cl) rfl; have k26_1:=X1.out.cell (k:=26) (v:=.int .i64 C.room) rfl; have k21_1:=X1.out.cell (k:=21) (v:=.slice C.K C.nk C.ck) rfl; have lt1:=X1.out.lt; clear hb)
   | (go_at_call 7; (with_reducible refine (alive22_any _ (HL.out.below B1.out)).mono ?_); rintro e w9 ⟨rfl,hb9⟩))
  go_ret;exact ⟨rfl,b_cl B1.out Zl hb9⟩
 have g3':¬ (100:Int) < (C.nl:Int):=by omega
 have hO:C.Ok:=⟨sh,hk.few,by omega,by omega⟩;have CA0:=fun W (h:C.Rd W)=>audit22_any C W h hO
 by_cases he:C.err = 0
 case neg =>
  have hf:C.found = []:=by unfold Cse.found; rw [if_neg he]
  have hp:C.pass = false:=by unfold Cse.pass; rw [show (C.err == 0) = false by simpa using he]; rfl
  have CS:=fun W (h:C.Rd W)=>passes22_any C W h hO
  rw [hp] at CS;have CA:∀ W,C.Rd W -> Calls Tryz.prog 8 #[.agg C.cs] W fun e w'=>∃ A' c',e = .returned (.tuple #[.slice A' 0 c',.int .i64 C.err]) /\ True /\ Below W.heap.size W w':=fun W h=>(CA0 W h).mono fun e w' ⟨A',m',c',h1,h2,h3,_,h5⟩=>⟨A',c',by rw [h1,<- h2,hf]; rfl,trivial,h5⟩
  have e1:(C.err == 0) = false:=by simpa using he
  have e2:(C.err != 0) = true:=by simpa using he
  clear rd hX0 hB0 hl sh hk hO CA0 hf hp he;go_enter Tryz.func5,Tryz.ntmps5
  go_wp2_with (first
   | go_skip
   | (go_at_call 14; (with_reducible refine (CL _ (HR.out.below B0.out).task).mono ?_); rintro e w1 ⟨rfl,hb⟩; have X1:=Zh (X0.out.below hb); have B1:=Zh (b_cl B0.out Zl hb); have k19_1:=X1.out.cell (k:=19) (v:=.slice C.A C.n C.c) rfl; have k20_1:=X1.out.cell (k:=20) (v:=.slice C.A2 C.n2 C.c2) rfl; have k25_1:=X1.out.cell (k:=25) (v:=.slice C.L C.nl C.cl) rfl; have k26_1:=X1.out.cell (k:=26) (v:=.int .i64 C.room) rfl; have k21_1:=X1.out.cell (k:=21) (v:=.slice C.K C.nk C.ck) rfl; have lt1:=X1.out.lt; clear hb)
   | (refine wpList_load_box Zv 30 _ rfl w.heap.size rfl 30 C.cs _ X1.out Tryz.underlying30 rfl (by rw [C.size]; kernel_rfl) ?_)
   | (refine wpList_load_box Zv 30 _ rfl w.heap.size rfl 30 C.cs _ X2.out Tryz.underlying30 rfl (by rw [C.size]; kernel_rfl) ?_)
   | (go_at_call 8; (with_reducible refine (CA _ (HR.out.below B1.out)).mono ?_); rintro e w2 ⟨A2,c2,rfl,hr2,hb⟩; have R2:=Zh hr2; have X2:=Zh (X1.out.below hb); have B2:=Zh (b_cl B1.out Zl hb); clear hr2 hb)
   | (go_at_call 13; (with_reducible refine (CS _ (HR.out.below B2.out)).mono ?_); rintro e w3 ⟨rfl,hb⟩; have B3:=Zh (b_cl B2.out Zl hb); clear hb)
   | (go_at_call 7; (with_reducible refine (alive22_any _ (HL.out.below B3.out)).mono ?_); rintro e w9 ⟨rfl,hb9⟩))
  go_ret;exact ⟨by first | rfl | simp,b_cl B3.out Zl hb9⟩
 obtain ⟨_,_,_,htl,_⟩:=Cse.right he;have HBD:=Zh (Cse.bounds he);have HRI:=Zh (fun k=>C.rise (k:=k));have hfl:=C.found_len;have CW:=fun W (h:C.Rd W)=>refwhole22_any C W h hO
 have hwl:=Cse.whole_len hO;obtain ⟨nw,hn⟩:∃ nw,C.whole.length = nw:=⟨_,rfl⟩;rw [hn] at CW hwl;rw [he] at CA0;generalize C.found = fl at *;generalize C.whole = wl at *;obtain ⟨m,hm⟩:∃ m,fl.length = m:=⟨_,rfl⟩;have HM:=Zh hm;have HN:=Zh hn;have HT:=Zh htl;have CA:∀ W,C.Rd W -> Calls Tryz.prog 8 #[.agg C.cs] W fun e w'=>∃ A' c',e = .returned (.tuple #[.slice A' m c',.int .i64 0]) /\ RdF w' A' fl /\ Below W.heap.size W w':=fun W h=>(CA0 W h).mono fun e w' ⟨A',m',c',h1,h2,h3,_,h5⟩=>⟨A',c',by rw [h1,<- h2,hm],h3,h5⟩
 rw [hm] at hfl;clear rd hX0 hB0 hl sh hk hO CA0 he hn hm htl;go_enter Tryz.func5,Tryz.ntmps5
 go_wp2_with (first
  | go_skip
  | (go_at_call 14; (with_reducible refine (CL _ (HR.out.below B0.out).task).mono ?_); rintro e w1 ⟨rfl,hb⟩; have X1:=Zh (X0.out.below hb); have B1:=Zh (b_cl B0.out Zl hb); have k19_1:=X1.out.cell (k:=19) (v:=.slice C.A C.n C.c) rfl; have k20_1:=X1.out.cell (k:=20) (v:=.slice C.A2 C.n2 C.c2) rfl; have k25_1:=X1.out.cell (k:=25) (v:=.slice C.L C.nl C.cl) rfl; have k26_1:=X1.out.cell (k:=26) (v:=.int .i64 C.room) rfl; have k21_1:=X1.out.cell (k:=21) (v:=.slice C.K C.nk C.ck) rfl; have lt1:=X1.out.lt; clear hb)
  | (refine wpList_load_box Zv 30 _ rfl w.heap.size rfl 30 C.cs _ X1.out Tryz.underlying30 rfl (by rw [C.size]; kernel_rfl) ?_)
  | (refine wpList_load_box Zv 30 _ rfl w.heap.size rfl 30 C.cs _ X2.out Tryz.underlying30 rfl (by rw [C.size]; kernel_rfl) ?_)
  | (go_at_call 8; (with_reducible refine (CA _ (HR.out.below B1.out)).mono ?_); rintro e w2 ⟨A2,c2,rfl,hr2,hb⟩; have R2:=Zh hr2; have X2:=Zh (X1.out.below hb); have B2:=Zh (b_cl B1.out Zl hb); clear hr2 hb)
  | (go_at_call 16; (with_reducible refine (CW _ (HR.out.below B2.out)).mono ?_); rintro e w3 ⟨AW,mW,cW,rfl,rfl,hr3,hb⟩; have W3:=Zh hr3; have R3:=Zh (R2.out.below hb); have B3:=Zh (b_cl B2.out Zl hb); clear hr3 hb))
 clear CA CW CL k21_0 k19_1 k20_1 k25_1 k26_1 k21_1 X0 X1 X2 B0 B1 B2 R2;go_loopw [5,54] (fun v i wr=>∃ (k:Nat) (e:Int),k <= nw /\ i = .int .i64 k /\ v = .int .i64 e /\ Hid (endT (wl.take k) = e) /\ Below w3.heap.size w3 wr) (fun _ i _=>nw - (intOf i).toNat)
 case atStart=>exact ⟨0,1,Nat.zero_le _,rfl,rfl,Zh rfl,Below.refl _ _⟩
 case round =>
  obtain ⟨k,e,hk,rfl,rfl,HE,hb⟩:=hrel;obtain ⟨w4,rfl⟩:∃ w4:World,w4 = wr:=⟨_,rfl⟩;have hsz:=hb.size;by_cases hlt:k < nw
  ·obtain ⟨b,off,x,y,z,rfl,hbb,q0,q1,q2,hs⟩:=W3.out.at_ (k:=k) (by rw [HN.out]; exact hlt)
   rw [<- hb.cell (p:=⟨b,_,none⟩) hbb] at q0 q1 q2;have HZ:=Zh (endT_take (by rw [HN.out]; exact hlt) hs.out);have hb':=Zh (hb.alloc hb.size (.cells #[.int .i64 x,.int .i64 y,.int .i64 z] 50));clear hs;go_wp2;go_roundw
   case rel=>exact ⟨k + 1,z,by omega,by go_num,rfl,HZ,hb'.out⟩
   case measure=>simp [intOf]; omega
  ·have HQ:Hid (endT wl = e):=Zh (by rw [<- HE.out,List.take_of_length_le (by rw [HN.out]; omega)])
   have B4:=Zh (B3.out.trans (hb.mono B3.out.size));have R4:=Zh (R3.out.below hb);clear HE hb B3 R3 W3;go_wp2;go_loopw [63] (fun i wr=>∃ j:Nat,j <= m /\ i = .int .i64 j /\ Below w4.heap.size w4 wr) (fun i _=>m - (intOf i).toNat)
   case atStart=>exact ⟨0,Nat.zero_le _,rfl,Below.refl _ _⟩
   case round =>
    obtain ⟨j,hj,rfl,hbj⟩:=hrel;obtain ⟨w5,rfl⟩:∃ w5:World,w5 = wr:=⟨_,rfl⟩;have hsj:=hbj.size;have B5:=Zh (B4.out.trans (hbj.mono B4.out.size));by_cases hlj:j < m
    case neg =>
     go_wp2_with (first | go_skip | (go_at_call 7; (with_reducible refine (alive22_any _ (HL.out.below B5.out)).mono ?_); rintro e w9 ⟨rfl,hb9⟩));go_ret;exact ⟨rfl,b_cl B5.out Zl hb9⟩
    case pos =>
    have RK:=R4.out.below hbj;obtain ⟨b,off,x,y,z,rfl,hbb,q0,q1,q2,hs⟩:=RK.at_ (k:=j) (by rw [HM.out]; exact hlj)
    have hmem:(x,y,z) ∈ fl:=by
     rw [<- hs.out];simp [List.getD,(by rw [HM.out]; exact hlj:j < fl.length)]
    have hbd:=HBD.out _ hmem;rw [HQ.out] at hbd;obtain ⟨⟨x0,x1⟩,y0,z0,z1⟩:=hbd;simp only at x0 x1 y0 z0 z1;have d0:decide (x < 0) = false:=decide_eq_false Zo;have d1:decide (16 <= x) = false:=decide_eq_false Zo;have d2:decide (y < 0) = false:=decide_eq_false Zo;have d3:decide (z <= y) = false:=decide_eq_false Zo;have d4:decide (e < z) = false:=decide_eq_false Zo;have B6:=Zh (hbj.alloc hbj.size (.cells #[.int .i64 x,.int .i64 y,.int .i64 z] 52));have hbn:Below w5.heap.size w5 (w5.alloc (.cells #[.int .i64 x,.int .i64 y,.int .i64 z] 52)):=b_al (Below.refl _ _) Zl _;have xb:Bx (w5.alloc (.cells #[.int .i64 x,.int .i64 y,.int .i64 z] 52)) w5.heap.size 52 #[.int .i64 x,.int .i64 y,.int .i64 z]:=Bx.new (W:=w5) _ _ rfl
    rcases Nat.eq_zero_or_pos j with hj0 | hj0
    ·have d5:decide ((0:Int) < (j:Int)) = false:=decide_eq_false Zo
     have d6:decide (0 < j) = false:=decide_eq_false Zo;clear hj0 RK hs hmem;go_upto_region 15 with fail
     (try go_frame);have k0:∀ p:BelowOf (w5.alloc (.cells #[.int .i64 x,.int .i64 y,.int .i64 z] 52)),p.world.cell? ⟨w5.heap.size,0,none⟩ = some (.int .i64 x):=fun p=>p.cell (xb.cell rfl)
     have k1:∀ p:BelowOf (w5.alloc (.cells #[.int .i64 x,.int .i64 y,.int .i64 z] 52)),p.world.cell? ⟨w5.heap.size,1,none⟩ = some (.int .i64 y):=fun p=>p.cell (xb.cell rfl)
     have k2:∀ p:BelowOf (w5.alloc (.cells #[.int .i64 x,.int .i64 y,.int .i64 z] 52)),p.world.cell? ⟨w5.heap.size,2,none⟩ = some (.int .i64 z):=fun p=>p.cell (xb.cell rfl)
     refine wp_region_bel Zk Zk ?_
     repeat (go_big_quiet_step (first | (fail)))
     refine wpQuiet_nil ?_;refine bel_all fun wq hbq=>?_
     go_wp2_with go_skip;go_roundw
     case rel=>exact ⟨j + 1,by omega,by go_num,B6.out.trans (hbq.mono B6.out.size)⟩
     case measure=>simp [intOf]; omega
    ·obtain ⟨i,hi⟩:∃ i,j = i + 1:=⟨j - 1,by omega⟩
     obtain ⟨b2,off2,x',y',z',he2,_,u0,_,_,hs2⟩:=RK.at_ (k:=i) (by rw [HM.out]; omega);simp only [Option.some.injEq,Addr.mk.injEq,and_true] at he2;obtain ⟨rfl,rfl⟩:=he2;have hri:=HRI.out i (by rw [HM.out]; omega);rw [<- hi,hs.out,hs2.out] at hri;have hri:x' < x:=hri;have d5:decide ((0:Int) < (j:Int)) = true:=decide_eq_true Zo;have d6:decide (0 < j) = true:=decide_eq_true Zo;have d7:decide (x <= x') = false:=decide_eq_false Zo;have hji:(j:Int) - 1 = (i:Int):=by omega
     have i0:decide ((i:Int) < 0) = false:=decide_eq_false Zo;have i1:(i:Int) < (m:Int):=by omega
     have i2:i < m:=by omega
     have q3:∀ p:BelowOf (w5.alloc (.cells #[.int .i64 x,.int .i64 y,.int .i64 z] 52)),p.world.cell? ⟨b,off + i * 3,none⟩ = some (.int .i64 x'):=fun p=>p.cell (c_cl u0 hbn)
     clear hj0 RK hs hs2 hmem hri hi;go_upto_region 15 with fail
     (try go_frame);have k0:∀ p:BelowOf (w5.alloc (.cells #[.int .i64 x,.int .i64 y,.int .i64 z] 52)),p.world.cell? ⟨w5.heap.size,0,none⟩ = some (.int .i64 x):=fun p=>p.cell (xb.cell rfl)
     have k1:∀ p:BelowOf (w5.alloc (.cells #[.int .i64 x,.int .i64 y,.int .i64 z] 52)),p.world.cell? ⟨w5.heap.size,1,none⟩ = some (.int .i64 y):=fun p=>p.cell (xb.cell rfl)
     have k2:∀ p:BelowOf (w5.alloc (.cells #[.int .i64 x,.int .i64 y,.int .i64 z] 52)),p.world.cell? ⟨w5.heap.size,2,none⟩ = some (.int .i64 z):=fun p=>p.cell (xb.cell rfl)
     refine wp_region_bel Zk Zk ?_
     repeat (go_big_quiet_step (first | (fail)))
     refine wpQuiet_nil ?_;refine bel_all fun wq hbq=>?_
     go_wp2_with go_skip;go_roundw
     case rel=>exact ⟨j + 1,by omega,by go_num,B6.out.trans (hbq.mono B6.out.size)⟩
     case measure=>simp [intOf]; omega
set_option maxRecDepth 100000 in
theorem lifted (os:Os) (started:os.Started) (H:Type) (enc:TypeId × Value -> H) :
  ReturnsInHanded {} Tryz.checked os 5 .any (fun w args=>(Rows.verdictRisingSpec.pre enc Tryz.prog Tryz.f5 [] false w args /\ laidMetH Tryz.prog Rows.verdictRisingRow.laid w) /\ sizedMet enc Tryz.prog Tryz.f5 (OpenSpec.ofChange Rows.verdictRisingSpec) false w args)
   (Rows.verdictRisingSpec.post enc Tryz.prog Tryz.f5 false true false false):=by
 refine returns_laid (C:=Tryz.checked) (X:=fun w _=>laidMetH Tryz.prog Rows.verdictRisingRow.laid w) (fun _ _ _ hh h=>h.of_heap hh) own started Zk Tryz.func5
  (ChangeSpec.witness_shaped (enc:=enc) (C:=Tryz.checked) (os:=os) (X:=fun w _=>laidMetH Tryz.prog Rows.verdictRisingRow.laid w) false (World.doorLaid Tryz.prog 400 os) #[.agg #[.int .i64 0,.int .i64 0,.int .i64 0,.int .i64 0,.int .i64 0,.int .i64 0,.int .i64 0,.int .i64 0,.int .i64 0,.int .i64 0,.int .i64 0,.int .i64 0,.int .i64 0,.int .i64 0,.int .i64 0,.int .i64 0,.int .i64 0,.int .i64 0,.int .i64 0,.slice none 0 0,.slice none 0 0,.slice none 0 0,.int .i64 0,.int .i64 0,.int .i64 0,.slice none 0 0,.int .i64 0]] 8 rfl (World.shaped_of_RefB Zk Zk) Zk Zk Zk (door_met os _)) ?_
 intro W base args ds gs before hsh hval0 hW hL;have hval:∀ (j:Nat) t v,Tryz.f5.params[j]? = some t -> args[j]? = some v -> Value.okWide Tryz.prog W .any base t v:=hval0;have hW':=hW;obtain ⟨p,q,hA0,hV,rfl,hfz,hnd⟩:=hW;have hA:DataW.TrodAll enc Tryz.prog W 0 (fun _=>true) true Tryz.f5.params.toList args.toList ds p:=hA0;rw [Tryz.params5] at hA hval;obtain ⟨v0,vs0,d0,ds0,p0,q0,hargs,rfl,rfl,h0,r0⟩:=trodAll_cons hA;obtain ⟨rfl,rfl,rfl⟩:=trodAll_nil r0;obtain rfl:args = #[v0]:=by cases args; simp_all
 obtain ⟨rfl,rfl⟩:=trodVars_none hV;have k0:=h0;have lt0:∀ x ∈ p0,x.block < W.heap.size:=by obtain ⟨m,hm⟩:=k0; exact DataW.trod_lt m _ _ _ hm
 obtain ⟨C,rfl,rd,sh⟩:=open_case (hval 0 30 v0 rfl rfl) h0;clear hA0 hval0;simp only [List.append_nil] at hW';refine (walk W (laid15_of hL Zk (by simp [Rows.verdictRisingRow]) (by simp [Rows.verdictRisingRow])) C rd sh).mono fun e W' ⟨he,bel⟩=>?_
 subst he;exact ⟨_,rfl,_,_,_,[],_,[],hW',trodAll_mk1 (shut_bool Tryz.underlying4 _),(trodAll_cons_mk (Below.trod laidOut Zk (of_decide_eq_true Zk) k0 bel lt0) trodAll_mk0),rfl,bel.frame _,fun h=>by cases h⟩
theorem over:Rows.VerdictRisingSaid :=
 OpenClaim.holds_of_wide 5 Tryz.f5 rfl rfl rfl rfl rfl rfl rfl ⟨rfl,rfl,rfl,rfl,rfl⟩ rfl rfl rfl rfl rfl Zk Tryz.func5 Zk
  (of_decide_eq_true Zk) (by unfold Func.isWrapper; first | (rw [if_pos (by decide +kernel)]; kernel_rfl) | (rw [if_neg (by decide +kernel)]; exact ⟨rfl,rfl⟩))
  (fun os started H enc _=>lifted os started H enc)
theorem proved:Rows.VerdictRisingCardSaid :=
 Claim7.holds_tied_plain_at .later [] _ true _ _ over (fun _ h=>by cases h) Zk (fun _ h=>by cases h) verdictRising_row_tie rfl ⟨rfl,rfl⟩ Zk rfl
  (fun f fn hf hfn=>by
   obtain rfl:f = 5:=Option.some.inj ((show Tryz.prog.funcNamed "haulier/haulierlaw22.VerdictRising" = some 5 by kernel_rfl).symm.trans hf) |>.symm;obtain rfl:fn = Tryz.f5:=(Option.some.inj (Tryz.func5.symm.trans hfn)).symm
   exact ⟨by kernel_rfl,fun j t ht=>by
    rw [Tryz.params5] at ht;have hm:t ∈ [30]:=by simpa using Array.mem_of_getElem? ht
    have hall:([30].all fun u=>!Tryz.prog.wantsStandIn u) = true:=by kernel_rfl
    exact (show Tryz.prog.wantsStandIn t = false by simpa using List.all_eq_true.1 hall t hm)⟩)
  Zk
#print axioms proved
end Go.Proofs.YtiamnbddbmgffaaGreatDoor.verdictRising
