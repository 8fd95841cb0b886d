/- Texts of the proofs of VerdictAudits, VerdictAll, VerdictRising, pressed: VerdRChk, BookAlive. Conditions: as each theorem says. -/
import Derived.Test.YtiamnbddbmgffaaGreatDoorRows
import Derived.Test.YtiamnbddbmgffaaGreatDoorP36
import Derived.Test.YtiamnbddbmgffaaGreatDoorP34
namespace Go.Proofs.YtiamnbddbmgffaaGreatDoor
open Go.RowKit
set_option linter.unusedVariables false
set_option maxRecDepth 100000 in
set_option maxHeartbeats 2000000 in
theorem refwhole22_any (C:Cse) (w:World) (hR:C.Rd w) (hO:C.Ok) :
  Calls Tryz.prog 16 #[.agg C.cs] w fun e w'=>∃ A m c,e = .returned (.slice A m c) /\ C.whole.length = m /\ RdR w' A C.whole /\ Below w.heap.size w w':=by
 have hB0:Below w.heap.size w (w.alloc (.cells C.cs 30)):=b_al (Below.refl _ _) Zl _;have hX0:Bx (w.alloc (.cells C.cs 30)) w.heap.size 30 C.cs:=Bx.new (W:=w) _ _ rfl;obtain ⟨w0,hw0⟩:∃ w0,w.alloc (.cells C.cs 30) = w0:=⟨_,rfl⟩;have hz0:w0.heap.size = w.heap.size + 1:=by rw [<- hw0]; simp
 rw [hw0] at hB0 hX0;have hR0:=hR.below hB0;have X0:=Zh hX0;have B0:=Zh hB0;have R1:=Zh hR0.past;have R2:=Zh hR0.plan;have N1:=Zh hO.n;have N2:=Zh hO.n2;have Z1:=Zh hO.z;have Z2:=Zh hO.z2;have h60:=hO.hn;have h61:=hO.hn2;have HW:Hid (C.whole = C.l ++ C.l2):=Zh rfl;have k19:=hX0.cell (k:=19) (v:=.slice C.A C.n C.c) rfl;have lt0:=hX0.lt;clear hR hO hB0 hX0 hR0;go_enter Tryz.func16,Tryz.ntmps16;go_upto_region 1 with fail
 try rw [hw0]
 clear hw0;go_upto_region 3 with (at_builtin; refine append_recC rfl _ _ rfl w0.heap.size _ [] C.l rfl (OwnR.nil _ _) C.A C.n C.c rfl N1.out R1.out Z1.out (by simp; omega) Zl ?_; intro v1 w1 ho hg; have O1:=Zh ho; have G1:=Zh ((Below.refl w0.heap.size w0).grown hg Zl (fun k hk=>(World.ownsRow.lt (show World.ownsRow _ _ _ _ _ _ _ from OwnR.nil w0.heap.size w0) k hk).1)); clear ho hg)
 (try go_frame);rw [List.nil_append] at O1;have X1:=Zh (X0.out.below G1.out);have k20:=X1.out.cell (k:=20) (v:=.slice C.A2 C.n2 C.c2) rfl;have lt1:=X1.out.lt;have S2:=Zh (R2.out.below G1.out);have hz1:=G1.out.size;go_wp2_with (at_builtin; refine append_recC rfl _ _ rfl w0.heap.size _ C.l C.l2 rfl O1.out C.A2 C.n2 C.c2 rfl N2.out S2.out Z2.out (by rw [N1.out]; omega) G1.out.size ?_; intro v2 w2 ho hg; have O2:=Zh ho; have G2:=Zh (G1.out.grown hg G1.out.size (fun k hk=>(World.ownsRow.lt O1.out k hk).1)); clear ho hg);obtain ⟨A9,c9,rfl,hr9,_⟩:=O2.out.read;go_ret;rw [HW.out];exact ⟨A9,_,c9,rfl,rfl,hr9,B0.out.trans (G2.out.mono Zo)⟩
set_option maxRecDepth 100000 in
set_option maxHeartbeats 2000000 in
theorem refcheck22_book (C:Cse) (w:World) (hR:C.Rd w) (hO:C.Ok) (h:¬ May C.x) :
  Calls Tryz.prog 27 #[.agg C.cs] w fun e w'=>e = .returned (.int .i64 14) /\ Below w.heap.size w w':=by
 have hB0:Below w.heap.size w (w.alloc (.cells C.cs 30)):=b_al (Below.refl _ _) Zl _;have hX0:Bx (w.alloc (.cells C.cs 30)) w.heap.size 30 C.cs:=Bx.new (W:=w) _ _ rfl;have X0:=Zh hX0;have B0:=Zh hB0;have RB:=Cse.rdi hX0;have HR:=Zh hR;obtain ⟨nw,hn⟩:∃ nw,C.whole.length = nw:=⟨_,rfl⟩;have hwl:=Cse.whole_len hO;have HN:=Zh hn;have C7:=fun W=>refmay_any C.x W
 rw [if_neg h] at C7;clear hR hO hX0 hB0 hn;go_enter Tryz.func27,Tryz.ntmps27
 go_wp2_with (first
  | go_skip
  | refine wpList_load_bk Zv 23 _ rfl _ _ rfl C.x _ (RB) Tryz.underlying23 rfl Zk ?_
  | (go_at_call 55; (with_reducible refine (C7 _).mono ?_); rintro e w1 ⟨rfl,hb1⟩; have X1:=Zh (X0.out.below hb1); have B1:=Zh (b_cl B0.out Zl hb1); have k21_1:=X1.out.cell (k:=21) (v:=.slice C.K C.nk C.ck) rfl; have k25_1:=X1.out.cell (k:=25) (v:=.slice C.L C.nl C.cl) rfl; have lt1:=X1.out.lt; clear hb1))
 go_ret;exact ⟨rfl,B1.out⟩
set_option maxRecDepth 100000 in
set_option maxHeartbeats 2000000 in
theorem refcheck22_task (C:Cse) (w:World) (hR:C.Rd w) (hO:C.Ok) (h:May C.x) {er:Int} (h1:checkT C.k = er) (he:er ≠ 0) :
  Calls Tryz.prog 27 #[.agg C.cs] w fun e w'=>e = .returned (.int .i64 er) /\ Below w.heap.size w w':=by
 have hB0:Below w.heap.size w (w.alloc (.cells C.cs 30)):=b_al (Below.refl _ _) Zl _;have hX0:Bx (w.alloc (.cells C.cs 30)) w.heap.size 30 C.cs:=Bx.new (W:=w) _ _ rfl;have X0:=Zh hX0;have B0:=Zh hB0;have RB:=Cse.rdi hX0;have HR:=Zh hR;obtain ⟨nw,hn⟩:∃ nw,C.whole.length = nw:=⟨_,rfl⟩;have hwl:=Cse.whole_len hO;have HN:=Zh hn;have C7:=fun W=>refmay_any C.x W
 have C19:=fun W (h:RdK W C.K C.k)=>refcheck19_any C.K C.nk C.ck C.k hO.nk W h hO.few
 rw [if_pos h] at C7;rw [h1] at C19;have er1:(er == 0) = false:=by simpa using he
 have er2:(er != 0) = true:=by simpa using he
 clear h h1 he;clear hR hO hX0 hB0 hn;go_enter Tryz.func27,Tryz.ntmps27
 go_wp2_with (first
  | go_skip
  | refine wpList_load_bk Zv 23 _ rfl _ _ rfl C.x _ (RB) Tryz.underlying23 rfl Zk ?_
  | (go_at_call 55; (with_reducible refine (C7 _).mono ?_); rintro e w1 ⟨rfl,hb1⟩; have X1:=Zh (X0.out.below hb1); have B1:=Zh (b_cl B0.out Zl hb1); have k21_1:=X1.out.cell (k:=21) (v:=.slice C.K C.nk C.ck) rfl; have k25_1:=X1.out.cell (k:=25) (v:=.slice C.L C.nl C.cl) rfl; have lt1:=X1.out.lt; clear hb1)
  | (go_at_call 56; (with_reducible refine (C19 _ (HR.out.below B1.out).task).mono ?_); rintro e w2 ⟨rfl,hb2⟩; have X2:=Zh (X1.out.below hb2); have B2:=Zh (b_cl B1.out Zl hb2); have k21_2:=X2.out.cell (k:=21) (v:=.slice C.K C.nk C.ck) rfl; have k25_2:=X2.out.cell (k:=25) (v:=.slice C.L C.nl C.cl) rfl; have lt2:=X2.out.lt; clear hb2))
 go_ret;exact ⟨rfl,B2.out⟩
set_option maxRecDepth 100000 in
set_option maxHeartbeats 2000000 in
theorem refcheck22_spot (C:Cse) (w:World) (hR:C.Rd w) (hO:C.Ok) (h:May C.x) (h1:checkT C.k = 0) (h2:¬ Fits C.k (C.i,C.a,C.b)) :
  Calls Tryz.prog 27 #[.agg C.cs] w fun e w'=>e = .returned (.int .i64 1) /\ Below w.heap.size w w':=by
 have hB0:Below w.heap.size w (w.alloc (.cells C.cs 30)):=b_al (Below.refl _ _) Zl _;have hX0:Bx (w.alloc (.cells C.cs 30)) w.heap.size 30 C.cs:=Bx.new (W:=w) _ _ rfl;have X0:=Zh hX0;have B0:=Zh hB0;have RB:=Cse.rdi hX0;have HR:=Zh hR;obtain ⟨nw,hn⟩:∃ nw,C.whole.length = nw:=⟨_,rfl⟩;have hwl:=Cse.whole_len hO;have HN:=Zh hn;have C7:=fun W=>refmay_any C.x W
 have C19:=fun W (h:RdK W C.K C.k)=>refcheck19_any C.K C.nk C.ck C.k hO.nk W h hO.few
 have CE:=fun W (h:RdK W C.K C.k)=>reffits19_any C.K C.nk C.ck C.k hO.nk C.i C.a C.b W h
 rw [if_pos h] at C7;rw [h1] at C19;rw [decide_eq_false h2] at CE;clear h h1 h2;clear hR hO hX0 hB0 hn;go_enter Tryz.func27,Tryz.ntmps27
 go_wp2_with (first
  | go_skip
  | refine wpList_load_bk Zv 23 _ rfl _ _ rfl C.x _ (RB) Tryz.underlying23 rfl Zk ?_
  | (go_at_call 55; (with_reducible refine (C7 _).mono ?_); rintro e w1 ⟨rfl,hb1⟩; have X1:=Zh (X0.out.below hb1); have B1:=Zh (b_cl B0.out Zl hb1); have k21_1:=X1.out.cell (k:=21) (v:=.slice C.K C.nk C.ck) rfl; have k25_1:=X1.out.cell (k:=25) (v:=.slice C.L C.nl C.cl) rfl; have lt1:=X1.out.lt; clear hb1)
  | (go_at_call 56; (with_reducible refine (C19 _ (HR.out.below B1.out).task).mono ?_); rintro e w2 ⟨rfl,hb2⟩; have X2:=Zh (X1.out.below hb2); have B2:=Zh (b_cl B1.out Zl hb2); have k21_2:=X2.out.cell (k:=21) (v:=.slice C.K C.nk C.ck) rfl; have k25_2:=X2.out.cell (k:=25) (v:=.slice C.L C.nl C.cl) rfl; have lt2:=X2.out.lt; clear hb2)
  | refine wpList_load_of17 Zv 27 _ rfl w.heap.size 22 rfl #[.int .i64 C.i,.int .i64 C.a,.int .i64 C.b] _ (Cse.spot X2.out) Tryz.underlying27 rfl Zk ?_
  | (go_at_call 57; (with_reducible refine (CE _ (HR.out.below B2.out).task).mono ?_); rintro e w3 ⟨rfl,hb3⟩; have X3:=Zh (X2.out.below hb3); have B3:=Zh (b_cl B2.out Zl hb3); have k21_3:=X3.out.cell (k:=21) (v:=.slice C.K C.nk C.ck) rfl; have k25_3:=X3.out.cell (k:=25) (v:=.slice C.L C.nl C.cl) rfl; have lt3:=X3.out.lt; clear hb3))
 go_ret;exact ⟨rfl,B3.out⟩
set_option maxRecDepth 100000 in
set_option maxHeartbeats 2000000 in
theorem refcheck22_rec (C:Cse) (w:World) (hR:C.Rd w) (hO:C.Ok) (h:May C.x) (h1:checkT C.k = 0) (h2:Fits C.k (C.i,C.a,C.b)) {er:Int} (h3:(checkV C.whole).2 = er) (he:er ≠ 0) :
  Calls Tryz.prog 27 #[.agg C.cs] w fun e w'=>e = .returned (.int .i64 er) /\ Below w.heap.size w w':=by
 have hB0:Below w.heap.size w (w.alloc (.cells C.cs 30)):=b_al (Below.refl _ _) Zl _;have hX0:Bx (w.alloc (.cells C.cs 30)) w.heap.size 30 C.cs:=Bx.new (W:=w) _ _ rfl;have X0:=Zh hX0;have B0:=Zh hB0;have RB:=Cse.rdi hX0;have HR:=Zh hR;obtain ⟨nw,hn⟩:∃ nw,C.whole.length = nw:=⟨_,rfl⟩;have hwl:=Cse.whole_len hO;have HN:=Zh hn;have C7:=fun W=>refmay_any C.x W
 have C19:=fun W (h:RdK W C.K C.k)=>refcheck19_any C.K C.nk C.ck C.k hO.nk W h hO.few
 have CE:=fun W (h:RdK W C.K C.k)=>reffits19_any C.K C.nk C.ck C.k hO.nk C.i C.a C.b W h
 have CW:=fun W (h:C.Rd W)=>refwhole22_any C W h hO
 have CR:=fun (A:Option Addr) (c:Nat) W (h:RdR W A C.whole)=>refrcheck_any A c C.whole W h Zo
 rw [hn] at CW CR;rw [if_pos h] at C7;rw [h1] at C19;rw [decide_eq_true h2] at CE;rw [h3] at CR;generalize (checkV C.whole).1 = pl at CR;have er1:(er == 0) = false:=by simpa using he
 have er2:(er != 0) = true:=by simpa using he
 clear h h1 h2 h3 he;clear hR hO hX0 hB0 hn;go_enter Tryz.func27,Tryz.ntmps27
 go_wp2_with (first
  | go_skip
  | refine wpList_load_bk Zv 23 _ rfl _ _ rfl C.x _ (RB) Tryz.underlying23 rfl Zk ?_
  | (go_at_call 55; (with_reducible refine (C7 _).mono ?_); rintro e w1 ⟨rfl,hb1⟩; have X1:=Zh (X0.out.below hb1); have B1:=Zh (b_cl B0.out Zl hb1); have k21_1:=X1.out.cell (k:=21) (v:=.slice C.K C.nk C.ck) rfl; have k25_1:=X1.out.cell (k:=25) (v:=.slice C.L C.nl C.cl) rfl; have lt1:=X1.out.lt; clear hb1)
  | (go_at_call 56; (with_reducible refine (C19 _ (HR.out.below B1.out).task).mono ?_); rintro e w2 ⟨rfl,hb2⟩; have X2:=Zh (X1.out.below hb2); have B2:=Zh (b_cl B1.out Zl hb2); have k21_2:=X2.out.cell (k:=21) (v:=.slice C.K C.nk C.ck) rfl; have k25_2:=X2.out.cell (k:=25) (v:=.slice C.L C.nl C.cl) rfl; have lt2:=X2.out.lt; clear hb2)
  | refine wpList_load_of17 Zv 27 _ rfl w.heap.size 22 rfl #[.int .i64 C.i,.int .i64 C.a,.int .i64 C.b] _ (Cse.spot X2.out) Tryz.underlying27 rfl Zk ?_
  | (go_at_call 57; (with_reducible refine (CE _ (HR.out.below B2.out).task).mono ?_); rintro e w3 ⟨rfl,hb3⟩; have X3:=Zh (X2.out.below hb3); have B3:=Zh (b_cl B2.out Zl hb3); have k21_3:=X3.out.cell (k:=21) (v:=.slice C.K C.nk C.ck) rfl; have k25_3:=X3.out.cell (k:=25) (v:=.slice C.L C.nl C.cl) rfl; have lt3:=X3.out.lt; clear hb3)
  | (refine wpList_load_box Zv 30 _ rfl w.heap.size rfl 30 C.cs _ X3.out Tryz.underlying30 rfl (by rw [C.size]; kernel_rfl) ?_)
  | (go_at_call 16; (with_reducible refine (CW _ (HR.out.below B3.out)).mono ?_); rintro e w4 ⟨AW,mW,cW,rfl,rfl,hr4,hb4⟩; have X4:=Zh (X3.out.below hb4); have B4:=Zh (b_cl B3.out Zl hb4); have W4:=Zh hr4; have lt4:=X4.out.lt; clear hb4 hr4)
  | (go_at_call 58; (with_reducible refine (CR AW cW _ W4.out).mono ?_); rintro e w5 ⟨rfl,hb5⟩; have X5:=Zh (X4.out.below hb5); have B5:=Zh (b_cl B4.out Zl hb5); have W5:=Zh (W4.out.below hb5); have k25_5:=X5.out.cell (k:=25) (v:=.slice C.L C.nl C.cl) rfl; have lt5:=X5.out.lt; clear hb5))
 go_ret;exact ⟨rfl,B5.out⟩
set_option maxRecDepth 100000 in
set_option maxHeartbeats 2000000 in
theorem refcheck22_gap (C:Cse) (w:World) (hR:C.Rd w) (hO:C.Ok) (h:May C.x) (h1:checkT C.k = 0) (h2:Fits C.k (C.i,C.a,C.b)) (h3:(checkV C.whole).2 = 0) (h4:beg C.whole ≠ 0) :
  Calls Tryz.prog 27 #[.agg C.cs] w fun e w'=>e = .returned (.int .i64 5) /\ Below w.heap.size w w':=by
 have hB0:Below w.heap.size w (w.alloc (.cells C.cs 30)):=b_al (Below.refl _ _) Zl _;have hX0:Bx (w.alloc (.cells C.cs 30)) w.heap.size 30 C.cs:=Bx.new (W:=w) _ _ rfl;have X0:=Zh hX0;have B0:=Zh hB0;have RB:=Cse.rdi hX0;have HR:=Zh hR;obtain ⟨nw,hn⟩:∃ nw,C.whole.length = nw:=⟨_,rfl⟩;have hwl:=Cse.whole_len hO;have HN:=Zh hn;have C7:=fun W=>refmay_any C.x W
 have C19:=fun W (h:RdK W C.K C.k)=>refcheck19_any C.K C.nk C.ck C.k hO.nk W h hO.few
 have CE:=fun W (h:RdK W C.K C.k)=>reffits19_any C.K C.nk C.ck C.k hO.nk C.i C.a C.b W h
 have CW:=fun W (h:C.Rd W)=>refwhole22_any C W h hO
 have CR:=fun (A:Option Addr) (c:Nat) W (h:RdR W A C.whole)=>refrcheck_any A c C.whole W h Zo
 rw [hn] at CW CR;have CB:=fun (A:Option Addr) (c:Nat) W (h:RdR W A C.whole)=>refbeg_any A c nw C.whole W HN h Zo
 rw [if_pos h] at C7;rw [h1] at C19;rw [decide_eq_true h2] at CE;rw [h3] at CR;generalize (checkV C.whole).1 = pl at CR;generalize beg C.whole = y at *;have y1:(y == 0) = false:=by simpa using h4
 have y2:(y != 0) = true:=by simpa using h4
 clear h h1 h2 h3 h4;clear hR hO hX0 hB0 hn;go_enter Tryz.func27,Tryz.ntmps27
 go_wp2_with (first
  | go_skip
  | refine wpList_load_bk Zv 23 _ rfl _ _ rfl C.x _ (RB) Tryz.underlying23 rfl Zk ?_
  | (go_at_call 55; (with_reducible refine (C7 _).mono ?_); rintro e w1 ⟨rfl,hb1⟩; have X1:=Zh (X0.out.below hb1); have B1:=Zh (b_cl B0.out Zl hb1); have k21_1:=X1.out.cell (k:=21) (v:=.slice C.K C.nk C.ck) rfl; have k25_1:=X1.out.cell (k:=25) (v:=.slice C.L C.nl C.cl) rfl; have lt1:=X1.out.lt; clear hb1)
  | (go_at_call 56; (with_reducible refine (C19 _ (HR.out.below B1.out).task).mono ?_); rintro e w2 ⟨rfl,hb2⟩; have X2:=Zh (X1.out.below hb2); have B2:=Zh (b_cl B1.out Zl hb2); have k21_2:=X2.out.cell (k:=21) (v:=.slice C.K C.nk C.ck) rfl; have k25_2:=X2.out.cell (k:=25) (v:=.slice C.L C.nl C.cl) rfl; have lt2:=X2.out.lt; clear hb2)
  | refine wpList_load_of17 Zv 27 _ rfl w.heap.size 22 rfl #[.int .i64 C.i,.int .i64 C.a,.int .i64 C.b] _ (Cse.spot X2.out) Tryz.underlying27 rfl Zk ?_
  | (go_at_call 57; (with_reducible refine (CE _ (HR.out.below B2.out).task).mono ?_); rintro e w3 ⟨rfl,hb3⟩; have X3:=Zh (X2.out.below hb3); have B3:=Zh (b_cl B2.out Zl hb3); have k21_3:=X3.out.cell (k:=21) (v:=.slice C.K C.nk C.ck) rfl; have k25_3:=X3.out.cell (k:=25) (v:=.slice C.L C.nl C.cl) rfl; have lt3:=X3.out.lt; clear hb3)
  | (refine wpList_load_box Zv 30 _ rfl w.heap.size rfl 30 C.cs _ X3.out Tryz.underlying30 rfl (by rw [C.size]; kernel_rfl) ?_)
  | (go_at_call 16; (with_reducible refine (CW _ (HR.out.below B3.out)).mono ?_); rintro e w4 ⟨AW,mW,cW,rfl,rfl,hr4,hb4⟩; have X4:=Zh (X3.out.below hb4); have B4:=Zh (b_cl B3.out Zl hb4); have W4:=Zh hr4; have lt4:=X4.out.lt; clear hb4 hr4)
  | (go_at_call 58; (with_reducible refine (CR AW cW _ W4.out).mono ?_); rintro e w5 ⟨rfl,hb5⟩; have X5:=Zh (X4.out.below hb5); have B5:=Zh (b_cl B4.out Zl hb5); have W5:=Zh (W4.out.below hb5); have k25_5:=X5.out.cell (k:=25) (v:=.slice C.L C.nl C.cl) rfl; have lt5:=X5.out.lt; clear hb5)
  | (go_at_call 31; (with_reducible refine (CB AW cW _ W5.out).mono ?_); rintro e w6 ⟨rfl,rfl⟩))
 go_ret;exact ⟨rfl,B5.out⟩
set_option maxRecDepth 100000 in
set_option maxHeartbeats 2000000 in
theorem refcheck22_on (C:Cse) (w:World) (hR:C.Rd w) (hO:C.Ok) (h:May C.x) (h1:checkT C.k = 0) (h2:Fits C.k (C.i,C.a,C.b)) (h3:(checkV C.whole).2 = 0) (h4:beg C.whole = 0) :
  Calls Tryz.prog 27 #[.agg C.cs] w fun e w'=>e = .returned (.int .i64 (chkL C.ns)) /\ Below w.heap.size w w':=by
 have hB0:Below w.heap.size w (w.alloc (.cells C.cs 30)):=b_al (Below.refl _ _) Zl _;have hX0:Bx (w.alloc (.cells C.cs 30)) w.heap.size 30 C.cs:=Bx.new (W:=w) _ _ rfl;have X0:=Zh hX0;have B0:=Zh hB0;have RB:=Cse.rdi hX0;have HR:=Zh hR;obtain ⟨nw,hn⟩:∃ nw,C.whole.length = nw:=⟨_,rfl⟩;have hwl:=Cse.whole_len hO;have HN:=Zh hn;have C7:=fun W=>refmay_any C.x W
 have C19:=fun W (h:RdK W C.K C.k)=>refcheck19_any C.K C.nk C.ck C.k hO.nk W h hO.few
 have CE:=fun W (h:RdK W C.K C.k)=>reffits19_any C.K C.nk C.ck C.k hO.nk C.i C.a C.b W h
 have CW:=fun W (h:C.Rd W)=>refwhole22_any C W h hO
 have CR:=fun (A:Option Addr) (c:Nat) W (h:RdR W A C.whole)=>refrcheck_any A c C.whole W h Zo
 rw [hn] at CW CR;have CB:=fun (A:Option Addr) (c:Nat) W (h:RdR W A C.whole)=>refbeg_any A c nw C.whole W HN h Zo
 have CP:=fun W (h:RdN W C.L C.ns)=>refcheck21_any C.L C.cl C.nl C.ns W (Zh hO.nl) h
 rw [if_pos h] at C7;rw [h1] at C19;rw [decide_eq_true h2] at CE;rw [h3] at CR;generalize (checkV C.whole).1 = pl at CR;rw [h4] at CB;clear h h1 h2 h3 h4;clear hR hO hX0 hB0 hn;go_enter Tryz.func27,Tryz.ntmps27
 go_wp2_with (first
  | go_skip
  | refine wpList_load_bk Zv 23 _ rfl _ _ rfl C.x _ (RB) Tryz.underlying23 rfl Zk ?_
  | (go_at_call 55; (with_reducible refine (C7 _).mono ?_); rintro e w1 ⟨rfl,hb1⟩; have X1:=Zh (X0.out.below hb1); have B1:=Zh (b_cl B0.out Zl hb1); have k21_1:=X1.out.cell (k:=21) (v:=.slice C.K C.nk C.ck) rfl; have k25_1:=X1.out.cell (k:=25) (v:=.slice C.L C.nl C.cl) rfl; have lt1:=X1.out.lt; clear hb1)
  | (go_at_call 56; (with_reducible refine (C19 _ (HR.out.below B1.out).task).mono ?_); rintro e w2 ⟨rfl,hb2⟩; have X2:=Zh (X1.out.below hb2); have B2:=Zh (b_cl B1.out Zl hb2); have k21_2:=X2.out.cell (k:=21) (v:=.slice C.K C.nk C.ck) rfl; have k25_2:=X2.out.cell (k:=25) (v:=.slice C.L C.nl C.cl) rfl; have lt2:=X2.out.lt; clear hb2)
  | refine wpList_load_of17 Zv 27 _ rfl w.heap.size 22 rfl #[.int .i64 C.i,.int .i64 C.a,.int .i64 C.b] _ (Cse.spot X2.out) Tryz.underlying27 rfl Zk ?_
  | (go_at_call 57; (with_reducible refine (CE _ (HR.out.below B2.out).task).mono ?_); rintro e w3 ⟨rfl,hb3⟩; have X3:=Zh (X2.out.below hb3); have B3:=Zh (b_cl B2.out Zl hb3); have k21_3:=X3.out.cell (k:=21) (v:=.slice C.K C.nk C.ck) rfl; have k25_3:=X3.out.cell (k:=25) (v:=.slice C.L C.nl C.cl) rfl; have lt3:=X3.out.lt; clear hb3)
  | (refine wpList_load_box Zv 30 _ rfl w.heap.size rfl 30 C.cs _ X3.out Tryz.underlying30 rfl (by rw [C.size]; kernel_rfl) ?_)
  | (go_at_call 16; (with_reducible refine (CW _ (HR.out.below B3.out)).mono ?_); rintro e w4 ⟨AW,mW,cW,rfl,rfl,hr4,hb4⟩; have X4:=Zh (X3.out.below hb4); have B4:=Zh (b_cl B3.out Zl hb4); have W4:=Zh hr4; have lt4:=X4.out.lt; clear hb4 hr4)
  | (go_at_call 58; (with_reducible refine (CR AW cW _ W4.out).mono ?_); rintro e w5 ⟨rfl,hb5⟩; have X5:=Zh (X4.out.below hb5); have B5:=Zh (b_cl B4.out Zl hb5); have W5:=Zh (W4.out.below hb5); have k25_5:=X5.out.cell (k:=25) (v:=.slice C.L C.nl C.cl) rfl; have lt5:=X5.out.lt; clear hb5)
  | (go_at_call 31; (with_reducible refine (CB AW cW _ W5.out).mono ?_); rintro e w6 ⟨rfl,rfl⟩)
  | (go_at_call 59; (with_reducible refine (CP _ (HR.out.below B5.out).load).mono ?_); rintro e w7 ⟨rfl,rfl⟩))
 go_ret;exact ⟨rfl,B5.out⟩
theorem refcheck22_any (C:Cse) (w:World) (hR:C.Rd w) (hO:C.Ok) :
  Calls Tryz.prog 27 #[.agg C.cs] w fun e w'=>e = .returned (.int .i64 C.err) /\ Below w.heap.size w w':=by
 by_cases h:May C.x
 ·by_cases h1:checkT C.k = 0
  ·by_cases h2:Fits C.k (C.i,C.a,C.b)
   ·by_cases h3:(checkV C.whole).2 = 0
    ·by_cases h4:beg C.whole = 0
     ·rw [Cse.go_on h h1 h2 h3 h4]
      exact refcheck22_on C w hR hO h h1 h2 h3 h4
     ·rw [Cse.no_gap h h1 h2 h3 h4]
      exact refcheck22_gap C w hR hO h h1 h2 h3 h4
    ·rw [Cse.no_rec h h1 h2 rfl h3]
     exact refcheck22_rec C w hR hO h h1 h2 rfl h3
   ·rw [Cse.no_spot h h1 h2]
    exact refcheck22_spot C w hR hO h h1 h2
  ·rw [Cse.no_task h rfl h1]
   exact refcheck22_task C w hR hO h rfl h1
 ·rw [Cse.no_book h]
  exact refcheck22_book C w hR hO h
theorem may_eu:May euV:=by
 refine ⟨fun i hi=>?_,by unfold Ord; decide⟩;have:i = 0 ∨ i = 1 ∨ i = 2 ∨ i = 3 ∨ i = 4 ∨ i = 5 ∨ i = 6 ∨ i = 7 ∨ i = 8 ∨ i = 9 ∨ i = 10 ∨ i = 11 ∨ i = 12 ∨ i = 13 ∨ i = 14 ∨ i = 15 ∨ i = 16 ∨ i = 17 ∨ i = 18:=by omega
 rcases this with rfl | rfl | rfl | rfl | rfl | rfl | rfl | rfl | rfl | rfl | rfl | rfl | rfl | rfl | rfl | rfl | rfl | rfl | rfl <;> (unfold lim; decide)
end Go.Proofs.YtiamnbddbmgffaaGreatDoor
