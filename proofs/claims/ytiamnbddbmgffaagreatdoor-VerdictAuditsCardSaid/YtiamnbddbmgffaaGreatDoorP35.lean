/- Texts of the proofs of VerdictAudits, VerdictAll, VerdictRising, pressed: VerdChk, VerdAud, VerdRepM, VerdRep. Conditions: as each theorem says. -/
import Derived.Test.YtiamnbddbmgffaaGreatDoorRows
import Derived.Test.YtiamnbddbmgffaaGreatDoorP34
import Derived.Shelf.Strings.MapGrows
namespace Go.Proofs.YtiamnbddbmgffaaGreatDoor
open Go.RowKit
set_option linter.unusedVariables false
set_option maxRecDepth 100000 in
set_option maxHeartbeats 2000000 in
theorem check22_book (C:Cse) (AW:Option Addr) (cW nw:Nat) (w:World) (hR:C.Rd w) (hO:C.Ok) (hW:RdR w AW C.whole) (hn:C.whole.length = nw) (h:¬ May C.x) :
  Calls Tryz.prog 22 #[.agg C.cs,.slice AW nw cW] w fun e w'=>e = .returned (.int .i64 14) /\ Below w.heap.size w w':=by
 have hB0:Below w.heap.size w (w.alloc (.cells C.cs 37)):=b_al (Below.refl _ _) Zl _;have hX0:Bx (w.alloc (.cells C.cs 37)) w.heap.size 37 C.cs:=Bx.new (W:=w) _ _ rfl;have X0:=Zh hX0;have B0:=Zh hB0;have RB:=Cse.rdi hX0;have HR:=Zh hR;have HW:=Zh hW;have C7:=fun W=>check7_any C.x W
 rw [if_neg h] at C7;clear hR hO hW hX0 hB0;go_enter Tryz.func22,Tryz.ntmps22
 go_wp2_with (first
  | go_skip
  | refine wpList_load_bk Zv 23 _ rfl _ _ rfl C.x _ (RB) Tryz.underlying23 rfl Zk ?_
  | (go_at_call 38; (with_reducible refine (C7 _).mono ?_); rintro e w1 ⟨rfl,hb1⟩; have X1:=Zh (X0.out.below hb1); have B1:=Zh (b_cl B0.out Zl hb1); have k21_1:=X1.out.cell (k:=21) (v:=.slice C.K C.nk C.ck) rfl; have k25_1:=X1.out.cell (k:=25) (v:=.slice C.L C.nl C.cl) rfl; have lt1:=X1.out.lt; clear hb1))
 go_ret;exact ⟨rfl,B1.out⟩
set_option maxRecDepth 100000 in
set_option maxHeartbeats 2000000 in
theorem check22_task (C:Cse) (AW:Option Addr) (cW nw:Nat) (w:World) (hR:C.Rd w) (hO:C.Ok) (hW:RdR w AW C.whole) (hn:C.whole.length = nw) (h:May C.x) {er:Int} (h1:checkT C.k = er) (he:er ≠ 0) :
  Calls Tryz.prog 22 #[.agg C.cs,.slice AW nw cW] w fun e w'=>e = .returned (.int .i64 er) /\ Below w.heap.size w w':=by
 have hB0:Below w.heap.size w (w.alloc (.cells C.cs 37)):=b_al (Below.refl _ _) Zl _;have hX0:Bx (w.alloc (.cells C.cs 37)) w.heap.size 37 C.cs:=Bx.new (W:=w) _ _ rfl;have X0:=Zh hX0;have B0:=Zh hB0;have RB:=Cse.rdi hX0;have HR:=Zh hR;have HW:=Zh hW;have C7:=fun W=>check7_any C.x W
 have C19:=fun W (h:RdK W C.K C.k)=>check19_any C.K C.nk C.ck C.k hO.nk W h hO.few
 rw [if_pos h] at C7;rw [h1] at C19;have er1:(er == 0) = false:=by simpa using he
 have er2:(er != 0) = true:=by simpa using he
 clear h h1 he;clear hR hO hW hX0 hB0;go_enter Tryz.func22,Tryz.ntmps22
 go_wp2_with (first
  | go_skip
  | refine wpList_load_bk Zv 23 _ rfl _ _ rfl C.x _ (RB) Tryz.underlying23 rfl Zk ?_
  | (go_at_call 38; (with_reducible refine (C7 _).mono ?_); rintro e w1 ⟨rfl,hb1⟩; have X1:=Zh (X0.out.below hb1); have B1:=Zh (b_cl B0.out Zl hb1); have k21_1:=X1.out.cell (k:=21) (v:=.slice C.K C.nk C.ck) rfl; have k25_1:=X1.out.cell (k:=25) (v:=.slice C.L C.nl C.cl) rfl; have lt1:=X1.out.lt; clear hb1)
  | (go_at_call 39; (with_reducible refine (C19 _ (HR.out.below B1.out).task).mono ?_); rintro e w2 ⟨rfl,hb2⟩; have X2:=Zh (X1.out.below hb2); have B2:=Zh (b_cl B1.out Zl hb2); have k21_2:=X2.out.cell (k:=21) (v:=.slice C.K C.nk C.ck) rfl; have k25_2:=X2.out.cell (k:=25) (v:=.slice C.L C.nl C.cl) rfl; have lt2:=X2.out.lt; clear hb2))
 go_ret;exact ⟨rfl,B2.out⟩
set_option maxRecDepth 100000 in
set_option maxHeartbeats 2000000 in
theorem check22_spot (C:Cse) (AW:Option Addr) (cW nw:Nat) (w:World) (hR:C.Rd w) (hO:C.Ok) (hW:RdR w AW C.whole) (hn:C.whole.length = nw) (h:May C.x) (h1:checkT C.k = 0) (h2:¬ Fits C.k (C.i,C.a,C.b)) :
  Calls Tryz.prog 22 #[.agg C.cs,.slice AW nw cW] w fun e w'=>e = .returned (.int .i64 1) /\ Below w.heap.size w w':=by
 have hB0:Below w.heap.size w (w.alloc (.cells C.cs 37)):=b_al (Below.refl _ _) Zl _;have hX0:Bx (w.alloc (.cells C.cs 37)) w.heap.size 37 C.cs:=Bx.new (W:=w) _ _ rfl;have X0:=Zh hX0;have B0:=Zh hB0;have RB:=Cse.rdi hX0;have HR:=Zh hR;have HW:=Zh hW;have C7:=fun W=>check7_any C.x W
 have C19:=fun W (h:RdK W C.K C.k)=>check19_any C.K C.nk C.ck C.k hO.nk W h hO.few
 have CE:=fun W (h:RdK W C.K C.k)=>rightE19_any C.K C.nk C.ck C.k hO.nk C.i C.a C.b W h hO.few hO.a hO.b
 rw [if_pos h] at C7;rw [h1] at C19;rw [spot_no h1 h2,decide_eq_false Zd] at CE;clear h h1 h2;clear hR hO hW hX0 hB0;go_enter Tryz.func22,Tryz.ntmps22
 go_wp2_with (first
  | go_skip
  | refine wpList_load_bk Zv 23 _ rfl _ _ rfl C.x _ (RB) Tryz.underlying23 rfl Zk ?_
  | (go_at_call 38; (with_reducible refine (C7 _).mono ?_); rintro e w1 ⟨rfl,hb1⟩; have X1:=Zh (X0.out.below hb1); have B1:=Zh (b_cl B0.out Zl hb1); have k21_1:=X1.out.cell (k:=21) (v:=.slice C.K C.nk C.ck) rfl; have k25_1:=X1.out.cell (k:=25) (v:=.slice C.L C.nl C.cl) rfl; have lt1:=X1.out.lt; clear hb1)
  | (go_at_call 39; (with_reducible refine (C19 _ (HR.out.below B1.out).task).mono ?_); rintro e w2 ⟨rfl,hb2⟩; have X2:=Zh (X1.out.below hb2); have B2:=Zh (b_cl B1.out Zl hb2); have k21_2:=X2.out.cell (k:=21) (v:=.slice C.K C.nk C.ck) rfl; have k25_2:=X2.out.cell (k:=25) (v:=.slice C.L C.nl C.cl) rfl; have lt2:=X2.out.lt; clear hb2)
  | refine wpList_load_of17 Zv 27 _ rfl w.heap.size 22 rfl #[.int .i64 C.i,.int .i64 C.a,.int .i64 C.b] _ (Cse.spot X2.out) Tryz.underlying27 rfl Zk ?_
  | (go_at_call 40; (with_reducible refine (CE _ (HR.out.below B2.out).task).mono ?_); rintro e w3 ⟨rfl,hb3⟩; have X3:=Zh (X2.out.below hb3); have B3:=Zh (b_cl B2.out Zl hb3); have k21_3:=X3.out.cell (k:=21) (v:=.slice C.K C.nk C.ck) rfl; have k25_3:=X3.out.cell (k:=25) (v:=.slice C.L C.nl C.cl) rfl; have lt3:=X3.out.lt; clear hb3))
 go_ret;exact ⟨rfl,B3.out⟩
set_option maxRecDepth 100000 in
set_option maxHeartbeats 2000000 in
theorem check22_rec (C:Cse) (AW:Option Addr) (cW nw:Nat) (w:World) (hR:C.Rd w) (hO:C.Ok) (hW:RdR w AW C.whole) (hn:C.whole.length = nw) (h:May C.x) (h1:checkT C.k = 0) (h2:Fits C.k (C.i,C.a,C.b)) {er:Int} (h3:(checkV C.whole).2 = er) (he:er ≠ 0) :
  Calls Tryz.prog 22 #[.agg C.cs,.slice AW nw cW] w fun e w'=>e = .returned (.int .i64 er) /\ Below w.heap.size w w':=by
 have hB0:Below w.heap.size w (w.alloc (.cells C.cs 37)):=b_al (Below.refl _ _) Zl _;have hX0:Bx (w.alloc (.cells C.cs 37)) w.heap.size 37 C.cs:=Bx.new (W:=w) _ _ rfl;have X0:=Zh hX0;have B0:=Zh hB0;have RB:=Cse.rdi hX0;have HR:=Zh hR;have HW:=Zh hW;have C7:=fun W=>check7_any C.x W
 have C19:=fun W (h:RdK W C.K C.k)=>check19_any C.K C.nk C.ck C.k hO.nk W h hO.few
 have CE:=fun W (h:RdK W C.K C.k)=>rightE19_any C.K C.nk C.ck C.k hO.nk C.i C.a C.b W h hO.few hO.a hO.b
 have CR:=fun W (h:RdR W AW C.whole)=>rcheck_any AW cW C.whole W h (by have:=Cse.whole_len hO; omega)
 rw [hn] at CR;rw [if_pos h] at C7;rw [h1] at C19;rw [spot_yes h1 h2,decide_eq_true rfl] at CE;rw [h3] at CR;generalize (checkV C.whole).1 = pl at CR;have er1:(er == 0) = false:=by simpa using he
 have er2:(er != 0) = true:=by simpa using he
 clear h h1 h2 h3 he;clear hR hO hW hX0 hB0;go_enter Tryz.func22,Tryz.ntmps22
 go_wp2_with (first
  | go_skip
  | refine wpList_load_bk Zv 23 _ rfl _ _ rfl C.x _ (RB) Tryz.underlying23 rfl Zk ?_
  | (go_at_call 38; (with_reducible refine (C7 _).mono ?_); rintro e w1 ⟨rfl,hb1⟩; have X1:=Zh (X0.out.below hb1); have B1:=Zh (b_cl B0.out Zl hb1); have k21_1:=X1.out.cell (k:=21) (v:=.slice C.K C.nk C.ck) rfl; have k25_1:=X1.out.cell (k:=25) (v:=.slice C.L C.nl C.cl) rfl; have lt1:=X1.out.lt; clear hb1)
  | (go_at_call 39; (with_reducible refine (C19 _ (HR.out.below B1.out).task).mono ?_); rintro e w2 ⟨rfl,hb2⟩; have X2:=Zh (X1.out.below hb2); have B2:=Zh (b_cl B1.out Zl hb2); have k21_2:=X2.out.cell (k:=21) (v:=.slice C.K C.nk C.ck) rfl; have k25_2:=X2.out.cell (k:=25) (v:=.slice C.L C.nl C.cl) rfl; have lt2:=X2.out.lt; clear hb2)
  | refine wpList_load_of17 Zv 27 _ rfl w.heap.size 22 rfl #[.int .i64 C.i,.int .i64 C.a,.int .i64 C.b] _ (Cse.spot X2.out) Tryz.underlying27 rfl Zk ?_
  | (go_at_call 40; (with_reducible refine (CE _ (HR.out.below B2.out).task).mono ?_); rintro e w3 ⟨rfl,hb3⟩; have X3:=Zh (X2.out.below hb3); have B3:=Zh (b_cl B2.out Zl hb3); have k21_3:=X3.out.cell (k:=21) (v:=.slice C.K C.nk C.ck) rfl; have k25_3:=X3.out.cell (k:=25) (v:=.slice C.L C.nl C.cl) rfl; have lt3:=X3.out.lt; clear hb3)
  | (go_at_call 41; (with_reducible refine (CR _ (HW.out.below B3.out)).mono ?_); rintro e w4 ⟨rfl,hb4⟩; have X4:=Zh (X3.out.below hb4); have B4:=Zh (b_cl B3.out Zl hb4); have k21_4:=X4.out.cell (k:=21) (v:=.slice C.K C.nk C.ck) rfl; have k25_4:=X4.out.cell (k:=25) (v:=.slice C.L C.nl C.cl) rfl; have lt4:=X4.out.lt; clear hb4))
 go_ret;exact ⟨rfl,B4.out⟩
set_option maxRecDepth 100000 in
set_option maxHeartbeats 2000000 in
theorem check22_gap (C:Cse) (AW:Option Addr) (cW nw:Nat) (w:World) (hR:C.Rd w) (hO:C.Ok) (hW:RdR w AW C.whole) (hn:C.whole.length = nw) (h:May C.x) (h1:checkT C.k = 0) (h2:Fits C.k (C.i,C.a,C.b)) (h3:(checkV C.whole).2 = 0) (h4:beg C.whole ≠ 0) (h0:0 < nw) :
  Calls Tryz.prog 22 #[.agg C.cs,.slice AW nw cW] w fun e w'=>e = .returned (.int .i64 5) /\ Below w.heap.size w w':=by
 have hB0:Below w.heap.size w (w.alloc (.cells C.cs 37)):=b_al (Below.refl _ _) Zl _;have hX0:Bx (w.alloc (.cells C.cs 37)) w.heap.size 37 C.cs:=Bx.new (W:=w) _ _ rfl;have X0:=Zh hX0;have B0:=Zh hB0;have RB:=Cse.rdi hX0;have HR:=Zh hR;have HW:=Zh hW;have C7:=fun W=>check7_any C.x W
 have C19:=fun W (h:RdK W C.K C.k)=>check19_any C.K C.nk C.ck C.k hO.nk W h hO.few
 have CE:=fun W (h:RdK W C.K C.k)=>rightE19_any C.K C.nk C.ck C.k hO.nk C.i C.a C.b W h hO.few hO.a hO.b
 have CR:=fun W (h:RdR W AW C.whole)=>rcheck_any AW cW C.whole W h (by have:=Cse.whole_len hO; omega)
 rw [hn] at CR;rw [if_pos h] at C7;rw [h1] at C19;rw [spot_yes h1 h2,decide_eq_true rfl] at CE;rw [h3] at CR;generalize (checkV C.whole).1 = pl at CR;obtain ⟨b,off,q,y,z,hA,hbb,_,hc1,_,hs⟩:=hW.at_ (k:=0) Zo;have HB:beg C.whole = y:=beg_at16 Zo (by rw [hs.out]);rw [HB] at h4;rw [Nat.zero_mul,Nat.add_zero] at hc1;subst hA;have g0:(0:Int) < (nw:Int):=by omega
 have y1:(y == 0) = false:=by simpa using h4
 have y2:(y != 0) = true:=by simpa using h4
 clear h h1 h2 h3 h4 hs HB hn;clear hR hO hW hX0 hB0;go_enter Tryz.func22,Tryz.ntmps22
 go_wp2_with (first
  | go_skip
  | refine wpList_load_bk Zv 23 _ rfl _ _ rfl C.x _ (RB) Tryz.underlying23 rfl Zk ?_
  | (go_at_call 38; (with_reducible refine (C7 _).mono ?_); rintro e w1 ⟨rfl,hb1⟩; have X1:=Zh (X0.out.below hb1); have B1:=Zh (b_cl B0.out Zl hb1); have k21_1:=X1.out.cell (k:=21) (v:=.slice C.K C.nk C.ck) rfl; have k25_1:=X1.out.cell (k:=25) (v:=.slice C.L C.nl C.cl) rfl; have lt1:=X1.out.lt; clear hb1)
  | (go_at_call 39; (with_reducible refine (C19 _ (HR.out.below B1.out).task).mono ?_); rintro e w2 ⟨rfl,hb2⟩; have X2:=Zh (X1.out.below hb2); have B2:=Zh (b_cl B1.out Zl hb2); have k21_2:=X2.out.cell (k:=21) (v:=.slice C.K C.nk C.ck) rfl; have k25_2:=X2.out.cell (k:=25) (v:=.slice C.L C.nl C.cl) rfl; have lt2:=X2.out.lt; clear hb2)
  | refine wpList_load_of17 Zv 27 _ rfl w.heap.size 22 rfl #[.int .i64 C.i,.int .i64 C.a,.int .i64 C.b] _ (Cse.spot X2.out) Tryz.underlying27 rfl Zk ?_
  | (go_at_call 40; (with_reducible refine (CE _ (HR.out.below B2.out).task).mono ?_); rintro e w3 ⟨rfl,hb3⟩; have X3:=Zh (X2.out.below hb3); have B3:=Zh (b_cl B2.out Zl hb3); have k21_3:=X3.out.cell (k:=21) (v:=.slice C.K C.nk C.ck) rfl; have k25_3:=X3.out.cell (k:=25) (v:=.slice C.L C.nl C.cl) rfl; have lt3:=X3.out.lt; clear hb3)
  | (go_at_call 41; (with_reducible refine (CR _ (HW.out.below B3.out)).mono ?_); rintro e w4 ⟨rfl,hb4⟩; have X4:=Zh (X3.out.below hb4); have B4:=Zh (b_cl B3.out Zl hb4); have k21_4:=X4.out.cell (k:=21) (v:=.slice C.K C.nk C.ck) rfl; have k25_4:=X4.out.cell (k:=25) (v:=.slice C.L C.nl C.cl) rfl; have lt4:=X4.out.lt;  have q1:=(B4.out.cell (p:=⟨b,off + 1,none⟩) hbb).trans hc1; have lb:=Nat.lt_of_lt_of_le hbb B4.out.size; clear hb4))
 go_ret;exact ⟨rfl,B4.out⟩
set_option maxRecDepth 100000 in
set_option maxHeartbeats 2000000 in
theorem check22_on (C:Cse) (AW:Option Addr) (cW nw:Nat) (w:World) (hR:C.Rd w) (hO:C.Ok) (hW:RdR w AW C.whole) (hn:C.whole.length = nw) (h:May C.x) (h1:checkT C.k = 0) (h2:Fits C.k (C.i,C.a,C.b)) (h3:(checkV C.whole).2 = 0) (h4:beg C.whole = 0) (h0:0 < nw) :
  Calls Tryz.prog 22 #[.agg C.cs,.slice AW nw cW] w fun e w'=>e = .returned (.int .i64 (chkL C.ns)) /\ Below w.heap.size w w':=by
 have hB0:Below w.heap.size w (w.alloc (.cells C.cs 37)):=b_al (Below.refl _ _) Zl _;have hX0:Bx (w.alloc (.cells C.cs 37)) w.heap.size 37 C.cs:=Bx.new (W:=w) _ _ rfl;have X0:=Zh hX0;have B0:=Zh hB0;have RB:=Cse.rdi hX0;have HR:=Zh hR;have HW:=Zh hW;have C7:=fun W=>check7_any C.x W
 have C19:=fun W (h:RdK W C.K C.k)=>check19_any C.K C.nk C.ck C.k hO.nk W h hO.few
 have CE:=fun W (h:RdK W C.K C.k)=>rightE19_any C.K C.nk C.ck C.k hO.nk C.i C.a C.b W h hO.few hO.a hO.b
 have CR:=fun W (h:RdR W AW C.whole)=>rcheck_any AW cW C.whole W h (by have:=Cse.whole_len hO; omega)
 rw [hn] at CR;have CP:=fun W (h:RdN W C.L C.ns)=>peak21_any C.L C.cl C.nl C.ns W (Zh hO.nl) h
 rw [if_pos h] at C7;rw [h1] at C19;rw [spot_yes h1 h2,decide_eq_true rfl] at CE;rw [h3] at CR;generalize (checkV C.whole).1 = pl at CR;obtain ⟨b,off,q,y,z,hA,hbb,_,hc1,_,hs⟩:=hW.at_ (k:=0) Zo;have HB:beg C.whole = y:=beg_at16 Zo (by rw [hs.out]);rw [HB] at h4;rw [Nat.zero_mul,Nat.add_zero] at hc1;subst hA;subst h4;have g0:(0:Int) < (nw:Int):=by omega
 clear h h1 h2 h3 hs HB hn;clear hR hO hW hX0 hB0;go_enter Tryz.func22,Tryz.ntmps22
 go_wp2_with (first
  | go_skip
  | refine wpList_load_bk Zv 23 _ rfl _ _ rfl C.x _ (RB) Tryz.underlying23 rfl Zk ?_
  | (go_at_call 38; (with_reducible refine (C7 _).mono ?_); rintro e w1 ⟨rfl,hb1⟩; have X1:=Zh (X0.out.below hb1); have B1:=Zh (b_cl B0.out Zl hb1); have k21_1:=X1.out.cell (k:=21) (v:=.slice C.K C.nk C.ck) rfl; have k25_1:=X1.out.cell (k:=25) (v:=.slice C.L C.nl C.cl) rfl; have lt1:=X1.out.lt; clear hb1)
  | (go_at_call 39; (with_reducible refine (C19 _ (HR.out.below B1.out).task).mono ?_); rintro e w2 ⟨rfl,hb2⟩; have X2:=Zh (X1.out.below hb2); have B2:=Zh (b_cl B1.out Zl hb2); have k21_2:=X2.out.cell (k:=21) (v:=.slice C.K C.nk C.ck) rfl; have k25_2:=X2.out.cell (k:=25) (v:=.slice C.L C.nl C.cl) rfl; have lt2:=X2.out.lt; clear hb2)
  | refine wpList_load_of17 Zv 27 _ rfl w.heap.size 22 rfl #[.int .i64 C.i,.int .i64 C.a,.int .i64 C.b] _ (Cse.spot X2.out) Tryz.underlying27 rfl Zk ?_
  | (go_at_call 40; (with_reducible refine (CE _ (HR.out.below B2.out).task).mono ?_); rintro e w3 ⟨rfl,hb3⟩; have X3:=Zh (X2.out.below hb3); have B3:=Zh (b_cl B2.out Zl hb3); have k21_3:=X3.out.cell (k:=21) (v:=.slice C.K C.nk C.ck) rfl; have k25_3:=X3.out.cell (k:=25) (v:=.slice C.L C.nl C.cl) rfl; have lt3:=X3.out.lt; clear hb3)
  | (go_at_call 41; (with_reducible refine (CR _ (HW.out.below B3.out)).mono ?_); rintro e w4 ⟨rfl,hb4⟩; have X4:=Zh (X3.out.below hb4); have B4:=Zh (b_cl B3.out Zl hb4); have k21_4:=X4.out.cell (k:=21) (v:=.slice C.K C.nk C.ck) rfl; have k25_4:=X4.out.cell (k:=25) (v:=.slice C.L C.nl C.cl) rfl; have lt4:=X4.out.lt;  have q1:=(B4.out.cell (p:=⟨b,off + 1,none⟩) hbb).trans hc1; have lb:=Nat.lt_of_lt_of_le hbb B4.out.size; clear hb4)
  | (go_at_call 36; (with_reducible refine (CP _ (HR.out.below B4.out).load).mono ?_); rintro e w5 ⟨rfl,hb5⟩; have B5:=Zh (b_cl B4.out Zl hb5); clear hb5))
 go_ret;exact ⟨rfl,B5.out⟩
set_option maxRecDepth 100000 in
set_option maxHeartbeats 2000000 in
theorem check22_none (C:Cse) (AW:Option Addr) (cW nw:Nat) (w:World) (hR:C.Rd w) (hO:C.Ok) (hW:RdR w AW C.whole) (hn:C.whole.length = nw) (h:May C.x) (h1:checkT C.k = 0) (h2:Fits C.k (C.i,C.a,C.b)) (h3:(checkV C.whole).2 = 0) (h0:nw = 0) :
  Calls Tryz.prog 22 #[.agg C.cs,.slice AW nw cW] w fun e w'=>e = .returned (.int .i64 (chkL C.ns)) /\ Below w.heap.size w w':=by
 have hB0:Below w.heap.size w (w.alloc (.cells C.cs 37)):=b_al (Below.refl _ _) Zl _;have hX0:Bx (w.alloc (.cells C.cs 37)) w.heap.size 37 C.cs:=Bx.new (W:=w) _ _ rfl;have X0:=Zh hX0;have B0:=Zh hB0;have RB:=Cse.rdi hX0;have HR:=Zh hR;have HW:=Zh hW;have C7:=fun W=>check7_any C.x W
 have C19:=fun W (h:RdK W C.K C.k)=>check19_any C.K C.nk C.ck C.k hO.nk W h hO.few
 have CE:=fun W (h:RdK W C.K C.k)=>rightE19_any C.K C.nk C.ck C.k hO.nk C.i C.a C.b W h hO.few hO.a hO.b
 have CR:=fun W (h:RdR W AW C.whole)=>rcheck_any AW cW C.whole W h (by have:=Cse.whole_len hO; omega)
 rw [hn] at CR;have CP:=fun W (h:RdN W C.L C.ns)=>peak21_any C.L C.cl C.nl C.ns W (Zh hO.nl) h
 rw [if_pos h] at C7;rw [h1] at C19;rw [spot_yes h1 h2,decide_eq_true rfl] at CE;rw [h3] at CR;generalize (checkV C.whole).1 = pl at CR;clear h h1 h2 h3 hn;subst h0;clear hR hO hW hX0 hB0;go_enter Tryz.func22,Tryz.ntmps22
 go_wp2_with (first
  | go_skip
  | refine wpList_load_bk Zv 23 _ rfl _ _ rfl C.x _ (RB) Tryz.underlying23 rfl Zk ?_
  | (go_at_call 38; (with_reducible refine (C7 _).mono ?_); rintro e w1 ⟨rfl,hb1⟩; have X1:=Zh (X0.out.below hb1); have B1:=Zh (b_cl B0.out Zl hb1); have k21_1:=X1.out.cell (k:=21) (v:=.slice C.K C.nk C.ck) rfl; have k25_1:=X1.out.cell (k:=25) (v:=.slice C.L C.nl C.cl) rfl; have lt1:=X1.out.lt; clear hb1)
  | (go_at_call 39; (with_reducible refine (C19 _ (HR.out.below B1.out).task).mono ?_); rintro e w2 ⟨rfl,hb2⟩; have X2:=Zh (X1.out.below hb2); have B2:=Zh (b_cl B1.out Zl hb2); have k21_2:=X2.out.cell (k:=21) (v:=.slice C.K C.nk C.ck) rfl; have k25_2:=X2.out.cell (k:=25) (v:=.slice C.L C.nl C.cl) rfl; have lt2:=X2.out.lt; clear hb2)
  | refine wpList_load_of17 Zv 27 _ rfl w.heap.size 22 rfl #[.int .i64 C.i,.int .i64 C.a,.int .i64 C.b] _ (Cse.spot X2.out) Tryz.underlying27 rfl Zk ?_
  | (go_at_call 40; (with_reducible refine (CE _ (HR.out.below B2.out).task).mono ?_); rintro e w3 ⟨rfl,hb3⟩; have X3:=Zh (X2.out.below hb3); have B3:=Zh (b_cl B2.out Zl hb3); have k21_3:=X3.out.cell (k:=21) (v:=.slice C.K C.nk C.ck) rfl; have k25_3:=X3.out.cell (k:=25) (v:=.slice C.L C.nl C.cl) rfl; have lt3:=X3.out.lt; clear hb3)
  | (go_at_call 41; (with_reducible refine (CR _ (HW.out.below B3.out)).mono ?_); rintro e w4 ⟨rfl,hb4⟩; have X4:=Zh (X3.out.below hb4); have B4:=Zh (b_cl B3.out Zl hb4); have k21_4:=X4.out.cell (k:=21) (v:=.slice C.K C.nk C.ck) rfl; have k25_4:=X4.out.cell (k:=25) (v:=.slice C.L C.nl C.cl) rfl; have lt4:=X4.out.lt; clear hb4)
  | (go_at_call 36; (with_reducible refine (CP _ (HR.out.below B4.out).load).mono ?_); rintro e w5 ⟨rfl,hb5⟩; have B5:=Zh (b_cl B4.out Zl hb5); clear hb5))
 go_ret;exact ⟨rfl,B5.out⟩
theorem check22_any (C:Cse) (AW:Option Addr) (cW nw:Nat) (w:World) (hR:C.Rd w) (hO:C.Ok) (hW:RdR w AW C.whole) (hn:C.whole.length = nw) :
  Calls Tryz.prog 22 #[.agg C.cs,.slice AW nw cW] w fun e w'=>e = .returned (.int .i64 C.err) /\ Below w.heap.size w w':=by
 by_cases h:May C.x
 ·by_cases h1:checkT C.k = 0
  ·by_cases h2:Fits C.k (C.i,C.a,C.b)
   ·by_cases h3:(checkV C.whole).2 = 0
    ·by_cases h4:beg C.whole = 0
     ·rw [Cse.go_on h h1 h2 h3 h4]
      by_cases h0:nw = 0
      ·exact check22_none C AW cW nw w hR hO hW hn h h1 h2 h3 h0
      ·exact check22_on C AW cW nw w hR hO hW hn h h1 h2 h3 h4 Zo
     ·rw [Cse.no_gap h h1 h2 h3 h4]
      refine check22_gap C AW cW nw w hR hO hW hn h h1 h2 h3 h4 ?_
      rcases Nat.eq_zero_or_pos nw with h0 | h0
      ·rw [h0] at hn; rw [List.eq_nil_of_length_eq_zero hn] at h4; exact absurd rfl h4
      ·exact h0
    ·rw [Cse.no_rec h h1 h2 rfl h3]
     exact check22_rec C AW cW nw w hR hO hW hn h h1 h2 rfl h3
   ·rw [Cse.no_spot h h1 h2]
    exact check22_spot C AW cW nw w hR hO hW hn h h1 h2
  ·rw [Cse.no_task h rfl h1]
   exact check22_task C AW cW nw w hR hO hW hn h rfl h1
 ·rw [Cse.no_book h]
  exact check22_book C AW cW nw w hR hO hW hn h
theorem RdLr.new {W:World} {g:Nat} (t:TypeId) (cs:Array Value) (hg:g = W.heap.size):RdLr (W.alloc (.cells cs t)) (some ⟨g,0,none⟩) cs.toList:=fun _=>⟨g,0,rfl,by subst hg; simp,fun k _=>by
 rw [Nat.zero_add,cell_of_row _ g k cs t (0,0) (Bx.new (W:=W) t cs hg),Array.getElem?_toList]⟩
set_option maxRecDepth 100000 in
set_option maxHeartbeats 2000000 in
theorem audit22_bad (C:Cse) (w:World) (hR:C.Rd w) (hO:C.Ok) {er:Int} (he:C.err = er) (hne:er ≠ 0) :
  Calls Tryz.prog 8 #[.agg C.cs] w fun e w'=>e = .returned (.tuple #[.slice none 0 0,.int .i64 er]) /\ Below w.heap.size w w':=by
 have hB0:Below w.heap.size w (w.alloc (.cells C.cs 37)):=b_al (Below.refl _ _) Zl _;have hX0:Bx (w.alloc (.cells C.cs 37)) w.heap.size 37 C.cs:=Bx.new (W:=w) _ _ rfl;have hX1:=hX0.alloc (.cells #[.slice C.A C.n C.c,.slice C.A2 C.n2 C.c2] 24);have hB1:=hB0.alloc hB0.size (.cells #[.slice C.A C.n C.c,.slice C.A2 C.n2 C.c2] 24);have hR1:=hR.below hB1;have hwl:=Cse.whole_len hO;obtain ⟨nw,hn⟩:∃ nw,C.whole.length = nw:=⟨_,rfl⟩
 have CC:=concatR_any (some ⟨w.heap.size + 1,0,none⟩) 2 2 [.slice C.A C.n C.c,.slice C.A2 C.n2 C.c2] [C.l,C.l2] _ (RdLr.new (W:=w.alloc (.cells C.cs 37)) 24 #[.slice C.A C.n C.c,.slice C.A2 C.n2 C.c2] (by simp)) ⟨rfl,fun j hj=>by
  match j,hj with
  | 0,_=>exact ⟨C.A,C.c,by rw [<- hO.n]; rfl,hR1.past,hO.z⟩
  | 1,_=>exact ⟨C.A2,C.c2,by rw [<- hO.n2]; rfl,hR1.plan,hO.z2⟩⟩ rfl Zo (by
   have e:[C.l,C.l2].flatten = C.whole:=by simp [Cse.whole]
   rw [e]; omega)
 rw [show [C.l,C.l2].flatten = C.whole by simp [Cse.whole]] at CC;have X1:=Zh hX1;have B1:=Zh hB1;have HR:=Zh hR;have HN:=Zh hn;have k19_0:=hX0.cell (k:=19) (v:=.slice C.A C.n C.c) rfl;have k20_0:=hX0.cell (k:=20) (v:=.slice C.A2 C.n2 C.c2) rfl;have HWL:=Zh hwl;have HE:=Zh he;have ne:(er != 0) = true:=by simpa using hne
 have ne2:(er == 0) = false:=by simpa using hne
 clear hR hX0 hB0 hX1 hB1 hR1 he hne hn hwl;go_enter Tryz.func8,Tryz.ntmps8
 go_wp2_with (first
  | go_skip
  | (go_at_call 21; (with_reducible refine CC.mono ?_); rintro e w2 ⟨v,rfl,ho,hb⟩; obtain ⟨A2,c2,rfl,hr2,_⟩:=ho.read; rw [HN.out]; have X2:=Zh (X1.out.below hb); have B2:=Zh (B1.out.trans (hb.mono B1.out.size)); have W2:=Zh hr2; have lt2:=X2.out.lt; clear ho hr2 hb)
  | (refine wpList_load_box Zv 37 _ rfl w.heap.size rfl 37 C.cs _ X2.out Tryz.underlying37 rfl (by rw [C.size]; kernel_rfl) ?_)
  | (go_at_call 22; (with_reducible refine (check22_any C A2 c2 nw w2 (HR.out.below B2.out) hO W2.out HN.out).mono ?_); rintro e w3 ⟨rfl,hb⟩; rw [HE.out]; have X3:=Zh (X2.out.below hb); have B3:=Zh (b_cl B2.out Zl hb); have W3:=Zh (W2.out.below hb); have RB3:=Cse.rdi X3.out; have lt3:=X3.out.lt; clear hb))
 go_ret2;exact ⟨rfl,B3.out⟩
theorem together22_end (C:Cse) (w:World) (A:Option Addr) (m c:Nat) (A1:Option Addr) (m1 c1:Nat) (A2:Option Addr) (m2 c2:Nat) (fl:List Rc) (h:RdF w A C.rules) (hm:C.rules.length = m) (hz:A = none -> c = 0)
  (h1:RdF w A1 fl) (hm1:fl.length = m1) (hz1:A1 = none -> c1 = 0) (h2:RdF w A2 C.ldF) (hm2:C.ldF.length = m2) (hz2:A2 = none -> c2 = 0) (hK:C.tasks = fl) (g:Nat) (hg:g = w.heap.size) :
  Calls Tryz.prog 25 #[.slice (some ⟨g,0,none⟩) 3 3] (w.alloc (.cells #[.slice A m c,.slice A1 m1 c1,.slice A2 m2 c2] 33)) fun e w'=>∃ A' m' c',e = .returned (.slice A' m' c') /\ (C.rules ++ C.tasks ++ C.ldF).length = m' /\ RdF w' A' (C.rules ++ C.tasks ++ C.ldF) /\ (A' = none -> c' = 0) /\ Below w.heap.size w w':=by
 have hb:Below w.heap.size w (w.alloc (.cells #[.slice A m c,.slice A1 m1 c1,.slice A2 m2 c2] 33)):=b_al (Below.refl _ _) Zl _;have e:[C.rules,C.tasks,C.ldF].flatten = C.rules ++ C.tasks ++ C.ldF:=by simp
 have hl1:=C.rules_len;have hl2:=C.tasks_len;have hl3:=C.ld_len
 have T:=together22_any (some ⟨g,0,none⟩) 3 3 [.slice A m c,.slice A1 m1 c1,.slice A2 m2 c2] [C.rules,C.tasks,C.ldF] _ (RdLr.new (W:=w) 33 #[.slice A m c,.slice A1 m1 c1,.slice A2 m2 c2] hg) ⟨rfl,fun j hj=>by
  match j,hj with
  | 0,_=>exact ⟨A,c,by rw [<- hm]; rfl,h.below hb,hz⟩
  | 1,_=>exact ⟨A1,c1,by rw [<- hm1,<- hK]; rfl,by show RdF _ _ C.tasks; rw [hK]; exact h1.below hb,hz1⟩
  | 2,_=>exact ⟨A2,c2,by rw [<- hm2]; rfl,h2.below hb,hz2⟩⟩ rfl Zo (by rw [e]; simp only [List.length_append]; omega)
 rw [e] at T;refine T.mono fun e w' ⟨A',m',c',r,he,hr,hs,hrd,hz,hb'⟩=>?_
 have:=Cse.setF hs;subst this;exact ⟨A',m',c',he,hr,hrd,hz,hb.trans (hb'.mono (by simp))⟩
set_option maxRecDepth 100000 in
set_option maxHeartbeats 4000000 in
theorem audit22_good (C:Cse) (w:World) (hR:C.Rd w) (hO:C.Ok) (he:C.err = 0) :
  Calls Tryz.prog 8 #[.agg C.cs] w fun e w'=>∃ A' m c',e = .returned (.tuple #[.slice A' m c',.int .i64 0]) /\ C.found.length = m /\ RdF w' A' C.found /\ (A' = none -> c' = 0) /\ Below w.heap.size w w':=by
 have hB0:Below w.heap.size w (w.alloc (.cells C.cs 37)):=b_al (Below.refl _ _) Zl _;have hX0:Bx (w.alloc (.cells C.cs 37)) w.heap.size 37 C.cs:=Bx.new (W:=w) _ _ rfl;have hX1:=hX0.alloc (.cells #[.slice C.A C.n C.c,.slice C.A2 C.n2 C.c2] 24);have hB1:=hB0.alloc hB0.size (.cells #[.slice C.A C.n C.c,.slice C.A2 C.n2 C.c2] 24);have hR1:=hR.below hB1;have hwl:=Cse.whole_len hO;obtain ⟨nw,hn⟩:∃ nw,C.whole.length = nw:=⟨_,rfl⟩
 have CC:=concatR_any (some ⟨w.heap.size + 1,0,none⟩) 2 2 [.slice C.A C.n C.c,.slice C.A2 C.n2 C.c2] [C.l,C.l2] _ (RdLr.new (W:=w.alloc (.cells C.cs 37)) 24 #[.slice C.A C.n C.c,.slice C.A2 C.n2 C.c2] (by simp)) ⟨rfl,fun j hj=>by
  match j,hj with
  | 0,_=>exact ⟨C.A,C.c,by rw [<- hO.n]; rfl,hR1.past,hO.z⟩
  | 1,_=>exact ⟨C.A2,C.c2,by rw [<- hO.n2]; rfl,hR1.plan,hO.z2⟩⟩ rfl Zo (by
   have e:[C.l,C.l2].flatten = C.whole:=by simp [Cse.whole]
   rw [e]; omega)
 rw [show [C.l,C.l2].flatten = C.whole by simp [Cse.whole]] at CC;have X1:=Zh hX1;have B1:=Zh hB1;have HR:=Zh hR;have HN:=Zh hn;have k19_0:=hX0.cell (k:=19) (v:=.slice C.A C.n C.c) rfl;have k20_0:=hX0.cell (k:=20) (v:=.slice C.A2 C.n2 C.c2) rfl;have HWL:=Zh hwl;have HE:=Zh he;obtain ⟨hmay,_,_,htl,_⟩:=Cse.right he;have HT:=Zh (Cse.plan_tl htl);have HF:Hid (C.found = C.rules ++ C.tasks ++ C.ldF):=Zh (by unfold Cse.found; rw [if_pos he]);have CA:=fun (A:Option Addr) (c:Nat) W (h:RdR W A C.whole)=>audit16_any C.x A c C.whole W h Zo
 rw [hn] at CA;obtain ⟨⟨p,fl,er⟩,hV⟩:∃ X,audV C.k (C.i,C.a,C.b) C.l2 = X:=⟨_,rfl⟩;obtain ⟨m4,hm4⟩:∃ m,fl.length = m:=⟨_,rfl⟩;have HK:Hid (C.tasks = fl):=Zh (by unfold Cse.tasks; rw [hV]);have HM4:=Zh hm4;have CT:=fun W (h:C.Rd W)=>audit20_any C.K C.nk C.ck C.k hO.nk C.i C.a C.b C.A2 C.n2 C.c2 C.l2 hO.n2 W h.task hO.few hO.ck hO.zk hO.a hO.b h.plan (by have:=hO.hn2; omega) hV hm4
 obtain ⟨u0,u1,u2⟩:=p;unfold sp3 at CT;simp only at CT;have HRL:Hid ((auditV C.x C.whole).1 = C.rules):=Zh rfl;generalize (auditV C.x C.whole).2 = e3 at CA;have CA2:=CA;clear CA hV;have HLR:=Zh C.rules_len;have HLT:=Zh C.tasks_len;have HLL:=Zh C.ld_len;clear hR hX0 hB0 hX1 hB1 hR1 he hn hmay htl hm4 hwl;go_enter Tryz.func8,Tryz.ntmps8
 go_wp2_with (first
  | go_skip
  | (go_at_call 21; (with_reducible refine CC.mono ?_); rintro e w2 ⟨v,rfl,ho,hb⟩; obtain ⟨A2,c2,rfl,hr2,_⟩:=ho.read; rw [HN.out]; have X2:=Zh (X1.out.below hb); have B2:=Zh (B1.out.trans (hb.mono B1.out.size)); have W2:=Zh hr2; have lt2:=X2.out.lt; clear ho hr2 hb)
  | (refine wpList_load_box Zv 37 _ rfl w.heap.size rfl 37 C.cs _ X2.out Tryz.underlying37 rfl (by rw [C.size]; kernel_rfl) ?_)
  | (go_at_call 22; (with_reducible refine (check22_any C A2 c2 nw w2 (HR.out.below B2.out) hO W2.out HN.out).mono ?_); rintro e w3 ⟨rfl,hb⟩; rw [HE.out]; have X3:=Zh (X2.out.below hb); have B3:=Zh (b_cl B2.out Zl hb); have W3:=Zh (W2.out.below hb); have RB3:=Cse.rdi X3.out; have k19_3:=X3.out.cell (k:=19) (v:=.slice C.A C.n C.c) rfl; have k20_3:=X3.out.cell (k:=20) (v:=.slice C.A2 C.n2 C.c2) rfl; have k21_3:=X3.out.cell (k:=21) (v:=.slice C.K C.nk C.ck) rfl; have lt3:=X3.out.lt; clear hb)
  | refine wpList_load_bk Zv 23 _ rfl _ _ rfl C.x _ (RB3) Tryz.underlying23 rfl Zk ?_
  | (go_at_call 23; (with_reducible refine (CA2 A2 c2 _ W3.out).mono ?_); rintro e w4 ⟨A4,m3,c4,rfl,hm3,hr3,hz3,hb⟩; rw [HRL.out] at hm3 hr3; have X4:=Zh (X3.out.below hb); have B4:=Zh (b_cl B3.out Zl hb); have R4:=Zh hr3; have N4:=Zh hm3; have Z4:=Zh hz3; have k20_4:=X4.out.cell (k:=20) (v:=.slice C.A2 C.n2 C.c2) rfl; have k21_4:=X4.out.cell (k:=21) (v:=.slice C.K C.nk C.ck) rfl; have lt4:=X4.out.lt; clear hb hr3 hm3 hz3)
  | refine wpList_load_of17 Zv 27 _ rfl w.heap.size 22 rfl #[.int .i64 C.i,.int .i64 C.a,.int .i64 C.b] _ (Cse.spot X4.out) Tryz.underlying27 rfl Zk ?_
  | (go_at_call 24; (with_reducible refine (CT _ (HR.out.below B4.out)).mono ?_); rintro e w5 ⟨A5,c5,rfl,hr5,hz5,hb⟩; have X5:=Zh (X4.out.below hb); have B5:=Zh (b_cl B4.out Zl hb); have R5:=Zh (R4.out.below hb); have T5:=Zh hr5; have Y5:=Zh hz5; have lt5:=X5.out.lt; clear hb hr5 hz5)
  | (refine wpList_store_box Zv 27 _ _ rfl w5.heap.size #[.int .i64 u0,.int .i64 u1,.int .i64 u2] rfl rfl 27 #[.int .i64 0,.int .i64 0,.int .i64 0] (Bx.new (W:=w5) _ _ rfl) size_spot rfl (one3 _ _ _) (fun w6 u=>?_); have bb:=((Below.refl w5.heap.size w5).alloc Zl _).trans (u.bel w5.heap.size Zl); have X6:=Zh (X5.out.below bb); have B6:=Zh (b_cl B5.out Zl bb); have R6:=Zh (R5.out.below bb); have T6:=Zh (T5.out.below bb); have lt6:=X6.out.lt; clear u bb)
  | (refine wpList_load_box Zv 37 _ rfl w.heap.size rfl 37 C.cs _ X6.out Tryz.underlying37 rfl (by rw [C.size]; kernel_rfl) ?_)
  | (go_at_call 26; (with_reducible refine (loads22_any C w6 (HR.out.below B6.out) hO HT.out).mono ?_); rintro e w7 ⟨A7,m7,c7,rfl,hm7,hr7,hz7,hb⟩; have B7:=Zh (b_cl B6.out Zl hb); have R7:=Zh (R6.out.below hb); have T7:=Zh (T6.out.below hb); have L7:=Zh hr7; have M7:=Zh hm7; have Z7:=Zh hz7; clear hb hr7 hm7 hz7)
  | (go_at_call 25; (with_reducible refine (together22_end C w7 A4 m3 c4 A5 m4 c5 A7 m7 c7 fl R7.out N4.out Z4.out T7.out HM4.out Y5.out L7.out M7.out Z7.out HK.out _ rfl).mono ?_); rintro e w8 ⟨A8,m8,c8,rfl,hm8,hr8,hz8,hb⟩; have B8:=Zh (b_cl B7.out Zl hb); clear hb))
 go_ret2;rw [HF.out];exact ⟨A8,m8,c8,rfl,hm8,hr8,hz8,B8.out⟩
theorem audit22_any (C:Cse) (w:World) (hR:C.Rd w) (hO:C.Ok) :
  Calls Tryz.prog 8 #[.agg C.cs] w fun e w'=>∃ A' m c',e = .returned (.tuple #[.slice A' m c',.int .i64 C.err]) /\ C.found.length = m /\ RdF w' A' C.found /\ (A' = none -> c' = 0) /\ Below w.heap.size w w':=by
 by_cases he:C.err = 0
 ·rw [he]
  exact audit22_good C w hR hO he
 ·refine (audit22_bad C w hR hO rfl he).mono fun e w' ⟨h1,h2⟩=>?_
  have hf:C.found = []:=by unfold Cse.found; rw [if_neg he]
  rw [hf];exact ⟨none,0,0,h1,rfl,RdF.nil _ _,fun _=>rfl,h2⟩
noncomputable def Cse.pass (C:Cse):Bool:=C.err == 0 && C.found.length == 0
set_option maxRecDepth 100000 in
set_option maxHeartbeats 2000000 in
theorem passes22_any (C:Cse) (w:World) (hR:C.Rd w) (hO:C.Ok) :
  Calls Tryz.prog 13 #[.agg C.cs] w fun e w'=>e = .returned (.bool C.pass) /\ Below w.heap.size w w':=by
 have hB0:Below w.heap.size w (w.alloc (.cells C.cs 37)):=b_al (Below.refl _ _) Zl _;have hX0:Bx (w.alloc (.cells C.cs 37)) w.heap.size 37 C.cs:=Bx.new (W:=w) _ _ rfl;have CA:=audit22_any C _ (hR.below hB0) hO;have X0:=Zh hX0;have B0:=Zh hB0;by_cases he:C.err = 0
 ·obtain ⟨r,hr⟩:∃ r,(C.found.length == 0) = r:=⟨_,rfl⟩
  have HP:Hid (C.pass = r):=Zh (by unfold Cse.pass; rw [he,hr]; rfl);rw [he] at CA;have CA2:Calls Tryz.prog 8 #[.agg C.cs] (w.alloc (.cells C.cs 37)) fun e w'=>∃ A' m c',e = .returned (.tuple #[.slice A' m c',.int .i64 0]) /\ (((m:Nat):Int) == 0) = r /\ Below (w.alloc (.cells C.cs 37)).heap.size (w.alloc (.cells C.cs 37)) w':=CA.mono fun e w' ⟨A',m,c',h1,h2,h3,h4,h5⟩=>⟨A',m,c',h1,by rw [<- hr,h2,Bool.eq_iff_iff]; simp,h5⟩
  clear hr CA hR hO hB0 hX0 he;go_enter Tryz.func13,Tryz.ntmps13
  go_wp2_with (first
   | go_skip
   | (refine wpList_load_box Zv 37 _ rfl w.heap.size rfl 37 C.cs _ X0.out Tryz.underlying37 rfl (by rw [C.size]; kernel_rfl) ?_)
   | (go_at_call 8; (with_reducible refine CA2.mono ?_); rintro e w1 ⟨A1,m1,c1,rfl,hm1,hb1⟩))
  go_ret;rw [HP.out];exact ⟨rfl,b_cl B0.out Zl hb1⟩
 ·have HP:Hid (C.pass = false):=Zh (by unfold Cse.pass; rw [show (C.err == 0) = false by simpa using he]; rfl)
  have ne:(C.err == 0) = false:=by simpa using he
  clear hR hO hB0 hX0 he;go_enter Tryz.func13,Tryz.ntmps13
  go_wp2_with (first
   | go_skip
   | (refine wpList_load_box Zv 37 _ rfl w.heap.size rfl 37 C.cs _ X0.out Tryz.underlying37 rfl (by rw [C.size]; kernel_rfl) ?_)
   | (go_at_call 8; (with_reducible refine CA.mono ?_); rintro e w1 ⟨A1,m1,c1,rfl,_,_,_,hb1⟩))
  go_ret;rw [HP.out];exact ⟨rfl,b_cl B0.out Zl hb1⟩
def lineF (r:Rc):ByteArray:=(line15V r.1 r.2.1 r.2.2).1
def textF (l:List Rc):List UInt8:=l.flatMap fun r=>(lineF r).data.toList ++ [10]
noncomputable def Cse.rep (C:Cse):ByteArray:=if C.err = 0 then (if C.found = [] then ⟨#[99,108,101,97,114,10]⟩ else ⟨(textF C.found).toArray⟩) else ⟨#[]⟩
theorem lineF_size (r:Rc):(lineF r).size <= 2000:=by
 unfold lineF line15V;split
 ·rename_i h
  unfold err15 at h;split at h
  ·cases h
  ·split at h
   ·cases h
   ·split at h
    ·cases h
    ·have:=(find_size (c:=r.1) (x:=r.2.1) (y:=r.2.2) Zo Zo Zo Zo).2.2
     exact Nat.le_trans this Zo
 ·exact Nat.zero_le _
theorem textF_more {l:List Rc} {k:Nat} {r:Rc} (hk:k < l.length) (hr:l.getD k rz = r):textF (l.take (k + 1)) = textF (l.take k) ++ (lineF r).data.toList ++ [10]:=by
 have e:l[k]? = some r:=by
  rw [List.getElem?_eq_getElem hk];rw [List.getD_eq_getElem?_getD,List.getElem?_eq_getElem hk] at hr;simpa using hr
 unfold textF;rw [List.take_add_one,e];simp
theorem textF_le:∀ l:List Rc,(textF l).length <= 2001 * l.length
 | []=>Nat.zero_le _
 | r :: l=>by
  have ih:=textF_le l;have hz:=lineF_size r;have e:textF (r :: l) = ((lineF r).data.toList ++ [10]) ++ textF l:=rfl;rw [e];simp only [List.length_append,List.length_cons,List.length_nil,size_list];omega
theorem textF_take (l:List Rc) (k:Nat):(textF (l.take k)).length <= 2001 * l.length:=by
 have h1:=textF_le (l.take k);have h2:(l.take k).length <= l.length:=by rw [List.length_take]; omega
 omega
set_option maxRecDepth 100000 in
set_option maxHeartbeats 2000000 in
theorem report22_bad (C:Cse) (w:World) (hR:C.Rd w) (hO:C.Ok) (he:C.err ≠ 0) :
  Calls Tryz.prog 10 #[.agg C.cs] w fun e w'=>e = .returned (.tuple #[.string C.rep,.int .i64 C.err]) /\ Below w.heap.size w w':=by
 have hB0:Below w.heap.size w (w.alloc (.cells C.cs 37)):=b_al (Below.refl _ _) Zl _;have hX0:Bx (w.alloc (.cells C.cs 37)) w.heap.size 37 C.cs:=Bx.new (W:=w) _ _ rfl;have CA:=audit22_any C _ (hR.below hB0) hO;have X0:=Zh hX0;have B0:=Zh hB0;have HP:Hid (C.rep = ⟨#[]⟩):=Zh (if_neg he);have ne:(C.err != 0) = true:=by simpa using he
 have ne2:(C.err == 0) = false:=by simpa using he
 clear hR hO hB0 hX0 he;go_enter Tryz.func10,Tryz.ntmps10
 go_wp2_with (first
  | go_skip
  | (refine wpList_load_box Zv 37 _ rfl w.heap.size rfl 37 C.cs _ X0.out Tryz.underlying37 rfl (by rw [C.size]; kernel_rfl) ?_)
  | (go_at_call 8; (with_reducible refine CA.mono ?_); rintro e w1 ⟨A1,m1,c1,rfl,_,_,_,hb1⟩))
 go_ret2;rw [HP.out];exact ⟨rfl,b_cl B0.out Zl hb1⟩
set_option maxRecDepth 100000 in
set_option maxHeartbeats 2000000 in
theorem report22_none (C:Cse) (w:World) (hR:C.Rd w) (hO:C.Ok) (he:C.err = 0) (hf:C.found = []) :
  Calls Tryz.prog 10 #[.agg C.cs] w fun e w'=>e = .returned (.tuple #[.string C.rep,.int .i64 C.err]) /\ Below w.heap.size w w':=by
 have hB0:Below w.heap.size w (w.alloc (.cells C.cs 37)):=b_al (Below.refl _ _) Zl _;have hX0:Bx (w.alloc (.cells C.cs 37)) w.heap.size 37 C.cs:=Bx.new (W:=w) _ _ rfl;have CA:=audit22_any C _ (hR.below hB0) hO;have X0:=Zh hX0;have B0:=Zh hB0;have HP:Hid (C.rep = ⟨#[99,108,101,97,114,10]⟩):=Zh (by unfold Cse.rep; rw [if_pos he,if_pos hf]);rw [he,hf] at CA;rw [he];clear hR hO hB0 hX0 he hf;go_enter Tryz.func10,Tryz.ntmps10
 go_wp2_with (first
  | go_skip
  | (refine wpList_load_box Zv 37 _ rfl w.heap.size rfl 37 C.cs _ X0.out Tryz.underlying37 rfl (by rw [C.size]; kernel_rfl) ?_)
  | (go_at_call 8; (with_reducible refine CA.mono ?_); rintro e w1 ⟨A1,m1,c1,rfl,rfl,_,_,hb1⟩))
 go_ret2;rw [HP.out];exact ⟨rfl,b_cl B0.out Zl hb1⟩
set_option maxRecDepth 100000 in
set_option maxHeartbeats 2000000 in
theorem report22_some (C:Cse) (w:World) (hl:Laid15 w) (hR:C.Rd w) (hO:C.Ok) (he:C.err = 0) (hf:C.found ≠ []) :
  Calls Tryz.prog 10 #[.agg C.cs] w fun e w'=>e = .returned (.tuple #[.string C.rep,.int .i64 C.err]) /\ Below w.heap.size w w':=by
 have hB0:Below w.heap.size w (w.alloc (.cells C.cs 37)):=b_al (Below.refl _ _) Zl _;have hX0:Bx (w.alloc (.cells C.cs 37)) w.heap.size 37 C.cs:=Bx.new (W:=w) _ _ rfl;have CA:=audit22_any C _ (hR.below hB0) hO;have X0:=Zh hX0;have B0:=Zh hB0;have HP:Hid (C.rep = ⟨(textF C.found).toArray⟩):=Zh (by unfold Cse.rep; rw [if_pos he,if_neg hf]);have hlen:=C.found_len;have hpos:0 < C.found.length:=List.length_pos_iff.2 hf;have HL:=Zh hl;rw [he] at CA;rw [he];generalize C.found = l at *;obtain ⟨n,hn⟩:∃ n,l.length = n:=⟨_,rfl⟩;have HN:=Zh hn;have HTL:=Zh fun k=>textF_take l k
 rw [hn] at HTL hlen hpos;have CA2:Calls Tryz.prog 8 #[.agg C.cs] (w.alloc (.cells C.cs 37)) fun e w'=>∃ A' c',e = .returned (.tuple #[.slice A' n c',.int .i64 0]) /\ RdF w' A' l /\ Below (w.alloc (.cells C.cs 37)).heap.size (w.alloc (.cells C.cs 37)) w':=CA.mono fun e w' ⟨A',m,c',h1,h2,h3,h4,h5⟩=>⟨A',c',by rw [h1,<- hn,h2],h3,h5⟩
 have g0:((n:Int) == 0) = false:=by simp; omega
 clear hR hO hB0 hX0 he hf hn CA hl;go_enter Tryz.func10,Tryz.ntmps10
 go_wp2_with (first
  | go_skip
  | (refine wpList_load_box Zv 37 _ rfl w.heap.size rfl 37 C.cs _ X0.out Tryz.underlying37 rfl (by rw [C.size]; kernel_rfl) ?_)
  | (go_at_call 8; (with_reducible refine CA2.mono ?_); rintro e w1 ⟨A1,c1,rfl,hr1,hb⟩; have R1:=Zh hr1; have B1:=Zh (b_cl B0.out Zl hb); clear hr1 hb))
 have hfresh:=Lib.IsBuilderF.of (Lib.fresh_isBuilder 68 5 w1);have HF:=Zh hfresh;clear hfresh CA2 g0;go_loopw [24] (fun i wr=>∃ k:Nat,k <= n /\ i = .int .i64 k /\ Hid (Lib.IsBuilderF 68 5 w1.heap.size w1.heap.size (Lib.byteCells (textF (l.take k))) wr) /\ Below w1.heap.size w1 wr) (fun i _=>n - (intOf i).toNat)
 case atStart=>exact ⟨0,Nat.zero_le _,rfl,HF,(Below.refl _ _).alloc Zl _⟩
 case round =>
  obtain ⟨k,hk,rfl,HB,hb⟩:=hrel;have hwz:=hb.size;by_cases hlt:k < n
  ·obtain ⟨b,off,x,y,z,rfl,hbb,q0,q1,q2,hs⟩:=R1.out.at_ (k:=k) (by rw [HN.out]; exact hlt)
   rw [<- hb.cell (p:=⟨b,_,none⟩) hbb] at q0 q1 q2;have CO:=fun (W:World) (hw:Below w.heap.size w W)=>line15_any x y z W (HL.out.below hw)
   have HM:=Zh (textF_more (by rw [HN.out]; exact hlt) hs.out);have hle2:=HTL.out (k + 1);rw [HM.out,List.length_append,List.length_append,size_list] at hle2;simp only [List.length_singleton] at hle2;have HB1:=Zh (Lib.IsBuilderF.alloc HB.out (.cells #[.int .i64 x,.int .i64 y,.int .i64 z] 52));have hb':=Zh (hb.alloc hb.size (.cells #[.int .i64 x,.int .i64 y,.int .i64 z] 52));have hbw':=Zh (b_tr B1.out hb'.out);have hzs:(lineF (x,y,z)).size <= 2000:=lineF_size _;have HS:Hid ((line15V x y z).1 = lineF (x,y,z)):=Zh rfl;rw [HS.out] at CO;generalize lineF (x,y,z) = s at *;generalize (line15V x y z).2 = er at CO;have r1:∀ W:World,(Op.stringOp .add s ⟨#[10]⟩).run Tryz.prog W = .ok (.string (s ++ ⟨#[10]⟩)) W:=fun W=>run_string_add_sum W _ _ (by show s.size + 1 <= _; omega)
   have e10:(s ++ ⟨#[10]⟩:ByteArray).size = s.size + 1:=ByteArray.size_append;have HSA:Hid ((s ++ ⟨#[10]⟩:ByteArray).data.toList = s.data.toList ++ [10]):=Zh (by simp);generalize (s ++ ⟨#[10]⟩:ByteArray) = s2 at *;generalize hT:textF (l.take k) = T at HB1 HM hle2;clear hs hT HB HS
   go_wp2_with (first
    | (go_at_call 32; (with_reducible refine (CO _ hbw'.out).mono ?_); rintro e w2 ⟨rfl,hb2⟩; have HB2:=Zh (Lib.IsBuilderF.below HB1.out hb2); have hz2:=hb2.size; (try simp at hz2); have hbb2:=Zh (hb'.out.trans (hb2.mono hb'.out.size)))
    | (go_at_call 33; (with_reducible refine (wstr_any w1.heap.size w1.heap.size _ s2 _ HB2.out (by rw [cells_len]; omega) Zo).mono ?_); rintro e w3 ⟨rfl,h3,hb3⟩; rw [cells_join] at h3; have H3:=Zh (is_used h3); have hz3:=hb3.size; clear h3))
   go_roundw
   case rel=>exact ⟨k + 1,by omega,by go_num,Zh (by rw [HM.out,List.append_assoc,<- HSA.out]; exact H3.out),hbb2.out.trans hb3⟩
   case measure=>simp [intOf]; omega
  ·have HT:Hid (l.take k = l):=Zh (List.take_of_length_le (by rw [HN.out]; omega))
   go_wp2_with (go_at_call 34; (with_reducible refine (bstr_any w1.heap.size w1.heap.size _ _ HB.out Zo).mono ?_); rintro e w2 ⟨rfl,h2,hb2,_⟩);go_ret2;rw [HP.out,HT.out];exact ⟨rfl,b_tr B1.out (hb.trans hb2)⟩
theorem report22_any (C:Cse) (w:World) (hl:Laid15 w) (hR:C.Rd w) (hO:C.Ok) :
  Calls Tryz.prog 10 #[.agg C.cs] w fun e w'=>e = .returned (.tuple #[.string C.rep,.int .i64 C.err]) /\ Below w.heap.size w w':=by
 by_cases he:C.err = 0
 ·by_cases hf:C.found = []
  ·exact report22_none C w hR hO he hf
  ·exact report22_some C w hl hR hO he hf
 ·exact report22_bad C w hR hO he
end Go.Proofs.YtiamnbddbmgffaaGreatDoor
