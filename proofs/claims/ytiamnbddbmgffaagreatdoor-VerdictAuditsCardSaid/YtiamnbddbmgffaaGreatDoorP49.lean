/- Texts of the proofs of VerdictAudits, VerdictAll, VerdictRising, pressed: VerdRAud, ClauseRLine, VerdRRep. Conditions: as each theorem says. -/
import Derived.Test.YtiamnbddbmgffaaGreatDoorRows
import Derived.Test.YtiamnbddbmgffaaGreatDoorP48
import Derived.Test.YtiamnbddbmgffaaGreatDoorP37
import Derived.Test.YtiamnbddbmgffaaGreatDoorP35
namespace Go.Proofs.YtiamnbddbmgffaaGreatDoor
open Go.RowKit
set_option linter.unusedVariables false
set_option maxRecDepth 100000 in
set_option maxHeartbeats 2000000 in
theorem refaudit22_bad (C:Cse) (w:World) (hR:C.Rd w) (hO:C.Ok) {er:Int} (he:C.err = er) (hne:er ≠ 0) :
  Calls Tryz.prog 9 #[.agg C.cs] w fun e w'=>e = .returned (.tuple #[.slice none 0 0,.int .i64 er]) /\ Below w.heap.size w w':=by
 have hB0:Below w.heap.size w (w.alloc (.cells C.cs 30)):=b_al (Below.refl _ _) Zl _;have hX0:Bx (w.alloc (.cells C.cs 30)) w.heap.size 30 C.cs:=Bx.new (W:=w) _ _ rfl;have CC:=refcheck22_any C _ (hR.below hB0) hO;rw [he] at CC;have X0:=Zh hX0;have B0:=Zh hB0;have ne:(er != 0) = true:=by simpa using hne
 have ne2:(er == 0) = false:=by simpa using hne
 clear hR hO hB0 hX0 he hne;go_enter Tryz.func9,Tryz.ntmps9
 go_wp2_with (first
  | go_skip
  | (refine wpList_load_box Zv 30 _ rfl w.heap.size rfl 30 C.cs _ X0.out Tryz.underlying30 rfl (by rw [C.size]; kernel_rfl) ?_)
  | (go_at_call 27; (with_reducible refine CC.mono ?_); rintro e w1 ⟨rfl,hb1⟩))
 go_ret2;exact ⟨rfl,b_cl B0.out Zl hb1⟩
theorem ldF_no {C:Cse} (h0:chkL C.ns = 0) (h:peakV C.ns <= C.room):C.ldF = []:=by
 unfold Cse.ldF fitsE;rw [if_pos (decide_eq_true ⟨h0,h⟩)]
theorem ldF_yes {C:Cse} (h:C.room < peakV C.ns):C.ldF = [(15,beg C.l2,beg C.l2 + 1)]:=by
 unfold Cse.ldF fitsE;rw [decide_eq_false (fun c=>by have:=c.2; omega)];rfl
set_option maxRecDepth 100000 in
set_option maxHeartbeats 4000000 in
theorem refaudit22_no (C:Cse) (w:World) (hR:C.Rd w) (hO:C.Ok) (he:C.err = 0) (hp:peakV C.ns <= C.room) :
  Calls Tryz.prog 9 #[.agg C.cs] w fun e w'=>∃ A' m c',e = .returned (.tuple #[.slice A' m c',.int .i64 0]) /\ C.found.length = m /\ RdF w' A' C.found /\ (A' = none -> c' = 0) /\ OwnF w.heap.size w' (.slice A' m c') C.found /\ Below w.heap.size w w':=by
 have hB0:Below w.heap.size w (w.alloc (.cells C.cs 30)):=b_al (Below.refl _ _) Zl _;have hX0:Bx (w.alloc (.cells C.cs 30)) w.heap.size 30 C.cs:=Bx.new (W:=w) _ _ rfl;have CC:=refcheck22_any C _ (hR.below hB0) hO;rw [he] at CC;have X0:=Zh hX0;have B0:=Zh hB0;have HR:=Zh hR;obtain ⟨_,_,_,htl,hch⟩:=Cse.right he;have hbd:=(Cse.plan_tl htl).bd;have HF:Hid (C.found = C.rules ++ C.tasks ++ C.ldF):=Zh (by unfold Cse.found; rw [if_pos he]);have CW:=fun W (h:C.Rd W)=>refwhole22_any C W h hO
 have hwl:=Cse.whole_len hO;obtain ⟨nw,hn⟩:∃ nw,C.whole.length = nw:=⟨_,rfl⟩;have CA:=fun (A:Option Addr) (c:Nat) W (h:RdR W A C.whole)=>refaudit16_own C.x A c C.whole W h Zo
 rw [hn] at CW CA;obtain ⟨⟨p,fl,er⟩,hV⟩:∃ X,audV C.k (C.i,C.a,C.b) C.l2 = X:=⟨_,rfl⟩;obtain ⟨m4,hm4⟩:∃ m,fl.length = m:=⟨_,rfl⟩;have HK:Hid (C.tasks = fl):=Zh (by unfold Cse.tasks; rw [hV]);have HM4:=Zh hm4;have CT:=fun W (h:C.Rd W)=>raud20_any C.K C.nk C.ck C.k hO.nk C.i C.a C.b C.A2 C.n2 C.c2 C.l2 hO.n2 W h.task hO.few h.plan (by have:=hO.hn2; omega) hV hm4
 obtain ⟨u0,u1,u2⟩:=p;unfold sp3 at CT;simp only at CT;have HRL:Hid ((auditV C.x C.whole).1 = C.rules):=Zh rfl;generalize (auditV C.x C.whole).2 = e3 at CA;have CP:=fun W (h:RdN W C.L C.ns)=>refpeak21_any C.L C.cl C.nl C.ns W (Zh hO.nl) h hch
 have HLR:=C.rules_len;have HLT:=C.tasks_len;rw [HK.out,hm4] at HLT;have HE:=Zh (ldF_no hch hp);have g0:decide (C.room < peakV C.ns) = false:=decide_eq_false Zo;generalize peakV C.ns = pk at *;clear hR hO hB0 hX0 he hn hV hm4 htl hch hwl;go_enter Tryz.func9,Tryz.ntmps9
 go_upto_region 4 with (first
  | go_skip
  | (refine wpList_load_box Zv 30 _ rfl w.heap.size rfl 30 C.cs _ X0.out Tryz.underlying30 rfl (by rw [C.size]; kernel_rfl) ?_)
  | (go_at_call 27; (with_reducible refine CC.mono ?_); rintro e w1 ⟨rfl,hb1⟩; have X1:=Zh (X0.out.below hb1); have B1:=Zh (b_cl B0.out Zl hb1); have R1:=Zh (HR.out.below B1.out); clear hb1))
 (try go_frame);refine wp_region_noPanic ?_;refine wp_region_held_drew (S:=fun w'=>Below w1.heap.size w1 w') Zk ?_ (fun hHeld=>?_)
 ·exact b_dr (Below.refl _ _)
 refine Zt 0 (some 17) ?_;(try simp only [Zs]);refine Zt 1 (some 18) (v:=.agg (bk C.x)) (hy:=fun w' hSw=>exec_load_of17 (w.heap.size) 0 (bk C.x) _ w' rfl rfl (Cse.rdi (X1.out.below hSw)).range Tryz.underlying23 rfl (by rw [bk_size]; kernel_rfl)) ?_;(try simp only [Zs]);refine Zt 2 (some 19) (v:=.agg C.cs) (hy:=fun w' hSw=>exec_load_box (w.heap.size) 30 C.cs _ w' rfl rfl (X1.out.below hSw) Tryz.underlying30 rfl (by rw [C.size]; kernel_rfl)) ?_;(try simp only [Zs]);refine Zr 3 (some 20) fun K hK=>?_
 go_simp;(go_at_call 16; (with_reducible refine (CW _ (R1.out.below hHeld)).mono ?_); rintro e w2 ⟨AW,mW,cW,rfl,rfl,hr2,hb2⟩; have W2:=Zh hr2; clear hr2);go_wp2_with fail;refine hK.out _ _ (b_cl hHeld Zl Zm) (fun hHeld=>?_);clear hK K;(try simp only [Zs]);refine Zr 4 (some 21) fun K hK=>?_
 go_simp;(go_at_call 28; (with_reducible refine (CA AW cW _ (by first | exact W2.out | exact W2.out.below Zm)).mono ?_); rintro e w3 ⟨A3,m3,c3,rfl,hm3,_,_,ho3,hb3⟩; rw [HRL.out] at hm3 ho3; have O3:=Zh ho3; have N3:=Zh hm3; clear ho3 hm3);go_wp2_with fail;refine hK.out _ _ (b_cl hHeld Zl Zm) (fun hHeld=>?_);clear hK K;(try simp only [Zs]);refine Zt 5 (some 16) ?_;(try simp only [Zs]);refine Zt 6 (some 22) ?_;(try simp only [Zs]);refine Zt 7 (some 23) ?_;(try simp only [Zs]);refine Zt 8 (some 5) ?_;(try simp only [Zs]);refine Zt 9 (some 6) ?_;(try simp only [Zs]);refine wpAnyH_done Zk ?_ _;refine NoPanic.normal ?_;have X3:=Zh (X1.out.below hHeld);have B3:=Zh (b_cl B1.out Zl hHeld);have hbs:w.heap.size < w2.heap.size:=Nat.lt_of_lt_of_le X1.out.lt (by have h9:=hb2.size; simpa using h9);have hz3:=hb3.size;have k20_3:=X3.out.cell (k:=20) (v:=.slice C.A2 C.n2 C.c2) rfl;have k21_3:=X3.out.cell (k:=21) (v:=.slice C.K C.nk C.ck) rfl;have lt3:=X3.out.lt;clear hHeld hb2 hb3 W2 X1 B1 R1 X0 B0 CC CA CW
 go_upto_region 7 with (first
  | go_skip
  | refine wpList_load_of17 Zv 27 _ rfl w.heap.size 22 rfl #[.int .i64 C.i,.int .i64 C.a,.int .i64 C.b] _ (Cse.spot X3.out) Tryz.underlying27 rfl Zk ?_
  | (go_at_call 29; (with_reducible refine (CT _ (HR.out.below B3.out)).mono ?_); rintro e w4 ⟨A4,c4,rfl,hr4,hz4,hb⟩; have X4:=Zh (X3.out.below hb); have B4:=Zh (b_cl B3.out Zl hb); have O4:=Zh (OwnF.below O3.out hb); have T4:=Zh hr4; have Z4:=Zh hz4; have lt4:=X4.out.lt; have hz4':=hb.size; clear hb hr4 hz4)
  | (refine wpList_store_box Zv 27 _ _ rfl w4.heap.size #[.int .i64 u0,.int .i64 u1,.int .i64 u2] rfl rfl 27 #[.int .i64 0,.int .i64 0,.int .i64 0] (Bx.new (W:=w4) _ _ rfl) size_spot rfl (one3 _ _ _) (fun w5 u=>?_); have bb:=((Below.refl w4.heap.size w4).alloc Zl _).trans (u.bel w4.heap.size Zl); have X5:=Zh (X4.out.below bb); have B5:=Zh (b_cl B4.out Zl bb); have O5:=Zh (OwnF.below O4.out bb); have T5:=Zh (T4.out.below bb); have lt5:=X5.out.lt; have hz5:=bb.size; clear u bb)
  | (at_builtin; refine append_findC rfl _ _ rfl w2.heap.size _ C.rules fl rfl O5.out A4 m4 c4 rfl HM4.out T5.out Z4.out Zo Zo ?_; intro v6 w6 ho hg; have O6:=Zh ho; have hb6:=(Below.refl (w.heap.size + 1) w5).grown hg Zo (fun k hk=>by have:=(World.ownsRow.lt O5.out k hk).1; omega); have X6:=Zh (X5.out.keep hb6 Zo); have B6:=Zh (B5.out.trans (hb6.mono Zo)); have lt6:=X6.out.lt; have hz6:=hb6.size; clear ho hg))
 (try go_frame);have k25_6:=X6.out.cell (k:=25) (v:=.slice C.L C.nl C.cl) rfl;have k26_6:=X6.out.cell (k:=26) (v:=.int .i64 C.room) rfl;refine wp_region_noPanic ?_;refine wp_region_held_drew (S:=fun w'=>Below w6.heap.size w6 w') Zk ?_ (fun hHeld=>?_)
 ·exact b_dr (Below.refl _ _)
 refine Zt 0 (some 38) ?_;(try simp only [Zs]);refine Zt 1 (some 39) (hy:=by intro w' hSw; have q25:=c_cl k25_6 hSw; clear hSw; go_simp; try (with_reducible rfl)) ?_;(try simp only [Zs]);refine Zt 3 (some 41) ?_;(try simp only [Zs]);refine Zt 4 (some 42) (hy:=by intro w' hSw; have q26:=c_cl k26_6 hSw; clear hSw; go_simp; try (with_reducible rfl)) ?_;(try simp only [Zs]);refine Zr 2 (some 40) fun K hK=>?_
 go_simp;(go_at_call 30; (with_reducible refine (CP _ (HR.out.below (b_cl B6.out Zl hHeld)).load).mono ?_); rintro e w7 ⟨rfl,hb7⟩);go_wp2_with fail;refine hK.out _ _ (b_cl hHeld Zl Zm) (fun hHeld=>?_);clear hK K;(try simp only [Zs]);refine Zt 5 (some 43) ?_;(try simp only [Zs]);refine wpAnyH_done Zk ?_ _;refine NoPanic.normal ?_;obtain ⟨A9,c9,rfl,hr9,hz9⟩:=O6.out.read;go_wp2;go_ret2;rw [HF.out,HK.out,HE.out,List.append_nil];exact ⟨A9,_,c9,rfl,rfl,hr9.below hHeld,hz9,(OwnF.below O6.out hHeld).more Zo,b_cl B6.out Zl hHeld⟩
set_option maxRecDepth 100000 in
set_option maxHeartbeats 4000000 in
theorem refaudit22_yes (C:Cse) (w:World) (hR:C.Rd w) (hO:C.Ok) (he:C.err = 0) (hp:C.room < peakV C.ns) :
  Calls Tryz.prog 9 #[.agg C.cs] w fun e w'=>∃ A' m c',e = .returned (.tuple #[.slice A' m c',.int .i64 0]) /\ C.found.length = m /\ RdF w' A' C.found /\ (A' = none -> c' = 0) /\ OwnF w.heap.size w' (.slice A' m c') C.found /\ Below w.heap.size w w':=by
 have hB0:Below w.heap.size w (w.alloc (.cells C.cs 30)):=b_al (Below.refl _ _) Zl _;have hX0:Bx (w.alloc (.cells C.cs 30)) w.heap.size 30 C.cs:=Bx.new (W:=w) _ _ rfl;have CC:=refcheck22_any C _ (hR.below hB0) hO;rw [he] at CC;have X0:=Zh hX0;have B0:=Zh hB0;have HR:=Zh hR;obtain ⟨_,_,_,htl,hch⟩:=Cse.right he;have hbd:=(Cse.plan_tl htl).bd;have HF:Hid (C.found = C.rules ++ C.tasks ++ C.ldF):=Zh (by unfold Cse.found; rw [if_pos he]);have CW:=fun W (h:C.Rd W)=>refwhole22_any C W h hO
 have hwl:=Cse.whole_len hO;obtain ⟨nw,hn⟩:∃ nw,C.whole.length = nw:=⟨_,rfl⟩;have CA:=fun (A:Option Addr) (c:Nat) W (h:RdR W A C.whole)=>refaudit16_own C.x A c C.whole W h Zo
 rw [hn] at CW CA;obtain ⟨⟨p,fl,er⟩,hV⟩:∃ X,audV C.k (C.i,C.a,C.b) C.l2 = X:=⟨_,rfl⟩;obtain ⟨m4,hm4⟩:∃ m,fl.length = m:=⟨_,rfl⟩;have HK:Hid (C.tasks = fl):=Zh (by unfold Cse.tasks; rw [hV]);have HM4:=Zh hm4;have CT:=fun W (h:C.Rd W)=>raud20_any C.K C.nk C.ck C.k hO.nk C.i C.a C.b C.A2 C.n2 C.c2 C.l2 hO.n2 W h.task hO.few h.plan (by have:=hO.hn2; omega) hV hm4
 obtain ⟨u0,u1,u2⟩:=p;unfold sp3 at CT;simp only at CT;have HRL:Hid ((auditV C.x C.whole).1 = C.rules):=Zh rfl;generalize (auditV C.x C.whole).2 = e3 at CA;have CP:=fun W (h:RdN W C.L C.ns)=>refpeak21_any C.L C.cl C.nl C.ns W (Zh hO.nl) h hch
 have HLR:=C.rules_len;have HLT:=C.tasks_len;rw [HK.out,hm4] at HLT;have HE:=Zh (ldF_yes hp);have g0:decide (C.room < peakV C.ns) = true:=decide_eq_true hp;have CB:=fun W (h:RdR W C.A2 C.l2)=>refbeg_any C.A2 C.c2 C.n2 C.l2 W (Zh hO.n2) h (by have:=hO.hn2; omega)
 have hm15:m4 <= 5:=HLT;generalize peakV C.ns = pk at *;generalize beg C.l2 = y at *;clear hR hO hB0 hX0 he hn hV hm4 htl hch hwl;go_enter Tryz.func9,Tryz.ntmps9
 go_upto_region 4 with (first
  | go_skip
  | (refine wpList_load_box Zv 30 _ rfl w.heap.size rfl 30 C.cs _ X0.out Tryz.underlying30 rfl (by rw [C.size]; kernel_rfl) ?_)
  | (go_at_call 27; (with_reducible refine CC.mono ?_); rintro e w1 ⟨rfl,hb1⟩; have X1:=Zh (X0.out.below hb1); have B1:=Zh (b_cl B0.out Zl hb1); have R1:=Zh (HR.out.below B1.out); clear hb1))
 (try go_frame);refine wp_region_noPanic ?_;refine wp_region_held_drew (S:=fun w'=>Below w1.heap.size w1 w') Zk ?_ (fun hHeld=>?_)
 ·exact b_dr (Below.refl _ _)
 refine Zt 0 (some 17) ?_;(try simp only [Zs]);refine Zt 1 (some 18) (v:=.agg (bk C.x)) (hy:=fun w' hSw=>exec_load_of17 (w.heap.size) 0 (bk C.x) _ w' rfl rfl (Cse.rdi (X1.out.below hSw)).range Tryz.underlying23 rfl (by rw [bk_size]; kernel_rfl)) ?_;(try simp only [Zs]);refine Zt 2 (some 19) (v:=.agg C.cs) (hy:=fun w' hSw=>exec_load_box (w.heap.size) 30 C.cs _ w' rfl rfl (X1.out.below hSw) Tryz.underlying30 rfl (by rw [C.size]; kernel_rfl)) ?_;(try simp only [Zs]);refine Zr 3 (some 20) fun K hK=>?_
 go_simp;(go_at_call 16; (with_reducible refine (CW _ (R1.out.below hHeld)).mono ?_); rintro e w2 ⟨AW,mW,cW,rfl,rfl,hr2,hb2⟩; have W2:=Zh hr2; clear hr2);go_wp2_with fail;refine hK.out _ _ (b_cl hHeld Zl Zm) (fun hHeld=>?_);clear hK K;(try simp only [Zs]);refine Zr 4 (some 21) fun K hK=>?_
 go_simp;(go_at_call 28; (with_reducible refine (CA AW cW _ (by first | exact W2.out | exact W2.out.below Zm)).mono ?_); rintro e w3 ⟨A3,m3,c3,rfl,hm3,_,_,ho3,hb3⟩; rw [HRL.out] at hm3 ho3; have O3:=Zh ho3; have N3:=Zh hm3; clear ho3 hm3);go_wp2_with fail;refine hK.out _ _ (b_cl hHeld Zl Zm) (fun hHeld=>?_);clear hK K;(try simp only [Zs]);refine Zt 5 (some 16) ?_;(try simp only [Zs]);refine Zt 6 (some 22) ?_;(try simp only [Zs]);refine Zt 7 (some 23) ?_;(try simp only [Zs]);refine Zt 8 (some 5) ?_;(try simp only [Zs]);refine Zt 9 (some 6) ?_;(try simp only [Zs]);refine wpAnyH_done Zk ?_ _;refine NoPanic.normal ?_;have X3:=Zh (X1.out.below hHeld);have B3:=Zh (b_cl B1.out Zl hHeld);have hbs:w.heap.size < w2.heap.size:=Nat.lt_of_lt_of_le X1.out.lt (by have h9:=hb2.size; simpa using h9);have hz3:=hb3.size;have k20_3:=X3.out.cell (k:=20) (v:=.slice C.A2 C.n2 C.c2) rfl;have k21_3:=X3.out.cell (k:=21) (v:=.slice C.K C.nk C.ck) rfl;have lt3:=X3.out.lt;clear hHeld hb2 hb3 W2 X1 B1 R1 X0 B0 CC CA CW
 go_upto_region 7 with (first
  | go_skip
  | refine wpList_load_of17 Zv 27 _ rfl w.heap.size 22 rfl #[.int .i64 C.i,.int .i64 C.a,.int .i64 C.b] _ (Cse.spot X3.out) Tryz.underlying27 rfl Zk ?_
  | (go_at_call 29; (with_reducible refine (CT _ (HR.out.below B3.out)).mono ?_); rintro e w4 ⟨A4,c4,rfl,hr4,hz4,hb⟩; have X4:=Zh (X3.out.below hb); have B4:=Zh (b_cl B3.out Zl hb); have O4:=Zh (OwnF.below O3.out hb); have T4:=Zh hr4; have Z4:=Zh hz4; have lt4:=X4.out.lt; have hz4':=hb.size; clear hb hr4 hz4)
  | (refine wpList_store_box Zv 27 _ _ rfl w4.heap.size #[.int .i64 u0,.int .i64 u1,.int .i64 u2] rfl rfl 27 #[.int .i64 0,.int .i64 0,.int .i64 0] (Bx.new (W:=w4) _ _ rfl) size_spot rfl (one3 _ _ _) (fun w5 u=>?_); have bb:=((Below.refl w4.heap.size w4).alloc Zl _).trans (u.bel w4.heap.size Zl); have X5:=Zh (X4.out.below bb); have B5:=Zh (b_cl B4.out Zl bb); have O5:=Zh (OwnF.below O4.out bb); have T5:=Zh (T4.out.below bb); have lt5:=X5.out.lt; have hz5:=bb.size; clear u bb)
  | (at_builtin; refine append_findC rfl _ _ rfl w2.heap.size _ C.rules fl rfl O5.out A4 m4 c4 rfl HM4.out T5.out Z4.out Zo Zo ?_; intro v6 w6 ho hg; have O6:=Zh ho; have hb6:=(Below.refl (w.heap.size + 1) w5).grown hg Zo (fun k hk=>by have:=(World.ownsRow.lt O5.out k hk).1; omega); have X6:=Zh (X5.out.keep hb6 Zo); have B6:=Zh (B5.out.trans (hb6.mono Zo)); have lt6:=X6.out.lt; have hz6:=hb6.size; clear ho hg))
 (try go_frame);have k25_6:=X6.out.cell (k:=25) (v:=.slice C.L C.nl C.cl) rfl;have k26_6:=X6.out.cell (k:=26) (v:=.int .i64 C.room) rfl;refine wp_region_noPanic ?_;refine wp_region_held_drew (S:=fun w'=>Below w6.heap.size w6 w') Zk ?_ (fun hHeld=>?_)
 ·exact b_dr (Below.refl _ _)
 refine Zt 0 (some 38) ?_;(try simp only [Zs]);refine Zt 1 (some 39) (hy:=by intro w' hSw; have q25:=c_cl k25_6 hSw; clear hSw; go_simp; try (with_reducible rfl)) ?_;(try simp only [Zs]);refine Zt 3 (some 41) ?_;(try simp only [Zs]);refine Zt 4 (some 42) (hy:=by intro w' hSw; have q26:=c_cl k26_6 hSw; clear hSw; go_simp; try (with_reducible rfl)) ?_;(try simp only [Zs]);refine Zr 2 (some 40) fun K hK=>?_
 go_simp;(go_at_call 30; (with_reducible refine (CP _ (HR.out.below (b_cl B6.out Zl hHeld)).load).mono ?_); rintro e w7 ⟨rfl,hb7⟩);go_wp2_with fail;refine hK.out _ _ (b_cl hHeld Zl Zm) (fun hHeld=>?_);clear hK K;(try simp only [Zs]);refine Zt 5 (some 43) ?_;(try simp only [Zs]);refine wpAnyH_done Zk ?_ _;refine NoPanic.normal ?_;have X7:=Zh (X6.out.below hHeld);have B7:=Zh (b_cl B6.out Zl hHeld);have O7:=Zh (OwnF.below O6.out hHeld);have hz7:=hHeld.size;have k20_7:=X7.out.cell (k:=20) (v:=.slice C.A2 C.n2 C.c2) rfl;have lt7:=X7.out.lt;have hl7:(C.rules ++ fl).length <= 15:=by rw [List.length_append,HM4.out]; omega
 clear hHeld hb7
 go_wp2_with (first
  | go_skip
  | (go_at_call 31; (with_reducible refine (CB _ (HR.out.below B7.out).plan).mono ?_); rintro e w8 ⟨rfl,rfl⟩)
  | (at_builtin; refine append_findC rfl _ _ rfl w2.heap.size _ (C.rules ++ fl) [(15,y,y + 1)] rfl (OwnF.alloc O7.out _) (some ⟨w7.heap.size,0,none⟩) 1 1 rfl rfl (RdF.one _ _ _ _) (fun h=>by cases h) Zo (by simp; omega) ?_; intro v9 w9 ho hg; have O9:=Zh ho; have B9:=Zh ((B7.out.alloc B7.out.size _).grown hg (by simp; omega) (fun k hk=>by have:=(World.ownsRow.lt O7.out k hk).1; omega)); clear ho hg))
 obtain ⟨A9,c9,rfl,hr9,hz9⟩:=O9.out.read;go_ret2;rw [HF.out,HK.out,HE.out];exact ⟨A9,_,c9,rfl,rfl,hr9,hz9,OwnF.more O9.out Zo,B9.out⟩
theorem refaudit22_any (C:Cse) (w:World) (hR:C.Rd w) (hO:C.Ok) :
  Calls Tryz.prog 9 #[.agg C.cs] w fun e w'=>∃ A' m c',e = .returned (.tuple #[.slice A' m c',.int .i64 C.err]) /\ C.found.length = m /\ RdF w' A' C.found /\ (A' = none -> c' = 0) /\ Below w.heap.size w w':=by
 by_cases he:C.err = 0
 ·rw [he]
  by_cases hp:peakV C.ns <= C.room
  ·exact (refaudit22_no C w hR hO he hp).mono fun e w' ⟨A',m,c',h1,h2,h3,h4,_,h6⟩=>⟨A',m,c',h1,h2,h3,h4,h6⟩
  ·exact (refaudit22_yes C w hR hO he Zo).mono fun e w' ⟨A',m,c',h1,h2,h3,h4,_,h6⟩=>⟨A',m,c',h1,h2,h3,h4,h6⟩
 ·refine (refaudit22_bad C w hR hO rfl he).mono fun e w' ⟨h1,h2⟩=>?_
  have hf:C.found = []:=by unfold Cse.found; rw [if_neg he]
  rw [hf];exact ⟨none,0,0,h1,rfl,RdF.nil _ _,fun _=>rfl,h2⟩
theorem name_full {c:Int} (h:isC c):(nameV c).toList.isEmpty = false:=by
 obtain ⟨k,hk,rfl⟩:=isC_of h;rw [name_yes hk];exact not_empty (nm_size k hk).1
theorem refline15_none (c x y:Int) (w:World) (h:¬ isC c) :
  Calls Tryz.prog 35 #[.agg #[.int .i64 c,.int .i64 x,.int .i64 y]] w fun e w'=>e = .returned (.tuple #[.string ⟨#[]⟩,.int .i64 13]) /\ Below w.heap.size w w':=by
 have CN:=fun W=>refnm_any c W
 rw [name_no h] at CN;clear h;go_enter Tryz.func35,Tryz.ntmps35;go_wp2_with (go_at_call 72; (with_reducible refine (CN _).mono ?_); rintro e w1 ⟨rfl,hb1⟩; obtain ⟨hc1,hf1⟩:=bcell hb1; have hz1:=hb1.size; (try simp at hz1); have hlt1:w.heap.size < w1.heap.size:=Zo);go_ret2;refine ⟨rfl,?_⟩;exact Za
theorem refline15_span (c x y:Int) (w:World) (h:isC c) (h2:y <= x) :
  Calls Tryz.prog 35 #[.agg #[.int .i64 c,.int .i64 x,.int .i64 y]] w fun e w'=>e = .returned (.tuple #[.string ⟨#[]⟩,.int .i64 3]) /\ Below w.heap.size w w':=by
 have CN:=fun W=>refnm_any c W
 have hne:=name_full h;generalize nameV c = a at CN hne;clear h;go_enter Tryz.func35,Tryz.ntmps35;go_wp2_with (go_at_call 72; (with_reducible refine (CN _).mono ?_); rintro e w1 ⟨rfl,hb1⟩; obtain ⟨hc1,hf1⟩:=bcell hb1; have hz1:=hb1.size; (try simp at hz1); have hlt1:w.heap.size < w1.heap.size:=Zo);go_ret2;refine ⟨rfl,?_⟩;exact Za
theorem refline15_low (c x y:Int) (w:World) (h:isC c) (h2:¬ y <= x) (h3:x < 0) :
  Calls Tryz.prog 35 #[.agg #[.int .i64 c,.int .i64 x,.int .i64 y]] w fun e w'=>e = .returned (.tuple #[.string ⟨#[]⟩,.int .i64 4]) /\ Below w.heap.size w w':=by
 have CN:=fun W=>refnm_any c W
 have hne:=name_full h;generalize nameV c = a at CN hne;clear h;go_enter Tryz.func35,Tryz.ntmps35;go_wp2_with (go_at_call 72; (with_reducible refine (CN _).mono ?_); rintro e w1 ⟨rfl,hb1⟩; obtain ⟨hc1,hf1⟩:=bcell hb1; have hz1:=hb1.size; (try simp at hz1); have hlt1:w.heap.size < w1.heap.size:=Zo);go_ret2;refine ⟨rfl,?_⟩;exact Za
theorem refline15_high (c x y:Int) (w:World) (h:isC c) (h2:¬ y <= x) (h3:¬ x < 0) (h4:40320 < y) :
  Calls Tryz.prog 35 #[.agg #[.int .i64 c,.int .i64 x,.int .i64 y]] w fun e w'=>e = .returned (.tuple #[.string ⟨#[]⟩,.int .i64 4]) /\ Below w.heap.size w w':=by
 have CN:=fun W=>refnm_any c W
 have hne:=name_full h;generalize nameV c = a at CN hne;clear h;go_enter Tryz.func35,Tryz.ntmps35;go_wp2_with (go_at_call 72; (with_reducible refine (CN _).mono ?_); rintro e w1 ⟨rfl,hb1⟩; obtain ⟨hc1,hf1⟩:=bcell hb1; have hz1:=hb1.size; (try simp at hz1); have hlt1:w.heap.size < w1.heap.size:=Zo);go_ret2;refine ⟨rfl,?_⟩;exact Za
set_option maxHeartbeats 1000000 in
theorem refline15_ok (c x y:Int) (w:World) (h:isC c) (h2:¬ y <= x) (h3:¬ x < 0) (h4:¬ 40320 < y) :
  Calls Tryz.prog 35 #[.agg #[.int .i64 c,.int .i64 x,.int .i64 y]] w fun e w'=>e = .returned (.tuple #[.string (findB c x y),.int .i64 0]) /\ Below w.heap.size w w':=by
 have CN:=fun W=>refnm_any c W
 have CA:=fun W=>refar_any c W
 have CT:=fun W=>reftold_any x y W Zo Zo Zo Zo
 have hne:=name_full h;have hz:=find_size (c:=c) (x:=x) (y:=y) Zo Zo Zo Zo;have hz3:=hz.2.2;have hF:findB c x y = ((((artW ++ artV c) ++ ⟨#[32]⟩) ++ nameV c) ++ ⟨#[32]⟩) ++ toldB x y:=rfl;rw [hF] at hz3;have s1:artW.size = 4:=rfl;have s2:(⟨#[32]⟩:ByteArray).size = 1:=rfl;have r1:∀ W:World,(Op.stringOp .add ⟨#[97,114,116,46]⟩ (artV c)).run Tryz.prog W = .ok (.string (artW ++ artV c)) W:=fun W=>run_string_add_sum W artW _ Zo
 have r2:∀ W:World,(Op.stringOp .add (artW ++ artV c) ⟨#[32]⟩).run Tryz.prog W = .ok (.string ((artW ++ artV c) ++ ⟨#[32]⟩)) W:=fun W=>run_string_add_sum W _ _ (by simp only [ByteArray.size_append] at hz3 ⊢; omega)
 have r3:∀ W:World,(Op.stringOp .add ((artW ++ artV c) ++ ⟨#[32]⟩) (nameV c)).run Tryz.prog W = .ok (.string (((artW ++ artV c) ++ ⟨#[32]⟩) ++ nameV c)) W:=fun W=>run_string_add_sum W _ _ (by simp only [ByteArray.size_append] at hz3 ⊢; omega)
 have r4:∀ W:World,(Op.stringOp .add (((artW ++ artV c) ++ ⟨#[32]⟩) ++ nameV c) ⟨#[32]⟩).run Tryz.prog W = .ok (.string ((((artW ++ artV c) ++ ⟨#[32]⟩) ++ nameV c) ++ ⟨#[32]⟩)) W:=fun W=>run_string_add_sum W _ _ (by simp only [ByteArray.size_append] at hz3 ⊢; omega)
 have r5:∀ W:World,(Op.stringOp .add ((((artW ++ artV c) ++ ⟨#[32]⟩) ++ nameV c) ++ ⟨#[32]⟩) (toldB x y)).run Tryz.prog W = .ok (.string (findB c x y)) W:=fun W=>run_string_add_sum W _ _ (by simp only [ByteArray.size_append] at hz3 ⊢; omega)
 clear hz hz3 hF s1 s2;generalize findB c x y = z at r5;generalize toldB x y = p at CT r5;generalize (((artW ++ artV c) ++ ⟨#[32]⟩) ++ nameV c) ++ ⟨#[32]⟩ = d4 at r4 r5;generalize ((artW ++ artV c) ++ ⟨#[32]⟩) ++ nameV c = d3 at r3 r4;generalize (artW ++ artV c) ++ ⟨#[32]⟩ = d2 at r2 r3;generalize artW ++ artV c = d1 at r1 r2;generalize nameV c = a at CN hne r3;generalize artV c = b at CA r1;clear h;go_enter Tryz.func35,Tryz.ntmps35;go_wp2_with (go_at_call 72; (with_reducible refine (CN _).mono ?_); rintro e w1 ⟨rfl,hb1⟩; obtain ⟨hc1,hf1⟩:=bcell hb1; have hz1:=hb1.size; (try simp at hz1); have hlt1:w.heap.size < w1.heap.size:=Zo);have q0:∀ p:BelowOf w1,p.world.cell? ⟨w.heap.size,0,none⟩ = some (.int .i64 c):=fun p=>p.cell (by rw [hc1 _ _ (by simp)]; simp)
 have q1:∀ p:BelowOf w1,p.world.cell? ⟨w.heap.size,1,none⟩ = some (.int .i64 x):=fun p=>p.cell (by rw [hc1 _ _ (by simp)]; simp)
 have q2:∀ p:BelowOf w1,p.world.cell? ⟨w.heap.size,2,none⟩ = some (.int .i64 y):=fun p=>p.cell (by rw [hc1 _ _ (by simp)]; simp)
 refine wp_region_bel Zk Zk ?_
 repeat (go_big_quiet_step (first
  | (go_at_call 73; (with_reducible exact Calls.bel_of (CA _)))
  | (go_at_call 72; (with_reducible exact Calls.bel_of (CN _)))
  | (go_at_call 74; (with_reducible exact Calls.bel_of (CT _)))))
 refine wpQuiet_nil ?_;refine bel_all fun wq hbq=>?_
 go_wp2;go_ret2;refine ⟨rfl,?_⟩;exact Za
theorem refline15_any (c x y:Int) (w:World) :
  Calls Tryz.prog 35 #[.agg #[.int .i64 c,.int .i64 x,.int .i64 y]] w fun e w'=>e = .returned (.tuple #[.string (line15V c x y).1,.int .i64 (line15V c x y).2]) /\ Below w.heap.size w w':=by
 by_cases h:isC c
 ·by_cases h2:y <= x
  ·rw [line15_wrong (err15_span h h2) Zd]; exact refline15_span c x y w h h2
  ·by_cases h3:x < 0
   ·rw [line15_wrong (err15_range h h2 (.inl h3)) Zd]; exact refline15_low c x y w h h2 h3
   ·by_cases h4:40320 < y
    ·rw [line15_wrong (err15_range h h2 (.inr h4)) Zd]; exact refline15_high c x y w h h2 h3 h4
    ·rw [line15_good (err15_ok h h2 (fun q=>q.elim h3 h4))]; exact refline15_ok c x y w h h2 h3 h4
 ·rw [line15_wrong (err15_none h) Zd]; exact refline15_none c x y w h
set_option maxRecDepth 100000 in
set_option maxHeartbeats 2000000 in
theorem refreport22_bad (C:Cse) (w:World) (hR:C.Rd w) (hO:C.Ok) (he:C.err ≠ 0) :
  Calls Tryz.prog 11 #[.agg C.cs] w fun e w'=>e = .returned (.tuple #[.string C.rep,.int .i64 C.err]) /\ Below w.heap.size w w':=by
 have hB0:Below w.heap.size w (w.alloc (.cells C.cs 30)):=b_al (Below.refl _ _) Zl _;have hX0:Bx (w.alloc (.cells C.cs 30)) w.heap.size 30 C.cs:=Bx.new (W:=w) _ _ rfl;have CA:=refaudit22_any C _ (hR.below hB0) hO;have X0:=Zh hX0;have B0:=Zh hB0;have HP:Hid (C.rep = ⟨#[]⟩):=Zh (if_neg he);have ne:(C.err != 0) = true:=by simpa using he
 have ne2:(C.err == 0) = false:=by simpa using he
 clear hR hO hB0 hX0 he;go_enter Tryz.func11,Tryz.ntmps11
 go_wp2_with (first
  | go_skip
  | (refine wpList_load_box Zv 30 _ rfl w.heap.size rfl 30 C.cs _ X0.out Tryz.underlying30 rfl (by rw [C.size]; kernel_rfl) ?_)
  | (go_at_call 9; (with_reducible refine CA.mono ?_); rintro e w1 ⟨A1,m1,c1,rfl,_,_,_,hb1⟩))
 go_ret2;rw [HP.out];exact ⟨rfl,b_cl B0.out Zl hb1⟩
set_option maxRecDepth 100000 in
set_option maxHeartbeats 2000000 in
theorem refreport22_none (C:Cse) (w:World) (hR:C.Rd w) (hO:C.Ok) (he:C.err = 0) (hf:C.found = []) :
  Calls Tryz.prog 11 #[.agg C.cs] w fun e w'=>e = .returned (.tuple #[.string C.rep,.int .i64 C.err]) /\ Below w.heap.size w w':=by
 have hB0:Below w.heap.size w (w.alloc (.cells C.cs 30)):=b_al (Below.refl _ _) Zl _;have hX0:Bx (w.alloc (.cells C.cs 30)) w.heap.size 30 C.cs:=Bx.new (W:=w) _ _ rfl;have CA:=refaudit22_any C _ (hR.below hB0) hO;have X0:=Zh hX0;have B0:=Zh hB0;have HP:Hid (C.rep = ⟨#[99,108,101,97,114,10]⟩):=Zh (by unfold Cse.rep; rw [if_pos he,if_pos hf]);rw [he,hf] at CA;rw [he];clear hR hO hB0 hX0 he hf;go_enter Tryz.func11,Tryz.ntmps11
 go_wp2_with (first
  | go_skip
  | (refine wpList_load_box Zv 30 _ rfl w.heap.size rfl 30 C.cs _ X0.out Tryz.underlying30 rfl (by rw [C.size]; kernel_rfl) ?_)
  | (go_at_call 9; (with_reducible refine CA.mono ?_); rintro e w1 ⟨A1,m1,c1,rfl,rfl,_,_,hb1⟩))
 go_ret2;rw [HP.out];exact ⟨rfl,b_cl B0.out Zl hb1⟩
set_option maxRecDepth 100000 in
set_option maxHeartbeats 2000000 in
theorem refreport22_some (C:Cse) (w:World) (hR:C.Rd w) (hO:C.Ok) (he:C.err = 0) (hf:C.found ≠ []) :
  Calls Tryz.prog 11 #[.agg C.cs] w fun e w'=>e = .returned (.tuple #[.string C.rep,.int .i64 C.err]) /\ Below w.heap.size w w':=by
 have hB0:Below w.heap.size w (w.alloc (.cells C.cs 30)):=b_al (Below.refl _ _) Zl _;have hX0:Bx (w.alloc (.cells C.cs 30)) w.heap.size 30 C.cs:=Bx.new (W:=w) _ _ rfl;have CA:=refaudit22_any C _ (hR.below hB0) hO;have X0:=Zh hX0;have B0:=Zh hB0;have HP:Hid (C.rep = ⟨(textF C.found).toArray⟩):=Zh (by unfold Cse.rep; rw [if_pos he,if_neg hf]);have hlen:=C.found_len;have hpos:0 < C.found.length:=List.length_pos_iff.2 hf;rw [he] at CA;rw [he];generalize C.found = l at *;obtain ⟨n,hn⟩:∃ n,l.length = n:=⟨_,rfl⟩;have HN:=Zh hn;have HTL:=Zh fun k=>textF_take l k
 rw [hn] at HTL hlen hpos;have CA2:Calls Tryz.prog 9 #[.agg C.cs] (w.alloc (.cells C.cs 30)) fun e w'=>∃ A' c',e = .returned (.tuple #[.slice A' n c',.int .i64 0]) /\ RdF w' A' l /\ Below (w.alloc (.cells C.cs 30)).heap.size (w.alloc (.cells C.cs 30)) w':=CA.mono fun e w' ⟨A',m,c',h1,h2,h3,h4,h5⟩=>⟨A',c',by rw [h1,<- hn,h2],h3,h5⟩
 have g0:((n:Int) == 0) = false:=by simp; omega
 clear hR hO hB0 hX0 he hf hn CA;go_enter Tryz.func11,Tryz.ntmps11
 go_wp2_with (first
  | go_skip
  | (refine wpList_load_box Zv 30 _ rfl w.heap.size rfl 30 C.cs _ X0.out Tryz.underlying30 rfl (by rw [C.size]; kernel_rfl) ?_)
  | (go_at_call 9; (with_reducible refine CA2.mono ?_); rintro e w1 ⟨A1,c1,rfl,hr1,hb⟩; have R1:=Zh hr1; have B1:=Zh (b_cl B0.out Zl hb); clear hr1 hb))
 clear CA2 g0;go_loopw [6,7] (fun v i wr=>∃ (k:Nat) (T:ByteArray),k <= n /\ i = .int .i64 k /\ v = .string T /\ Hid (T.data.toList = textF (l.take k)) /\ Below w1.heap.size w1 wr) (fun _ i _=>n - (intOf i).toNat)
 case atStart=>exact ⟨0,⟨#[]⟩,Nat.zero_le _,rfl,rfl,Zh rfl,Below.refl _ _⟩
 case round =>
  obtain ⟨k,T,hk,rfl,rfl,HT,hb⟩:=hrel;by_cases hlt:k < n
  ·obtain ⟨b,off,x,y,z,rfl,hbb,q0,q1,q2,hs⟩:=R1.out.at_ (k:=k) (by rw [HN.out]; exact hlt)
   rw [<- hb.cell (p:=⟨b,_,none⟩) hbb] at q0 q1 q2;have CO:=fun (W:World)=>refline15_any x y z W
   have HM:=Zh (textF_more (by rw [HN.out]; exact hlt) hs.out);have hle2:=HTL.out (k + 1);rw [HM.out,<- HT.out,List.length_append,List.length_append,size_list,size_list] at hle2;simp only [List.length_singleton] at hle2;have HS:Hid ((line15V x y z).1 = lineF (x,y,z)):=Zh rfl;rw [HS.out] at CO;generalize lineF (x,y,z) = s at *;generalize (line15V x y z).2 = er at CO;have hsz:(T ++ s).size = T.size + s.size:=ByteArray.size_append;have r1:∀ W:World,(Op.stringOp .add T s).run Tryz.prog W = .ok (.string (T ++ s)) W:=fun W=>run_string_add_sum W _ _ Zo
   have r2:∀ W:World,(Op.stringOp .add (T ++ s) ⟨#[10]⟩).run Tryz.prog W = .ok (.string ((T ++ s) ++ ⟨#[10]⟩)) W:=fun W=>run_string_add_sum W _ _ (by rw [hsz]; show T.size + s.size + 1 <= _; omega)
   clear hs hsz HS;go_wp2_with (go_at_call 35; (with_reducible refine (CO _).mono ?_); rintro e w2 ⟨rfl,hb2⟩);go_roundw
   case rel=>exact ⟨k + 1,(T ++ s) ++ ⟨#[10]⟩,by omega,by go_num,rfl,Zh (by rw [HM.out,<- HT.out,ByteArray.data_append,ByteArray.data_append,Array.toList_append,Array.toList_append]),b_cl hb Zl hb2⟩
   case measure=>simp [intOf]; omega
  ·have HE:Hid (l.take k = l):=Zh (List.take_of_length_le (by rw [HN.out]; omega))
   go_wp2;go_ret2;have e:=HT.out;rw [HE.out] at e;refine ⟨?_,b_cl B1.out Zl hb⟩;rw [HP.out,<- e];rfl
theorem refreport22_any (C:Cse) (w:World) (hR:C.Rd w) (hO:C.Ok) :
  Calls Tryz.prog 11 #[.agg C.cs] w fun e w'=>e = .returned (.tuple #[.string C.rep,.int .i64 C.err]) /\ Below w.heap.size w w':=by
 by_cases he:C.err = 0
 ·by_cases hf:C.found = []
  ·exact refreport22_none C w hR hO he hf
  ·exact refreport22_some C w hR hO he hf
 ·exact refreport22_bad C w hR hO he
end Go.Proofs.YtiamnbddbmgffaaGreatDoor
