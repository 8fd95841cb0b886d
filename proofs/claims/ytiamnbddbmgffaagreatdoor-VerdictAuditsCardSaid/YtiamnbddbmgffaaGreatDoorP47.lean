/- Texts of the proofs of VerdictAudits, VerdictAll, VerdictRising, pressed: ErrandRStepO, ErrandRStep, TrailRChk, Bool4, TrailRAudM. Conditions: as each theorem says. -/
import Derived.Test.YtiamnbddbmgffaaGreatDoorRows
import Derived.Test.YtiamnbddbmgffaaGreatDoorP46
namespace Go.Proofs.YtiamnbddbmgffaaGreatDoor
open Go.RowKit
set_option linter.unusedVariables false
set_option linter.unusedVariables false in
set_option maxRecDepth 20000 in
set_option maxHeartbeats 2000000 in
theorem refstep_rest (A:Option Addr) (n c:Nat) (l:List Tk) (hn:l.length = n) (i x y m k:Int) (w:World) (h:RdK w A l) (few:Few l) (hl:n <= 2001) (ok:∀ t ∈ l,TkOk t) (fit:Fits l (i,x,y)) (k3:¬ k = 3) (k2:¬ k = 2) :
  Calls Tryz.prog 65 #[.slice A n c,.agg #[.int .i64 i,.int .i64 x,.int .i64 y],.int .i64 m,.int .i64 k] w fun e w'=>e = .returned (.tuple #[.agg (sp3 (stepT l (i,x,y) k)),.agg #[.bool (b0 l (i,x,y) k),.bool (b1 l (i,x,y) k),.bool (b2 l (i,x,y) m k),.bool (b3 (i,x,y) k)]]) /\ Below w.heap.size w w':=by
 have fit0:=fit;obtain ⟨i0,i1,fend,_⟩:=fit0;simp only at i0 i1;rw [hn] at i1;obtain ⟨j,rfl⟩:∃ j:Nat,i = j:=⟨i.toNat,by omega⟩;have HK:=Zh h;have E0:b0 l ((j:Int),x,y) k = false:=by unfold b0; exact decide_eq_false (fun c=>k3 c.1)
 have E1:b1 l ((j:Int),x,y) k = false:=by unfold b1; exact decide_eq_false (fun c=>k2 c.1)
 have E2:b2 l ((j:Int),x,y) m k = false:=by unfold b2; exact decide_eq_false (fun c=>k2 c.1)
 have kk3:(k == 3) = false:=by simp [k3]
 have kk2:(k == 2) = false:=by simp [k2]
 have kk1:(k != 2) = true:=by simp [k2]
 by_cases hy:0 < y
 ·have E3:b3 ((j:Int),x,y) k = true:=by unfold b3; exact decide_eq_true ⟨hy,k2⟩
  clear fend;rw [E0,E1,E2,E3,go_stay (s:=((j:Int),x,y)) (fun c=>k3 c.1) (fun c=>k2 c.1)];have NR:Near l ((j:Int),x,y):=fit.near;have CP:=fun W (h:RdK W A l)=>refpast19_any A n c l hn (j:Int) (x) (y) W h Zo ok NR
  obtain ⟨⟨i2,x2,y2⟩,hP⟩:∃ P,pastT l ((j:Int),x,y) = P:=⟨_,rfl⟩
  try simp only at ⊢
  rw [hP] at CP ⊢;unfold sp3 at CP ⊢;simp only at CP ⊢;clear k3 k2;clear E0 E1 E2 E3 NR hP ok few fit h i0 i1 hn;have S0:Bx ((((w.alloc (.cells #[.int .i64 (j:Int),.int .i64 x,.int .i64 y] 27)).alloc (.cells #[.int .i64 0,.int .i64 0,.int .i64 0] 27)).alloc (.cells #[.bool false,.bool false,.bool false,.bool false] 110)).alloc (.cells #[.bool false,.bool false,.bool false,.bool false] 110)) (w.heap.size) 27 #[.int .i64 (j:Int),.int .i64 x,.int .i64 y]:=(((Bx.new (W:=w) _ _ rfl).alloc _).alloc _).alloc _;have P0:Bx ((((w.alloc (.cells #[.int .i64 (j:Int),.int .i64 x,.int .i64 y] 27)).alloc (.cells #[.int .i64 0,.int .i64 0,.int .i64 0] 27)).alloc (.cells #[.bool false,.bool false,.bool false,.bool false] 110)).alloc (.cells #[.bool false,.bool false,.bool false,.bool false] 110)) (w.heap.size + 1) 27 #[.int .i64 0,.int .i64 0,.int .i64 0]:=((Bx.new (W:=w.alloc (.cells #[.int .i64 (j:Int),.int .i64 x,.int .i64 y] 27)) _ _ (by simp)).alloc _).alloc _;have Q0:Bx ((((w.alloc (.cells #[.int .i64 (j:Int),.int .i64 x,.int .i64 y] 27)).alloc (.cells #[.int .i64 0,.int .i64 0,.int .i64 0] 27)).alloc (.cells #[.bool false,.bool false,.bool false,.bool false] 110)).alloc (.cells #[.bool false,.bool false,.bool false,.bool false] 110)) (w.heap.size + 1 + 1) 110 #[.bool false,.bool false,.bool false,.bool false]:=(Bx.new (W:=(w.alloc (.cells #[.int .i64 (j:Int),.int .i64 x,.int .i64 y] 27)).alloc (.cells #[.int .i64 0,.int .i64 0,.int .i64 0] 27)) _ _ (by simp)).alloc _;have X0:Bx ((((w.alloc (.cells #[.int .i64 (j:Int),.int .i64 x,.int .i64 y] 27)).alloc (.cells #[.int .i64 0,.int .i64 0,.int .i64 0] 27)).alloc (.cells #[.bool false,.bool false,.bool false,.bool false] 110)).alloc (.cells #[.bool false,.bool false,.bool false,.bool false] 110)) (w.heap.size + 1 + 1 + 1) 110 #[.bool false,.bool false,.bool false,.bool false]:=Bx.new (W:=((w.alloc (.cells #[.int .i64 (j:Int),.int .i64 x,.int .i64 y] 27)).alloc (.cells #[.int .i64 0,.int .i64 0,.int .i64 0] 27)).alloc (.cells #[.bool false,.bool false,.bool false,.bool false] 110)) _ _ (by simp);have B0:Below w.heap.size w ((((w.alloc (.cells #[.int .i64 (j:Int),.int .i64 x,.int .i64 y] 27)).alloc (.cells #[.int .i64 0,.int .i64 0,.int .i64 0] 27)).alloc (.cells #[.bool false,.bool false,.bool false,.bool false] 110)).alloc (.cells #[.bool false,.bool false,.bool false,.bool false] 110)):=Zq;have HS0:=Zh S0;have HP0:=Zh P0;have HQ0:=Zh Q0;have HX0:=Zh X0;have HB0:=Zh B0;clear S0 P0 Q0 X0 B0;go_enter Tryz.func65,Tryz.ntmps65;go_upto_region 14 with (refine wpList_store_fld Zv 4 (.tmp 24) (.tmp 23) rfl (w.heap.size + 1 + 1 + 1) 3 (.bool true) rfl rfl rfl 110 #[.bool false,.bool false,.bool false,.bool false] HX0.out (show 3 < 4 by decide) Zk (fun w3 u3=>?_); have HX3:=Zh u3.box; have HS3:=Zh (u3.bx HS0.out Zo); have HP3:=Zh (u3.bx HP0.out Zo); have HQ3:=Zh (u3.bx HQ0.out Zo); have HB3:=Zh (HB0.out.trans (u3.bel _ Zo)); clear u3; have ls3:w.heap.size + 1 + 1 + 1 < w3.heap.size:=HX3.out.lt; have p0_3:=HS3.out.cell (k:=0) rfl; have p1_3:=HS3.out.cell (k:=1) rfl; have p2_3:=HS3.out.cell (k:=2) rfl)
  have YS:=Zh (show Bx w3 (w.heap.size) 27 #[.int .i64 (j:Int),.int .i64 x,.int .i64 y] from HS3.out);have YX:=Zh (show Bx w3 (w.heap.size + 1 + 1 + 1) 110 #[.bool false,.bool false,.bool false,.bool true] from HX3.out);have HKW:=Zh (HK.out.below HB3.out);refine wp_region_noPanic ?_;refine wp_region_held_drew (S:=fun w'=>Bx w' (w.heap.size) 27 #[.int .i64 (j:Int),.int .i64 x,.int .i64 y] /\ Bx w' (w.heap.size + 1 + 1 + 1) 110 #[.bool false,.bool false,.bool false,.bool true]) Zk ?_ (fun hHeld=>?_)
  ·exact ⟨YS.out.drew,YX.out.drew⟩
  refine Zt 0 (some 90) ?_;(try simp only [Zs]);refine Zt 1 (some 91) (v:=.agg #[.int .i64 (j:Int),.int .i64 x,.int .i64 y]) (hy:=fun w' hSw=>exec_load_box (w.heap.size) 27 #[.int .i64 (j:Int),.int .i64 x,.int .i64 y] _ w' rfl rfl hSw.1 Tryz.underlying27 rfl Zk) ?_;(try simp only [Zs]);refine Zt 3 (some 93) (v:=.agg #[.bool false,.bool false,.bool false,.bool true]) (hy:=fun w' hSw=>exec_load_box (w.heap.size + 1 + 1 + 1) 110 #[.bool false,.bool false,.bool false,.bool true] _ w' rfl rfl hSw.2 Tryz.underlying110 rfl Zk) ?_;(try simp only [Zs]);refine Zr 2 (some 92) fun K hK=>?_
  go_simp;(go_at_call 106; refine (CP _ (HKW.out.below (b_dr (Below.refl _ _)))).mono ?_; rintro e w7 ⟨rfl,hb7⟩);go_wp2_with fail;refine hK.out _ _ ⟨hHeld.1.below hb7,hHeld.2.below hb7⟩ (fun hHeld=>?_);clear hK K;(try simp only [Zs]);refine Zr 4 none fun K hK=>?_
  refine wp_store_any 27 _ _ rfl (w.heap.size + 1) #[.int .i64 i2,.int .i64 x2,.int .i64 y2] rfl rfl 27 #[.int .i64 0,.int .i64 0,.int .i64 0] (HP3.out.drew.below hb7) Zk rfl (one3 _ _ _) (fun w8 u=>?_);refine hK.out _ _ ⟨u.bx hHeld.1 Zo,u.bx hHeld.2 Zo⟩ (fun hHeld=>?_);clear hK K;(try simp only [Act.put]);refine Zr 5 none fun K hK=>?_
  refine wp_store_any 110 _ _ rfl (w.heap.size + 1 + 1) #[.bool false,.bool false,.bool false,.bool true] rfl rfl 110 #[.bool false,.bool false,.bool false,.bool false] (u.bx (HQ3.out.drew.below hb7) Zo) Zk rfl (oneb _ _ _ _) (fun w9 u2=>?_);refine hK.out _ _ ⟨u2.bx hHeld.1 Zo,u2.bx hHeld.2 Zo⟩ (fun hHeld=>?_);clear hK K;(try simp only [Act.put]);refine wpAnyH_done Zk ?_ _;refine NoPanic.normal ?_;go_wp2_with fail;refine bodyPost_ret (results_boxes Tryz.results65 _ _ (w.heap.size + 1) (w.heap.size + 1 + 1) 27 110 #[.int .i64 i2,.int .i64 x2,.int .i64 y2] #[.bool false,.bool false,.bool false,.bool true] _ _ rfl (u2.bx u.box Zo) rfl u2.box Tryz.underlying27 rfl Zk Tryz.underlying110 rfl Zk) rfl ⟨rfl,?_⟩;have hbd:=b_dr (b_dr HB3.out);exact ((b_cl (b_dr HB3.out) Zl hb7).trans (u.bel _ Zo)).trans (u2.bel _ Zo)
 ·have E3:b3 ((j:Int),x,y) k = false:=by unfold b3; exact decide_eq_false (fun c=>hy c.1)
  have hy':y <= 0:=by omega
  clear fend hy;rw [E0,E1,E2,E3,go_stay (s:=((j:Int),x,y)) (fun c=>k3 c.1) (fun c=>k2 c.1)];have NR:Near l ((j:Int),x,y):=fit.near;have CP:=fun W (h:RdK W A l)=>refpast19_any A n c l hn (j:Int) (x) (y) W h Zo ok NR
  obtain ⟨⟨i2,x2,y2⟩,hP⟩:∃ P,pastT l ((j:Int),x,y) = P:=⟨_,rfl⟩
  try simp only at ⊢
  rw [hP] at CP ⊢;unfold sp3 at CP ⊢;simp only at CP ⊢;clear k3 k2;clear E0 E1 E2 E3 NR hP ok few fit h i0 i1 hn;have S0:Bx ((((w.alloc (.cells #[.int .i64 (j:Int),.int .i64 x,.int .i64 y] 27)).alloc (.cells #[.int .i64 0,.int .i64 0,.int .i64 0] 27)).alloc (.cells #[.bool false,.bool false,.bool false,.bool false] 110)).alloc (.cells #[.bool false,.bool false,.bool false,.bool false] 110)) (w.heap.size) 27 #[.int .i64 (j:Int),.int .i64 x,.int .i64 y]:=(((Bx.new (W:=w) _ _ rfl).alloc _).alloc _).alloc _;have P0:Bx ((((w.alloc (.cells #[.int .i64 (j:Int),.int .i64 x,.int .i64 y] 27)).alloc (.cells #[.int .i64 0,.int .i64 0,.int .i64 0] 27)).alloc (.cells #[.bool false,.bool false,.bool false,.bool false] 110)).alloc (.cells #[.bool false,.bool false,.bool false,.bool false] 110)) (w.heap.size + 1) 27 #[.int .i64 0,.int .i64 0,.int .i64 0]:=((Bx.new (W:=w.alloc (.cells #[.int .i64 (j:Int),.int .i64 x,.int .i64 y] 27)) _ _ (by simp)).alloc _).alloc _;have Q0:Bx ((((w.alloc (.cells #[.int .i64 (j:Int),.int .i64 x,.int .i64 y] 27)).alloc (.cells #[.int .i64 0,.int .i64 0,.int .i64 0] 27)).alloc (.cells #[.bool false,.bool false,.bool false,.bool false] 110)).alloc (.cells #[.bool false,.bool false,.bool false,.bool false] 110)) (w.heap.size + 1 + 1) 110 #[.bool false,.bool false,.bool false,.bool false]:=(Bx.new (W:=(w.alloc (.cells #[.int .i64 (j:Int),.int .i64 x,.int .i64 y] 27)).alloc (.cells #[.int .i64 0,.int .i64 0,.int .i64 0] 27)) _ _ (by simp)).alloc _;have X0:Bx ((((w.alloc (.cells #[.int .i64 (j:Int),.int .i64 x,.int .i64 y] 27)).alloc (.cells #[.int .i64 0,.int .i64 0,.int .i64 0] 27)).alloc (.cells #[.bool false,.bool false,.bool false,.bool false] 110)).alloc (.cells #[.bool false,.bool false,.bool false,.bool false] 110)) (w.heap.size + 1 + 1 + 1) 110 #[.bool false,.bool false,.bool false,.bool false]:=Bx.new (W:=((w.alloc (.cells #[.int .i64 (j:Int),.int .i64 x,.int .i64 y] 27)).alloc (.cells #[.int .i64 0,.int .i64 0,.int .i64 0] 27)).alloc (.cells #[.bool false,.bool false,.bool false,.bool false] 110)) _ _ (by simp);have B0:Below w.heap.size w ((((w.alloc (.cells #[.int .i64 (j:Int),.int .i64 x,.int .i64 y] 27)).alloc (.cells #[.int .i64 0,.int .i64 0,.int .i64 0] 27)).alloc (.cells #[.bool false,.bool false,.bool false,.bool false] 110)).alloc (.cells #[.bool false,.bool false,.bool false,.bool false] 110)):=Zq;have HS0:=Zh S0;have HP0:=Zh P0;have HQ0:=Zh Q0;have HX0:=Zh X0;have HB0:=Zh B0;clear S0 P0 Q0 X0 B0;go_enter Tryz.func65,Tryz.ntmps65;go_upto_region 14 with (refine wpList_store_fld Zv 4 (.tmp 24) (.tmp 23) rfl (w.heap.size + 1 + 1 + 1) 3 (.bool false) rfl rfl rfl 110 #[.bool false,.bool false,.bool false,.bool false] HX0.out (show 3 < 4 by decide) Zk (fun w3 u3=>?_); have HX3:=Zh u3.box; have HS3:=Zh (u3.bx HS0.out Zo); have HP3:=Zh (u3.bx HP0.out Zo); have HQ3:=Zh (u3.bx HQ0.out Zo); have HB3:=Zh (HB0.out.trans (u3.bel _ Zo)); clear u3; have ls3:w.heap.size + 1 + 1 + 1 < w3.heap.size:=HX3.out.lt; have p0_3:=HS3.out.cell (k:=0) rfl; have p1_3:=HS3.out.cell (k:=1) rfl; have p2_3:=HS3.out.cell (k:=2) rfl)
  have YS:=Zh (show Bx w3 (w.heap.size) 27 #[.int .i64 (j:Int),.int .i64 x,.int .i64 y] from HS3.out);have YX:=Zh (show Bx w3 (w.heap.size + 1 + 1 + 1) 110 #[.bool false,.bool false,.bool false,.bool false] from HX3.out);have HKW:=Zh (HK.out.below HB3.out);refine wp_region_noPanic ?_;refine wp_region_held_drew (S:=fun w'=>Bx w' (w.heap.size) 27 #[.int .i64 (j:Int),.int .i64 x,.int .i64 y] /\ Bx w' (w.heap.size + 1 + 1 + 1) 110 #[.bool false,.bool false,.bool false,.bool false]) Zk ?_ (fun hHeld=>?_)
  ·exact ⟨YS.out.drew,YX.out.drew⟩
  refine Zt 0 (some 90) ?_;(try simp only [Zs]);refine Zt 1 (some 91) (v:=.agg #[.int .i64 (j:Int),.int .i64 x,.int .i64 y]) (hy:=fun w' hSw=>exec_load_box (w.heap.size) 27 #[.int .i64 (j:Int),.int .i64 x,.int .i64 y] _ w' rfl rfl hSw.1 Tryz.underlying27 rfl Zk) ?_;(try simp only [Zs]);refine Zt 3 (some 93) (v:=.agg #[.bool false,.bool false,.bool false,.bool false]) (hy:=fun w' hSw=>exec_load_box (w.heap.size + 1 + 1 + 1) 110 #[.bool false,.bool false,.bool false,.bool false] _ w' rfl rfl hSw.2 Tryz.underlying110 rfl Zk) ?_;(try simp only [Zs]);refine Zr 2 (some 92) fun K hK=>?_
  go_simp;(go_at_call 106; refine (CP _ (HKW.out.below (b_dr (Below.refl _ _)))).mono ?_; rintro e w7 ⟨rfl,hb7⟩);go_wp2_with fail;refine hK.out _ _ ⟨hHeld.1.below hb7,hHeld.2.below hb7⟩ (fun hHeld=>?_);clear hK K;(try simp only [Zs]);refine Zr 4 none fun K hK=>?_
  refine wp_store_any 27 _ _ rfl (w.heap.size + 1) #[.int .i64 i2,.int .i64 x2,.int .i64 y2] rfl rfl 27 #[.int .i64 0,.int .i64 0,.int .i64 0] (HP3.out.drew.below hb7) Zk rfl (one3 _ _ _) (fun w8 u=>?_);refine hK.out _ _ ⟨u.bx hHeld.1 Zo,u.bx hHeld.2 Zo⟩ (fun hHeld=>?_);clear hK K;(try simp only [Act.put]);refine Zr 5 none fun K hK=>?_
  refine wp_store_any 110 _ _ rfl (w.heap.size + 1 + 1) #[.bool false,.bool false,.bool false,.bool false] rfl rfl 110 #[.bool false,.bool false,.bool false,.bool false] (u.bx (HQ3.out.drew.below hb7) Zo) Zk rfl (oneb _ _ _ _) (fun w9 u2=>?_);refine hK.out _ _ ⟨u2.bx hHeld.1 Zo,u2.bx hHeld.2 Zo⟩ (fun hHeld=>?_);clear hK K;(try simp only [Act.put]);refine wpAnyH_done Zk ?_ _;refine NoPanic.normal ?_;go_wp2_with fail;refine bodyPost_ret (results_boxes Tryz.results65 _ _ (w.heap.size + 1) (w.heap.size + 1 + 1) 27 110 #[.int .i64 i2,.int .i64 x2,.int .i64 y2] #[.bool false,.bool false,.bool false,.bool false] _ _ rfl (u2.bx u.box Zo) rfl u2.box Tryz.underlying27 rfl Zk Tryz.underlying110 rfl Zk) rfl ⟨rfl,?_⟩;have hbd:=b_dr (b_dr HB3.out);exact ((b_cl (b_dr HB3.out) Zl hb7).trans (u.bel _ Zo)).trans (u2.bel _ Zo)
theorem refstep19_any (A:Option Addr) (n c:Nat) (l:List Tk) (hn:l.length = n) (i x y m k:Int) (w:World) (h:RdK w A l) (few:Few l) (hl:n <= 2001) (ok:∀ t ∈ l,TkOk t) (fit:Fits l (i,x,y)) :
  Calls Tryz.prog 65 #[.slice A n c,.agg #[.int .i64 i,.int .i64 x,.int .i64 y],.int .i64 m,.int .i64 k] w fun e w'=>e = .returned (.tuple #[.agg (sp3 (stepT l (i,x,y) k)),.agg #[.bool (b0 l (i,x,y) k),.bool (b1 l (i,x,y) k),.bool (b2 l (i,x,y) m k),.bool (b3 (i,x,y) k)]]) /\ Below w.heap.size w w':=by
 by_cases k3:k = 3
 ·subst k3; exact refstep_drive A n c l hn i x y m w h few hl ok fit
 ·by_cases k2:k = 2
  ·subst k2; exact refstep_work A n c l hn i x y m w h few hl ok fit
  ·exact refstep_rest A n c l hn i x y m k w h few hl ok fit k3 k2
set_option maxRecDepth 20000 in
set_option maxHeartbeats 2000000 in
theorem rchk20_any (A:Option Addr) (n c:Nat) (l:List Tk) (hn:l.length = n) (i x y:Int) (A':Option Addr) (n' c':Nat) (r:List Rc) (hn':r.length = n') (w:World) (h:RdK w A l) (hf:Few l) (hr:RdR w A' r) (hl:n' <= 4611686018427387904) :
  Calls Tryz.prog 64 #[.slice A n c,.agg #[.int .i64 i,.int .i64 x,.int .i64 y],.slice A' n' c'] w fun e w'=>e = .returned (.int .i64 (checkE l (i,x,y) r)) /\ Below w.heap.size w w':=by
 have HS0:=Zh (show Bx (w.alloc (.cells #[.int .i64 i,.int .i64 x,.int .i64 y] 27)) w.heap.size 27 #[.int .i64 i,.int .i64 x,.int .i64 y] from Bx.new (W:=w) _ _ rfl);have HB0:=Zh (show Below w.heap.size w (w.alloc (.cells #[.int .i64 i,.int .i64 x,.int .i64 y] 27)) from Zq);have C1:=fun W (h:RdK W A l)=>refcheck19_any A n c l hn W h hf
 have C2:=fun W (h:RdK W A l)=>reffits19_any A n c l hn i x y W h
 have C3:=fun W (h:RdR W A' r)=>refrcheck_any A' c' r W h Zo
 rw [hn'] at C3;have HK:=Zh h;have HR:=Zh hr;obtain ⟨k1,hk1⟩:∃ k1,checkT l = k1:=⟨_,rfl⟩;obtain ⟨k2,hk2⟩:∃ k2,(checkV r).2 = k2:=⟨_,rfl⟩;obtain ⟨k3,hk3⟩:∃ k3,(checkV r).1 = k3:=⟨_,rfl⟩;rw [hk1] at C1;rw [hk2,hk3] at C3;by_cases h1:k1 = 0
 ·by_cases h2:Fits l (i,x,y)
  ·have e:checkE l (i,x,y) r = k2:=by unfold checkE; rw [if_pos (spot_yes (hk1.trans h1) h2),hk2]
   rw [e];rw [decide_eq_true h2] at C2;have g1:(k1 != 0) = false:=by simp [h1]
   clear h hr hn hn' hk1 hk2 hk3 h1 h2 e hf;go_enter Tryz.func64,Tryz.ntmps64;go_upto_region 1 with fail
   generalize (w.alloc (.cells #[.int .i64 i,.int .i64 x,.int .i64 y] 27)) = W0 at *;go_wp2_with (first | (go_at_call 56; refine (C1 _ (HK.out.below HB0.out)).mono ?_; rintro e w1 ⟨rfl,hb1⟩; have HS1:=Zh (HS0.out.below hb1); have HB1:=Zh (b_cl HB0.out Zl hb1); clear hb1) | (refine wpList_load_box Zv 27 _ rfl w.heap.size rfl 27 #[.int .i64 i,.int .i64 x,.int .i64 y] _ HS1.out Tryz.underlying27 rfl size_spot ?_) | (go_at_call 57; refine (C2 _ (HK.out.below HB1.out)).mono ?_; rintro e w2 ⟨rfl,hb2⟩; have HB2:=Zh (b_cl HB1.out Zl hb2); clear hb2) | (go_at_call 58; refine (C3 _ (HR.out.below HB2.out)).mono ?_; rintro e w3 ⟨rfl,hb3⟩; have HB3:=Zh (b_cl HB2.out Zl hb3); clear hb3));go_ret;exact ⟨rfl,HB3.out⟩
  ·have e:checkE l (i,x,y) r = 1:=by
    have:=spot_no (hk1.trans h1) h2;unfold checkE; rw [this,if_neg Zd]
   rw [e]
   rw [decide_eq_false h2] at C2
   have g1:(k1 != 0) = false:=by simp [h1]
   clear h hr hn hn' hk1 hk2 hk3 h1 h2 e hf
   go_enter Tryz.func64,Tryz.ntmps64
   go_upto_region 1 with fail
   generalize (w.alloc (.cells #[.int .i64 i,.int .i64 x,.int .i64 y] 27)) = W0 at *
   go_wp2_with (first | (go_at_call 56; refine (C1 _ (HK.out.below HB0.out)).mono ?_; rintro e w1 ⟨rfl,hb1⟩; have HS1:=Zh (HS0.out.below hb1); have HB1:=Zh (b_cl HB0.out Zl hb1); clear hb1) | (refine wpList_load_box Zv 27 _ rfl w.heap.size rfl 27 #[.int .i64 i,.int .i64 x,.int .i64 y] _ HS1.out Tryz.underlying27 rfl size_spot ?_) | (go_at_call 57; refine (C2 _ (HK.out.below HB1.out)).mono ?_; rintro e w2 ⟨rfl,hb2⟩; have HB2:=Zh (b_cl HB1.out Zl hb2); clear hb2))
   go_ret
   exact ⟨rfl,HB2.out⟩
 ·have e:checkE l (i,x,y) r = k1:=by
   have:=spot_bad (s:=(i,x,y)) hk1 h1;unfold checkE; rw [this,if_neg h1]
  rw [e]
  have g1:(k1 != 0) = true:=by simp [h1]
  clear h hr hn hn' hk1 hk2 hk3 h1 e hf
  go_enter Tryz.func64,Tryz.ntmps64
  go_upto_region 1 with fail
  generalize (w.alloc (.cells #[.int .i64 i,.int .i64 x,.int .i64 y] 27)) = W0 at *
  go_wp2_with (go_at_call 56; refine (C1 _ (HK.out.below HB0.out)).mono ?_; rintro e w1 ⟨rfl,hb1⟩; have HS1:=Zh (HS0.out.below hb1); have HB1:=Zh (b_cl HB0.out Zl hb1); clear hb1)
  go_ret
  exact ⟨rfl,HB1.out⟩
theorem bool4_one (a b c d:Bool):(#[.bool a,.bool b,.bool c,.bool d]:Array Value).all (·.oneCell') = true:=by simp [Value.oneCell']
theorem OwnN.chg {base g:Nat} {t:TypeId} {cs:Array Value} {w w':World} {v:Value} {l:List Int} (h:OwnN base w v l) (u:Chg w g t cs w') (hg:g < base):OwnN base w' v l :=
 row_block h fun k hk=>u.other k (by have:=(World.ownsRow.lt h k hk).1; omega) (World.ownsRow.lt h k hk).2
structure Chg2 (W:World) (g:Nat) (t:TypeId) (cs:Array Value) (h:Nat) (s:TypeId) (ds:Array Value) (W':World):Prop where
 size:W.heap.size <= W'.heap.size
 os:W'.os = W.os
 tape:W'.tape = W.tape
 output:W'.output = W.output
 box1:Bx W' g t cs
 box2:Bx W' h s ds
 other:∀ k,k ≠ g -> k ≠ h -> k < W.heap.size -> W'.heap[k]? = W.heap[k]?
theorem Chg2.below {W:World} {g:Nat} {t:TypeId} {cs:Array Value} {h:Nat} {s:TypeId} {ds:Array Value} {W1 W2:World} (c:Chg2 W g t cs h s ds W1) (hb:Below W1.heap.size W1 W2):Chg2 W g t cs h s ds W2 :=
 ⟨Nat.le_trans c.size hb.size,hb.os.trans c.os,hb.tape.trans c.tape,hb.output.trans c.output,c.box1.below hb,c.box2.below hb,fun k a b d=>(hb.block k (Nat.lt_of_lt_of_le d c.size)).trans (c.other k a b d)⟩
theorem Chg2.upd1 {W:World} {g:Nat} {t:TypeId} {cs cs':Array Value} {h:Nat} {s:TypeId} {ds:Array Value} {W1 W2:World} (c:Chg2 W g t cs h s ds W1) (u:Upd W1 g t cs' W2) (hn:h ≠ g):Chg2 W g t cs' h s ds W2 :=
 ⟨by rw [u.size]; exact c.size,(u.bel 0 (Nat.zero_le _)).os.trans c.os,(u.bel 0 (Nat.zero_le _)).tape.trans c.tape,(u.bel 0 (Nat.zero_le _)).output.trans c.output,u.box,u.bx c.box2 hn,fun k a b d=>(u.other k a).trans (c.other k a b d)⟩
theorem Chg2.upd2 {W:World} {g:Nat} {t:TypeId} {cs:Array Value} {h:Nat} {s:TypeId} {ds ds':Array Value} {W1 W2:World} (c:Chg2 W g t cs h s ds W1) (u:Upd W1 h s ds' W2) (hn:g ≠ h):Chg2 W g t cs h s ds' W2 :=
 ⟨by rw [u.size]; exact c.size,(u.bel 0 (Nat.zero_le _)).os.trans c.os,(u.bel 0 (Nat.zero_le _)).tape.trans c.tape,(u.bel 0 (Nat.zero_le _)).output.trans c.output,u.bx c.box1 hn,u.box,fun k a b d=>(u.other k b).trans (c.other k a b d)⟩
theorem Chg2.bel {W:World} {g:Nat} {t:TypeId} {cs:Array Value} {h:Nat} {s:TypeId} {ds:Array Value} {W':World} (c:Chg2 W g t cs h s ds W') {n:Nat} (hg:n <= g) (hh:n <= h) (hn:n <= W.heap.size):Below n W W' :=
 ⟨c.os,c.tape,c.output,c.size,fun k a=>c.other k Zo Zo Zo⟩
theorem Chg2.bx {W:World} {g:Nat} {t:TypeId} {cs:Array Value} {h:Nat} {s:TypeId} {ds:Array Value} {W':World} (c:Chg2 W g t cs h s ds W') {q:Nat} {y:TypeId} {es:Array Value} (b:Bx W q y es) (hg:q ≠ g) (hh:q ≠ h):Bx W' q y es:=(c.other q hg hh b.lt).trans b
theorem OwnN.chg2 {W:World} {g:Nat} {t:TypeId} {cs:Array Value} {h:Nat} {s:TypeId} {ds:Array Value} {W':World} (c:Chg2 W g t cs h s ds W') {base:Nat} {v:Value} {l:List Int} (o:OwnN base W v l) (hg:g < base) (hh:∀ k,v.ownBlock = some k -> k ≠ h):OwnN base W' v l :=
 row_block o fun k hk=>c.other k (by have:=(World.ownsRow.lt o k hk).1; omega) (hh k hk) (World.ownsRow.lt o k hk).2
def bget (b:Bool × Bool × Bool × Bool) (c:Nat):Bool:=if c = 0 then b.1 else if c = 1 then b.2.1 else if c = 2 then b.2.2.1 else b.2.2.2
def noteN (F:Fs) (b:Bool × Bool × Bool × Bool) (m:Int) (c:Nat):Fs :=
 (if 0 < c then noteF F.1 b.1 m else F.1,if 1 < c then noteF F.2.1 b.2.1 m else F.2.1,if 2 < c then noteF F.2.2.1 b.2.2.1 m else F.2.2.1,if 3 < c then noteF F.2.2.2 b.2.2.2 m else F.2.2.2)
theorem noteN_zero (F:Fs) (b:Bool × Bool × Bool × Bool) (m:Int):noteN F b m 0 = F:=rfl
theorem noteN_four (F:Fs) (b:Bool × Bool × Bool × Bool) (m:Int):noteN F b m 4 = (noteF F.1 b.1 m,noteF F.2.1 b.2.1 m,noteF F.2.2.1 b.2.2.1 m,noteF F.2.2.2 b.2.2.2 m):=rfl
theorem four {c:Nat} (h:c < 4):c = 0 ∨ c = 1 ∨ c = 2 ∨ c = 3:=by omega
theorem noteN_at (F:Fs) (b:Bool × Bool × Bool × Bool) (m:Int) {c:Nat} (h:c < 4):fget (noteN F b m c) c = fget F c:=by
 rcases four h with rfl | rfl | rfl | rfl <;> rfl
theorem noteN_skip (F:Fs) (b:Bool × Bool × Bool × Bool) (m:Int) {c:Nat} (h:c < 4) (hs:¬ (bget b c = true /\ fget F c < 0)):noteN F b m (c + 1) = noteN F b m c:=by
 rcases four h with rfl | rfl | rfl | rfl
 ·have:noteF F.1 b.1 m = F.1:=if_neg hs
  unfold noteN; simp [this]
 ·have:noteF F.2.1 b.2.1 m = F.2.1:=if_neg hs
  unfold noteN; simp [this]
 ·have:noteF F.2.2.1 b.2.2.1 m = F.2.2.1:=if_neg hs
  unfold noteN; simp [this]
 ·have:noteF F.2.2.2 b.2.2.2 m = F.2.2.2:=if_neg hs
  unfold noteN; simp [this]
theorem noteN_set (F:Fs) (b:Bool × Bool × Bool × Bool) (m:Int) {c:Nat} (h:c < 4) (hs:bget b c = true /\ fget F c < 0):(fs4 (noteN F b m c)).setIfInBounds c (.int .i64 m) = fs4 (noteN F b m (c + 1)):=by
 rcases four h with rfl | rfl | rfl | rfl
 ·have:noteF F.1 b.1 m = m:=if_pos hs
  unfold noteN; simp [this,fs4]
 ·have:noteF F.2.1 b.2.1 m = m:=if_pos hs
  unfold noteN; simp [this,fs4]
 ·have:noteF F.2.2.1 b.2.2.1 m = m:=if_pos hs
  unfold noteN; simp [this,fs4]
 ·have:noteF F.2.2.2 b.2.2.2 m = m:=if_pos hs
  unfold noteN; simp [this,fs4]
theorem fs4_at (F:Fs) {c:Nat} (h:c < 4):(fs4 F)[c]? = some (.int .i64 (fget F c)):=by
 rcases four h with rfl | rfl | rfl | rfl <;> rfl
theorem bl4_at (b0 b1 b2 b3:Bool) {c:Nat} (h:c < 4):(#[.bool b0,.bool b1,.bool b2,.bool b3]:Array Value)[c]? = some (.bool (bget (b0,b1,b2,b3) c)):=by
 rcases four h with rfl | rfl | rfl | rfl <;> rfl
theorem runS_more {l:List Tk} {ks:List Int} {k:Nat} {x m:Int} {st:Pt × Fs} (hx:ks[k]? = some x):runS l (ks.take (k + 1)) m st = minT l x (m + k) (runS l (ks.take k) m st):=by
 have hk:=(List.getElem?_eq_some_iff.1 hx).1;rw [List.take_add_one,hx,Option.toList_some,runS_append,List.length_take,Nat.min_eq_left Zo];rfl
theorem outG_yes {F:Fs} {c:Nat} (h:c < 4) (h0:0 <= fget F c):outG (GF F) (c + 1) = outG (GF F) c ++ [(((10 + c:Nat):Int),fget F c,fget F c + 1)]:=by
 have e:GF F c = some (fget F c):=by unfold GF; rw [if_pos ⟨h,h0⟩]
 show outG (GF F) c ++ _ = _
 rw [e]
theorem outG_no {F:Fs} {c:Nat} (h0:¬ 0 <= fget F c):outG (GF F) (c + 1) = outG (GF F) c:=by
 have e:GF F c = none:=by unfold GF; rw [if_neg (fun k=>h0 k.2)]
 show outG (GF F) c ++ _ = _
 rw [e,List.append_nil]
theorem outG_congr {G H:Gs}:∀ {n:Nat},(∀ c,c < n -> G c = H c) -> outG G n = outG H n
 | 0,_=>rfl
 | n + 1,h=>by
  unfold outG;rw [outG_congr fun c hc=>h c Zo,h n Zo]
theorem outG_all {l:List Tk} {r:List Rc} {X:Pt × Fs}:outG (allG l r X) 5 = outG (GF X.2) 4 ++ (if X.1.1 < l.length then [(14,lastT r,lastT r + 1)] else []):=by
 have e:outG (allG l r X) 4 = outG (GF X.2) 4:=outG_congr fun c hc=>by unfold allG; rw [if_neg Zo]
 show outG (allG l r X) 4 ++ _ = _
 rw [e];unfold allG;rw [if_pos rfl];by_cases h:X.1.1 < l.length
 ·rw [if_pos h,if_pos h]
  rfl
 ·rw [if_neg h,if_neg h]
end Go.Proofs.YtiamnbddbmgffaaGreatDoor
